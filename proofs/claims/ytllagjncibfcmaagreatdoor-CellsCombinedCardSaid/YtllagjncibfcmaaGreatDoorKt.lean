/- Cells in their normal form. -/
import Derived.Test.YtllagjncibfcmaaGreatDoorKs
set_option linter.unusedSimpArgs false
set_option linter.unusedVariables false
namespace Go.Proofs.YtllagjncibfcmaaGreatDoor
open Go.RowKit Go.Maps

/-- Cells in a block. -/
def TrimE (w0 : World) (s3 : Value) (wx : World) : Prop :=
  ∃ T ez ex ey ea en ec eR eE, s3 = .pointer (some ⟨T, 0, none⟩) ∧ (wx.cell? ⟨T, 0, none⟩ = some (.int .i64 ez) ∧ wx.cell? ⟨T, 1, none⟩ = some (.int .i64 ex) ∧ wx.cell? ⟨T, 2, none⟩ = some (.int .i64 ey) ∧ wx.cell? ⟨T, 3, none⟩ = some (.slice ea en ec)) ∧
    (∃ P s, CellsAre P s eE ez ex ey en eR) ∧ RowS wx ea en eR ∧ (∀ i, i < en → (eR i).length ≤ 200) ∧ en ≤ ec ∧ (∀ b off, ea = some ⟨b, off, none⟩ → w0.heap.size ≤ b) ∧ Below w0.heap.size w0 wx
/-- Some cells. -/
def SomeCells (B : Nat) (w : World) (e : Ending) (w' : World) : Prop :=
  ∃ z x y a n c R, e = .returned (.agg #[.int .i64 z, .int .i64 x, .int .i64 y, .slice a n c]) ∧ RowS w' a n R ∧ (∀ i, i < n → (R i).length ≤ 1000) ∧ n ≤ 1000000 ∧ Below B w w'
set_option maxRecDepth 100000 in
set_option maxHeartbeats 16000000 in
theorem trimmedRef_any (s x y : Int) (a : Option Addr) (n c : Nat) (R : Nat → List UInt8) (w : World) (cx cy : Int) (hr : RowS w a n R) (hok : ∀ i, i < n → okR (R i) = true) (hl : ∀ i, i < n → (R i).length ≤ 1000) (hn : n ≤ 1000) (hs : 2 ≤ s ∧ s ≤ 10000) (hx : -2000000 ≤ x ∧ x ≤ 2000000) (hy : -2000000 ≤ y ∧ y ≤ 2000000) (hcx : x.tdiv s = cx) (hcy : y.tdiv s = cy) :
    Calls Tryz.prog 18 #[.agg #[.int .i64 s, .int .i64 x, .int .i64 y, .slice a n c]] w (SomeCells w.heap.size w) := by
  have bcx : -2000000 ≤ cx ∧ cx ≤ 2000000 := by have := Int.natAbs_tdiv_le_natAbs x s; rw [hcx] at this; omega
  have bcy : -2000000 ≤ cy ∧ cy ≤ 2000000 := by have := Int.natAbs_tdiv_le_natAbs y s; rw [hcy] at this; omega
  have HSM := Lib.hid (set_smx (cx := cx) (cy := cy) (n := n) (R := R) (by omega) (by omega) hn hl)
  have HSET : ∀ w : World, RowS w a n R → Calls Tryz.prog 36 #[.agg #[.int .i64 s, .int .i64 x, .int .i64 y, .slice a n c]] w (SetE w (setL cx cy R n) 1000000) := fun w hr => by
    rcases hr with h | ⟨b, off, rfl, hb, hs_⟩
    · subst h; exact setOf_zero s x y a c w
    · exact setOf_any s x y b off n c R w hb hs_ hok hl hn hs.1 hx hy cx cy hcx hcy
  have HR0 := Lib.hid hr
  clear hr hok hl hcx hcy
  go_enter Tryz.func18, Tryz.ntmps18
  go_wp2_with (fail)
  have HW : Hid (Below w.heap.size w ((w.alloc (.cells #[.int .i64 s, .int .i64 x, .int .i64 y, .slice a n c] 28)).alloc (.cells #[.int .i64 0, .int .i64 0, .int .i64 0, .slice none 0 0] 28))) := Lib.hid (by repeat (first | exact Below.refl _ _ | assumption | refine Below.drew ?_ | refine bdrewN ?_ _ | refine Below.setCell ?_ (by first | omega | (simp <;> omega)) _ | refine Below.alloc ?_ (by first | omega | (simp <;> omega)) _))
  have HA : Hid (((w.alloc (.cells #[.int .i64 s, .int .i64 x, .int .i64 y, .slice a n c] 28)).alloc (.cells #[.int .i64 0, .int .i64 0, .int .i64 0, .slice none 0 0] 28)).heap[w.heap.size]? = some (.cells #[.int .i64 s, .int .i64 x, .int .i64 y, .slice a n c] 28 (0, 0))) := Lib.hid ((Below.heap_alloc _ _ _ (by simp)).trans (heap_new rfl))
  have HZ : Hid (((w.alloc (.cells #[.int .i64 s, .int .i64 x, .int .i64 y, .slice a n c] 28)).alloc (.cells #[.int .i64 0, .int .i64 0, .int .i64 0, .slice none 0 0] 28)).heap[w.heap.size + 1]? = some (.cells #[.int .i64 0, .int .i64 0, .int .i64 0, .slice none 0 0] 28 (0, 0))) := Lib.hid (heap_new (by simp))
  have HR := Lib.hid (HR0.out.kept HW.out)
  generalize ((w.alloc (.cells #[.int .i64 s, .int .i64 x, .int .i64 y, .slice a n c] 28)).alloc (.cells #[.int .i64 0, .int .i64 0, .int .i64 0, .slice none 0 0] 28)) = w0 at *
  go_cut [3, 4] from 5 to 13 (fun s3 _ wx => TrimE w0 s3 wx)
  case first =>
    refine wp_region_held_drew (S := (fun w' : World => w'.heap[w.heap.size]? = some (.cells #[.int .i64 s, .int .i64 x, .int .i64 y, .slice a n c] 28 (0, 0)))) (by kernel_rfl) HA.out (fun hHeld => ?_)
    have HT : Hid (Below w0.heap.size w0 w0.drew) := Lib.hid (Below.refl _ _).drew
    clear hHeld
    generalize w0.drew = d0 at *
    refine tkH (heap_keep HT.out HA.out) 0 (oi := ?_) (v := ?_) ?_ ?_ ?_ ?_ ?_ ?_ ?_ ?_; rotate_left 2; (simp only [gA, gB, gC]; exact rfl); kernel_rfl; kernel_rfl; kernel_rfl; exact fun _ _ _ h => h; rfl; (intro w' hSw; have z0 := cell_of (i := 0) hSw rfl; have z1 := cell_of (i := 1) hSw rfl; have z2 := cell_of (i := 2) hSw rfl; have z3 := cell_of (i := 3) hSw rfl; clear hSw; go_simp; with_reducible rfl); simp only [Act.put, pB, pC, pD]
    refine tkH (heap_keep HT.out HA.out) 2 (oi := ?_) (v := ?_) ?_ ?_ ?_ ?_ ?_ ?_ ?_ ?_; rotate_left 2; (simp only [gA, gB, gC]; exact rfl); kernel_rfl; kernel_rfl; kernel_rfl; exact fun _ _ _ h => h; rfl; (intro w' hSw; go_simp; with_reducible rfl); simp only [Act.put, pB, pC, pD]
    refine tkH (heap_keep HT.out HA.out) 3 (oi := ?_) (v := ?_) ?_ ?_ ?_ ?_ ?_ ?_ ?_ ?_; rotate_left 2; (simp only [gA, gB, gC]; exact rfl); kernel_rfl; kernel_rfl; kernel_rfl; exact fun _ _ _ h => h; rfl; (intro w' hSw; have z0 := cell_of (i := 0) hSw rfl; have z1 := cell_of (i := 1) hSw rfl; have z2 := cell_of (i := 2) hSw rfl; have z3 := cell_of (i := 3) hSw rfl; clear hSw; go_simp; with_reducible rfl); simp only [Act.put, pB, pC, pD]
    refine wpAnyH_ready (rs := [1, 8]) (by kernel_rfl) (by simp) ?_
    refine coH 1 (oi := ?_) ?_ ?_ (fun K hK => ?_) ?_; rotate_left; (simp only [gA, gB, gC]; exact rfl); rfl
    ·
     go_wp2_with (fail)
     refine (HSET _ (HR.out.kept HT.out)).mono ?_
     rintro e d1 ⟨bm, nn, rfl, -, -, hown, hb⟩
     have HM := Lib.hid hown
     clear hown
     go_wp2_with (fail)
     replace HT := Lib.hid (HT.out.trans (hb.mono HT.out.size))
     clear hb
     refine hK.out _ _ (heap_keep HT.out HA.out) (fun hHeld => ?_)
     clear hK K hHeld
     try simp only [Act.put, pB, pC, pD]
     refine wpAnyH_ready (rs := [4, 8]) (by kernel_rfl) (by simp) ?_
     refine coH 4 (oi := ?_) ?_ ?_ (fun K hK => ?_) ?_; rotate_left; (simp only [gA, gB, gC]; exact rfl); rfl
     ·
      go_wp2_with (fail)
      refine (cellsOf_any bm nn _ s _ HM.out HSM.out hs).mono ?_
      rintro e d2 ⟨ez, ex, ey, ea, en, ec, eR, eE, rfl, hare, hrow, hfr, hn1, hn2, hn3, hb⟩
      have HARE := Lib.hid hare
      have HROW := Lib.hid hrow
      have HN3 := Lib.hid hn3
      have HFX := Lib.hid (fun b off h => Nat.le_trans HT.out.size (hfr b off h))
      clear hare hrow hfr hn3
      go_wp2_with (fail)
      replace HT := Lib.hid (HT.out.trans (hb.mono HT.out.size))
      replace HM := Lib.hid (own_below HM.out hb)
      clear hb
      refine hK.out _ _ (heap_keep HT.out HA.out) (fun hHeld => ?_)
      clear hK K hHeld
      try simp only [Act.put, pB, pC, pD]
      refine tkH (heap_keep HT.out HA.out) 5 (oi := ?_) (v := ?_) ?_ ?_ ?_ ?_ ?_ ?_ ?_ ?_; rotate_left 2; (simp only [gA, gB, gC]; exact rfl); kernel_rfl; kernel_rfl; kernel_rfl; exact fun _ _ _ h => h; rfl; (intro w' hSw; go_simp; with_reducible rfl); simp only [Act.put, pB, pC, pD]
      refine tkH (heap_keep HT.out HA.out) 6 (oi := ?_) (v := ?_) ?_ ?_ ?_ ?_ ?_ ?_ ?_ ?_; rotate_left 2; (simp only [gA, gB, gC]; exact rfl); kernel_rfl; kernel_rfl; kernel_rfl; exact fun _ _ _ h => h; rfl; (intro w' hSw; go_simp; with_reducible rfl); simp only [Act.put, pB, pC, pD]
      refine tkH (heap_keep HT.out HA.out) 7 (oi := ?_) (v := ?_) ?_ ?_ ?_ ?_ ?_ ?_ ?_ ?_; rotate_left 2; (simp only [gA, gB, gC]; exact rfl); kernel_rfl; kernel_rfl; kernel_rfl; exact fun _ _ _ h => h; rfl; (intro w' hSw; go_simp; with_reducible rfl); simp only [Act.put, pB, pC, pD]
      refine wpAnyH_ready (rs := [8]) (by kernel_rfl) (by simp) ?_
      refine coH 8 (oi := ?_) ?_ ?_ (fun K hK => ?_) ?_; rotate_left; (simp only [gA, gB, gC]; exact rfl); rfl
      ·
       go_wp2_with (fail)
       have hb : Below d2.heap.size d2 (d2.alloc (.cells #[.int .i64 0, .int .i64 0, .int .i64 0, .slice none 0 0] 28)) := (Below.refl _ _).alloc (Nat.le_refl _) _
       have HN : Hid ((d2.alloc (.cells #[.int .i64 0, .int .i64 0, .int .i64 0, .slice none 0 0] 28)).heap[d2.heap.size]? = some (.cells #[.int .i64 0, .int .i64 0, .int .i64 0, .slice none 0 0] 28 (0, 0))) := Lib.hid (heap_new rfl)
       have hTw : w0.heap.size ≤ d2.heap.size := HT.out.size
       have HNE : Hid (∀ b off, 0 < en → ea = some ⟨b, off, none⟩ → b ≠ d2.heap.size) := Lib.hid (fun b off hp h => by
         rcases HROW.out with h1 | ⟨b1, o1, e1, e2, _⟩
         · omega
         · rw [h] at e1; cases e1; omega)
       generalize (d2.alloc (.cells #[.int .i64 0, .int .i64 0, .int .i64 0, .slice none 0 0] 28)) = d3 at *
       replace HT := Lib.hid (HT.out.trans (hb.mono HT.out.size))
       replace HM := Lib.hid (own_below HM.out hb)
       replace HROW := Lib.hid (HROW.out.kept hb)
       have HT3 := HN
       clear HN
       clear hb
       refine hK.out _ _ (heap_keep HT.out HA.out) (fun hHeld => ?_)
       clear hK K hHeld
       try simp only [Act.put, pB, pC, pD]
       have z0 : d3.cell? ⟨d2.heap.size, 0, none⟩ = some (.int .i64 0) := cell_of HT3.out rfl
       have zf0 : d3.frozen? ⟨d2.heap.size, 0, none⟩ = false := frozen_of HT3.out
       have z1 : d3.cell? ⟨d2.heap.size, 1, none⟩ = some (.int .i64 0) := cell_of HT3.out rfl
       have zf1 : d3.frozen? ⟨d2.heap.size, 1, none⟩ = false := frozen_of HT3.out
       have z2 : d3.cell? ⟨d2.heap.size, 2, none⟩ = some (.int .i64 0) := cell_of HT3.out rfl
       have zf2 : d3.frozen? ⟨d2.heap.size, 2, none⟩ = false := frozen_of HT3.out
       have z3 : d3.cell? ⟨d2.heap.size, 3, none⟩ = some (.slice none 0 0) := cell_of HT3.out rfl
       have zf3 : d3.frozen? ⟨d2.heap.size, 3, none⟩ = false := frozen_of HT3.out
       have hst := set4 (w := d3) (R := d2.heap.size) (x0 := .int .i64 ez) (x1 := .int .i64 ex) (x2 := .int .i64 ey) (x3 := .slice ea en ec) (is4 (is_some z0) (is_some z1) (is_some z2) (is_some z3)) rfl
       have HST := Lib.hid hst
       have HRW := Lib.hid (row4 (R := d2.heap.size) (x0 := .int .i64 ez) (x1 := .int .i64 ex) (x2 := .int .i64 ey) (x3 := .slice ea en ec) HROW.out (fun hp b off h => HNE.out b off hp h))
       have HT9 := Lib.hid ((((HT.out.setCell (p := ⟨d2.heap.size, 0, none⟩) hTw (.int .i64 ez)).setCell (p := ⟨d2.heap.size, 1, none⟩) hTw (.int .i64 ex)).setCell (p := ⟨d2.heap.size, 2, none⟩) hTw (.int .i64 ey)).setCell (p := ⟨d2.heap.size, 3, none⟩) hTw (.slice ea en ec))
       clear hst
       refine onH 9 (oi := ?_) (by kernel_rfl) ?_ ?_ (fun K hK => ?_); rotate_left; (simp only [gA, gB, gC]; exact rfl); rfl
       go_wp2_with (fail)
       refine hK.out _ _ (heap_keep HT9.out HA.out) (fun hHeld => ?_)
       clear hK K z0 z1 z2 z3 zf0 zf1 zf2 zf3
       try simp only [Act.put, pB, pC, pD]
       refine tkH hHeld 10 (oi := ?_) (v := ?_) ?_ ?_ ?_ ?_ ?_ ?_ ?_ ?_; rotate_left 2; (simp only [gA, gB, gC]; exact rfl); kernel_rfl; kernel_rfl; kernel_rfl; exact fun _ _ _ h => h; rfl; (intro w' hSw; go_simp; with_reducible rfl); simp only [Act.put, pB, pC, pD]
       clear hHeld
       refine wpAnyH_done (by kernel_rfl) ?_ _
       go_wp2_with (fail)
       go_meet
       exact ⟨_, ez, ex, ey, ea, en, ec, eR, eE, rfl, HST.out, ⟨_, _, HARE.out⟩, HRW.out, HN3.out, hn1, HFX.out, HT9.out⟩
      exact AllReadyH.nil
     refine coH 8 (oi := ?_) ?_ ?_ (fun K hK => ?_) ?_; rotate_left; (simp only [gA, gB, gC]; exact rfl); rfl
     ·
      go_wp2_with (fail)
      have hb : Below d1.heap.size d1 (d1.alloc (.cells #[.int .i64 0, .int .i64 0, .int .i64 0, .slice none 0 0] 28)) := (Below.refl _ _).alloc (Nat.le_refl _) _
      have HN : Hid ((d1.alloc (.cells #[.int .i64 0, .int .i64 0, .int .i64 0, .slice none 0 0] 28)).heap[d1.heap.size]? = some (.cells #[.int .i64 0, .int .i64 0, .int .i64 0, .slice none 0 0] 28 (0, 0))) := Lib.hid (heap_new rfl)
      have hTw : w0.heap.size ≤ d1.heap.size := HT.out.size
      generalize (d1.alloc (.cells #[.int .i64 0, .int .i64 0, .int .i64 0, .slice none 0 0] 28)) = d4 at *
      replace HT := Lib.hid (HT.out.trans (hb.mono HT.out.size))
      replace HM := Lib.hid (own_below HM.out hb)
      have HT3 := HN
      clear HN
      clear hb
      refine hK.out _ _ (heap_keep HT.out HA.out) (fun hHeld => ?_)
      clear hK K hHeld
      try simp only [Act.put, pB, pC, pD]
      refine wpAnyH_ready (rs := [4]) (by kernel_rfl) (by simp) ?_
      refine coH 4 (oi := ?_) ?_ ?_ (fun K hK => ?_) ?_; rotate_left; (simp only [gA, gB, gC]; exact rfl); rfl
      ·
       go_wp2_with (fail)
       refine (cellsOf_any bm nn _ s _ HM.out HSM.out hs).mono ?_
       rintro e d5 ⟨ez, ex, ey, ea, en, ec, eR, eE, rfl, hare, hrow, hfr, hn1, hn2, hn3, hb⟩
       have HARE := Lib.hid hare
       have HROW := Lib.hid hrow
       have HN3 := Lib.hid hn3
       have HFX := Lib.hid (fun b off h => Nat.le_trans HT.out.size (hfr b off h))
       have HNE : Hid (∀ b off, 0 < en → ea = some ⟨b, off, none⟩ → b ≠ d1.heap.size) := Lib.hid (fun b off _ h => by have := hfr b off h; have := lt_of_heap HT3.out; omega)
       clear hare hrow hfr hn3
       go_wp2_with (fail)
       replace HT := Lib.hid (HT.out.trans (hb.mono HT.out.size))
       replace HM := Lib.hid (own_below HM.out hb)
       replace HT3 := Lib.hid (heap_keep hb HT3.out)
       clear hb
       refine hK.out _ _ (heap_keep HT.out HA.out) (fun hHeld => ?_)
       clear hK K hHeld
       try simp only [Act.put, pB, pC, pD]
       refine tkH (heap_keep HT.out HA.out) 5 (oi := ?_) (v := ?_) ?_ ?_ ?_ ?_ ?_ ?_ ?_ ?_; rotate_left 2; (simp only [gA, gB, gC]; exact rfl); kernel_rfl; kernel_rfl; kernel_rfl; exact fun _ _ _ h => h; rfl; (intro w' hSw; go_simp; with_reducible rfl); simp only [Act.put, pB, pC, pD]
       refine tkH (heap_keep HT.out HA.out) 6 (oi := ?_) (v := ?_) ?_ ?_ ?_ ?_ ?_ ?_ ?_ ?_; rotate_left 2; (simp only [gA, gB, gC]; exact rfl); kernel_rfl; kernel_rfl; kernel_rfl; exact fun _ _ _ h => h; rfl; (intro w' hSw; go_simp; with_reducible rfl); simp only [Act.put, pB, pC, pD]
       refine tkH (heap_keep HT.out HA.out) 7 (oi := ?_) (v := ?_) ?_ ?_ ?_ ?_ ?_ ?_ ?_ ?_; rotate_left 2; (simp only [gA, gB, gC]; exact rfl); kernel_rfl; kernel_rfl; kernel_rfl; exact fun _ _ _ h => h; rfl; (intro w' hSw; go_simp; with_reducible rfl); simp only [Act.put, pB, pC, pD]
       have z0 : d5.cell? ⟨d1.heap.size, 0, none⟩ = some (.int .i64 0) := cell_of HT3.out rfl
       have zf0 : d5.frozen? ⟨d1.heap.size, 0, none⟩ = false := frozen_of HT3.out
       have z1 : d5.cell? ⟨d1.heap.size, 1, none⟩ = some (.int .i64 0) := cell_of HT3.out rfl
       have zf1 : d5.frozen? ⟨d1.heap.size, 1, none⟩ = false := frozen_of HT3.out
       have z2 : d5.cell? ⟨d1.heap.size, 2, none⟩ = some (.int .i64 0) := cell_of HT3.out rfl
       have zf2 : d5.frozen? ⟨d1.heap.size, 2, none⟩ = false := frozen_of HT3.out
       have z3 : d5.cell? ⟨d1.heap.size, 3, none⟩ = some (.slice none 0 0) := cell_of HT3.out rfl
       have zf3 : d5.frozen? ⟨d1.heap.size, 3, none⟩ = false := frozen_of HT3.out
       have hst := set4 (w := d5) (R := d1.heap.size) (x0 := .int .i64 ez) (x1 := .int .i64 ex) (x2 := .int .i64 ey) (x3 := .slice ea en ec) (is4 (is_some z0) (is_some z1) (is_some z2) (is_some z3)) rfl
       have HST := Lib.hid hst
       have HRW := Lib.hid (row4 (R := d1.heap.size) (x0 := .int .i64 ez) (x1 := .int .i64 ex) (x2 := .int .i64 ey) (x3 := .slice ea en ec) HROW.out (fun hp b off h => HNE.out b off hp h))
       have HT9 := Lib.hid ((((HT.out.setCell (p := ⟨d1.heap.size, 0, none⟩) hTw (.int .i64 ez)).setCell (p := ⟨d1.heap.size, 1, none⟩) hTw (.int .i64 ex)).setCell (p := ⟨d1.heap.size, 2, none⟩) hTw (.int .i64 ey)).setCell (p := ⟨d1.heap.size, 3, none⟩) hTw (.slice ea en ec))
       clear hst
       refine onH 9 (oi := ?_) (by kernel_rfl) ?_ ?_ (fun K hK => ?_); rotate_left; (simp only [gA, gB, gC]; exact rfl); rfl
       go_wp2_with (fail)
       refine hK.out _ _ (heap_keep HT9.out HA.out) (fun hHeld => ?_)
       clear hK K z0 z1 z2 z3 zf0 zf1 zf2 zf3
       try simp only [Act.put, pB, pC, pD]
       refine tkH hHeld 10 (oi := ?_) (v := ?_) ?_ ?_ ?_ ?_ ?_ ?_ ?_ ?_; rotate_left 2; (simp only [gA, gB, gC]; exact rfl); kernel_rfl; kernel_rfl; kernel_rfl; exact fun _ _ _ h => h; rfl; (intro w' hSw; go_simp; with_reducible rfl); simp only [Act.put, pB, pC, pD]
       clear hHeld
       refine wpAnyH_done (by kernel_rfl) ?_ _
       go_wp2_with (fail)
       go_meet
       exact ⟨_, ez, ex, ey, ea, en, ec, eR, eE, rfl, HST.out, ⟨_, _, HARE.out⟩, HRW.out, HN3.out, hn1, HFX.out, HT9.out⟩
      exact AllReadyH.nil
     exact AllReadyH.nil
    refine coH 8 (oi := ?_) ?_ ?_ (fun K hK => ?_) ?_; rotate_left; (simp only [gA, gB, gC]; exact rfl); rfl
    ·
     go_wp2_with (fail)
     have hb : Below d0.heap.size d0 (d0.alloc (.cells #[.int .i64 0, .int .i64 0, .int .i64 0, .slice none 0 0] 28)) := (Below.refl _ _).alloc (Nat.le_refl _) _
     have HN : Hid ((d0.alloc (.cells #[.int .i64 0, .int .i64 0, .int .i64 0, .slice none 0 0] 28)).heap[d0.heap.size]? = some (.cells #[.int .i64 0, .int .i64 0, .int .i64 0, .slice none 0 0] 28 (0, 0))) := Lib.hid (heap_new rfl)
     have hTw : w0.heap.size ≤ d0.heap.size := HT.out.size
     generalize (d0.alloc (.cells #[.int .i64 0, .int .i64 0, .int .i64 0, .slice none 0 0] 28)) = d6 at *
     replace HT := Lib.hid (HT.out.trans (hb.mono HT.out.size))
     have HT3 := HN
     clear HN
     clear hb
     refine hK.out _ _ (heap_keep HT.out HA.out) (fun hHeld => ?_)
     clear hK K hHeld
     try simp only [Act.put, pB, pC, pD]
     refine wpAnyH_ready (rs := [1]) (by kernel_rfl) (by simp) ?_
     refine coH 1 (oi := ?_) ?_ ?_ (fun K hK => ?_) ?_; rotate_left; (simp only [gA, gB, gC]; exact rfl); rfl
     ·
      go_wp2_with (fail)
      refine (HSET _ (HR.out.kept HT.out)).mono ?_
      rintro e d7 ⟨bm, nn, rfl, -, -, hown, hb⟩
      have HM := Lib.hid hown
      clear hown
      go_wp2_with (fail)
      replace HT := Lib.hid (HT.out.trans (hb.mono HT.out.size))
      replace HT3 := Lib.hid (heap_keep hb HT3.out)
      clear hb
      refine hK.out _ _ (heap_keep HT.out HA.out) (fun hHeld => ?_)
      clear hK K hHeld
      try simp only [Act.put, pB, pC, pD]
      refine wpAnyH_ready (rs := [4]) (by kernel_rfl) (by simp) ?_
      refine coH 4 (oi := ?_) ?_ ?_ (fun K hK => ?_) ?_; rotate_left; (simp only [gA, gB, gC]; exact rfl); rfl
      ·
       go_wp2_with (fail)
       refine (cellsOf_any bm nn _ s _ HM.out HSM.out hs).mono ?_
       rintro e d8 ⟨ez, ex, ey, ea, en, ec, eR, eE, rfl, hare, hrow, hfr, hn1, hn2, hn3, hb⟩
       have HARE := Lib.hid hare
       have HROW := Lib.hid hrow
       have HN3 := Lib.hid hn3
       have HFX := Lib.hid (fun b off h => Nat.le_trans HT.out.size (hfr b off h))
       have HNE : Hid (∀ b off, 0 < en → ea = some ⟨b, off, none⟩ → b ≠ d0.heap.size) := Lib.hid (fun b off _ h => by have := hfr b off h; have := lt_of_heap HT3.out; omega)
       clear hare hrow hfr hn3
       go_wp2_with (fail)
       replace HT := Lib.hid (HT.out.trans (hb.mono HT.out.size))
       replace HM := Lib.hid (own_below HM.out hb)
       replace HT3 := Lib.hid (heap_keep hb HT3.out)
       clear hb
       refine hK.out _ _ (heap_keep HT.out HA.out) (fun hHeld => ?_)
       clear hK K hHeld
       try simp only [Act.put, pB, pC, pD]
       refine tkH (heap_keep HT.out HA.out) 5 (oi := ?_) (v := ?_) ?_ ?_ ?_ ?_ ?_ ?_ ?_ ?_; rotate_left 2; (simp only [gA, gB, gC]; exact rfl); kernel_rfl; kernel_rfl; kernel_rfl; exact fun _ _ _ h => h; rfl; (intro w' hSw; go_simp; with_reducible rfl); simp only [Act.put, pB, pC, pD]
       refine tkH (heap_keep HT.out HA.out) 6 (oi := ?_) (v := ?_) ?_ ?_ ?_ ?_ ?_ ?_ ?_ ?_; rotate_left 2; (simp only [gA, gB, gC]; exact rfl); kernel_rfl; kernel_rfl; kernel_rfl; exact fun _ _ _ h => h; rfl; (intro w' hSw; go_simp; with_reducible rfl); simp only [Act.put, pB, pC, pD]
       refine tkH (heap_keep HT.out HA.out) 7 (oi := ?_) (v := ?_) ?_ ?_ ?_ ?_ ?_ ?_ ?_ ?_; rotate_left 2; (simp only [gA, gB, gC]; exact rfl); kernel_rfl; kernel_rfl; kernel_rfl; exact fun _ _ _ h => h; rfl; (intro w' hSw; go_simp; with_reducible rfl); simp only [Act.put, pB, pC, pD]
       have z0 : d8.cell? ⟨d0.heap.size, 0, none⟩ = some (.int .i64 0) := cell_of HT3.out rfl
       have zf0 : d8.frozen? ⟨d0.heap.size, 0, none⟩ = false := frozen_of HT3.out
       have z1 : d8.cell? ⟨d0.heap.size, 1, none⟩ = some (.int .i64 0) := cell_of HT3.out rfl
       have zf1 : d8.frozen? ⟨d0.heap.size, 1, none⟩ = false := frozen_of HT3.out
       have z2 : d8.cell? ⟨d0.heap.size, 2, none⟩ = some (.int .i64 0) := cell_of HT3.out rfl
       have zf2 : d8.frozen? ⟨d0.heap.size, 2, none⟩ = false := frozen_of HT3.out
       have z3 : d8.cell? ⟨d0.heap.size, 3, none⟩ = some (.slice none 0 0) := cell_of HT3.out rfl
       have zf3 : d8.frozen? ⟨d0.heap.size, 3, none⟩ = false := frozen_of HT3.out
       have hst := set4 (w := d8) (R := d0.heap.size) (x0 := .int .i64 ez) (x1 := .int .i64 ex) (x2 := .int .i64 ey) (x3 := .slice ea en ec) (is4 (is_some z0) (is_some z1) (is_some z2) (is_some z3)) rfl
       have HST := Lib.hid hst
       have HRW := Lib.hid (row4 (R := d0.heap.size) (x0 := .int .i64 ez) (x1 := .int .i64 ex) (x2 := .int .i64 ey) (x3 := .slice ea en ec) HROW.out (fun hp b off h => HNE.out b off hp h))
       have HT9 := Lib.hid ((((HT.out.setCell (p := ⟨d0.heap.size, 0, none⟩) hTw (.int .i64 ez)).setCell (p := ⟨d0.heap.size, 1, none⟩) hTw (.int .i64 ex)).setCell (p := ⟨d0.heap.size, 2, none⟩) hTw (.int .i64 ey)).setCell (p := ⟨d0.heap.size, 3, none⟩) hTw (.slice ea en ec))
       clear hst
       refine onH 9 (oi := ?_) (by kernel_rfl) ?_ ?_ (fun K hK => ?_); rotate_left; (simp only [gA, gB, gC]; exact rfl); rfl
       go_wp2_with (fail)
       refine hK.out _ _ (heap_keep HT9.out HA.out) (fun hHeld => ?_)
       clear hK K z0 z1 z2 z3 zf0 zf1 zf2 zf3
       try simp only [Act.put, pB, pC, pD]
       refine tkH hHeld 10 (oi := ?_) (v := ?_) ?_ ?_ ?_ ?_ ?_ ?_ ?_ ?_; rotate_left 2; (simp only [gA, gB, gC]; exact rfl); kernel_rfl; kernel_rfl; kernel_rfl; exact fun _ _ _ h => h; rfl; (intro w' hSw; go_simp; with_reducible rfl); simp only [Act.put, pB, pC, pD]
       clear hHeld
       refine wpAnyH_done (by kernel_rfl) ?_ _
       go_wp2_with (fail)
       go_meet
       exact ⟨_, ez, ex, ey, ea, en, ec, eR, eE, rfl, HST.out, ⟨_, _, HARE.out⟩, HRW.out, HN3.out, hn1, HFX.out, HT9.out⟩
      exact AllReadyH.nil
     exact AllReadyH.nil
    exact AllReadyH.nil
  case rest =>
    obtain ⟨T, ez, ex, ey, ea, en, ec, eR, eE, rfl, ⟨k0, k1, k2, k3⟩, ⟨P, s9, hare⟩, hrow, hn3, hn1, hfr, hb⟩ := hcut
    have hsm := hare.small
    have hz := heap_keep hb HZ.out
    have HWx := Lib.hid (HW.out.trans (hb.mono HW.out.size))
    have HROW := Lib.hid hrow
    have HN3 := Lib.hid hn3
    have hlz := lt_of_heap HZ.out
    have hne : ∀ b off, ea = some ⟨b, off, none⟩ → b ≠ w.heap.size + 1 := fun b off h => by have := hfr b off h; omega
    have HNE := Lib.hid hne
    have z0 : wc.cell? ⟨w.heap.size + 1, 0, none⟩ = some (.int .i64 0) := cell_of hz rfl
    have zf0 : wc.frozen? ⟨w.heap.size + 1, 0, none⟩ = false := frozen_of hz
    have z1 : wc.cell? ⟨w.heap.size + 1, 1, none⟩ = some (.int .i64 0) := cell_of hz rfl
    have zf1 : wc.frozen? ⟨w.heap.size + 1, 1, none⟩ = false := frozen_of hz
    have z2 : wc.cell? ⟨w.heap.size + 1, 2, none⟩ = some (.int .i64 0) := cell_of hz rfl
    have zf2 : wc.frozen? ⟨w.heap.size + 1, 2, none⟩ = false := frozen_of hz
    have z3 : wc.cell? ⟨w.heap.size + 1, 3, none⟩ = some (.slice none 0 0) := cell_of hz rfl
    have zf3 : wc.frozen? ⟨w.heap.size + 1, 3, none⟩ = false := frozen_of hz
    clear hrow hn3 hfr hne hz hb hare
    go_wp2_with (fail)
    obtain ⟨r0, r1, r2, r3⟩ := set4 (w := wc) (R := w.heap.size + 1) (x0 := (.int .i64 ez)) (x1 := (.int .i64 ex)) (x2 := (.int .i64 ey)) (x3 := (.slice ea en ec)) (is4 (is_some z0) (is_some z1) (is_some z2) (is_some z3)) rfl
    have HF : Hid (Below w.heap.size w ((((wc.setCell ⟨w.heap.size + 1, 0, none⟩ (.int .i64 ez)).setCell ⟨w.heap.size + 1, 1, none⟩ (.int .i64 ex)).setCell ⟨w.heap.size + 1, 2, none⟩ (.int .i64 ey)).setCell ⟨w.heap.size + 1, 3, none⟩ (.slice ea en ec))) := Lib.hid ((((HWx.out.setCell (by show _ ≤ w.heap.size + 1; omega) _).setCell (by show _ ≤ w.heap.size + 1; omega) _).setCell (by show _ ≤ w.heap.size + 1; omega) _).setCell (by show _ ≤ w.heap.size + 1; omega) _)
    have HRW : Hid (RowS ((((wc.setCell ⟨w.heap.size + 1, 0, none⟩ (.int .i64 ez)).setCell ⟨w.heap.size + 1, 1, none⟩ (.int .i64 ex)).setCell ⟨w.heap.size + 1, 2, none⟩ (.int .i64 ey)).setCell ⟨w.heap.size + 1, 3, none⟩ (.slice ea en ec)) ea en eR) := Lib.hid ((((HROW.out.set _ _ HNE.out).set _ _ HNE.out).set _ _ HNE.out).set _ _ HNE.out)
    generalize ((((wc.setCell ⟨w.heap.size + 1, 0, none⟩ (.int .i64 ez)).setCell ⟨w.heap.size + 1, 1, none⟩ (.int .i64 ex)).setCell ⟨w.heap.size + 1, 2, none⟩ (.int .i64 ey)).setCell ⟨w.heap.size + 1, 3, none⟩ (.slice ea en ec)) = WW at *
    exact bodyPost_ret (v := .agg #[.int .i64 ez, .int .i64 ex, .int .i64 ey, .slice ea en ec]) (by simp [results, Tryz.results18, go_sem, r0, r1, r2, r3]) rfl ⟨ez, ex, ey, ea, en, ec, eR, rfl, HRW.out, fun i hi => by have := HN3.out i hi; omega, hsm, HF.out⟩
end Go.Proofs.YtllagjncibfcmaaGreatDoor

/- Ends of the program. -/
import Derived.Test.YtapihgmokgkaaaaYk
import Derived.Deep.Cut
import Derived.Deep.CutRange
set_option linter.unusedSimpArgs false
set_option linter.unusedVariables false
namespace Go.Proofs.Ytapihgmokgkaaaa
open Go.RowKit

theorem undrew' {w w' : World} (h : Below w.drew.heap.size w.drew w') : Below w.heap.size w w' := ⟨h.os, h.tape, h.output, h.size, h.block⟩
/-- What a visit's place in a row of paths reads as, and the visit, while new blocks are made. -/
structure Sy (w0 : World) (g b o : Nat) (q s : Int) (bk : Bool) (v : Value) (k : Bool) (w : World) : Prop where
  bel : Below w0.heap.size w0 w
  lg : g < w0.heap.size
  lb : b < w0.heap.size
  cp : w.cell? ⟨g, 0, none⟩ = some (.int .i64 q)
  cs : w.cell? ⟨g, 1, none⟩ = some (.int .i64 s)
  cb : w.cell? ⟨g, 2, none⟩ = some (.bool bk)
  cr : w.cell? ⟨b, o, none⟩ = some v
  ck : w.cell? ⟨b, o + 1, none⟩ = some (.bool k)
theorem Sy.next {w0 w' : World} {g b o : Nat} {q s : Int} {bk : Bool} {v : Value} {k : Bool} (h : Sy w0 g b o q s bk v k w0) (B : Below w0.heap.size w0 w') : Sy w0 g b o q s bk v k w' := by
  obtain ⟨q0, l1, l2, q1, q2, q3, q4, q5⟩ := h
  exact ⟨B, l1, l2, (B.cell (p := ⟨g, 0, none⟩) l1).trans q1, (B.cell (p := ⟨g, 1, none⟩) l1).trans q2, (B.cell (p := ⟨g, 2, none⟩) l1).trans q3, (B.cell (p := ⟨b, o, none⟩) l2).trans q4, (B.cell (p := ⟨b, o + 1, none⟩) l2).trans q5⟩
/-- The answer of Ends. -/
def endsV (m : Nat) (P : Nat → Pth) (v : Vis) : Value :=
  if oneF m P v = 0 then .tuple #[.agg #[.int .i64 ((P v.p.toNat).X (enB (P v.p.toNat) v)), .int .i64 ((P v.p.toNat).Y (enB (P v.p.toNat) v))], .agg #[.int .i64 ((P v.p.toNat).X (enE (P v.p.toNat) v)), .int .i64 ((P v.p.toNat).Y (enE (P v.p.toNat) v))], .int .i64 0]
  else .tuple #[.agg #[.int .i64 0, .int .i64 0], .agg #[.int .i64 0, .int .i64 0], .int .i64 (oneF m P v)]
set_option maxRecDepth 100000 in
set_option maxHeartbeats 16000000 in
theorem Ends_any (a : Option Addr) (m c : Nat) (P : Nat → Pth) (v : Vis) (w : World) (hm : m ≤ 100) (hp : PathsR w a m P) (hn : ∀ i, i < m → (P i).n ≤ 100) (hv : sm v.p) :
    Calls Try.prog 12 #[.slice a m c, v.v] w fun e w' => e = .returned (endsV m P v) ∧ Below w.heap.size w w' := by
  have HP := Lib.hid hp
  have HN := Lib.hid hn
  clear hp hn
  obtain ⟨p, s, bk⟩ := v
  unfold Vis.v
  dsimp only at *
  go_enter Try.func12, Try.ntmps12
  go_wp2_with (fail)
  generalize hw0 : (((w.alloc (.cells #[.int .i64 p, .int .i64 s, .bool bk] 34)).alloc (.cells #[.int .i64 0, .int .i64 0] 27)).alloc (.cells #[.int .i64 0, .int .i64 0] 27)) = w0
  have B0 : Below w.heap.size w w0 := by rw [← hw0]; exact (by repeat (first | exact Below.refl _ _ | assumption | refine Below.drew ?_ | refine bdrewN ?_ _ | refine Below.setCell ?_ (by first | omega | (simp <;> omega)) _ | refine Below.alloc ?_ (by first | omega | (simp <;> omega)) _))
  have hws : w0.heap.size = w.heap.size + 1 + 1 + 1 := by rw [← hw0]; simp
  have r00 : w0.cell? ⟨w.heap.size, 0, none⟩ = some (.int .i64 p) := by rw [← hw0]; simp [go_sem]
  have r01 : w0.cell? ⟨w.heap.size, 1, none⟩ = some (.int .i64 s) := by rw [← hw0]; simp [go_sem]
  have r02 : w0.cell? ⟨w.heap.size, 2, none⟩ = some (.bool bk) := by rw [← hw0]; simp [go_sem]
  have r10 : w0.cell? ⟨w.heap.size + 1, 0, none⟩ = some (.int .i64 0) := by rw [← hw0]; simp [go_sem]
  have r11 : w0.cell? ⟨w.heap.size + 1, 1, none⟩ = some (.int .i64 0) := by rw [← hw0]; simp [go_sem]
  have r20 : w0.cell? ⟨w.heap.size + 1 + 1, 0, none⟩ = some (.int .i64 0) := by rw [← hw0]; simp [go_sem]
  have r21 : w0.cell? ⟨w.heap.size + 1 + 1, 1, none⟩ = some (.int .i64 0) := by rw [← hw0]; simp [go_sem]
  have z10 : w0.frozen? ⟨w.heap.size + 1, 0, none⟩ = false := by rw [← hw0]; simp [go_sem]
  have z11 : w0.frozen? ⟨w.heap.size + 1, 1, none⟩ = false := by rw [← hw0]; simp [go_sem]
  have z20 : w0.frozen? ⟨w.heap.size + 1 + 1, 0, none⟩ = false := by rw [← hw0]; simp [go_sem]
  have z21 : w0.frozen? ⟨w.heap.size + 1 + 1, 1, none⟩ = false := by rw [← hw0]; simp [go_sem]
  have HB0 := Lib.hid B0
  clear hw0 B0
  refine (checkVisited_any a m c P ⟨p, s, bk⟩ w0 hm (HP.out.kept HB0.out) HN.out hv).mono ?_
  rintro e w1 ⟨rfl, hb1⟩
  have HB1 := Lib.hid (HB0.out.trans (hb1.mono HB0.out.size))
  have h1 : w.heap.size + 1 + 1 < w0.heap.size := by omega
  have h2 : w.heap.size + 1 < w0.heap.size := by omega
  have h3 : w.heap.size < w0.heap.size := by omega
  replace r00 := cellk hb1 h3 r00
  replace r01 := cellk hb1 h3 r01
  replace r02 := cellk hb1 h3 r02
  replace r10 := cellk hb1 h2 r10
  replace r11 := cellk hb1 h2 r11
  replace r20 := cellk hb1 h1 r20
  replace r21 := cellk hb1 h1 r21
  replace z10 := (hb1.frozen (p := ⟨w.heap.size + 1, 0, none⟩) h2).trans z10
  replace z11 := (hb1.frozen (p := ⟨w.heap.size + 1, 1, none⟩) h2).trans z11
  replace z20 := (hb1.frozen (p := ⟨w.heap.size + 1 + 1, 0, none⟩) h1).trans z20
  replace z21 := (hb1.frozen (p := ⟨w.heap.size + 1 + 1, 1, none⟩) h1).trans z21
  have h4 : w0.heap.size ≤ w1.heap.size := hb1.size
  replace h1 : w.heap.size + 1 + 1 < w1.heap.size := by omega
  replace h2 : w.heap.size + 1 < w1.heap.size := by omega
  replace h3 : w.heap.size < w1.heap.size := by omega
  clear hb1 h4 hws
  by_cases hz : oneF m P ⟨p, s, bk⟩ = 0
  · have R := Lib.hid (show endsV m P ⟨p, s, bk⟩ = .tuple #[.agg #[.int .i64 ((P p.toNat).X (enB (P p.toNat) ⟨p, s, bk⟩)), .int .i64 ((P p.toNat).Y (enB (P p.toNat) ⟨p, s, bk⟩))], .agg #[.int .i64 ((P p.toNat).X (enE (P p.toNat) ⟨p, s, bk⟩)), .int .i64 ((P p.toNat).Y (enE (P p.toNat) ⟨p, s, bk⟩))], .int .i64 0] by simp [endsV, hz])
    have hps : psF m P = 0 := by
      unfold oneF at hz
      exact Classical.byContradiction fun h => by rw [if_pos h] at hz; exact h hz
    have hvg : VGood m P ⟨p, s, bk⟩ := vgood (t := false) (by unfold oneF at hz; rwa [if_neg (by simp [hps])] at hz)
    have hz' : (oneF m P ⟨p, s, bk⟩ != 0) = false := by simp [hz]
    obtain ⟨vlo, vhi, vf, vg, vs1, vs2⟩ := hvg
    dsimp only at vlo vhi vf vg vs1 vs2
    obtain ⟨q, rfl⟩ := Int.eq_ofNat_of_zero_le vlo
    rw [Int.toNat_natCast] at vf vg vs2
    have hq : q < m := by omega
    have hqi : (q : Int) < (m : Int) := by omega
    have hnq := HN.out q hq
    have hvf : VFit (P q) ⟨(q : Int), s, bk⟩ := ⟨vf, vg, vs1, vs2⟩
    rcases HP.out with h | ⟨b, off, rfl, hb, hd⟩
    · omega
    obtain ⟨⟨t0, t1⟩, hpt⟩ := hd q hq
    replace t0 := cellk HB1.out hb t0
    replace t1 := cellk HB1.out hb t1
    have HPT := Lib.hid (hpt.kept HB1.out)
    have hb1 : b < w1.heap.size := Nat.lt_of_lt_of_le hb HB1.out.size
    clear hz hps vlo vhi vf vg vs1 vs2 hd hpt
    go_wp2_with (fail)
    generalize hwY : w1 = wY at *
    have HS0 : Hid (Sy wY w.heap.size b (off + q * 2) q s bk (.slice (P q).a (P q).n (P q).c) (P q).k wY) := Lib.hid ⟨Below.refl _ _, h3, hb1, r00, r01, r02, t0, t1⟩
    have BX : Hid (Below wY.heap.size wY wY) := Lib.hid (Below.refl _ _)
    go_cut [8, 9] from 18 to 27 (fun u8 u9 wx => ∃ g h, u8 = .pointer (some ⟨g, 0, none⟩) ∧ u9 = .pointer (some ⟨h, 0, none⟩) ∧ wx.cell? ⟨g, 0, none⟩ = some (.int .i64 ((P q).X (enB (P q) ⟨q, s, bk⟩))) ∧ wx.cell? ⟨g, 1, none⟩ = some (.int .i64 ((P q).Y (enB (P q) ⟨q, s, bk⟩))) ∧ wx.cell? ⟨h, 0, none⟩ = some (.int .i64 ((P q).X (enE (P q) ⟨q, s, bk⟩))) ∧ wx.cell? ⟨h, 1, none⟩ = some (.int .i64 ((P q).Y (enE (P q) ⟨q, s, bk⟩))) ∧ wY.heap.size ≤ g ∧ wY.heap.size ≤ h ∧ Below wY.heap.size wY wx)
    case first =>
      refine wp_region_held_drew (S := Sy wY w.heap.size b (off + q * 2) q s bk (.slice (P q).a (P q).n (P q).c) (P q).k) (by kernel_rfl) (HS0.out.next (Below.refl _ _).drew) (fun hHeld => ?_)
      refine tkH (by assumption) 0 (oi := ?_) (v := ?_) ?_ ?_ ?_ ?_ ?_ ?_ ?_ ?_; rotate_left 2; (simp only [gA, gB, gC]; exact rfl); kernel_rfl; kernel_rfl; kernel_rfl; exact fun _ _ _ h => h; rfl; (intro w' hSw; (obtain ⟨j0, j1, j2, j3, j4, j5, j6, j7⟩ := hSw);go_simp; with_reducible rfl); simp only [Act.put, pB, pC, pD]
      refine tkH (by assumption) 1 (oi := ?_) (v := ?_) ?_ ?_ ?_ ?_ ?_ ?_ ?_ ?_; rotate_left 2; (simp only [gA, gB, gC]; exact rfl); kernel_rfl; kernel_rfl; kernel_rfl; exact fun _ _ _ h => h; rfl; (intro w' hSw; (obtain ⟨j0, j1, j2, j3, j4, j5, j6, j7⟩ := hSw);go_simp; with_reducible rfl); simp only [Act.put, pB, pC, pD]
      refine tkH (by assumption) 2 (oi := ?_) (v := ?_) ?_ ?_ ?_ ?_ ?_ ?_ ?_ ?_; rotate_left 2; (simp only [gA, gB, gC]; exact rfl); kernel_rfl; kernel_rfl; kernel_rfl; exact fun _ _ _ h => h; rfl; (intro w' hSw; (obtain ⟨j0, j1, j2, j3, j4, j5, j6, j7⟩ := hSw);go_simp; with_reducible rfl); simp only [Act.put, pB, pC, pD]
      refine tkH (by assumption) 3 (oi := ?_) (v := ?_) ?_ ?_ ?_ ?_ ?_ ?_ ?_ ?_; rotate_left 2; (simp only [gA, gB, gC]; exact rfl); kernel_rfl; kernel_rfl; kernel_rfl; exact fun _ _ _ h => h; rfl; (intro w' hSw; (obtain ⟨j0, j1, j2, j3, j4, j5, j6, j7⟩ := hSw);go_simp; with_reducible rfl); simp only [Act.put, pB, pC, pD]
      refine tkH (by assumption) 4 (oi := ?_) (v := ?_) ?_ ?_ ?_ ?_ ?_ ?_ ?_ ?_; rotate_left 2; (simp only [gA, gB, gC]; exact rfl); kernel_rfl; kernel_rfl; kernel_rfl; exact fun _ _ _ h => h; rfl; (intro w' hSw; (obtain ⟨j0, j1, j2, j3, j4, j5, j6, j7⟩ := hSw);go_simp; with_reducible rfl); simp only [Act.put, pB, pC, pD]
      refine tkH (by assumption) 5 (oi := ?_) (v := ?_) ?_ ?_ ?_ ?_ ?_ ?_ ?_ ?_; rotate_left 2; (simp only [gA, gB, gC]; exact rfl); kernel_rfl; kernel_rfl; kernel_rfl; exact fun _ _ _ h => h; rfl; (intro w' hSw; (obtain ⟨j0, j1, j2, j3, j4, j5, j6, j7⟩ := hSw);go_simp; with_reducible rfl); simp only [Act.put, pB, pC, pD]
      refine wpAnyH_ready (rs := [6, 10, 11]) (by kernel_rfl) (by simp) ?_
      refine coH 6 (oi := ?_) ?_ ?_ (fun K hK => ?_) ?_; rotate_left; (simp only [gA, gB, gC]; exact rfl); rfl
      · go_wp2_with (fail)
        refine (ends_any (P q) ⟨(q : Int), s, bk⟩ _ ((HPT.out.kept BX.out).kept (Below.refl _ _).drew) hnq hvf).mono ?_
        rintro e wN ⟨rfl, hb⟩
        unfold two
        replace hb := undrew' hb
        have BX := Lib.hid (BX.out.trans (hb.mono BX.out.size))
        refine hK.out _ _ (HS0.out.next BX.out) (fun hHeldN => ?_)
        clear hK K hHeld hb
        have hHeld := hHeldN
        clear hHeldN
        try simp only [Act.put, pB, pC, pD]
        refine tkH (by assumption) 7 (oi := ?_) (v := ?_) ?_ ?_ ?_ ?_ ?_ ?_ ?_ ?_; rotate_left 2; (simp only [gA, gB, gC]; exact rfl); kernel_rfl; kernel_rfl; kernel_rfl; exact fun _ _ _ h => h; rfl; (intro w' hSw; (try dsimp only at hSw); go_simp; with_reducible rfl); simp only [Act.put, pB, pC, pD]
        refine tkH (by assumption) 8 (oi := ?_) (v := ?_) ?_ ?_ ?_ ?_ ?_ ?_ ?_ ?_; rotate_left 2; (simp only [gA, gB, gC]; exact rfl); kernel_rfl; kernel_rfl; kernel_rfl; exact fun _ _ _ h => h; rfl; (intro w' hSw; (try dsimp only at hSw); go_simp; with_reducible rfl); simp only [Act.put, pB, pC, pD]
        refine tkH (by assumption) 9 (oi := ?_) (v := ?_) ?_ ?_ ?_ ?_ ?_ ?_ ?_ ?_; rotate_left 2; (simp only [gA, gB, gC]; exact rfl); kernel_rfl; kernel_rfl; kernel_rfl; exact fun _ _ _ h => h; rfl; (intro w' hSw; (try dsimp only at hSw); go_simp; with_reducible rfl); simp only [Act.put, pB, pC, pD]
        refine wpAnyH_ready (rs := [10, 11]) (by kernel_rfl) (by simp) ?_
        refine coH 10 (oi := ?_) ?_ ?_ (fun K hK => ?_) ?_; rotate_left; (simp only [gA, gB, gC]; exact rfl); rfl
        · go_wp2_with (fail)
          have hb : Below wN.heap.size wN (wN.alloc (.cells #[.int .i64 0, .int .i64 0] 27)) := (Below.refl _ _).alloc (Nat.le_refl _) _
          have c80 : (wN.alloc (.cells #[.int .i64 0, .int .i64 0] 27)).cell? ⟨wN.heap.size, 0, none⟩ = some (.int .i64 0) := by simp [go_sem]
          have f80 : (wN.alloc (.cells #[.int .i64 0, .int .i64 0] 27)).frozen? ⟨wN.heap.size, 0, none⟩ = false := by simp [go_sem]
          have c81 : (wN.alloc (.cells #[.int .i64 0, .int .i64 0] 27)).cell? ⟨wN.heap.size, 1, none⟩ = some (.int .i64 0) := by simp [go_sem]
          have f81 : (wN.alloc (.cells #[.int .i64 0, .int .i64 0] 27)).frozen? ⟨wN.heap.size, 1, none⟩ = false := by simp [go_sem]
          have l8 : wN.heap.size < (wN.alloc (.cells #[.int .i64 0, .int .i64 0] 27)).heap.size := by simp
          have b8w : wY.heap.size ≤ wN.heap.size := BX.out.size
          have BX := Lib.hid (BX.out.trans (hb.mono BX.out.size))
          refine hK.out _ _ (HS0.out.next (by first | exact BX.out | exact BX.out.drew)) (fun hHeldN => ?_)
          clear hK K hHeld hb
          have hHeld := hHeldN
          clear hHeldN
          try simp only [Act.put, pB, pC, pD]
          generalize (wN.alloc (.cells #[.int .i64 0, .int .i64 0] 27)) = W2 at *
          obtain ⟨g8, hg⟩ : ∃ g, g = wN.heap.size := ⟨_, rfl⟩
          rw [← hg] at c80 c81 f80 f81 l8  ⊢
          have b8 : wY.heap.size ≤ g8 := by omega
          clear hg b8w
          refine wpAnyH_ready (rs := [11]) (by kernel_rfl) (by simp) ?_
          refine coH 11 (oi := ?_) ?_ ?_ (fun K hK => ?_) ?_; rotate_left; (simp only [gA, gB, gC]; exact rfl); rfl
          · go_wp2_with (fail)
            have hb : Below W2.heap.size W2 (W2.alloc (.cells #[.int .i64 0, .int .i64 0] 27)) := (Below.refl _ _).alloc (Nat.le_refl _) _
            have c90 : (W2.alloc (.cells #[.int .i64 0, .int .i64 0] 27)).cell? ⟨W2.heap.size, 0, none⟩ = some (.int .i64 0) := by simp [go_sem]
            have f90 : (W2.alloc (.cells #[.int .i64 0, .int .i64 0] 27)).frozen? ⟨W2.heap.size, 0, none⟩ = false := by simp [go_sem]
            have c91 : (W2.alloc (.cells #[.int .i64 0, .int .i64 0] 27)).cell? ⟨W2.heap.size, 1, none⟩ = some (.int .i64 0) := by simp [go_sem]
            have f91 : (W2.alloc (.cells #[.int .i64 0, .int .i64 0] 27)).frozen? ⟨W2.heap.size, 1, none⟩ = false := by simp [go_sem]
            have l9 : W2.heap.size < (W2.alloc (.cells #[.int .i64 0, .int .i64 0] 27)).heap.size := by simp
            have b9w : wY.heap.size ≤ W2.heap.size := BX.out.size
            have n98 : W2.heap.size ≠ g8 := by omega
            have BX := Lib.hid (BX.out.trans (hb.mono BX.out.size))
            replace c80 := cellk hb l8 c80
            replace f80 := (hb.frozen (p := ⟨g8, 0, none⟩) l8).trans f80
            replace c81 := cellk hb l8 c81
            replace f81 := (hb.frozen (p := ⟨g8, 1, none⟩) l8).trans f81
            replace l8 := Nat.lt_of_lt_of_le l8 hb.size
            refine hK.out _ _ (HS0.out.next (by first | exact BX.out | exact BX.out.drew)) (fun hHeldN => ?_)
            clear hK K hHeld hb
            have hHeld := hHeldN
            clear hHeldN
            try simp only [Act.put, pB, pC, pD]
            generalize (W2.alloc (.cells #[.int .i64 0, .int .i64 0] 27)) = W3 at *
            obtain ⟨g9, hg⟩ : ∃ g, g = W2.heap.size := ⟨_, rfl⟩
            rw [← hg] at c90 c91 f90 f91 l9 n98 ⊢
            have b9 : wY.heap.size ≤ g9 := by omega
            clear hg b9w
            refine onH 12 (oi := ?_) (by kernel_rfl) ?_ ?_ (fun K hK => ?_); rotate_left; (simp only [gA, gB, gC]; exact rfl); rfl
            go_wp2_with (fail)
            refine hK.out _ _ (HS0.out.next (((BX.out.setCell (p := ⟨g8, 0, none⟩) b8 _).setCell (p := ⟨g8, 1, none⟩) b8 _))) (fun hHeldN => ?_)
            clear hK K hHeld
            have hHeld := hHeldN
            clear hHeldN
            try simp only [Act.put, pB, pC, pD]
            refine onH 13 (oi := ?_) (by kernel_rfl) ?_ ?_ (fun K hK => ?_); rotate_left; (simp only [gA, gB, gC]; exact rfl); rfl
            go_wp2_with (fail)
            refine hK.out _ _ (HS0.out.next ?_) (fun hHeldN => ?_)
            · exact ((((BX.out.setCell (p := ⟨g8, 0, none⟩) b8 _).setCell (p := ⟨g8, 1, none⟩) b8 _).setCell (p := ⟨g9, 0, none⟩) b9 _).setCell (p := ⟨g9, 1, none⟩) b9 _)
            clear hK K hHeld
            try simp only [Act.put, pB, pC, pD]
            refine wpAnyH_done (by kernel_rfl) ?_ _
            clear hHeldN
            have i0 := is_some c80
            have i1 := is_some c81
            have i2 := is_some c90
            have i3 := is_some c91
            have hne : g8 ≠ g9 := by omega
            obtain ⟨k0, k1, k2, k3⟩ := set22 hne i0 i1 i2 i3 rfl
            go_wp2_with (fail)
            go_meet
            exact ⟨_, _, rfl, rfl, k0, k1, k2, k3, b8, b9, ((((BX.out.setCell (p := ⟨g8, 0, none⟩) b8 _).setCell (p := ⟨g8, 1, none⟩) b8 _).setCell (p := ⟨g9, 0, none⟩) b9 _).setCell (p := ⟨g9, 1, none⟩) b9 _)⟩
          exact AllReadyH.nil
        refine coH 11 (oi := ?_) ?_ ?_ (fun K hK => ?_) ?_; rotate_left; (simp only [gA, gB, gC]; exact rfl); rfl
        · go_wp2_with (fail)
          have hb : Below wN.heap.size wN (wN.alloc (.cells #[.int .i64 0, .int .i64 0] 27)) := (Below.refl _ _).alloc (Nat.le_refl _) _
          have c90 : (wN.alloc (.cells #[.int .i64 0, .int .i64 0] 27)).cell? ⟨wN.heap.size, 0, none⟩ = some (.int .i64 0) := by simp [go_sem]
          have f90 : (wN.alloc (.cells #[.int .i64 0, .int .i64 0] 27)).frozen? ⟨wN.heap.size, 0, none⟩ = false := by simp [go_sem]
          have c91 : (wN.alloc (.cells #[.int .i64 0, .int .i64 0] 27)).cell? ⟨wN.heap.size, 1, none⟩ = some (.int .i64 0) := by simp [go_sem]
          have f91 : (wN.alloc (.cells #[.int .i64 0, .int .i64 0] 27)).frozen? ⟨wN.heap.size, 1, none⟩ = false := by simp [go_sem]
          have l9 : wN.heap.size < (wN.alloc (.cells #[.int .i64 0, .int .i64 0] 27)).heap.size := by simp
          have b9w : wY.heap.size ≤ wN.heap.size := BX.out.size
          have BX := Lib.hid (BX.out.trans (hb.mono BX.out.size))
          refine hK.out _ _ (HS0.out.next (by first | exact BX.out | exact BX.out.drew)) (fun hHeldN => ?_)
          clear hK K hHeld hb
          have hHeld := hHeldN
          clear hHeldN
          try simp only [Act.put, pB, pC, pD]
          generalize (wN.alloc (.cells #[.int .i64 0, .int .i64 0] 27)) = W4 at *
          obtain ⟨g9, hg⟩ : ∃ g, g = wN.heap.size := ⟨_, rfl⟩
          rw [← hg] at c90 c91 f90 f91 l9  ⊢
          have b9 : wY.heap.size ≤ g9 := by omega
          clear hg b9w
          refine wpAnyH_ready (rs := [10]) (by kernel_rfl) (by simp) ?_
          refine coH 10 (oi := ?_) ?_ ?_ (fun K hK => ?_) ?_; rotate_left; (simp only [gA, gB, gC]; exact rfl); rfl
          · go_wp2_with (fail)
            have hb : Below W4.heap.size W4 (W4.alloc (.cells #[.int .i64 0, .int .i64 0] 27)) := (Below.refl _ _).alloc (Nat.le_refl _) _
            have c80 : (W4.alloc (.cells #[.int .i64 0, .int .i64 0] 27)).cell? ⟨W4.heap.size, 0, none⟩ = some (.int .i64 0) := by simp [go_sem]
            have f80 : (W4.alloc (.cells #[.int .i64 0, .int .i64 0] 27)).frozen? ⟨W4.heap.size, 0, none⟩ = false := by simp [go_sem]
            have c81 : (W4.alloc (.cells #[.int .i64 0, .int .i64 0] 27)).cell? ⟨W4.heap.size, 1, none⟩ = some (.int .i64 0) := by simp [go_sem]
            have f81 : (W4.alloc (.cells #[.int .i64 0, .int .i64 0] 27)).frozen? ⟨W4.heap.size, 1, none⟩ = false := by simp [go_sem]
            have l8 : W4.heap.size < (W4.alloc (.cells #[.int .i64 0, .int .i64 0] 27)).heap.size := by simp
            have b8w : wY.heap.size ≤ W4.heap.size := BX.out.size
            have n89 : W4.heap.size ≠ g9 := by omega
            have BX := Lib.hid (BX.out.trans (hb.mono BX.out.size))
            replace c90 := cellk hb l9 c90
            replace f90 := (hb.frozen (p := ⟨g9, 0, none⟩) l9).trans f90
            replace c91 := cellk hb l9 c91
            replace f91 := (hb.frozen (p := ⟨g9, 1, none⟩) l9).trans f91
            replace l9 := Nat.lt_of_lt_of_le l9 hb.size
            refine hK.out _ _ (HS0.out.next (by first | exact BX.out | exact BX.out.drew)) (fun hHeldN => ?_)
            clear hK K hHeld hb
            have hHeld := hHeldN
            clear hHeldN
            try simp only [Act.put, pB, pC, pD]
            generalize (W4.alloc (.cells #[.int .i64 0, .int .i64 0] 27)) = W5 at *
            obtain ⟨g8, hg⟩ : ∃ g, g = W4.heap.size := ⟨_, rfl⟩
            rw [← hg] at c80 c81 f80 f81 l8 n89 ⊢
            have b8 : wY.heap.size ≤ g8 := by omega
            clear hg b8w
            refine onH 12 (oi := ?_) (by kernel_rfl) ?_ ?_ (fun K hK => ?_); rotate_left; (simp only [gA, gB, gC]; exact rfl); rfl
            go_wp2_with (fail)
            refine hK.out _ _ (HS0.out.next (((BX.out.setCell (p := ⟨g8, 0, none⟩) b8 _).setCell (p := ⟨g8, 1, none⟩) b8 _))) (fun hHeldN => ?_)
            clear hK K hHeld
            have hHeld := hHeldN
            clear hHeldN
            try simp only [Act.put, pB, pC, pD]
            refine onH 13 (oi := ?_) (by kernel_rfl) ?_ ?_ (fun K hK => ?_); rotate_left; (simp only [gA, gB, gC]; exact rfl); rfl
            go_wp2_with (fail)
            refine hK.out _ _ (HS0.out.next ?_) (fun hHeldN => ?_)
            · exact ((((BX.out.setCell (p := ⟨g8, 0, none⟩) b8 _).setCell (p := ⟨g8, 1, none⟩) b8 _).setCell (p := ⟨g9, 0, none⟩) b9 _).setCell (p := ⟨g9, 1, none⟩) b9 _)
            clear hK K hHeld
            try simp only [Act.put, pB, pC, pD]
            refine wpAnyH_done (by kernel_rfl) ?_ _
            clear hHeldN
            have i0 := is_some c80
            have i1 := is_some c81
            have i2 := is_some c90
            have i3 := is_some c91
            have hne : g8 ≠ g9 := by omega
            obtain ⟨k0, k1, k2, k3⟩ := set22 hne i0 i1 i2 i3 rfl
            go_wp2_with (fail)
            go_meet
            exact ⟨_, _, rfl, rfl, k0, k1, k2, k3, b8, b9, ((((BX.out.setCell (p := ⟨g8, 0, none⟩) b8 _).setCell (p := ⟨g8, 1, none⟩) b8 _).setCell (p := ⟨g9, 0, none⟩) b9 _).setCell (p := ⟨g9, 1, none⟩) b9 _)⟩
          exact AllReadyH.nil
        exact AllReadyH.nil
      refine coH 10 (oi := ?_) ?_ ?_ (fun K hK => ?_) ?_; rotate_left; (simp only [gA, gB, gC]; exact rfl); rfl
      · go_wp2_with (fail)
        have hb : Below wY.heap.size wY (wY.alloc (.cells #[.int .i64 0, .int .i64 0] 27)) := (Below.refl _ _).alloc (Nat.le_refl _) _
        have c80 : (wY.alloc (.cells #[.int .i64 0, .int .i64 0] 27)).cell? ⟨wY.heap.size, 0, none⟩ = some (.int .i64 0) := by simp [go_sem]
        have f80 : (wY.alloc (.cells #[.int .i64 0, .int .i64 0] 27)).frozen? ⟨wY.heap.size, 0, none⟩ = false := by simp [go_sem]
        have c81 : (wY.alloc (.cells #[.int .i64 0, .int .i64 0] 27)).cell? ⟨wY.heap.size, 1, none⟩ = some (.int .i64 0) := by simp [go_sem]
        have f81 : (wY.alloc (.cells #[.int .i64 0, .int .i64 0] 27)).frozen? ⟨wY.heap.size, 1, none⟩ = false := by simp [go_sem]
        have l8 : wY.heap.size < (wY.alloc (.cells #[.int .i64 0, .int .i64 0] 27)).heap.size := by simp
        have b8w : wY.heap.size ≤ wY.heap.size := BX.out.size
        have BX := Lib.hid (BX.out.trans (hb.mono BX.out.size))
        refine hK.out _ _ (HS0.out.next (by first | exact BX.out | exact BX.out.drew)) (fun hHeldN => ?_)
        clear hK K hHeld hb
        have hHeld := hHeldN
        clear hHeldN
        try simp only [Act.put, pB, pC, pD]
        generalize (wY.alloc (.cells #[.int .i64 0, .int .i64 0] 27)) = W6 at *
        obtain ⟨g8, hg⟩ : ∃ g, g = wY.heap.size := ⟨_, rfl⟩
        rw [← hg] at c80 c81 f80 f81 l8  ⊢
        have b8 : wY.heap.size ≤ g8 := by omega
        clear hg b8w
        refine wpAnyH_ready (rs := [6, 11]) (by kernel_rfl) (by simp) ?_
        refine coH 6 (oi := ?_) ?_ ?_ (fun K hK => ?_) ?_; rotate_left; (simp only [gA, gB, gC]; exact rfl); rfl
        · go_wp2_with (fail)
          refine (ends_any (P q) ⟨(q : Int), s, bk⟩ _ ((HPT.out.kept BX.out).kept (Below.refl _ _).drew) hnq hvf).mono ?_
          rintro e wN ⟨rfl, hb⟩
          unfold two
          replace hb := undrew' hb
          have BX := Lib.hid (BX.out.trans (hb.mono BX.out.size))
          replace c80 := cellk hb l8 c80
          replace f80 := (hb.frozen (p := ⟨g8, 0, none⟩) l8).trans f80
          replace c81 := cellk hb l8 c81
          replace f81 := (hb.frozen (p := ⟨g8, 1, none⟩) l8).trans f81
          replace l8 := Nat.lt_of_lt_of_le l8 hb.size
          refine hK.out _ _ (HS0.out.next BX.out) (fun hHeldN => ?_)
          clear hK K hHeld hb
          have hHeld := hHeldN
          clear hHeldN
          try simp only [Act.put, pB, pC, pD]
          refine tkH (by assumption) 7 (oi := ?_) (v := ?_) ?_ ?_ ?_ ?_ ?_ ?_ ?_ ?_; rotate_left 2; (simp only [gA, gB, gC]; exact rfl); kernel_rfl; kernel_rfl; kernel_rfl; exact fun _ _ _ h => h; rfl; (intro w' hSw; (try dsimp only at hSw); go_simp; with_reducible rfl); simp only [Act.put, pB, pC, pD]
          refine tkH (by assumption) 8 (oi := ?_) (v := ?_) ?_ ?_ ?_ ?_ ?_ ?_ ?_ ?_; rotate_left 2; (simp only [gA, gB, gC]; exact rfl); kernel_rfl; kernel_rfl; kernel_rfl; exact fun _ _ _ h => h; rfl; (intro w' hSw; (try dsimp only at hSw); go_simp; with_reducible rfl); simp only [Act.put, pB, pC, pD]
          refine tkH (by assumption) 9 (oi := ?_) (v := ?_) ?_ ?_ ?_ ?_ ?_ ?_ ?_ ?_; rotate_left 2; (simp only [gA, gB, gC]; exact rfl); kernel_rfl; kernel_rfl; kernel_rfl; exact fun _ _ _ h => h; rfl; (intro w' hSw; (try dsimp only at hSw); go_simp; with_reducible rfl); simp only [Act.put, pB, pC, pD]
          refine wpAnyH_ready (rs := [11]) (by kernel_rfl) (by simp) ?_
          refine coH 11 (oi := ?_) ?_ ?_ (fun K hK => ?_) ?_; rotate_left; (simp only [gA, gB, gC]; exact rfl); rfl
          · go_wp2_with (fail)
            have hb : Below wN.heap.size wN (wN.alloc (.cells #[.int .i64 0, .int .i64 0] 27)) := (Below.refl _ _).alloc (Nat.le_refl _) _
            have c90 : (wN.alloc (.cells #[.int .i64 0, .int .i64 0] 27)).cell? ⟨wN.heap.size, 0, none⟩ = some (.int .i64 0) := by simp [go_sem]
            have f90 : (wN.alloc (.cells #[.int .i64 0, .int .i64 0] 27)).frozen? ⟨wN.heap.size, 0, none⟩ = false := by simp [go_sem]
            have c91 : (wN.alloc (.cells #[.int .i64 0, .int .i64 0] 27)).cell? ⟨wN.heap.size, 1, none⟩ = some (.int .i64 0) := by simp [go_sem]
            have f91 : (wN.alloc (.cells #[.int .i64 0, .int .i64 0] 27)).frozen? ⟨wN.heap.size, 1, none⟩ = false := by simp [go_sem]
            have l9 : wN.heap.size < (wN.alloc (.cells #[.int .i64 0, .int .i64 0] 27)).heap.size := by simp
            have b9w : wY.heap.size ≤ wN.heap.size := BX.out.size
            have n98 : wN.heap.size ≠ g8 := by omega
            have BX := Lib.hid (BX.out.trans (hb.mono BX.out.size))
            replace c80 := cellk hb l8 c80
            replace f80 := (hb.frozen (p := ⟨g8, 0, none⟩) l8).trans f80
            replace c81 := cellk hb l8 c81
            replace f81 := (hb.frozen (p := ⟨g8, 1, none⟩) l8).trans f81
            replace l8 := Nat.lt_of_lt_of_le l8 hb.size
            refine hK.out _ _ (HS0.out.next (by first | exact BX.out | exact BX.out.drew)) (fun hHeldN => ?_)
            clear hK K hHeld hb
            have hHeld := hHeldN
            clear hHeldN
            try simp only [Act.put, pB, pC, pD]
            generalize (wN.alloc (.cells #[.int .i64 0, .int .i64 0] 27)) = W8 at *
            obtain ⟨g9, hg⟩ : ∃ g, g = wN.heap.size := ⟨_, rfl⟩
            rw [← hg] at c90 c91 f90 f91 l9 n98 ⊢
            have b9 : wY.heap.size ≤ g9 := by omega
            clear hg b9w
            refine onH 12 (oi := ?_) (by kernel_rfl) ?_ ?_ (fun K hK => ?_); rotate_left; (simp only [gA, gB, gC]; exact rfl); rfl
            go_wp2_with (fail)
            refine hK.out _ _ (HS0.out.next (((BX.out.setCell (p := ⟨g8, 0, none⟩) b8 _).setCell (p := ⟨g8, 1, none⟩) b8 _))) (fun hHeldN => ?_)
            clear hK K hHeld
            have hHeld := hHeldN
            clear hHeldN
            try simp only [Act.put, pB, pC, pD]
            refine onH 13 (oi := ?_) (by kernel_rfl) ?_ ?_ (fun K hK => ?_); rotate_left; (simp only [gA, gB, gC]; exact rfl); rfl
            go_wp2_with (fail)
            refine hK.out _ _ (HS0.out.next ?_) (fun hHeldN => ?_)
            · exact ((((BX.out.setCell (p := ⟨g8, 0, none⟩) b8 _).setCell (p := ⟨g8, 1, none⟩) b8 _).setCell (p := ⟨g9, 0, none⟩) b9 _).setCell (p := ⟨g9, 1, none⟩) b9 _)
            clear hK K hHeld
            try simp only [Act.put, pB, pC, pD]
            refine wpAnyH_done (by kernel_rfl) ?_ _
            clear hHeldN
            have i0 := is_some c80
            have i1 := is_some c81
            have i2 := is_some c90
            have i3 := is_some c91
            have hne : g8 ≠ g9 := by omega
            obtain ⟨k0, k1, k2, k3⟩ := set22 hne i0 i1 i2 i3 rfl
            go_wp2_with (fail)
            go_meet
            exact ⟨_, _, rfl, rfl, k0, k1, k2, k3, b8, b9, ((((BX.out.setCell (p := ⟨g8, 0, none⟩) b8 _).setCell (p := ⟨g8, 1, none⟩) b8 _).setCell (p := ⟨g9, 0, none⟩) b9 _).setCell (p := ⟨g9, 1, none⟩) b9 _)⟩
          exact AllReadyH.nil
        refine coH 11 (oi := ?_) ?_ ?_ (fun K hK => ?_) ?_; rotate_left; (simp only [gA, gB, gC]; exact rfl); rfl
        · go_wp2_with (fail)
          have hb : Below W6.heap.size W6 (W6.alloc (.cells #[.int .i64 0, .int .i64 0] 27)) := (Below.refl _ _).alloc (Nat.le_refl _) _
          have c90 : (W6.alloc (.cells #[.int .i64 0, .int .i64 0] 27)).cell? ⟨W6.heap.size, 0, none⟩ = some (.int .i64 0) := by simp [go_sem]
          have f90 : (W6.alloc (.cells #[.int .i64 0, .int .i64 0] 27)).frozen? ⟨W6.heap.size, 0, none⟩ = false := by simp [go_sem]
          have c91 : (W6.alloc (.cells #[.int .i64 0, .int .i64 0] 27)).cell? ⟨W6.heap.size, 1, none⟩ = some (.int .i64 0) := by simp [go_sem]
          have f91 : (W6.alloc (.cells #[.int .i64 0, .int .i64 0] 27)).frozen? ⟨W6.heap.size, 1, none⟩ = false := by simp [go_sem]
          have l9 : W6.heap.size < (W6.alloc (.cells #[.int .i64 0, .int .i64 0] 27)).heap.size := by simp
          have b9w : wY.heap.size ≤ W6.heap.size := BX.out.size
          have n98 : W6.heap.size ≠ g8 := by omega
          have BX := Lib.hid (BX.out.trans (hb.mono BX.out.size))
          replace c80 := cellk hb l8 c80
          replace f80 := (hb.frozen (p := ⟨g8, 0, none⟩) l8).trans f80
          replace c81 := cellk hb l8 c81
          replace f81 := (hb.frozen (p := ⟨g8, 1, none⟩) l8).trans f81
          replace l8 := Nat.lt_of_lt_of_le l8 hb.size
          refine hK.out _ _ (HS0.out.next (by first | exact BX.out | exact BX.out.drew)) (fun hHeldN => ?_)
          clear hK K hHeld hb
          have hHeld := hHeldN
          clear hHeldN
          try simp only [Act.put, pB, pC, pD]
          generalize (W6.alloc (.cells #[.int .i64 0, .int .i64 0] 27)) = W9 at *
          obtain ⟨g9, hg⟩ : ∃ g, g = W6.heap.size := ⟨_, rfl⟩
          rw [← hg] at c90 c91 f90 f91 l9 n98 ⊢
          have b9 : wY.heap.size ≤ g9 := by omega
          clear hg b9w
          refine wpAnyH_ready (rs := [6]) (by kernel_rfl) (by simp) ?_
          refine coH 6 (oi := ?_) ?_ ?_ (fun K hK => ?_) ?_; rotate_left; (simp only [gA, gB, gC]; exact rfl); rfl
          · go_wp2_with (fail)
            refine (ends_any (P q) ⟨(q : Int), s, bk⟩ _ ((HPT.out.kept BX.out).kept (Below.refl _ _).drew) hnq hvf).mono ?_
            rintro e wN ⟨rfl, hb⟩
            unfold two
            replace hb := undrew' hb
            have BX := Lib.hid (BX.out.trans (hb.mono BX.out.size))
            replace c80 := cellk hb l8 c80
            replace f80 := (hb.frozen (p := ⟨g8, 0, none⟩) l8).trans f80
            replace c81 := cellk hb l8 c81
            replace f81 := (hb.frozen (p := ⟨g8, 1, none⟩) l8).trans f81
            replace l8 := Nat.lt_of_lt_of_le l8 hb.size
            replace c90 := cellk hb l9 c90
            replace f90 := (hb.frozen (p := ⟨g9, 0, none⟩) l9).trans f90
            replace c91 := cellk hb l9 c91
            replace f91 := (hb.frozen (p := ⟨g9, 1, none⟩) l9).trans f91
            replace l9 := Nat.lt_of_lt_of_le l9 hb.size
            refine hK.out _ _ (HS0.out.next BX.out) (fun hHeldN => ?_)
            clear hK K hHeld hb
            have hHeld := hHeldN
            clear hHeldN
            try simp only [Act.put, pB, pC, pD]
            refine tkH (by assumption) 7 (oi := ?_) (v := ?_) ?_ ?_ ?_ ?_ ?_ ?_ ?_ ?_; rotate_left 2; (simp only [gA, gB, gC]; exact rfl); kernel_rfl; kernel_rfl; kernel_rfl; exact fun _ _ _ h => h; rfl; (intro w' hSw; (try dsimp only at hSw); go_simp; with_reducible rfl); simp only [Act.put, pB, pC, pD]
            refine tkH (by assumption) 8 (oi := ?_) (v := ?_) ?_ ?_ ?_ ?_ ?_ ?_ ?_ ?_; rotate_left 2; (simp only [gA, gB, gC]; exact rfl); kernel_rfl; kernel_rfl; kernel_rfl; exact fun _ _ _ h => h; rfl; (intro w' hSw; (try dsimp only at hSw); go_simp; with_reducible rfl); simp only [Act.put, pB, pC, pD]
            refine tkH (by assumption) 9 (oi := ?_) (v := ?_) ?_ ?_ ?_ ?_ ?_ ?_ ?_ ?_; rotate_left 2; (simp only [gA, gB, gC]; exact rfl); kernel_rfl; kernel_rfl; kernel_rfl; exact fun _ _ _ h => h; rfl; (intro w' hSw; (try dsimp only at hSw); go_simp; with_reducible rfl); simp only [Act.put, pB, pC, pD]
            refine onH 12 (oi := ?_) (by kernel_rfl) ?_ ?_ (fun K hK => ?_); rotate_left; (simp only [gA, gB, gC]; exact rfl); rfl
            go_wp2_with (fail)
            refine hK.out _ _ (HS0.out.next (((BX.out.setCell (p := ⟨g8, 0, none⟩) b8 _).setCell (p := ⟨g8, 1, none⟩) b8 _))) (fun hHeldN => ?_)
            clear hK K hHeld
            have hHeld := hHeldN
            clear hHeldN
            try simp only [Act.put, pB, pC, pD]
            refine onH 13 (oi := ?_) (by kernel_rfl) ?_ ?_ (fun K hK => ?_); rotate_left; (simp only [gA, gB, gC]; exact rfl); rfl
            go_wp2_with (fail)
            refine hK.out _ _ (HS0.out.next ?_) (fun hHeldN => ?_)
            · exact ((((BX.out.setCell (p := ⟨g8, 0, none⟩) b8 _).setCell (p := ⟨g8, 1, none⟩) b8 _).setCell (p := ⟨g9, 0, none⟩) b9 _).setCell (p := ⟨g9, 1, none⟩) b9 _)
            clear hK K hHeld
            try simp only [Act.put, pB, pC, pD]
            refine wpAnyH_done (by kernel_rfl) ?_ _
            clear hHeldN
            have i0 := is_some c80
            have i1 := is_some c81
            have i2 := is_some c90
            have i3 := is_some c91
            have hne : g8 ≠ g9 := by omega
            obtain ⟨k0, k1, k2, k3⟩ := set22 hne i0 i1 i2 i3 rfl
            go_wp2_with (fail)
            go_meet
            exact ⟨_, _, rfl, rfl, k0, k1, k2, k3, b8, b9, ((((BX.out.setCell (p := ⟨g8, 0, none⟩) b8 _).setCell (p := ⟨g8, 1, none⟩) b8 _).setCell (p := ⟨g9, 0, none⟩) b9 _).setCell (p := ⟨g9, 1, none⟩) b9 _)⟩
          exact AllReadyH.nil
        exact AllReadyH.nil
      refine coH 11 (oi := ?_) ?_ ?_ (fun K hK => ?_) ?_; rotate_left; (simp only [gA, gB, gC]; exact rfl); rfl
      · go_wp2_with (fail)
        have hb : Below wY.heap.size wY (wY.alloc (.cells #[.int .i64 0, .int .i64 0] 27)) := (Below.refl _ _).alloc (Nat.le_refl _) _
        have c90 : (wY.alloc (.cells #[.int .i64 0, .int .i64 0] 27)).cell? ⟨wY.heap.size, 0, none⟩ = some (.int .i64 0) := by simp [go_sem]
        have f90 : (wY.alloc (.cells #[.int .i64 0, .int .i64 0] 27)).frozen? ⟨wY.heap.size, 0, none⟩ = false := by simp [go_sem]
        have c91 : (wY.alloc (.cells #[.int .i64 0, .int .i64 0] 27)).cell? ⟨wY.heap.size, 1, none⟩ = some (.int .i64 0) := by simp [go_sem]
        have f91 : (wY.alloc (.cells #[.int .i64 0, .int .i64 0] 27)).frozen? ⟨wY.heap.size, 1, none⟩ = false := by simp [go_sem]
        have l9 : wY.heap.size < (wY.alloc (.cells #[.int .i64 0, .int .i64 0] 27)).heap.size := by simp
        have b9w : wY.heap.size ≤ wY.heap.size := BX.out.size
        have BX := Lib.hid (BX.out.trans (hb.mono BX.out.size))
        refine hK.out _ _ (HS0.out.next (by first | exact BX.out | exact BX.out.drew)) (fun hHeldN => ?_)
        clear hK K hHeld hb
        have hHeld := hHeldN
        clear hHeldN
        try simp only [Act.put, pB, pC, pD]
        generalize (wY.alloc (.cells #[.int .i64 0, .int .i64 0] 27)) = W11 at *
        obtain ⟨g9, hg⟩ : ∃ g, g = wY.heap.size := ⟨_, rfl⟩
        rw [← hg] at c90 c91 f90 f91 l9  ⊢
        have b9 : wY.heap.size ≤ g9 := by omega
        clear hg b9w
        refine wpAnyH_ready (rs := [6, 10]) (by kernel_rfl) (by simp) ?_
        refine coH 6 (oi := ?_) ?_ ?_ (fun K hK => ?_) ?_; rotate_left; (simp only [gA, gB, gC]; exact rfl); rfl
        · go_wp2_with (fail)
          refine (ends_any (P q) ⟨(q : Int), s, bk⟩ _ ((HPT.out.kept BX.out).kept (Below.refl _ _).drew) hnq hvf).mono ?_
          rintro e wN ⟨rfl, hb⟩
          unfold two
          replace hb := undrew' hb
          have BX := Lib.hid (BX.out.trans (hb.mono BX.out.size))
          replace c90 := cellk hb l9 c90
          replace f90 := (hb.frozen (p := ⟨g9, 0, none⟩) l9).trans f90
          replace c91 := cellk hb l9 c91
          replace f91 := (hb.frozen (p := ⟨g9, 1, none⟩) l9).trans f91
          replace l9 := Nat.lt_of_lt_of_le l9 hb.size
          refine hK.out _ _ (HS0.out.next BX.out) (fun hHeldN => ?_)
          clear hK K hHeld hb
          have hHeld := hHeldN
          clear hHeldN
          try simp only [Act.put, pB, pC, pD]
          refine tkH (by assumption) 7 (oi := ?_) (v := ?_) ?_ ?_ ?_ ?_ ?_ ?_ ?_ ?_; rotate_left 2; (simp only [gA, gB, gC]; exact rfl); kernel_rfl; kernel_rfl; kernel_rfl; exact fun _ _ _ h => h; rfl; (intro w' hSw; (try dsimp only at hSw); go_simp; with_reducible rfl); simp only [Act.put, pB, pC, pD]
          refine tkH (by assumption) 8 (oi := ?_) (v := ?_) ?_ ?_ ?_ ?_ ?_ ?_ ?_ ?_; rotate_left 2; (simp only [gA, gB, gC]; exact rfl); kernel_rfl; kernel_rfl; kernel_rfl; exact fun _ _ _ h => h; rfl; (intro w' hSw; (try dsimp only at hSw); go_simp; with_reducible rfl); simp only [Act.put, pB, pC, pD]
          refine tkH (by assumption) 9 (oi := ?_) (v := ?_) ?_ ?_ ?_ ?_ ?_ ?_ ?_ ?_; rotate_left 2; (simp only [gA, gB, gC]; exact rfl); kernel_rfl; kernel_rfl; kernel_rfl; exact fun _ _ _ h => h; rfl; (intro w' hSw; (try dsimp only at hSw); go_simp; with_reducible rfl); simp only [Act.put, pB, pC, pD]
          refine wpAnyH_ready (rs := [10]) (by kernel_rfl) (by simp) ?_
          refine coH 10 (oi := ?_) ?_ ?_ (fun K hK => ?_) ?_; rotate_left; (simp only [gA, gB, gC]; exact rfl); rfl
          · go_wp2_with (fail)
            have hb : Below wN.heap.size wN (wN.alloc (.cells #[.int .i64 0, .int .i64 0] 27)) := (Below.refl _ _).alloc (Nat.le_refl _) _
            have c80 : (wN.alloc (.cells #[.int .i64 0, .int .i64 0] 27)).cell? ⟨wN.heap.size, 0, none⟩ = some (.int .i64 0) := by simp [go_sem]
            have f80 : (wN.alloc (.cells #[.int .i64 0, .int .i64 0] 27)).frozen? ⟨wN.heap.size, 0, none⟩ = false := by simp [go_sem]
            have c81 : (wN.alloc (.cells #[.int .i64 0, .int .i64 0] 27)).cell? ⟨wN.heap.size, 1, none⟩ = some (.int .i64 0) := by simp [go_sem]
            have f81 : (wN.alloc (.cells #[.int .i64 0, .int .i64 0] 27)).frozen? ⟨wN.heap.size, 1, none⟩ = false := by simp [go_sem]
            have l8 : wN.heap.size < (wN.alloc (.cells #[.int .i64 0, .int .i64 0] 27)).heap.size := by simp
            have b8w : wY.heap.size ≤ wN.heap.size := BX.out.size
            have n89 : wN.heap.size ≠ g9 := by omega
            have BX := Lib.hid (BX.out.trans (hb.mono BX.out.size))
            replace c90 := cellk hb l9 c90
            replace f90 := (hb.frozen (p := ⟨g9, 0, none⟩) l9).trans f90
            replace c91 := cellk hb l9 c91
            replace f91 := (hb.frozen (p := ⟨g9, 1, none⟩) l9).trans f91
            replace l9 := Nat.lt_of_lt_of_le l9 hb.size
            refine hK.out _ _ (HS0.out.next (by first | exact BX.out | exact BX.out.drew)) (fun hHeldN => ?_)
            clear hK K hHeld hb
            have hHeld := hHeldN
            clear hHeldN
            try simp only [Act.put, pB, pC, pD]
            generalize (wN.alloc (.cells #[.int .i64 0, .int .i64 0] 27)) = W13 at *
            obtain ⟨g8, hg⟩ : ∃ g, g = wN.heap.size := ⟨_, rfl⟩
            rw [← hg] at c80 c81 f80 f81 l8 n89 ⊢
            have b8 : wY.heap.size ≤ g8 := by omega
            clear hg b8w
            refine onH 12 (oi := ?_) (by kernel_rfl) ?_ ?_ (fun K hK => ?_); rotate_left; (simp only [gA, gB, gC]; exact rfl); rfl
            go_wp2_with (fail)
            refine hK.out _ _ (HS0.out.next (((BX.out.setCell (p := ⟨g8, 0, none⟩) b8 _).setCell (p := ⟨g8, 1, none⟩) b8 _))) (fun hHeldN => ?_)
            clear hK K hHeld
            have hHeld := hHeldN
            clear hHeldN
            try simp only [Act.put, pB, pC, pD]
            refine onH 13 (oi := ?_) (by kernel_rfl) ?_ ?_ (fun K hK => ?_); rotate_left; (simp only [gA, gB, gC]; exact rfl); rfl
            go_wp2_with (fail)
            refine hK.out _ _ (HS0.out.next ?_) (fun hHeldN => ?_)
            · exact ((((BX.out.setCell (p := ⟨g8, 0, none⟩) b8 _).setCell (p := ⟨g8, 1, none⟩) b8 _).setCell (p := ⟨g9, 0, none⟩) b9 _).setCell (p := ⟨g9, 1, none⟩) b9 _)
            clear hK K hHeld
            try simp only [Act.put, pB, pC, pD]
            refine wpAnyH_done (by kernel_rfl) ?_ _
            clear hHeldN
            have i0 := is_some c80
            have i1 := is_some c81
            have i2 := is_some c90
            have i3 := is_some c91
            have hne : g8 ≠ g9 := by omega
            obtain ⟨k0, k1, k2, k3⟩ := set22 hne i0 i1 i2 i3 rfl
            go_wp2_with (fail)
            go_meet
            exact ⟨_, _, rfl, rfl, k0, k1, k2, k3, b8, b9, ((((BX.out.setCell (p := ⟨g8, 0, none⟩) b8 _).setCell (p := ⟨g8, 1, none⟩) b8 _).setCell (p := ⟨g9, 0, none⟩) b9 _).setCell (p := ⟨g9, 1, none⟩) b9 _)⟩
          exact AllReadyH.nil
        refine coH 10 (oi := ?_) ?_ ?_ (fun K hK => ?_) ?_; rotate_left; (simp only [gA, gB, gC]; exact rfl); rfl
        · go_wp2_with (fail)
          have hb : Below W11.heap.size W11 (W11.alloc (.cells #[.int .i64 0, .int .i64 0] 27)) := (Below.refl _ _).alloc (Nat.le_refl _) _
          have c80 : (W11.alloc (.cells #[.int .i64 0, .int .i64 0] 27)).cell? ⟨W11.heap.size, 0, none⟩ = some (.int .i64 0) := by simp [go_sem]
          have f80 : (W11.alloc (.cells #[.int .i64 0, .int .i64 0] 27)).frozen? ⟨W11.heap.size, 0, none⟩ = false := by simp [go_sem]
          have c81 : (W11.alloc (.cells #[.int .i64 0, .int .i64 0] 27)).cell? ⟨W11.heap.size, 1, none⟩ = some (.int .i64 0) := by simp [go_sem]
          have f81 : (W11.alloc (.cells #[.int .i64 0, .int .i64 0] 27)).frozen? ⟨W11.heap.size, 1, none⟩ = false := by simp [go_sem]
          have l8 : W11.heap.size < (W11.alloc (.cells #[.int .i64 0, .int .i64 0] 27)).heap.size := by simp
          have b8w : wY.heap.size ≤ W11.heap.size := BX.out.size
          have n89 : W11.heap.size ≠ g9 := by omega
          have BX := Lib.hid (BX.out.trans (hb.mono BX.out.size))
          replace c90 := cellk hb l9 c90
          replace f90 := (hb.frozen (p := ⟨g9, 0, none⟩) l9).trans f90
          replace c91 := cellk hb l9 c91
          replace f91 := (hb.frozen (p := ⟨g9, 1, none⟩) l9).trans f91
          replace l9 := Nat.lt_of_lt_of_le l9 hb.size
          refine hK.out _ _ (HS0.out.next (by first | exact BX.out | exact BX.out.drew)) (fun hHeldN => ?_)
          clear hK K hHeld hb
          have hHeld := hHeldN
          clear hHeldN
          try simp only [Act.put, pB, pC, pD]
          generalize (W11.alloc (.cells #[.int .i64 0, .int .i64 0] 27)) = W14 at *
          obtain ⟨g8, hg⟩ : ∃ g, g = W11.heap.size := ⟨_, rfl⟩
          rw [← hg] at c80 c81 f80 f81 l8 n89 ⊢
          have b8 : wY.heap.size ≤ g8 := by omega
          clear hg b8w
          refine wpAnyH_ready (rs := [6]) (by kernel_rfl) (by simp) ?_
          refine coH 6 (oi := ?_) ?_ ?_ (fun K hK => ?_) ?_; rotate_left; (simp only [gA, gB, gC]; exact rfl); rfl
          · go_wp2_with (fail)
            refine (ends_any (P q) ⟨(q : Int), s, bk⟩ _ ((HPT.out.kept BX.out).kept (Below.refl _ _).drew) hnq hvf).mono ?_
            rintro e wN ⟨rfl, hb⟩
            unfold two
            replace hb := undrew' hb
            have BX := Lib.hid (BX.out.trans (hb.mono BX.out.size))
            replace c90 := cellk hb l9 c90
            replace f90 := (hb.frozen (p := ⟨g9, 0, none⟩) l9).trans f90
            replace c91 := cellk hb l9 c91
            replace f91 := (hb.frozen (p := ⟨g9, 1, none⟩) l9).trans f91
            replace l9 := Nat.lt_of_lt_of_le l9 hb.size
            replace c80 := cellk hb l8 c80
            replace f80 := (hb.frozen (p := ⟨g8, 0, none⟩) l8).trans f80
            replace c81 := cellk hb l8 c81
            replace f81 := (hb.frozen (p := ⟨g8, 1, none⟩) l8).trans f81
            replace l8 := Nat.lt_of_lt_of_le l8 hb.size
            refine hK.out _ _ (HS0.out.next BX.out) (fun hHeldN => ?_)
            clear hK K hHeld hb
            have hHeld := hHeldN
            clear hHeldN
            try simp only [Act.put, pB, pC, pD]
            refine tkH (by assumption) 7 (oi := ?_) (v := ?_) ?_ ?_ ?_ ?_ ?_ ?_ ?_ ?_; rotate_left 2; (simp only [gA, gB, gC]; exact rfl); kernel_rfl; kernel_rfl; kernel_rfl; exact fun _ _ _ h => h; rfl; (intro w' hSw; (try dsimp only at hSw); go_simp; with_reducible rfl); simp only [Act.put, pB, pC, pD]
            refine tkH (by assumption) 8 (oi := ?_) (v := ?_) ?_ ?_ ?_ ?_ ?_ ?_ ?_ ?_; rotate_left 2; (simp only [gA, gB, gC]; exact rfl); kernel_rfl; kernel_rfl; kernel_rfl; exact fun _ _ _ h => h; rfl; (intro w' hSw; (try dsimp only at hSw); go_simp; with_reducible rfl); simp only [Act.put, pB, pC, pD]
            refine tkH (by assumption) 9 (oi := ?_) (v := ?_) ?_ ?_ ?_ ?_ ?_ ?_ ?_ ?_; rotate_left 2; (simp only [gA, gB, gC]; exact rfl); kernel_rfl; kernel_rfl; kernel_rfl; exact fun _ _ _ h => h; rfl; (intro w' hSw; (try dsimp only at hSw); go_simp; with_reducible rfl); simp only [Act.put, pB, pC, pD]
            refine onH 12 (oi := ?_) (by kernel_rfl) ?_ ?_ (fun K hK => ?_); rotate_left; (simp only [gA, gB, gC]; exact rfl); rfl
            go_wp2_with (fail)
            refine hK.out _ _ (HS0.out.next (((BX.out.setCell (p := ⟨g8, 0, none⟩) b8 _).setCell (p := ⟨g8, 1, none⟩) b8 _))) (fun hHeldN => ?_)
            clear hK K hHeld
            have hHeld := hHeldN
            clear hHeldN
            try simp only [Act.put, pB, pC, pD]
            refine onH 13 (oi := ?_) (by kernel_rfl) ?_ ?_ (fun K hK => ?_); rotate_left; (simp only [gA, gB, gC]; exact rfl); rfl
            go_wp2_with (fail)
            refine hK.out _ _ (HS0.out.next ?_) (fun hHeldN => ?_)
            · exact ((((BX.out.setCell (p := ⟨g8, 0, none⟩) b8 _).setCell (p := ⟨g8, 1, none⟩) b8 _).setCell (p := ⟨g9, 0, none⟩) b9 _).setCell (p := ⟨g9, 1, none⟩) b9 _)
            clear hK K hHeld
            try simp only [Act.put, pB, pC, pD]
            refine wpAnyH_done (by kernel_rfl) ?_ _
            clear hHeldN
            have i0 := is_some c80
            have i1 := is_some c81
            have i2 := is_some c90
            have i3 := is_some c91
            have hne : g8 ≠ g9 := by omega
            obtain ⟨k0, k1, k2, k3⟩ := set22 hne i0 i1 i2 i3 rfl
            go_wp2_with (fail)
            go_meet
            exact ⟨_, _, rfl, rfl, k0, k1, k2, k3, b8, b9, ((((BX.out.setCell (p := ⟨g8, 0, none⟩) b8 _).setCell (p := ⟨g8, 1, none⟩) b8 _).setCell (p := ⟨g9, 0, none⟩) b9 _).setCell (p := ⟨g9, 1, none⟩) b9 _)⟩
          exact AllReadyH.nil
        exact AllReadyH.nil
      exact AllReadyH.nil

    case rest =>
      obtain ⟨g, h, rfl, rfl, k0, k1, k2, k3, hgb, hhb, hbc⟩ := hcut
      have x1 : g ≠ w.heap.size + 1 := by omega
      have x2 : g ≠ w.heap.size + 1 + 1 := by omega
      have x3 : h ≠ w.heap.size + 1 := by omega
      have x4 : h ≠ w.heap.size + 1 + 1 := by omega
      have HBC := Lib.hid (HB1.out.trans (hbc.mono HB1.out.size))
      replace r10 := cellk hbc h2 r10
      replace r11 := cellk hbc h2 r11
      replace r20 := cellk hbc h1 r20
      replace r21 := cellk hbc h1 r21
      replace z10 := (hbc.frozen (p := ⟨w.heap.size + 1, 0, none⟩) h2).trans z10
      replace z11 := (hbc.frozen (p := ⟨w.heap.size + 1, 1, none⟩) h2).trans z11
      replace z20 := (hbc.frozen (p := ⟨w.heap.size + 1 + 1, 0, none⟩) h1).trans z20
      replace z21 := (hbc.frozen (p := ⟨w.heap.size + 1 + 1, 1, none⟩) h1).trans z21
      have J2 := Lib.hid (is_some r10)
      have J3 := Lib.hid (is_some r11)
      have J4 := Lib.hid (is_some r20)
      have J5 := Lib.hid (is_some r21)
      rw [Int.toNat_natCast] at R
      generalize (P q).X (enB (P q) ⟨q, s, bk⟩) = ex at *
      generalize (P q).Y (enB (P q) ⟨q, s, bk⟩) = ey at *
      generalize (P q).X (enE (P q) ⟨q, s, bk⟩) = fx at *
      generalize (P q).Y (enE (P q) ⟨q, s, bk⟩) = fy at *
      clear hbc t0 t1 r00 r01 r02 BX HS0 HPT hvf hnq HB1
      go_wp2_with (fail)
      go_region
      all_goals
        generalize hW : World.setCell _ _ _ = W
        obtain ⟨g0, g1, g2, g3⟩ := set22 (by omega) J2.out J3.out J4.out J5.out hW
        have HB : Hid (Below w.heap.size w W) := by rw [← hW]; exact ((((HBC.out).setCell (by dsimp only; omega) _).setCell (by dsimp only; omega) _).setCell (by dsimp only; omega) _).setCell (by dsimp only; omega) _
        clear hW
        go_wp2
        exact bodyPost_ret (v := .tuple #[.agg #[.int .i64 ex, .int .i64 ey], .agg #[.int .i64 fx, .int .i64 fy], .int .i64 0]) (by simp [results, Try.results12, go_sem, g0, g1, g2, g3]) rfl ⟨by rw [R.out], by first | exact HB.out | exact HB.out.drew | exact bdrewN HB.out _⟩
  · have R := Lib.hid (show endsV m P ⟨p, s, bk⟩ = .tuple #[.agg #[.int .i64 0, .int .i64 0], .agg #[.int .i64 0, .int .i64 0], .int .i64 (oneF m P ⟨p, s, bk⟩)] by simp [endsV, hz])
    have hz' : (oneF m P ⟨p, s, bk⟩ != 0) = true := by simpa using hz
    clear hz
    have J2 := Lib.hid (is_some r10)
    have J3 := Lib.hid (is_some r11)
    have J4 := Lib.hid (is_some r20)
    have J5 := Lib.hid (is_some r21)
    go_wp2_with (fail)
    generalize hW : World.setCell _ _ _ = W
    obtain ⟨g0, g1, g2, g3⟩ := set22 (by omega) J2.out J3.out J4.out J5.out hW
    have HB : Hid (Below w.heap.size w W) := by rw [← hW]; exact ((((HB1.out).setCell (by dsimp only; omega) _).setCell (by dsimp only; omega) _).setCell (by dsimp only; omega) _).setCell (by dsimp only; omega) _
    clear hW
    go_wp2
    exact bodyPost_ret (v := .tuple #[.agg #[.int .i64 0, .int .i64 0], .agg #[.int .i64 0, .int .i64 0], .int .i64 (oneF m P ⟨p, s, bk⟩)]) (by simp [results, Try.results12, go_sem, g0, g1, g2, g3]) rfl ⟨by rw [R.out], by first | exact HB.out | exact HB.out.drew | exact bdrewN HB.out _⟩
end Go.Proofs.Ytapihgmokgkaaaa

/- The law PrintedBothWays. -/
import Derived.Test.YtcahjkaphpeobaaYr
import Derived.Test.YtcahjkaphpeobaaYm
import Derived.Test.YtcahjkaphpeobaaYu
import Derived.Test.YtcahjkaphpeobaaRdy
import Derived.Deep.Cut
import Derived.BigQuiet
import Derived.Deep.QuietTactic
set_option linter.unusedSimpArgs false
set_option linter.unusedVariables false
namespace Go.Proofs.Ytcahjkaphpeobaa
open Go.RowKit
theorem vis_fits {t k : Nat} {L : Nat → Pth} {s : Nat} {bk : Bool} (h : psF t L = 0) (hk : k < t) (hs : s < (L k).n) (h1 : (L k).k = true → bk = false) (h2 : (L k).k = false → s = 0) : oneF t L ⟨(k : Int), (s : Int), bk⟩ = 0 := by
  unfold oneF
  rw [if_neg (by simp [h])]
  unfold vF
  dsimp only
  rw [if_neg (by omega), if_neg (by decide), if_neg (by
    rw [Int.toNat_natCast]
    rintro (⟨e1, e2⟩ | ⟨e1, e2⟩)
    · rw [h1 e1] at e2; cases e2
    · rw [h2 e1] at e2; simp at e2), if_neg (by rw [Int.toNat_natCast]; omega)]
theorem prX_closed {p : Pth} {s : Nat} {kk : Int} (hk : p.k = true) (hs : s < p.n) (Z : Nat → Int) : prX p ⟨kk, (s : Int), false⟩ Z 0 = Z s ∧ prX p ⟨kk, (s : Int), false⟩ Z p.n = Z s := by
  unfold prX
  rw [if_pos hk]
  simp only [Int.toNat_natCast]
  unfold ap
  constructor
  · rw [if_pos (by omega)]; rfl
  · rw [if_neg (by omega)]; congr 1; omega
theorem pts_of {w : World} {a : Option Addr} {t k : Nat} {L : Nat → Pth} (h : PathsR w a t L) (hk : k < t) : PtsR w (L k).a (L k).n (L k).X (L k).Y := by
  rcases h with h | ⟨b, off, rfl, hb, hd⟩
  · omega
  · exact (hd k hk).2
theorem rv_rv (n : Nat) (X : Nat → Int) : ∀ i, i < n → rv n (rv n X) i = X i := by
  intro i hi
  unfold rv
  congr 1
  omega
set_option maxRecDepth 100000 in
set_option maxHeartbeats 32000000 in
theorem printedBothWays_walk (a0 : Option Addr) (len0 cap0 : Nat) (z0 : List Int) (w : World) (w0 : IsRow .i64 w a0 len0 cap0 z0) :
    Calls Try.prog 3 #[.slice a0 len0 cap0] w fun e w' => e = .returned (.bool true) ∧ Below w.heap.size w w' := by
  have HS0 := Lib.hid (Strm.start w0)
  go_enter Try.func3, Try.ntmps3
  go_wp2_with (fail)
  have HM0 : Hid (Mut (· = w.heap.size) w (w.alloc (.cells #[.slice a0 len0 cap0, .int .i64 0] 25))) := Lib.hid ((Mut.refl _ w).alloc _)
  generalize (w.alloc (.cells #[.slice a0 len0 cap0, .int .i64 0] 25)) = ws at *
  obtain ⟨B, hBw⟩ : ∃ B, B = w.heap.size := ⟨_, rfl⟩
  rw [← hBw] at HS0 HM0 ⊢
  have HBW := Lib.hid hBw
  clear hBw
  refine (rightPaths_any 4 (by omega) B 0 _ HS0.out (by omega)).mono ?_
  rintro e w1 ⟨a, t, c, L, rfl, ht, hps, hpo⟩
  have HPO1 := Lib.hid hpo
  have HPS := Lib.hid hps
  have HPG := Lib.hid (fun i (hi : i < t) => pgood (firstE_all hps i hi))
  clear hps hpo HS0
  go_wp2_with (fail)
  go_loopw [20] (fun iv wr => ∃ k : Nat, k ≤ t ∧ iv = .int .i64 k ∧ PO ws wr B (420 + k) (.slice a t c) t L) (fun iv _ => t - (intOf iv).toNat)
  case atStart => exact ⟨0, by omega, rfl, HPO1.out.more (by omega) (by omega)⟩
  case round =>
    obtain ⟨k, hk, rfl, hpo⟩ := hrel
    have HPO := Lib.hid hpo
    clear hpo HPO1
    by_cases hlt : k < t
    · have hPA := HPO.out.fin
      have HB4 := Lib.hid hPA.2
      rcases hPA.1 with h0 | ⟨g, off, rfl, hg, hd⟩
      · omega
      obtain ⟨⟨c0, c1⟩, hpt⟩ := hd k hlt
      have hB := HPO.out.l
      have hBw := HPO.out.m.size
      have hn4 := (hPA.2 k hlt).1
      have hnc := (hPA.2 k hlt).2
      have hnp := (HPG.out k hlt).pos
      clear hd hPA
      rcases id hpt with h0 | ⟨bx, ox, hax, hbx, -⟩
      · omega
      obtain ⟨kc, hkc⟩ : ∃ y, (L k).k = y := ⟨_, rfl⟩
      have HKC := Lib.hid hkc
      rw [hkc] at c1
      obtain ⟨nk, hnk⟩ : ∃ y, (L k).n = y := ⟨_, rfl⟩
      have HNK := Lib.hid hnk
      rw [hnk] at c0 hn4 hnc hnp
      obtain ⟨ck, hck⟩ : ∃ y, (L k).c = y := ⟨_, rfl⟩
      have HCK := Lib.hid hck
      rw [hck] at c0 hnc
      have HAX := Lib.hid hax
      rw [hax] at c0
      clear hkc hnk hck hax hpt
      go_upto_region 8 with (fail)
      have hb : Below wr.heap.size wr (((wr.alloc (.cells #[.slice (some ⟨bx, ox, none⟩) nk ck, .bool kc] 30)).alloc (.cells #[.int .i64 k, .int .i64 0, .bool false] 32)).alloc (.cells #[.int .i64 k, .int .i64 0, .bool (!kc)] 32)) := (by repeat (first | exact Below.refl _ _ | assumption | refine Below.drew ?_ | refine bdrewN ?_ _ | refine Below.setCell ?_ (by first | omega | (simp <;> omega)) _ | refine Below.alloc ?_ (by first | omega | (simp <;> omega)) _))
      have HX := Lib.hid (show (((wr.alloc (.cells #[.slice (some ⟨bx, ox, none⟩) nk ck, .bool kc] 30)).alloc (.cells #[.int .i64 k, .int .i64 0, .bool false] 32)).alloc (.cells #[.int .i64 k, .int .i64 0, .bool (!kc)] 32)).heap[wr.heap.size]? = some (.cells #[.slice (some ⟨bx, ox, none⟩) nk ck, .bool kc] 30 (0, 0)) from (by repeat (first | (refine heap_new ?_; first | rfl | (simp; done)) | rw [Below.heap_setCell _ _ _ _ (by simp <;> omega)] | rw [Below.heap_alloc _ _ _ (by simp <;> omega)])))
      have HV := Lib.hid (show (((wr.alloc (.cells #[.slice (some ⟨bx, ox, none⟩) nk ck, .bool kc] 30)).alloc (.cells #[.int .i64 k, .int .i64 0, .bool false] 32)).alloc (.cells #[.int .i64 k, .int .i64 0, .bool (!kc)] 32)).heap[wr.heap.size + 1]? = some (.cells #[.int .i64 k, .int .i64 0, .bool false] 32 (0, 0)) from (by repeat (first | (refine heap_new ?_; first | rfl | (simp; done)) | rw [Below.heap_setCell _ _ _ _ (by simp <;> omega)] | rw [Below.heap_alloc _ _ _ (by simp <;> omega)])))
      have HW := Lib.hid (show (((wr.alloc (.cells #[.slice (some ⟨bx, ox, none⟩) nk ck, .bool kc] 30)).alloc (.cells #[.int .i64 k, .int .i64 0, .bool false] 32)).alloc (.cells #[.int .i64 k, .int .i64 0, .bool (!kc)] 32)).heap[wr.heap.size + 1 + 1]? = some (.cells #[.int .i64 k, .int .i64 0, .bool (!kc)] 32 (0, 0)) from (by repeat (first | (refine heap_new ?_; first | rfl | (simp; done)) | rw [Below.heap_setCell _ _ _ _ (by simp <;> omega)] | rw [Below.heap_alloc _ _ _ (by simp <;> omega)])))
      have HMX := Lib.hid (show Mut (fun b => b = B ∨ wr.heap.size ≤ b) wr (((wr.alloc (.cells #[.slice (some ⟨bx, ox, none⟩) nk ck, .bool kc] 30)).alloc (.cells #[.int .i64 k, .int .i64 0, .bool false] 32)).alloc (.cells #[.int .i64 k, .int .i64 0, .bool (!kc)] 32)) from (((Mut.refl _ _).alloc _).alloc _).alloc _)
      have HSX := Lib.hid (StrmY.below HPO.out.s hb)
      have hnx := hb.size
      clear hb c0 c1
      generalize (((wr.alloc (.cells #[.slice (some ⟨bx, ox, none⟩) nk ck, .bool kc] 30)).alloc (.cells #[.int .i64 k, .int .i64 0, .bool false] 32)).alloc (.cells #[.int .i64 k, .int .i64 0, .bool (!kc)] 32)) = w4 at *
      obtain ⟨q, hq⟩ : ∃ y, wr.heap.size = y := ⟨_, rfl⟩
      rw [hq] at HX HV HW HMX hg hbx hBw hnx
      try rw [hq]
      have HQ := Lib.hid hq
      clear hq
      rcases kc with _ | _
      · have x0 : w4.cell? ⟨q, 0, none⟩ = some (.slice (some ⟨bx, ox, none⟩) nk ck) := cell_of HX.out (i := 0) rfl
        have x1 : w4.cell? ⟨q, 1, none⟩ = some (.bool false) := cell_of HX.out (i := 1) rfl
        have v0 : w4.cell? ⟨q + 1, 0, none⟩ = some (.int .i64 k) := cell_of HV.out (i := 0) rfl
        have v1 : w4.cell? ⟨q + 1, 1, none⟩ = some (.int .i64 0) := cell_of HV.out (i := 1) rfl
        have v2 : w4.cell? ⟨q + 1, 2, none⟩ = some (.bool false) := cell_of HV.out (i := 2) rfl
        have HFa := Lib.hid (vis_fits (s := 0) (bk := false) HPS.out hlt (by rw [HNK.out]; omega) (by intro h; first | rfl | (rw [HKC.out] at h; cases h)) (by intro h; first | rfl | (rw [HKC.out] at h; cases h)))
        have hpts : Calls Try.prog 6 #[.slice (some ⟨g, off, none⟩) t c, .agg #[.int .i64 k, .int .i64 0, .bool false]] w4 (PointsE t L ⟨(k : Int), 0, false⟩ w4) :=
          Points_any (some ⟨g, off, none⟩) t c L ⟨(k : Int), 0, false⟩ w4 (by omega) (HPO.out.next (by rw [HQ.out]; exact HMX.out) HSX.out).fin.1 (fun i hi => by have := (HB4.out i hi).1; omega) (fun i hi => (HB4.out i hi).2) (by unfold sm; dsimp only; omega)
        go_wp2_with (fail)
        refine hpts.mono ?_
        rintro e w7 ⟨h1, -, hb⟩
        obtain ⟨aa, ca, rfl, hown⟩ := h1 HFa.out
        dsimp only at hown
        rw [Int.toNat_natCast] at hown
        try rw [show (((k : Int)).toNat) = k from Int.toNat_natCast k]
        rw [show prN (L k) = nk by unfold prN; rw [HKC.out, HNK.out]; rfl] at hown ⊢
        have HRa := Lib.hid hown
        have hrba : ∀ b, (Value.slice aa (nk) ca).ownBlock = some b → w4.heap.size ≤ b := fun b hb => (hown.lt b hb).1
        replace HX := Lib.hid (heap_keep hb HX.out)
        replace HV := Lib.hid (heap_keep hb HV.out)
        replace HW := Lib.hid (heap_keep hb HW.out)
        replace HSX := Lib.hid (StrmY.below HSX.out hb)
        replace HMX := Lib.hid (HMX.out.below hb)
        have hnx7 : q ≤ w7.heap.size := Nat.le_trans hnx hb.size
        have hq7 := lt_of_heap HX.out
        have hrla : ∀ b, (Value.slice aa nk ca).ownBlock = some b → b < w7.heap.size := fun b hb => (HRa.out.lt b hb).2
        clear v0 v1 v2
        clear hb h1 hown hpts
        have v0 : w7.cell? ⟨q + 1 + 1, 0, none⟩ = some (.int .i64 k) := cell_of HW.out (i := 0) rfl
        have v1 : w7.cell? ⟨q + 1 + 1, 1, none⟩ = some (.int .i64 0) := cell_of HW.out (i := 1) rfl
        have v2 : w7.cell? ⟨q + 1 + 1, 2, none⟩ = some (.bool true) := cell_of HW.out (i := 2) rfl
        have HFb := Lib.hid (vis_fits (s := 0) (bk := true) HPS.out hlt (by rw [HNK.out]; omega) (by intro h; first | rfl | (rw [HKC.out] at h; cases h)) (by intro h; first | rfl | (rw [HKC.out] at h; cases h)))
        have hpts : Calls Try.prog 6 #[.slice (some ⟨g, off, none⟩) t c, .agg #[.int .i64 k, .int .i64 0, .bool true]] w7 (PointsE t L ⟨(k : Int), 0, true⟩ w7) :=
          Points_any (some ⟨g, off, none⟩) t c L ⟨(k : Int), 0, true⟩ w7 (by omega) (HPO.out.next (by rw [HQ.out]; exact HMX.out) HSX.out).fin.1 (fun i hi => by have := (HB4.out i hi).1; omega) (fun i hi => (HB4.out i hi).2) (by unfold sm; dsimp only; omega)
        go_wp2_with (fail)
        refine hpts.mono ?_
        rintro e w8 ⟨h1, -, hb⟩
        obtain ⟨ab, cb, rfl, hown⟩ := h1 HFb.out
        dsimp only at hown
        rw [Int.toNat_natCast] at hown
        try rw [show (((k : Int)).toNat) = k from Int.toNat_natCast k]
        rw [show prN (L k) = nk by unfold prN; rw [HKC.out, HNK.out]; rfl] at hown ⊢
        have HRb := Lib.hid hown
        have hrbb : ∀ b, (Value.slice ab (nk) cb).ownBlock = some b → w7.heap.size ≤ b := fun b hb => (hown.lt b hb).1
        replace HX := Lib.hid (heap_keep hb HX.out)
        replace HV := Lib.hid (heap_keep hb HV.out)
        replace HW := Lib.hid (heap_keep hb HW.out)
        replace HSX := Lib.hid (StrmY.below HSX.out hb)
        replace HMX := Lib.hid (HMX.out.below hb)
        replace HRa := Lib.hid (ownsRow_below HRa.out hb)
        clear v0 v1 v2
        clear hb h1 hown hpts
        obtain ⟨gb, cb', hvv, -, hgb⟩ := HRb.out.form (by omega)
        cases hvv
        have hgq := hrbb gb rfl
        clear x0 x1
        have x0 : w8.cell? ⟨q, 0, none⟩ = some (.slice (some ⟨bx, ox, none⟩) nk ck) := cell_of HX.out (i := 0) rfl
        have x1 : w8.cell? ⟨q, 1, none⟩ = some (.bool false) := cell_of HX.out (i := 1) rfl
        have e8 : ((nk : Int) != (nk : Int)) = false := by simp
        go_upto_region 14 with (fail)
        go_quiet (fail)
        clear x0 x1
        go_wp2_with (fail)
        refine (reverseP w7.heap.size gb nk cb _ _ (w8.drewN _) (by omega) (by omega) HRb.out hgb).mono ?_
        rintro e w9 ⟨rfl, hown, hmt⟩
        have HX9 := Lib.hid ((hmt.block q (show q < w8.heap.size from lt_of_heap HX.out) (fun e => by have e' : q = gb := e; omega)).trans HX.out)
        have HS9 := Lib.hid ((Strm.drewN HSX.out _).kept hmt (fun x hx e => by have e' : x = gb := e; omega))
        have HM9 := Lib.hid ((Mut.drewN HMX.out _).trans (hmt.mono fun b _ e => .inr (by have e' : b = gb := e; omega)))
        have HPb := Lib.hid (own_pts (show w9.ownsRow w7.heap.size 38 2 (.slice (some ⟨gb, 0, none⟩) nk cb) nk (cells2 (L k).X (L k).Y nk) from (cells2_ext (fun i hi => ⟨by
            show rv nk (prX (L k) ⟨(k : Int), 0, true⟩ (L k).X) i = (L k).X i
            rw [show prX (L k) ⟨(k : Int), 0, true⟩ (L k).X = rv nk (L k).X by unfold prX; rw [HKC.out, HNK.out]; rfl]
            exact rv_rv nk _ i hi, by
            show rv nk (prX (L k) ⟨(k : Int), 0, true⟩ (L k).Y) i = (L k).Y i
            rw [show prX (L k) ⟨(k : Int), 0, true⟩ (L k).Y = rv nk (L k).Y by unfold prX; rw [HKC.out, HNK.out]; rfl]
            exact rv_rv nk _ i hi⟩)) ▸ hown))
        have HRa9 : Hid (w9.ownsRow w4.heap.size 38 2 (.slice aa nk ca) nk (cells2 (prX (L k) ⟨(k : Int), 0, false⟩ (L k).X) (prX (L k) ⟨(k : Int), 0, false⟩ (L k).Y) nk)) := Lib.hid (own_mut (w := w8.drewN _) HRa.out hmt (fun b hb e => by have := hrla b hb; have e' : b = gb := e; omega))
        have HPa := Lib.hid (show PtsR w9 aa nk (L k).X (L k).Y by
          have h := own_pts HRa9.out
          rw [show prX (L k) ⟨(k : Int), 0, false⟩ (L k).X = (L k).X by unfold prX; rw [HKC.out]; rfl, show prX (L k) ⟨(k : Int), 0, false⟩ (L k).Y = (L k).Y by unfold prX; rw [HKC.out]; rfl] at h
          exact h)
        clear hmt hown
        have HP9 := Lib.hid (HPO.out.next (by rw [HQ.out]; exact HM9.out) HS9.out)
        have HPx : Hid (PtsR w9 (some ⟨bx, ox, none⟩) nk (L k).X (L k).Y) := Lib.hid (by
          have h := pts_of HP9.out.fin.1 hlt
          rw [HAX.out, HNK.out] at h
          exact h)
        have x1 : w9.cell? ⟨q, 1, none⟩ = some (.bool false) := cell_of HX9.out (i := 1) rfl
        go_wp2_with (fail)
        refine (equalP_any aa (some ⟨gb, 0, none⟩) nk ca cb (L k).X (L k).Y w9 HPa.out HPb.out (by omega)).mono ?_
        rintro e w10 ⟨rfl, hb⟩
        replace HPa := Lib.hid (HPa.out.kept hb)
        replace HPx := Lib.hid (HPx.out.kept hb)
        replace HP9 := Lib.hid (HP9.out.below hb)
        have HX10 := Lib.hid (heap_keep hb HX9.out)
        clear hb x1
        have x0 : w10.cell? ⟨q, 0, none⟩ = some (.slice (some ⟨bx, ox, none⟩) nk ck) := cell_of HX10.out (i := 0) rfl
        go_wp2_with (fail)
        refine (equalP_any aa (some ⟨bx, ox, none⟩) nk ca ck (L k).X (L k).Y w10 HPa.out HPx.out (by omega)).mono ?_
        rintro e w11 ⟨rfl, hb⟩
        replace HP9 := Lib.hid (HP9.out.below hb)
        have HEND := Lib.hid (HP9.out.more (k' := 420 + (k + 1)) (by omega) (by omega))
        clear hb x0
        go_wp2_with (fail)
        go_roundw
        case rel => exact ⟨k + 1, by omega, by go_num, HEND.out⟩
        case measure => simp [intOf] <;> omega
      · have x0 : w4.cell? ⟨q, 0, none⟩ = some (.slice (some ⟨bx, ox, none⟩) nk ck) := cell_of HX.out (i := 0) rfl
        have x1 : w4.cell? ⟨q, 1, none⟩ = some (.bool true) := cell_of HX.out (i := 1) rfl
        go_wp2_with (fail)
        refine (next_any B _ nk w4 HSX.out (by omega) (by omega) (by omega)).mono ?_
        rintro e w5 ⟨⟨r, rfl, hr0, hr1⟩, hst, hmt⟩
        obtain ⟨s, rfl⟩ := Int.eq_ofNat_of_zero_le hr0
        have hsn : s < nk := by omega
        replace HX := Lib.hid ((hmt.block q (lt_of_heap HX.out) (by omega)).trans HX.out)
        replace HV := Lib.hid ((hmt.block (q + 1) (lt_of_heap HV.out) (by omega)).trans HV.out)
        replace HW := Lib.hid ((hmt.block (q + 1 + 1) (lt_of_heap HW.out) (by omega)).trans HW.out)
        replace HMX := Lib.hid (HMX.out.trans (hmt.mono fun b _ e => .inl e))
        replace HSX := Lib.hid hst
        replace hnx := Nat.le_trans hnx hmt.size
        clear hst hmt x0 x1 hr0 hr1
        have w1' : w5.cell? ⟨q + 1 + 1, 1, none⟩ = some (.int .i64 0) := cell_of HW.out (i := 1) rfl
        have w1f : w5.frozen? ⟨q + 1 + 1, 1, none⟩ = false := frozen_of HW.out
        go_upto_region 10 with (fail)
        replace HX := Lib.hid (rdy.setZ_o (c := q + 1 + 1) (o := 1) (u := .int .i64 s) (by omega) HX.out)
        replace HV := Lib.hid (rdy.setZ_o (c := q + 1 + 1) (o := 1) (u := .int .i64 s) (by omega) HV.out)
        have hq2 := lt_of_heap HW.out
        replace HW := Lib.hid (show (w5.setCell ⟨q + 1 + 1, 1, none⟩ (.int .i64 s)).heap[q + 1 + 1]? = some (.cells #[.int .i64 k, .int .i64 s, .bool false] 32 (0, 0)) by simp [World.setCell, Array.getElem?_modify, HW.out])
        replace HSX := Lib.hid (Strm.setCell HSX.out (a := ⟨q + 1 + 1, 1, none⟩) (show B < q + 1 + 1 by omega) (.int .i64 s))
        replace HMX := Lib.hid (HMX.out.setCell (p := ⟨q + 1 + 1, 1, none⟩) (fun _ => .inr (show q ≤ q + 1 + 1 by omega)) (.int .i64 s))
        have hnx2 : q ≤ (w5.setCell ⟨q + 1 + 1, 1, none⟩ (.int .i64 s)).heap.size := by simp; omega
        clear w1' w1f hq2 hnx
        generalize (w5.setCell ⟨q + 1 + 1, 1, none⟩ (.int .i64 s)) = w6 at *
        have v0 : w6.cell? ⟨q + 1, 0, none⟩ = some (.int .i64 k) := cell_of HV.out (i := 0) rfl
        have v1 : w6.cell? ⟨q + 1, 1, none⟩ = some (.int .i64 0) := cell_of HV.out (i := 1) rfl
        have v2 : w6.cell? ⟨q + 1, 2, none⟩ = some (.bool false) := cell_of HV.out (i := 2) rfl
        have HFa := Lib.hid (vis_fits (s := 0) (bk := false) HPS.out hlt (by rw [HNK.out]; omega) (by intro h; first | rfl | (rw [HKC.out] at h; cases h)) (by intro h; first | rfl | (rw [HKC.out] at h; cases h)))
        have hpts : Calls Try.prog 6 #[.slice (some ⟨g, off, none⟩) t c, .agg #[.int .i64 k, .int .i64 0, .bool false]] w6 (PointsE t L ⟨(k : Int), 0, false⟩ w6) :=
          Points_any (some ⟨g, off, none⟩) t c L ⟨(k : Int), 0, false⟩ w6 (by omega) (HPO.out.next (by rw [HQ.out]; exact HMX.out) HSX.out).fin.1 (fun i hi => by have := (HB4.out i hi).1; omega) (fun i hi => (HB4.out i hi).2) (by unfold sm; dsimp only; omega)
        go_wp2_with (fail)
        refine hpts.mono ?_
        rintro e w7 ⟨h1, -, hb⟩
        obtain ⟨aa, ca, rfl, hown⟩ := h1 HFa.out
        dsimp only at hown
        rw [Int.toNat_natCast] at hown
        try rw [show (((k : Int)).toNat) = k from Int.toNat_natCast k]
        rw [show prN (L k) = nk + 1 by unfold prN; rw [HKC.out, HNK.out]; rfl] at hown ⊢
        have HRa := Lib.hid hown
        have hrba : ∀ b, (Value.slice aa (nk + 1) ca).ownBlock = some b → w6.heap.size ≤ b := fun b hb => (hown.lt b hb).1
        replace HX := Lib.hid (heap_keep hb HX.out)
        replace HV := Lib.hid (heap_keep hb HV.out)
        replace HW := Lib.hid (heap_keep hb HW.out)
        replace HSX := Lib.hid (StrmY.below HSX.out hb)
        replace HMX := Lib.hid (HMX.out.below hb)
        have hnx7 : q ≤ w7.heap.size := Nat.le_trans hnx2 hb.size
        have hq7 := lt_of_heap HX.out
        clear v0 v1 v2
        clear hb h1 hown hpts
        have v0 : w7.cell? ⟨q + 1 + 1, 0, none⟩ = some (.int .i64 k) := cell_of HW.out (i := 0) rfl
        have v1 : w7.cell? ⟨q + 1 + 1, 1, none⟩ = some (.int .i64 s) := cell_of HW.out (i := 1) rfl
        have v2 : w7.cell? ⟨q + 1 + 1, 2, none⟩ = some (.bool false) := cell_of HW.out (i := 2) rfl
        have HFb := Lib.hid (vis_fits (s := s) (bk := false) HPS.out hlt (by rw [HNK.out]; omega) (by intro h; first | rfl | (rw [HKC.out] at h; cases h)) (by intro h; first | rfl | (rw [HKC.out] at h; cases h)))
        have hpts : Calls Try.prog 6 #[.slice (some ⟨g, off, none⟩) t c, .agg #[.int .i64 k, .int .i64 ((s : Nat) : Int), .bool false]] w7 (PointsE t L ⟨(k : Int), ((s : Nat) : Int), false⟩ w7) :=
          Points_any (some ⟨g, off, none⟩) t c L ⟨(k : Int), ((s : Nat) : Int), false⟩ w7 (by omega) (HPO.out.next (by rw [HQ.out]; exact HMX.out) HSX.out).fin.1 (fun i hi => by have := (HB4.out i hi).1; omega) (fun i hi => (HB4.out i hi).2) (by unfold sm; dsimp only; omega)
        go_wp2_with (fail)
        refine hpts.mono ?_
        rintro e w8 ⟨h1, -, hb⟩
        obtain ⟨ab, cb, rfl, hown⟩ := h1 HFb.out
        dsimp only at hown
        rw [Int.toNat_natCast] at hown
        try rw [show (((k : Int)).toNat) = k from Int.toNat_natCast k]
        rw [show prN (L k) = nk + 1 by unfold prN; rw [HKC.out, HNK.out]; rfl] at hown ⊢
        have HRb := Lib.hid hown
        have hrbb : ∀ b, (Value.slice ab (nk + 1) cb).ownBlock = some b → w7.heap.size ≤ b := fun b hb => (hown.lt b hb).1
        replace HX := Lib.hid (heap_keep hb HX.out)
        replace HV := Lib.hid (heap_keep hb HV.out)
        replace HW := Lib.hid (heap_keep hb HW.out)
        replace HSX := Lib.hid (StrmY.below HSX.out hb)
        replace HMX := Lib.hid (HMX.out.below hb)
        replace HRa := Lib.hid (ownsRow_below HRa.out hb)
        clear v0 v1 v2
        clear hb h1 hown hpts
        obtain ⟨gb, cb', hvv, -, hgb⟩ := HRb.out.form (by omega)
        cases hvv
        have hgq := hrbb gb rfl
        have hdx := pts_of (HPO.out.next (by rw [HQ.out]; exact HMX.out) HSX.out).fin.1 hlt
        rw [HAX.out, HNK.out] at hdx
        rcases hdx with h0 | ⟨bx', ox', e9, hbx8, hdx⟩
        · omega
        cases e9
        obtain ⟨xs0, xs1⟩ := hdx s hsn
        clear hdx
        rcases own_pts HRb.out with h0 | ⟨gb', ob, e9, -, hdb⟩
        · omega
        cases e9
        have hpc := fun Z => prX_closed (kk := (k : Int)) HKC.out (show s < (L k).n by rw [HNK.out]; exact hsn) Z
        obtain ⟨b00, b01⟩ := hdb 0 (by omega)
        obtain ⟨bn0, bn1⟩ := hdb nk (by omega)
        rw [show prX (L k) ⟨(k : Int), (s : Int), false⟩ (L k).X 0 = (L k).X s from (hpc _).1] at b00
        rw [show prX (L k) ⟨(k : Int), (s : Int), false⟩ (L k).Y 0 = (L k).Y s from (hpc _).1] at b01
        rw [← HNK.out] at bn0 bn1
        rw [show prX (L k) ⟨(k : Int), (s : Int), false⟩ (L k).X (L k).n = (L k).X s from (hpc _).2] at bn0
        rw [show prX (L k) ⟨(k : Int), (s : Int), false⟩ (L k).Y (L k).n = (L k).Y s from (hpc _).2] at bn1
        rw [HNK.out] at bn0 bn1
        clear hdb hpc
        obtain ⟨xx, hxx⟩ : ∃ y, (L k).X s = y := ⟨_, rfl⟩
        obtain ⟨yy, hyy⟩ : ∃ y, (L k).Y s = y := ⟨_, rfl⟩
        rw [hxx] at xs0 b00 bn0
        rw [hyy] at xs1 b01 bn1
        clear hxx hyy
        rw [Nat.zero_mul, Nat.add_zero] at b00
        rw [Nat.zero_mul, Nat.add_zero] at b01
        rw [Nat.zero_add] at bn0 bn1
        have x0 : w8.cell? ⟨q, 0, none⟩ = some (.slice (some ⟨bx, ox, none⟩) nk ck) := cell_of HX.out (i := 0) rfl
        have x1 : w8.cell? ⟨q, 1, none⟩ = some (.bool true) := cell_of HX.out (i := 1) rfl
        have v1 : w8.cell? ⟨q + 1 + 1, 1, none⟩ = some (.int .i64 s) := cell_of HW.out (i := 1) rfl
        have hE := fun wx => neq_pt_self xx yy wx
        have hG := gd_pt
        have e9 : (((nk + 1 : Nat) : Int) != (nk : Int) + 1) = false := by simp
        have e8 : (((nk + 1 : Nat) : Int) != ((nk + 1 : Nat) : Int)) = false := by simp
        have hi0 : (0 : Int) ≤ (s : Int) := by omega
        have hi1 : (s : Int) < (nk : Int) := by omega
        go_upto_region 14 with (fail)
        go_quiet (fail)
        clear x0 x1 v1 b00 b01 bn0 bn1 xs0 xs1 hE
        go_wp2_with (fail)
        refine (reverseP w7.heap.size gb (nk + 1) cb _ _ (w8.drewN _) (by omega) (by omega) HRb.out hgb).mono ?_
        rintro e w9 ⟨rfl, -, hmt⟩
        have HX9 := Lib.hid ((hmt.block q (show q < w8.heap.size from lt_of_heap HX.out) (fun e => by have e' : q = gb := e; omega)).trans HX.out)
        have HS9 := Lib.hid ((Strm.drewN HSX.out _).kept hmt (fun x hx e => by have e' : x = gb := e; omega))
        have HM9 := Lib.hid ((Mut.drewN HMX.out _).trans (hmt.mono fun b _ e => .inr (by have e' : b = gb := e; omega)))
        clear hmt
        have x1 : w9.cell? ⟨q, 1, none⟩ = some (.bool true) := cell_of HX9.out (i := 1) rfl
        have HEND := Lib.hid ((HPO.out.next (by rw [HQ.out]; exact HM9.out) HS9.out).more (k' := 420 + (k + 1)) (by omega) (by omega))
        go_wp2_with (fail)
        go_roundw
        case rel => exact ⟨k + 1, by omega, by go_num, HEND.out⟩
        case measure => simp [intOf] <;> omega
    · obtain rfl : t = k := by omega
      have BW := Lib.hid ((HM0.out.trans HPO.out.m).toBelow B (by rw [HBW.out]; exact Nat.le_refl _) (fun k hk e => by omega))
      rw [HBW.out] at BW
      try rw [HBW.out]
      go_wp2_with (fail)
      refine (rdy.ready_any wr).mono ?_
      rintro e w99 ⟨rfl, hb⟩
      have BWE := Lib.hid (BW.out.trans (hb.mono BW.out.size))
      clear hb
      go_wp2_with (fail)
      go_ret
      exact ⟨rfl, BWE.out⟩
end Go.Proofs.Ytcahjkaphpeobaa

/- A leg is split: the reference. -/
import Derived.Test.YtdanlnmdkneepaaUr
import Derived.Test.YtdanlnmdkneepaaUl
set_option linter.unusedSimpArgs false
set_option linter.unusedVariables false
namespace Go.Proofs.Ytdanlnmdkneepaa
open Go.RowKit
set_option maxRecDepth 100000 in
set_option maxHeartbeats 16000000 in
theorem splitOf_any (b off n c : Nat) (L M : Nat → Int) (ac : Option Addr) (m cc : Nat) (C : Nat → Int) (j : Nat) (t : Int) (w : World) (hn : n ≤ 100) (hm : m ≤ 100) (hnc : n ≤ c) (hmc : m ≤ cc) (hcb : c ≤ 9223372036854775807) (hccb : cc ≤ 9223372036854775807) (hb : b < w.heap.size) (hd : Du w b off n L M) (hc : IntsR w ac m C) (hf : (ac = none ∧ m = 0 ∧ cc = 0) ∨ ∃ b2 off2, ac = some ⟨b2, off2, none⟩)
    (hmn : m + 1 = n) (hj : j < n) (ht : 1 ≤ t ∧ t < L j) (hL : L j ≤ 200000) :
    Calls Try.prog 59 #[.slice (some ⟨b, off, none⟩) n c, .slice ac m cc, .int .i64 j, .int .i64 t] w fun e w' => ∃ a1 c1 a2 c2, e = .returned (.tuple #[.slice a1 (n + 1) c1, .slice a2 (m + 1) c2]) ∧ w'.ownsRow w.heap.size 83 2 (.slice a1 (n + 1) c1) (n + 1) (cells2 (splL n j t L) (splM n j M) (n + 1)) ∧ w'.ownsRow w.heap.size 3 1 (.slice a2 (m + 1) c2) (m + 1) (vs (splC j (M j) C) (m + 1)) ∧ Below w.heap.size w w' := by
  have HC := Lib.hid hc
  have HD := Lib.hid hd
  obtain ⟨k0, k1⟩ := hd j hj
  have hji : (j : Int) < (n : Int) := by omega
  have e1 : IntKind.i64.wrap (L j - t) = L j - t := i64w (by omega)
  have e2 : IntKind.i64.wrap ((j : Int) + 1) = (j : Int) + 1 := i64w (by omega)
  have HMN := Lib.hid hmn
  have HTT := Lib.hid ht
  clear hc hd ht hL hmn
  go_enter Try.func59, Try.ntmps59
  go_wp2_with (fail)
  have hb1 : Below w.heap.size w (w.alloc (.cells #[.int .i64 (L j), .int .i64 (M j)] 83)) := (by repeat (first | exact Below.refl _ _ | assumption | refine Below.drew ?_ | refine bdrewN ?_ _ | refine Below.setCell ?_ (by first | omega | (simp <;> omega)) _ | refine Below.alloc ?_ (by first | omega | (simp <;> omega)) _))
  have H1 := Lib.hid (heap_alloc_new w (.cells #[.int .i64 (L j), .int .i64 (M j)] 83))
  have HB1 := Lib.hid hb1
  clear hb1 k0 k1
  generalize (w.alloc (.cells #[.int .i64 (L j), .int .i64 (M j)] 83)) = w1 at *
  obtain ⟨q10, hq⟩ : ∃ q, q = w.heap.size := ⟨_, rfl⟩
  rw [← hq] at H1
  try rw [← hq]
  have HQ := Lib.hid hq
  clear hq
  have x0 := cell_of H1.out (i := 0) rfl
  have x1 := cell_of H1.out (i := 1) rfl
  have lq : q10 < w1.heap.size := lt_of_heap H1.out
  refine wp_region_held_drew (S := (fun w' => w'.cell? ⟨q10, 0, none⟩ = some (.int .i64 (L j)) ∧ w'.cell? ⟨q10, 1, none⟩ = some (.int .i64 (M j)))) (by kernel_rfl) ⟨x0, x1⟩ (fun hHeld => ?_)
  refine tkH (by assumption) 0 (oi := ?_) (v := ?_) ?_ ?_ ?_ ?_ ?_ ?_ ?_ ?_; rotate_left 2; (simp only [gA, gB, gC]; exact rfl); kernel_rfl; kernel_rfl; kernel_rfl; exact fun _ _ _ h => h; rfl; (intro w' hSw; (obtain ⟨j0, j1⟩ := hSw);go_simp; with_reducible rfl); simp only [Act.put, pB, pC, pD]
  refine tkH (by assumption) 1 (oi := ?_) (v := ?_) ?_ ?_ ?_ ?_ ?_ ?_ ?_ ?_; rotate_left 2; (simp only [gA, gB, gC]; exact rfl); kernel_rfl; kernel_rfl; kernel_rfl; exact fun _ _ _ h => h; rfl; (intro w' hSw; (obtain ⟨j0, j1⟩ := hSw);go_simp; with_reducible rfl); simp only [Act.put, pB, pC, pD]
  refine tkH (by assumption) 2 (oi := ?_) (v := ?_) ?_ ?_ ?_ ?_ ?_ ?_ ?_ ?_; rotate_left 2; (simp only [gA, gB, gC]; exact rfl); kernel_rfl; kernel_rfl; kernel_rfl; exact fun _ _ _ h => h; rfl; (intro w' hSw; (obtain ⟨j0, j1⟩ := hSw);go_simp; with_reducible rfl); simp only [Act.put, pB, pC, pD]
  refine tkH (by assumption) 3 (oi := ?_) (v := ?_) ?_ ?_ ?_ ?_ ?_ ?_ ?_ ?_; rotate_left 2; (simp only [gA, gB, gC]; exact rfl); kernel_rfl; kernel_rfl; kernel_rfl; exact fun _ _ _ h => h; rfl; (intro w' hSw; (obtain ⟨j0, j1⟩ := hSw);go_simp; with_reducible rfl); simp only [Act.put, pB, pC, pD]
  refine tkH (by assumption) 4 (oi := ?_) (v := ?_) ?_ ?_ ?_ ?_ ?_ ?_ ?_ ?_; rotate_left 2; (simp only [gA, gB, gC]; exact rfl); kernel_rfl; kernel_rfl; kernel_rfl; exact fun _ _ _ h => h; rfl; (intro w' hSw; (obtain ⟨j0, j1⟩ := hSw);go_simp; with_reducible rfl); simp only [Act.put, pB, pC, pD]
  refine tkH (by assumption) 5 (oi := ?_) (v := ?_) ?_ ?_ ?_ ?_ ?_ ?_ ?_ ?_; rotate_left 2; (simp only [gA, gB, gC]; exact rfl); kernel_rfl; kernel_rfl; kernel_rfl; exact fun _ _ _ h => h; rfl; (intro w' hSw; (obtain ⟨j0, j1⟩ := hSw);go_simp; with_reducible rfl); simp only [Act.put, pB, pC, pD]
  refine tkH (by assumption) 6 (oi := ?_) (v := ?_) ?_ ?_ ?_ ?_ ?_ ?_ ?_ ?_; rotate_left 2; (simp only [gA, gB, gC]; exact rfl); kernel_rfl; kernel_rfl; kernel_rfl; exact fun _ _ _ h => h; rfl; (intro w' hSw; (obtain ⟨j0, j1⟩ := hSw);go_simp; with_reducible rfl); simp only [Act.put, pB, pC, pD]
  refine tkH (by assumption) 7 (oi := ?_) (v := ?_) ?_ ?_ ?_ ?_ ?_ ?_ ?_ ?_; rotate_left 2; (simp only [gA, gB, gC]; exact rfl); kernel_rfl; kernel_rfl; kernel_rfl; exact fun _ _ _ h => h; rfl; (intro w' hSw; (obtain ⟨j0, j1⟩ := hSw);go_simp; with_reducible rfl); simp only [Act.put, pB, pC, pD]
  refine tkH (by assumption) 8 (oi := ?_) (v := ?_) ?_ ?_ ?_ ?_ ?_ ?_ ?_ ?_; rotate_left 2; (simp only [gA, gB, gC]; exact rfl); kernel_rfl; kernel_rfl; kernel_rfl; exact fun _ _ _ h => h; rfl; (intro w' hSw; (obtain ⟨j0, j1⟩ := hSw);go_simp; with_reducible rfl); simp only [Act.put, pB, pC, pD]
  refine tkH (by assumption) 9 (oi := ?_) (v := ?_) ?_ ?_ ?_ ?_ ?_ ?_ ?_ ?_; rotate_left 2; (simp only [gA, gB, gC]; exact rfl); kernel_rfl; kernel_rfl; kernel_rfl; exact fun _ _ _ h => h; rfl; (intro w' hSw; (obtain ⟨j0, j1⟩ := hSw);go_simp; with_reducible rfl); simp only [Act.put, pB, pC, pD]
  refine tkH (by assumption) 10 (oi := ?_) (v := ?_) ?_ ?_ ?_ ?_ ?_ ?_ ?_ ?_; rotate_left 2; (simp only [gA, gB, gC]; exact rfl); kernel_rfl; kernel_rfl; kernel_rfl; exact fun _ _ _ h => h; rfl; (intro w' hSw; (obtain ⟨j0, j1⟩ := hSw);go_simp; with_reducible rfl); simp only [Act.put, pB, pC, pD]
  refine absH (fun G A hG hA => ?_)
  suffices h_11_12 : ∀ (g11 : Nat) (g12 : Nat) (W : World), Hid (Below w1.heap.size w1 W) → Hid (W.heap[g11]? = some (.cells #[.int .i64 0, .int .i64 0] 83 (0, 0))) → Hid (W.heap[g12]? = some (.cells #[.int .i64 0, .int .i64 0] 83 (0, 0))) → w1.heap.size ≤ g11 ∧ g11 < W.heap.size → w1.heap.size ≤ g12 ∧ g12 < W.heap.size → g11 ≠ g12 → G 2 #[true, true, true, true, true, true, true, true, true, true, true, true, true, false, false] ((A.put (some 11) (.pointer (some ⟨g11, 0, none⟩))).put (some 12) (.pointer (some ⟨g12, 0, none⟩))) W by
    have h_11 : ∀ (g11 : Nat) (W : World), Hid (Below w1.heap.size w1 W) → Hid (W.heap[g11]? = some (.cells #[.int .i64 0, .int .i64 0] 83 (0, 0))) → w1.heap.size ≤ g11 ∧ g11 < W.heap.size → G 3 #[true, true, true, true, true, true, true, true, true, true, true, true, false, false, false] (A.put (some 11) (.pointer (some ⟨g11, 0, none⟩))) W := by
      intro g11 W HB0 HG11 hl11
      subst hA
      rw [hG]
      simp only [Act.put, pB, pC, pD]
      have hWW := HB0.out.size
      refine wpAnyH_ready (rs := [12]) (by kernel_rfl) (by simp) ?_
      refine coH 12 (oi := ?_) ?_ ?_ (fun K hK => ?_) ?_; rotate_left; (simp only [gA, gB, gC]; exact rfl); rfl
      · go_wp2_with (fail)
        have hb : Below W.heap.size W (W.alloc (.cells #[.int .i64 0, .int .i64 0] 83)) := (Below.refl _ _).alloc (Nat.le_refl _) _
        have hgs : (W.alloc (.cells #[.int .i64 0, .int .i64 0] 83)).heap.size = W.heap.size + 1 := by simp
        have K_HG12 := Lib.hid (heap_alloc_new W (.cells #[.int .i64 0, .int .i64 0] 83))
        refine hK.out _ _ ⟨cellk (HB0.out.trans (hb.mono HB0.out.size)) lq x0, cellk (HB0.out.trans (hb.mono HB0.out.size)) lq x1⟩ (fun hHeldN => ?_)
        clear hK K
        try simp only [Act.put, pB, pC, pD]
        refine listedEq (l' := #[true, true, true, true, true, true, true, true, true, true, true, true, true, false, false]) (by kernel_rfl) ?_
        have h := h_11_12 g11 W.heap.size (W.alloc (.cells #[.int .i64 0, .int .i64 0] 83)) (Lib.hid (HB0.out.trans (hb.mono HB0.out.size))) (Lib.hid (heap_keep hb HG11.out)) K_HG12 ⟨hl11.1, by have := hl11.2; omega⟩ ⟨hWW, by omega⟩ (by have := hl11.2; omega)
        rw [hG] at h
        simp only [Act.put, pB, pC, pD] at h
        exact h
      exact AllReadyH.nil
    have h_12 : ∀ (g12 : Nat) (W : World), Hid (Below w1.heap.size w1 W) → Hid (W.heap[g12]? = some (.cells #[.int .i64 0, .int .i64 0] 83 (0, 0))) → w1.heap.size ≤ g12 ∧ g12 < W.heap.size → G 3 #[true, true, true, true, true, true, true, true, true, true, true, false, true, false, false] (A.put (some 12) (.pointer (some ⟨g12, 0, none⟩))) W := by
      intro g12 W HB0 HG12 hl12
      subst hA
      rw [hG]
      simp only [Act.put, pB, pC, pD]
      have hWW := HB0.out.size
      refine wpAnyH_ready (rs := [11]) (by kernel_rfl) (by simp) ?_
      refine coH 11 (oi := ?_) ?_ ?_ (fun K hK => ?_) ?_; rotate_left; (simp only [gA, gB, gC]; exact rfl); rfl
      · go_wp2_with (fail)
        have hb : Below W.heap.size W (W.alloc (.cells #[.int .i64 0, .int .i64 0] 83)) := (Below.refl _ _).alloc (Nat.le_refl _) _
        have hgs : (W.alloc (.cells #[.int .i64 0, .int .i64 0] 83)).heap.size = W.heap.size + 1 := by simp
        have K_HG11 := Lib.hid (heap_alloc_new W (.cells #[.int .i64 0, .int .i64 0] 83))
        refine hK.out _ _ ⟨cellk (HB0.out.trans (hb.mono HB0.out.size)) lq x0, cellk (HB0.out.trans (hb.mono HB0.out.size)) lq x1⟩ (fun hHeldN => ?_)
        clear hK K
        try simp only [Act.put, pB, pC, pD]
        refine listedEq (l' := #[true, true, true, true, true, true, true, true, true, true, true, true, true, false, false]) (by kernel_rfl) ?_
        have h := h_11_12 W.heap.size g12 (W.alloc (.cells #[.int .i64 0, .int .i64 0] 83)) (Lib.hid (HB0.out.trans (hb.mono HB0.out.size))) K_HG11 (Lib.hid (heap_keep hb HG12.out)) ⟨hWW, by omega⟩ ⟨hl12.1, by have := hl12.2; omega⟩ (by have := hl12.2; omega)
        rw [hG] at h
        simp only [Act.put, pB, pC, pD] at h
        exact h
      exact AllReadyH.nil
    have h_0 : ∀  (W : World), Hid (Below w1.heap.size w1 W) → G 4 #[true, true, true, true, true, true, true, true, true, true, true, false, false, false, false] A W := by
      intro W HB0
      subst hA
      rw [hG]
      have hWW := HB0.out.size
      refine wpAnyH_ready (rs := [11, 12]) (by kernel_rfl) (by simp) ?_
      refine coH 11 (oi := ?_) ?_ ?_ (fun K hK => ?_) ?_; rotate_left; (simp only [gA, gB, gC]; exact rfl); rfl
      · go_wp2_with (fail)
        have hb : Below W.heap.size W (W.alloc (.cells #[.int .i64 0, .int .i64 0] 83)) := (Below.refl _ _).alloc (Nat.le_refl _) _
        have hgs : (W.alloc (.cells #[.int .i64 0, .int .i64 0] 83)).heap.size = W.heap.size + 1 := by simp
        have K_HG11 := Lib.hid (heap_alloc_new W (.cells #[.int .i64 0, .int .i64 0] 83))
        refine hK.out _ _ ⟨cellk (HB0.out.trans (hb.mono HB0.out.size)) lq x0, cellk (HB0.out.trans (hb.mono HB0.out.size)) lq x1⟩ (fun hHeldN => ?_)
        clear hK K
        try simp only [Act.put, pB, pC, pD]
        refine listedEq (l' := #[true, true, true, true, true, true, true, true, true, true, true, true, false, false, false]) (by kernel_rfl) ?_
        have h := h_11 W.heap.size (W.alloc (.cells #[.int .i64 0, .int .i64 0] 83)) (Lib.hid (HB0.out.trans (hb.mono HB0.out.size))) K_HG11 ⟨hWW, by omega⟩
        rw [hG] at h
        simp only [Act.put, pB, pC, pD] at h
        exact h
      refine coH 12 (oi := ?_) ?_ ?_ (fun K hK => ?_) ?_; rotate_left; (simp only [gA, gB, gC]; exact rfl); rfl
      · go_wp2_with (fail)
        have hb : Below W.heap.size W (W.alloc (.cells #[.int .i64 0, .int .i64 0] 83)) := (Below.refl _ _).alloc (Nat.le_refl _) _
        have hgs : (W.alloc (.cells #[.int .i64 0, .int .i64 0] 83)).heap.size = W.heap.size + 1 := by simp
        have K_HG12 := Lib.hid (heap_alloc_new W (.cells #[.int .i64 0, .int .i64 0] 83))
        refine hK.out _ _ ⟨cellk (HB0.out.trans (hb.mono HB0.out.size)) lq x0, cellk (HB0.out.trans (hb.mono HB0.out.size)) lq x1⟩ (fun hHeldN => ?_)
        clear hK K
        try simp only [Act.put, pB, pC, pD]
        refine listedEq (l' := #[true, true, true, true, true, true, true, true, true, true, true, false, true, false, false]) (by kernel_rfl) ?_
        have h := h_12 W.heap.size (W.alloc (.cells #[.int .i64 0, .int .i64 0] 83)) (Lib.hid (HB0.out.trans (hb.mono HB0.out.size))) K_HG12 ⟨hWW, by omega⟩
        rw [hG] at h
        simp only [Act.put, pB, pC, pD] at h
        exact h
      exact AllReadyH.nil
    exact h_0 w1.drew (Lib.hid (Below.next_drew (Below.refl _ w1)))
  intro g11 g12 W HB0 HG11 HG12 hl11 hl12 ne11_12
  subst hA
  rw [hG]
  simp only [Act.put, pB, pC, pD]
  have hHeld := (show W.cell? ⟨q10, 0, none⟩ = some (.int .i64 (L j)) ∧ W.cell? ⟨q10, 1, none⟩ = some (.int .i64 (M j)) from ⟨cellk HB0.out lq x0, cellk HB0.out lq x1⟩)
  have HB2 := Lib.hid (HB1.out.trans (HB0.out.mono HB1.out.size))
  have lg11 : w.heap.size ≤ g11 := Nat.le_trans HB1.out.size hl11.1
  have lg12 : w.heap.size ≤ g12 := Nat.le_trans HB1.out.size hl12.1
  have n11 : ¬ g11 = q10 := by omega
  have n12 : ¬ g12 = q10 := by omega
  clear x0 x1 H1
  refine onH 13 (oi := ?_) (by kernel_rfl) ?_ ?_ (fun K hK => ?_); rotate_left; (simp only [gA, gB, gC]; exact rfl); rfl
  have f0 := cell_of HG11.out (i := 0) rfl
  have f1 := cell_of HG11.out (i := 1) rfl
  have z0 := frozen_of HG11.out (i := 0)
  have z1 := frozen_of HG11.out (i := 1)
  go_wp2_with (fail)
  have hs11 := Lib.hid (set2V_1 (u := .int .i64 (M j)) (set2V_0 (u := .int .i64 t) HG11.out))
  have hg12 := Lib.hid ((Below.heap_setCell (W.setCell ⟨g11, 0, none⟩ (.int .i64 t)) ⟨g11, 1, none⟩ (.int .i64 (M j)) g12 (fun e => ne11_12 e.symm)).trans ((Below.heap_setCell W ⟨g11, 0, none⟩ (.int .i64 t) g12 (fun e => ne11_12 e.symm)).trans HG12.out))
  have HB4 := Lib.hid ((Below.setCell (p := ⟨g11, 0, none⟩) HB2.out lg11 (.int .i64 t)).setCell (p := ⟨g11, 1, none⟩) lg11 (.int .i64 (M j)))
  refine hK.out _ _ ⟨(sc_other (ne_block n11)).trans ((sc_other (ne_block n11)).trans hHeld.1), (sc_other (ne_block n11)).trans ((sc_other (ne_block n11)).trans hHeld.2)⟩ (fun hHeldN => ?_)
  clear hK K hHeld
  have hHeld := hHeldN
  clear hHeldN
  try simp only [Act.put, pB, pC, pD]
  clear f0 f1 z0 z1 HG11 HG12
  generalize ((W.setCell ⟨g11, 0, none⟩ (.int .i64 t)).setCell ⟨g11, 1, none⟩ (.int .i64 (M j))) = W1 at *
  refine onH 14 (oi := ?_) (by kernel_rfl) ?_ ?_ (fun K hK => ?_); rotate_left; (simp only [gA, gB, gC]; exact rfl); rfl
  have f0 := cell_of hg12.out (i := 0) rfl
  have f1 := cell_of hg12.out (i := 1) rfl
  have z0 := frozen_of hg12.out (i := 0)
  have z1 := frozen_of hg12.out (i := 1)
  go_wp2_with (fail)
  have hs12 := Lib.hid (set2V_1 (u := .int .i64 (M j)) (set2V_0 (u := .int .i64 (L j - t)) hg12.out))
  have hsn := Lib.hid ((Below.heap_setCell (W1.setCell ⟨g12, 0, none⟩ (.int .i64 (L j - t))) ⟨g12, 1, none⟩ (.int .i64 (M j)) g11 ne11_12).trans ((Below.heap_setCell W1 ⟨g12, 0, none⟩ (.int .i64 (L j - t)) g11 ne11_12).trans hs11.out))
  have HB3 := Lib.hid ((Below.setCell (p := ⟨g12, 0, none⟩) HB4.out lg12 (.int .i64 (L j - t))).setCell (p := ⟨g12, 1, none⟩) lg12 (.int .i64 (M j)))
  have S3 : (((W1.setCell ⟨g12, 0, none⟩ (.int .i64 (L j - t))).setCell ⟨g12, 1, none⟩ (.int .i64 (M j))).cell? ⟨q10, 0, none⟩ = some (.int .i64 (L j)) ∧ ((W1.setCell ⟨g12, 0, none⟩ (.int .i64 (L j - t))).setCell ⟨g12, 1, none⟩ (.int .i64 (M j))).cell? ⟨q10, 1, none⟩ = some (.int .i64 (M j))) := ⟨(sc_other (ne_block n12)).trans ((sc_other (ne_block n12)).trans hHeld.1), (sc_other (ne_block n12)).trans ((sc_other (ne_block n12)).trans hHeld.2)⟩
  refine hK.out _ _ S3 (fun hHeldN => ?_)
  clear hK K hHeld
  have hHeld := hHeldN
  clear hHeldN
  try simp only [Act.put, pB, pC, pD]
  clear f0 f1 z0 z1 hg12 hs11 HB4 hHeld HB0 HB1 HB2
  generalize ((W1.setCell ⟨g12, 0, none⟩ (.int .i64 (L j - t))).setCell ⟨g12, 1, none⟩ (.int .i64 (M j))) = w3 at *
  have x0 := S3.1
  have x1 := S3.2
  have a0 := cell_of hsn.out (i := 0) rfl
  have a1 := cell_of hsn.out (i := 1) rfl
  have b0 := cell_of hs12.out (i := 0) rfl
  have b1 := cell_of hs12.out (i := 1) rfl
  have l11 : g11 < w3.heap.size := lt_of_heap hsn.out
  have l12 : g12 < w3.heap.size := lt_of_heap hs12.out
  have lq3 : q10 < w3.heap.size := cell_lt x0
  have hbw3 : b < w3.heap.size := Nat.lt_of_lt_of_le hb HB3.out.size
  have HD3w := Lib.hid (HD.out.kept HB3.out hb)
  have HC3 := Lib.hid (HC.out.kept HB3.out)
  clear S3 hsn hs12 HD HC
  refine wpAnyH_done (by kernel_rfl) ?_ _
  go_wp2_with (fail)
  have hjc : j ≤ c := by omega
  have hjc1 : j + 1 ≤ c := by omega
  have hj7 : (0 : Int) ≤ (j : Int) := by omega
  have hj8 : (0 : Int) ≤ (j : Int) + 1 ∧ (j : Int) + 1 ≤ (c : Int) := by omega
  have hj9 : (0 : Int) ≤ (j : Int) + 1 := by omega
  have hjn1 : j + 1 ≤ n := by omega
  have hjn2 : (j : Int) + 1 ≤ (n : Int) := by omega
  have hjc2 : (j : Int) ≤ (c : Int) := by omega
  have hjm : j ≤ m := by have := HMN.out; omega
  have hjcc : j ≤ cc := by omega
  have hjm2 : (j : Int) ≤ (m : Int) := by omega
  have hjcc2 : (j : Int) ≤ (cc : Int) := by omega
  obtain ⟨d3, hd3, hd3'⟩ : ∃ d3, (if c = j + 1 then (some ⟨b, off, none⟩ : Option Addr) else some ⟨b, off + (j + 1) * 2, none⟩) = some d3 ∧ (n ≤ j + 1 ∨ d3 = ⟨b, off + (j + 1) * 2, none⟩) := by
    split
    · exact ⟨_, rfl, .inl (by omega)⟩
    · exact ⟨_, rfl, .inr rfl⟩
  have HDD3 := Lib.hid hd3'
  clear hd3'
  rcases hf with ⟨rfl, rfl, rfl⟩ | ⟨b2, off2, rfl⟩
  · obtain rfl : j = 0 := by omega
    clear hd3 HDD3 d3
    have w11 : IntKind.i64.wrap 1 = 1 := by decide
    have hn11 : (1 : Int) ≤ (n : Int) := by omega
    have hn12 : 1 ≤ n := by omega
    have hn13 : 1 ≤ c := by omega
    obtain ⟨d3, hd3, hd3'⟩ : ∃ d3, (if c = 1 then (some ⟨b, off, none⟩ : Option Addr) else some ⟨b, off + 2, none⟩) = some d3 ∧ (n ≤ 1 ∨ d3 = ⟨b, off + 2, none⟩) := by
      split
      · exact ⟨_, rfl, .inl (by omega)⟩
      · exact ⟨_, rfl, .inr rfl⟩
    have HDD3 := Lib.hid hd3'
    clear hd3'
    refine wp_region_held_drew (S := (fun w' => (w'.cell? ⟨q10, 0, none⟩ = some (.int .i64 (L 0)) ∧ w'.cell? ⟨q10, 1, none⟩ = some (.int .i64 (M 0))) ∧ (w'.cell? ⟨g11, 0, none⟩ = some (.int .i64 t) ∧ w'.cell? ⟨g11, 1, none⟩ = some (.int .i64 (M 0))) ∧ w'.cell? ⟨g12, 0, none⟩ = some (.int .i64 (L 0 - t)) ∧ w'.cell? ⟨g12, 1, none⟩ = some (.int .i64 (M 0)))) (by kernel_rfl) ⟨⟨x0, x1⟩, ⟨a0, a1⟩, b0, b1⟩ (fun hHeld => ?_)
    refine tkH (by assumption) 0 (oi := ?_) (v := ?_) ?_ ?_ ?_ ?_ ?_ ?_ ?_ ?_; rotate_left 2; (simp only [gA, gB, gC]; exact rfl); kernel_rfl; kernel_rfl; kernel_rfl; exact fun _ _ _ h => h; rfl; (intro w' hSw; (obtain ⟨⟨j0, j1⟩, ⟨j2, j3⟩, j4, j5⟩ := hSw);go_simp; with_reducible rfl); simp only [Act.put, pB, pC, pD]
    refine tkH (by assumption) 1 (oi := ?_) (v := ?_) ?_ ?_ ?_ ?_ ?_ ?_ ?_ ?_; rotate_left 2; (simp only [gA, gB, gC]; exact rfl); kernel_rfl; kernel_rfl; kernel_rfl; exact fun _ _ _ h => h; rfl; (intro w' hSw; (obtain ⟨⟨j0, j1⟩, ⟨j2, j3⟩, j4, j5⟩ := hSw);go_simp; with_reducible rfl); simp only [Act.put, pB, pC, pD]
    refine tkH (by assumption) 2 (oi := ?_) (v := ?_) ?_ ?_ ?_ ?_ ?_ ?_ ?_ ?_; rotate_left 2; (simp only [gA, gB, gC]; exact rfl); kernel_rfl; kernel_rfl; kernel_rfl; exact fun _ _ _ h => h; rfl; (intro w' hSw; (obtain ⟨⟨j0, j1⟩, ⟨j2, j3⟩, j4, j5⟩ := hSw);go_simp; with_reducible rfl); simp only [Act.put, pB, pC, pD]
    refine tkH (by assumption) 3 (oi := ?_) (v := ?_) ?_ ?_ ?_ ?_ ?_ ?_ ?_ ?_; rotate_left 2; (simp only [gA, gB, gC]; exact rfl); kernel_rfl; kernel_rfl; kernel_rfl; exact fun _ _ _ h => h; rfl; (intro w' hSw; (obtain ⟨⟨j0, j1⟩, ⟨j2, j3⟩, j4, j5⟩ := hSw);go_simp; with_reducible rfl); simp only [Act.put, pB, pC, pD]
    refine tkH (by assumption) 4 (oi := ?_) (v := ?_) ?_ ?_ ?_ ?_ ?_ ?_ ?_ ?_; rotate_left 2; (simp only [gA, gB, gC]; exact rfl); kernel_rfl; kernel_rfl; kernel_rfl; exact fun _ _ _ h => h; rfl; (intro w' hSw; (obtain ⟨⟨j0, j1⟩, ⟨j2, j3⟩, j4, j5⟩ := hSw);go_simp; with_reducible rfl); simp only [Act.put, pB, pC, pD]
    refine tkH (by assumption) 6 (oi := ?_) (v := ?_) ?_ ?_ ?_ ?_ ?_ ?_ ?_ ?_; rotate_left 2; (simp only [gA, gB, gC]; exact rfl); kernel_rfl; kernel_rfl; kernel_rfl; exact fun _ _ _ h => h; rfl; (intro w' hSw; (obtain ⟨⟨j0, j1⟩, ⟨j2, j3⟩, j4, j5⟩ := hSw);go_simp; with_reducible rfl); simp only [Act.put, pB, pC, pD]
    refine tkH (by assumption) 7 (oi := ?_) (v := ?_) ?_ ?_ ?_ ?_ ?_ ?_ ?_ ?_; rotate_left 2; (simp only [gA, gB, gC]; exact rfl); kernel_rfl; kernel_rfl; kernel_rfl; exact fun _ _ _ h => h; rfl; (intro w' hSw; (obtain ⟨⟨j0, j1⟩, ⟨j2, j3⟩, j4, j5⟩ := hSw);go_simp; with_reducible rfl); simp only [Act.put, pB, pC, pD]
    refine tkH (by assumption) 8 (oi := ?_) (v := ?_) ?_ ?_ ?_ ?_ ?_ ?_ ?_ ?_; rotate_left 2; (simp only [gA, gB, gC]; exact rfl); kernel_rfl; kernel_rfl; kernel_rfl; exact fun _ _ _ h => h; rfl; (intro w' hSw; (obtain ⟨⟨j0, j1⟩, ⟨j2, j3⟩, j4, j5⟩ := hSw);go_simp; with_reducible rfl); simp only [Act.put, pB, pC, pD]
    refine tkH (by assumption) 9 (oi := ?_) (v := ?_) ?_ ?_ ?_ ?_ ?_ ?_ ?_ ?_; rotate_left 2; (simp only [gA, gB, gC]; exact rfl); kernel_rfl; kernel_rfl; kernel_rfl; exact fun _ _ _ h => h; rfl; (intro w' hSw; (obtain ⟨⟨j0, j1⟩, ⟨j2, j3⟩, j4, j5⟩ := hSw);go_simp; with_reducible rfl); simp only [Act.put, pB, pC, pD]
    refine tkH (by assumption) 12 (oi := ?_) (v := ?_) ?_ ?_ ?_ ?_ ?_ ?_ ?_ ?_; rotate_left 2; (simp only [gA, gB, gC]; exact rfl); kernel_rfl; kernel_rfl; kernel_rfl; exact fun _ _ _ h => h; rfl; (intro w' hSw; (obtain ⟨⟨j0, j1⟩, ⟨j2, j3⟩, j4, j5⟩ := hSw);go_simp; with_reducible rfl); simp only [Act.put, pB, pC, pD]
    refine tkH (by assumption) 13 (oi := ?_) (v := ?_) ?_ ?_ ?_ ?_ ?_ ?_ ?_ ?_; rotate_left 2; (simp only [gA, gB, gC]; exact rfl); kernel_rfl; kernel_rfl; kernel_rfl; exact fun _ _ _ h => h; rfl; (intro w' hSw; (obtain ⟨⟨j0, j1⟩, ⟨j2, j3⟩, j4, j5⟩ := hSw);go_simp; with_reducible rfl); simp only [Act.put, pB, pC, pD]
    refine tkH (by assumption) 14 (oi := ?_) (v := ?_) ?_ ?_ ?_ ?_ ?_ ?_ ?_ ?_; rotate_left 2; (simp only [gA, gB, gC]; exact rfl); kernel_rfl; kernel_rfl; kernel_rfl; exact fun _ _ _ h => h; rfl; (intro w' hSw; (obtain ⟨⟨j0, j1⟩, ⟨j2, j3⟩, j4, j5⟩ := hSw);go_simp; with_reducible rfl); simp only [Act.put, pB, pC, pD]
    refine tkH (by assumption) 15 (oi := ?_) (v := ?_) ?_ ?_ ?_ ?_ ?_ ?_ ?_ ?_; rotate_left 2; (simp only [gA, gB, gC]; exact rfl); kernel_rfl; kernel_rfl; kernel_rfl; exact fun _ _ _ h => h; rfl; (intro w' hSw; (obtain ⟨⟨j0, j1⟩, ⟨j2, j3⟩, j4, j5⟩ := hSw);go_simp; with_reducible rfl); simp only [Act.put, pB, pC, pD]
    refine tkH (by assumption) 16 (oi := ?_) (v := ?_) ?_ ?_ ?_ ?_ ?_ ?_ ?_ ?_; rotate_left 2; (simp only [gA, gB, gC]; exact rfl); kernel_rfl; kernel_rfl; kernel_rfl; exact fun _ _ _ h => h; rfl; (intro w' hSw; (obtain ⟨⟨j0, j1⟩, ⟨j2, j3⟩, j4, j5⟩ := hSw);go_simp; with_reducible rfl); simp only [Act.put, pB, pC, pD]
    refine tkH (by assumption) 18 (oi := ?_) (v := ?_) ?_ ?_ ?_ ?_ ?_ ?_ ?_ ?_; rotate_left 2; (simp only [gA, gB, gC]; exact rfl); kernel_rfl; kernel_rfl; kernel_rfl; exact fun _ _ _ h => h; rfl; (intro w' hSw; (obtain ⟨⟨j0, j1⟩, ⟨j2, j3⟩, j4, j5⟩ := hSw);go_simp; with_reducible rfl); simp only [Act.put, pB, pC, pD]
    refine tkH (by assumption) 19 (oi := ?_) (v := ?_) ?_ ?_ ?_ ?_ ?_ ?_ ?_ ?_; rotate_left 2; (simp only [gA, gB, gC]; exact rfl); kernel_rfl; kernel_rfl; kernel_rfl; exact fun _ _ _ h => h; rfl; (intro w' hSw; (obtain ⟨⟨j0, j1⟩, ⟨j2, j3⟩, j4, j5⟩ := hSw);go_simp; with_reducible rfl); simp only [Act.put, pB, pC, pD]
    refine tkH (by assumption) 20 (oi := ?_) (v := ?_) ?_ ?_ ?_ ?_ ?_ ?_ ?_ ?_; rotate_left 2; (simp only [gA, gB, gC]; exact rfl); kernel_rfl; kernel_rfl; kernel_rfl; exact fun _ _ _ h => h; rfl; (intro w' hSw; (obtain ⟨⟨j0, j1⟩, ⟨j2, j3⟩, j4, j5⟩ := hSw);go_simp; with_reducible rfl); simp only [Act.put, pB, pC, pD]
    refine absH (fun G A hG hA => ?_)
    suffices h_5_10_11_17_21_22 : ∀ (g5 : Nat) (g10 : Nat) (a11 : Option Addr) (c11 : Nat) (g17 : Nat) (g21 : Nat) (a22 : Option Addr) (c22 : Nat) (W : World), Hid (Below w3.heap.size w3 W) → w3.heap.size ≤ g5 ∧ g5 < W.heap.size → w3.heap.size ≤ g10 ∧ g10 < W.heap.size → w3.heap.size ≤ g17 ∧ g17 < W.heap.size → w3.heap.size ≤ g21 ∧ g21 < W.heap.size → g5 ≠ g10 → g5 ≠ g17 → g5 ≠ g21 → g10 ≠ g17 → g10 ≠ g21 → g17 ≠ g21 → Hid (W.ownsRow w3.heap.size 83 2 (.slice a11 (n + 1) c11) (n + 1) (cells2 (splL n 0 t L) (splM n 0 M) (n + 1))) → Hid (W.ownsRow w3.heap.size 3 1 (.slice a22 1 c22) 1 (vs (splC 0 (M 0) C) 1)) → G 2 #[true, true, true, true, true, true, true, true, true, true, true, true, true, true, true, true, true, true, true, true, true, true, true, false, false] ((((((A.put (some 33) (.slice (some ⟨g5, 0, none⟩) 2 2)).put (some 38) (.slice (some ⟨g10, 0, none⟩) 3 3)).put (some 39) (.slice a11 (n + 1) c11)).put (some 45) (.slice (some ⟨g17, 0, none⟩) 1 1)).put (some 49) (.slice (some ⟨g21, 0, none⟩) 3 3)).put (some 50) (.slice a22 1 c22)) W by
      have h_5_10_11_17_21 : ∀ (g5 : Nat) (g10 : Nat) (a11 : Option Addr) (c11 : Nat) (g17 : Nat) (g21 : Nat) (W : World), Hid (Below w3.heap.size w3 W) → Hid (W.heap[g17]? = some (.cells #[.int .i64 (M 0)] 3 (0, 0))) → Hid (W.heap[g21]? = some (.cells #[.slice none 0 0, .slice (some ⟨g17, 0, none⟩) 1 1, .slice none 0 0] 22 (0, 0))) → w3.heap.size ≤ g5 ∧ g5 < W.heap.size → w3.heap.size ≤ g10 ∧ g10 < W.heap.size → w3.heap.size ≤ g17 ∧ g17 < W.heap.size → w3.heap.size ≤ g21 ∧ g21 < W.heap.size → g5 ≠ g10 → g5 ≠ g17 → g5 ≠ g21 → g10 ≠ g17 → g10 ≠ g21 → g17 ≠ g21 → Hid (W.ownsRow w3.heap.size 83 2 (.slice a11 (n + 1) c11) (n + 1) (cells2 (splL n 0 t L) (splM n 0 M) (n + 1))) → G 3 #[true, true, true, true, true, true, true, true, true, true, true, true, true, true, true, true, true, true, true, true, true, true, false, false, false] (((((A.put (some 33) (.slice (some ⟨g5, 0, none⟩) 2 2)).put (some 38) (.slice (some ⟨g10, 0, none⟩) 3 3)).put (some 39) (.slice a11 (n + 1) c11)).put (some 45) (.slice (some ⟨g17, 0, none⟩) 1 1)).put (some 49) (.slice (some ⟨g21, 0, none⟩) 3 3)) W := by
        intro g5 g10 a11 c11 g17 g21 W HB0 HG17 HG21 hl5 hl10 hl17 hl21 ne5_10 ne5_17 ne5_21 ne10_17 ne10_21 ne17_21 HR11
        subst hA
        rw [hG]
        simp only [Act.put, pB, pC, pD]
        have hWW := HB0.out.size
        refine wpAnyH_ready (rs := [22]) (by kernel_rfl) (by simp) ?_
        refine coH 22 (oi := ?_) ?_ ?_ (fun K hK => ?_) ?_; rotate_left; (simp only [gA, gB, gC]; exact rfl); rfl
        · go_wp2_with (fail)
          refine (concatI1 g21 ⟨g17, 0, none⟩ 1 1 (fun _ => M 0) W HG21.out (show IntsR W (some ⟨g17, 0, none⟩) 1 (fun _ => M 0) from .inr ⟨_, 0, rfl, lt_of_heap HG17.out, fun i hi => by
              obtain rfl : i = 0 := by omega
              exact cell_of HG17.out (i := 0) rfl⟩) (by omega) (by omega)).mono ?_
          rintro e Wn ⟨a22, c22, rfl, ho22, hb⟩
          have hgs := hb.size
          have hvv : vs (fun _ => M 0) 1 = vs (splC 0 (M 0) C) 1 := vs_ext (fun i hi => by obtain rfl : i = 0 := (by omega); simp [splC, ap])
          rw [hvv] at ho22
          have K_HR22 := Lib.hid (own_lowU ho22 hWW)
          refine hK.out _ _ ⟨⟨cellk (HB0.out.trans (hb.mono HB0.out.size)) lq3 x0, cellk (HB0.out.trans (hb.mono HB0.out.size)) lq3 x1⟩, ⟨cellk (HB0.out.trans (hb.mono HB0.out.size)) l11 a0, cellk (HB0.out.trans (hb.mono HB0.out.size)) l11 a1⟩, cellk (HB0.out.trans (hb.mono HB0.out.size)) l12 b0, cellk (HB0.out.trans (hb.mono HB0.out.size)) l12 b1⟩ (fun hHeldN => ?_)
          clear hK K
          try simp only [Act.put, pB, pC, pD]
          refine listedEq (l' := #[true, true, true, true, true, true, true, true, true, true, true, true, true, true, true, true, true, true, true, true, true, true, true, false, false]) (by kernel_rfl) ?_
          have h := h_5_10_11_17_21_22 g5 g10 a11 c11 g17 g21 a22 c22 Wn (Lib.hid (HB0.out.trans (hb.mono HB0.out.size))) ⟨hl5.1, by have := hl5.2; omega⟩ ⟨hl10.1, by have := hl10.2; omega⟩ ⟨hl17.1, by have := hl17.2; omega⟩ ⟨hl21.1, by have := hl21.2; omega⟩ ne5_10 ne5_17 ne5_21 ne10_17 ne10_21 ne17_21 (Lib.hid (ownsRow_below HR11.out hb)) K_HR22
          rw [hG] at h
          simp only [Act.put, pB, pC, pD] at h
          exact h
        exact AllReadyH.nil
      have h_5_10_11_17 : ∀ (g5 : Nat) (g10 : Nat) (a11 : Option Addr) (c11 : Nat) (g17 : Nat) (W : World), Hid (Below w3.heap.size w3 W) → Hid (W.heap[g17]? = some (.cells #[.int .i64 (M 0)] 3 (0, 0))) → w3.heap.size ≤ g5 ∧ g5 < W.heap.size → w3.heap.size ≤ g10 ∧ g10 < W.heap.size → w3.heap.size ≤ g17 ∧ g17 < W.heap.size → g5 ≠ g10 → g5 ≠ g17 → g10 ≠ g17 → Hid (W.ownsRow w3.heap.size 83 2 (.slice a11 (n + 1) c11) (n + 1) (cells2 (splL n 0 t L) (splM n 0 M) (n + 1))) → G 4 #[true, true, true, true, true, true, true, true, true, true, true, true, true, true, true, true, true, true, true, true, true, false, false, false, false] ((((A.put (some 33) (.slice (some ⟨g5, 0, none⟩) 2 2)).put (some 38) (.slice (some ⟨g10, 0, none⟩) 3 3)).put (some 39) (.slice a11 (n + 1) c11)).put (some 45) (.slice (some ⟨g17, 0, none⟩) 1 1)) W := by
        intro g5 g10 a11 c11 g17 W HB0 HG17 hl5 hl10 hl17 ne5_10 ne5_17 ne10_17 HR11
        subst hA
        rw [hG]
        simp only [Act.put, pB, pC, pD]
        have hWW := HB0.out.size
        refine wpAnyH_ready (rs := [21]) (by kernel_rfl) (by simp) ?_
        refine coH 21 (oi := ?_) ?_ ?_ (fun K hK => ?_) ?_; rotate_left; (simp only [gA, gB, gC]; exact rfl); rfl
        · go_wp2_with (fail)
          have hb : Below W.heap.size W (W.alloc (.cells #[.slice none 0 0, .slice (some ⟨g17, 0, none⟩) 1 1, .slice none 0 0] 22)) := (Below.refl _ _).alloc (Nat.le_refl _) _
          have hgs : (W.alloc (.cells #[.slice none 0 0, .slice (some ⟨g17, 0, none⟩) 1 1, .slice none 0 0] 22)).heap.size = W.heap.size + 1 := by simp
          have K_HG21 := Lib.hid (heap_alloc_new W (.cells #[.slice none 0 0, .slice (some ⟨g17, 0, none⟩) 1 1, .slice none 0 0] 22))
          refine hK.out _ _ ⟨⟨cellk (HB0.out.trans (hb.mono HB0.out.size)) lq3 x0, cellk (HB0.out.trans (hb.mono HB0.out.size)) lq3 x1⟩, ⟨cellk (HB0.out.trans (hb.mono HB0.out.size)) l11 a0, cellk (HB0.out.trans (hb.mono HB0.out.size)) l11 a1⟩, cellk (HB0.out.trans (hb.mono HB0.out.size)) l12 b0, cellk (HB0.out.trans (hb.mono HB0.out.size)) l12 b1⟩ (fun hHeldN => ?_)
          clear hK K
          try simp only [Act.put, pB, pC, pD]
          refine listedEq (l' := #[true, true, true, true, true, true, true, true, true, true, true, true, true, true, true, true, true, true, true, true, true, true, false, false, false]) (by kernel_rfl) ?_
          have h := h_5_10_11_17_21 g5 g10 a11 c11 g17 W.heap.size (W.alloc (.cells #[.slice none 0 0, .slice (some ⟨g17, 0, none⟩) 1 1, .slice none 0 0] 22)) (Lib.hid (HB0.out.trans (hb.mono HB0.out.size))) (Lib.hid (heap_keep hb HG17.out)) K_HG21 ⟨hl5.1, by have := hl5.2; omega⟩ ⟨hl10.1, by have := hl10.2; omega⟩ ⟨hl17.1, by have := hl17.2; omega⟩ ⟨hWW, by omega⟩ ne5_10 ne5_17 (by have := hl5.2; omega) ne10_17 (by have := hl10.2; omega) (by have := hl17.2; omega) (Lib.hid (ownsRow_below HR11.out hb))
          rw [hG] at h
          simp only [Act.put, pB, pC, pD] at h
          exact h
        exact AllReadyH.nil
      have h_5_10_17_21 : ∀ (g5 : Nat) (g10 : Nat) (g17 : Nat) (g21 : Nat) (W : World), Hid (Below w3.heap.size w3 W) → Hid (W.heap[g5]? = some (.cells #[.int .i64 t, .int .i64 (M 0), .int .i64 (L 0 - t), .int .i64 (M 0)] 83 (0, 0))) → Hid (W.heap[g10]? = some (.cells #[.slice (some ⟨b, off, none⟩) 0 c, .slice (some ⟨g5, 0, none⟩) 2 2, .slice (some d3) (n - 1) (c - 1)] 64 (0, 0))) → Hid (W.heap[g17]? = some (.cells #[.int .i64 (M 0)] 3 (0, 0))) → Hid (W.heap[g21]? = some (.cells #[.slice none 0 0, .slice (some ⟨g17, 0, none⟩) 1 1, .slice none 0 0] 22 (0, 0))) → w3.heap.size ≤ g5 ∧ g5 < W.heap.size → w3.heap.size ≤ g10 ∧ g10 < W.heap.size → w3.heap.size ≤ g17 ∧ g17 < W.heap.size → w3.heap.size ≤ g21 ∧ g21 < W.heap.size → g5 ≠ g10 → g5 ≠ g17 → g5 ≠ g21 → g10 ≠ g17 → g10 ≠ g21 → g17 ≠ g21 → G 4 #[true, true, true, true, true, true, true, true, true, true, true, false, true, true, true, true, true, true, true, true, true, true, false, false, false] ((((A.put (some 33) (.slice (some ⟨g5, 0, none⟩) 2 2)).put (some 38) (.slice (some ⟨g10, 0, none⟩) 3 3)).put (some 45) (.slice (some ⟨g17, 0, none⟩) 1 1)).put (some 49) (.slice (some ⟨g21, 0, none⟩) 3 3)) W := by
        intro g5 g10 g17 g21 W HB0 HG5 HG10 HG17 HG21 hl5 hl10 hl17 hl21 ne5_10 ne5_17 ne5_21 ne10_17 ne10_21 ne17_21
        subst hA
        rw [hG]
        simp only [Act.put, pB, pC, pD]
        have hWW := HB0.out.size
        refine wpAnyH_ready (rs := [11]) (by kernel_rfl) (by simp) ?_
        refine coH 11 (oi := ?_) ?_ ?_ (fun K hK => ?_) ?_; rotate_left; (simp only [gA, gB, gC]; exact rfl); rfl
        · go_wp2_with (fail)
          refine (concatL g10 ⟨b, off, none⟩ ⟨g5, 0, none⟩ d3 0 2 (n - 1) c 2 (c - 1) L M (prtL (L 0) t) (fun _ => M 0) (fun i => L (0 + 1 + i)) (fun i => M (0 + 1 + i)) W HG10.out (.inr ⟨b, off, rfl, Nat.lt_of_lt_of_le hbw3 HB0.out.size, (HD3w.out.kept HB0.out hbw3).less (by omega)⟩) (.inr ⟨_, 0, rfl, lt_of_heap HG5.out, fun i hi => by
              have : i = 0 ∨ i = 1 := by omega
              rcases this with rfl | rfl
              · exact ⟨cell_of HG5.out (i := 0) rfl, cell_of HG5.out (i := 1) rfl⟩
              · exact ⟨cell_of HG5.out (i := 2) rfl, cell_of HG5.out (i := 3) rfl⟩⟩) (by
              rcases HDD3.out with h | h
              · exact .inl (by omega)
              · rw [h]; exact LegsR.sub (Nat.lt_of_lt_of_le hbw3 HB0.out.size) (HD3w.out.kept HB0.out hbw3) 1 (n - 1) (by omega)) (by omega) (by omega) (by omega)).mono ?_
          rintro e Wn ⟨a11, c11, rfl, ho11, hb⟩
          have hgs := hb.size
          rw [show 0 + 2 + (n - 1) = n + 1 by omega] at ho11 ⊢
          have K_HR11 := Lib.hid (own_lowU ho11 hWW)
          refine hK.out _ _ ⟨⟨cellk (HB0.out.trans (hb.mono HB0.out.size)) lq3 x0, cellk (HB0.out.trans (hb.mono HB0.out.size)) lq3 x1⟩, ⟨cellk (HB0.out.trans (hb.mono HB0.out.size)) l11 a0, cellk (HB0.out.trans (hb.mono HB0.out.size)) l11 a1⟩, cellk (HB0.out.trans (hb.mono HB0.out.size)) l12 b0, cellk (HB0.out.trans (hb.mono HB0.out.size)) l12 b1⟩ (fun hHeldN => ?_)
          clear hK K
          try simp only [Act.put, pB, pC, pD]
          refine listedEq (l' := #[true, true, true, true, true, true, true, true, true, true, true, true, true, true, true, true, true, true, true, true, true, true, false, false, false]) (by kernel_rfl) ?_
          have h := h_5_10_11_17_21 g5 g10 a11 c11 g17 g21 Wn (Lib.hid (HB0.out.trans (hb.mono HB0.out.size))) (Lib.hid (heap_keep hb HG17.out)) (Lib.hid (heap_keep hb HG21.out)) ⟨hl5.1, by have := hl5.2; omega⟩ ⟨hl10.1, by have := hl10.2; omega⟩ ⟨hl17.1, by have := hl17.2; omega⟩ ⟨hl21.1, by have := hl21.2; omega⟩ ne5_10 ne5_17 ne5_21 ne10_17 ne10_21 ne17_21 K_HR11
          rw [hG] at h
          simp only [Act.put, pB, pC, pD] at h
          exact h
        exact AllReadyH.nil
      have h_5_10_11 : ∀ (g5 : Nat) (g10 : Nat) (a11 : Option Addr) (c11 : Nat) (W : World), Hid (Below w3.heap.size w3 W) → w3.heap.size ≤ g5 ∧ g5 < W.heap.size → w3.heap.size ≤ g10 ∧ g10 < W.heap.size → g5 ≠ g10 → Hid (W.ownsRow w3.heap.size 83 2 (.slice a11 (n + 1) c11) (n + 1) (cells2 (splL n 0 t L) (splM n 0 M) (n + 1))) → G 5 #[true, true, true, true, true, true, true, true, true, true, true, true, true, true, true, true, true, false, true, true, true, false, false, false, false] (((A.put (some 33) (.slice (some ⟨g5, 0, none⟩) 2 2)).put (some 38) (.slice (some ⟨g10, 0, none⟩) 3 3)).put (some 39) (.slice a11 (n + 1) c11)) W := by
        intro g5 g10 a11 c11 W HB0 hl5 hl10 ne5_10 HR11
        subst hA
        rw [hG]
        simp only [Act.put, pB, pC, pD]
        have hWW := HB0.out.size
        refine wpAnyH_ready (rs := [17]) (by kernel_rfl) (by simp) ?_
        refine coH 17 (oi := ?_) ?_ ?_ (fun K hK => ?_) ?_; rotate_left; (simp only [gA, gB, gC]; exact rfl); rfl
        · go_wp2_with (fail)
          have hb : Below W.heap.size W (W.alloc (.cells #[.int .i64 (M 0)] 3)) := (Below.refl _ _).alloc (Nat.le_refl _) _
          have hgs : (W.alloc (.cells #[.int .i64 (M 0)] 3)).heap.size = W.heap.size + 1 := by simp
          have K_HG17 := Lib.hid (heap_alloc_new W (.cells #[.int .i64 (M 0)] 3))
          refine hK.out _ _ ⟨⟨cellk (HB0.out.trans (hb.mono HB0.out.size)) lq3 x0, cellk (HB0.out.trans (hb.mono HB0.out.size)) lq3 x1⟩, ⟨cellk (HB0.out.trans (hb.mono HB0.out.size)) l11 a0, cellk (HB0.out.trans (hb.mono HB0.out.size)) l11 a1⟩, cellk (HB0.out.trans (hb.mono HB0.out.size)) l12 b0, cellk (HB0.out.trans (hb.mono HB0.out.size)) l12 b1⟩ (fun hHeldN => ?_)
          clear hK K
          try simp only [Act.put, pB, pC, pD]
          refine listedEq (l' := #[true, true, true, true, true, true, true, true, true, true, true, true, true, true, true, true, true, true, true, true, true, false, false, false, false]) (by kernel_rfl) ?_
          have h := h_5_10_11_17 g5 g10 a11 c11 W.heap.size (W.alloc (.cells #[.int .i64 (M 0)] 3)) (Lib.hid (HB0.out.trans (hb.mono HB0.out.size))) K_HG17 ⟨hl5.1, by have := hl5.2; omega⟩ ⟨hl10.1, by have := hl10.2; omega⟩ ⟨hWW, by omega⟩ ne5_10 (by have := hl5.2; omega) (by have := hl10.2; omega) (Lib.hid (ownsRow_below HR11.out hb))
          rw [hG] at h
          simp only [Act.put, pB, pC, pD] at h
          exact h
        exact AllReadyH.nil
      have h_5_10_17 : ∀ (g5 : Nat) (g10 : Nat) (g17 : Nat) (W : World), Hid (Below w3.heap.size w3 W) → Hid (W.heap[g5]? = some (.cells #[.int .i64 t, .int .i64 (M 0), .int .i64 (L 0 - t), .int .i64 (M 0)] 83 (0, 0))) → Hid (W.heap[g10]? = some (.cells #[.slice (some ⟨b, off, none⟩) 0 c, .slice (some ⟨g5, 0, none⟩) 2 2, .slice (some d3) (n - 1) (c - 1)] 64 (0, 0))) → Hid (W.heap[g17]? = some (.cells #[.int .i64 (M 0)] 3 (0, 0))) → w3.heap.size ≤ g5 ∧ g5 < W.heap.size → w3.heap.size ≤ g10 ∧ g10 < W.heap.size → w3.heap.size ≤ g17 ∧ g17 < W.heap.size → g5 ≠ g10 → g5 ≠ g17 → g10 ≠ g17 → G 5 #[true, true, true, true, true, true, true, true, true, true, true, false, true, true, true, true, true, true, true, true, true, false, false, false, false] (((A.put (some 33) (.slice (some ⟨g5, 0, none⟩) 2 2)).put (some 38) (.slice (some ⟨g10, 0, none⟩) 3 3)).put (some 45) (.slice (some ⟨g17, 0, none⟩) 1 1)) W := by
        intro g5 g10 g17 W HB0 HG5 HG10 HG17 hl5 hl10 hl17 ne5_10 ne5_17 ne10_17
        subst hA
        rw [hG]
        simp only [Act.put, pB, pC, pD]
        have hWW := HB0.out.size
        refine wpAnyH_ready (rs := [11, 21]) (by kernel_rfl) (by simp) ?_
        refine coH 11 (oi := ?_) ?_ ?_ (fun K hK => ?_) ?_; rotate_left; (simp only [gA, gB, gC]; exact rfl); rfl
        · go_wp2_with (fail)
          refine (concatL g10 ⟨b, off, none⟩ ⟨g5, 0, none⟩ d3 0 2 (n - 1) c 2 (c - 1) L M (prtL (L 0) t) (fun _ => M 0) (fun i => L (0 + 1 + i)) (fun i => M (0 + 1 + i)) W HG10.out (.inr ⟨b, off, rfl, Nat.lt_of_lt_of_le hbw3 HB0.out.size, (HD3w.out.kept HB0.out hbw3).less (by omega)⟩) (.inr ⟨_, 0, rfl, lt_of_heap HG5.out, fun i hi => by
              have : i = 0 ∨ i = 1 := by omega
              rcases this with rfl | rfl
              · exact ⟨cell_of HG5.out (i := 0) rfl, cell_of HG5.out (i := 1) rfl⟩
              · exact ⟨cell_of HG5.out (i := 2) rfl, cell_of HG5.out (i := 3) rfl⟩⟩) (by
              rcases HDD3.out with h | h
              · exact .inl (by omega)
              · rw [h]; exact LegsR.sub (Nat.lt_of_lt_of_le hbw3 HB0.out.size) (HD3w.out.kept HB0.out hbw3) 1 (n - 1) (by omega)) (by omega) (by omega) (by omega)).mono ?_
          rintro e Wn ⟨a11, c11, rfl, ho11, hb⟩
          have hgs := hb.size
          rw [show 0 + 2 + (n - 1) = n + 1 by omega] at ho11 ⊢
          have K_HR11 := Lib.hid (own_lowU ho11 hWW)
          refine hK.out _ _ ⟨⟨cellk (HB0.out.trans (hb.mono HB0.out.size)) lq3 x0, cellk (HB0.out.trans (hb.mono HB0.out.size)) lq3 x1⟩, ⟨cellk (HB0.out.trans (hb.mono HB0.out.size)) l11 a0, cellk (HB0.out.trans (hb.mono HB0.out.size)) l11 a1⟩, cellk (HB0.out.trans (hb.mono HB0.out.size)) l12 b0, cellk (HB0.out.trans (hb.mono HB0.out.size)) l12 b1⟩ (fun hHeldN => ?_)
          clear hK K
          try simp only [Act.put, pB, pC, pD]
          refine listedEq (l' := #[true, true, true, true, true, true, true, true, true, true, true, true, true, true, true, true, true, true, true, true, true, false, false, false, false]) (by kernel_rfl) ?_
          have h := h_5_10_11_17 g5 g10 a11 c11 g17 Wn (Lib.hid (HB0.out.trans (hb.mono HB0.out.size))) (Lib.hid (heap_keep hb HG17.out)) ⟨hl5.1, by have := hl5.2; omega⟩ ⟨hl10.1, by have := hl10.2; omega⟩ ⟨hl17.1, by have := hl17.2; omega⟩ ne5_10 ne5_17 ne10_17 K_HR11
          rw [hG] at h
          simp only [Act.put, pB, pC, pD] at h
          exact h
        refine coH 21 (oi := ?_) ?_ ?_ (fun K hK => ?_) ?_; rotate_left; (simp only [gA, gB, gC]; exact rfl); rfl
        · go_wp2_with (fail)
          have hb : Below W.heap.size W (W.alloc (.cells #[.slice none 0 0, .slice (some ⟨g17, 0, none⟩) 1 1, .slice none 0 0] 22)) := (Below.refl _ _).alloc (Nat.le_refl _) _
          have hgs : (W.alloc (.cells #[.slice none 0 0, .slice (some ⟨g17, 0, none⟩) 1 1, .slice none 0 0] 22)).heap.size = W.heap.size + 1 := by simp
          have K_HG21 := Lib.hid (heap_alloc_new W (.cells #[.slice none 0 0, .slice (some ⟨g17, 0, none⟩) 1 1, .slice none 0 0] 22))
          refine hK.out _ _ ⟨⟨cellk (HB0.out.trans (hb.mono HB0.out.size)) lq3 x0, cellk (HB0.out.trans (hb.mono HB0.out.size)) lq3 x1⟩, ⟨cellk (HB0.out.trans (hb.mono HB0.out.size)) l11 a0, cellk (HB0.out.trans (hb.mono HB0.out.size)) l11 a1⟩, cellk (HB0.out.trans (hb.mono HB0.out.size)) l12 b0, cellk (HB0.out.trans (hb.mono HB0.out.size)) l12 b1⟩ (fun hHeldN => ?_)
          clear hK K
          try simp only [Act.put, pB, pC, pD]
          refine listedEq (l' := #[true, true, true, true, true, true, true, true, true, true, true, false, true, true, true, true, true, true, true, true, true, true, false, false, false]) (by kernel_rfl) ?_
          have h := h_5_10_17_21 g5 g10 g17 W.heap.size (W.alloc (.cells #[.slice none 0 0, .slice (some ⟨g17, 0, none⟩) 1 1, .slice none 0 0] 22)) (Lib.hid (HB0.out.trans (hb.mono HB0.out.size))) (Lib.hid (heap_keep hb HG5.out)) (Lib.hid (heap_keep hb HG10.out)) (Lib.hid (heap_keep hb HG17.out)) K_HG21 ⟨hl5.1, by have := hl5.2; omega⟩ ⟨hl10.1, by have := hl10.2; omega⟩ ⟨hl17.1, by have := hl17.2; omega⟩ ⟨hWW, by omega⟩ ne5_10 ne5_17 (by have := hl5.2; omega) ne10_17 (by have := hl10.2; omega) (by have := hl17.2; omega)
          rw [hG] at h
          simp only [Act.put, pB, pC, pD] at h
          exact h
        exact AllReadyH.nil
      have h_5_17_21 : ∀ (g5 : Nat) (g17 : Nat) (g21 : Nat) (W : World), Hid (Below w3.heap.size w3 W) → Hid (W.heap[g5]? = some (.cells #[.int .i64 t, .int .i64 (M 0), .int .i64 (L 0 - t), .int .i64 (M 0)] 83 (0, 0))) → Hid (W.heap[g17]? = some (.cells #[.int .i64 (M 0)] 3 (0, 0))) → Hid (W.heap[g21]? = some (.cells #[.slice none 0 0, .slice (some ⟨g17, 0, none⟩) 1 1, .slice none 0 0] 22 (0, 0))) → w3.heap.size ≤ g5 ∧ g5 < W.heap.size → w3.heap.size ≤ g17 ∧ g17 < W.heap.size → w3.heap.size ≤ g21 ∧ g21 < W.heap.size → g5 ≠ g17 → g5 ≠ g21 → g17 ≠ g21 → G 5 #[true, true, true, true, true, true, true, true, true, true, false, false, true, true, true, true, true, true, true, true, true, true, false, false, false] (((A.put (some 33) (.slice (some ⟨g5, 0, none⟩) 2 2)).put (some 45) (.slice (some ⟨g17, 0, none⟩) 1 1)).put (some 49) (.slice (some ⟨g21, 0, none⟩) 3 3)) W := by
        intro g5 g17 g21 W HB0 HG5 HG17 HG21 hl5 hl17 hl21 ne5_17 ne5_21 ne17_21
        subst hA
        rw [hG]
        simp only [Act.put, pB, pC, pD]
        have hWW := HB0.out.size
        refine wpAnyH_ready (rs := [10]) (by kernel_rfl) (by simp) ?_
        refine coH 10 (oi := ?_) ?_ ?_ (fun K hK => ?_) ?_; rotate_left; (simp only [gA, gB, gC]; exact rfl); rfl
        · go_wp2_with (fail)
          have hb : Below W.heap.size W (W.alloc (.cells #[.slice (some ⟨b, off, none⟩) 0 c, .slice (some ⟨g5, 0, none⟩) 2 2, .slice (some d3) (n - 1) (c - 1)] 64)) := (Below.refl _ _).alloc (Nat.le_refl _) _
          have hgs : (W.alloc (.cells #[.slice (some ⟨b, off, none⟩) 0 c, .slice (some ⟨g5, 0, none⟩) 2 2, .slice (some d3) (n - 1) (c - 1)] 64)).heap.size = W.heap.size + 1 := by simp
          have K_HG10 := Lib.hid (heap_alloc_new W (.cells #[.slice (some ⟨b, off, none⟩) 0 c, .slice (some ⟨g5, 0, none⟩) 2 2, .slice (some d3) (n - 1) (c - 1)] 64))
          refine hK.out _ _ ⟨⟨cellk (HB0.out.trans (hb.mono HB0.out.size)) lq3 x0, cellk (HB0.out.trans (hb.mono HB0.out.size)) lq3 x1⟩, ⟨cellk (HB0.out.trans (hb.mono HB0.out.size)) l11 a0, cellk (HB0.out.trans (hb.mono HB0.out.size)) l11 a1⟩, cellk (HB0.out.trans (hb.mono HB0.out.size)) l12 b0, cellk (HB0.out.trans (hb.mono HB0.out.size)) l12 b1⟩ (fun hHeldN => ?_)
          clear hK K
          try simp only [Act.put, pB, pC, pD]
          refine listedEq (l' := #[true, true, true, true, true, true, true, true, true, true, true, false, true, true, true, true, true, true, true, true, true, true, false, false, false]) (by kernel_rfl) ?_
          have h := h_5_10_17_21 g5 W.heap.size g17 g21 (W.alloc (.cells #[.slice (some ⟨b, off, none⟩) 0 c, .slice (some ⟨g5, 0, none⟩) 2 2, .slice (some d3) (n - 1) (c - 1)] 64)) (Lib.hid (HB0.out.trans (hb.mono HB0.out.size))) (Lib.hid (heap_keep hb HG5.out)) K_HG10 (Lib.hid (heap_keep hb HG17.out)) (Lib.hid (heap_keep hb HG21.out)) ⟨hl5.1, by have := hl5.2; omega⟩ ⟨hWW, by omega⟩ ⟨hl17.1, by have := hl17.2; omega⟩ ⟨hl21.1, by have := hl21.2; omega⟩ (by have := hl5.2; omega) ne5_17 ne5_21 (by have := hl17.2; omega) (by have := hl21.2; omega) ne17_21
          rw [hG] at h
          simp only [Act.put, pB, pC, pD] at h
          exact h
        exact AllReadyH.nil
      have h_5_10 : ∀ (g5 : Nat) (g10 : Nat) (W : World), Hid (Below w3.heap.size w3 W) → Hid (W.heap[g5]? = some (.cells #[.int .i64 t, .int .i64 (M 0), .int .i64 (L 0 - t), .int .i64 (M 0)] 83 (0, 0))) → Hid (W.heap[g10]? = some (.cells #[.slice (some ⟨b, off, none⟩) 0 c, .slice (some ⟨g5, 0, none⟩) 2 2, .slice (some d3) (n - 1) (c - 1)] 64 (0, 0))) → w3.heap.size ≤ g5 ∧ g5 < W.heap.size → w3.heap.size ≤ g10 ∧ g10 < W.heap.size → g5 ≠ g10 → G 6 #[true, true, true, true, true, true, true, true, true, true, true, false, true, true, true, true, true, false, true, true, true, false, false, false, false] ((A.put (some 33) (.slice (some ⟨g5, 0, none⟩) 2 2)).put (some 38) (.slice (some ⟨g10, 0, none⟩) 3 3)) W := by
        intro g5 g10 W HB0 HG5 HG10 hl5 hl10 ne5_10
        subst hA
        rw [hG]
        simp only [Act.put, pB, pC, pD]
        have hWW := HB0.out.size
        refine wpAnyH_ready (rs := [11, 17]) (by kernel_rfl) (by simp) ?_
        refine coH 11 (oi := ?_) ?_ ?_ (fun K hK => ?_) ?_; rotate_left; (simp only [gA, gB, gC]; exact rfl); rfl
        · go_wp2_with (fail)
          refine (concatL g10 ⟨b, off, none⟩ ⟨g5, 0, none⟩ d3 0 2 (n - 1) c 2 (c - 1) L M (prtL (L 0) t) (fun _ => M 0) (fun i => L (0 + 1 + i)) (fun i => M (0 + 1 + i)) W HG10.out (.inr ⟨b, off, rfl, Nat.lt_of_lt_of_le hbw3 HB0.out.size, (HD3w.out.kept HB0.out hbw3).less (by omega)⟩) (.inr ⟨_, 0, rfl, lt_of_heap HG5.out, fun i hi => by
              have : i = 0 ∨ i = 1 := by omega
              rcases this with rfl | rfl
              · exact ⟨cell_of HG5.out (i := 0) rfl, cell_of HG5.out (i := 1) rfl⟩
              · exact ⟨cell_of HG5.out (i := 2) rfl, cell_of HG5.out (i := 3) rfl⟩⟩) (by
              rcases HDD3.out with h | h
              · exact .inl (by omega)
              · rw [h]; exact LegsR.sub (Nat.lt_of_lt_of_le hbw3 HB0.out.size) (HD3w.out.kept HB0.out hbw3) 1 (n - 1) (by omega)) (by omega) (by omega) (by omega)).mono ?_
          rintro e Wn ⟨a11, c11, rfl, ho11, hb⟩
          have hgs := hb.size
          rw [show 0 + 2 + (n - 1) = n + 1 by omega] at ho11 ⊢
          have K_HR11 := Lib.hid (own_lowU ho11 hWW)
          refine hK.out _ _ ⟨⟨cellk (HB0.out.trans (hb.mono HB0.out.size)) lq3 x0, cellk (HB0.out.trans (hb.mono HB0.out.size)) lq3 x1⟩, ⟨cellk (HB0.out.trans (hb.mono HB0.out.size)) l11 a0, cellk (HB0.out.trans (hb.mono HB0.out.size)) l11 a1⟩, cellk (HB0.out.trans (hb.mono HB0.out.size)) l12 b0, cellk (HB0.out.trans (hb.mono HB0.out.size)) l12 b1⟩ (fun hHeldN => ?_)
          clear hK K
          try simp only [Act.put, pB, pC, pD]
          refine listedEq (l' := #[true, true, true, true, true, true, true, true, true, true, true, true, true, true, true, true, true, false, true, true, true, false, false, false, false]) (by kernel_rfl) ?_
          have h := h_5_10_11 g5 g10 a11 c11 Wn (Lib.hid (HB0.out.trans (hb.mono HB0.out.size))) ⟨hl5.1, by have := hl5.2; omega⟩ ⟨hl10.1, by have := hl10.2; omega⟩ ne5_10 K_HR11
          rw [hG] at h
          simp only [Act.put, pB, pC, pD] at h
          exact h
        refine coH 17 (oi := ?_) ?_ ?_ (fun K hK => ?_) ?_; rotate_left; (simp only [gA, gB, gC]; exact rfl); rfl
        · go_wp2_with (fail)
          have hb : Below W.heap.size W (W.alloc (.cells #[.int .i64 (M 0)] 3)) := (Below.refl _ _).alloc (Nat.le_refl _) _
          have hgs : (W.alloc (.cells #[.int .i64 (M 0)] 3)).heap.size = W.heap.size + 1 := by simp
          have K_HG17 := Lib.hid (heap_alloc_new W (.cells #[.int .i64 (M 0)] 3))
          refine hK.out _ _ ⟨⟨cellk (HB0.out.trans (hb.mono HB0.out.size)) lq3 x0, cellk (HB0.out.trans (hb.mono HB0.out.size)) lq3 x1⟩, ⟨cellk (HB0.out.trans (hb.mono HB0.out.size)) l11 a0, cellk (HB0.out.trans (hb.mono HB0.out.size)) l11 a1⟩, cellk (HB0.out.trans (hb.mono HB0.out.size)) l12 b0, cellk (HB0.out.trans (hb.mono HB0.out.size)) l12 b1⟩ (fun hHeldN => ?_)
          clear hK K
          try simp only [Act.put, pB, pC, pD]
          refine listedEq (l' := #[true, true, true, true, true, true, true, true, true, true, true, false, true, true, true, true, true, true, true, true, true, false, false, false, false]) (by kernel_rfl) ?_
          have h := h_5_10_17 g5 g10 W.heap.size (W.alloc (.cells #[.int .i64 (M 0)] 3)) (Lib.hid (HB0.out.trans (hb.mono HB0.out.size))) (Lib.hid (heap_keep hb HG5.out)) (Lib.hid (heap_keep hb HG10.out)) K_HG17 ⟨hl5.1, by have := hl5.2; omega⟩ ⟨hl10.1, by have := hl10.2; omega⟩ ⟨hWW, by omega⟩ ne5_10 (by have := hl5.2; omega) (by have := hl10.2; omega)
          rw [hG] at h
          simp only [Act.put, pB, pC, pD] at h
          exact h
        exact AllReadyH.nil
      have h_5_17 : ∀ (g5 : Nat) (g17 : Nat) (W : World), Hid (Below w3.heap.size w3 W) → Hid (W.heap[g5]? = some (.cells #[.int .i64 t, .int .i64 (M 0), .int .i64 (L 0 - t), .int .i64 (M 0)] 83 (0, 0))) → Hid (W.heap[g17]? = some (.cells #[.int .i64 (M 0)] 3 (0, 0))) → w3.heap.size ≤ g5 ∧ g5 < W.heap.size → w3.heap.size ≤ g17 ∧ g17 < W.heap.size → g5 ≠ g17 → G 6 #[true, true, true, true, true, true, true, true, true, true, false, false, true, true, true, true, true, true, true, true, true, false, false, false, false] ((A.put (some 33) (.slice (some ⟨g5, 0, none⟩) 2 2)).put (some 45) (.slice (some ⟨g17, 0, none⟩) 1 1)) W := by
        intro g5 g17 W HB0 HG5 HG17 hl5 hl17 ne5_17
        subst hA
        rw [hG]
        simp only [Act.put, pB, pC, pD]
        have hWW := HB0.out.size
        refine wpAnyH_ready (rs := [10, 21]) (by kernel_rfl) (by simp) ?_
        refine coH 10 (oi := ?_) ?_ ?_ (fun K hK => ?_) ?_; rotate_left; (simp only [gA, gB, gC]; exact rfl); rfl
        · go_wp2_with (fail)
          have hb : Below W.heap.size W (W.alloc (.cells #[.slice (some ⟨b, off, none⟩) 0 c, .slice (some ⟨g5, 0, none⟩) 2 2, .slice (some d3) (n - 1) (c - 1)] 64)) := (Below.refl _ _).alloc (Nat.le_refl _) _
          have hgs : (W.alloc (.cells #[.slice (some ⟨b, off, none⟩) 0 c, .slice (some ⟨g5, 0, none⟩) 2 2, .slice (some d3) (n - 1) (c - 1)] 64)).heap.size = W.heap.size + 1 := by simp
          have K_HG10 := Lib.hid (heap_alloc_new W (.cells #[.slice (some ⟨b, off, none⟩) 0 c, .slice (some ⟨g5, 0, none⟩) 2 2, .slice (some d3) (n - 1) (c - 1)] 64))
          refine hK.out _ _ ⟨⟨cellk (HB0.out.trans (hb.mono HB0.out.size)) lq3 x0, cellk (HB0.out.trans (hb.mono HB0.out.size)) lq3 x1⟩, ⟨cellk (HB0.out.trans (hb.mono HB0.out.size)) l11 a0, cellk (HB0.out.trans (hb.mono HB0.out.size)) l11 a1⟩, cellk (HB0.out.trans (hb.mono HB0.out.size)) l12 b0, cellk (HB0.out.trans (hb.mono HB0.out.size)) l12 b1⟩ (fun hHeldN => ?_)
          clear hK K
          try simp only [Act.put, pB, pC, pD]
          refine listedEq (l' := #[true, true, true, true, true, true, true, true, true, true, true, false, true, true, true, true, true, true, true, true, true, false, false, false, false]) (by kernel_rfl) ?_
          have h := h_5_10_17 g5 W.heap.size g17 (W.alloc (.cells #[.slice (some ⟨b, off, none⟩) 0 c, .slice (some ⟨g5, 0, none⟩) 2 2, .slice (some d3) (n - 1) (c - 1)] 64)) (Lib.hid (HB0.out.trans (hb.mono HB0.out.size))) (Lib.hid (heap_keep hb HG5.out)) K_HG10 (Lib.hid (heap_keep hb HG17.out)) ⟨hl5.1, by have := hl5.2; omega⟩ ⟨hWW, by omega⟩ ⟨hl17.1, by have := hl17.2; omega⟩ (by have := hl5.2; omega) ne5_17 (by have := hl17.2; omega)
          rw [hG] at h
          simp only [Act.put, pB, pC, pD] at h
          exact h
        refine coH 21 (oi := ?_) ?_ ?_ (fun K hK => ?_) ?_; rotate_left; (simp only [gA, gB, gC]; exact rfl); rfl
        · go_wp2_with (fail)
          have hb : Below W.heap.size W (W.alloc (.cells #[.slice none 0 0, .slice (some ⟨g17, 0, none⟩) 1 1, .slice none 0 0] 22)) := (Below.refl _ _).alloc (Nat.le_refl _) _
          have hgs : (W.alloc (.cells #[.slice none 0 0, .slice (some ⟨g17, 0, none⟩) 1 1, .slice none 0 0] 22)).heap.size = W.heap.size + 1 := by simp
          have K_HG21 := Lib.hid (heap_alloc_new W (.cells #[.slice none 0 0, .slice (some ⟨g17, 0, none⟩) 1 1, .slice none 0 0] 22))
          refine hK.out _ _ ⟨⟨cellk (HB0.out.trans (hb.mono HB0.out.size)) lq3 x0, cellk (HB0.out.trans (hb.mono HB0.out.size)) lq3 x1⟩, ⟨cellk (HB0.out.trans (hb.mono HB0.out.size)) l11 a0, cellk (HB0.out.trans (hb.mono HB0.out.size)) l11 a1⟩, cellk (HB0.out.trans (hb.mono HB0.out.size)) l12 b0, cellk (HB0.out.trans (hb.mono HB0.out.size)) l12 b1⟩ (fun hHeldN => ?_)
          clear hK K
          try simp only [Act.put, pB, pC, pD]
          refine listedEq (l' := #[true, true, true, true, true, true, true, true, true, true, false, false, true, true, true, true, true, true, true, true, true, true, false, false, false]) (by kernel_rfl) ?_
          have h := h_5_17_21 g5 g17 W.heap.size (W.alloc (.cells #[.slice none 0 0, .slice (some ⟨g17, 0, none⟩) 1 1, .slice none 0 0] 22)) (Lib.hid (HB0.out.trans (hb.mono HB0.out.size))) (Lib.hid (heap_keep hb HG5.out)) (Lib.hid (heap_keep hb HG17.out)) K_HG21 ⟨hl5.1, by have := hl5.2; omega⟩ ⟨hl17.1, by have := hl17.2; omega⟩ ⟨hWW, by omega⟩ ne5_17 (by have := hl5.2; omega) (by have := hl17.2; omega)
          rw [hG] at h
          simp only [Act.put, pB, pC, pD] at h
          exact h
        exact AllReadyH.nil
      have h_17_21 : ∀ (g17 : Nat) (g21 : Nat) (W : World), Hid (Below w3.heap.size w3 W) → Hid (W.heap[g17]? = some (.cells #[.int .i64 (M 0)] 3 (0, 0))) → Hid (W.heap[g21]? = some (.cells #[.slice none 0 0, .slice (some ⟨g17, 0, none⟩) 1 1, .slice none 0 0] 22 (0, 0))) → w3.heap.size ≤ g17 ∧ g17 < W.heap.size → w3.heap.size ≤ g21 ∧ g21 < W.heap.size → g17 ≠ g21 → G 6 #[true, true, true, true, true, false, true, true, true, true, false, false, true, true, true, true, true, true, true, true, true, true, false, false, false] ((A.put (some 45) (.slice (some ⟨g17, 0, none⟩) 1 1)).put (some 49) (.slice (some ⟨g21, 0, none⟩) 3 3)) W := by
        intro g17 g21 W HB0 HG17 HG21 hl17 hl21 ne17_21
        subst hA
        rw [hG]
        simp only [Act.put, pB, pC, pD]
        have hWW := HB0.out.size
        refine wpAnyH_ready (rs := [5]) (by kernel_rfl) (by simp) ?_
        refine coH 5 (oi := ?_) ?_ ?_ (fun K hK => ?_) ?_; rotate_left; (simp only [gA, gB, gC]; exact rfl); rfl
        · go_wp2_with (fail)
          have hb : Below W.heap.size W (W.alloc (.cells #[.int .i64 t, .int .i64 (M 0), .int .i64 (L 0 - t), .int .i64 (M 0)] 83)) := (Below.refl _ _).alloc (Nat.le_refl _) _
          have hgs : (W.alloc (.cells #[.int .i64 t, .int .i64 (M 0), .int .i64 (L 0 - t), .int .i64 (M 0)] 83)).heap.size = W.heap.size + 1 := by simp
          have K_HG5 := Lib.hid (heap_alloc_new W (.cells #[.int .i64 t, .int .i64 (M 0), .int .i64 (L 0 - t), .int .i64 (M 0)] 83))
          refine hK.out _ _ ⟨⟨cellk (HB0.out.trans (hb.mono HB0.out.size)) lq3 x0, cellk (HB0.out.trans (hb.mono HB0.out.size)) lq3 x1⟩, ⟨cellk (HB0.out.trans (hb.mono HB0.out.size)) l11 a0, cellk (HB0.out.trans (hb.mono HB0.out.size)) l11 a1⟩, cellk (HB0.out.trans (hb.mono HB0.out.size)) l12 b0, cellk (HB0.out.trans (hb.mono HB0.out.size)) l12 b1⟩ (fun hHeldN => ?_)
          clear hK K
          try simp only [Act.put, pB, pC, pD]
          refine listedEq (l' := #[true, true, true, true, true, true, true, true, true, true, false, false, true, true, true, true, true, true, true, true, true, true, false, false, false]) (by kernel_rfl) ?_
          have h := h_5_17_21 W.heap.size g17 g21 (W.alloc (.cells #[.int .i64 t, .int .i64 (M 0), .int .i64 (L 0 - t), .int .i64 (M 0)] 83)) (Lib.hid (HB0.out.trans (hb.mono HB0.out.size))) K_HG5 (Lib.hid (heap_keep hb HG17.out)) (Lib.hid (heap_keep hb HG21.out)) ⟨hWW, by omega⟩ ⟨hl17.1, by have := hl17.2; omega⟩ ⟨hl21.1, by have := hl21.2; omega⟩ (by have := hl17.2; omega) (by have := hl21.2; omega) ne17_21
          rw [hG] at h
          simp only [Act.put, pB, pC, pD] at h
          exact h
        exact AllReadyH.nil
      have h_5 : ∀ (g5 : Nat) (W : World), Hid (Below w3.heap.size w3 W) → Hid (W.heap[g5]? = some (.cells #[.int .i64 t, .int .i64 (M 0), .int .i64 (L 0 - t), .int .i64 (M 0)] 83 (0, 0))) → w3.heap.size ≤ g5 ∧ g5 < W.heap.size → G 7 #[true, true, true, true, true, true, true, true, true, true, false, false, true, true, true, true, true, false, true, true, true, false, false, false, false] (A.put (some 33) (.slice (some ⟨g5, 0, none⟩) 2 2)) W := by
        intro g5 W HB0 HG5 hl5
        subst hA
        rw [hG]
        simp only [Act.put, pB, pC, pD]
        have hWW := HB0.out.size
        refine wpAnyH_ready (rs := [10, 17]) (by kernel_rfl) (by simp) ?_
        refine coH 10 (oi := ?_) ?_ ?_ (fun K hK => ?_) ?_; rotate_left; (simp only [gA, gB, gC]; exact rfl); rfl
        · go_wp2_with (fail)
          have hb : Below W.heap.size W (W.alloc (.cells #[.slice (some ⟨b, off, none⟩) 0 c, .slice (some ⟨g5, 0, none⟩) 2 2, .slice (some d3) (n - 1) (c - 1)] 64)) := (Below.refl _ _).alloc (Nat.le_refl _) _
          have hgs : (W.alloc (.cells #[.slice (some ⟨b, off, none⟩) 0 c, .slice (some ⟨g5, 0, none⟩) 2 2, .slice (some d3) (n - 1) (c - 1)] 64)).heap.size = W.heap.size + 1 := by simp
          have K_HG10 := Lib.hid (heap_alloc_new W (.cells #[.slice (some ⟨b, off, none⟩) 0 c, .slice (some ⟨g5, 0, none⟩) 2 2, .slice (some d3) (n - 1) (c - 1)] 64))
          refine hK.out _ _ ⟨⟨cellk (HB0.out.trans (hb.mono HB0.out.size)) lq3 x0, cellk (HB0.out.trans (hb.mono HB0.out.size)) lq3 x1⟩, ⟨cellk (HB0.out.trans (hb.mono HB0.out.size)) l11 a0, cellk (HB0.out.trans (hb.mono HB0.out.size)) l11 a1⟩, cellk (HB0.out.trans (hb.mono HB0.out.size)) l12 b0, cellk (HB0.out.trans (hb.mono HB0.out.size)) l12 b1⟩ (fun hHeldN => ?_)
          clear hK K
          try simp only [Act.put, pB, pC, pD]
          refine listedEq (l' := #[true, true, true, true, true, true, true, true, true, true, true, false, true, true, true, true, true, false, true, true, true, false, false, false, false]) (by kernel_rfl) ?_
          have h := h_5_10 g5 W.heap.size (W.alloc (.cells #[.slice (some ⟨b, off, none⟩) 0 c, .slice (some ⟨g5, 0, none⟩) 2 2, .slice (some d3) (n - 1) (c - 1)] 64)) (Lib.hid (HB0.out.trans (hb.mono HB0.out.size))) (Lib.hid (heap_keep hb HG5.out)) K_HG10 ⟨hl5.1, by have := hl5.2; omega⟩ ⟨hWW, by omega⟩ (by have := hl5.2; omega)
          rw [hG] at h
          simp only [Act.put, pB, pC, pD] at h
          exact h
        refine coH 17 (oi := ?_) ?_ ?_ (fun K hK => ?_) ?_; rotate_left; (simp only [gA, gB, gC]; exact rfl); rfl
        · go_wp2_with (fail)
          have hb : Below W.heap.size W (W.alloc (.cells #[.int .i64 (M 0)] 3)) := (Below.refl _ _).alloc (Nat.le_refl _) _
          have hgs : (W.alloc (.cells #[.int .i64 (M 0)] 3)).heap.size = W.heap.size + 1 := by simp
          have K_HG17 := Lib.hid (heap_alloc_new W (.cells #[.int .i64 (M 0)] 3))
          refine hK.out _ _ ⟨⟨cellk (HB0.out.trans (hb.mono HB0.out.size)) lq3 x0, cellk (HB0.out.trans (hb.mono HB0.out.size)) lq3 x1⟩, ⟨cellk (HB0.out.trans (hb.mono HB0.out.size)) l11 a0, cellk (HB0.out.trans (hb.mono HB0.out.size)) l11 a1⟩, cellk (HB0.out.trans (hb.mono HB0.out.size)) l12 b0, cellk (HB0.out.trans (hb.mono HB0.out.size)) l12 b1⟩ (fun hHeldN => ?_)
          clear hK K
          try simp only [Act.put, pB, pC, pD]
          refine listedEq (l' := #[true, true, true, true, true, true, true, true, true, true, false, false, true, true, true, true, true, true, true, true, true, false, false, false, false]) (by kernel_rfl) ?_
          have h := h_5_17 g5 W.heap.size (W.alloc (.cells #[.int .i64 (M 0)] 3)) (Lib.hid (HB0.out.trans (hb.mono HB0.out.size))) (Lib.hid (heap_keep hb HG5.out)) K_HG17 ⟨hl5.1, by have := hl5.2; omega⟩ ⟨hWW, by omega⟩ (by have := hl5.2; omega)
          rw [hG] at h
          simp only [Act.put, pB, pC, pD] at h
          exact h
        exact AllReadyH.nil
      have h_17 : ∀ (g17 : Nat) (W : World), Hid (Below w3.heap.size w3 W) → Hid (W.heap[g17]? = some (.cells #[.int .i64 (M 0)] 3 (0, 0))) → w3.heap.size ≤ g17 ∧ g17 < W.heap.size → G 7 #[true, true, true, true, true, false, true, true, true, true, false, false, true, true, true, true, true, true, true, true, true, false, false, false, false] (A.put (some 45) (.slice (some ⟨g17, 0, none⟩) 1 1)) W := by
        intro g17 W HB0 HG17 hl17
        subst hA
        rw [hG]
        simp only [Act.put, pB, pC, pD]
        have hWW := HB0.out.size
        refine wpAnyH_ready (rs := [5, 21]) (by kernel_rfl) (by simp) ?_
        refine coH 5 (oi := ?_) ?_ ?_ (fun K hK => ?_) ?_; rotate_left; (simp only [gA, gB, gC]; exact rfl); rfl
        · go_wp2_with (fail)
          have hb : Below W.heap.size W (W.alloc (.cells #[.int .i64 t, .int .i64 (M 0), .int .i64 (L 0 - t), .int .i64 (M 0)] 83)) := (Below.refl _ _).alloc (Nat.le_refl _) _
          have hgs : (W.alloc (.cells #[.int .i64 t, .int .i64 (M 0), .int .i64 (L 0 - t), .int .i64 (M 0)] 83)).heap.size = W.heap.size + 1 := by simp
          have K_HG5 := Lib.hid (heap_alloc_new W (.cells #[.int .i64 t, .int .i64 (M 0), .int .i64 (L 0 - t), .int .i64 (M 0)] 83))
          refine hK.out _ _ ⟨⟨cellk (HB0.out.trans (hb.mono HB0.out.size)) lq3 x0, cellk (HB0.out.trans (hb.mono HB0.out.size)) lq3 x1⟩, ⟨cellk (HB0.out.trans (hb.mono HB0.out.size)) l11 a0, cellk (HB0.out.trans (hb.mono HB0.out.size)) l11 a1⟩, cellk (HB0.out.trans (hb.mono HB0.out.size)) l12 b0, cellk (HB0.out.trans (hb.mono HB0.out.size)) l12 b1⟩ (fun hHeldN => ?_)
          clear hK K
          try simp only [Act.put, pB, pC, pD]
          refine listedEq (l' := #[true, true, true, true, true, true, true, true, true, true, false, false, true, true, true, true, true, true, true, true, true, false, false, false, false]) (by kernel_rfl) ?_
          have h := h_5_17 W.heap.size g17 (W.alloc (.cells #[.int .i64 t, .int .i64 (M 0), .int .i64 (L 0 - t), .int .i64 (M 0)] 83)) (Lib.hid (HB0.out.trans (hb.mono HB0.out.size))) K_HG5 (Lib.hid (heap_keep hb HG17.out)) ⟨hWW, by omega⟩ ⟨hl17.1, by have := hl17.2; omega⟩ (by have := hl17.2; omega)
          rw [hG] at h
          simp only [Act.put, pB, pC, pD] at h
          exact h
        refine coH 21 (oi := ?_) ?_ ?_ (fun K hK => ?_) ?_; rotate_left; (simp only [gA, gB, gC]; exact rfl); rfl
        · go_wp2_with (fail)
          have hb : Below W.heap.size W (W.alloc (.cells #[.slice none 0 0, .slice (some ⟨g17, 0, none⟩) 1 1, .slice none 0 0] 22)) := (Below.refl _ _).alloc (Nat.le_refl _) _
          have hgs : (W.alloc (.cells #[.slice none 0 0, .slice (some ⟨g17, 0, none⟩) 1 1, .slice none 0 0] 22)).heap.size = W.heap.size + 1 := by simp
          have K_HG21 := Lib.hid (heap_alloc_new W (.cells #[.slice none 0 0, .slice (some ⟨g17, 0, none⟩) 1 1, .slice none 0 0] 22))
          refine hK.out _ _ ⟨⟨cellk (HB0.out.trans (hb.mono HB0.out.size)) lq3 x0, cellk (HB0.out.trans (hb.mono HB0.out.size)) lq3 x1⟩, ⟨cellk (HB0.out.trans (hb.mono HB0.out.size)) l11 a0, cellk (HB0.out.trans (hb.mono HB0.out.size)) l11 a1⟩, cellk (HB0.out.trans (hb.mono HB0.out.size)) l12 b0, cellk (HB0.out.trans (hb.mono HB0.out.size)) l12 b1⟩ (fun hHeldN => ?_)
          clear hK K
          try simp only [Act.put, pB, pC, pD]
          refine listedEq (l' := #[true, true, true, true, true, false, true, true, true, true, false, false, true, true, true, true, true, true, true, true, true, true, false, false, false]) (by kernel_rfl) ?_
          have h := h_17_21 g17 W.heap.size (W.alloc (.cells #[.slice none 0 0, .slice (some ⟨g17, 0, none⟩) 1 1, .slice none 0 0] 22)) (Lib.hid (HB0.out.trans (hb.mono HB0.out.size))) (Lib.hid (heap_keep hb HG17.out)) K_HG21 ⟨hl17.1, by have := hl17.2; omega⟩ ⟨hWW, by omega⟩ (by have := hl17.2; omega)
          rw [hG] at h
          simp only [Act.put, pB, pC, pD] at h
          exact h
        exact AllReadyH.nil
      have h_0 : ∀  (W : World), Hid (Below w3.heap.size w3 W) → G 8 #[true, true, true, true, true, false, true, true, true, true, false, false, true, true, true, true, true, false, true, true, true, false, false, false, false] A W := by
        intro W HB0
        subst hA
        rw [hG]
        have hWW := HB0.out.size
        refine wpAnyH_ready (rs := [5, 17]) (by kernel_rfl) (by simp) ?_
        refine coH 5 (oi := ?_) ?_ ?_ (fun K hK => ?_) ?_; rotate_left; (simp only [gA, gB, gC]; exact rfl); rfl
        · go_wp2_with (fail)
          have hb : Below W.heap.size W (W.alloc (.cells #[.int .i64 t, .int .i64 (M 0), .int .i64 (L 0 - t), .int .i64 (M 0)] 83)) := (Below.refl _ _).alloc (Nat.le_refl _) _
          have hgs : (W.alloc (.cells #[.int .i64 t, .int .i64 (M 0), .int .i64 (L 0 - t), .int .i64 (M 0)] 83)).heap.size = W.heap.size + 1 := by simp
          have K_HG5 := Lib.hid (heap_alloc_new W (.cells #[.int .i64 t, .int .i64 (M 0), .int .i64 (L 0 - t), .int .i64 (M 0)] 83))
          refine hK.out _ _ ⟨⟨cellk (HB0.out.trans (hb.mono HB0.out.size)) lq3 x0, cellk (HB0.out.trans (hb.mono HB0.out.size)) lq3 x1⟩, ⟨cellk (HB0.out.trans (hb.mono HB0.out.size)) l11 a0, cellk (HB0.out.trans (hb.mono HB0.out.size)) l11 a1⟩, cellk (HB0.out.trans (hb.mono HB0.out.size)) l12 b0, cellk (HB0.out.trans (hb.mono HB0.out.size)) l12 b1⟩ (fun hHeldN => ?_)
          clear hK K
          try simp only [Act.put, pB, pC, pD]
          refine listedEq (l' := #[true, true, true, true, true, true, true, true, true, true, false, false, true, true, true, true, true, false, true, true, true, false, false, false, false]) (by kernel_rfl) ?_
          have h := h_5 W.heap.size (W.alloc (.cells #[.int .i64 t, .int .i64 (M 0), .int .i64 (L 0 - t), .int .i64 (M 0)] 83)) (Lib.hid (HB0.out.trans (hb.mono HB0.out.size))) K_HG5 ⟨hWW, by omega⟩
          rw [hG] at h
          simp only [Act.put, pB, pC, pD] at h
          exact h
        refine coH 17 (oi := ?_) ?_ ?_ (fun K hK => ?_) ?_; rotate_left; (simp only [gA, gB, gC]; exact rfl); rfl
        · go_wp2_with (fail)
          have hb : Below W.heap.size W (W.alloc (.cells #[.int .i64 (M 0)] 3)) := (Below.refl _ _).alloc (Nat.le_refl _) _
          have hgs : (W.alloc (.cells #[.int .i64 (M 0)] 3)).heap.size = W.heap.size + 1 := by simp
          have K_HG17 := Lib.hid (heap_alloc_new W (.cells #[.int .i64 (M 0)] 3))
          refine hK.out _ _ ⟨⟨cellk (HB0.out.trans (hb.mono HB0.out.size)) lq3 x0, cellk (HB0.out.trans (hb.mono HB0.out.size)) lq3 x1⟩, ⟨cellk (HB0.out.trans (hb.mono HB0.out.size)) l11 a0, cellk (HB0.out.trans (hb.mono HB0.out.size)) l11 a1⟩, cellk (HB0.out.trans (hb.mono HB0.out.size)) l12 b0, cellk (HB0.out.trans (hb.mono HB0.out.size)) l12 b1⟩ (fun hHeldN => ?_)
          clear hK K
          try simp only [Act.put, pB, pC, pD]
          refine listedEq (l' := #[true, true, true, true, true, false, true, true, true, true, false, false, true, true, true, true, true, true, true, true, true, false, false, false, false]) (by kernel_rfl) ?_
          have h := h_17 W.heap.size (W.alloc (.cells #[.int .i64 (M 0)] 3)) (Lib.hid (HB0.out.trans (hb.mono HB0.out.size))) K_HG17 ⟨hWW, by omega⟩
          rw [hG] at h
          simp only [Act.put, pB, pC, pD] at h
          exact h
        exact AllReadyH.nil
      exact h_0 w3.drew (Lib.hid (Below.next_drew (Below.refl _ w3)))
    intro g5 g10 a11 c11 g17 g21 a22 c22 W HB0 hl5 hl10 hl17 hl21 ne5_10 ne5_17 ne5_21 ne10_17 ne10_21 ne17_21 HR11 HR22
    subst hA
    rw [hG]
    simp only [Act.put, pB, pC, pD]
    have hHeld := (show (W.cell? ⟨q10, 0, none⟩ = some (.int .i64 (L 0)) ∧ W.cell? ⟨q10, 1, none⟩ = some (.int .i64 (M 0))) ∧ (W.cell? ⟨g11, 0, none⟩ = some (.int .i64 t) ∧ W.cell? ⟨g11, 1, none⟩ = some (.int .i64 (M 0))) ∧ W.cell? ⟨g12, 0, none⟩ = some (.int .i64 (L 0 - t)) ∧ W.cell? ⟨g12, 1, none⟩ = some (.int .i64 (M 0)) from ⟨⟨cellk HB0.out lq3 x0, cellk HB0.out lq3 x1⟩, ⟨cellk HB0.out l11 a0, cellk HB0.out l11 a1⟩, cellk HB0.out l12 b0, cellk HB0.out l12 b1⟩)
    refine tkH (by assumption) 23 (oi := ?_) (v := ?_) ?_ ?_ ?_ ?_ ?_ ?_ ?_ ?_; rotate_left 2; (simp only [gA, gB, gC]; exact rfl); kernel_rfl; kernel_rfl; kernel_rfl; exact fun _ _ _ h => h; rfl; (intro w' hSw; (obtain ⟨⟨j0, j1⟩, ⟨j2, j3⟩, j4, j5⟩ := hSw);go_simp; with_reducible rfl); simp only [Act.put, pB, pC, pD]
    refine tkH (by assumption) 24 (oi := ?_) (v := ?_) ?_ ?_ ?_ ?_ ?_ ?_ ?_ ?_; rotate_left 2; (simp only [gA, gB, gC]; exact rfl); kernel_rfl; kernel_rfl; kernel_rfl; exact fun _ _ _ h => h; rfl; (intro w' hSw; (obtain ⟨⟨j0, j1⟩, ⟨j2, j3⟩, j4, j5⟩ := hSw);go_simp; with_reducible rfl); simp only [Act.put, pB, pC, pD]
    refine wpAnyH_done (by kernel_rfl) ?_ _
    have hb9 := HB3.out.trans (HB0.out.mono HB3.out.size)
    go_wp2_with (fail)
    exact bodyPost_ret (v := .tuple #[.slice a11 (n + 1) c11, .slice a22 1 c22]) (by simp [results, Try.results59, go_sem]) rfl ⟨_, _, _, _, rfl, own_lowU HR11.out HB3.out.size, own_lowU HR22.out HB3.out.size, hb9⟩
  · obtain ⟨d4, hd4, hd4'⟩ : ∃ d4, (if cc = j then (some ⟨b2, off2, none⟩ : Option Addr) else some ⟨b2, off2 + j, none⟩) = some d4 ∧ (m ≤ j ∨ d4 = ⟨b2, off2 + j, none⟩) := by
      split
      · exact ⟨_, rfl, .inl (by omega)⟩
      · exact ⟨_, rfl, .inr rfl⟩
    have HDD4 := Lib.hid hd4'
    clear hd4'
    refine wp_region_held_drew (S := (fun w' => (w'.cell? ⟨q10, 0, none⟩ = some (.int .i64 (L j)) ∧ w'.cell? ⟨q10, 1, none⟩ = some (.int .i64 (M j))) ∧ (w'.cell? ⟨g11, 0, none⟩ = some (.int .i64 t) ∧ w'.cell? ⟨g11, 1, none⟩ = some (.int .i64 (M j))) ∧ w'.cell? ⟨g12, 0, none⟩ = some (.int .i64 (L j - t)) ∧ w'.cell? ⟨g12, 1, none⟩ = some (.int .i64 (M j)))) (by kernel_rfl) ⟨⟨x0, x1⟩, ⟨a0, a1⟩, b0, b1⟩ (fun hHeld => ?_)
    refine tkH (by assumption) 0 (oi := ?_) (v := ?_) ?_ ?_ ?_ ?_ ?_ ?_ ?_ ?_; rotate_left 2; (simp only [gA, gB, gC]; exact rfl); kernel_rfl; kernel_rfl; kernel_rfl; exact fun _ _ _ h => h; rfl; (intro w' hSw; (obtain ⟨⟨j0, j1⟩, ⟨j2, j3⟩, j4, j5⟩ := hSw);go_simp; with_reducible rfl); simp only [Act.put, pB, pC, pD]
    refine tkH (by assumption) 1 (oi := ?_) (v := ?_) ?_ ?_ ?_ ?_ ?_ ?_ ?_ ?_; rotate_left 2; (simp only [gA, gB, gC]; exact rfl); kernel_rfl; kernel_rfl; kernel_rfl; exact fun _ _ _ h => h; rfl; (intro w' hSw; (obtain ⟨⟨j0, j1⟩, ⟨j2, j3⟩, j4, j5⟩ := hSw);go_simp; with_reducible rfl); simp only [Act.put, pB, pC, pD]
    refine tkH (by assumption) 2 (oi := ?_) (v := ?_) ?_ ?_ ?_ ?_ ?_ ?_ ?_ ?_; rotate_left 2; (simp only [gA, gB, gC]; exact rfl); kernel_rfl; kernel_rfl; kernel_rfl; exact fun _ _ _ h => h; rfl; (intro w' hSw; (obtain ⟨⟨j0, j1⟩, ⟨j2, j3⟩, j4, j5⟩ := hSw);go_simp; with_reducible rfl); simp only [Act.put, pB, pC, pD]
    refine tkH (by assumption) 3 (oi := ?_) (v := ?_) ?_ ?_ ?_ ?_ ?_ ?_ ?_ ?_; rotate_left 2; (simp only [gA, gB, gC]; exact rfl); kernel_rfl; kernel_rfl; kernel_rfl; exact fun _ _ _ h => h; rfl; (intro w' hSw; (obtain ⟨⟨j0, j1⟩, ⟨j2, j3⟩, j4, j5⟩ := hSw);go_simp; with_reducible rfl); simp only [Act.put, pB, pC, pD]
    refine tkH (by assumption) 4 (oi := ?_) (v := ?_) ?_ ?_ ?_ ?_ ?_ ?_ ?_ ?_; rotate_left 2; (simp only [gA, gB, gC]; exact rfl); kernel_rfl; kernel_rfl; kernel_rfl; exact fun _ _ _ h => h; rfl; (intro w' hSw; (obtain ⟨⟨j0, j1⟩, ⟨j2, j3⟩, j4, j5⟩ := hSw);go_simp; with_reducible rfl); simp only [Act.put, pB, pC, pD]
    refine tkH (by assumption) 6 (oi := ?_) (v := ?_) ?_ ?_ ?_ ?_ ?_ ?_ ?_ ?_; rotate_left 2; (simp only [gA, gB, gC]; exact rfl); kernel_rfl; kernel_rfl; kernel_rfl; exact fun _ _ _ h => h; rfl; (intro w' hSw; (obtain ⟨⟨j0, j1⟩, ⟨j2, j3⟩, j4, j5⟩ := hSw);go_simp; with_reducible rfl); simp only [Act.put, pB, pC, pD]
    refine tkH (by assumption) 7 (oi := ?_) (v := ?_) ?_ ?_ ?_ ?_ ?_ ?_ ?_ ?_; rotate_left 2; (simp only [gA, gB, gC]; exact rfl); kernel_rfl; kernel_rfl; kernel_rfl; exact fun _ _ _ h => h; rfl; (intro w' hSw; (obtain ⟨⟨j0, j1⟩, ⟨j2, j3⟩, j4, j5⟩ := hSw);go_simp; with_reducible rfl); simp only [Act.put, pB, pC, pD]
    refine tkH (by assumption) 8 (oi := ?_) (v := ?_) ?_ ?_ ?_ ?_ ?_ ?_ ?_ ?_; rotate_left 2; (simp only [gA, gB, gC]; exact rfl); kernel_rfl; kernel_rfl; kernel_rfl; exact fun _ _ _ h => h; rfl; (intro w' hSw; (obtain ⟨⟨j0, j1⟩, ⟨j2, j3⟩, j4, j5⟩ := hSw);go_simp; with_reducible rfl); simp only [Act.put, pB, pC, pD]
    refine tkH (by assumption) 9 (oi := ?_) (v := ?_) ?_ ?_ ?_ ?_ ?_ ?_ ?_ ?_; rotate_left 2; (simp only [gA, gB, gC]; exact rfl); kernel_rfl; kernel_rfl; kernel_rfl; exact fun _ _ _ h => h; rfl; (intro w' hSw; (obtain ⟨⟨j0, j1⟩, ⟨j2, j3⟩, j4, j5⟩ := hSw);go_simp; with_reducible rfl); simp only [Act.put, pB, pC, pD]
    refine tkH (by assumption) 12 (oi := ?_) (v := ?_) ?_ ?_ ?_ ?_ ?_ ?_ ?_ ?_; rotate_left 2; (simp only [gA, gB, gC]; exact rfl); kernel_rfl; kernel_rfl; kernel_rfl; exact fun _ _ _ h => h; rfl; (intro w' hSw; (obtain ⟨⟨j0, j1⟩, ⟨j2, j3⟩, j4, j5⟩ := hSw);go_simp; with_reducible rfl); simp only [Act.put, pB, pC, pD]
    refine tkH (by assumption) 13 (oi := ?_) (v := ?_) ?_ ?_ ?_ ?_ ?_ ?_ ?_ ?_; rotate_left 2; (simp only [gA, gB, gC]; exact rfl); kernel_rfl; kernel_rfl; kernel_rfl; exact fun _ _ _ h => h; rfl; (intro w' hSw; (obtain ⟨⟨j0, j1⟩, ⟨j2, j3⟩, j4, j5⟩ := hSw);go_simp; with_reducible rfl); simp only [Act.put, pB, pC, pD]
    refine tkH (by assumption) 14 (oi := ?_) (v := ?_) ?_ ?_ ?_ ?_ ?_ ?_ ?_ ?_; rotate_left 2; (simp only [gA, gB, gC]; exact rfl); kernel_rfl; kernel_rfl; kernel_rfl; exact fun _ _ _ h => h; rfl; (intro w' hSw; (obtain ⟨⟨j0, j1⟩, ⟨j2, j3⟩, j4, j5⟩ := hSw);go_simp; with_reducible rfl); simp only [Act.put, pB, pC, pD]
    refine tkH (by assumption) 15 (oi := ?_) (v := ?_) ?_ ?_ ?_ ?_ ?_ ?_ ?_ ?_; rotate_left 2; (simp only [gA, gB, gC]; exact rfl); kernel_rfl; kernel_rfl; kernel_rfl; exact fun _ _ _ h => h; rfl; (intro w' hSw; (obtain ⟨⟨j0, j1⟩, ⟨j2, j3⟩, j4, j5⟩ := hSw);go_simp; with_reducible rfl); simp only [Act.put, pB, pC, pD]
    refine tkH (by assumption) 16 (oi := ?_) (v := ?_) ?_ ?_ ?_ ?_ ?_ ?_ ?_ ?_; rotate_left 2; (simp only [gA, gB, gC]; exact rfl); kernel_rfl; kernel_rfl; kernel_rfl; exact fun _ _ _ h => h; rfl; (intro w' hSw; (obtain ⟨⟨j0, j1⟩, ⟨j2, j3⟩, j4, j5⟩ := hSw);go_simp; with_reducible rfl); simp only [Act.put, pB, pC, pD]
    refine tkH (by assumption) 18 (oi := ?_) (v := ?_) ?_ ?_ ?_ ?_ ?_ ?_ ?_ ?_; rotate_left 2; (simp only [gA, gB, gC]; exact rfl); kernel_rfl; kernel_rfl; kernel_rfl; exact fun _ _ _ h => h; rfl; (intro w' hSw; (obtain ⟨⟨j0, j1⟩, ⟨j2, j3⟩, j4, j5⟩ := hSw);go_simp; with_reducible rfl); simp only [Act.put, pB, pC, pD]
    refine tkH (by assumption) 19 (oi := ?_) (v := ?_) ?_ ?_ ?_ ?_ ?_ ?_ ?_ ?_; rotate_left 2; (simp only [gA, gB, gC]; exact rfl); kernel_rfl; kernel_rfl; kernel_rfl; exact fun _ _ _ h => h; rfl; (intro w' hSw; (obtain ⟨⟨j0, j1⟩, ⟨j2, j3⟩, j4, j5⟩ := hSw);go_simp; with_reducible rfl); simp only [Act.put, pB, pC, pD]
    refine tkH (by assumption) 20 (oi := ?_) (v := ?_) ?_ ?_ ?_ ?_ ?_ ?_ ?_ ?_; rotate_left 2; (simp only [gA, gB, gC]; exact rfl); kernel_rfl; kernel_rfl; kernel_rfl; exact fun _ _ _ h => h; rfl; (intro w' hSw; (obtain ⟨⟨j0, j1⟩, ⟨j2, j3⟩, j4, j5⟩ := hSw);go_simp; with_reducible rfl); simp only [Act.put, pB, pC, pD]
    refine absH (fun G A hG hA => ?_)
    suffices h_5_10_11_17_21_22 : ∀ (g5 : Nat) (g10 : Nat) (a11 : Option Addr) (c11 : Nat) (g17 : Nat) (g21 : Nat) (a22 : Option Addr) (c22 : Nat) (W : World), Hid (Below w3.heap.size w3 W) → w3.heap.size ≤ g5 ∧ g5 < W.heap.size → w3.heap.size ≤ g10 ∧ g10 < W.heap.size → w3.heap.size ≤ g17 ∧ g17 < W.heap.size → w3.heap.size ≤ g21 ∧ g21 < W.heap.size → g5 ≠ g10 → g5 ≠ g17 → g5 ≠ g21 → g10 ≠ g17 → g10 ≠ g21 → g17 ≠ g21 → Hid (W.ownsRow w3.heap.size 83 2 (.slice a11 (n + 1) c11) (n + 1) (cells2 (splL n j t L) (splM n j M) (n + 1))) → Hid (W.ownsRow w3.heap.size 3 1 (.slice a22 (m + 1) c22) (m + 1) (vs (splC j (M j) C) (m + 1))) → G 2 #[true, true, true, true, true, true, true, true, true, true, true, true, true, true, true, true, true, true, true, true, true, true, true, false, false] ((((((A.put (some 33) (.slice (some ⟨g5, 0, none⟩) 2 2)).put (some 38) (.slice (some ⟨g10, 0, none⟩) 3 3)).put (some 39) (.slice a11 (n + 1) c11)).put (some 45) (.slice (some ⟨g17, 0, none⟩) 1 1)).put (some 49) (.slice (some ⟨g21, 0, none⟩) 3 3)).put (some 50) (.slice a22 (m + 1) c22)) W by
      have h_5_10_11_17_21 : ∀ (g5 : Nat) (g10 : Nat) (a11 : Option Addr) (c11 : Nat) (g17 : Nat) (g21 : Nat) (W : World), Hid (Below w3.heap.size w3 W) → Hid (W.heap[g17]? = some (.cells #[.int .i64 (M j)] 3 (0, 0))) → Hid (W.heap[g21]? = some (.cells #[.slice (some ⟨b2, off2, none⟩) j cc, .slice (some ⟨g17, 0, none⟩) 1 1, .slice (some d4) (m - j) (cc - j)] 22 (0, 0))) → w3.heap.size ≤ g5 ∧ g5 < W.heap.size → w3.heap.size ≤ g10 ∧ g10 < W.heap.size → w3.heap.size ≤ g17 ∧ g17 < W.heap.size → w3.heap.size ≤ g21 ∧ g21 < W.heap.size → g5 ≠ g10 → g5 ≠ g17 → g5 ≠ g21 → g10 ≠ g17 → g10 ≠ g21 → g17 ≠ g21 → Hid (W.ownsRow w3.heap.size 83 2 (.slice a11 (n + 1) c11) (n + 1) (cells2 (splL n j t L) (splM n j M) (n + 1))) → G 3 #[true, true, true, true, true, true, true, true, true, true, true, true, true, true, true, true, true, true, true, true, true, true, false, false, false] (((((A.put (some 33) (.slice (some ⟨g5, 0, none⟩) 2 2)).put (some 38) (.slice (some ⟨g10, 0, none⟩) 3 3)).put (some 39) (.slice a11 (n + 1) c11)).put (some 45) (.slice (some ⟨g17, 0, none⟩) 1 1)).put (some 49) (.slice (some ⟨g21, 0, none⟩) 3 3)) W := by
        intro g5 g10 a11 c11 g17 g21 W HB0 HG17 HG21 hl5 hl10 hl17 hl21 ne5_10 ne5_17 ne5_21 ne10_17 ne10_21 ne17_21 HR11
        subst hA
        rw [hG]
        simp only [Act.put, pB, pC, pD]
        have hWW := HB0.out.size
        refine wpAnyH_ready (rs := [22]) (by kernel_rfl) (by simp) ?_
        refine coH 22 (oi := ?_) ?_ ?_ (fun K hK => ?_) ?_; rotate_left; (simp only [gA, gB, gC]; exact rfl); rfl
        · go_wp2_with (fail)
          refine (concatI g21 ⟨b2, off2, none⟩ ⟨g17, 0, none⟩ d4 j 1 (m - j) cc 1 (cc - j) C (fun _ => M j) (fun i => C (j + i)) W HG21.out (by
              rcases HC3.out.kept HB0.out with h | ⟨b', o', he, h1, h2⟩
              · exact .inl (by omega)
              · cases he
                exact .inr ⟨_, _, rfl, h1, fun i hi => h2 i (by omega)⟩) (show IntsR W (some ⟨g17, 0, none⟩) 1 (fun _ => M j) from .inr ⟨_, 0, rfl, lt_of_heap HG17.out, fun i hi => by
              obtain rfl : i = 0 := by omega
              exact cell_of HG17.out (i := 0) rfl⟩) (by
              rcases HC3.out.kept HB0.out with h | ⟨b', o', he, h1, h2⟩
              · exact .inl (by omega)
              · cases he
                rcases HDD4.out with h | h
                · exact .inl (by omega)
                · rw [h]; exact .inr ⟨_, _, rfl, h1, fun i hi => by have h3 := h2 (j + i) (by omega); rw [← Nat.add_assoc] at h3; exact h3⟩) (by omega) (by omega) (by omega)).mono ?_
          rintro e Wn ⟨a22, c22, rfl, ho22, hb⟩
          have hgs := hb.size
          rw [show j + 1 + (m - j) = m + 1 by omega] at ho22 ⊢
          have K_HR22 := Lib.hid (own_lowU ho22 hWW)
          refine hK.out _ _ ⟨⟨cellk (HB0.out.trans (hb.mono HB0.out.size)) lq3 x0, cellk (HB0.out.trans (hb.mono HB0.out.size)) lq3 x1⟩, ⟨cellk (HB0.out.trans (hb.mono HB0.out.size)) l11 a0, cellk (HB0.out.trans (hb.mono HB0.out.size)) l11 a1⟩, cellk (HB0.out.trans (hb.mono HB0.out.size)) l12 b0, cellk (HB0.out.trans (hb.mono HB0.out.size)) l12 b1⟩ (fun hHeldN => ?_)
          clear hK K
          try simp only [Act.put, pB, pC, pD]
          refine listedEq (l' := #[true, true, true, true, true, true, true, true, true, true, true, true, true, true, true, true, true, true, true, true, true, true, true, false, false]) (by kernel_rfl) ?_
          have h := h_5_10_11_17_21_22 g5 g10 a11 c11 g17 g21 a22 c22 Wn (Lib.hid (HB0.out.trans (hb.mono HB0.out.size))) ⟨hl5.1, by have := hl5.2; omega⟩ ⟨hl10.1, by have := hl10.2; omega⟩ ⟨hl17.1, by have := hl17.2; omega⟩ ⟨hl21.1, by have := hl21.2; omega⟩ ne5_10 ne5_17 ne5_21 ne10_17 ne10_21 ne17_21 (Lib.hid (ownsRow_below HR11.out hb)) K_HR22
          rw [hG] at h
          simp only [Act.put, pB, pC, pD] at h
          exact h
        exact AllReadyH.nil
      have h_5_10_11_17 : ∀ (g5 : Nat) (g10 : Nat) (a11 : Option Addr) (c11 : Nat) (g17 : Nat) (W : World), Hid (Below w3.heap.size w3 W) → Hid (W.heap[g17]? = some (.cells #[.int .i64 (M j)] 3 (0, 0))) → w3.heap.size ≤ g5 ∧ g5 < W.heap.size → w3.heap.size ≤ g10 ∧ g10 < W.heap.size → w3.heap.size ≤ g17 ∧ g17 < W.heap.size → g5 ≠ g10 → g5 ≠ g17 → g10 ≠ g17 → Hid (W.ownsRow w3.heap.size 83 2 (.slice a11 (n + 1) c11) (n + 1) (cells2 (splL n j t L) (splM n j M) (n + 1))) → G 4 #[true, true, true, true, true, true, true, true, true, true, true, true, true, true, true, true, true, true, true, true, true, false, false, false, false] ((((A.put (some 33) (.slice (some ⟨g5, 0, none⟩) 2 2)).put (some 38) (.slice (some ⟨g10, 0, none⟩) 3 3)).put (some 39) (.slice a11 (n + 1) c11)).put (some 45) (.slice (some ⟨g17, 0, none⟩) 1 1)) W := by
        intro g5 g10 a11 c11 g17 W HB0 HG17 hl5 hl10 hl17 ne5_10 ne5_17 ne10_17 HR11
        subst hA
        rw [hG]
        simp only [Act.put, pB, pC, pD]
        have hWW := HB0.out.size
        refine wpAnyH_ready (rs := [21]) (by kernel_rfl) (by simp) ?_
        refine coH 21 (oi := ?_) ?_ ?_ (fun K hK => ?_) ?_; rotate_left; (simp only [gA, gB, gC]; exact rfl); rfl
        · go_wp2_with (fail)
          have hb : Below W.heap.size W (W.alloc (.cells #[.slice (some ⟨b2, off2, none⟩) j cc, .slice (some ⟨g17, 0, none⟩) 1 1, .slice (some d4) (m - j) (cc - j)] 22)) := (Below.refl _ _).alloc (Nat.le_refl _) _
          have hgs : (W.alloc (.cells #[.slice (some ⟨b2, off2, none⟩) j cc, .slice (some ⟨g17, 0, none⟩) 1 1, .slice (some d4) (m - j) (cc - j)] 22)).heap.size = W.heap.size + 1 := by simp
          have K_HG21 := Lib.hid (heap_alloc_new W (.cells #[.slice (some ⟨b2, off2, none⟩) j cc, .slice (some ⟨g17, 0, none⟩) 1 1, .slice (some d4) (m - j) (cc - j)] 22))
          refine hK.out _ _ ⟨⟨cellk (HB0.out.trans (hb.mono HB0.out.size)) lq3 x0, cellk (HB0.out.trans (hb.mono HB0.out.size)) lq3 x1⟩, ⟨cellk (HB0.out.trans (hb.mono HB0.out.size)) l11 a0, cellk (HB0.out.trans (hb.mono HB0.out.size)) l11 a1⟩, cellk (HB0.out.trans (hb.mono HB0.out.size)) l12 b0, cellk (HB0.out.trans (hb.mono HB0.out.size)) l12 b1⟩ (fun hHeldN => ?_)
          clear hK K
          try simp only [Act.put, pB, pC, pD]
          refine listedEq (l' := #[true, true, true, true, true, true, true, true, true, true, true, true, true, true, true, true, true, true, true, true, true, true, false, false, false]) (by kernel_rfl) ?_
          have h := h_5_10_11_17_21 g5 g10 a11 c11 g17 W.heap.size (W.alloc (.cells #[.slice (some ⟨b2, off2, none⟩) j cc, .slice (some ⟨g17, 0, none⟩) 1 1, .slice (some d4) (m - j) (cc - j)] 22)) (Lib.hid (HB0.out.trans (hb.mono HB0.out.size))) (Lib.hid (heap_keep hb HG17.out)) K_HG21 ⟨hl5.1, by have := hl5.2; omega⟩ ⟨hl10.1, by have := hl10.2; omega⟩ ⟨hl17.1, by have := hl17.2; omega⟩ ⟨hWW, by omega⟩ ne5_10 ne5_17 (by have := hl5.2; omega) ne10_17 (by have := hl10.2; omega) (by have := hl17.2; omega) (Lib.hid (ownsRow_below HR11.out hb))
          rw [hG] at h
          simp only [Act.put, pB, pC, pD] at h
          exact h
        exact AllReadyH.nil
      have h_5_10_17_21 : ∀ (g5 : Nat) (g10 : Nat) (g17 : Nat) (g21 : Nat) (W : World), Hid (Below w3.heap.size w3 W) → Hid (W.heap[g5]? = some (.cells #[.int .i64 t, .int .i64 (M j), .int .i64 (L j - t), .int .i64 (M j)] 83 (0, 0))) → Hid (W.heap[g10]? = some (.cells #[.slice (some ⟨b, off, none⟩) j c, .slice (some ⟨g5, 0, none⟩) 2 2, .slice (some d3) (n - (j + 1)) (c - (j + 1))] 64 (0, 0))) → Hid (W.heap[g17]? = some (.cells #[.int .i64 (M j)] 3 (0, 0))) → Hid (W.heap[g21]? = some (.cells #[.slice (some ⟨b2, off2, none⟩) j cc, .slice (some ⟨g17, 0, none⟩) 1 1, .slice (some d4) (m - j) (cc - j)] 22 (0, 0))) → w3.heap.size ≤ g5 ∧ g5 < W.heap.size → w3.heap.size ≤ g10 ∧ g10 < W.heap.size → w3.heap.size ≤ g17 ∧ g17 < W.heap.size → w3.heap.size ≤ g21 ∧ g21 < W.heap.size → g5 ≠ g10 → g5 ≠ g17 → g5 ≠ g21 → g10 ≠ g17 → g10 ≠ g21 → g17 ≠ g21 → G 4 #[true, true, true, true, true, true, true, true, true, true, true, false, true, true, true, true, true, true, true, true, true, true, false, false, false] ((((A.put (some 33) (.slice (some ⟨g5, 0, none⟩) 2 2)).put (some 38) (.slice (some ⟨g10, 0, none⟩) 3 3)).put (some 45) (.slice (some ⟨g17, 0, none⟩) 1 1)).put (some 49) (.slice (some ⟨g21, 0, none⟩) 3 3)) W := by
        intro g5 g10 g17 g21 W HB0 HG5 HG10 HG17 HG21 hl5 hl10 hl17 hl21 ne5_10 ne5_17 ne5_21 ne10_17 ne10_21 ne17_21
        subst hA
        rw [hG]
        simp only [Act.put, pB, pC, pD]
        have hWW := HB0.out.size
        refine wpAnyH_ready (rs := [11]) (by kernel_rfl) (by simp) ?_
        refine coH 11 (oi := ?_) ?_ ?_ (fun K hK => ?_) ?_; rotate_left; (simp only [gA, gB, gC]; exact rfl); rfl
        · go_wp2_with (fail)
          refine (concatL g10 ⟨b, off, none⟩ ⟨g5, 0, none⟩ d3 j 2 (n - (j + 1)) c 2 (c - (j + 1)) L M (prtL (L j) t) (fun _ => M j) (fun i => L (j + 1 + i)) (fun i => M (j + 1 + i)) W HG10.out (.inr ⟨b, off, rfl, Nat.lt_of_lt_of_le hbw3 HB0.out.size, (HD3w.out.kept HB0.out hbw3).less (by omega)⟩) (.inr ⟨_, 0, rfl, lt_of_heap HG5.out, fun i hi => by
              have : i = 0 ∨ i = 1 := by omega
              rcases this with rfl | rfl
              · exact ⟨cell_of HG5.out (i := 0) rfl, cell_of HG5.out (i := 1) rfl⟩
              · exact ⟨cell_of HG5.out (i := 2) rfl, cell_of HG5.out (i := 3) rfl⟩⟩) (by
              rcases HDD3.out with h | h
              · exact .inl (by omega)
              · rw [h]; exact LegsR.sub (Nat.lt_of_lt_of_le hbw3 HB0.out.size) (HD3w.out.kept HB0.out hbw3) (j + 1) (n - (j + 1)) (by omega)) (by omega) (by omega) (by omega)).mono ?_
          rintro e Wn ⟨a11, c11, rfl, ho11, hb⟩
          have hgs := hb.size
          rw [show j + 2 + (n - (j + 1)) = n + 1 by omega] at ho11 ⊢
          have K_HR11 := Lib.hid (own_lowU ho11 hWW)
          refine hK.out _ _ ⟨⟨cellk (HB0.out.trans (hb.mono HB0.out.size)) lq3 x0, cellk (HB0.out.trans (hb.mono HB0.out.size)) lq3 x1⟩, ⟨cellk (HB0.out.trans (hb.mono HB0.out.size)) l11 a0, cellk (HB0.out.trans (hb.mono HB0.out.size)) l11 a1⟩, cellk (HB0.out.trans (hb.mono HB0.out.size)) l12 b0, cellk (HB0.out.trans (hb.mono HB0.out.size)) l12 b1⟩ (fun hHeldN => ?_)
          clear hK K
          try simp only [Act.put, pB, pC, pD]
          refine listedEq (l' := #[true, true, true, true, true, true, true, true, true, true, true, true, true, true, true, true, true, true, true, true, true, true, false, false, false]) (by kernel_rfl) ?_
          have h := h_5_10_11_17_21 g5 g10 a11 c11 g17 g21 Wn (Lib.hid (HB0.out.trans (hb.mono HB0.out.size))) (Lib.hid (heap_keep hb HG17.out)) (Lib.hid (heap_keep hb HG21.out)) ⟨hl5.1, by have := hl5.2; omega⟩ ⟨hl10.1, by have := hl10.2; omega⟩ ⟨hl17.1, by have := hl17.2; omega⟩ ⟨hl21.1, by have := hl21.2; omega⟩ ne5_10 ne5_17 ne5_21 ne10_17 ne10_21 ne17_21 K_HR11
          rw [hG] at h
          simp only [Act.put, pB, pC, pD] at h
          exact h
        exact AllReadyH.nil
      have h_5_10_11 : ∀ (g5 : Nat) (g10 : Nat) (a11 : Option Addr) (c11 : Nat) (W : World), Hid (Below w3.heap.size w3 W) → w3.heap.size ≤ g5 ∧ g5 < W.heap.size → w3.heap.size ≤ g10 ∧ g10 < W.heap.size → g5 ≠ g10 → Hid (W.ownsRow w3.heap.size 83 2 (.slice a11 (n + 1) c11) (n + 1) (cells2 (splL n j t L) (splM n j M) (n + 1))) → G 5 #[true, true, true, true, true, true, true, true, true, true, true, true, true, true, true, true, true, false, true, true, true, false, false, false, false] (((A.put (some 33) (.slice (some ⟨g5, 0, none⟩) 2 2)).put (some 38) (.slice (some ⟨g10, 0, none⟩) 3 3)).put (some 39) (.slice a11 (n + 1) c11)) W := by
        intro g5 g10 a11 c11 W HB0 hl5 hl10 ne5_10 HR11
        subst hA
        rw [hG]
        simp only [Act.put, pB, pC, pD]
        have hWW := HB0.out.size
        refine wpAnyH_ready (rs := [17]) (by kernel_rfl) (by simp) ?_
        refine coH 17 (oi := ?_) ?_ ?_ (fun K hK => ?_) ?_; rotate_left; (simp only [gA, gB, gC]; exact rfl); rfl
        · go_wp2_with (fail)
          have hb : Below W.heap.size W (W.alloc (.cells #[.int .i64 (M j)] 3)) := (Below.refl _ _).alloc (Nat.le_refl _) _
          have hgs : (W.alloc (.cells #[.int .i64 (M j)] 3)).heap.size = W.heap.size + 1 := by simp
          have K_HG17 := Lib.hid (heap_alloc_new W (.cells #[.int .i64 (M j)] 3))
          refine hK.out _ _ ⟨⟨cellk (HB0.out.trans (hb.mono HB0.out.size)) lq3 x0, cellk (HB0.out.trans (hb.mono HB0.out.size)) lq3 x1⟩, ⟨cellk (HB0.out.trans (hb.mono HB0.out.size)) l11 a0, cellk (HB0.out.trans (hb.mono HB0.out.size)) l11 a1⟩, cellk (HB0.out.trans (hb.mono HB0.out.size)) l12 b0, cellk (HB0.out.trans (hb.mono HB0.out.size)) l12 b1⟩ (fun hHeldN => ?_)
          clear hK K
          try simp only [Act.put, pB, pC, pD]
          refine listedEq (l' := #[true, true, true, true, true, true, true, true, true, true, true, true, true, true, true, true, true, true, true, true, true, false, false, false, false]) (by kernel_rfl) ?_
          have h := h_5_10_11_17 g5 g10 a11 c11 W.heap.size (W.alloc (.cells #[.int .i64 (M j)] 3)) (Lib.hid (HB0.out.trans (hb.mono HB0.out.size))) K_HG17 ⟨hl5.1, by have := hl5.2; omega⟩ ⟨hl10.1, by have := hl10.2; omega⟩ ⟨hWW, by omega⟩ ne5_10 (by have := hl5.2; omega) (by have := hl10.2; omega) (Lib.hid (ownsRow_below HR11.out hb))
          rw [hG] at h
          simp only [Act.put, pB, pC, pD] at h
          exact h
        exact AllReadyH.nil
      have h_5_10_17 : ∀ (g5 : Nat) (g10 : Nat) (g17 : Nat) (W : World), Hid (Below w3.heap.size w3 W) → Hid (W.heap[g5]? = some (.cells #[.int .i64 t, .int .i64 (M j), .int .i64 (L j - t), .int .i64 (M j)] 83 (0, 0))) → Hid (W.heap[g10]? = some (.cells #[.slice (some ⟨b, off, none⟩) j c, .slice (some ⟨g5, 0, none⟩) 2 2, .slice (some d3) (n - (j + 1)) (c - (j + 1))] 64 (0, 0))) → Hid (W.heap[g17]? = some (.cells #[.int .i64 (M j)] 3 (0, 0))) → w3.heap.size ≤ g5 ∧ g5 < W.heap.size → w3.heap.size ≤ g10 ∧ g10 < W.heap.size → w3.heap.size ≤ g17 ∧ g17 < W.heap.size → g5 ≠ g10 → g5 ≠ g17 → g10 ≠ g17 → G 5 #[true, true, true, true, true, true, true, true, true, true, true, false, true, true, true, true, true, true, true, true, true, false, false, false, false] (((A.put (some 33) (.slice (some ⟨g5, 0, none⟩) 2 2)).put (some 38) (.slice (some ⟨g10, 0, none⟩) 3 3)).put (some 45) (.slice (some ⟨g17, 0, none⟩) 1 1)) W := by
        intro g5 g10 g17 W HB0 HG5 HG10 HG17 hl5 hl10 hl17 ne5_10 ne5_17 ne10_17
        subst hA
        rw [hG]
        simp only [Act.put, pB, pC, pD]
        have hWW := HB0.out.size
        refine wpAnyH_ready (rs := [11, 21]) (by kernel_rfl) (by simp) ?_
        refine coH 11 (oi := ?_) ?_ ?_ (fun K hK => ?_) ?_; rotate_left; (simp only [gA, gB, gC]; exact rfl); rfl
        · go_wp2_with (fail)
          refine (concatL g10 ⟨b, off, none⟩ ⟨g5, 0, none⟩ d3 j 2 (n - (j + 1)) c 2 (c - (j + 1)) L M (prtL (L j) t) (fun _ => M j) (fun i => L (j + 1 + i)) (fun i => M (j + 1 + i)) W HG10.out (.inr ⟨b, off, rfl, Nat.lt_of_lt_of_le hbw3 HB0.out.size, (HD3w.out.kept HB0.out hbw3).less (by omega)⟩) (.inr ⟨_, 0, rfl, lt_of_heap HG5.out, fun i hi => by
              have : i = 0 ∨ i = 1 := by omega
              rcases this with rfl | rfl
              · exact ⟨cell_of HG5.out (i := 0) rfl, cell_of HG5.out (i := 1) rfl⟩
              · exact ⟨cell_of HG5.out (i := 2) rfl, cell_of HG5.out (i := 3) rfl⟩⟩) (by
              rcases HDD3.out with h | h
              · exact .inl (by omega)
              · rw [h]; exact LegsR.sub (Nat.lt_of_lt_of_le hbw3 HB0.out.size) (HD3w.out.kept HB0.out hbw3) (j + 1) (n - (j + 1)) (by omega)) (by omega) (by omega) (by omega)).mono ?_
          rintro e Wn ⟨a11, c11, rfl, ho11, hb⟩
          have hgs := hb.size
          rw [show j + 2 + (n - (j + 1)) = n + 1 by omega] at ho11 ⊢
          have K_HR11 := Lib.hid (own_lowU ho11 hWW)
          refine hK.out _ _ ⟨⟨cellk (HB0.out.trans (hb.mono HB0.out.size)) lq3 x0, cellk (HB0.out.trans (hb.mono HB0.out.size)) lq3 x1⟩, ⟨cellk (HB0.out.trans (hb.mono HB0.out.size)) l11 a0, cellk (HB0.out.trans (hb.mono HB0.out.size)) l11 a1⟩, cellk (HB0.out.trans (hb.mono HB0.out.size)) l12 b0, cellk (HB0.out.trans (hb.mono HB0.out.size)) l12 b1⟩ (fun hHeldN => ?_)
          clear hK K
          try simp only [Act.put, pB, pC, pD]
          refine listedEq (l' := #[true, true, true, true, true, true, true, true, true, true, true, true, true, true, true, true, true, true, true, true, true, false, false, false, false]) (by kernel_rfl) ?_
          have h := h_5_10_11_17 g5 g10 a11 c11 g17 Wn (Lib.hid (HB0.out.trans (hb.mono HB0.out.size))) (Lib.hid (heap_keep hb HG17.out)) ⟨hl5.1, by have := hl5.2; omega⟩ ⟨hl10.1, by have := hl10.2; omega⟩ ⟨hl17.1, by have := hl17.2; omega⟩ ne5_10 ne5_17 ne10_17 K_HR11
          rw [hG] at h
          simp only [Act.put, pB, pC, pD] at h
          exact h
        refine coH 21 (oi := ?_) ?_ ?_ (fun K hK => ?_) ?_; rotate_left; (simp only [gA, gB, gC]; exact rfl); rfl
        · go_wp2_with (fail)
          have hb : Below W.heap.size W (W.alloc (.cells #[.slice (some ⟨b2, off2, none⟩) j cc, .slice (some ⟨g17, 0, none⟩) 1 1, .slice (some d4) (m - j) (cc - j)] 22)) := (Below.refl _ _).alloc (Nat.le_refl _) _
          have hgs : (W.alloc (.cells #[.slice (some ⟨b2, off2, none⟩) j cc, .slice (some ⟨g17, 0, none⟩) 1 1, .slice (some d4) (m - j) (cc - j)] 22)).heap.size = W.heap.size + 1 := by simp
          have K_HG21 := Lib.hid (heap_alloc_new W (.cells #[.slice (some ⟨b2, off2, none⟩) j cc, .slice (some ⟨g17, 0, none⟩) 1 1, .slice (some d4) (m - j) (cc - j)] 22))
          refine hK.out _ _ ⟨⟨cellk (HB0.out.trans (hb.mono HB0.out.size)) lq3 x0, cellk (HB0.out.trans (hb.mono HB0.out.size)) lq3 x1⟩, ⟨cellk (HB0.out.trans (hb.mono HB0.out.size)) l11 a0, cellk (HB0.out.trans (hb.mono HB0.out.size)) l11 a1⟩, cellk (HB0.out.trans (hb.mono HB0.out.size)) l12 b0, cellk (HB0.out.trans (hb.mono HB0.out.size)) l12 b1⟩ (fun hHeldN => ?_)
          clear hK K
          try simp only [Act.put, pB, pC, pD]
          refine listedEq (l' := #[true, true, true, true, true, true, true, true, true, true, true, false, true, true, true, true, true, true, true, true, true, true, false, false, false]) (by kernel_rfl) ?_
          have h := h_5_10_17_21 g5 g10 g17 W.heap.size (W.alloc (.cells #[.slice (some ⟨b2, off2, none⟩) j cc, .slice (some ⟨g17, 0, none⟩) 1 1, .slice (some d4) (m - j) (cc - j)] 22)) (Lib.hid (HB0.out.trans (hb.mono HB0.out.size))) (Lib.hid (heap_keep hb HG5.out)) (Lib.hid (heap_keep hb HG10.out)) (Lib.hid (heap_keep hb HG17.out)) K_HG21 ⟨hl5.1, by have := hl5.2; omega⟩ ⟨hl10.1, by have := hl10.2; omega⟩ ⟨hl17.1, by have := hl17.2; omega⟩ ⟨hWW, by omega⟩ ne5_10 ne5_17 (by have := hl5.2; omega) ne10_17 (by have := hl10.2; omega) (by have := hl17.2; omega)
          rw [hG] at h
          simp only [Act.put, pB, pC, pD] at h
          exact h
        exact AllReadyH.nil
      have h_5_17_21 : ∀ (g5 : Nat) (g17 : Nat) (g21 : Nat) (W : World), Hid (Below w3.heap.size w3 W) → Hid (W.heap[g5]? = some (.cells #[.int .i64 t, .int .i64 (M j), .int .i64 (L j - t), .int .i64 (M j)] 83 (0, 0))) → Hid (W.heap[g17]? = some (.cells #[.int .i64 (M j)] 3 (0, 0))) → Hid (W.heap[g21]? = some (.cells #[.slice (some ⟨b2, off2, none⟩) j cc, .slice (some ⟨g17, 0, none⟩) 1 1, .slice (some d4) (m - j) (cc - j)] 22 (0, 0))) → w3.heap.size ≤ g5 ∧ g5 < W.heap.size → w3.heap.size ≤ g17 ∧ g17 < W.heap.size → w3.heap.size ≤ g21 ∧ g21 < W.heap.size → g5 ≠ g17 → g5 ≠ g21 → g17 ≠ g21 → G 5 #[true, true, true, true, true, true, true, true, true, true, false, false, true, true, true, true, true, true, true, true, true, true, false, false, false] (((A.put (some 33) (.slice (some ⟨g5, 0, none⟩) 2 2)).put (some 45) (.slice (some ⟨g17, 0, none⟩) 1 1)).put (some 49) (.slice (some ⟨g21, 0, none⟩) 3 3)) W := by
        intro g5 g17 g21 W HB0 HG5 HG17 HG21 hl5 hl17 hl21 ne5_17 ne5_21 ne17_21
        subst hA
        rw [hG]
        simp only [Act.put, pB, pC, pD]
        have hWW := HB0.out.size
        refine wpAnyH_ready (rs := [10]) (by kernel_rfl) (by simp) ?_
        refine coH 10 (oi := ?_) ?_ ?_ (fun K hK => ?_) ?_; rotate_left; (simp only [gA, gB, gC]; exact rfl); rfl
        · go_wp2_with (fail)
          have hb : Below W.heap.size W (W.alloc (.cells #[.slice (some ⟨b, off, none⟩) j c, .slice (some ⟨g5, 0, none⟩) 2 2, .slice (some d3) (n - (j + 1)) (c - (j + 1))] 64)) := (Below.refl _ _).alloc (Nat.le_refl _) _
          have hgs : (W.alloc (.cells #[.slice (some ⟨b, off, none⟩) j c, .slice (some ⟨g5, 0, none⟩) 2 2, .slice (some d3) (n - (j + 1)) (c - (j + 1))] 64)).heap.size = W.heap.size + 1 := by simp
          have K_HG10 := Lib.hid (heap_alloc_new W (.cells #[.slice (some ⟨b, off, none⟩) j c, .slice (some ⟨g5, 0, none⟩) 2 2, .slice (some d3) (n - (j + 1)) (c - (j + 1))] 64))
          refine hK.out _ _ ⟨⟨cellk (HB0.out.trans (hb.mono HB0.out.size)) lq3 x0, cellk (HB0.out.trans (hb.mono HB0.out.size)) lq3 x1⟩, ⟨cellk (HB0.out.trans (hb.mono HB0.out.size)) l11 a0, cellk (HB0.out.trans (hb.mono HB0.out.size)) l11 a1⟩, cellk (HB0.out.trans (hb.mono HB0.out.size)) l12 b0, cellk (HB0.out.trans (hb.mono HB0.out.size)) l12 b1⟩ (fun hHeldN => ?_)
          clear hK K
          try simp only [Act.put, pB, pC, pD]
          refine listedEq (l' := #[true, true, true, true, true, true, true, true, true, true, true, false, true, true, true, true, true, true, true, true, true, true, false, false, false]) (by kernel_rfl) ?_
          have h := h_5_10_17_21 g5 W.heap.size g17 g21 (W.alloc (.cells #[.slice (some ⟨b, off, none⟩) j c, .slice (some ⟨g5, 0, none⟩) 2 2, .slice (some d3) (n - (j + 1)) (c - (j + 1))] 64)) (Lib.hid (HB0.out.trans (hb.mono HB0.out.size))) (Lib.hid (heap_keep hb HG5.out)) K_HG10 (Lib.hid (heap_keep hb HG17.out)) (Lib.hid (heap_keep hb HG21.out)) ⟨hl5.1, by have := hl5.2; omega⟩ ⟨hWW, by omega⟩ ⟨hl17.1, by have := hl17.2; omega⟩ ⟨hl21.1, by have := hl21.2; omega⟩ (by have := hl5.2; omega) ne5_17 ne5_21 (by have := hl17.2; omega) (by have := hl21.2; omega) ne17_21
          rw [hG] at h
          simp only [Act.put, pB, pC, pD] at h
          exact h
        exact AllReadyH.nil
      have h_5_10 : ∀ (g5 : Nat) (g10 : Nat) (W : World), Hid (Below w3.heap.size w3 W) → Hid (W.heap[g5]? = some (.cells #[.int .i64 t, .int .i64 (M j), .int .i64 (L j - t), .int .i64 (M j)] 83 (0, 0))) → Hid (W.heap[g10]? = some (.cells #[.slice (some ⟨b, off, none⟩) j c, .slice (some ⟨g5, 0, none⟩) 2 2, .slice (some d3) (n - (j + 1)) (c - (j + 1))] 64 (0, 0))) → w3.heap.size ≤ g5 ∧ g5 < W.heap.size → w3.heap.size ≤ g10 ∧ g10 < W.heap.size → g5 ≠ g10 → G 6 #[true, true, true, true, true, true, true, true, true, true, true, false, true, true, true, true, true, false, true, true, true, false, false, false, false] ((A.put (some 33) (.slice (some ⟨g5, 0, none⟩) 2 2)).put (some 38) (.slice (some ⟨g10, 0, none⟩) 3 3)) W := by
        intro g5 g10 W HB0 HG5 HG10 hl5 hl10 ne5_10
        subst hA
        rw [hG]
        simp only [Act.put, pB, pC, pD]
        have hWW := HB0.out.size
        refine wpAnyH_ready (rs := [11, 17]) (by kernel_rfl) (by simp) ?_
        refine coH 11 (oi := ?_) ?_ ?_ (fun K hK => ?_) ?_; rotate_left; (simp only [gA, gB, gC]; exact rfl); rfl
        · go_wp2_with (fail)
          refine (concatL g10 ⟨b, off, none⟩ ⟨g5, 0, none⟩ d3 j 2 (n - (j + 1)) c 2 (c - (j + 1)) L M (prtL (L j) t) (fun _ => M j) (fun i => L (j + 1 + i)) (fun i => M (j + 1 + i)) W HG10.out (.inr ⟨b, off, rfl, Nat.lt_of_lt_of_le hbw3 HB0.out.size, (HD3w.out.kept HB0.out hbw3).less (by omega)⟩) (.inr ⟨_, 0, rfl, lt_of_heap HG5.out, fun i hi => by
              have : i = 0 ∨ i = 1 := by omega
              rcases this with rfl | rfl
              · exact ⟨cell_of HG5.out (i := 0) rfl, cell_of HG5.out (i := 1) rfl⟩
              · exact ⟨cell_of HG5.out (i := 2) rfl, cell_of HG5.out (i := 3) rfl⟩⟩) (by
              rcases HDD3.out with h | h
              · exact .inl (by omega)
              · rw [h]; exact LegsR.sub (Nat.lt_of_lt_of_le hbw3 HB0.out.size) (HD3w.out.kept HB0.out hbw3) (j + 1) (n - (j + 1)) (by omega)) (by omega) (by omega) (by omega)).mono ?_
          rintro e Wn ⟨a11, c11, rfl, ho11, hb⟩
          have hgs := hb.size
          rw [show j + 2 + (n - (j + 1)) = n + 1 by omega] at ho11 ⊢
          have K_HR11 := Lib.hid (own_lowU ho11 hWW)
          refine hK.out _ _ ⟨⟨cellk (HB0.out.trans (hb.mono HB0.out.size)) lq3 x0, cellk (HB0.out.trans (hb.mono HB0.out.size)) lq3 x1⟩, ⟨cellk (HB0.out.trans (hb.mono HB0.out.size)) l11 a0, cellk (HB0.out.trans (hb.mono HB0.out.size)) l11 a1⟩, cellk (HB0.out.trans (hb.mono HB0.out.size)) l12 b0, cellk (HB0.out.trans (hb.mono HB0.out.size)) l12 b1⟩ (fun hHeldN => ?_)
          clear hK K
          try simp only [Act.put, pB, pC, pD]
          refine listedEq (l' := #[true, true, true, true, true, true, true, true, true, true, true, true, true, true, true, true, true, false, true, true, true, false, false, false, false]) (by kernel_rfl) ?_
          have h := h_5_10_11 g5 g10 a11 c11 Wn (Lib.hid (HB0.out.trans (hb.mono HB0.out.size))) ⟨hl5.1, by have := hl5.2; omega⟩ ⟨hl10.1, by have := hl10.2; omega⟩ ne5_10 K_HR11
          rw [hG] at h
          simp only [Act.put, pB, pC, pD] at h
          exact h
        refine coH 17 (oi := ?_) ?_ ?_ (fun K hK => ?_) ?_; rotate_left; (simp only [gA, gB, gC]; exact rfl); rfl
        · go_wp2_with (fail)
          have hb : Below W.heap.size W (W.alloc (.cells #[.int .i64 (M j)] 3)) := (Below.refl _ _).alloc (Nat.le_refl _) _
          have hgs : (W.alloc (.cells #[.int .i64 (M j)] 3)).heap.size = W.heap.size + 1 := by simp
          have K_HG17 := Lib.hid (heap_alloc_new W (.cells #[.int .i64 (M j)] 3))
          refine hK.out _ _ ⟨⟨cellk (HB0.out.trans (hb.mono HB0.out.size)) lq3 x0, cellk (HB0.out.trans (hb.mono HB0.out.size)) lq3 x1⟩, ⟨cellk (HB0.out.trans (hb.mono HB0.out.size)) l11 a0, cellk (HB0.out.trans (hb.mono HB0.out.size)) l11 a1⟩, cellk (HB0.out.trans (hb.mono HB0.out.size)) l12 b0, cellk (HB0.out.trans (hb.mono HB0.out.size)) l12 b1⟩ (fun hHeldN => ?_)
          clear hK K
          try simp only [Act.put, pB, pC, pD]
          refine listedEq (l' := #[true, true, true, true, true, true, true, true, true, true, true, false, true, true, true, true, true, true, true, true, true, false, false, false, false]) (by kernel_rfl) ?_
          have h := h_5_10_17 g5 g10 W.heap.size (W.alloc (.cells #[.int .i64 (M j)] 3)) (Lib.hid (HB0.out.trans (hb.mono HB0.out.size))) (Lib.hid (heap_keep hb HG5.out)) (Lib.hid (heap_keep hb HG10.out)) K_HG17 ⟨hl5.1, by have := hl5.2; omega⟩ ⟨hl10.1, by have := hl10.2; omega⟩ ⟨hWW, by omega⟩ ne5_10 (by have := hl5.2; omega) (by have := hl10.2; omega)
          rw [hG] at h
          simp only [Act.put, pB, pC, pD] at h
          exact h
        exact AllReadyH.nil
      have h_5_17 : ∀ (g5 : Nat) (g17 : Nat) (W : World), Hid (Below w3.heap.size w3 W) → Hid (W.heap[g5]? = some (.cells #[.int .i64 t, .int .i64 (M j), .int .i64 (L j - t), .int .i64 (M j)] 83 (0, 0))) → Hid (W.heap[g17]? = some (.cells #[.int .i64 (M j)] 3 (0, 0))) → w3.heap.size ≤ g5 ∧ g5 < W.heap.size → w3.heap.size ≤ g17 ∧ g17 < W.heap.size → g5 ≠ g17 → G 6 #[true, true, true, true, true, true, true, true, true, true, false, false, true, true, true, true, true, true, true, true, true, false, false, false, false] ((A.put (some 33) (.slice (some ⟨g5, 0, none⟩) 2 2)).put (some 45) (.slice (some ⟨g17, 0, none⟩) 1 1)) W := by
        intro g5 g17 W HB0 HG5 HG17 hl5 hl17 ne5_17
        subst hA
        rw [hG]
        simp only [Act.put, pB, pC, pD]
        have hWW := HB0.out.size
        refine wpAnyH_ready (rs := [10, 21]) (by kernel_rfl) (by simp) ?_
        refine coH 10 (oi := ?_) ?_ ?_ (fun K hK => ?_) ?_; rotate_left; (simp only [gA, gB, gC]; exact rfl); rfl
        · go_wp2_with (fail)
          have hb : Below W.heap.size W (W.alloc (.cells #[.slice (some ⟨b, off, none⟩) j c, .slice (some ⟨g5, 0, none⟩) 2 2, .slice (some d3) (n - (j + 1)) (c - (j + 1))] 64)) := (Below.refl _ _).alloc (Nat.le_refl _) _
          have hgs : (W.alloc (.cells #[.slice (some ⟨b, off, none⟩) j c, .slice (some ⟨g5, 0, none⟩) 2 2, .slice (some d3) (n - (j + 1)) (c - (j + 1))] 64)).heap.size = W.heap.size + 1 := by simp
          have K_HG10 := Lib.hid (heap_alloc_new W (.cells #[.slice (some ⟨b, off, none⟩) j c, .slice (some ⟨g5, 0, none⟩) 2 2, .slice (some d3) (n - (j + 1)) (c - (j + 1))] 64))
          refine hK.out _ _ ⟨⟨cellk (HB0.out.trans (hb.mono HB0.out.size)) lq3 x0, cellk (HB0.out.trans (hb.mono HB0.out.size)) lq3 x1⟩, ⟨cellk (HB0.out.trans (hb.mono HB0.out.size)) l11 a0, cellk (HB0.out.trans (hb.mono HB0.out.size)) l11 a1⟩, cellk (HB0.out.trans (hb.mono HB0.out.size)) l12 b0, cellk (HB0.out.trans (hb.mono HB0.out.size)) l12 b1⟩ (fun hHeldN => ?_)
          clear hK K
          try simp only [Act.put, pB, pC, pD]
          refine listedEq (l' := #[true, true, true, true, true, true, true, true, true, true, true, false, true, true, true, true, true, true, true, true, true, false, false, false, false]) (by kernel_rfl) ?_
          have h := h_5_10_17 g5 W.heap.size g17 (W.alloc (.cells #[.slice (some ⟨b, off, none⟩) j c, .slice (some ⟨g5, 0, none⟩) 2 2, .slice (some d3) (n - (j + 1)) (c - (j + 1))] 64)) (Lib.hid (HB0.out.trans (hb.mono HB0.out.size))) (Lib.hid (heap_keep hb HG5.out)) K_HG10 (Lib.hid (heap_keep hb HG17.out)) ⟨hl5.1, by have := hl5.2; omega⟩ ⟨hWW, by omega⟩ ⟨hl17.1, by have := hl17.2; omega⟩ (by have := hl5.2; omega) ne5_17 (by have := hl17.2; omega)
          rw [hG] at h
          simp only [Act.put, pB, pC, pD] at h
          exact h
        refine coH 21 (oi := ?_) ?_ ?_ (fun K hK => ?_) ?_; rotate_left; (simp only [gA, gB, gC]; exact rfl); rfl
        · go_wp2_with (fail)
          have hb : Below W.heap.size W (W.alloc (.cells #[.slice (some ⟨b2, off2, none⟩) j cc, .slice (some ⟨g17, 0, none⟩) 1 1, .slice (some d4) (m - j) (cc - j)] 22)) := (Below.refl _ _).alloc (Nat.le_refl _) _
          have hgs : (W.alloc (.cells #[.slice (some ⟨b2, off2, none⟩) j cc, .slice (some ⟨g17, 0, none⟩) 1 1, .slice (some d4) (m - j) (cc - j)] 22)).heap.size = W.heap.size + 1 := by simp
          have K_HG21 := Lib.hid (heap_alloc_new W (.cells #[.slice (some ⟨b2, off2, none⟩) j cc, .slice (some ⟨g17, 0, none⟩) 1 1, .slice (some d4) (m - j) (cc - j)] 22))
          refine hK.out _ _ ⟨⟨cellk (HB0.out.trans (hb.mono HB0.out.size)) lq3 x0, cellk (HB0.out.trans (hb.mono HB0.out.size)) lq3 x1⟩, ⟨cellk (HB0.out.trans (hb.mono HB0.out.size)) l11 a0, cellk (HB0.out.trans (hb.mono HB0.out.size)) l11 a1⟩, cellk (HB0.out.trans (hb.mono HB0.out.size)) l12 b0, cellk (HB0.out.trans (hb.mono HB0.out.size)) l12 b1⟩ (fun hHeldN => ?_)
          clear hK K
          try simp only [Act.put, pB, pC, pD]
          refine listedEq (l' := #[true, true, true, true, true, true, true, true, true, true, false, false, true, true, true, true, true, true, true, true, true, true, false, false, false]) (by kernel_rfl) ?_
          have h := h_5_17_21 g5 g17 W.heap.size (W.alloc (.cells #[.slice (some ⟨b2, off2, none⟩) j cc, .slice (some ⟨g17, 0, none⟩) 1 1, .slice (some d4) (m - j) (cc - j)] 22)) (Lib.hid (HB0.out.trans (hb.mono HB0.out.size))) (Lib.hid (heap_keep hb HG5.out)) (Lib.hid (heap_keep hb HG17.out)) K_HG21 ⟨hl5.1, by have := hl5.2; omega⟩ ⟨hl17.1, by have := hl17.2; omega⟩ ⟨hWW, by omega⟩ ne5_17 (by have := hl5.2; omega) (by have := hl17.2; omega)
          rw [hG] at h
          simp only [Act.put, pB, pC, pD] at h
          exact h
        exact AllReadyH.nil
      have h_17_21 : ∀ (g17 : Nat) (g21 : Nat) (W : World), Hid (Below w3.heap.size w3 W) → Hid (W.heap[g17]? = some (.cells #[.int .i64 (M j)] 3 (0, 0))) → Hid (W.heap[g21]? = some (.cells #[.slice (some ⟨b2, off2, none⟩) j cc, .slice (some ⟨g17, 0, none⟩) 1 1, .slice (some d4) (m - j) (cc - j)] 22 (0, 0))) → w3.heap.size ≤ g17 ∧ g17 < W.heap.size → w3.heap.size ≤ g21 ∧ g21 < W.heap.size → g17 ≠ g21 → G 6 #[true, true, true, true, true, false, true, true, true, true, false, false, true, true, true, true, true, true, true, true, true, true, false, false, false] ((A.put (some 45) (.slice (some ⟨g17, 0, none⟩) 1 1)).put (some 49) (.slice (some ⟨g21, 0, none⟩) 3 3)) W := by
        intro g17 g21 W HB0 HG17 HG21 hl17 hl21 ne17_21
        subst hA
        rw [hG]
        simp only [Act.put, pB, pC, pD]
        have hWW := HB0.out.size
        refine wpAnyH_ready (rs := [5]) (by kernel_rfl) (by simp) ?_
        refine coH 5 (oi := ?_) ?_ ?_ (fun K hK => ?_) ?_; rotate_left; (simp only [gA, gB, gC]; exact rfl); rfl
        · go_wp2_with (fail)
          have hb : Below W.heap.size W (W.alloc (.cells #[.int .i64 t, .int .i64 (M j), .int .i64 (L j - t), .int .i64 (M j)] 83)) := (Below.refl _ _).alloc (Nat.le_refl _) _
          have hgs : (W.alloc (.cells #[.int .i64 t, .int .i64 (M j), .int .i64 (L j - t), .int .i64 (M j)] 83)).heap.size = W.heap.size + 1 := by simp
          have K_HG5 := Lib.hid (heap_alloc_new W (.cells #[.int .i64 t, .int .i64 (M j), .int .i64 (L j - t), .int .i64 (M j)] 83))
          refine hK.out _ _ ⟨⟨cellk (HB0.out.trans (hb.mono HB0.out.size)) lq3 x0, cellk (HB0.out.trans (hb.mono HB0.out.size)) lq3 x1⟩, ⟨cellk (HB0.out.trans (hb.mono HB0.out.size)) l11 a0, cellk (HB0.out.trans (hb.mono HB0.out.size)) l11 a1⟩, cellk (HB0.out.trans (hb.mono HB0.out.size)) l12 b0, cellk (HB0.out.trans (hb.mono HB0.out.size)) l12 b1⟩ (fun hHeldN => ?_)
          clear hK K
          try simp only [Act.put, pB, pC, pD]
          refine listedEq (l' := #[true, true, true, true, true, true, true, true, true, true, false, false, true, true, true, true, true, true, true, true, true, true, false, false, false]) (by kernel_rfl) ?_
          have h := h_5_17_21 W.heap.size g17 g21 (W.alloc (.cells #[.int .i64 t, .int .i64 (M j), .int .i64 (L j - t), .int .i64 (M j)] 83)) (Lib.hid (HB0.out.trans (hb.mono HB0.out.size))) K_HG5 (Lib.hid (heap_keep hb HG17.out)) (Lib.hid (heap_keep hb HG21.out)) ⟨hWW, by omega⟩ ⟨hl17.1, by have := hl17.2; omega⟩ ⟨hl21.1, by have := hl21.2; omega⟩ (by have := hl17.2; omega) (by have := hl21.2; omega) ne17_21
          rw [hG] at h
          simp only [Act.put, pB, pC, pD] at h
          exact h
        exact AllReadyH.nil
      have h_5 : ∀ (g5 : Nat) (W : World), Hid (Below w3.heap.size w3 W) → Hid (W.heap[g5]? = some (.cells #[.int .i64 t, .int .i64 (M j), .int .i64 (L j - t), .int .i64 (M j)] 83 (0, 0))) → w3.heap.size ≤ g5 ∧ g5 < W.heap.size → G 7 #[true, true, true, true, true, true, true, true, true, true, false, false, true, true, true, true, true, false, true, true, true, false, false, false, false] (A.put (some 33) (.slice (some ⟨g5, 0, none⟩) 2 2)) W := by
        intro g5 W HB0 HG5 hl5
        subst hA
        rw [hG]
        simp only [Act.put, pB, pC, pD]
        have hWW := HB0.out.size
        refine wpAnyH_ready (rs := [10, 17]) (by kernel_rfl) (by simp) ?_
        refine coH 10 (oi := ?_) ?_ ?_ (fun K hK => ?_) ?_; rotate_left; (simp only [gA, gB, gC]; exact rfl); rfl
        · go_wp2_with (fail)
          have hb : Below W.heap.size W (W.alloc (.cells #[.slice (some ⟨b, off, none⟩) j c, .slice (some ⟨g5, 0, none⟩) 2 2, .slice (some d3) (n - (j + 1)) (c - (j + 1))] 64)) := (Below.refl _ _).alloc (Nat.le_refl _) _
          have hgs : (W.alloc (.cells #[.slice (some ⟨b, off, none⟩) j c, .slice (some ⟨g5, 0, none⟩) 2 2, .slice (some d3) (n - (j + 1)) (c - (j + 1))] 64)).heap.size = W.heap.size + 1 := by simp
          have K_HG10 := Lib.hid (heap_alloc_new W (.cells #[.slice (some ⟨b, off, none⟩) j c, .slice (some ⟨g5, 0, none⟩) 2 2, .slice (some d3) (n - (j + 1)) (c - (j + 1))] 64))
          refine hK.out _ _ ⟨⟨cellk (HB0.out.trans (hb.mono HB0.out.size)) lq3 x0, cellk (HB0.out.trans (hb.mono HB0.out.size)) lq3 x1⟩, ⟨cellk (HB0.out.trans (hb.mono HB0.out.size)) l11 a0, cellk (HB0.out.trans (hb.mono HB0.out.size)) l11 a1⟩, cellk (HB0.out.trans (hb.mono HB0.out.size)) l12 b0, cellk (HB0.out.trans (hb.mono HB0.out.size)) l12 b1⟩ (fun hHeldN => ?_)
          clear hK K
          try simp only [Act.put, pB, pC, pD]
          refine listedEq (l' := #[true, true, true, true, true, true, true, true, true, true, true, false, true, true, true, true, true, false, true, true, true, false, false, false, false]) (by kernel_rfl) ?_
          have h := h_5_10 g5 W.heap.size (W.alloc (.cells #[.slice (some ⟨b, off, none⟩) j c, .slice (some ⟨g5, 0, none⟩) 2 2, .slice (some d3) (n - (j + 1)) (c - (j + 1))] 64)) (Lib.hid (HB0.out.trans (hb.mono HB0.out.size))) (Lib.hid (heap_keep hb HG5.out)) K_HG10 ⟨hl5.1, by have := hl5.2; omega⟩ ⟨hWW, by omega⟩ (by have := hl5.2; omega)
          rw [hG] at h
          simp only [Act.put, pB, pC, pD] at h
          exact h
        refine coH 17 (oi := ?_) ?_ ?_ (fun K hK => ?_) ?_; rotate_left; (simp only [gA, gB, gC]; exact rfl); rfl
        · go_wp2_with (fail)
          have hb : Below W.heap.size W (W.alloc (.cells #[.int .i64 (M j)] 3)) := (Below.refl _ _).alloc (Nat.le_refl _) _
          have hgs : (W.alloc (.cells #[.int .i64 (M j)] 3)).heap.size = W.heap.size + 1 := by simp
          have K_HG17 := Lib.hid (heap_alloc_new W (.cells #[.int .i64 (M j)] 3))
          refine hK.out _ _ ⟨⟨cellk (HB0.out.trans (hb.mono HB0.out.size)) lq3 x0, cellk (HB0.out.trans (hb.mono HB0.out.size)) lq3 x1⟩, ⟨cellk (HB0.out.trans (hb.mono HB0.out.size)) l11 a0, cellk (HB0.out.trans (hb.mono HB0.out.size)) l11 a1⟩, cellk (HB0.out.trans (hb.mono HB0.out.size)) l12 b0, cellk (HB0.out.trans (hb.mono HB0.out.size)) l12 b1⟩ (fun hHeldN => ?_)
          clear hK K
          try simp only [Act.put, pB, pC, pD]
          refine listedEq (l' := #[true, true, true, true, true, true, true, true, true, true, false, false, true, true, true, true, true, true, true, true, true, false, false, false, false]) (by kernel_rfl) ?_
          have h := h_5_17 g5 W.heap.size (W.alloc (.cells #[.int .i64 (M j)] 3)) (Lib.hid (HB0.out.trans (hb.mono HB0.out.size))) (Lib.hid (heap_keep hb HG5.out)) K_HG17 ⟨hl5.1, by have := hl5.2; omega⟩ ⟨hWW, by omega⟩ (by have := hl5.2; omega)
          rw [hG] at h
          simp only [Act.put, pB, pC, pD] at h
          exact h
        exact AllReadyH.nil
      have h_17 : ∀ (g17 : Nat) (W : World), Hid (Below w3.heap.size w3 W) → Hid (W.heap[g17]? = some (.cells #[.int .i64 (M j)] 3 (0, 0))) → w3.heap.size ≤ g17 ∧ g17 < W.heap.size → G 7 #[true, true, true, true, true, false, true, true, true, true, false, false, true, true, true, true, true, true, true, true, true, false, false, false, false] (A.put (some 45) (.slice (some ⟨g17, 0, none⟩) 1 1)) W := by
        intro g17 W HB0 HG17 hl17
        subst hA
        rw [hG]
        simp only [Act.put, pB, pC, pD]
        have hWW := HB0.out.size
        refine wpAnyH_ready (rs := [5, 21]) (by kernel_rfl) (by simp) ?_
        refine coH 5 (oi := ?_) ?_ ?_ (fun K hK => ?_) ?_; rotate_left; (simp only [gA, gB, gC]; exact rfl); rfl
        · go_wp2_with (fail)
          have hb : Below W.heap.size W (W.alloc (.cells #[.int .i64 t, .int .i64 (M j), .int .i64 (L j - t), .int .i64 (M j)] 83)) := (Below.refl _ _).alloc (Nat.le_refl _) _
          have hgs : (W.alloc (.cells #[.int .i64 t, .int .i64 (M j), .int .i64 (L j - t), .int .i64 (M j)] 83)).heap.size = W.heap.size + 1 := by simp
          have K_HG5 := Lib.hid (heap_alloc_new W (.cells #[.int .i64 t, .int .i64 (M j), .int .i64 (L j - t), .int .i64 (M j)] 83))
          refine hK.out _ _ ⟨⟨cellk (HB0.out.trans (hb.mono HB0.out.size)) lq3 x0, cellk (HB0.out.trans (hb.mono HB0.out.size)) lq3 x1⟩, ⟨cellk (HB0.out.trans (hb.mono HB0.out.size)) l11 a0, cellk (HB0.out.trans (hb.mono HB0.out.size)) l11 a1⟩, cellk (HB0.out.trans (hb.mono HB0.out.size)) l12 b0, cellk (HB0.out.trans (hb.mono HB0.out.size)) l12 b1⟩ (fun hHeldN => ?_)
          clear hK K
          try simp only [Act.put, pB, pC, pD]
          refine listedEq (l' := #[true, true, true, true, true, true, true, true, true, true, false, false, true, true, true, true, true, true, true, true, true, false, false, false, false]) (by kernel_rfl) ?_
          have h := h_5_17 W.heap.size g17 (W.alloc (.cells #[.int .i64 t, .int .i64 (M j), .int .i64 (L j - t), .int .i64 (M j)] 83)) (Lib.hid (HB0.out.trans (hb.mono HB0.out.size))) K_HG5 (Lib.hid (heap_keep hb HG17.out)) ⟨hWW, by omega⟩ ⟨hl17.1, by have := hl17.2; omega⟩ (by have := hl17.2; omega)
          rw [hG] at h
          simp only [Act.put, pB, pC, pD] at h
          exact h
        refine coH 21 (oi := ?_) ?_ ?_ (fun K hK => ?_) ?_; rotate_left; (simp only [gA, gB, gC]; exact rfl); rfl
        · go_wp2_with (fail)
          have hb : Below W.heap.size W (W.alloc (.cells #[.slice (some ⟨b2, off2, none⟩) j cc, .slice (some ⟨g17, 0, none⟩) 1 1, .slice (some d4) (m - j) (cc - j)] 22)) := (Below.refl _ _).alloc (Nat.le_refl _) _
          have hgs : (W.alloc (.cells #[.slice (some ⟨b2, off2, none⟩) j cc, .slice (some ⟨g17, 0, none⟩) 1 1, .slice (some d4) (m - j) (cc - j)] 22)).heap.size = W.heap.size + 1 := by simp
          have K_HG21 := Lib.hid (heap_alloc_new W (.cells #[.slice (some ⟨b2, off2, none⟩) j cc, .slice (some ⟨g17, 0, none⟩) 1 1, .slice (some d4) (m - j) (cc - j)] 22))
          refine hK.out _ _ ⟨⟨cellk (HB0.out.trans (hb.mono HB0.out.size)) lq3 x0, cellk (HB0.out.trans (hb.mono HB0.out.size)) lq3 x1⟩, ⟨cellk (HB0.out.trans (hb.mono HB0.out.size)) l11 a0, cellk (HB0.out.trans (hb.mono HB0.out.size)) l11 a1⟩, cellk (HB0.out.trans (hb.mono HB0.out.size)) l12 b0, cellk (HB0.out.trans (hb.mono HB0.out.size)) l12 b1⟩ (fun hHeldN => ?_)
          clear hK K
          try simp only [Act.put, pB, pC, pD]
          refine listedEq (l' := #[true, true, true, true, true, false, true, true, true, true, false, false, true, true, true, true, true, true, true, true, true, true, false, false, false]) (by kernel_rfl) ?_
          have h := h_17_21 g17 W.heap.size (W.alloc (.cells #[.slice (some ⟨b2, off2, none⟩) j cc, .slice (some ⟨g17, 0, none⟩) 1 1, .slice (some d4) (m - j) (cc - j)] 22)) (Lib.hid (HB0.out.trans (hb.mono HB0.out.size))) (Lib.hid (heap_keep hb HG17.out)) K_HG21 ⟨hl17.1, by have := hl17.2; omega⟩ ⟨hWW, by omega⟩ (by have := hl17.2; omega)
          rw [hG] at h
          simp only [Act.put, pB, pC, pD] at h
          exact h
        exact AllReadyH.nil
      have h_0 : ∀  (W : World), Hid (Below w3.heap.size w3 W) → G 8 #[true, true, true, true, true, false, true, true, true, true, false, false, true, true, true, true, true, false, true, true, true, false, false, false, false] A W := by
        intro W HB0
        subst hA
        rw [hG]
        have hWW := HB0.out.size
        refine wpAnyH_ready (rs := [5, 17]) (by kernel_rfl) (by simp) ?_
        refine coH 5 (oi := ?_) ?_ ?_ (fun K hK => ?_) ?_; rotate_left; (simp only [gA, gB, gC]; exact rfl); rfl
        · go_wp2_with (fail)
          have hb : Below W.heap.size W (W.alloc (.cells #[.int .i64 t, .int .i64 (M j), .int .i64 (L j - t), .int .i64 (M j)] 83)) := (Below.refl _ _).alloc (Nat.le_refl _) _
          have hgs : (W.alloc (.cells #[.int .i64 t, .int .i64 (M j), .int .i64 (L j - t), .int .i64 (M j)] 83)).heap.size = W.heap.size + 1 := by simp
          have K_HG5 := Lib.hid (heap_alloc_new W (.cells #[.int .i64 t, .int .i64 (M j), .int .i64 (L j - t), .int .i64 (M j)] 83))
          refine hK.out _ _ ⟨⟨cellk (HB0.out.trans (hb.mono HB0.out.size)) lq3 x0, cellk (HB0.out.trans (hb.mono HB0.out.size)) lq3 x1⟩, ⟨cellk (HB0.out.trans (hb.mono HB0.out.size)) l11 a0, cellk (HB0.out.trans (hb.mono HB0.out.size)) l11 a1⟩, cellk (HB0.out.trans (hb.mono HB0.out.size)) l12 b0, cellk (HB0.out.trans (hb.mono HB0.out.size)) l12 b1⟩ (fun hHeldN => ?_)
          clear hK K
          try simp only [Act.put, pB, pC, pD]
          refine listedEq (l' := #[true, true, true, true, true, true, true, true, true, true, false, false, true, true, true, true, true, false, true, true, true, false, false, false, false]) (by kernel_rfl) ?_
          have h := h_5 W.heap.size (W.alloc (.cells #[.int .i64 t, .int .i64 (M j), .int .i64 (L j - t), .int .i64 (M j)] 83)) (Lib.hid (HB0.out.trans (hb.mono HB0.out.size))) K_HG5 ⟨hWW, by omega⟩
          rw [hG] at h
          simp only [Act.put, pB, pC, pD] at h
          exact h
        refine coH 17 (oi := ?_) ?_ ?_ (fun K hK => ?_) ?_; rotate_left; (simp only [gA, gB, gC]; exact rfl); rfl
        · go_wp2_with (fail)
          have hb : Below W.heap.size W (W.alloc (.cells #[.int .i64 (M j)] 3)) := (Below.refl _ _).alloc (Nat.le_refl _) _
          have hgs : (W.alloc (.cells #[.int .i64 (M j)] 3)).heap.size = W.heap.size + 1 := by simp
          have K_HG17 := Lib.hid (heap_alloc_new W (.cells #[.int .i64 (M j)] 3))
          refine hK.out _ _ ⟨⟨cellk (HB0.out.trans (hb.mono HB0.out.size)) lq3 x0, cellk (HB0.out.trans (hb.mono HB0.out.size)) lq3 x1⟩, ⟨cellk (HB0.out.trans (hb.mono HB0.out.size)) l11 a0, cellk (HB0.out.trans (hb.mono HB0.out.size)) l11 a1⟩, cellk (HB0.out.trans (hb.mono HB0.out.size)) l12 b0, cellk (HB0.out.trans (hb.mono HB0.out.size)) l12 b1⟩ (fun hHeldN => ?_)
          clear hK K
          try simp only [Act.put, pB, pC, pD]
          refine listedEq (l' := #[true, true, true, true, true, false, true, true, true, true, false, false, true, true, true, true, true, true, true, true, true, false, false, false, false]) (by kernel_rfl) ?_
          have h := h_17 W.heap.size (W.alloc (.cells #[.int .i64 (M j)] 3)) (Lib.hid (HB0.out.trans (hb.mono HB0.out.size))) K_HG17 ⟨hWW, by omega⟩
          rw [hG] at h
          simp only [Act.put, pB, pC, pD] at h
          exact h
        exact AllReadyH.nil
      exact h_0 w3.drew (Lib.hid (Below.next_drew (Below.refl _ w3)))
    intro g5 g10 a11 c11 g17 g21 a22 c22 W HB0 hl5 hl10 hl17 hl21 ne5_10 ne5_17 ne5_21 ne10_17 ne10_21 ne17_21 HR11 HR22
    subst hA
    rw [hG]
    simp only [Act.put, pB, pC, pD]
    have hHeld := (show (W.cell? ⟨q10, 0, none⟩ = some (.int .i64 (L j)) ∧ W.cell? ⟨q10, 1, none⟩ = some (.int .i64 (M j))) ∧ (W.cell? ⟨g11, 0, none⟩ = some (.int .i64 t) ∧ W.cell? ⟨g11, 1, none⟩ = some (.int .i64 (M j))) ∧ W.cell? ⟨g12, 0, none⟩ = some (.int .i64 (L j - t)) ∧ W.cell? ⟨g12, 1, none⟩ = some (.int .i64 (M j)) from ⟨⟨cellk HB0.out lq3 x0, cellk HB0.out lq3 x1⟩, ⟨cellk HB0.out l11 a0, cellk HB0.out l11 a1⟩, cellk HB0.out l12 b0, cellk HB0.out l12 b1⟩)
    refine tkH (by assumption) 23 (oi := ?_) (v := ?_) ?_ ?_ ?_ ?_ ?_ ?_ ?_ ?_; rotate_left 2; (simp only [gA, gB, gC]; exact rfl); kernel_rfl; kernel_rfl; kernel_rfl; exact fun _ _ _ h => h; rfl; (intro w' hSw; (obtain ⟨⟨j0, j1⟩, ⟨j2, j3⟩, j4, j5⟩ := hSw);go_simp; with_reducible rfl); simp only [Act.put, pB, pC, pD]
    refine tkH (by assumption) 24 (oi := ?_) (v := ?_) ?_ ?_ ?_ ?_ ?_ ?_ ?_ ?_; rotate_left 2; (simp only [gA, gB, gC]; exact rfl); kernel_rfl; kernel_rfl; kernel_rfl; exact fun _ _ _ h => h; rfl; (intro w' hSw; (obtain ⟨⟨j0, j1⟩, ⟨j2, j3⟩, j4, j5⟩ := hSw);go_simp; with_reducible rfl); simp only [Act.put, pB, pC, pD]
    refine wpAnyH_done (by kernel_rfl) ?_ _
    have hb9 := HB3.out.trans (HB0.out.mono HB3.out.size)
    go_wp2_with (fail)
    exact bodyPost_ret (v := .tuple #[.slice a11 (n + 1) c11, .slice a22 (m + 1) c22]) (by simp [results, Try.results59, go_sem]) rfl ⟨_, _, _, _, rfl, own_lowU HR11.out HB3.out.size, own_lowU HR22.out HB3.out.size, hb9⟩
end Go.Proofs.Ytdanlnmdkneepaa

/- Cells compared; errors of two cells. -/
import Derived.Test.YtllagjncibfcmaaGreatDoorKq
import Derived.Test.YtllagjncibfcmaaGreatDoorKj
set_option linter.unusedSimpArgs false
set_option linter.unusedVariables false
namespace Go.Proofs.YtllagjncibfcmaaGreatDoor
open Go.RowKit

theorem steps_any (s x y : Int) (a : Option Addr) (n c : Nat) (s' x' y' : Int) (a' : Option Addr) (n' c' : Nat) (w : World) :
    Calls Tryz.prog 21 #[.agg #[.int .i64 s, .int .i64 x, .int .i64 y, .slice a n c], .agg #[.int .i64 s', .int .i64 x', .int .i64 y', .slice a' n' c']] w fun e w' => e = .returned (.int .i64 (if s ≠ s' then 3 else 0)) ∧ Below w.heap.size w w' := by
  by_cases h : s = s'
  · subst h
    rw [if_neg (by simp)]
    go_enter Tryz.func21, Tryz.ntmps21
    go_wp2
    go_ret
    exact ⟨rfl, (by repeat (first | exact Below.refl _ _ | assumption | refine Below.drew ?_ | refine bdrewN ?_ _ | refine Below.setCell ?_ (by first | omega | (simp <;> omega)) _ | refine Below.alloc ?_ (by first | omega | (simp <;> omega)) _))⟩
  · rw [if_pos h]
    have h1 : (s != s') = true := by simpa using h
    go_enter Tryz.func21, Tryz.ntmps21
    go_wp2
    go_ret
    exact ⟨rfl, (by repeat (first | exact Below.refl _ _ | assumption | refine Below.drew ?_ | refine bdrewN ?_ _ | refine Below.setCell ?_ (by first | omega | (simp <;> omega)) _ | refine Below.alloc ?_ (by first | omega | (simp <;> omega)) _))⟩
def or3E (p q r : Int) : Int := if p ≠ 0 then p else if q ≠ 0 then q else r
theorem or3_any (b c : Nat) (p q r : Int) (w : World) (h0 : w.cell? ⟨b, 0, none⟩ = some (.int .i64 p)) (h1 : w.cell? ⟨b, 1, none⟩ = some (.int .i64 q)) (h2 : w.cell? ⟨b, 2, none⟩ = some (.int .i64 r)) :
    Calls Tryz.prog 19 #[.slice (some ⟨b, 0, none⟩) 3 c] w fun e w' => e = .returned (.int .i64 (or3E p q r)) ∧ w' = w := by
  obtain ⟨E, hE⟩ : ∃ E, or3E p q r = E := ⟨_, rfl⟩
  rw [hE]
  have HE := Lib.hid hE
  clear hE
  go_enter Tryz.func19, Tryz.ntmps19
  go_wp2_with (fail)
  refine wp_loop_rounds 4 ?_
  rw [rounds_succ]
  by_cases e0 : p = 0
  · subst e0
    go_wp2_with (fail)
    rw [rounds_succ]
    by_cases e1 : q = 0
    · subst e1
      go_wp2_with (fail)
      rw [rounds_succ]
      by_cases e2 : r = 0
      · subst e2
        have g : E = 0 := by rw [← HE.out]; simp [or3E]
        subst g
        go_wp2_with (fail)
        rw [rounds_succ]
        go_wp2_with (fail)
        go_ret
        exact ⟨rfl, rfl⟩
      · have g : E = r := by rw [← HE.out]; simp [or3E]
        subst g
        have hb : (E != 0) = true := by simpa using e2
        go_wp2_with (fail)
        go_ret
        exact ⟨rfl, rfl⟩
    · have g : E = q := by rw [← HE.out]; simp [or3E, e1]
      subst g
      have hb : (E != 0) = true := by simpa using e1
      go_wp2_with (fail)
      go_ret
      exact ⟨rfl, rfl⟩
  · have g : E = p := by rw [← HE.out]; simp [or3E, e0]
    subst g
    have hb : (E != 0) = true := by simpa using e0
    go_wp2_with (fail)
    go_ret
    exact ⟨rfl, rfl⟩
theorem eqs_any (a a' : Option Addr) (n c c' : Nat) (R R' : Nat → List UInt8) (w : World) (hr : RowS w a n R) (hr' : RowS w a' n R') (hR : ∀ i, i < n → R i = R' i) (hn : n ≤ 1000000) :
    Calls Tryz.prog 41 #[.slice a n c, .slice a' n c'] w fun e w' => e = .returned (.bool true) ∧ ∃ q, w' = w.drewN q := by
  by_cases h0 : n = 0
  · subst h0
    refine (Go.Proofs.Tryz.slices_Equal_string_empty a a' c 0 c' w (by omega)).mono ?_
    rintro e w' ⟨rfl, rfl⟩
    exact ⟨rfl, 0, rfl⟩
  · rcases hr with h | ⟨b, off, rfl, hb, hs⟩
    · exact absurd h h0
    rcases hr' with h | ⟨b', off', rfl, hb', hs'⟩
    · exact absurd h h0
    refine (Go.Proofs.Tryz.slices_Equal_string b off n c b' off' n c' ((List.range n).map fun i => ⟨(R i).toArray⟩) ((List.range n).map fun i => ⟨(R i).toArray⟩) w (by simp) (by simp) (by omega) (by omega) ?_ ?_).mono ?_
    · intro j hj
      simp at hj
      rw [hs j hj]
      simp [hj]
    · intro j hj
      simp at hj
      rw [hs' j hj]
      simp [hj, hR j hj]
    · rintro e w' ⟨rfl, q, rfl⟩
      exact ⟨by simp, q, rfl⟩
theorem sameCells_any (s x y : Int) (a a' : Option Addr) (n c c' : Nat) (R R' : Nat → List UInt8) (w : World) (hr : RowS w a n R) (hr' : RowS w a' n R') (hR : ∀ i, i < n → R i = R' i) (hn : n ≤ 1000000) :
    Calls Tryz.prog 23 #[.agg #[.int .i64 s, .int .i64 x, .int .i64 y, .slice a n c], .agg #[.int .i64 s, .int .i64 x, .int .i64 y, .slice a' n c']] w fun e w' => e = .returned (.bool true) ∧ Below w.heap.size w w' := by
  have HR := Lib.hid hr
  have HR' := Lib.hid hr'
  have HE := Lib.hid hR
  clear hr hr' hR
  go_enter Tryz.func23, Tryz.ntmps23
  go_wp2_with (fail)
  have HW : Hid (Below w.heap.size w ((w.alloc (.cells #[.int .i64 s, .int .i64 x, .int .i64 y, .slice a n c] 28)).alloc (.cells #[.int .i64 s, .int .i64 x, .int .i64 y, .slice a' n c'] 28))) := Lib.hid (by repeat (first | exact Below.refl _ _ | assumption | refine Below.drew ?_ | refine bdrewN ?_ _ | refine Below.setCell ?_ (by first | omega | (simp <;> omega)) _ | refine Below.alloc ?_ (by first | omega | (simp <;> omega)) _))
  refine (eqs_any a a' n c c' R R' _ (HR.out.kept HW.out) (HR'.out.kept HW.out) HE.out hn).mono ?_
  rintro e w1 ⟨rfl, q, rfl⟩
  have HB := Lib.hid (bdrewN HW.out q)
  go_wp2_with (fail)
  go_ret
  exact ⟨rfl, HB.out⟩
set_option maxRecDepth 100000 in
set_option maxHeartbeats 4000000 in
theorem errUnion_any (s x y : Int) (a : Option Addr) (n c : Nat) (R : Nat → List UInt8) (s' x' y' : Int) (a' : Option Addr) (n' c' : Nat) (R' : Nat → List UInt8) (w : World) (hr : RowS w a n R) (hr' : RowS w a' n' R') (hl : ∀ i, i < n → (R i).length ≤ 1000000) (hn : n ≤ 1000000) (hl' : ∀ i, i < n' → (R' i).length ≤ 1000000) (hn' : n' ≤ 1000000) (h0 : combE s x y n R s' x' y' n' R' ≠ 0) :
    Calls Tryz.prog 8 #[.agg #[.int .i64 s, .int .i64 x, .int .i64 y, .slice a n c], .agg #[.int .i64 s', .int .i64 x', .int .i64 y', .slice a' n' c']] w fun e w' => e = .returned (.tuple #[.agg #[.int .i64 0, .int .i64 0, .int .i64 0, .slice none 0 0], .int .i64 (combE s x y n R s' x' y' n' R')]) ∧ Below w.heap.size w w' := by
  obtain ⟨G, hG⟩ : ∃ G, combE s x y n R s' x' y' n' R' = G := ⟨_, rfl⟩
  rw [hG] at h0 ⊢
  have HG := Lib.hid hG
  have HRa := Lib.hid hr
  have HRb := Lib.hid hr'
  have HLa := Lib.hid hl
  have HLb := Lib.hid hl'
  have h1 : (G != 0) = true := by simpa using h0
  clear hr hr' hG hl hl'
  go_enter Tryz.func8, Tryz.ntmps8
  go_wp2_with (fail)
  have HW : Hid (Below w.heap.size w (((w.alloc (.cells #[.int .i64 s, .int .i64 x, .int .i64 y, .slice a n c] 28)).alloc (.cells #[.int .i64 s', .int .i64 x', .int .i64 y', .slice a' n' c'] 28)).alloc (.cells #[.int .i64 0, .int .i64 0, .int .i64 0, .slice none 0 0] 28))) := Lib.hid (by repeat (first | exact Below.refl _ _ | assumption | refine Below.drew ?_ | refine bdrewN ?_ _ | refine Below.setCell ?_ (by first | omega | (simp <;> omega)) _ | refine Below.alloc ?_ (by first | omega | (simp <;> omega)) _))
  have HZ : Hid ((((w.alloc (.cells #[.int .i64 s, .int .i64 x, .int .i64 y, .slice a n c] 28)).alloc (.cells #[.int .i64 s', .int .i64 x', .int .i64 y', .slice a' n' c'] 28)).alloc (.cells #[.int .i64 0, .int .i64 0, .int .i64 0, .slice none 0 0] 28)).heap[w.heap.size + 1 + 1]? = some (.cells #[.int .i64 0, .int .i64 0, .int .i64 0, .slice none 0 0] 28 (0, 0))) := Lib.hid (by repeat (first | (refine heap_new ?_; first | rfl | (simp; done)) | rw [Below.heap_alloc _ _ _ (by simp <;> omega)]))
  generalize (((w.alloc (.cells #[.int .i64 s, .int .i64 x, .int .i64 y, .slice a n c] 28)).alloc (.cells #[.int .i64 s', .int .i64 x', .int .i64 y', .slice a' n' c'] 28)).alloc (.cells #[.int .i64 0, .int .i64 0, .int .i64 0, .slice none 0 0] 28)) = v0 at *
  refine (checkBoth_any s x y a n c R s' x' y' a' n' c' R' _ (HRa.out.kept HW.out) HLa.out hn (HRb.out.kept HW.out) HLb.out hn').mono ?_
  rintro e w0 ⟨rfl, hb⟩
  rw [HG.out]
  have hz := heap_keep hb HZ.out
  have HB := Lib.hid (HW.out.trans (hb.mono HW.out.size))
  have z0 : w0.cell? ⟨w.heap.size + 1 + 1, 0, none⟩ = some (.int .i64 0) := cell_of hz rfl
  have zf0 : w0.frozen? ⟨w.heap.size + 1 + 1, 0, none⟩ = false := frozen_of hz
  have z1 : w0.cell? ⟨w.heap.size + 1 + 1, 1, none⟩ = some (.int .i64 0) := cell_of hz rfl
  have zf1 : w0.frozen? ⟨w.heap.size + 1 + 1, 1, none⟩ = false := frozen_of hz
  have z2 : w0.cell? ⟨w.heap.size + 1 + 1, 2, none⟩ = some (.int .i64 0) := cell_of hz rfl
  have zf2 : w0.frozen? ⟨w.heap.size + 1 + 1, 2, none⟩ = false := frozen_of hz
  have z3 : w0.cell? ⟨w.heap.size + 1 + 1, 3, none⟩ = some (.slice none 0 0) := cell_of hz rfl
  have zf3 : w0.frozen? ⟨w.heap.size + 1 + 1, 3, none⟩ = false := frozen_of hz
  clear hb hz
  go_wp2_with (fail)
  obtain ⟨r0, r1, r2, r3⟩ := set4 (w := w0) (R := w.heap.size + 1 + 1) (x0 := (.int .i64 0)) (x1 := (.int .i64 0)) (x2 := (.int .i64 0)) (x3 := (.slice none 0 0)) (is4 (is_some z0) (is_some z1) (is_some z2) (is_some z3)) rfl
  have HF : Hid (Below w.heap.size w ((((w0.setCell ⟨w.heap.size + 1 + 1, 0, none⟩ (.int .i64 0)).setCell ⟨w.heap.size + 1 + 1, 1, none⟩ (.int .i64 0)).setCell ⟨w.heap.size + 1 + 1, 2, none⟩ (.int .i64 0)).setCell ⟨w.heap.size + 1 + 1, 3, none⟩ (.slice none 0 0))) := Lib.hid ((((HB.out.setCell (by show _ ≤ w.heap.size + 1 + 1; omega) _).setCell (by show _ ≤ w.heap.size + 1 + 1; omega) _).setCell (by show _ ≤ w.heap.size + 1 + 1; omega) _).setCell (by show _ ≤ w.heap.size + 1 + 1; omega) _)
  generalize ((((w0.setCell ⟨w.heap.size + 1 + 1, 0, none⟩ (.int .i64 0)).setCell ⟨w.heap.size + 1 + 1, 1, none⟩ (.int .i64 0)).setCell ⟨w.heap.size + 1 + 1, 2, none⟩ (.int .i64 0)).setCell ⟨w.heap.size + 1 + 1, 3, none⟩ (.slice none 0 0)) = WW at *
  exact bodyPost_ret (v := .tuple #[.agg #[.int .i64 0, .int .i64 0, .int .i64 0, .slice none 0 0], .int .i64 G]) (by simp [results, Tryz.results8, go_sem, r0, r1, r2, r3]) rfl ⟨rfl, HF.out⟩
set_option maxRecDepth 100000 in
set_option maxHeartbeats 4000000 in
theorem errBoth_any (s x y : Int) (a : Option Addr) (n c : Nat) (R : Nat → List UInt8) (s' x' y' : Int) (a' : Option Addr) (n' c' : Nat) (R' : Nat → List UInt8) (w : World) (hr : RowS w a n R) (hr' : RowS w a' n' R') (hl : ∀ i, i < n → (R i).length ≤ 1000000) (hn : n ≤ 1000000) (hl' : ∀ i, i < n' → (R' i).length ≤ 1000000) (hn' : n' ≤ 1000000) (h0 : combE s x y n R s' x' y' n' R' ≠ 0) :
    Calls Tryz.prog 10 #[.agg #[.int .i64 s, .int .i64 x, .int .i64 y, .slice a n c], .agg #[.int .i64 s', .int .i64 x', .int .i64 y', .slice a' n' c']] w fun e w' => e = .returned (.tuple #[.agg #[.int .i64 0, .int .i64 0, .int .i64 0, .slice none 0 0], .int .i64 (combE s x y n R s' x' y' n' R')]) ∧ Below w.heap.size w w' := by
  obtain ⟨G, hG⟩ : ∃ G, combE s x y n R s' x' y' n' R' = G := ⟨_, rfl⟩
  rw [hG] at h0 ⊢
  have HG := Lib.hid hG
  have HRa := Lib.hid hr
  have HRb := Lib.hid hr'
  have HLa := Lib.hid hl
  have HLb := Lib.hid hl'
  have h1 : (G != 0) = true := by simpa using h0
  clear hr hr' hG hl hl'
  go_enter Tryz.func10, Tryz.ntmps10
  go_wp2_with (fail)
  have HW : Hid (Below w.heap.size w (((w.alloc (.cells #[.int .i64 s, .int .i64 x, .int .i64 y, .slice a n c] 28)).alloc (.cells #[.int .i64 s', .int .i64 x', .int .i64 y', .slice a' n' c'] 28)).alloc (.cells #[.int .i64 0, .int .i64 0, .int .i64 0, .slice none 0 0] 28))) := Lib.hid (by repeat (first | exact Below.refl _ _ | assumption | refine Below.drew ?_ | refine bdrewN ?_ _ | refine Below.setCell ?_ (by first | omega | (simp <;> omega)) _ | refine Below.alloc ?_ (by first | omega | (simp <;> omega)) _))
  have HZ : Hid ((((w.alloc (.cells #[.int .i64 s, .int .i64 x, .int .i64 y, .slice a n c] 28)).alloc (.cells #[.int .i64 s', .int .i64 x', .int .i64 y', .slice a' n' c'] 28)).alloc (.cells #[.int .i64 0, .int .i64 0, .int .i64 0, .slice none 0 0] 28)).heap[w.heap.size + 1 + 1]? = some (.cells #[.int .i64 0, .int .i64 0, .int .i64 0, .slice none 0 0] 28 (0, 0))) := Lib.hid (by repeat (first | (refine heap_new ?_; first | rfl | (simp; done)) | rw [Below.heap_alloc _ _ _ (by simp <;> omega)]))
  generalize (((w.alloc (.cells #[.int .i64 s, .int .i64 x, .int .i64 y, .slice a n c] 28)).alloc (.cells #[.int .i64 s', .int .i64 x', .int .i64 y', .slice a' n' c'] 28)).alloc (.cells #[.int .i64 0, .int .i64 0, .int .i64 0, .slice none 0 0] 28)) = v0 at *
  refine (checkBoth_any s x y a n c R s' x' y' a' n' c' R' _ (HRa.out.kept HW.out) HLa.out hn (HRb.out.kept HW.out) HLb.out hn').mono ?_
  rintro e w0 ⟨rfl, hb⟩
  rw [HG.out]
  have hz := heap_keep hb HZ.out
  have HB := Lib.hid (HW.out.trans (hb.mono HW.out.size))
  have z0 : w0.cell? ⟨w.heap.size + 1 + 1, 0, none⟩ = some (.int .i64 0) := cell_of hz rfl
  have zf0 : w0.frozen? ⟨w.heap.size + 1 + 1, 0, none⟩ = false := frozen_of hz
  have z1 : w0.cell? ⟨w.heap.size + 1 + 1, 1, none⟩ = some (.int .i64 0) := cell_of hz rfl
  have zf1 : w0.frozen? ⟨w.heap.size + 1 + 1, 1, none⟩ = false := frozen_of hz
  have z2 : w0.cell? ⟨w.heap.size + 1 + 1, 2, none⟩ = some (.int .i64 0) := cell_of hz rfl
  have zf2 : w0.frozen? ⟨w.heap.size + 1 + 1, 2, none⟩ = false := frozen_of hz
  have z3 : w0.cell? ⟨w.heap.size + 1 + 1, 3, none⟩ = some (.slice none 0 0) := cell_of hz rfl
  have zf3 : w0.frozen? ⟨w.heap.size + 1 + 1, 3, none⟩ = false := frozen_of hz
  clear hb hz
  go_wp2_with (fail)
  obtain ⟨r0, r1, r2, r3⟩ := set4 (w := w0) (R := w.heap.size + 1 + 1) (x0 := (.int .i64 0)) (x1 := (.int .i64 0)) (x2 := (.int .i64 0)) (x3 := (.slice none 0 0)) (is4 (is_some z0) (is_some z1) (is_some z2) (is_some z3)) rfl
  have HF : Hid (Below w.heap.size w ((((w0.setCell ⟨w.heap.size + 1 + 1, 0, none⟩ (.int .i64 0)).setCell ⟨w.heap.size + 1 + 1, 1, none⟩ (.int .i64 0)).setCell ⟨w.heap.size + 1 + 1, 2, none⟩ (.int .i64 0)).setCell ⟨w.heap.size + 1 + 1, 3, none⟩ (.slice none 0 0))) := Lib.hid ((((HB.out.setCell (by show _ ≤ w.heap.size + 1 + 1; omega) _).setCell (by show _ ≤ w.heap.size + 1 + 1; omega) _).setCell (by show _ ≤ w.heap.size + 1 + 1; omega) _).setCell (by show _ ≤ w.heap.size + 1 + 1; omega) _)
  generalize ((((w0.setCell ⟨w.heap.size + 1 + 1, 0, none⟩ (.int .i64 0)).setCell ⟨w.heap.size + 1 + 1, 1, none⟩ (.int .i64 0)).setCell ⟨w.heap.size + 1 + 1, 2, none⟩ (.int .i64 0)).setCell ⟨w.heap.size + 1 + 1, 3, none⟩ (.slice none 0 0)) = WW at *
  exact bodyPost_ret (v := .tuple #[.agg #[.int .i64 0, .int .i64 0, .int .i64 0, .slice none 0 0], .int .i64 G]) (by simp [results, Tryz.results10, go_sem, r0, r1, r2, r3]) rfl ⟨rfl, HF.out⟩
set_option maxRecDepth 100000 in
set_option maxHeartbeats 4000000 in
theorem errMinus_any (s x y : Int) (a : Option Addr) (n c : Nat) (R : Nat → List UInt8) (s' x' y' : Int) (a' : Option Addr) (n' c' : Nat) (R' : Nat → List UInt8) (w : World) (hr : RowS w a n R) (hr' : RowS w a' n' R') (hl : ∀ i, i < n → (R i).length ≤ 1000000) (hn : n ≤ 1000000) (hl' : ∀ i, i < n' → (R' i).length ≤ 1000000) (hn' : n' ≤ 1000000) (h0 : combE s x y n R s' x' y' n' R' ≠ 0) :
    Calls Tryz.prog 12 #[.agg #[.int .i64 s, .int .i64 x, .int .i64 y, .slice a n c], .agg #[.int .i64 s', .int .i64 x', .int .i64 y', .slice a' n' c']] w fun e w' => e = .returned (.tuple #[.agg #[.int .i64 0, .int .i64 0, .int .i64 0, .slice none 0 0], .int .i64 (combE s x y n R s' x' y' n' R')]) ∧ Below w.heap.size w w' := by
  obtain ⟨G, hG⟩ : ∃ G, combE s x y n R s' x' y' n' R' = G := ⟨_, rfl⟩
  rw [hG] at h0 ⊢
  have HG := Lib.hid hG
  have HRa := Lib.hid hr
  have HRb := Lib.hid hr'
  have HLa := Lib.hid hl
  have HLb := Lib.hid hl'
  have h1 : (G != 0) = true := by simpa using h0
  clear hr hr' hG hl hl'
  go_enter Tryz.func12, Tryz.ntmps12
  go_wp2_with (fail)
  have HW : Hid (Below w.heap.size w (((w.alloc (.cells #[.int .i64 s, .int .i64 x, .int .i64 y, .slice a n c] 28)).alloc (.cells #[.int .i64 s', .int .i64 x', .int .i64 y', .slice a' n' c'] 28)).alloc (.cells #[.int .i64 0, .int .i64 0, .int .i64 0, .slice none 0 0] 28))) := Lib.hid (by repeat (first | exact Below.refl _ _ | assumption | refine Below.drew ?_ | refine bdrewN ?_ _ | refine Below.setCell ?_ (by first | omega | (simp <;> omega)) _ | refine Below.alloc ?_ (by first | omega | (simp <;> omega)) _))
  have HZ : Hid ((((w.alloc (.cells #[.int .i64 s, .int .i64 x, .int .i64 y, .slice a n c] 28)).alloc (.cells #[.int .i64 s', .int .i64 x', .int .i64 y', .slice a' n' c'] 28)).alloc (.cells #[.int .i64 0, .int .i64 0, .int .i64 0, .slice none 0 0] 28)).heap[w.heap.size + 1 + 1]? = some (.cells #[.int .i64 0, .int .i64 0, .int .i64 0, .slice none 0 0] 28 (0, 0))) := Lib.hid (by repeat (first | (refine heap_new ?_; first | rfl | (simp; done)) | rw [Below.heap_alloc _ _ _ (by simp <;> omega)]))
  generalize (((w.alloc (.cells #[.int .i64 s, .int .i64 x, .int .i64 y, .slice a n c] 28)).alloc (.cells #[.int .i64 s', .int .i64 x', .int .i64 y', .slice a' n' c'] 28)).alloc (.cells #[.int .i64 0, .int .i64 0, .int .i64 0, .slice none 0 0] 28)) = v0 at *
  refine (checkBoth_any s x y a n c R s' x' y' a' n' c' R' _ (HRa.out.kept HW.out) HLa.out hn (HRb.out.kept HW.out) HLb.out hn').mono ?_
  rintro e w0 ⟨rfl, hb⟩
  rw [HG.out]
  have hz := heap_keep hb HZ.out
  have HB := Lib.hid (HW.out.trans (hb.mono HW.out.size))
  have z0 : w0.cell? ⟨w.heap.size + 1 + 1, 0, none⟩ = some (.int .i64 0) := cell_of hz rfl
  have zf0 : w0.frozen? ⟨w.heap.size + 1 + 1, 0, none⟩ = false := frozen_of hz
  have z1 : w0.cell? ⟨w.heap.size + 1 + 1, 1, none⟩ = some (.int .i64 0) := cell_of hz rfl
  have zf1 : w0.frozen? ⟨w.heap.size + 1 + 1, 1, none⟩ = false := frozen_of hz
  have z2 : w0.cell? ⟨w.heap.size + 1 + 1, 2, none⟩ = some (.int .i64 0) := cell_of hz rfl
  have zf2 : w0.frozen? ⟨w.heap.size + 1 + 1, 2, none⟩ = false := frozen_of hz
  have z3 : w0.cell? ⟨w.heap.size + 1 + 1, 3, none⟩ = some (.slice none 0 0) := cell_of hz rfl
  have zf3 : w0.frozen? ⟨w.heap.size + 1 + 1, 3, none⟩ = false := frozen_of hz
  clear hb hz
  go_wp2_with (fail)
  obtain ⟨r0, r1, r2, r3⟩ := set4 (w := w0) (R := w.heap.size + 1 + 1) (x0 := (.int .i64 0)) (x1 := (.int .i64 0)) (x2 := (.int .i64 0)) (x3 := (.slice none 0 0)) (is4 (is_some z0) (is_some z1) (is_some z2) (is_some z3)) rfl
  have HF : Hid (Below w.heap.size w ((((w0.setCell ⟨w.heap.size + 1 + 1, 0, none⟩ (.int .i64 0)).setCell ⟨w.heap.size + 1 + 1, 1, none⟩ (.int .i64 0)).setCell ⟨w.heap.size + 1 + 1, 2, none⟩ (.int .i64 0)).setCell ⟨w.heap.size + 1 + 1, 3, none⟩ (.slice none 0 0))) := Lib.hid ((((HB.out.setCell (by show _ ≤ w.heap.size + 1 + 1; omega) _).setCell (by show _ ≤ w.heap.size + 1 + 1; omega) _).setCell (by show _ ≤ w.heap.size + 1 + 1; omega) _).setCell (by show _ ≤ w.heap.size + 1 + 1; omega) _)
  generalize ((((w0.setCell ⟨w.heap.size + 1 + 1, 0, none⟩ (.int .i64 0)).setCell ⟨w.heap.size + 1 + 1, 1, none⟩ (.int .i64 0)).setCell ⟨w.heap.size + 1 + 1, 2, none⟩ (.int .i64 0)).setCell ⟨w.heap.size + 1 + 1, 3, none⟩ (.slice none 0 0)) = WW at *
  exact bodyPost_ret (v := .tuple #[.agg #[.int .i64 0, .int .i64 0, .int .i64 0, .slice none 0 0], .int .i64 G]) (by simp [results, Tryz.results12, go_sem, r0, r1, r2, r3]) rfl ⟨rfl, HF.out⟩
end Go.Proofs.YtllagjncibfcmaaGreatDoor

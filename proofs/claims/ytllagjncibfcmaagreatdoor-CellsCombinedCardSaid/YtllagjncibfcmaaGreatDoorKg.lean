/- Two cells, checked. -/
import Derived.Test.YtllagjncibfcmaaGreatDoorKf
set_option linter.unusedSimpArgs false
set_option linter.unusedVariables false
namespace Go.Proofs.YtllagjncibfcmaaGreatDoor
open Go.RowKit

def combE (s x y : Int) (n : Nat) (R : Nat → List UInt8) (s' x' y' : Int) (n' : Nat) (R' : Nat → List UInt8) : Int :=
  if cellsE s x y n R ≠ 0 then cellsE s x y n R else if cellsE s' x' y' n' R' ≠ 0 then cellsE s' x' y' n' R' else if s ≠ s' then 3 else 0
theorem checkC_any (s x y : Int) (a : Option Addr) (n c : Nat) (R : Nat → List UInt8) (w : World) (hr : RowS w a n R) (hl : ∀ i, i < n → (R i).length ≤ 1000000) (hn : n ≤ 1000000) :
    Calls Tryz.prog 42 #[.agg #[.int .i64 s, .int .i64 x, .int .i64 y, .slice a n c]] w fun e w' => e = .returned (.int .i64 (cellsE s x y n R)) ∧ Below w.heap.size w w' := by
  have HR := Lib.hid hr
  have HL := Lib.hid hl
  obtain ⟨E, hE⟩ : ∃ E, cellsE s x y n R = E := ⟨_, rfl⟩
  rw [hE]
  have HE := Lib.hid hE
  clear hr hl hE
  go_enter Tryz.func42, Tryz.ntmps42
  go_wp2_with (fail)
  have HW : Hid (Below w.heap.size w (w.alloc (.cells #[.int .i64 s, .int .i64 x, .int .i64 y, .slice a n c] 28))) := Lib.hid (by repeat (first | exact Below.refl _ _ | assumption | refine Below.drew ?_ | refine bdrewN ?_ _ | refine Below.setCell ?_ (by first | omega | (simp <;> omega)) _ | refine Below.alloc ?_ (by first | omega | (simp <;> omega)) _))
  refine (checkCells_any s x y a n c R _ (HR.out.kept HW.out) HL.out hn).mono ?_
  rintro e w1 ⟨rfl, hb1⟩
  rw [HE.out]
  have HB := Lib.hid (HW.out.trans (hb1.mono HW.out.size))
  clear hb1
  go_wp2_with (fail)
  go_ret
  exact ⟨rfl, HB.out⟩
set_option maxRecDepth 100000 in
set_option maxHeartbeats 8000000 in
theorem checkBoth_any (s x y : Int) (a : Option Addr) (n c : Nat) (R : Nat → List UInt8) (s' x' y' : Int) (a' : Option Addr) (n' c' : Nat) (R' : Nat → List UInt8) (w : World) (hr : RowS w a n R) (hl : ∀ i, i < n → (R i).length ≤ 1000000) (hn : n ≤ 1000000) (hr' : RowS w a' n' R') (hl' : ∀ i, i < n' → (R' i).length ≤ 1000000) (hn' : n' ≤ 1000000) :
    Calls Tryz.prog 24 #[.agg #[.int .i64 s, .int .i64 x, .int .i64 y, .slice a n c], .agg #[.int .i64 s', .int .i64 x', .int .i64 y', .slice a' n' c']] w fun e w' => e = .returned (.int .i64 (combE s x y n R s' x' y' n' R')) ∧ Below w.heap.size w w' := by
  have HR := Lib.hid hr
  have HL := Lib.hid hl
  have HR' := Lib.hid hr'
  have HL' := Lib.hid hl'
  obtain ⟨E, hE⟩ : ∃ E, cellsE s x y n R = E := ⟨_, rfl⟩
  obtain ⟨F, hF⟩ : ∃ E, cellsE s' x' y' n' R' = E := ⟨_, rfl⟩
  have HE := Lib.hid hE
  have HF := Lib.hid hF
  obtain ⟨G, hG⟩ : ∃ G, combE s x y n R s' x' y' n' R' = G := ⟨_, rfl⟩
  rw [hG]
  have HG : Hid ((if E ≠ 0 then E else if F ≠ 0 then F else if s ≠ s' then 3 else 0) = G) := Lib.hid (by rw [← hG, ← hE, ← hF]; rfl)
  clear hr hl hr' hl' hE hF hG
  go_enter Tryz.func24, Tryz.ntmps24
  go_wp2_with (fail)
  refine wp_loop_rounds 3 ?_
  rw [rounds_succ]
  go_wp2_with (fail)
  have HW : Hid (Below w.heap.size w ((((w.alloc (.cells #[.int .i64 s, .int .i64 x, .int .i64 y, .slice a n c] 28)).alloc (.cells #[.int .i64 s', .int .i64 x', .int .i64 y', .slice a' n' c'] 28)).alloc (.cells #[.int .i64 s, .int .i64 x, .int .i64 y, .slice a n c, .int .i64 s', .int .i64 x', .int .i64 y', .slice a' n' c'] 28)).alloc (.cells #[.int .i64 s, .int .i64 x, .int .i64 y, .slice a n c] 28))) := Lib.hid (by repeat (first | exact Below.refl _ _ | assumption | refine Below.drew ?_ | refine bdrewN ?_ _ | refine Below.setCell ?_ (by first | omega | (simp <;> omega)) _ | refine Below.alloc ?_ (by first | omega | (simp <;> omega)) _))
  have H0 : Hid (((((w.alloc (.cells #[.int .i64 s, .int .i64 x, .int .i64 y, .slice a n c] 28)).alloc (.cells #[.int .i64 s', .int .i64 x', .int .i64 y', .slice a' n' c'] 28)).alloc (.cells #[.int .i64 s, .int .i64 x, .int .i64 y, .slice a n c, .int .i64 s', .int .i64 x', .int .i64 y', .slice a' n' c'] 28)).alloc (.cells #[.int .i64 s, .int .i64 x, .int .i64 y, .slice a n c] 28)).heap[w.heap.size]? = some (.cells #[.int .i64 s, .int .i64 x, .int .i64 y, .slice a n c] 28 (0, 0))) := Lib.hid (by repeat (first | (refine heap_new ?_; first | rfl | (simp; done)) | rw [Below.heap_alloc _ _ _ (by simp <;> omega)]))
  have H1 : Hid (((((w.alloc (.cells #[.int .i64 s, .int .i64 x, .int .i64 y, .slice a n c] 28)).alloc (.cells #[.int .i64 s', .int .i64 x', .int .i64 y', .slice a' n' c'] 28)).alloc (.cells #[.int .i64 s, .int .i64 x, .int .i64 y, .slice a n c, .int .i64 s', .int .i64 x', .int .i64 y', .slice a' n' c'] 28)).alloc (.cells #[.int .i64 s, .int .i64 x, .int .i64 y, .slice a n c] 28)).heap[w.heap.size + 1]? = some (.cells #[.int .i64 s', .int .i64 x', .int .i64 y', .slice a' n' c'] 28 (0, 0))) := Lib.hid (by repeat (first | (refine heap_new ?_; first | rfl | (simp; done)) | rw [Below.heap_alloc _ _ _ (by simp <;> omega)]))
  have H2 : Hid (((((w.alloc (.cells #[.int .i64 s, .int .i64 x, .int .i64 y, .slice a n c] 28)).alloc (.cells #[.int .i64 s', .int .i64 x', .int .i64 y', .slice a' n' c'] 28)).alloc (.cells #[.int .i64 s, .int .i64 x, .int .i64 y, .slice a n c, .int .i64 s', .int .i64 x', .int .i64 y', .slice a' n' c'] 28)).alloc (.cells #[.int .i64 s, .int .i64 x, .int .i64 y, .slice a n c] 28)).heap[w.heap.size + 1 + 1]? = some (.cells #[.int .i64 s, .int .i64 x, .int .i64 y, .slice a n c, .int .i64 s', .int .i64 x', .int .i64 y', .slice a' n' c'] 28 (0, 0))) := Lib.hid (by repeat (first | (refine heap_new ?_; first | rfl | (simp; done)) | rw [Below.heap_alloc _ _ _ (by simp <;> omega)]))
  generalize ((((w.alloc (.cells #[.int .i64 s, .int .i64 x, .int .i64 y, .slice a n c] 28)).alloc (.cells #[.int .i64 s', .int .i64 x', .int .i64 y', .slice a' n' c'] 28)).alloc (.cells #[.int .i64 s, .int .i64 x, .int .i64 y, .slice a n c, .int .i64 s', .int .i64 x', .int .i64 y', .slice a' n' c'] 28)).alloc (.cells #[.int .i64 s, .int .i64 x, .int .i64 y, .slice a n c] 28)) = w4 at *
  refine (checkC_any s x y a n c R _ (HR.out.kept HW.out) HL.out hn).mono ?_
  rintro e w5 ⟨rfl, hb5⟩
  rw [HE.out]
  have HB5 := Lib.hid (HW.out.trans (hb5.mono HW.out.size))
  have h0 := heap_keep hb5 H0.out
  have h1 := heap_keep hb5 H1.out
  have h2 := heap_keep hb5 H2.out
  have HH0 := Lib.hid h0
  have HH1 := Lib.hid h1
  have k0 : w5.cell? ⟨w.heap.size + 1 + 1, 0, none⟩ = some (.int .i64 s) := cell_of h2 rfl
  have k1 : w5.cell? ⟨w.heap.size + 1 + 1, 1, none⟩ = some (.int .i64 x) := cell_of h2 rfl
  have k2 : w5.cell? ⟨w.heap.size + 1 + 1, 2, none⟩ = some (.int .i64 y) := cell_of h2 rfl
  have k3 : w5.cell? ⟨w.heap.size + 1 + 1, 3, none⟩ = some (.slice a n c) := cell_of h2 rfl
  have k4 : w5.cell? ⟨w.heap.size + 1 + 1, 4, none⟩ = some (.int .i64 s') := cell_of h2 rfl
  have k5 : w5.cell? ⟨w.heap.size + 1 + 1, 5, none⟩ = some (.int .i64 x') := cell_of h2 rfl
  have k6 : w5.cell? ⟨w.heap.size + 1 + 1, 6, none⟩ = some (.int .i64 y') := cell_of h2 rfl
  have k7 : w5.cell? ⟨w.heap.size + 1 + 1, 7, none⟩ = some (.slice a' n' c') := cell_of h2 rfl
  have lz := HB5.out.size
  clear hb5 h0 h1 h2
  by_cases hE0 : E = 0
  · subst hE0
    go_wp2_with (fail)
    rw [rounds_succ]
    go_wp2_with (fail)
    have HW6 : Hid (Below w5.heap.size w5 (w5.alloc (.cells #[.int .i64 s', .int .i64 x', .int .i64 y', .slice a' n' c'] 28))) := Lib.hid ((Below.refl _ _).alloc (Nat.le_refl _) _)
    generalize (w5.alloc (.cells #[.int .i64 s', .int .i64 x', .int .i64 y', .slice a' n' c'] 28)) = w6 at *
    refine (checkC_any s' x' y' a' n' c' R' _ (HR'.out.kept (HB5.out.trans (HW6.out.mono lz))) HL'.out hn').mono ?_
    rintro e w7 ⟨rfl, hb7⟩
    rw [HF.out]
    have hb57 := HW6.out.trans (hb7.mono HW6.out.size)
    have HB7 := Lib.hid (HB5.out.trans (hb57.mono lz))
    have j0 : w7.cell? ⟨w.heap.size, 0, none⟩ = some (.int .i64 s) := cell_of (heap_keep hb57 HH0.out) rfl
    have j1 : w7.cell? ⟨w.heap.size + 1, 0, none⟩ = some (.int .i64 s') := cell_of (heap_keep hb57 HH1.out) rfl
    clear hb7 hb57
    by_cases hF0 : F = 0
    · subst hF0
      go_wp2_with (fail)
      rw [rounds_succ]
      by_cases hs : s = s'
      · have g0 : G = 0 := by rw [← HG.out]; simp [hs]
        subst g0 hs
        go_wp2_with (fail)
        go_ret
        exact ⟨rfl, HB7.out⟩
      · have g0 : G = 3 := by rw [← HG.out]; simp [hs]
        subst g0
        have hs1 : (s != s') = true := by simpa using hs
        go_wp2_with (fail)
        go_ret
        exact ⟨rfl, HB7.out⟩
    · have g0 : G = F := by rw [← HG.out]; simp [hF0]
      subst g0
      have hF1 : (G != 0) = true := by simpa using hF0
      go_wp2_with (fail)
      go_ret
      exact ⟨rfl, HB7.out⟩
  · have g0 : G = E := by rw [← HG.out]; simp [hE0]
    subst g0
    have hE1 : (G != 0) = true := by simpa using hE0
    go_wp2_with (fail)
    go_ret
    exact ⟨rfl, HB5.out⟩
end Go.Proofs.YtllagjncibfcmaaGreatDoor

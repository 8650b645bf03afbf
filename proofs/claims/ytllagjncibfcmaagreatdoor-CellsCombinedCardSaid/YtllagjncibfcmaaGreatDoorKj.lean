/- What tells of two cells. -/
import Derived.Test.YtllagjncibfcmaaGreatDoorKi
import Derived.Laws.EntriesVeiled
set_option linter.unusedSimpArgs false
set_option linter.unusedVariables false
namespace Go.Proofs.YtllagjncibfcmaaGreatDoor
open Go.RowKit

theorem set1 {w : World} {b : Nat} {u v : Value} {t : TypeId} (h : w.heap[b]? = some (.cells #[u] t (0, 0))) : (w.setCell ⟨b, 0, none⟩ v).heap[b]? = some (.cells #[v] t (0, 0)) := by
  simp [World.setCell, Array.getElem?_modify, h]
theorem CovV.isfunc {w : World} {f : Value} {cx cy : Int} {n : Nat} {R : Nat → List UInt8} (h : CovV w f cx cy n R) : ∃ B C, f = .func (.func 43) #[] #[.pointer (some ⟨B, 0, none⟩), .pointer (some ⟨C, 0, none⟩)] := by
  obtain ⟨B, C, _, _, _, _, _, _, h1, _⟩ := h
  exact ⟨B, C, h1⟩
theorem CovV.set {w : World} {f v : Value} {cx cy : Int} {n : Nat} {R : Nat → List UInt8} {U : Nat} {t : TypeId} (h : CovV w f cx cy n R) (hU : w.heap[U]? = some (.cells #[.nilFunc] t (0, 0))) : CovV (w.setCell ⟨U, 0, none⟩ v) f cx cy n R := by
  obtain ⟨B, C, s, x, y, a, c, m, h1, h2, h3, h4, h5⟩ := h
  have hB : B ≠ U := fun e => by subst e; rw [h4] at hU; simp at hU
  have hC : C ≠ U := fun e => by subst e; rw [h5] at hU; simp at hU
  refine ⟨B, C, s, x, y, a, c, m, h1, h2, ?_, (Below.heap_setCell _ _ _ _ hB).trans h4, (Below.heap_setCell _ _ _ _ hC).trans h5⟩
  by_cases hn : n = 0
  · exact .inl hn
  refine h3.set _ _ (fun b off ha e => ?_)
  rcases h3 with h3 | ⟨b', off', ha', hb', hs'⟩
  · exact hn h3
  · rw [ha] at ha'
    cases ha'
    have h0 := hs' 0 (by omega)
    have e' : b = U := e
    subst e'
    simp [World.cell?, hU] at h0
    cases off with
    | zero => simp at h0
    | succ k => simp at h0
/-- Two covers, in cells of their own. -/
def TwoE (w0 : World) (cx cy : Int) (n : Nat) (R : Nat → List UInt8) (dx dy : Int) (n' : Nat) (R' : Nat → List UInt8) (s7 s8 : Value) (wx : World) : Prop :=
  ∃ U V, s7 = .pointer (some ⟨U, 0, none⟩) ∧ s8 = .pointer (some ⟨V, 0, none⟩) ∧ PairE wx U V cx cy n R dx dy n' R' ∧ Below w0.heap.size w0 wx
end Go.Proofs.YtllagjncibfcmaaGreatDoor

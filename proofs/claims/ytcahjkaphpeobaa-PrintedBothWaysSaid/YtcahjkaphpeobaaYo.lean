/- EndsOf, PrintedBy and TravelOf of the reference. -/
import Derived.Test.YtcahjkaphpeobaaYn
set_option linter.unusedSimpArgs false
set_option linter.unusedVariables false
namespace Go.Proofs.Ytcahjkaphpeobaa
open Go.RowKit

theorem pr_first {p : Pth} {v : Vis} (h : VFit p v) (Z : Nat → Int) : prX p v Z 0 = Z (enB p v) := by
  obtain ⟨h1, h2, h3, h4⟩ := h
  unfold prX enB
  rcases hk : p.k with _ | _
  · rcases hb : v.b with _ | _
    · simp
    · simp [rv]
  · simp only [if_true]
    have : 0 < p.n - v.s.toNat := by omega
    simp [ap, this]
theorem pr_last {p : Pth} {v : Vis} (h : VFit p v) (Z : Nat → Int) : prX p v Z (prN p - 1) = Z (enE p v) := by
  obtain ⟨h1, h2, h3, h4⟩ := h
  unfold prX enE prN
  rcases hk : p.k with _ | _
  · rcases hb : v.b with _ | _
    · simp
    · simp only [if_true, Bool.false_eq_true, if_false]
      show Z (p.n - 1 - (p.n - 1)) = Z 0
      rw [Nat.sub_self]
  · simp only [if_true]
    have : ¬ p.n + 1 - 1 < p.n - v.s.toNat := by omega
    simp only [ap, if_neg this]
    congr 1
    omega
theorem prN_pos {p : Pth} {v : Vis} (h : VFit p v) : 0 < prN p := by
  obtain ⟨h1, h2, h3, h4⟩ := h
  unfold prN
  split <;> omega
theorem prN_le {p : Pth} (h : p.n ≤ 1000) : prN p ≤ 1001 := by unfold prN; split <;> omega
end Go.Proofs.Ytcahjkaphpeobaa

/- Travel of the program. -/
import Derived.Test.YtcahjkaphpeobaaYq
set_option linter.unusedSimpArgs false
set_option linter.unusedVariables false
namespace Go.Proofs.Ytcahjkaphpeobaa
open Go.RowKit

/-- The error of a tour. -/
def tourE (sx sy : Int) (m : Nat) (P : Nat → Pth) (l : Nat) (V : Nat → Vis) : Int := orE (ptE 1 (fun _ => sx) (fun _ => sy)) (oF m P l V)
theorem one_pt {w : World} {g : Nat} {x y : Int} (h0 : w.cell? ⟨g, 0, none⟩ = some (.int .i64 x)) (h1 : w.cell? ⟨g, 1, none⟩ = some (.int .i64 y)) : PtsR w (some ⟨g, 0, none⟩) 1 (fun _ => x) (fun _ => y) :=
  .inr ⟨g, 0, rfl, cell_lt h0, fun i hi => by obtain rfl : i = 0 := by omega
                                              exact ⟨h0, h1⟩⟩
theorem tour_ok {sx sy : Int} {m : Nat} {P : Nat → Pth} {l : Nat} {V : Nat → Vis} (h : tourE sx sy m P l V = 0) : cI sx ∧ cI sy ∧ l = m ∧ AllFit m P l V := by
  unfold tourE orE at h
  split at h
  · rename_i h0
    unfold ptE at h0
    split at h0
    · rename_i h1
      obtain ⟨g1, g2⟩ := allB_one h1 (k := 0) (by omega)
      obtain ⟨g3, g4⟩ := allFit_of h
      exact ⟨g1, g2, g3, g4⟩
    · cases h0
  · rename_i h0; exact absurd h h0
def trvAns (sx sy : Int) (m : Nat) (P : Nat → Pth) (l : Nat) (V : Nat → Vis) : Int := if tourE sx sy m P l V = 0 then trv sx sy P V l else 0
end Go.Proofs.Ytcahjkaphpeobaa

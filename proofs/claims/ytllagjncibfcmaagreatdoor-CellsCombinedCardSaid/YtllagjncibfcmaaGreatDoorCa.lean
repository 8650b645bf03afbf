/- Cells: steps and rows. -/
import Derived.Test.YtllagjncibfcmaaGreatDoorHold
import Derived.Test.YtllagjncibfcmaaGreatDoorSh
import Derived.Laws.BitsLemmas
set_option linter.unusedSimpArgs false
set_option linter.unusedVariables false
namespace Go.Proofs.YtllagjncibfcmaaGreatDoor
open Go.RowKit

theorem ret_bc {a b : Bool} (h : a = true ↔ b = true) : Ending.returned (.bool a) = .returned (.bool b) := by rw [Bool.eq_iff_iff.2 h]
/-- A step that cells can have. -/
def stB (s : Int) : Bool := decide (2 ≤ s ∧ s ≤ 10000 ∧ s.tmod 2 = 0)
theorem isStep_any (s : Int) (w : World) : Calls Tryz.prog 58 #[.int .i64 s] w fun e w' => e = .returned (.bool (stB s)) ∧ w' = w := by
  by_cases h1 : 2 ≤ s
  · by_cases h2 : s ≤ 10000
    · obtain ⟨m, hm⟩ : ∃ m, s.tmod 2 = m := ⟨_, rfl⟩
      have hr : stB s = (m == 0) := by unfold stB; rw [hm, Bool.eq_iff_iff]; simp [h1, h2]
      rw [hr]
      go_enter Tryz.func58, Tryz.ntmps58
      go_wp2
      go_ret
      exact ⟨rfl, rfl⟩
    · have hr : stB s = false := by simp [stB, h2]
      go_enter Tryz.func58, Tryz.ntmps58
      go_wp2
      go_ret
      exact ⟨by simp [hr], rfl⟩
  · have hr : stB s = false := by simp [stB, h1]
    go_enter Tryz.func58, Tryz.ntmps58
    go_wp2
    go_ret
    exact ⟨by simp [hr], rfl⟩

/-- The bytes of rows. -/
def okR (l : List UInt8) : Bool := l.all fun b => b == 35 || b == 46
theorem dw_nil {p : UInt8 → Bool} : ∀ l : List UInt8, l.dropWhile p = [] ↔ l.all p = true
  | [] => by simp
  | a :: l => by
    by_cases h : p a
    · simp [List.dropWhile, h, dw_nil l]
    · simp [List.dropWhile, h]
theorem dw_head {p : UInt8 → Bool} {a : UInt8} {r : List UInt8} : ∀ l : List UInt8, l.dropWhile p = a :: r → p a = false
  | [], h => by simp at h
  | b :: l, h => by
    by_cases hb : p b
    · simp [List.dropWhile, hb] at h; exact dw_head l h
    · simp [List.dropWhile, hb] at h; rw [← h.1]; simpa using hb
theorem dw_sub {p : UInt8 → Bool} : ∀ l : List UInt8, l.all p = true → l.dropWhile p = [] := fun l => (dw_nil l).2
theorem trim_nil (l : List UInt8) : Lib.trimS l [35, 46] = [] ↔ okR l = true := by
  have hp : ∀ b : UInt8, ([35, 46] : List UInt8).contains b = (b == 35 || b == 46) := fun b => by simp [List.contains, List.elem]; cases b == 35 <;> cases b == 46 <;> rfl
  unfold Lib.trimS Lib.trimLeftS Lib.trimRightS okR
  simp only [hp]
  constructor
  · intro h
    rw [dw_nil, List.all_reverse] at h
    by_cases e : (l.reverse.dropWhile fun b => b == 35 || b == 46) = []
    · rw [dw_nil, List.all_reverse] at e; exact e
    · exfalso
      obtain ⟨a, r, hr⟩ := List.exists_cons_of_ne_nil e
      have h1 := dw_head l.reverse hr
      rw [hr] at h
      simp only [List.all_cons, h1, Bool.false_and] at h
      cases h
  · intro h
    have : (l.reverse.dropWhile fun b => b == 35 || b == 46) = [] := dw_sub _ (by rw [List.all_reverse]; exact h)
    rw [this]
    rfl
theorem trim_any (l : List UInt8) (w : World) (h : l.length ≤ 1000000) : Calls Tryz.prog 53 #[.string ⟨l.toArray⟩, .string ⟨#[35, 46]⟩] w fun e w' => e = .returned (.string ⟨(Lib.trimS l [35, 46]).toArray⟩) ∧ Below w.heap.size w w' :=
  Go.Proofs.Any.strings_Trim_laid Go.Proofs.Tryz.lays160 (by kernel_rfl) ⟨l.toArray⟩ ⟨#[35, 46]⟩ w (by show l.toArray.size ≤ _; simp; omega) (by decide) (Go.Proofs.ascii_of_all (by decide))
end Go.Proofs.YtllagjncibfcmaaGreatDoor

/- The law's own check of its pyramid: true. -/
import Derived.Test.YtpgpjoghfpfhlaaOpen
set_option linter.unusedSimpArgs false
set_option linter.unusedVariables false
namespace Go.Proofs.Ytpgpjoghfpfhlaa
open Go.RowKit Go.Maps

def pyV (i : Nat) : V3 := if i = 1 then ⟨6, 0, 0⟩ else if i = 2 then ⟨0, 6, 0⟩ else if i = 3 then ⟨0, 0, 6⟩ else ⟨0, 0, 0⟩
def pyF (i : Nat) : V3 := if i = 0 then ⟨0, 2, 1⟩ else if i = 1 then ⟨0, 1, 3⟩ else if i = 2 then ⟨1, 2, 3⟩ else ⟨0, 3, 2⟩

theorem py_fault : fault 4 pyV 4 pyF = 0 := by decide +kernel
theorem py_small : Sml 4 pyF := by
  intro i hi
  match i, hi with
  | 0, _ => decide
  | 1, _ => decide
  | 2, _ => decide
  | 3, _ => decide
theorem py_fix : ∀ i, i < 4 → fIx 4 (pyF i) = true := by decide +kernel
theorem py_closed : Closed 4 pyF := by unfold Closed; decide +kernel
theorem py_vol : volS pyV pyF 4 = 216 := by decide +kernel

def PyrPost (w : World) (e : Ending) (w' : World) : Prop :=
  ∃ b1 b2, e = .returned (.agg #[.slice (some ⟨b1, 0, none⟩) 4 4, .slice (some ⟨b2, 0, none⟩) 4 4]) ∧ b1 < w'.heap.size ∧ b2 < w'.heap.size ∧ Tri w' b1 0 4 pyV ∧ Tri w' b2 0 4 pyF ∧ Below w.heap.size w w'

theorem pyramid_any (w : World) : Calls Try.prog 50 #[] w (PyrPost w) := by
  go_enter Try.func50, Try.ntmps50
  go_wp2
  refine bodyPost_ret (v := .agg #[.slice (some ⟨w.heap.size + 1, 0, none⟩) 4 4, .slice (some ⟨w.heap.size + 1 + 1, 0, none⟩) 4 4]) (by simp [results, Try.results50, go_sem]) rfl ⟨w.heap.size + 1, w.heap.size + 1 + 1, rfl, ?_, ?_, ?_, ?_, (by repeat (first | exact Below.refl _ _ | assumption | refine Below.drew ?_ | refine bdrewN ?_ _ | refine Below.setCell ?_ (by first | omega | (simp <;> omega)) _ | refine Below.alloc ?_ (by first | omega | (simp <;> omega)) _))⟩
  · simp
  · simp
  · intro i hi
    match i, hi with
    | 0, _ => simp [go_sem, pyV]
    | 1, _ => simp [go_sem, pyV]
    | 2, _ => simp [go_sem, pyV]
    | 3, _ => simp [go_sem, pyV]
  · intro i hi
    match i, hi with
    | 0, _ => simp [go_sem, pyF]
    | 1, _ => simp [go_sem, pyF]
    | 2, _ => simp [go_sem, pyF]
    | 3, _ => simp [go_sem, pyF]

theorem meshed_any (w : World) : Calls Try.prog 17 #[] w fun e w' => e = .returned (.bool true) ∧ Below w.heap.size w w' := by
  go_enter Try.func17, Try.ntmps17
  go_wp2_with (first
    | (go_at_call 50; refine (pyramid_any _).mono ?_; rintro e w1 ⟨b1, b2, rfl, h1, h2, h3, h4, hb1⟩; have H3 := Lib.hid h3; have H4 := Lib.hid h4; clear h3 h4)
    | (go_at_call 49; refine (volume_closed (some ⟨b1, 0, none⟩) b2 0 4 4 4 4 pyV pyF _ (.inr ⟨b1, 0, rfl, h1, H3.out⟩) h2 H4.out (by omega) (by omega) py_fault py_small py_closed py_fix).mono ?_; rintro e w2 ⟨rfl, hb2⟩; rw [py_vol]))
  go_ret
  exact ⟨rfl, hb1.trans (hb2.mono hb1.size)⟩
end Go.Proofs.Ytpgpjoghfpfhlaa

/- slices.Equal of two lists of the same numbers. -/
import Derived.Test.YtodnkgmalbpdaaaOw
set_option linter.unusedSimpArgs false
set_option linter.unusedVariables false
namespace Go.Proofs.Ytodnkgmalbpdaaa
open Go.RowKit

/-- A list of numbers reads as the first n of Z. -/
def Row1 (w : World) (a : Option Addr) (n : Nat) (Z : Nat → Int) : Prop := n = 0 ∨ ∃ b off, a = some ⟨b, off, none⟩ ∧ b < w.heap.size ∧ ∀ i, i < n → w.cell? ⟨b, off + i, none⟩ = some (.int .i64 (Z i))
set_option maxHeartbeats 1000000 in
theorem equal_any (a b : Option Addr) (n c d : Nat) (Z : Nat → Int) (w : World) (ha : Row1 w a n Z) (hb : Row1 w b n Z) (hn : n ≤ 1000000) :
    Calls Try.prog 35 #[.slice a n c, .slice b n d] w fun e w' => e = .returned (.bool true) ∧ Below w.heap.size w w' := by
  have HA := Lib.hid ha
  have HB := Lib.hid hb
  clear ha hb
  go_enter Try.func35, Try.ntmps35
  go_wp2
  go_loopw [13] (fun i wr => ∃ k : Nat, k ≤ n ∧ i = .int .i64 k ∧ Below w.heap.size w wr) (fun i _ => n - (intOf i).toNat)
  case atStart => exact ⟨0, by omega, rfl, (by repeat (first | exact Below.refl _ _ | assumption | refine Below.drew ?_ | refine bdrewN ?_ _ | refine Below.setCell ?_ (by first | omega | (simp <;> omega)) _ | refine Below.alloc ?_ (by first | omega | (simp <;> omega)) _))⟩
  case round =>
    obtain ⟨k, hk, rfl, hbel⟩ := hrel
    have hsz := hbel.size
    by_cases hlt : k < n
    · rcases HA.out with h | ⟨ba, oa, rfl, hba, ca⟩
      · omega
      rcases HB.out with h | ⟨bb, ob, rfl, hbb, cb⟩
      · omega
      have c1 := cellk hbel hba (ca k hlt)
      have c2 := cellk hbel hbb (cb k hlt)
      have l1 : ba < wr.heap.size := by omega
      have l2 : bb < wr.heap.size := by omega
      clear ca cb
      have HBL := Lib.hid hbel
      clear hbel
      go_wp2
      go_quiet (fail)
      go_wp2
      go_roundw
      case rel => exact ⟨k + 1, by omega, by go_num, bdrewN HBL.out _⟩
      case measure => simp [intOf]; omega
    · obtain rfl : n = k := by omega
      go_wp2
      go_ret
      exact ⟨rfl, hbel⟩
end Go.Proofs.Ytodnkgmalbpdaaa

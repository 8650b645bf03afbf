/- Small checks: spans, the first error, slopes. -/
import Derived.Test.YtmcebhjcaacbpaaMeshed
set_option linter.unusedSimpArgs false
set_option linter.unusedVariables false
namespace Go.Proofs.Ytmcebhjcaacbpaa
open Go.RowKit

def spanE (n lo hi : Int) : Int := if inB n lo hi = true then 0 else 1
/-- cmp.Or of two errors. -/
def orE (a b : Int) : Int := if a = 0 then b else a
/-- Only 1 divides both. -/
def lowB (num den : Int) : Bool := decide (Int.gcd num den = 1)
theorem gcd_tmod (a b : Int) : Int.gcd b (a.tmod b) = Int.gcd a b := by
  simp only [Int.gcd, Int.natAbs_tmod]
  rw [Nat.gcd_comm b.natAbs, ← Nat.gcd_rec, Nat.gcd_comm]

theorem low_end {a num den : Int} (h : Int.gcd a 0 = Int.gcd num den) : lowB num den = (a == 1 || a == -1) := by
  unfold lowB
  rw [← h, Int.gcd_zero_right]
  rw [Bool.eq_iff_iff]
  simp
  omega
theorem tmod_lt (a b : Int) (h : b ≠ 0) : (a.tmod b).natAbs < b.natAbs := by
  rw [Int.natAbs_tmod]; exact Nat.mod_lt _ (by omega)

set_option maxHeartbeats 1000000 in
theorem lowest_any (num den : Int) (w : World) (hn : -9223372036854775808 ≤ num ∧ num ≤ 9223372036854775807) (hd : -9223372036854775808 ≤ den ∧ den ≤ 9223372036854775807) :
    Calls Try.prog 18 #[.agg #[.int .i64 num, .int .i64 den]] w fun e w' => e = .returned (.bool (lowB num den)) ∧ Below w.heap.size w w' := by
  go_enter Try.func18, Try.ntmps18
  go_wp2
  go_quiet (fail)
  go_wp2
  go_loopw [3, 4] (fun x y wr => ∃ a b : Int, x = .int .i64 a ∧ y = .int .i64 b ∧ Int.gcd a b = Int.gcd num den ∧ (-9223372036854775808 ≤ a ∧ a ≤ 9223372036854775807) ∧ (-9223372036854775808 ≤ b ∧ b ≤ 9223372036854775807) ∧ Below w.heap.size w wr) (fun _ y _ => (intOf y).natAbs)
  case atStart => exact ⟨den, num, rfl, rfl, Int.gcd_comm _ _, hd, hn, (by repeat (first | exact Below.refl _ _ | assumption | refine Below.drew ?_ | refine bdrewN ?_ _ | refine Below.setCell ?_ (by first | omega | (simp <;> omega)) _ | refine Below.alloc ?_ (by first | omega | (simp <;> omega)) _))⟩
  case round =>
    obtain ⟨a, b, rfl, rfl, hg, ha, hb, hbel⟩ := hrel
    have HG := Lib.hid hg
    clear hg
    by_cases h0 : b = 0
    · subst h0
      have HL := Lib.hid (low_end HG.out)
      by_cases a1 : a = 1
      · subst a1
        go_wp2
        go_ret
        exact ⟨by rw [HL.out]; rfl, hbel⟩
      · have e1 : (a == 1) = false := by simpa using a1
        go_wp2
        go_ret
        exact ⟨by rw [HL.out, e1]; rfl, hbel⟩
    · have e0 : (b != 0) = true := by simpa using h0
      go_wp2
      go_quiet (fail)
      go_wp2
      have h1 := tmod_lt a b h0
      go_roundw
      case rel => exact ⟨b, a.tmod b, rfl, rfl, (gcd_tmod a b).trans HG.out, hb, by omega, (by repeat (first | exact Below.refl _ _ | assumption | refine Below.drew ?_ | refine bdrewN ?_ _ | refine Below.setCell ?_ (by first | omega | (simp <;> omega)) _ | refine Below.alloc ?_ (by first | omega | (simp <;> omega)) _))⟩
      case measure => simpa [intOf] using h1

def slopeE (num den most dmax : Int) : Int := if den < 1 ∨ Int.gcd num den ≠ 1 then 3 else if (0 ≤ num ∧ num ≤ most) ∧ den ≤ dmax then 0 else 1

theorem slope_start (num den : Int) (hn : -9223372036854775808 ≤ num ∧ num ≤ 9223372036854775807) (hd : -9223372036854775808 ≤ den ∧ den ≤ 9223372036854775807) :
    ∃ a0 b0 : Nat, (if num < 0 then IntKind.u64.wrap (-IntKind.u64.wrap num) else IntKind.u64.wrap num) = a0 ∧ IntKind.u64.wrap den = b0 ∧ a0 < 18446744073709551616 ∧ b0 < 18446744073709551616 ∧ (1 ≤ den → Nat.gcd a0 b0 = Int.gcd num den) := by
  have e1 : (if num < 0 then IntKind.u64.wrap (-IntKind.u64.wrap num) else IntKind.u64.wrap num) = (num.natAbs : Int) := by
    split <;> simp only [IntKind.wrap_u64] <;> omega
  by_cases h : 1 ≤ den
  · exact ⟨num.natAbs, den.natAbs, e1, by rw [IntKind.wrap_u64]; omega, by omega, by omega, fun _ => rfl⟩
  · exact ⟨num.natAbs, (IntKind.u64.wrap den).toNat, e1, by rw [IntKind.wrap_u64]; omega, by omega, by rw [IntKind.wrap_u64]; omega, fun h3 => absurd h3 h⟩

end Go.Proofs.Ytmcebhjcaacbpaa

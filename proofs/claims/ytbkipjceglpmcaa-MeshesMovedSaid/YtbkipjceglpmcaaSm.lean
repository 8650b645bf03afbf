/- Small checks: spans, the first error, slopes. -/
import Derived.Test.YtbkipjceglpmcaaMeshed
set_option linter.unusedSimpArgs false
set_option linter.unusedVariables false
namespace Go.Proofs.Ytbkipjceglpmcaa
open Go.RowKit

def spanE (n lo hi : Int) : Int := if inB n lo hi = true then 0 else 1
theorem spanFault_any (n lo hi : Int) (w : World) : Calls Try.prog 14 #[.int .i64 n, .int .i64 lo, .int .i64 hi] w fun e w' => e = .returned (.int .i64 (spanE n lo hi)) ∧ w = w' := by
  rcases h : inB n lo hi with _ | _
  all_goals
    have H := Lib.hid h
    go_enter Try.func14, Try.ntmps14
    go_wp2_with (go_at_call 44; refine (in_any _ _ _ _).mono ?_; rintro e w' ⟨rfl, rfl⟩)
    go_ret
    exact ⟨ret_int (by simp [spanE, H.out]), rfl⟩

/-- cmp.Or of two errors. -/
def orE (a b : Int) : Int := if a = 0 then b else a
theorem or_any (g : Nat) (a b : Int) (w : World) (hg : w.heap.size = g) : Calls Try.prog 12 #[.slice (some ⟨g, 0, none⟩) 2 2] (w.alloc (.cells #[.int .i64 a, .int .i64 b] 34)) fun e w' => e = .returned (.int .i64 (orE a b)) ∧ w.alloc (.cells #[.int .i64 a, .int .i64 b] 34) = w' := by
  subst hg
  by_cases ha : a = 0
  · subst ha
    by_cases hb : b = 0
    · subst hb
      go_enter Try.func12, Try.ntmps12
      go_wp2
      refine wp_loop_rounds 3 ?_
      rw [rounds_succ]; go_wp2
      rw [rounds_succ]; go_wp2
      rw [rounds_succ]; go_wp2
      go_ret
      exact ⟨rfl, rfl⟩
    · have e1 : (b != 0) = true := by simpa using hb
      go_enter Try.func12, Try.ntmps12
      go_wp2
      refine wp_loop_rounds 3 ?_
      rw [rounds_succ]; go_wp2
      rw [rounds_succ]; go_wp2
      go_ret
      exact ⟨rfl, rfl⟩
  · have e1 : (a != 0) = true := by simpa using ha
    have HA := Lib.hid ha
    clear ha
    go_enter Try.func12, Try.ntmps12
    go_wp2
    refine wp_loop_rounds 3 ?_
    rw [rounds_succ]; go_wp2
    go_ret
    exact ⟨ret_int (by simp [orE, HA.out]), rfl⟩

/-- Only 1 divides both. -/
def lowB (num den : Int) : Bool := decide (Int.gcd num den = 1)
theorem gcd_tmod (a b : Int) : Int.gcd b (a.tmod b) = Int.gcd a b := by
  simp only [Int.gcd, Int.natAbs_tmod]
  rw [Nat.gcd_comm b.natAbs, ← Nat.gcd_rec, Nat.gcd_comm]

theorem low_end {a num den : Int} (h : Int.gcd a 0 = Int.gcd num den) : lowB num den = (a == 1 || a == -1) := by
  unfold lowB
  rw [← h, Int.gcd_zero_right]
  rw [Bool.eq_iff_iff]
  simp
  omega
theorem tmod_lt (a b : Int) (h : b ≠ 0) : (a.tmod b).natAbs < b.natAbs := by
  rw [Int.natAbs_tmod]; exact Nat.mod_lt _ (by omega)

set_option maxHeartbeats 1000000 in
theorem lowest_any (num den : Int) (w : World) (hn : -9223372036854775808 ≤ num ∧ num ≤ 9223372036854775807) (hd : -9223372036854775808 ≤ den ∧ den ≤ 9223372036854775807) :
    Calls Try.prog 78 #[.agg #[.int .i64 num, .int .i64 den]] w fun e w' => e = .returned (.bool (lowB num den)) ∧ Below w.heap.size w w' := by
  go_enter Try.func78, Try.ntmps78
  go_wp2
  go_quiet (fail)
  go_wp2
  go_loopw [3, 4] (fun x y wr => ∃ a b : Int, x = .int .i64 a ∧ y = .int .i64 b ∧ Int.gcd a b = Int.gcd num den ∧ (-9223372036854775808 ≤ a ∧ a ≤ 9223372036854775807) ∧ (-9223372036854775808 ≤ b ∧ b ≤ 9223372036854775807) ∧ Below w.heap.size w wr) (fun _ y _ => (intOf y).natAbs)
  case atStart => exact ⟨den, num, rfl, rfl, Int.gcd_comm _ _, hd, hn, (by repeat (first | exact Below.refl _ _ | assumption | refine Below.drew ?_ | refine bdrewN ?_ _ | refine Below.setCell ?_ (by first | omega | (simp <;> omega)) _ | refine Below.alloc ?_ (by first | omega | (simp <;> omega)) _))⟩
  case round =>
    obtain ⟨a, b, rfl, rfl, hg, ha, hb, hbel⟩ := hrel
    have HG := Lib.hid hg
    clear hg
    by_cases h0 : b = 0
    · subst h0
      have HL := Lib.hid (low_end HG.out)
      by_cases a1 : a = 1
      · subst a1
        go_wp2
        go_ret
        exact ⟨by rw [HL.out]; rfl, hbel⟩
      · have e1 : (a == 1) = false := by simpa using a1
        go_wp2
        go_ret
        exact ⟨by rw [HL.out, e1]; rfl, hbel⟩
    · have e0 : (b != 0) = true := by simpa using h0
      go_wp2
      go_quiet (fail)
      go_wp2
      have h1 := tmod_lt a b h0
      go_roundw
      case rel => exact ⟨b, a.tmod b, rfl, rfl, (gcd_tmod a b).trans HG.out, hb, by omega, (by repeat (first | exact Below.refl _ _ | assumption | refine Below.drew ?_ | refine bdrewN ?_ _ | refine Below.setCell ?_ (by first | omega | (simp <;> omega)) _ | refine Below.alloc ?_ (by first | omega | (simp <;> omega)) _))⟩
      case measure => simpa [intOf] using h1

def slopeE (num den most dmax : Int) : Int := if den < 1 ∨ Int.gcd num den ≠ 1 then 3 else if (0 ≤ num ∧ num ≤ most) ∧ den ≤ dmax then 0 else 1

theorem slope_start (num den : Int) (hn : -9223372036854775808 ≤ num ∧ num ≤ 9223372036854775807) (hd : -9223372036854775808 ≤ den ∧ den ≤ 9223372036854775807) :
    ∃ a0 b0 : Nat, (if num < 0 then IntKind.u64.wrap (-IntKind.u64.wrap num) else IntKind.u64.wrap num) = a0 ∧ IntKind.u64.wrap den = b0 ∧ a0 < 18446744073709551616 ∧ b0 < 18446744073709551616 ∧ (1 ≤ den → Nat.gcd a0 b0 = Int.gcd num den) := by
  have e1 : (if num < 0 then IntKind.u64.wrap (-IntKind.u64.wrap num) else IntKind.u64.wrap num) = (num.natAbs : Int) := by
    split <;> simp only [IntKind.wrap_u64] <;> omega
  by_cases h : 1 ≤ den
  · exact ⟨num.natAbs, den.natAbs, e1, by rw [IntKind.wrap_u64]; omega, by omega, by omega, fun _ => rfl⟩
  · exact ⟨num.natAbs, (IntKind.u64.wrap den).toNat, e1, by rw [IntKind.wrap_u64]; omega, by omega, by rw [IntKind.wrap_u64]; omega, fun h3 => absurd h3 h⟩

set_option maxHeartbeats 4000000 in
theorem slopeFault_any (num den most dmax : Int) (w : World) (hn : -9223372036854775808 ≤ num ∧ num ≤ 9223372036854775807) (hd : -9223372036854775808 ≤ den ∧ den ≤ 9223372036854775807) :
    Calls Try.prog 84 #[.agg #[.int .i64 num, .int .i64 den], .int .i64 most, .int .i64 dmax] w fun e w' => e = .returned (.int .i64 (slopeE num den most dmax)) ∧ Below w.heap.size w w' := by
  obtain ⟨a0, b0, h1, h2, h3, h4, h5⟩ := slope_start num den hn hd
  have H1 := Lib.hid h1
  have H2 := Lib.hid h2
  have H5 := Lib.hid h5
  clear h1 h2 h5
  by_cases hneg : num < 0
  all_goals
    go_enter Try.func84, Try.ntmps84
    go_wp2
    go_quiet (fail)
    go_wp2
    go_loopw [7, 8] (fun x y wr => ∃ a b : Nat, x = .int .u64 a ∧ y = .int .u64 b ∧ (1 ≤ den → Nat.gcd a b = Int.gcd num den) ∧ a < 18446744073709551616 ∧ b < 18446744073709551616 ∧ Below (w.heap.size + 1) (w.alloc (.cells #[.int .i64 num, .int .i64 den] 53)) wr) (fun _ y _ => (intOf y).toNat)
    case atStart =>
      refine ⟨a0, b0, ?_, by rw [H2.out], H5.out, h3, h4, (by repeat (first | exact Below.refl _ _ | assumption | refine Below.drew ?_ | refine bdrewN ?_ _ | refine Below.setCell ?_ (by first | omega | (simp <;> omega)) _ | refine Below.alloc ?_ (by first | omega | (simp <;> omega)) _))⟩
      have := H1.out
      first | rw [if_pos hneg] at this | rw [if_neg (by omega)] at this
      first | rw [this] | exact congrArg _ (by rw [IntKind.wrap_u64] at this; omega)
    case round =>
      obtain ⟨a, b, rfl, rfl, hg, ha, hb, hbel⟩ := hrel
      have k0 : wr.cell? ⟨w.heap.size, 0, none⟩ = some (.int .i64 num) := by rw [hbel.cell (by simp)]; simp [go_sem]
      have k1 : wr.cell? ⟨w.heap.size, 1, none⟩ = some (.int .i64 den) := by rw [hbel.cell (by simp)]; simp [go_sem]
      have hlt : w.heap.size < wr.heap.size := by have := hbel.size; simp at this; omega
      have BW : Below w.heap.size w wr := Below.trans (by repeat (first | exact Below.refl _ _ | assumption | refine Below.drew ?_ | refine bdrewN ?_ _ | refine Below.setCell ?_ (by first | omega | (simp <;> omega)) _ | refine Below.alloc ?_ (by first | omega | (simp <;> omega)) _)) (hbel.mono (by omega))
      have HG := Lib.hid hg
      clear hg
      by_cases hb0 : b = 0
      · subst hb0
        by_cases hden : den < 1
        · have HR := Lib.hid (show slopeE num den most dmax = 3 by simp [slopeE, hden])
          go_wp2
          go_ret
          exact ⟨by rw [HR.out]; rfl, BW⟩
        · have hg2 : a = Int.gcd num den := by have := HG.out (by omega); simpa using this
          by_cases ha1 : a = 1
          · subst ha1
            have HR := Lib.hid (show slopeE num den most dmax = if (0 ≤ num ∧ num ≤ most) ∧ den ≤ dmax then 0 else 1 by simp [slopeE, hden, ← hg2])
            clear hg2
            rcases hin : inB num 0 most with _ | _
            · have HI := Lib.hid hin
              clear hin
              go_wp2_with (go_at_call 44; refine (in_any _ _ _ _).mono ?_; rintro e w' ⟨rfl, rfl⟩; rw [HI.out])
              go_ret
              exact ⟨by rw [HR.out, if_neg (by have := HI.out; simp [inB] at this; omega)]; rfl, BW⟩
            · have HI := Lib.hid hin
              clear hin
              by_cases hdd : den ≤ dmax
              all_goals
                go_wp2_with (go_at_call 44; refine (in_any _ _ _ _).mono ?_; rintro e w' ⟨rfl, rfl⟩; rw [HI.out])
                go_ret
                exact ⟨by rw [HR.out]; (first | (rw [if_pos (by have := HI.out; simp [inB] at this; omega)]; rfl) | (rw [if_neg (by omega)]; rfl)), BW⟩
          · have HR := Lib.hid (show slopeE num den most dmax = 3 by simp only [slopeE]; rw [if_pos]; right; omega)
            have e1 : ((a : Int) != 1) = true := by simp; omega
            clear hg2
            go_wp2
            go_ret
            exact ⟨by rw [HR.out]; rfl, BW⟩
      · have e0 : ((b : Int) != 0) = true := by simp; omega
        go_wp2
        go_quiet (fail)
        go_wp2
        go_roundw
        case rel => exact ⟨b, a % b, rfl, by simp [Int.natCast_emod], fun h => by rw [Nat.gcd_comm b, ← Nat.gcd_rec, Nat.gcd_comm]; exact HG.out h, hb, by have := Nat.mod_lt a (y := b) (by omega); omega, (by repeat (first | exact Below.refl _ _ | assumption | refine Below.drew ?_ | refine bdrewN ?_ _ | refine Below.setCell ?_ (by first | omega | (simp <;> omega)) _ | refine Below.alloc ?_ (by first | omega | (simp <;> omega)) _))⟩
        case measure =>
          have := Nat.mod_lt a (y := b) (by omega)
          simp [intOf]
          omega

theorem SlopeFault_any (num den : Int) (w : World) (hn : -9223372036854775808 ≤ num ∧ num ≤ 9223372036854775807) (hd : -9223372036854775808 ≤ den ∧ den ≤ 9223372036854775807) :
    Calls Try.prog 32 #[.agg #[.int .i64 num, .int .i64 den]] w fun e w' => e = .returned (.int .i64 (slopeE num den 1000 1000)) ∧ Below w.heap.size w w' := by
  go_enter Try.func32, Try.ntmps32
  go_wp2_with (go_at_call 84; refine (slopeFault_any _ _ _ _ _ hn hd).mono ?_; rintro e w' ⟨rfl, hb⟩)
  go_ret
  exact ⟨rfl, Below.trans (by repeat (first | exact Below.refl _ _ | assumption | refine Below.drew ?_ | refine bdrewN ?_ _ | refine Below.setCell ?_ (by first | omega | (simp <;> omega)) _ | refine Below.alloc ?_ (by first | omega | (simp <;> omega)) _)) (hb.mono (by simp <;> omega))⟩
end Go.Proofs.Ytbkipjceglpmcaa

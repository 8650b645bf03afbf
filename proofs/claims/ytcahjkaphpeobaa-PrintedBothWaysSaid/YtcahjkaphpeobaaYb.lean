/- Small checks of paths: spans, points within. -/
import Derived.Test.YtcahjkaphpeobaaYa
set_option linter.unusedSimpArgs false
set_option linter.unusedVariables false
namespace Go.Proofs.Ytcahjkaphpeobaa
open Go.RowKit

def inB (n lo hi : Int) : Bool := decide (lo ≤ n) && decide (n ≤ hi)
theorem in_any (n lo hi : Int) (w : World) : Calls Try.prog 43 #[.int .i64 n, .int .i64 lo, .int .i64 hi] w fun e w' => e = .returned (.bool (inB n lo hi)) ∧ w = w' := by
  by_cases h1 : lo ≤ n
  · by_cases h2 : n ≤ hi
    · go_enter Try.func43, Try.ntmps43
      go_wp2
      go_ret
      exact ⟨by simp [inB, h1, h2], rfl⟩
    · go_enter Try.func43, Try.ntmps43
      go_wp2
      go_ret
      exact ⟨by simp [inB, h1, h2], rfl⟩
  · have h2 : decide (lo ≤ n) = false := by simp; omega
    go_enter Try.func43, Try.ntmps43
    go_wp2
    go_ret
    exact ⟨by simp [inB, h2], rfl⟩
def spanE (n lo hi : Int) : Int := if inB n lo hi = true then 0 else 1
/-- cmp.Or of two errors. -/
def orE (a b : Int) : Int := if a = 0 then b else a
set_option maxRecDepth 100000 in
set_option maxHeartbeats 8000000 in
theorem inRange_any (a : Option Addr) (n c : Nat) (X Y : Nat → Int) (w : World) (hn : n ≤ 1000000000) (hp : PtsR w a n X Y) :
    Calls Try.prog 44 #[.slice a n c] w fun e w' => e = .returned (.bool (allB n X Y)) ∧ Below w.heap.size w w' := by
  have HP := Lib.hid hp
  clear hp
  go_enter Try.func44, Try.ntmps44
  go_wp2_with (fail)
  go_loopw [7] (fun i wr => ∃ k : Nat, k ≤ n ∧ i = .int .i64 k ∧ (∀ j, j < k → rB (X j) (Y j) = true) ∧ Below w.heap.size w wr) (fun i _ => n - (intOf i).toNat)
  case atStart => exact ⟨0, by omega, rfl, fun j hj => by omega, Below.refl _ _⟩
  case round =>
    obtain ⟨k, hk, rfl, hj, hbel⟩ := hrel
    have HJ := Lib.hid hj
    clear hj
    have hsz := hbel.size
    by_cases hlt : k < n
    · rcases HP.out with h0 | ⟨b, off, rfl, hb, hd⟩
      · omega
      obtain ⟨c0, c1⟩ := (hd.kept hbel hb) k hlt
      have hbw : b < wr.heap.size := by omega
      have HB := Lib.hid hbel
      clear hbel hd
      have BA := Lib.hid (HB.out.alloc hsz (.cells #[.int .i64 (X k), .int .i64 (Y k)] 38))
      obtain ⟨x, hx⟩ : ∃ x, X k = x := ⟨_, rfl⟩
      obtain ⟨y, hy⟩ : ∃ y, Y k = y := ⟨_, rfl⟩
      have RX := Lib.hid hx
      have RY := Lib.hid hy
      rw [hx] at c0
      rw [hy] at c1
      rw [hx, hy] at BA
      clear hx hy
      by_cases hin : max x y ≤ 100000 ∧ -100000 ≤ min x y
      · have RB := Lib.hid (show rB (X k) (Y k) = true by rw [RX.out, RY.out]; unfold rB; rw [decide_eq_true_eq]; exact hin)
        have HS := Lib.hid (show ∀ j, j < k + 1 → rB (X j) (Y j) = true from fun j hj => by
          rcases Nat.lt_or_ge j k with h | h
          · exact HJ.out j h
          · obtain rfl : j = k := by omega
            exact RB.out)
        go_wp2_with (fail)
        all_goals first
          | (exfalso; omega)
          | (go_roundw
             case rel => exact ⟨k + 1, by omega, by go_num, HS.out, BA.out⟩
             case measure => simp [intOf]; omega)
      · have RB := Lib.hid (allB_no (X := X) (Y := Y) hlt (show rB (X k) (Y k) = false by rw [RX.out, RY.out]; unfold rB; rw [decide_eq_false_iff_not]; exact hin))
        go_wp2_with (fail)
        all_goals first
          | (exfalso; omega)
          | (go_ret
             exact ⟨by rw [RB.out]; rfl, BA.out⟩)
    · obtain rfl : n = k := by omega
      have HB := Lib.hid hbel
      clear hbel
      go_wp2_with (fail)
      go_ret
      exact ⟨by rw [allB_yes HJ.out]; rfl, HB.out⟩

/-- What PointFault says of points. -/
def ptE (n : Nat) (X Y : Nat → Int) : Int := if allB n X Y = true then 0 else 1
set_option maxRecDepth 100000 in
set_option maxHeartbeats 8000000 in
theorem pointFault_any (a : Option Addr) (n c : Nat) (X Y : Nat → Int) (w : World) (hn : n ≤ 1000000000) (hp : PtsR w a n X Y) :
    Calls Try.prog 36 #[.slice a n c] w fun e w' => e = .returned (.int .i64 (ptE n X Y)) ∧ Below w.heap.size w w' := by
  have HP := Lib.hid hp
  clear hp
  go_enter Try.func36, Try.ntmps36
  go_wp2_with (fail)
  go_loopw [7] (fun i wr => ∃ k : Nat, k ≤ n ∧ i = .int .i64 k ∧ (∀ j, j < k → rB (X j) (Y j) = true) ∧ Below w.heap.size w wr) (fun i _ => n - (intOf i).toNat)
  case atStart => exact ⟨0, by omega, rfl, fun j hj => by omega, Below.refl _ _⟩
  case round =>
    obtain ⟨k, hk, rfl, hj, hbel⟩ := hrel
    have HJ := Lib.hid hj
    clear hj
    have hsz := hbel.size
    by_cases hlt : k < n
    · rcases HP.out with h0 | ⟨b, off, rfl, hb, hd⟩
      · omega
      obtain ⟨c0, c1⟩ := (hd.kept hbel hb) k hlt
      have hbw : b < wr.heap.size := by omega
      have HB := Lib.hid hbel
      clear hbel hd
      have BA := Lib.hid (HB.out.alloc hsz (.cells #[.int .i64 (X k), .int .i64 (Y k)] 38))
      rcases hx : inB (X k) (-100000) 100000 with _ | _
      · have HX := Lib.hid hx
        have RB := Lib.hid (allB_no (X := X) (Y := Y) hlt (by unfold rB; rw [decide_eq_false_iff_not]; simp only [inB, Bool.and_eq_false_iff, decide_eq_false_iff_not] at hx; omega))
        clear hx
        go_wp2_with (go_at_call 43; refine (in_any _ _ _ _).mono ?_; rintro e w' ⟨rfl, rfl⟩; rw [HX.out])
        go_ret
        exact ⟨ret_int (by simp [ptE, RB.out]), BA.out⟩
      · rcases hy : inB (Y k) (-100000) 100000 with _ | _
        · have HX := Lib.hid hx
          have HY := Lib.hid hy
          have RB := Lib.hid (allB_no (X := X) (Y := Y) hlt (by unfold rB; rw [decide_eq_false_iff_not]; simp only [inB, Bool.and_eq_false_iff, decide_eq_false_iff_not] at hy; omega))
          clear hx hy
          go_wp2_with (go_at_call 43; refine (in_any _ _ _ _).mono ?_; rintro e w' ⟨rfl, rfl⟩; first | rw [HX.out] | rw [HY.out])
          go_ret
          exact ⟨ret_int (by simp [ptE, RB.out]), BA.out⟩
        · have HX := Lib.hid hx
          have HY := Lib.hid hy
          have RB : rB (X k) (Y k) = true := by
            unfold rB; rw [decide_eq_true_eq]; simp only [inB, Bool.and_eq_true, decide_eq_true_eq] at hx hy; omega
          have HS := Lib.hid (show ∀ j, j < k + 1 → rB (X j) (Y j) = true from fun j hj => by
            rcases Nat.lt_or_ge j k with h | h
            · exact HJ.out j h
            · obtain rfl : j = k := by omega
              exact RB)
          clear hx hy RB
          go_wp2_with (go_at_call 43; refine (in_any _ _ _ _).mono ?_; rintro e w' ⟨rfl, rfl⟩; first | rw [HX.out] | rw [HY.out])
          go_roundw
          case rel => exact ⟨k + 1, by omega, by go_num, HS.out, BA.out⟩
          case measure => simp [intOf]; omega
    · obtain rfl : n = k := by omega
      have HB := Lib.hid hbel
      clear hbel
      go_wp2_with (fail)
      go_ret
      exact ⟨ret_int (by simp [ptE, allB_yes HJ.out]), HB.out⟩
end Go.Proofs.Ytcahjkaphpeobaa

/- Points within their limits. -/
import Derived.Test.YthaecpcpeelcnaaRc
set_option linter.unusedSimpArgs false
set_option linter.unusedVariables false
namespace Go.Proofs.Ythaecpcpeelcnaa
open Go.RowKit

/-- The first one of n that is not within. -/
def allB (n : Nat) (X Y : Nat → Int) : Bool := decide (∀ i, i < n → rB (X i) (Y i) = true)
theorem allB_no {n k : Nat} {X Y : Nat → Int} (hk : k < n) (h : rB (X k) (Y k) = false) : allB n X Y = false := by
  unfold allB; rw [decide_eq_false_iff_not]; intro h2; rw [h2 k hk] at h; cases h
theorem allB_yes {n : Nat} {X Y : Nat → Int} (h : ∀ i, i < n → rB (X i) (Y i) = true) : allB n X Y = true := by
  unfold allB; rw [decide_eq_true_eq]; exact h
/-- Points in memory, or none. -/
def PtsR (w : World) (a : Option Addr) (n : Nat) (X Y : Nat → Int) : Prop := n = 0 ∨ ∃ b off, a = some ⟨b, off, none⟩ ∧ b < w.heap.size ∧ Du w b off n X Y
theorem PtsR.kept {w w' : World} {a : Option Addr} {n : Nat} {X Y : Nat → Int} (h : PtsR w a n X Y) (hb : Below w.heap.size w w') : PtsR w' a n X Y := by
  rcases h with h | ⟨b, off, rfl, h1, h2⟩
  · exact .inl h
  · exact .inr ⟨b, off, rfl, Nat.lt_of_lt_of_le h1 hb.size, h2.kept hb h1⟩
set_option maxRecDepth 100000 in
set_option maxHeartbeats 8000000 in
theorem inRange_any (a : Option Addr) (n c : Nat) (X Y : Nat → Int) (w : World) (hn : n ≤ 1000000000) (hp : PtsR w a n X Y) :
    Calls Try.prog 52 #[.slice a n c] w fun e w' => e = .returned (.bool (allB n X Y)) ∧ Below w.heap.size w w' := by
  have HP := Lib.hid hp
  clear hp
  go_enter Try.func52, Try.ntmps52
  go_wp2_with (fail)
  go_loopw [7] (fun i wr => ∃ k : Nat, k ≤ n ∧ i = .int .i64 k ∧ (∀ j, j < k → rB (X j) (Y j) = true) ∧ Below w.heap.size w wr) (fun i _ => n - (intOf i).toNat)
  case atStart => exact ⟨0, by omega, rfl, fun j hj => by omega, Below.refl _ _⟩
  case round =>
    obtain ⟨k, hk, rfl, hj, hbel⟩ := hrel
    have HJ := Lib.hid hj
    clear hj
    have hsz := hbel.size
    by_cases hlt : k < n
    · rcases HP.out with h0 | ⟨b, off, rfl, hb, hd⟩
      · omega
      obtain ⟨c0, c1⟩ := (hd.kept hbel hb) k hlt
      have hbw : b < wr.heap.size := by omega
      have HB := Lib.hid hbel
      clear hbel hd
      have BA := Lib.hid (HB.out.alloc hsz (.cells #[.int .i64 (X k), .int .i64 (Y k)] 49))
      obtain ⟨x, hx⟩ : ∃ x, X k = x := ⟨_, rfl⟩
      obtain ⟨y, hy⟩ : ∃ y, Y k = y := ⟨_, rfl⟩
      have RX := Lib.hid hx
      have RY := Lib.hid hy
      rw [hx] at c0
      rw [hy] at c1
      rw [hx, hy] at BA
      clear hx hy
      by_cases hin : max x y ≤ 100000 ∧ -100000 ≤ min x y
      · have RB := Lib.hid (show rB (X k) (Y k) = true by rw [RX.out, RY.out]; unfold rB; rw [decide_eq_true_eq]; exact hin)
        have HS := Lib.hid (show ∀ j, j < k + 1 → rB (X j) (Y j) = true from fun j hj => by
          rcases Nat.lt_or_ge j k with h | h
          · exact HJ.out j h
          · obtain rfl : j = k := by omega
            exact RB.out)
        go_wp2_with (fail)
        all_goals first
          | (exfalso; omega)
          | (go_roundw
             case rel => exact ⟨k + 1, by omega, by go_num, HS.out, BA.out⟩
             case measure => simp [intOf]; omega)
      · have RB := Lib.hid (allB_no (X := X) (Y := Y) hlt (show rB (X k) (Y k) = false by rw [RX.out, RY.out]; unfold rB; rw [decide_eq_false_iff_not]; exact hin))
        go_wp2_with (fail)
        all_goals first
          | (exfalso; omega)
          | (go_ret
             exact ⟨by rw [RB.out]; rfl, BA.out⟩)
    · obtain rfl : n = k := by omega
      have HB := Lib.hid hbel
      clear hbel
      go_wp2_with (fail)
      go_ret
      exact ⟨by rw [allB_yes HJ.out]; rfl, HB.out⟩
end Go.Proofs.Ythaecpcpeelcnaa

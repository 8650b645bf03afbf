/- Corners and changes are checked: by the program and by the reference. -/
import Derived.Test.YtdanlnmdkneepaaVb
set_option linter.unusedSimpArgs false
set_option linter.unusedVariables false
namespace Go.Proofs.Ytdanlnmdkneepaa
open Go.RowKit

theorem inz1_any (n lo hi : Int) (w : World) : Calls Try.prog 69 #[.int .i64 n, .int .i64 lo, .int .i64 hi] w fun e w' => e = .returned (.bool (inZ n lo hi)) ∧ w = w' := by
  by_cases h1 : lo ≤ n
  · by_cases h2 : n ≤ hi
    · go_enter Try.func69, Try.ntmps69
      go_wp2
      go_ret
      exact ⟨by simp [inZ, h1, h2], rfl⟩
    · go_enter Try.func69, Try.ntmps69
      go_wp2
      go_ret
      exact ⟨by simp [inZ, h1, h2], rfl⟩
  · have h2 : decide (lo ≤ n) = false := by simp; omega
    go_enter Try.func69, Try.ntmps69
    go_wp2
    go_ret
    exact ⟨by simp [inZ, h2], rfl⟩
def spanZ (n lo hi : Int) : Int := if inZ n lo hi = true then 0 else 1
theorem spanZ_any (n lo hi : Int) (w : World) : Calls Try.prog 32 #[.int .i64 n, .int .i64 lo, .int .i64 hi] w fun e w' => e = .returned (.int .i64 (spanZ n lo hi)) ∧ w = w' := by
  rcases h : inZ n lo hi with _ | _
  all_goals
    have H := Lib.hid h
    go_enter Try.func32, Try.ntmps32
    go_wp2_with (go_at_call 69; refine (inz1_any _ _ _ _).mono ?_; rintro e w' ⟨rfl, rfl⟩; rw [H.out])
    go_ret
    exact ⟨ret_int (by simp [spanZ, H.out]), rfl⟩
theorem changeFault_any (c : Int) (w : World) : Calls Try.prog 54 #[.int .i64 c] w fun e w' => e = .returned (.int .i64 (chE c)) ∧ w = w' := by
  go_enter Try.func54, Try.ntmps54
  go_wp2_with (go_at_call 32; refine (spanZ_any _ _ _ _).mono ?_; rintro e w' ⟨rfl, rfl⟩)
  go_ret
  exact ⟨ret_int (by simp [spanZ, chE, inZ]), rfl⟩
theorem checkChange_any (c : Int) (w : World) : Calls Try.prog 84 #[.int .i64 c] w fun e w' => e = .returned (.int .i64 (chE c)) ∧ w = w' := by
  by_cases h1 : c < 1
  · have R := Lib.hid (show chE c = 1 by unfold chE; rw [if_neg (by omega)])
    go_enter Try.func84, Try.ntmps84
    go_wp2
    go_ret
    exact ⟨ret_int R.out.symm, rfl⟩
  · have h1' : decide (c < 1) = false := by simpa using h1
    by_cases h2 : (10000000 : Int) < c
    · have R := Lib.hid (show chE c = 1 by unfold chE; rw [if_neg (by omega)])
      go_enter Try.func84, Try.ntmps84
      go_wp2
      go_ret
      exact ⟨ret_int R.out.symm, rfl⟩
    · have h2' : decide ((10000000 : Int) < c) = false := by simpa using h2
      have R := Lib.hid (show chE c = 0 by unfold chE; rw [if_pos (by omega)])
      go_enter Try.func84, Try.ntmps84
      go_wp2
      go_ret
      exact ⟨ret_int R.out.symm, rfl⟩
/-- A speed that is checked. -/
def spE (v m : Int) : Int := if 0 ≤ v ∧ v ≤ m then 0 else 1
theorem checkSpeed_any (v m : Int) (w : World) : Calls Try.prog 83 #[.int .i64 v, .int .i64 m] w fun e w' => e = .returned (.int .i64 (spE v m)) ∧ w = w' := by
  by_cases h1 : v < 0
  · have R := Lib.hid (show spE v m = 1 by unfold spE; rw [if_neg (by omega)])
    go_enter Try.func83, Try.ntmps83
    go_wp2
    go_ret
    exact ⟨ret_int R.out.symm, rfl⟩
  · have h1' : decide (v < 0) = false := by simpa using h1
    by_cases h2 : m < v
    · have R := Lib.hid (show spE v m = 1 by unfold spE; rw [if_neg (by omega)])
      go_enter Try.func83, Try.ntmps83
      go_wp2
      go_ret
      exact ⟨ret_int R.out.symm, rfl⟩
    · have h2' : decide (m < v) = false := by simpa using h2
      have R := Lib.hid (show spE v m = 0 by unfold spE; rw [if_pos (by omega)])
      go_enter Try.func83, Try.ntmps83
      go_wp2
      go_ret
      exact ⟨ret_int R.out.symm, rfl⟩
theorem cornE_leg {n : Nat} {L M : Nat → Int} {k : Nat} {C : Nat → Int} (h : legE n L M ≠ 0) : cornE n L M k C = legE n L M := by unfold cornE; rw [if_neg h]
theorem cornE_form {n : Nat} {L M : Nat → Int} {k : Nat} {C : Nat → Int} (h : legE n L M = 0) (hk : k + 1 ≠ n) : cornE n L M k C = 3 := by unfold cornE; rw [if_pos h, if_neg hk]
theorem cornE_rest {n : Nat} {L M : Nat → Int} {k : Nat} {C : Nat → Int} (h : legE n L M = 0) (hk : k + 1 = n) : cornE n L M k C = if csOk k C = true then 0 else 1 := by unfold cornE; rw [if_pos h, if_pos hk]
set_option maxRecDepth 100000 in
set_option maxHeartbeats 4000000 in
theorem checkCorners_any (a : Option Addr) (n c : Nat) (L M : Nat → Int) (ac : Option Addr) (m cc : Nat) (C : Nat → Int) (w : World) (hn : n ≤ 100) (hm : m ≤ 100) (hp : LegsR w a n L M) (hc : IntsR w ac m C) :
    Calls Try.prog 86 #[.slice a n c, .slice ac m cc] w fun e w' => e = .returned (.int .i64 (cornE n L M m C)) ∧ Below w.heap.size w w' := by
  have HP := Lib.hid hp
  have HC := Lib.hid hc
  clear hp hc
  go_enter Try.func86, Try.ntmps86
  go_wp2_with (fail)
  refine (checkLegs_any a n c L M _ hn HP.out).mono ?_
  rintro e w1 ⟨rfl, hb1⟩
  have B1 := Lib.hid hb1
  clear hb1
  by_cases hz : legE n L M = 0
  · have HZ := Lib.hid hz
    have hz' : (legE n L M != 0) = false := by simp [hz]
    clear hz
    have hw1 : IntKind.i64.wrap ((n : Int) - 1) = (n : Int) - 1 := i64w (by omega)
    by_cases hk : m + 1 = n
    · have R := Lib.hid (cornE_rest (C := C) HZ.out hk)
      have hk' : ((m : Int) != (n : Int) - 1) = false := by simp; omega
      go_wp2_with (fail)
      go_loopw [22] (fun i wr => ∃ k : Nat, k ≤ m ∧ i = .int .i64 k ∧ (∀ j, j < k → cOk (C j) = true) ∧ Below w1.heap.size w1 wr) (fun i _ => m - (intOf i).toNat)
      case atStart => exact ⟨0, by omega, rfl, fun j hj => by omega, Below.refl _ _⟩
      case round =>
        obtain ⟨k, hk2, rfl, hj, hbel⟩ := hrel
        have HJ := Lib.hid hj
        clear hj
        have hsz := hbel.size
        have hs1 := B1.out.size
        by_cases hlt : k < m
        · rcases HC.out with h0 | ⟨b, off, rfl, hb, hd⟩
          · omega
          have c0 := cellk (B1.out.trans (hbel.mono hs1)) hb (hd k hlt)
          have hbw : b < wr.heap.size := by omega
          have HB := Lib.hid hbel
          clear hbel hd
          rcases hq : cOk (C k) with _ | _
          · have hs : spE (C k) 100000 = 1 := by unfold cOk at hq; rw [decide_eq_false_iff_not] at hq; unfold spE; rw [if_neg hq]
            have RB := Lib.hid (csOk_no hlt hq)
            have SP := Lib.hid hs
            clear hs hq
            go_wp2_with (go_at_call 83; refine (checkSpeed_any _ _ _).mono ?_; rintro e w' ⟨rfl, rfl⟩; rw [SP.out])
            go_ret
            exact ⟨ret_int (by rw [R.out, RB.out]; rfl), B1.out.trans (HB.out.mono hs1)⟩
          · have hs : spE (C k) 100000 = 0 := by unfold cOk at hq; rw [decide_eq_true_eq] at hq; unfold spE; rw [if_pos hq]
            have HS := Lib.hid (show ∀ j, j < k + 1 → cOk (C j) = true from fun j hj => by
              rcases Nat.lt_or_ge j k with h | h
              · exact HJ.out j h
              · obtain rfl : j = k := by omega
                exact hq)
            have SP := Lib.hid hs
            clear hs hq
            go_wp2_with (go_at_call 83; refine (checkSpeed_any _ _ _).mono ?_; rintro e w' ⟨rfl, rfl⟩; rw [SP.out])
            go_roundw
            case rel => exact ⟨k + 1, by omega, by go_num, HS.out, HB.out⟩
            case measure => simp [intOf]; omega
        · obtain rfl : m = k := by omega
          have HB := Lib.hid hbel
          clear hbel
          go_wp2_with (fail)
          go_ret
          exact ⟨ret_int (by rw [R.out, csOk_yes HJ.out]; rfl), B1.out.trans (HB.out.mono hs1)⟩
    · have R := Lib.hid (cornE_form (C := C) HZ.out hk)
      have hk' : ((m : Int) != (n : Int) - 1) = true := by simp; omega
      go_wp2_with (fail)
      go_ret
      exact ⟨ret_int R.out.symm, B1.out⟩
  · have R := Lib.hid (cornE_leg (k := m) (C := C) hz)
    have hz' : (legE n L M != 0) = true := by simpa using hz
    clear hz
    go_wp2_with (fail)
    go_ret
    exact ⟨ret_int R.out.symm, B1.out⟩
theorem movE_corn {n : Nat} {L M : Nat → Int} {k : Nat} {C : Nat → Int} {c : Int} (h : cornE n L M k C ≠ 0) : movE n L M k C c = cornE n L M k C := by unfold movE; rw [if_neg h]
theorem movE_ch {n : Nat} {L M : Nat → Int} {k : Nat} {C : Nat → Int} {c : Int} (h : cornE n L M k C = 0) : movE n L M k C c = chE c := by unfold movE; rw [if_pos h]
set_option maxRecDepth 100000 in
theorem checkMoves_any (a : Option Addr) (n c : Nat) (L M : Nat → Int) (ac : Option Addr) (m cc : Nat) (C : Nat → Int) (ch : Int) (w : World) (hn : n ≤ 100) (hm : m ≤ 100) (hp : LegsR w a n L M) (hc : IntsR w ac m C) :
    Calls Try.prog 119 #[.slice a n c, .slice ac m cc, .int .i64 ch] w fun e w' => e = .returned (.int .i64 (movE n L M m C ch)) ∧ Below w.heap.size w w' := by
  have HP := Lib.hid hp
  have HC := Lib.hid hc
  clear hp hc
  go_enter Try.func119, Try.ntmps119
  go_wp2_with (fail)
  refine (checkCorners_any a n c L M ac m cc C _ hn hm HP.out HC.out).mono ?_
  rintro e w1 ⟨rfl, hb1⟩
  have B1 := Lib.hid hb1
  clear hb1
  by_cases hz : cornE n L M m C = 0
  · have R := Lib.hid (movE_ch (c := ch) hz)
    have hz' : (cornE n L M m C != 0) = false := by simp [hz]
    clear hz
    go_wp2_with (go_at_call 84; refine (checkChange_any _ _).mono ?_; rintro e w' ⟨rfl, rfl⟩)
    go_ret
    exact ⟨ret_int R.out.symm, B1.out⟩
  · have R := Lib.hid (movE_corn (c := ch) hz)
    have hz' : (cornE n L M m C != 0) = true := by simpa using hz
    clear hz
    go_wp2_with (fail)
    go_ret
    exact ⟨ret_int R.out.symm, B1.out⟩
end Go.Proofs.Ytdanlnmdkneepaa

/- Legs are checked: by the program and by the reference. -/
import Derived.Test.YtdanlnmdkneepaaVa
set_option linter.unusedSimpArgs false
set_option linter.unusedVariables false
namespace Go.Proofs.Ytdanlnmdkneepaa
open Go.RowKit

def inZ (n lo hi : Int) : Bool := decide (lo ≤ n) && decide (n ≤ hi)
theorem inz2_any (n lo hi : Int) (w : World) : Calls Try.prog 98 #[.int .i64 n, .int .i64 lo, .int .i64 hi] w fun e w' => e = .returned (.bool (inZ n lo hi)) ∧ w = w' := by
  by_cases h1 : lo ≤ n
  · by_cases h2 : n ≤ hi
    · go_enter Try.func98, Try.ntmps98
      go_wp2
      go_ret
      exact ⟨by simp [inZ, h1, h2], rfl⟩
    · go_enter Try.func98, Try.ntmps98
      go_wp2
      go_ret
      exact ⟨by simp [inZ, h1, h2], rfl⟩
  · have h2 : decide (lo ≤ n) = false := by simp; omega
    go_enter Try.func98, Try.ntmps98
    go_wp2
    go_ret
    exact ⟨by simp [inZ, h2], rfl⟩
theorem isLimit_any (n : Int) (w : World) : Calls Try.prog 111 #[.int .i64 n] w fun e w' => e = .returned (.bool (inZ n 1 100000)) ∧ w = w' := by
  by_cases h1 : (1 : Int) ≤ n
  · by_cases h2 : n ≤ 100000
    · go_enter Try.func111, Try.ntmps111
      go_wp2
      go_ret
      exact ⟨by simp [inZ, h1, h2], rfl⟩
    · go_enter Try.func111, Try.ntmps111
      go_wp2
      go_ret
      exact ⟨by simp [inZ, h1, h2], rfl⟩
  · have h2 : decide ((1 : Int) ≤ n) = false := by simp; omega
    go_enter Try.func111, Try.ntmps111
    go_wp2
    go_ret
    exact ⟨by simp [inZ, h2], rfl⟩
set_option maxRecDepth 100000 in
set_option maxHeartbeats 4000000 in
theorem checkLegs_any (a : Option Addr) (n c : Nat) (L M : Nat → Int) (w : World) (hn : n ≤ 100) (hp : LegsR w a n L M) :
    Calls Try.prog 112 #[.slice a n c] w fun e w' => e = .returned (.int .i64 (legE n L M)) ∧ Below w.heap.size w w' := by
  have HP := Lib.hid hp
  clear hp
  by_cases h0 : n = 0
  · subst h0
    go_enter Try.func112, Try.ntmps112
    go_wp2_with (fail)
    go_ret
    exact ⟨ret_int (by simp [legE]), (by repeat (first | exact Below.refl _ _ | assumption | refine Below.drew ?_ | refine bdrewN ?_ _ | refine Below.setCell ?_ (by first | omega | (simp <;> omega)) _ | refine Below.alloc ?_ (by first | omega | (simp <;> omega)) _))⟩
  have h0' : ¬ (n : Int) = 0 := by omega
  have l2 : ¬ (2000 : Int) < (n : Int) := by omega
  go_enter Try.func112, Try.ntmps112
  go_wp2_with (fail)
  go_loopw [13] (fun i wr => ∃ k : Nat, k ≤ n ∧ i = .int .i64 k ∧ (∀ j, j < k → legOk (L j) (M j) = true) ∧ Below w.heap.size w wr) (fun i _ => n - (intOf i).toNat)
  case atStart => exact ⟨0, by omega, rfl, fun j hj => by omega, Below.refl _ _⟩
  case round =>
    obtain ⟨k, hk, rfl, hj, hbel⟩ := hrel
    have HJ := Lib.hid hj
    clear hj
    have hsz := hbel.size
    by_cases hlt : k < n
    · rcases HP.out with h0 | ⟨b, off, rfl, hb, hd⟩
      · omega
      obtain ⟨c0, c1⟩ := hd k hlt
      replace c0 := cellk hbel hb c0
      replace c1 := cellk hbel hb c1
      have hbw : b < wr.heap.size := by omega
      have HB := Lib.hid hbel
      clear hbel hd
      have BA := Lib.hid (HB.out.alloc hsz (.cells #[.int .i64 (L k), .int .i64 (M k)] 83))
      obtain ⟨x, hx⟩ : ∃ x, L k = x := ⟨_, rfl⟩
      obtain ⟨y, hy⟩ : ∃ y, M k = y := ⟨_, rfl⟩
      have RX := Lib.hid hx
      have RY := Lib.hid hy
      rw [hx] at c0
      rw [hy] at c1
      rw [hx, hy] at BA
      clear hx hy
      rcases hok : legOk x y with _ | _
      · have RB := Lib.hid (legsOk_no (L := L) (M := M) hlt (by rw [RX.out, RY.out]; exact hok))
        have RN := Lib.hid h0
        unfold legOk at hok
        rw [decide_eq_false_iff_not] at hok
        by_cases h1 : x < 1
        · clear hok
          go_wp2_with (fail)
          go_ret
          exact ⟨ret_int (by simp [legE, RB.out, RN.out]), BA.out⟩
        · have h1' : decide (x < 1) = false := by simpa using h1
          by_cases h2 : (200000 : Int) < x
          · clear hok
            go_wp2_with (fail)
            go_ret
            exact ⟨ret_int (by simp [legE, RB.out, RN.out]), BA.out⟩
          · have h2' : decide ((200000 : Int) < x) = false := by simpa using h2
            have HZ := Lib.hid (show inZ y 1 100000 = false by unfold inZ; rw [Bool.and_eq_false_iff, decide_eq_false_iff_not, decide_eq_false_iff_not]; omega)
            clear hok
            go_wp2_with (go_at_call 111; refine (isLimit_any _ _).mono ?_; rintro e w' ⟨rfl, rfl⟩; rw [HZ.out])
            go_ret
            exact ⟨ret_int (by simp [legE, RB.out, RN.out]), BA.out⟩
      · have HS := Lib.hid (show ∀ j, j < k + 1 → legOk (L j) (M j) = true from fun j hj => by
          rcases Nat.lt_or_ge j k with h | h
          · exact HJ.out j h
          · obtain rfl : j = k := by omega
            rw [RX.out, RY.out]; exact hok)
        unfold legOk at hok
        rw [decide_eq_true_eq] at hok
        have h1' : decide (x < 1) = false := by simp; omega
        have h2' : decide ((200000 : Int) < x) = false := by simp; omega
        have h1 : ¬ x < 1 := by omega
        have h2 : ¬ (200000 : Int) < x := by omega
        have HZ := Lib.hid (show inZ y 1 100000 = true by unfold inZ; rw [Bool.and_eq_true, decide_eq_true_eq, decide_eq_true_eq]; omega)
        clear hok
        go_wp2_with (go_at_call 111; refine (isLimit_any _ _).mono ?_; rintro e w' ⟨rfl, rfl⟩; rw [HZ.out])
        go_roundw
        case rel => exact ⟨k + 1, by omega, by go_num, HS.out, BA.out⟩
        case measure => simp [intOf]; omega
    · obtain rfl : n = k := by omega
      have HB := Lib.hid hbel
      clear hbel
      go_wp2_with (fail)
      go_ret
      exact ⟨ret_int (by simp [legE, legsOk_yes HJ.out, h0]), HB.out⟩

set_option maxRecDepth 100000 in
set_option maxHeartbeats 4000000 in
theorem legsFault_any (a : Option Addr) (n c : Nat) (L M : Nat → Int) (w : World) (hn : n ≤ 100) (hp : LegsR w a n L M) :
    Calls Try.prog 61 #[.slice a n c] w fun e w' => e = .returned (.int .i64 (legE n L M)) ∧ Below w.heap.size w w' := by
  have HP := Lib.hid hp
  clear hp
  by_cases h0 : n = 0
  · subst h0
    go_enter Try.func61, Try.ntmps61
    go_wp2_with (fail)
    go_ret
    exact ⟨ret_int (by simp [legE]), (by repeat (first | exact Below.refl _ _ | assumption | refine Below.drew ?_ | refine bdrewN ?_ _ | refine Below.setCell ?_ (by first | omega | (simp <;> omega)) _ | refine Below.alloc ?_ (by first | omega | (simp <;> omega)) _))⟩
  have h0' : ¬ (n : Int) = 0 := by omega
  have l2 : ¬ (2000 : Int) < (n : Int) := by omega
  go_enter Try.func61, Try.ntmps61
  go_wp2_with (fail)
  go_loopw [15] (fun i wr => ∃ k : Nat, k ≤ n ∧ i = .int .i64 k ∧ (∀ j, j < k → legOk (L j) (M j) = true) ∧ Below w.heap.size w wr) (fun i _ => n - (intOf i).toNat)
  case atStart => exact ⟨0, by omega, rfl, fun j hj => by omega, Below.refl _ _⟩
  case round =>
    obtain ⟨k, hk, rfl, hj, hbel⟩ := hrel
    have HJ := Lib.hid hj
    clear hj
    have hsz := hbel.size
    by_cases hlt : k < n
    · rcases HP.out with h0 | ⟨b, off, rfl, hb, hd⟩
      · omega
      obtain ⟨c0, c1⟩ := hd k hlt
      replace c0 := cellk hbel hb c0
      replace c1 := cellk hbel hb c1
      have hbw : b < wr.heap.size := by omega
      have HB := Lib.hid hbel
      clear hbel hd
      have BA := Lib.hid (HB.out.alloc hsz (.cells #[.int .i64 (L k), .int .i64 (M k)] 83))
      obtain ⟨x, hx⟩ : ∃ x, L k = x := ⟨_, rfl⟩
      obtain ⟨y, hy⟩ : ∃ y, M k = y := ⟨_, rfl⟩
      have RX := Lib.hid hx
      have RY := Lib.hid hy
      rw [hx] at c0
      rw [hy] at c1
      rw [hx, hy] at BA
      clear hx hy
      rcases hok : legOk x y with _ | _
      · have RB := Lib.hid (legsOk_no (L := L) (M := M) hlt (by rw [RX.out, RY.out]; exact hok))
        have RN := Lib.hid h0
        unfold legOk at hok
        rw [decide_eq_false_iff_not] at hok
        rcases hx : inZ x 1 200000 with _ | _
        · have HX := Lib.hid hx
          clear hok hx
          go_wp2_with (go_at_call 98; refine (inz2_any _ _ _ _).mono ?_; rintro e w' ⟨rfl, rfl⟩; rw [HX.out])
          go_ret
          exact ⟨ret_int (by simp [legE, RB.out, RN.out]), BA.out⟩
        · have HX := Lib.hid hx
          have HY := Lib.hid (show inZ y 1 100000 = false by simp only [inZ, Bool.and_eq_true, decide_eq_true_eq, Bool.and_eq_false_iff, decide_eq_false_iff_not] at hx ⊢; omega)
          clear hok hx
          go_wp2_with (go_at_call 98; refine (inz2_any _ _ _ _).mono ?_; rintro e w' ⟨rfl, rfl⟩; first | rw [HX.out] | rw [HY.out])
          go_ret
          exact ⟨ret_int (by simp [legE, RB.out, RN.out]), BA.out⟩
      · have HS := Lib.hid (show ∀ j, j < k + 1 → legOk (L j) (M j) = true from fun j hj => by
          rcases Nat.lt_or_ge j k with h | h
          · exact HJ.out j h
          · obtain rfl : j = k := by omega
            rw [RX.out, RY.out]; exact hok)
        unfold legOk at hok
        rw [decide_eq_true_eq] at hok
        have HX := Lib.hid (show inZ x 1 200000 = true by unfold inZ; rw [Bool.and_eq_true, decide_eq_true_eq, decide_eq_true_eq]; omega)
        have HY := Lib.hid (show inZ y 1 100000 = true by unfold inZ; rw [Bool.and_eq_true, decide_eq_true_eq, decide_eq_true_eq]; omega)
        clear hok
        go_wp2_with (go_at_call 98; refine (inz2_any _ _ _ _).mono ?_; rintro e w' ⟨rfl, rfl⟩; first | rw [HX.out] | rw [HY.out])
        go_roundw
        case rel => exact ⟨k + 1, by omega, by go_num, HS.out, BA.out⟩
        case measure => simp [intOf]; omega
    · obtain rfl : n = k := by omega
      have HB := Lib.hid hbel
      clear hbel
      go_wp2_with (fail)
      go_ret
      exact ⟨ret_int (by simp [legE, legsOk_yes HJ.out, h0]), HB.out⟩
end Go.Proofs.Ytdanlnmdkneepaa

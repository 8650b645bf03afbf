/- Beads in memory, and their errors: by the program and by the reference. -/
import Derived.Test.YtddnimbalfaieaaBq
set_option linter.unusedSimpArgs false
set_option linter.unusedVariables false
namespace Go.Proofs.Ytddnimbalfaieaa
open Go.RowKit
def inB (n lo hi : Int) : Bool := decide (lo ≤ n) && decide (n ≤ hi)
theorem inB_yes {n lo hi : Int} : inB n lo hi = true ↔ lo ≤ n ∧ n ≤ hi := by unfold inB; rw [Bool.and_eq_true, decide_eq_true_eq, decide_eq_true_eq]
/-- Beads in memory, or none: how long, wide and high they are. -/
def BeadsR (w : World) (a : Option Addr) (n : Nat) (L W H : Nat → Int) : Prop :=
  n = 0 ∨ ∃ b off, a = some ⟨b, off, none⟩ ∧ b < w.heap.size ∧ ∀ i, i < n → w.cell? ⟨b, off + i * 3, none⟩ = some (.int .i64 (L i)) ∧ w.cell? ⟨b, off + i * 3 + 1, none⟩ = some (.int .i64 (W i)) ∧ w.cell? ⟨b, off + i * 3 + 2, none⟩ = some (.int .i64 (H i))
theorem BeadsR.kept {w w' : World} {a : Option Addr} {n : Nat} {L W H : Nat → Int} (h : BeadsR w a n L W H) (hb : Below w.heap.size w w') : BeadsR w' a n L W H := by
  rcases h with h | ⟨b, off, rfl, h1, h2⟩
  · exact .inl h
  · exact .inr ⟨b, off, rfl, Nat.lt_of_lt_of_le h1 hb.size, fun i hi => ⟨cellk hb h1 (h2 i hi).1, cellk hb h1 (h2 i hi).2.1, cellk hb h1 (h2 i hi).2.2⟩⟩
theorem BeadsR.mut {w w' : World} {B n : Nat} {a : Option Addr} {L W H : Nat → Int} (h : BeadsR w a n L W H) (hm : Mut (· = B) w w') (hb : ∀ x, a = some x → B < x.block) : BeadsR w' a n L W H := by
  rcases h with h | ⟨b, off, rfl, h1, h2⟩
  · exact .inl h
  · have h3 := hb _ rfl
    have hne : ¬ b = B := by have : B < b := h3; omega
    exact .inr ⟨b, off, rfl, Nat.lt_of_lt_of_le h1 hm.size, fun i hi => ⟨(hm.cell h1 hne).trans (h2 i hi).1, (hm.cell h1 hne).trans (h2 i hi).2.1, (hm.cell h1 hne).trans (h2 i hi).2.2⟩⟩
theorem BeadsR.less {w : World} {a : Option Addr} {n k : Nat} {L W H : Nat → Int} (h : BeadsR w a n L W H) (hk : k ≤ n) : BeadsR w a k L W H := by
  rcases h with h | ⟨b, off, rfl, h1, h2⟩
  · exact .inl (by omega)
  · exact .inr ⟨b, off, rfl, h1, fun i hi => h2 i (by omega)⟩
def bdOk (x y z : Int) : Bool := inB x 0 10000000 && (inB y 1 5000 && inB z 1 5000)
def bdsOk (n : Nat) (L W H : Nat → Int) : Bool := decide (∀ i, i < n → bdOk (L i) (W i) (H i) = true)
theorem bdsOk_yes {n : Nat} {L W H : Nat → Int} (h : ∀ i, i < n → bdOk (L i) (W i) (H i) = true) : bdsOk n L W H = true := by unfold bdsOk; rw [decide_eq_true_eq]; exact h
theorem bdsOk_no {n k : Nat} {L W H : Nat → Int} (hk : k < n) (h : bdOk (L k) (W k) (H k) = false) : bdsOk n L W H = false := by
  unfold bdsOk; rw [decide_eq_false_iff_not]; intro h2; rw [h2 k hk] at h; cases h
/-- The error of beads. -/
def bdE (n : Nat) (L W H : Nat → Int) : Int := if 5000 < n then 2 else if bdsOk n L W H = true then 0 else 1
theorem bdE_ok {n : Nat} {L W H : Nat → Int} (h : bdE n L W H = 0) : n ≤ 5000 ∧ ∀ i, i < n → (0 ≤ L i ∧ L i ≤ 10000000) ∧ (1 ≤ W i ∧ W i ≤ 5000) ∧ (1 ≤ H i ∧ H i ≤ 5000) := by
  unfold bdE at h
  split at h
  · cases h
  · split at h
    · rename_i h1 h2
      unfold bdsOk at h2; rw [decide_eq_true_eq] at h2
      refine ⟨by omega, fun i hi => ?_⟩
      have := h2 i hi
      unfold bdOk at this
      rw [Bool.and_eq_true, Bool.and_eq_true, inB_yes, inB_yes, inB_yes] at this
      exact this
    · cases h
theorem within_any (n lo hi : Int) (w : World) : Calls Try.prog 42 #[.int .i64 n, .int .i64 lo, .int .i64 hi] w fun e w' => e = .returned (.bool (inB n lo hi)) ∧ w = w' := by
  by_cases h1 : lo ≤ n
  · by_cases h2 : n ≤ hi
    · go_enter Try.func42, Try.ntmps42
      go_wp2
      go_ret
      exact ⟨by simp [inB, h1, h2], rfl⟩
    · go_enter Try.func42, Try.ntmps42
      go_wp2
      go_ret
      exact ⟨by simp [inB, h1, h2], rfl⟩
  · have h2 : decide (lo ≤ n) = false := by simp; omega
    go_enter Try.func42, Try.ntmps42
    go_wp2
    go_ret
    exact ⟨by simp [inB, h2], rfl⟩
theorem in_any (n lo hi : Int) (w : World) : Calls Try.prog 43 #[.int .i64 n, .int .i64 lo, .int .i64 hi] w fun e w' => e = .returned (.bool (inB n lo hi)) ∧ w = w' := by
  by_cases h1 : lo ≤ n
  · by_cases h2 : n ≤ hi
    · go_enter Try.func43, Try.ntmps43
      go_wp2
      go_ret
      exact ⟨by simp [inB, h1, h2], rfl⟩
    · go_enter Try.func43, Try.ntmps43
      go_wp2
      go_ret
      exact ⟨by simp [inB, h1, h2], rfl⟩
  · have h2 : decide (lo ≤ n) = false := by simp; omega
    go_enter Try.func43, Try.ntmps43
    go_wp2
    go_ret
    exact ⟨by simp [inB, h2], rfl⟩
set_option maxRecDepth 100000 in
set_option maxHeartbeats 4000000 in
theorem checkBeads_any (a : Option Addr) (n c : Nat) (L W H : Nat → Int) (w : World) (hn : n ≤ 5000) (hp : BeadsR w a n L W H) :
    Calls Try.prog 9 #[.slice a n c] w fun e w' => e = .returned (.int .i64 (bdE n L W H)) ∧ Below w.heap.size w w' := by
  have HP := Lib.hid hp
  clear hp
  have l2 : ¬ (5000 : Int) < (n : Int) := by omega
  have LL := Lib.hid (show ¬ 5000 < n by omega)
  go_enter Try.func9, Try.ntmps9
  go_wp2_with (fail)
  go_loopw [10] (fun i wr => ∃ k : Nat, k ≤ n ∧ i = .int .i64 k ∧ (∀ j, j < k → bdOk (L j) (W j) (H j) = true) ∧ Below w.heap.size w wr) (fun i _ => n - (intOf i).toNat)
  case atStart => exact ⟨0, by omega, rfl, fun j hj => by omega, Below.refl _ _⟩
  case round =>
    obtain ⟨k, hk, rfl, hj, hbel⟩ := hrel
    have HJ := Lib.hid hj
    clear hj
    have hsz := hbel.size
    by_cases hlt : k < n
    · rcases HP.out with h0 | ⟨b, off, rfl, hb, hd⟩
      · omega
      obtain ⟨c0, c1, c2⟩ := hd k hlt
      replace c0 := cellk hbel hb c0
      replace c1 := cellk hbel hb c1
      replace c2 := cellk hbel hb c2
      have hbw : b < wr.heap.size := by omega
      have HB := Lib.hid hbel
      clear hbel hd
      have BA := Lib.hid (HB.out.alloc hsz (.cells #[.int .i64 (L k), .int .i64 (W k), .int .i64 (H k)] 61))
      obtain ⟨x, hx⟩ : ∃ x, L k = x := ⟨_, rfl⟩
      obtain ⟨y, hy⟩ : ∃ y, W k = y := ⟨_, rfl⟩
      obtain ⟨z, hz⟩ : ∃ z, H k = z := ⟨_, rfl⟩
      have RX := Lib.hid hx
      have RY := Lib.hid hy
      have RZ := Lib.hid hz
      rw [hx] at c0
      rw [hy] at c1
      rw [hz] at c2
      rw [hx, hy, hz] at BA
      clear hx hy hz
      rcases hok : bdOk x y z with _ | _
      · have RB := Lib.hid (bdsOk_no (L := L) (W := W) (H := H) hlt (by rw [RX.out, RY.out, RZ.out]; exact hok))
        unfold bdOk at hok
        rcases hx : inB x 0 10000000 with _ | _
        · have HX := Lib.hid hx
          have HY := Lib.hid hx
          have HZ := Lib.hid hx
          clear hx
          clear hok
          go_wp2_with (go_at_call 42; refine (within_any _ _ _ _).mono ?_; rintro e w' ⟨rfl, rfl⟩; first | rw [HX.out] | rw [HY.out] | rw [HZ.out])
          go_ret
          exact ⟨ret_int (by simp [bdE, RB.out, LL.out]), BA.out⟩
        · rw [hx, Bool.true_and] at hok
          have HX := Lib.hid hx
          clear hx
          rcases hy : inB y 1 5000 with _ | _
          · have HY := Lib.hid hy
            have HZ := Lib.hid hy
            clear hy
            clear hok
            go_wp2_with (go_at_call 42; refine (within_any _ _ _ _).mono ?_; rintro e w' ⟨rfl, rfl⟩; first | rw [HX.out] | rw [HY.out] | rw [HZ.out])
            go_ret
            exact ⟨ret_int (by simp [bdE, RB.out, LL.out]), BA.out⟩
          · rw [hy, Bool.true_and] at hok
            have HY := Lib.hid hy
            have HZ := Lib.hid hok
            clear hy
            clear hok
            go_wp2_with (go_at_call 42; refine (within_any _ _ _ _).mono ?_; rintro e w' ⟨rfl, rfl⟩; first | rw [HX.out] | rw [HY.out] | rw [HZ.out])
            go_ret
            exact ⟨ret_int (by simp [bdE, RB.out, LL.out]), BA.out⟩
      · have HS := Lib.hid (show ∀ j, j < k + 1 → bdOk (L j) (W j) (H j) = true from fun j hj => by
          rcases Nat.lt_or_ge j k with h | h
          · exact HJ.out j h
          · obtain rfl : j = k := by omega
            rw [RX.out, RY.out, RZ.out]; exact hok)
        unfold bdOk at hok
        rw [Bool.and_eq_true, Bool.and_eq_true] at hok
        have HX := Lib.hid hok.1
        have HY := Lib.hid hok.2.1
        have HZ := Lib.hid hok.2.2
        clear hok
        go_wp2_with (go_at_call 42; refine (within_any _ _ _ _).mono ?_; rintro e w' ⟨rfl, rfl⟩; first | rw [HX.out] | rw [HY.out] | rw [HZ.out])
        go_roundw
        case rel => exact ⟨k + 1, by omega, by go_num, HS.out, BA.out⟩
        case measure => simp [intOf]; omega
    · obtain rfl : n = k := by omega
      have HB := Lib.hid hbel
      clear hbel
      go_wp2_with (fail)
      go_ret
      exact ⟨ret_int (by simp [bdE, bdsOk_yes HJ.out, LL.out]), HB.out⟩
set_option maxRecDepth 100000 in
set_option maxHeartbeats 4000000 in
theorem beadsFault_any (a : Option Addr) (n c : Nat) (L W H : Nat → Int) (w : World) (hn : n ≤ 5000) (hp : BeadsR w a n L W H) :
    Calls Try.prog 10 #[.slice a n c] w fun e w' => e = .returned (.int .i64 (bdE n L W H)) ∧ Below w.heap.size w w' := by
  have HP := Lib.hid hp
  clear hp
  have l2 : ¬ (5000 : Int) < (n : Int) := by omega
  have LL := Lib.hid (show ¬ 5000 < n by omega)
  go_enter Try.func10, Try.ntmps10
  go_wp2_with (fail)
  go_loopw [10] (fun i wr => ∃ k : Nat, k ≤ n ∧ i = .int .i64 k ∧ (∀ j, j < k → bdOk (L j) (W j) (H j) = true) ∧ Below w.heap.size w wr) (fun i _ => n - (intOf i).toNat)
  case atStart => exact ⟨0, by omega, rfl, fun j hj => by omega, Below.refl _ _⟩
  case round =>
    obtain ⟨k, hk, rfl, hj, hbel⟩ := hrel
    have HJ := Lib.hid hj
    clear hj
    have hsz := hbel.size
    by_cases hlt : k < n
    · rcases HP.out with h0 | ⟨b, off, rfl, hb, hd⟩
      · omega
      obtain ⟨c0, c1, c2⟩ := hd k hlt
      replace c0 := cellk hbel hb c0
      replace c1 := cellk hbel hb c1
      replace c2 := cellk hbel hb c2
      have hbw : b < wr.heap.size := by omega
      have HB := Lib.hid hbel
      clear hbel hd
      have BA := Lib.hid (HB.out.alloc hsz (.cells #[.int .i64 (L k), .int .i64 (W k), .int .i64 (H k)] 61))
      obtain ⟨x, hx⟩ : ∃ x, L k = x := ⟨_, rfl⟩
      obtain ⟨y, hy⟩ : ∃ y, W k = y := ⟨_, rfl⟩
      obtain ⟨z, hz⟩ : ∃ z, H k = z := ⟨_, rfl⟩
      have RX := Lib.hid hx
      have RY := Lib.hid hy
      have RZ := Lib.hid hz
      rw [hx] at c0
      rw [hy] at c1
      rw [hz] at c2
      rw [hx, hy, hz] at BA
      clear hx hy hz
      rcases hok : bdOk x y z with _ | _
      · have RB := Lib.hid (bdsOk_no (L := L) (W := W) (H := H) hlt (by rw [RX.out, RY.out, RZ.out]; exact hok))
        unfold bdOk at hok
        rcases hx : inB x 0 10000000 with _ | _
        · have HX := Lib.hid hx
          have HY := Lib.hid hx
          have HZ := Lib.hid hx
          clear hx
          clear hok
          go_wp2_with (go_at_call 43; refine (in_any _ _ _ _).mono ?_; rintro e w' ⟨rfl, rfl⟩; first | rw [HX.out] | rw [HY.out] | rw [HZ.out])
          go_ret
          exact ⟨ret_int (by simp [bdE, RB.out, LL.out]), BA.out⟩
        · rw [hx, Bool.true_and] at hok
          have HX := Lib.hid hx
          clear hx
          rcases hy : inB y 1 5000 with _ | _
          · have HY := Lib.hid hy
            have HZ := Lib.hid hy
            clear hy
            clear hok
            go_wp2_with (go_at_call 43; refine (in_any _ _ _ _).mono ?_; rintro e w' ⟨rfl, rfl⟩; first | rw [HX.out] | rw [HY.out] | rw [HZ.out])
            go_ret
            exact ⟨ret_int (by simp [bdE, RB.out, LL.out]), BA.out⟩
          · rw [hy, Bool.true_and] at hok
            have HY := Lib.hid hy
            have HZ := Lib.hid hok
            clear hy
            clear hok
            go_wp2_with (go_at_call 43; refine (in_any _ _ _ _).mono ?_; rintro e w' ⟨rfl, rfl⟩; first | rw [HX.out] | rw [HY.out] | rw [HZ.out])
            go_ret
            exact ⟨ret_int (by simp [bdE, RB.out, LL.out]), BA.out⟩
      · have HS := Lib.hid (show ∀ j, j < k + 1 → bdOk (L j) (W j) (H j) = true from fun j hj => by
          rcases Nat.lt_or_ge j k with h | h
          · exact HJ.out j h
          · obtain rfl : j = k := by omega
            rw [RX.out, RY.out, RZ.out]; exact hok)
        unfold bdOk at hok
        rw [Bool.and_eq_true, Bool.and_eq_true] at hok
        have HX := Lib.hid hok.1
        have HY := Lib.hid hok.2.1
        have HZ := Lib.hid hok.2.2
        clear hok
        go_wp2_with (go_at_call 43; refine (in_any _ _ _ _).mono ?_; rintro e w' ⟨rfl, rfl⟩; first | rw [HX.out] | rw [HY.out] | rw [HZ.out])
        go_roundw
        case rel => exact ⟨k + 1, by omega, by go_num, HS.out, BA.out⟩
        case measure => simp [intOf]; omega
    · obtain rfl : n = k := by omega
      have HB := Lib.hid hbel
      clear hbel
      go_wp2_with (fail)
      go_ret
      exact ⟨ret_int (by simp [bdE, bdsOk_yes HJ.out, LL.out]), HB.out⟩
def spanE (n lo hi : Int) : Int := if inB n lo hi = true then 0 else 1
theorem spanFault_any (n lo hi : Int) (w : World) : Calls Try.prog 31 #[.int .i64 n, .int .i64 lo, .int .i64 hi] w fun e w' => e = .returned (.int .i64 (spanE n lo hi)) ∧ w = w' := by
  rcases h : inB n lo hi with _ | _
  all_goals
    have H := Lib.hid h
    go_enter Try.func31, Try.ntmps31
    go_wp2_with (go_at_call 43; refine (in_any _ _ _ _).mono ?_; rintro e w' ⟨rfl, rfl⟩; rw [H.out])
    go_ret
    exact ⟨ret_int (by simp [spanE, H.out]), rfl⟩

/-- cmp.Or of two errors. -/
def orE (a b : Int) : Int := if a = 0 then b else a
theorem or_any (g : Nat) (a b : Int) (w : World) (hg : w.heap.size = g) : Calls Try.prog 30 #[.slice (some ⟨g, 0, none⟩) 2 2] (w.alloc (.cells #[.int .i64 a, .int .i64 b] 30)) fun e w' => e = .returned (.int .i64 (orE a b)) ∧ w.alloc (.cells #[.int .i64 a, .int .i64 b] 30) = w' := by
  subst hg
  by_cases ha : a = 0
  · subst ha
    by_cases hb : b = 0
    · subst hb
      go_enter Try.func30, Try.ntmps30
      go_wp2
      refine wp_loop_rounds 3 ?_
      rw [rounds_succ]; go_wp2
      rw [rounds_succ]; go_wp2
      rw [rounds_succ]; go_wp2
      go_ret
      exact ⟨rfl, rfl⟩
    · have e1 : (b != 0) = true := by simpa using hb
      go_enter Try.func30, Try.ntmps30
      go_wp2
      refine wp_loop_rounds 3 ?_
      rw [rounds_succ]; go_wp2
      rw [rounds_succ]; go_wp2
      go_ret
      exact ⟨rfl, rfl⟩
  · have e1 : (a != 0) = true := by simpa using ha
    have HA := Lib.hid ha
    clear ha
    go_enter Try.func30, Try.ntmps30
    go_wp2
    refine wp_loop_rounds 3 ?_
    rw [rounds_succ]; go_wp2
    go_ret
    exact ⟨ret_int (by simp [orE, HA.out]), rfl⟩
end Go.Proofs.Ytddnimbalfaieaa

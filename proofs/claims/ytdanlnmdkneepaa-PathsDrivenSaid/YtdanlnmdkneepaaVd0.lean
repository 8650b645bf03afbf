import Derived.Test.YtdanlnmdkneepaaVc
/- Corners are checked by the reference; the first error of two. -/
set_option linter.unusedSimpArgs false
set_option linter.unusedVariables false
namespace Go.Proofs.Ytdanlnmdkneepaa
open Go.RowKit

theorem closC_any (v : Int) (w : World) : Calls Try.prog 97 #[.int .i64 v] w fun e w' => e = .returned (.bool (!cOk v)) ∧ w = w' := by
  have R := Lib.hid (show inZ v 0 100000 = cOk v by unfold inZ cOk; rw [Bool.decide_and])
  go_enter Try.func97, Try.ntmps97
  go_wp2_with (go_at_call 98; refine (inz2_any _ _ _ _).mono ?_; rintro e w' ⟨rfl, rfl⟩; rw [R.out])
  go_ret
  exact ⟨rfl, rfl⟩
set_option maxRecDepth 100000 in
set_option maxHeartbeats 4000000 in
theorem indexC_any (ac : Option Addr) (m cc : Nat) (C : Nat → Int) (w : World) (hm : m ≤ 100) (hc : IntsR w ac m C) :
    Calls Try.prog 118 #[.slice ac m cc, .func (.func 97) #[] #[]] w
      fun e w' => ∃ r : Int, e = .returned (.int .i64 r) ∧ decide (0 ≤ r) = !csOk m C ∧ Below w.heap.size w w' := by
  have HO := Lib.hid hc
  clear hc
  go_enter Try.func118, Try.ntmps118
  go_wp2_with (fail)
  go_loopw [8] (fun i wr => ∃ k : Nat, k ≤ m ∧ i = .int .i64 k ∧ (∀ j, j < k → cOk (C j) = true) ∧ Below w.heap.size w wr) (fun i _ => m - (intOf i).toNat)
  case atStart => exact ⟨0, by omega, rfl, fun j hj => by omega, Below.refl _ _⟩
  case round =>
    obtain ⟨k, hk, rfl, hj, hbel⟩ := hrel
    have HJ := Lib.hid hj
    clear hj
    have hsz := hbel.size
    by_cases hlt : k < m
    · rcases HO.out with h0 | ⟨b, off, rfl, hb, hd⟩
      · omega
      have c0 := cellk hbel hb (hd k hlt)
      have hbw : b < wr.heap.size := by omega
      have HB := Lib.hid hbel
      clear hbel hd
      go_wp2_with (fail)
      refine (closC_any (C k) wr).mono ?_
      rintro e w1 ⟨rfl, rfl⟩
      rcases hq : cOk (C k) with _ | _
      · have R := Lib.hid (csOk_no hlt hq)
        clear hq
        go_wp2_with (fail)
        go_ret
        exact ⟨_, rfl, by rw [R.out]; simp, HB.out⟩
      · have HS := Lib.hid (show ∀ j, j < k + 1 → cOk (C j) = true from fun j hj => by
          rcases Nat.lt_or_ge j k with h | h
          · exact HJ.out j h
          · obtain rfl : j = k := by omega
            exact hq)
        clear hq
        go_wp2_with (fail)
        go_roundw
        case rel => exact ⟨k + 1, by omega, by go_num, HS.out, HB.out⟩
        case measure => simp [intOf]; omega
    · obtain rfl : m = k := by omega
      have HB := Lib.hid hbel
      clear hbel
      go_wp2_with (fail)
      go_ret
      exact ⟨_, rfl, by rw [csOk_yes HJ.out]; simp, HB.out⟩
theorem containsC_any (ac : Option Addr) (m cc : Nat) (C : Nat → Int) (w : World) (hm : m ≤ 100) (hc : IntsR w ac m C) :
    Calls Try.prog 96 #[.slice ac m cc, .func (.func 97) #[] #[]] w
      fun e w' => e = .returned (.bool (!csOk m C)) ∧ Below w.heap.size w w' := by
  have HO := Lib.hid hc
  clear hc
  go_enter Try.func96, Try.ntmps96
  go_wp2_with (fail)
  refine (indexC_any ac m cc C _ hm HO.out).mono ?_
  rintro e w1 ⟨r, rfl, hr, hb1⟩
  have HR := Lib.hid hr
  clear hr
  go_wp2_with (fail)
  all_goals
    go_ret
    exact ⟨by rw [← HR.out]; rfl, hb1⟩
set_option maxRecDepth 100000 in
set_option maxHeartbeats 4000000 in
theorem cornersFault_any (a : Option Addr) (n c : Nat) (L M : Nat → Int) (ac : Option Addr) (m cc : Nat) (C : Nat → Int) (w : World) (hn : n ≤ 100) (hm : m ≤ 100) (hp : LegsR w a n L M) (hc : IntsR w ac m C) :
    Calls Try.prog 56 #[.slice a n c, .slice ac m cc] w fun e w' => e = .returned (.int .i64 (cornE n L M m C)) ∧ Below w.heap.size w w' := by
  have HP := Lib.hid hp
  have HC := Lib.hid hc
  clear hp hc
  go_enter Try.func56, Try.ntmps56
  go_wp2_with (fail)
  refine (legsFault_any a n c L M _ hn HP.out).mono ?_
  rintro e w1 ⟨rfl, hb1⟩
  have B1 := Lib.hid hb1
  clear hb1
  by_cases hz : legE n L M = 0
  · have HZ := Lib.hid hz
    have hz' : (legE n L M != 0) = false := by simp [hz]
    clear hz
    have hw1 : IntKind.i64.wrap ((n : Int) - 1) = (n : Int) - 1 := i64w (by omega)
    by_cases hk : m + 1 = n
    · have R := Lib.hid (cornE_rest (C := C) HZ.out hk)
      have hk' : ((m : Int) != (n : Int) - 1) = false := by simp; omega
      go_wp2_with (fail)
      refine (containsC_any ac m cc C _ hm (HC.out.kept B1.out)).mono ?_
      rintro e w2 ⟨rfl, hb2⟩
      have B2 := Lib.hid (B1.out.trans (hb2.mono B1.out.size))
      clear hb2
      rcases hq : csOk m C with _ | _
      all_goals
        have HQ := Lib.hid hq
        clear hq
        go_wp2_with (fail)
        go_ret
        exact ⟨ret_int (by rw [R.out, HQ.out]; rfl), B2.out⟩
    · have R := Lib.hid (cornE_form (C := C) HZ.out hk)
      have hk' : ((m : Int) != (n : Int) - 1) = true := by simp; omega
      go_wp2_with (fail)
      go_ret
      exact ⟨ret_int R.out.symm, B1.out⟩
  · have R := Lib.hid (cornE_leg (k := m) (C := C) hz)
    have hz' : (legE n L M != 0) = true := by simpa using hz
    clear hz
    go_wp2_with (fail)
    go_ret
    exact ⟨ret_int R.out.symm, B1.out⟩

/-! ### The first error of two -/
def fstE (a b : Int) : Int := if a = 0 then b else a
theorem errs2_any (g : Nat) (a b : Int) (w : World) (hg : w.heap.size = g) : Calls Try.prog 52 #[.slice (some ⟨g, 0, none⟩) 2 2] (w.alloc (.cells #[.int .i64 a, .int .i64 b] 30)) fun e w' => e = .returned (.int .i64 (fstE a b)) ∧ w.alloc (.cells #[.int .i64 a, .int .i64 b] 30) = w' := by
  subst hg
  by_cases ha : a = 0
  · subst ha
    by_cases hb : b = 0
    · subst hb
      go_enter Try.func52, Try.ntmps52
      go_wp2
      refine wp_loop_rounds 3 ?_
      rw [rounds_succ]; go_wp2
      rw [rounds_succ]; go_wp2
      rw [rounds_succ]; go_wp2
      go_ret
      exact ⟨rfl, rfl⟩
    · have e1 : (b != 0) = true := by simpa using hb
      go_enter Try.func52, Try.ntmps52
      go_wp2
      refine wp_loop_rounds 3 ?_
      rw [rounds_succ]; go_wp2
      rw [rounds_succ]; go_wp2
      go_ret
      exact ⟨rfl, rfl⟩
  · have e1 : (a != 0) = true := by simpa using ha
    have HA := Lib.hid ha
    clear ha
    go_enter Try.func52, Try.ntmps52
    go_wp2
    refine wp_loop_rounds 3 ?_
    rw [rounds_succ]; go_wp2
    go_ret
    exact ⟨ret_int (by simp [fstE, HA.out]), rfl⟩
end Go.Proofs.Ytdanlnmdkneepaa

/- An error, if something is so. -/
set_option linter.unusedSimpArgs false
set_option linter.unusedVariables false
namespace Go.Proofs.Ytdanlnmdkneepaa
open Go.RowKit

theorem when_any (b : Bool) (x : Int) (w : World) : Calls Try.prog 53 #[.bool b, .int .i64 x] w fun e w' => e = .returned (.int .i64 (if b = true then x else 0)) ∧ w = w' := by
  rcases b with _ | _
  all_goals
    go_enter Try.func53, Try.ntmps53
    go_wp2
    go_ret
    exact ⟨rfl, rfl⟩
end Go.Proofs.Ytdanlnmdkneepaa

/- A corner's speed; the errors of a leg to be split and of a path to be driven. -/
import Derived.Test.YtdanlnmdkneepaaYc
import Derived.Test.YtdanlnmdkneepaaUb
import Derived.Test.YtdanlnmdkneepaaVd0
import Derived.BigQuiet
import Derived.Deep.QuietTactic
set_option linter.unusedSimpArgs false
set_option linter.unusedVariables false
namespace Go.Proofs.Ytdanlnmdkneepaa
open Go.RowKit

theorem Below.next_drewN {B : Nat} {w W : World} (n : Nat) (h : Below B w W) : Below B w (W.drewN n) := ⟨h.os, h.tape, h.output, h.size, h.block⟩
theorem bnd_pr {a b : Int} (ha : -200000 ≤ a ∧ a ≤ 200000) (hb : -200000 ≤ b ∧ b ≤ 200000) : -40000000000 ≤ a * b ∧ a * b ≤ 40000000000 := by
  have h := Int.natAbs_mul a b
  have h1 : a.natAbs * b.natAbs ≤ 200000 * 200000 := Nat.mul_le_mul (by omega) (by omega)
  omega
def crZ (a b c d : Int) : Int := a * d - b * c
def dtZ (a b c d : Int) : Int := a * c + b * d
def passZ (a b c d m : Int) : Int := if crZ a b c d = 0 ∧ 0 < dtZ a b c d then m else if max (crZ a b c d) (-crZ a b c d) ≤ dtZ a b c d then m / 2 else if 0 < dtZ a b c d then m / 4 else 0
set_option maxRecDepth 100000 in
set_option maxHeartbeats 4000000 in
theorem passable_any (a b c d m : Int) (w : World) (ha : -200000 ≤ a ∧ a ≤ 200000) (hb : -200000 ≤ b ∧ b ≤ 200000) (hc : -200000 ≤ c ∧ c ≤ 200000) (hd : -200000 ≤ d ∧ d ≤ 200000) (hm : 1 ≤ m ∧ m ≤ 100000) :
    Calls Try.prog 82 #[.agg #[.int .i64 a, .int .i64 b], .agg #[.int .i64 c, .int .i64 d], .int .i64 m] w fun e w' => e = .returned (.int .i64 (passZ a b c d m)) ∧ Below w.heap.size w w' := by
  have h1 := bnd_pr ha hd
  have h2 := bnd_pr hb hc
  have h3 := bnd_pr ha hc
  have h4 := bnd_pr hb hd
  have e1 : IntKind.i64.wrap (a * d) = a * d := i64w (by omega)
  have e2 : IntKind.i64.wrap (b * c) = b * c := i64w (by omega)
  have e3 : IntKind.i64.wrap (a * c) = a * c := i64w (by omega)
  have e4 : IntKind.i64.wrap (b * d) = b * d := i64w (by omega)
  obtain ⟨p, hp⟩ : ∃ p, a * d - b * c = p := ⟨_, rfl⟩
  obtain ⟨q, hq⟩ : ∃ q, a * c + b * d = q := ⟨_, rfl⟩
  have e5 : IntKind.i64.wrap (a * d - b * c) = p := by rw [hp]; exact i64w (by omega)
  have e6 : IntKind.i64.wrap (a * c + b * d) = q := by rw [hq]; exact i64w (by omega)
  have e7 : IntKind.i64.wrap (-p) = -p := i64w (by omega)
  have e8 : IntKind.i64.wrap (m.tdiv 2) = m / 2 := by rw [Int.tdiv_eq_ediv_of_nonneg (by omega)]; exact i64w (by omega)
  have e9 : IntKind.i64.wrap (m.tdiv 4) = m / 4 := by rw [Int.tdiv_eq_ediv_of_nonneg (by omega)]; exact i64w (by omega)
  have R := Lib.hid (show passZ a b c d m = if p = 0 ∧ 0 < q then m else if max p (-p) ≤ q then m / 2 else if 0 < q then m / 4 else 0 by unfold passZ crZ dtZ; rw [hp, hq])
  have hmx : (if p < -p then -p else p) = max p (-p) := by split <;> omega
  clear hp hq h1 h2 h3 h4
  go_enter Try.func82, Try.ntmps82
  go_wp2_with (fail)
  have B0 := Lib.hid (show Below w.heap.size w ((w.alloc (.cells #[.int .i64 a, .int .i64 b] 102)).alloc (.cells #[.int .i64 c, .int .i64 d] 102)) from (by repeat (first | exact Below.refl _ _ | assumption | refine Below.drew ?_ | refine bdrewN ?_ _ | refine Below.setCell ?_ (by first | omega | (simp <;> omega)) _ | refine Below.alloc ?_ (by first | omega | (simp <;> omega)) _)))
  have H3 : ((w.alloc (.cells #[.int .i64 a, .int .i64 b] 102)).alloc (.cells #[.int .i64 c, .int .i64 d] 102)).heap[w.heap.size]? = some (.cells #[.int .i64 a, .int .i64 b] 102 (0, 0)) := (by repeat (first | (refine heap_new ?_; first | rfl | (simp; done)) | rw [Below.heap_setCell _ _ _ _ (by simp <;> omega)] | rw [Below.heap_alloc _ _ _ (by simp <;> omega)]))
  have H4 : ((w.alloc (.cells #[.int .i64 a, .int .i64 b] 102)).alloc (.cells #[.int .i64 c, .int .i64 d] 102)).heap[w.heap.size + 1]? = some (.cells #[.int .i64 c, .int .i64 d] 102 (0, 0)) := (by repeat (first | (refine heap_new ?_; first | rfl | (simp; done)) | rw [Below.heap_setCell _ _ _ _ (by simp <;> omega)] | rw [Below.heap_alloc _ _ _ (by simp <;> omega)]))
  have a0 := cell_of H3 (i := 0) rfl
  have a1 := cell_of H3 (i := 1) rfl
  have b0 := cell_of H4 (i := 0) rfl
  have b1 := cell_of H4 (i := 1) rfl
  clear H3 H4
  generalize ((w.alloc (.cells #[.int .i64 a, .int .i64 b] 102)).alloc (.cells #[.int .i64 c, .int .i64 d] 102)) = w1 at *
  go_quiet (fail)
  have BD := Lib.hid (Below.next_drewN nq B0.out)
  clear B0 a0 a1 b0 b1
  generalize w1.drewN nq = W at *
  by_cases p0 : p = 0
  · by_cases q0 : 0 < q
    · have R2 := Lib.hid (show passZ a b c d m = m by rw [R.out, if_pos ⟨p0, q0⟩])
      go_wp2_with (fail)
      go_ret
      exact ⟨ret_int R2.out.symm, BD.out⟩
    · have hq0 : ¬ q > 0 := by omega
      have hmm : max p (-p) = 0 := by omega
      by_cases q1 : 0 ≤ q
      · have R2 := Lib.hid (show passZ a b c d m = m / 2 by rw [R.out, if_neg (fun h => q0 h.2), if_pos (by omega)])
        have hle : max p (-p) ≤ q := by omega
        go_wp2_with (fail)
        go_ret
        exact ⟨ret_int R2.out.symm, BD.out⟩
      · have R2 := Lib.hid (show passZ a b c d m = 0 by rw [R.out, if_neg (fun h => q0 h.2), if_neg (by omega), if_neg q0])
        have hle : ¬ max p (-p) ≤ q := by omega
        go_wp2_with (fail)
        go_ret
        exact ⟨ret_int R2.out.symm, BD.out⟩
  · by_cases hle : max p (-p) ≤ q
    · have R2 := Lib.hid (show passZ a b c d m = m / 2 by rw [R.out, if_neg (fun h => p0 h.1), if_pos hle])
      go_wp2_with (fail)
      go_ret
      exact ⟨ret_int R2.out.symm, BD.out⟩
    · by_cases q0 : 0 < q
      · have R2 := Lib.hid (show passZ a b c d m = m / 4 by rw [R.out, if_neg (fun h => p0 h.1), if_neg hle, if_pos q0])
        go_wp2_with (fail)
        go_ret
        exact ⟨ret_int R2.out.symm, BD.out⟩
      · have hq0 : ¬ q > 0 := by omega
        have R2 := Lib.hid (show passZ a b c d m = 0 by rw [R.out, if_neg (fun h => p0 h.1), if_neg hle, if_neg q0])
        go_wp2_with (fail)
        go_ret
        exact ⟨ret_int R2.out.symm, BD.out⟩
theorem sq_nn (z : Int) : 0 ≤ z * z := by
  rcases Int.le_total 0 z with h | h
  · exact Int.mul_nonneg h h
  · have := Int.mul_nonneg (a := -z) (b := -z) (by omega) (by omega)
    rwa [Int.neg_mul_neg] at this
/-- Two moves that are none neither lie across each other nor along each other. -/
theorem not_both {a b c d : Int} (h1 : a ≠ 0 ∨ b ≠ 0) (h2 : c ≠ 0 ∨ d ≠ 0) : ¬ (crZ a b c d = 0 ∧ dtZ a b c d = 0) := by
  rintro ⟨h3, h4⟩
  unfold crZ at h3
  unfold dtZ at h4
  have k1 : a * (c * c + d * d) = 0 := by grind
  have k2 : b * (c * c + d * d) = 0 := by grind
  have k3 : c * c + d * d ≠ 0 := by
    have hc := sq_nn c
    have hd := sq_nn d
    intro h
    have c0 : c * c = 0 := by omega
    have d0 : d * d = 0 := by omega
    rcases Int.mul_eq_zero.1 c0 with h' | h' <;> rcases Int.mul_eq_zero.1 d0 with h'' | h'' <;> omega
  rcases Int.mul_eq_zero.1 k1 with h | h
  · rcases Int.mul_eq_zero.1 k2 with h' | h'
    · omega
    · exact k3 h'
  · exact k3 h
/-- The reference's speed at a corner. -/
theorem passZ_ref {a b c d m : Int} (h1 : a ≠ 0 ∨ b ≠ 0) (h2 : c ≠ 0 ∨ d ≠ 0) : (if dtZ a b c d ≤ 0 then 0 else if crZ a b c d = 0 then m else if max (crZ a b c d) (-crZ a b c d) ≤ dtZ a b c d then m / 2 else m / 4) = passZ a b c d m := by
  have h := not_both h1 h2
  unfold passZ
  generalize crZ a b c d = p at *
  generalize dtZ a b c d = q at *
  by_cases q0 : q ≤ 0
  · rw [if_pos q0, if_neg (fun h => by omega)]
    by_cases hm : max p (-p) ≤ q
    · exact absurd ⟨by omega, by omega⟩ h
    · rw [if_neg hm, if_neg (by omega)]
  · rw [if_neg q0]
    by_cases p0 : p = 0
    · rw [if_pos p0, if_pos ⟨p0, by omega⟩]
    · rw [if_neg p0, if_neg (show ¬ (p = 0 ∧ 0 < q) from fun h => p0 h.1)]
      by_cases hm : max p (-p) ≤ q
      · rw [if_pos hm, if_pos hm]
      · rw [if_neg hm, if_neg hm, if_pos (show 0 < q by omega)]
/-- A leg to be split. -/
def splZ (n : Nat) (L : Nat → Int) (j t : Int) : Int := if inZ j 0 ((n : Int) - 1) = true then spanZ t 1 (L j.toNat - 1) else 8
set_option maxRecDepth 100000 in
set_option maxHeartbeats 4000000 in
theorem SplitFault_any (a : Option Addr) (n c : Nat) (L M : Nat → Int) (j t : Int) (w : World) (hn : n ≤ 100) (h0 : 0 < n) (hp : LegsR w a n L M) (hL : ∀ i, i < n → 1 ≤ L i ∧ L i ≤ 200000) :
    Calls Try.prog 58 #[.slice a n c, .int .i64 j, .int .i64 t] w fun e w' => e = .returned (.int .i64 (splZ n L j t)) ∧ w = w' := by
  rcases hp with h | ⟨b, off, rfl, hb, hc⟩
  · omega
  have hw1 : IntKind.i64.wrap ((n : Int) - 1) = (n : Int) - 1 := i64w (by omega)
  by_cases k1 : inZ j 0 ((n : Int) - 1) = true
  · obtain ⟨q, hq, hqn⟩ : ∃ q : Nat, j = q ∧ q < n := by
      unfold inZ at k1
      simp at k1
      exact ⟨j.toNat, by omega, by omega⟩
    subst hq
    have HC0 := (hc q hqn).1
    have hl := hL q hqn
    have hw2 : IntKind.i64.wrap (L q - 1) = L q - 1 := i64w (by omega)
    have R := Lib.hid (show splZ n L q t = spanZ t 1 (L q - 1) by unfold splZ; rw [if_pos k1]; rfl)
    have K1 := Lib.hid k1
    have hqi : (q : Int) < (n : Int) := by omega
    have hn2 : ¬ (n : Int) = 2000 := by omega
    clear k1 hc hL
    by_cases k2 : spanZ t 1 (L q - 1) = 0
    · have K2 := Lib.hid k2
      clear k2
      go_enter Try.func58, Try.ntmps58
      go_wp2_with (go_at_call 98; refine (inz2_any _ _ _ _).mono ?_; rintro e w' ⟨rfl, rfl⟩; rw [K1.out])
      go_wp2_with (go_at_call 32; refine (spanZ_any _ _ _ _).mono ?_; rintro e w' ⟨rfl, rfl⟩; rw [K2.out])
      go_wp2_with (fail)
      go_ret
      exact ⟨ret_int (by rw [R.out, K2.out]), rfl⟩
    · have k2' : (spanZ t 1 (L q - 1) != 0) = true := by simpa using k2
      clear k2
      go_enter Try.func58, Try.ntmps58
      go_wp2_with (go_at_call 98; refine (inz2_any _ _ _ _).mono ?_; rintro e w' ⟨rfl, rfl⟩; rw [K1.out])
      go_wp2_with (go_at_call 32; refine (spanZ_any _ _ _ _).mono ?_; rintro e w' ⟨rfl, rfl⟩)
      go_wp2_with (fail)
      go_ret
      exact ⟨ret_int (by rw [R.out]), rfl⟩
  · have k1' : inZ j 0 ((n : Int) - 1) = false := by simpa using k1
    have K1 := Lib.hid k1'
    have R := Lib.hid (show splZ n L j t = 8 by unfold splZ; rw [if_neg k1])
    clear k1 k1' hc hL
    go_enter Try.func58, Try.ntmps58
    go_wp2_with (go_at_call 98; refine (inz2_any _ _ _ _).mono ?_; rintro e w' ⟨rfl, rfl⟩; rw [K1.out])
    go_wp2_with (fail)
    go_ret
    exact ⟨ret_int R.out.symm, rfl⟩
end Go.Proofs.Ytdanlnmdkneepaa

/- Quotients in lowest terms: the program and the reference. -/
import Derived.Test.YthaecpcpeelcnaaBg
set_option linter.unusedSimpArgs false
set_option linter.unusedVariables false
namespace Go.Proofs.Ythaecpcpeelcnaa
open Go.RowKit
theorem ediv_is {a d x : Int} (hd : 0 < d) (h1 : x * d ≤ a) (h2 : a < (x + 1) * d) : a / d = x := by
  have h3 := (Int.le_ediv_iff_mul_le hd).2 h1
  have h4 := (Int.ediv_lt_iff_lt_mul hd).2 h2
  omega
/-- A quotient, rounded up. -/
def ceilZ (n d : Int) : Int := -((-n) / d)
theorem ceil_go {n d : Int} (hn : 0 ≤ n) (hd : 0 < d) : (if 0 < n.tmod d then n.tdiv d + 1 else n.tdiv d) = ceilZ n d := by
  rw [Int.tdiv_eq_ediv_of_nonneg hn, Int.tmod_eq_emod_of_nonneg hn]
  have h1 := Int.emod_nonneg n (show d ≠ 0 by omega)
  have h2 := Int.emod_lt_of_pos n hd
  have h3 := Int.mul_ediv_add_emod n d
  unfold ceilZ
  generalize n / d = q at *
  generalize n % d = r at *
  split
  · rw [ediv_is (a := -n) (d := d) (x := -(q + 1)) hd (by rw [Int.neg_mul, Int.add_mul, Int.mul_comm q d]; omega) (by rw [show -(q + 1) + 1 = -q by omega, Int.neg_mul, Int.mul_comm q d]; omega)]
    omega
  · rw [ediv_is (a := -n) (d := d) (x := -q) hd (by rw [Int.neg_mul, Int.mul_comm q d]; omega) (by rw [Int.add_mul, Int.neg_mul, Int.mul_comm q d]; omega)]
    omega
/-- A quotient of negated numbers, rounded down, negated. -/
theorem floor_go {n d : Int} (hn : 0 ≤ n) (hd : 0 < d) : -(if (-n).tmod d < 0 then (-n).tdiv d - 1 else (-n).tdiv d) = ceilZ n d := by
  rw [← ceil_go hn hd, Int.neg_tdiv, Int.neg_tmod]
  have h := Int.tmod_nonneg d hn
  split <;> split <;> omega
theorem ceil_mul {n d k : Int} (hk : 0 < k) (hd : 0 < d) : ceilZ (k * n) (k * d) = ceilZ n d := by
  unfold ceilZ
  rw [show -(k * n) = k * -n by rw [Int.mul_neg], Int.mul_ediv_mul_of_pos _ _ hk]
/-- The greatest common divisor. -/
def gcZ (n d : Int) : Int := (Nat.gcd n.toNat d.toNat : Nat)
theorem gcZ_pos {n d : Int} (hd : 0 < d) : 0 < gcZ n d := by
  have := Nat.gcd_pos_of_pos_right n.toNat (n := d.toNat) (by omega)
  unfold gcZ; omega
theorem gcZ_le {n d : Int} (hd : 0 < d) : gcZ n d ≤ d := by
  have := Nat.gcd_le_right n.toNat (n := d.toNat) (by omega)
  unfold gcZ; omega
theorem gcZ_n {n d : Int} (hn : 0 ≤ n) : ∃ q, 0 ≤ q ∧ n = gcZ n d * q ∧ n / gcZ n d = q ∨ gcZ n d = 0 := by
  by_cases h0 : gcZ n d = 0
  · exact ⟨0, .inr h0⟩
  · obtain ⟨q, hq⟩ := Nat.gcd_dvd_left n.toNat d.toNat
    have e : n = gcZ n d * (q : Int) := by
      unfold gcZ
      rw [← Int.natCast_mul, ← hq]; omega
    refine ⟨q, .inl ⟨by omega, e, ?_⟩⟩
    conv => lhs; lhs; rw [e]
    exact Int.mul_ediv_cancel_left _ h0
theorem gcZ_d {n d : Int} (hd : 0 < d) : ∃ q, 0 < q ∧ d = gcZ n d * q ∧ d / gcZ n d = q := by
  have h0 := gcZ_pos (n := n) hd
  obtain ⟨q, hq⟩ := Nat.gcd_dvd_right n.toNat d.toNat
  have e : d = gcZ n d * (q : Int) := by
    unfold gcZ
    rw [← Int.natCast_mul, ← hq]; omega
  have e2 : d / gcZ n d = (q : Int) := by
    conv => lhs; lhs; rw [e]
    exact Int.mul_ediv_cancel_left _ (by omega)
  refine ⟨q, ?_, e, e2⟩
  rcases Nat.eq_zero_or_pos q with h | h
  · subst h; simp at e; omega
  · omega
/-- Rounded up alike in lowest terms. -/
theorem ceil_low {n d : Int} (hn : 0 ≤ n) (hd : 0 < d) : ceilZ (n / gcZ n d) (d / gcZ n d) = ceilZ n d := by
  have h0 := gcZ_pos (n := n) hd
  obtain ⟨q, h⟩ := gcZ_n (d := d) hn
  obtain ⟨r, hr0, hr1, hr2⟩ := gcZ_d (n := n) hd
  rcases h with ⟨h1, h2, h3⟩ | h
  · rw [h3, hr2, ← ceil_mul (n := q) (d := r) h0 hr0, ← h2, ← hr1]
  · omega
theorem low_bnd {n d : Int} (hn : 0 ≤ n) (hd : 0 < d) : (0 ≤ n / gcZ n d ∧ n / gcZ n d ≤ n) ∧ (0 < d / gcZ n d ∧ d / gcZ n d ≤ d) := by
  have h0 := gcZ_pos (n := n) hd
  obtain ⟨r, hr0, hr1, hr2⟩ := gcZ_d (n := n) hd
  refine ⟨⟨Int.ediv_nonneg hn (by omega), Int.ediv_le_self _ hn⟩, by omega, Int.ediv_le_self _ (by omega)⟩
/-- A round of Euclid. -/
theorem gcd_step {a b : Int} (ha : 0 ≤ a) (hb : 0 < b) : gcZ a b = gcZ b (a % b) := by
  have h1 := Int.emod_nonneg a (show b ≠ 0 by omega)
  unfold gcZ
  rw [Nat.gcd_comm, Nat.gcd_rec, Nat.gcd_comm]
  congr 2
  rw [Int.toNat_emod ha (by omega)]
theorem gcd_end {a : Int} (ha : 0 ≤ a) : gcZ a 0 = a := by unfold gcZ; simp; omega
theorem gcZ_comm (a b : Int) : gcZ a b = gcZ b a := by unfold gcZ; rw [Nat.gcd_comm]
theorem set2V_0 {w : World} {b : Nat} {v0 v1 u : Value} {t : TypeId} (h : w.heap[b]? = some (.cells #[v0, v1] t (0, 0))) : (w.setCell ⟨b, 0, none⟩ u).heap[b]? = some (.cells #[u, v1] t (0, 0)) := by
  simp [World.setCell, Array.getElem?_modify, h]
theorem set2V_1 {w : World} {b : Nat} {v0 v1 u : Value} {t : TypeId} (h : w.heap[b]? = some (.cells #[v0, v1] t (0, 0))) : (w.setCell ⟨b, 1, none⟩ u).heap[b]? = some (.cells #[v0, u] t (0, 0)) := by
  simp [World.setCell, Array.getElem?_modify, h]
end Go.Proofs.Ythaecpcpeelcnaa

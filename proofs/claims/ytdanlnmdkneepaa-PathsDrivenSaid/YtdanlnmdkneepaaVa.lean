/- Rows of legs and of numbers; square roots; the errors of legs, corners and changes. -/
import Derived.Test.YtdanlnmdkneepaaHold
import Derived.Laws.BitsLemmas
set_option linter.unusedSimpArgs false
set_option linter.unusedVariables false
namespace Go.Proofs.Ytdanlnmdkneepaa
open Go.RowKit

theorem i64w {n : Int} (h : -9000000000000000000 ≤ n ∧ n ≤ 9000000000000000000) : IntKind.i64.wrap n = n := by rw [IntKind.wrap_i64]; omega
/-- Legs in memory, or none: their lengths and their limits. -/
def LegsR (w : World) (a : Option Addr) (n : Nat) (L M : Nat → Int) : Prop :=
  n = 0 ∨ ∃ b off, a = some ⟨b, off, none⟩ ∧ b < w.heap.size ∧ ∀ i, i < n → w.cell? ⟨b, off + i * 2, none⟩ = some (.int .i64 (L i)) ∧ w.cell? ⟨b, off + i * 2 + 1, none⟩ = some (.int .i64 (M i))
theorem LegsR.kept {w w' : World} {a : Option Addr} {n : Nat} {L M : Nat → Int} (h : LegsR w a n L M) (hb : Below w.heap.size w w') : LegsR w' a n L M := by
  rcases h with h | ⟨b, off, rfl, h1, h2⟩
  · exact .inl h
  · exact .inr ⟨b, off, rfl, Nat.lt_of_lt_of_le h1 hb.size, fun i hi => ⟨cellk hb h1 (h2 i hi).1, cellk hb h1 (h2 i hi).2⟩⟩
/-- Numbers in memory, or none. -/
def IntsR (w : World) (a : Option Addr) (n : Nat) (V : Nat → Int) : Prop :=
  n = 0 ∨ ∃ b off, a = some ⟨b, off, none⟩ ∧ b < w.heap.size ∧ ∀ i, i < n → w.cell? ⟨b, off + i, none⟩ = some (.int .i64 (V i))
theorem IntsR.kept {w w' : World} {a : Option Addr} {n : Nat} {V : Nat → Int} (h : IntsR w a n V) (hb : Below w.heap.size w w') : IntsR w' a n V := by
  rcases h with h | ⟨b, off, rfl, h1, h2⟩
  · exact .inl h
  · exact .inr ⟨b, off, rfl, Nat.lt_of_lt_of_le h1 hb.size, fun i hi => cellk hb h1 (h2 i hi)⟩

/-! ### Square roots -/
theorem rt_ex (n : Nat) : ∃ r : Nat, r * r ≤ n ∧ n < (r + 1) * (r + 1) := by
  induction n with
  | zero => exact ⟨0, by omega, by omega⟩
  | succ n ih =>
    obtain ⟨r, h1, h2⟩ := ih
    by_cases h : (r + 1) * (r + 1) ≤ n + 1
    · refine ⟨r + 1, h, ?_⟩
      have : (r + 1 + 1) * (r + 1 + 1) = (r + 1) * (r + 1) + 2 * (r + 1) + 1 := by simp only [Nat.add_mul, Nat.mul_add]; omega
      omega
    · exact ⟨r, by omega, by omega⟩
/-- The greatest whole number whose square is at most z. -/
noncomputable def rt (z : Int) : Int := (Classical.choose (rt_ex z.toNat) : Nat)
theorem rt_spec {z : Int} (h : 0 ≤ z) : 0 ≤ rt z ∧ rt z * rt z ≤ z ∧ z < (rt z + 1) * (rt z + 1) := by
  obtain ⟨h1, h2⟩ := Classical.choose_spec (rt_ex z.toNat)
  have e : ((z.toNat : Nat) : Int) = z := Int.toNat_of_nonneg h
  refine ⟨Int.natCast_nonneg _, ?_, ?_⟩
  · unfold rt; rw [← Int.natCast_mul]; omega
  · unfold rt; rw [show ((Classical.choose (rt_ex z.toNat) : Nat) : Int) + 1 = ((Classical.choose (rt_ex z.toNat) + 1 : Nat) : Int) by simp, ← Int.natCast_mul]; omega
theorem sq_le {a b : Int} (h0 : 0 ≤ a) (h : a ≤ b) : a * a ≤ b * b := Int.mul_le_mul h h h0 (by omega)
theorem sq_lt {a b : Int} (hb : 0 ≤ b) (h : a * a < b * b) : a < b := Decidable.byContradiction fun hn => by
  have := sq_le hb (show b ≤ a by omega)
  omega
theorem le_rt {z k : Int} (hz : 0 ≤ z) (hk : 0 ≤ k) : k * k ≤ z ↔ k ≤ rt z := by
  obtain ⟨h1, h2, h3⟩ := rt_spec hz
  constructor
  · intro h
    have := sq_lt (a := k) (b := rt z + 1) (by omega) (by omega)
    omega
  · intro h
    have := sq_le hk h
    omega
theorem rt_eq {z r : Int} (hr : 0 ≤ r) (h1 : r * r ≤ z) (h2 : z < (r + 1) * (r + 1)) : rt z = r := by
  have hz : 0 ≤ z := Int.le_trans (Int.mul_nonneg hr hr) h1
  obtain ⟨g1, g2, g3⟩ := rt_spec hz
  have a1 := (le_rt hz hr).1 h1
  have a2 := sq_lt (a := rt z) (b := r + 1) (by omega) (by omega)
  omega
theorem rt_mono {z z' : Int} (hz : 0 ≤ z) (h : z ≤ z') : rt z ≤ rt z' := by
  obtain ⟨g1, g2, g3⟩ := rt_spec hz
  exact (le_rt (by omega) g1).1 (by omega)
theorem rt_nn {z : Int} (hz : 0 ≤ z) : 0 ≤ rt z := (rt_spec hz).1
theorem rt_lt {z b : Int} (hz : 0 ≤ z) (hb : 0 ≤ b) (h : z < b * b) : rt z < b := by
  obtain ⟨g1, g2, g3⟩ := rt_spec hz
  exact sq_lt hb (by omega)

/-! ### Errors -/
def legOk (l m : Int) : Bool := decide (1 ≤ l ∧ l ≤ 200000 ∧ 1 ≤ m ∧ m ≤ 100000)
def legsOk (n : Nat) (L M : Nat → Int) : Bool := decide (∀ i, i < n → legOk (L i) (M i) = true)
theorem legsOk_yes {n : Nat} {L M : Nat → Int} (h : ∀ i, i < n → legOk (L i) (M i) = true) : legsOk n L M = true := by unfold legsOk; rw [decide_eq_true_eq]; exact h
theorem legsOk_no {n k : Nat} {L M : Nat → Int} (hk : k < n) (h : legOk (L k) (M k) = false) : legsOk n L M = false := by
  unfold legsOk; rw [decide_eq_false_iff_not]; intro h2; rw [h2 k hk] at h; cases h
def legE (n : Nat) (L M : Nat → Int) : Int := if n = 0 then 8 else if legsOk n L M = true then 0 else 1
theorem legE_ok {n : Nat} {L M : Nat → Int} (h : legE n L M = 0) : 0 < n ∧ ∀ i, i < n → 1 ≤ L i ∧ L i ≤ 200000 ∧ 1 ≤ M i ∧ M i ≤ 100000 := by
  unfold legE at h
  split at h
  · cases h
  · split at h
    · rename_i h1 h2
      unfold legsOk at h2; rw [decide_eq_true_eq] at h2
      refine ⟨by omega, fun i hi => ?_⟩
      have := h2 i hi
      unfold legOk at this; rwa [decide_eq_true_eq] at this
    · cases h
def cOk (c : Int) : Bool := decide (0 ≤ c ∧ c ≤ 100000)
def csOk (k : Nat) (C : Nat → Int) : Bool := decide (∀ i, i < k → cOk (C i) = true)
theorem csOk_yes {n : Nat} {C : Nat → Int} (h : ∀ i, i < n → cOk (C i) = true) : csOk n C = true := by unfold csOk; rw [decide_eq_true_eq]; exact h
theorem csOk_no {n k : Nat} {C : Nat → Int} (hk : k < n) (h : cOk (C k) = false) : csOk n C = false := by
  unfold csOk; rw [decide_eq_false_iff_not]; intro h2; rw [h2 k hk] at h; cases h
def cornE (n : Nat) (L M : Nat → Int) (k : Nat) (C : Nat → Int) : Int := if legE n L M = 0 then (if k + 1 = n then (if csOk k C = true then 0 else 1) else 3) else legE n L M
def chE (c : Int) : Int := if 1 ≤ c ∧ c ≤ 10000000 then 0 else 1
def movE (n : Nat) (L M : Nat → Int) (k : Nat) (C : Nat → Int) (c : Int) : Int := if cornE n L M k C = 0 then chE c else cornE n L M k C
def spdE (n : Nat) (L M : Nat → Int) (k : Nat) (C : Nat → Int) (c : Int) (m : Nat) : Int := if movE n L M k C c = 0 then (if m = n + 1 then 0 else 3) else movE n L M k C c
/-- What is right. -/
structure MOk (n : Nat) (L M : Nat → Int) (k : Nat) (C : Nat → Int) (c : Int) : Prop where
  pos : 0 < n
  lg : ∀ i, i < n → 1 ≤ L i ∧ L i ≤ 200000 ∧ 1 ≤ M i ∧ M i ≤ 100000
  kn : k + 1 = n
  cr : ∀ i, i < k → 0 ≤ C i ∧ C i ≤ 100000
  ch : 1 ≤ c ∧ c ≤ 10000000
theorem mok {n : Nat} {L M : Nat → Int} {k : Nat} {C : Nat → Int} {c : Int} (h : movE n L M k C c = 0) : MOk n L M k C c := by
  unfold movE at h
  split at h
  · rename_i h1
    unfold cornE at h1
    split at h1
    · rename_i h2
      split at h1
      · rename_i h3
        split at h1
        · rename_i h4
          obtain ⟨p1, p2⟩ := legE_ok h2
          unfold csOk at h4; rw [decide_eq_true_eq] at h4
          refine ⟨p1, p2, h3, fun i hi => ?_, ?_⟩
          · have := h4 i hi
            unfold cOk at this; rwa [decide_eq_true_eq] at this
          · unfold chE at h
            split at h
            · assumption
            · cases h
        · cases h1
      · cases h1
    · rename_i h2; exact absurd h1 h2
  · rename_i h1; exact absurd h h1
end Go.Proofs.Ytdanlnmdkneepaa

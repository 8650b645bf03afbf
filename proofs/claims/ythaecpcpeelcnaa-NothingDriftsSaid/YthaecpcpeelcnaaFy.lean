/- Rounded positions: near what is needed; they do not fall; what is fed with retractions adds up. -/
import Derived.Test.YthaecpcpeelcnaaBi
set_option linter.unusedSimpArgs false
set_option linter.unusedVariables false
namespace Go.Proofs.Ythaecpcpeelcnaa
open Go.RowKit
theorem rnd_near {v d : Int} (hv : 0 ≤ v) (hd : 0 < d) : 2 * (rndZ v d * d - v) ≤ d ∧ -(2 * (rndZ v d * d - v)) < d := by
  have h1 := Int.emod_add_mul_ediv v d
  have h2 := Int.emod_nonneg v (show d ≠ 0 by omega)
  have h3 := Int.emod_lt_of_pos v hd
  have h4 : v / d * d = d * (v / d) := Int.mul_comm _ _
  have h5 : (v / d + 1) * d = d * (v / d) + d := by rw [Int.add_mul, Int.one_mul, h4]
  unfold rndZ
  split
  · rw [h5]; omega
  · rw [h4]; omega
theorem rnd_mono {v u d : Int} (hv : 0 ≤ v) (h : v ≤ u) (hd : 0 < d) : rndZ v d ≤ rndZ u d := by
  have h1 := (rnd_near hv hd).1
  have h2 := (rnd_near (show 0 ≤ u by omega) hd).2
  rcases Int.lt_or_le (rndZ u d) (rndZ v d) with h3 | h3
  · have h4 : (rndZ u d + 1) * d ≤ rndZ v d * d := Int.mul_le_mul_of_nonneg_right (by omega) (by omega)
    rw [Int.add_mul, Int.one_mul] at h4
    omega
  · exact h3
theorem amt_pos {n : Nat} {L W H : Nat → Int} {x : Int} (h : BdOk n L W H) (hx : 0 < x) {t : Nat} (ht : t < n) : 0 ≤ amtZ L W H x t := by
  have h1 := volZ_mono h t 1 (by omega)
  have h2 := (volZ_bnd h t (by omega)).1
  have := rnd_mono h2 h1 hx
  unfold amtZ posZ
  omega
theorem pos_small {n : Nat} {L W H : Nat → Int} {x : Int} (h : BdOk n L W H) (hx : 0 < x) (hn : n ≤ 6) {t : Nat} (ht : t ≤ n) : 0 ≤ posZ L W H x t ∧ posZ L W H x t ≤ 1500000000000001 := by
  have h1 := volZ_bnd h t ht
  have h2 := rnd_bnd (v := volZ L W H t) h1.1 hx
  unfold posZ
  omega
def sumL : List Int → Int
  | [] => 0
  | x :: l => x + sumL l
theorem sumL_app (l m : List Int) : sumL (l ++ m) = sumL l + sumL m := by
  induction l with
  | nil => simp [sumL]
  | cons x l ih => simp only [List.cons_append, sumL, ih]; omega
theorem rtL_sum (back : Int) (V : Nat → Int) (m : Nat) (L W H : Nat → Int) (x : Int) (hx : 0 < x) : ∀ t, sumL (rtL back V m (amtF L W H x) t) = posZ L W H x t
  | 0 => (posZ_0 hx).symm
  | t + 1 => by
    have ih := rtL_sum back V m L W H x hx t
    rw [rtL, sumL_app, sumL_app, ih]
    have h1 : sumL (if memB V m t = true then [-back, back] else []) = 0 := by
      split <;> simp only [sumL] <;> omega
    rw [h1]
    simp only [sumL, amtF, amtZ]
    omega
theorem rtL_mem {back : Int} {V : Nat → Int} {m : Nat} {A : Nat → Int} {y : Int} : ∀ {t}, y ∈ rtL back V m A t → y = -back ∨ y = back ∨ ∃ i, i < t ∧ y = A i
  | 0, h => by simp [rtL] at h
  | t + 1, h => by
    rw [rtL, List.mem_append, List.mem_append] at h
    rcases h with (h | h) | h
    · rcases rtL_mem h with h | h | ⟨i, hi, h⟩
      · exact .inl h
      · exact .inr (.inl h)
      · exact .inr (.inr ⟨i, by omega, h⟩)
    · split at h
      · simp only [List.mem_cons, List.not_mem_nil, or_false] at h
        rcases h with h | h
        · exact .inl h
        · exact .inr (.inl h)
      · simp at h
    · exact .inr (.inr ⟨t, by omega, by simpa using h⟩)
theorem sumL_bnd {M : Int} (hM : 0 ≤ M) : ∀ (l : List Int), (∀ y ∈ l, -M ≤ y ∧ y ≤ M) → ∀ k : Nat, -(M * k) ≤ sumL (l.take k) ∧ sumL (l.take k) ≤ M * k
  | _, _, 0 => by simp [sumL]
  | [], _, k + 1 => by
    have : 0 ≤ M * ((k + 1 : Nat) : Int) := Int.mul_nonneg hM (by omega)
    simp only [List.take_nil, sumL]
    omega
  | x :: l, h, k + 1 => by
    have h1 := sumL_bnd hM l (fun y hy => h y (List.mem_cons_of_mem _ hy)) k
    have h2 := h x List.mem_cons_self
    have h3 : M * ((k + 1 : Nat) : Int) = M * k + M := by rw [Int.natCast_add, Int.mul_add]; simp
    rw [h3]
    simp only [List.take_succ_cons, sumL]
    omega
theorem sumL_snoc (l : List Int) (k : Nat) (h : k < l.length) : sumL (l.take (k + 1)) = sumL (l.take k) + l.getD k 0 := by
  rw [List.take_succ_eq_append_getElem h, sumL_app, List.getD_eq_getElem?_getD, List.getElem?_eq_getElem h]
  simp [sumL]
/-- All places come up. -/
theorem rtL_count {back : Int} {V : Nat → Int} {m n : Nat} {A : Nat → Int} (h : plZ V n m = 0) : ∀ t, t ≤ n → ∃ j, j ≤ m ∧ (∀ i, i < j → V i < t) ∧ (∀ i, j ≤ i → i < m → (t : Int) ≤ V i) ∧ (rtL back V m A t).length = t + 2 * j
  | 0, _ => ⟨0, Nat.zero_le _, fun i hi => by omega, fun i _ hi => by have := ((plZ_rise m h i hi).1).1; omega, rfl⟩
  | t + 1, ht => by
    obtain ⟨j, hj, h1, h2, h3⟩ := rtL_count (back := back) (A := A) h t (by omega)
    by_cases hm : j < m ∧ V j = t
    · refine ⟨j + 1, by omega, fun i hi => ?_, fun i hi him => ?_, ?_⟩
      · rcases Nat.lt_or_ge i j with h' | h'
        · have := h1 i h'; omega
        · obtain rfl : i = j := by omega
          omega
      · have := plZ_lt h i j (by omega) him; omega
      · rw [rtL_yes (memB_yes hm.1 hm.2), List.length_append, List.length_append, h3]
        simp; omega
    · have hno : ∀ i, i < m → V i ≠ t := by
        intro i hi e
        rcases Nat.lt_or_ge i j with h' | h'
        · have := h1 i h'; omega
        · rcases Nat.eq_or_lt_of_le h' with h'' | h''
          · subst h''; exact hm ⟨hi, e⟩
          · have := plZ_lt h i j h'' hi
            have := h2 j (Nat.le_refl _) (by omega)
            omega
      refine ⟨j, hj, fun i hi => by have := h1 i hi; omega, fun i hi him => ?_, ?_⟩
      · have := h2 i hi him
        have := hno i him
        omega
      · rw [rtL_no (memB_no hno), List.length_append, h3]
        simp; omega
theorem rtL_full {back : Int} {V : Nat → Int} {m n : Nat} {A : Nat → Int} (h : plZ V n m = 0) : (rtL back V m A n).length = n + 2 * m := by
  obtain ⟨j, hj, -, h2, h3⟩ := rtL_count (back := back) (A := A) h n (Nat.le_refl _)
  have : j = m := by
    rcases Nat.lt_or_ge j m with h' | h'
    · have := h2 j (Nat.le_refl _) h'
      have := (plZ_rise m h j h').1.2
      omega
    · omega
  rw [h3, this]
end Go.Proofs.Ythaecpcpeelcnaa

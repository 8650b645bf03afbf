/- A mesh that is mirrored has no other faults; its normals point up where they pointed down. -/
import Derived.Test.YtmcebhjcaacbpaaCM2
import Derived.Test.YtmcebhjcaacbpaaQt
import Derived.Test.YtmcebhjcaacbpaaOv
import Derived.Test.YtmcebhjcaacbpaaTi
set_option linter.unusedSimpArgs false
set_option linter.unusedVariables false
namespace Go.Proofs.Ytmcebhjcaacbpaa
open Go.RowKit
theorem w64a {n : Int} (h : -1000000000000 ≤ n ∧ n ≤ 1000000000000) : wrap64 n = n := IntWalk.wrap64_in n ⟨by omega, by omega⟩
structure VIn (v : V3) : Prop where
  x : -100000 ≤ v.x ∧ v.x ≤ 100000
  y : -100000 ≤ v.y ∧ v.y ≤ 100000
  z : -100000 ≤ v.z ∧ v.z ≤ 100000
theorem vok_in {v : V3} (h : vOk v = true) : VIn v := by
  unfold vOk inB at h
  simp only [Bool.and_eq_true, decide_eq_true_eq] at h
  exact ⟨h.1, h.2.1, h.2.2⟩
theorem in_vok {v : V3} (h : VIn v) : vOk v = true := by
  unfold vOk inB
  simp only [Bool.and_eq_true, decide_eq_true_eq]
  exact ⟨h.x, h.y, h.z⟩
theorem mv2 {v : V3} (h : VIn v) : mv 2 v = ⟨v.x, v.y, -v.z⟩ := by
  have h3 : wrap64 (-v.z) = -v.z := w64a (by have := h.z; omega)
  unfold mv
  simp [h3]
theorem mv2_in {v : V3} (h : VIn v) : VIn (mv 2 v) := by
  rw [mv2 h]
  exact ⟨h.x, h.y, by have := h.z; dsimp only; omega⟩
def nrmX (a b c : V3) : Int := (b.y - a.y) * (c.z - a.z) - (b.z - a.z) * (c.y - a.y)
def nrmY (a b c : V3) : Int := (b.z - a.z) * (c.x - a.x) - (b.x - a.x) * (c.z - a.z)
def nrmZ (a b c : V3) : Int := (b.x - a.x) * (c.y - a.y) - (b.y - a.y) * (c.x - a.x)
theorem prod_bnd {p q : Int} (hp : -200000 ≤ p ∧ p ≤ 200000) (hq : -200000 ≤ q ∧ q ≤ 200000) : -40000000000 ≤ p * q ∧ p * q ≤ 40000000000 := by
  have h1 : p.natAbs ≤ 200000 := by omega
  have h2 : q.natAbs ≤ 200000 := by omega
  have h3 : (p * q).natAbs ≤ 200000 * 200000 := by rw [Int.natAbs_mul]; exact Nat.mul_le_mul h1 h2
  omega
theorem vnorm_is {a b c : V3} (ha : VIn a) (hb : VIn b) (hc : VIn c) : vnorm a b c = ⟨nrmX a b c, nrmY a b c, nrmZ a b c⟩ := by
  obtain ⟨a1, a2, a3⟩ := ha
  obtain ⟨b1, b2, b3⟩ := hb
  obtain ⟨c1, c2, c3⟩ := hc
  unfold vnorm vcross vsub nrmX nrmY nrmZ
  dsimp only
  rw [w64a (n := b.x - a.x) (by omega), w64a (n := b.y - a.y) (by omega), w64a (n := b.z - a.z) (by omega), w64a (n := c.x - a.x) (by omega), w64a (n := c.y - a.y) (by omega), w64a (n := c.z - a.z) (by omega)]
  have q1 := prod_bnd (p := b.y - a.y) (q := c.z - a.z) (by omega) (by omega)
  have q2 := prod_bnd (p := b.z - a.z) (q := c.y - a.y) (by omega) (by omega)
  have q3 := prod_bnd (p := b.z - a.z) (q := c.x - a.x) (by omega) (by omega)
  have q4 := prod_bnd (p := b.x - a.x) (q := c.z - a.z) (by omega) (by omega)
  have q5 := prod_bnd (p := b.x - a.x) (q := c.y - a.y) (by omega) (by omega)
  have q6 := prod_bnd (p := b.y - a.y) (q := c.x - a.x) (by omega) (by omega)
  generalize (b.y - a.y) * (c.z - a.z) = p1 at *
  generalize (b.z - a.z) * (c.y - a.y) = p2 at *
  generalize (b.z - a.z) * (c.x - a.x) = p3 at *
  generalize (b.x - a.x) * (c.z - a.z) = p4 at *
  generalize (b.x - a.x) * (c.y - a.y) = p5 at *
  generalize (b.y - a.y) * (c.x - a.x) = p6 at *
  rw [w64a (n := p1) (by omega), w64a (n := p2) (by omega), w64a (n := p3) (by omega), w64a (n := p4) (by omega), w64a (n := p5) (by omega), w64a (n := p6) (by omega), w64a (n := p1 - p2) (by omega), w64a (n := p3 - p4) (by omega), w64a (n := p5 - p6) (by omega)]
theorem norm_mir {a b c : V3} (ha : VIn a) (hb : VIn b) (hc : VIn c) : vnorm (mv 2 a) (mv 2 c) (mv 2 b) = ⟨(vnorm a b c).x, (vnorm a b c).y, -(vnorm a b c).z⟩ := by
  rw [vnorm_is (mv2_in ha) (mv2_in hc) (mv2_in hb), vnorm_is ha hb hc, mv2 ha, mv2 hb, mv2 hc]
  unfold nrmX nrmY nrmZ
  dsimp only
  congr 1 <;> grind
/-- What a mesh without faults is. -/
structure MOk (nv : Nat) (V : Nat → V3) (nf : Nat) (F : Nat → V3) : Prop where
  f0 : nf ≠ 0
  b1 : nv ≤ 1000
  b2 : nf ≤ 1000
  v : ∀ i, i < nv → vOk (V i) = true
  f : ∀ i, i < nf → fIx nv (F i) = true ∧ fZero V (F i) = false
  t : twice nf F = false
theorem mok {nv nf : Nat} {V F : Nat → V3} (h : fault nv V nf F = 0) : MOk nv V nf F := by
  unfold fault at h
  split at h
  · omega
  rename_i h0
  split at h
  · omega
  rename_i h1
  split at h
  · omega
  rename_i h2
  split at h
  · omega
  rename_i h3
  split at h
  · omega
  rename_i h4
  refine ⟨h0, by omega, by omega, fun i hi => ?_, fun i hi => ?_, by simpa using h4⟩
  · have := first_none (by omega : first (vErr V) nv = 0) i hi
    unfold vErr at this
    split at this
    · assumption
    · omega
  · have := first_none (by omega : first (fErr nv V F) nf = 0) i hi
    unfold fErr at this
    split at this
    · rename_i h5
      split at this
      · omega
      · rename_i h6
        exact ⟨h5, by simpa using h6⟩
    · omega
theorem mok_fault {nv nf : Nat} {V F : Nat → V3} (h : MOk nv V nf F) : fault nv V nf F = 0 := by
  have h1 : first (vErr V) nv = 0 := first_zero fun j hj => by unfold vErr; rw [if_pos (h.v j hj)]
  have h2 : first (fErr nv V F) nf = 0 := first_zero fun j hj => by unfold fErr; rw [if_pos (h.f j hj).1, if_neg (by rw [(h.f j hj).2]; decide)]
  have a1 := h.f0
  have a2 := h.b1
  have a3 := h.b2
  unfold fault
  rw [if_neg a1, if_neg (by omega), if_neg (by omega), if_neg (by omega), if_neg (by rw [h.t]; decide)]
theorem twice_iff {nf : Nat} {F : Nat → V3} : twice nf F = false ↔ ∀ i, i < 3 * nf → ∀ j, j < i → ¬ (SX F i = SX F j ∧ SY F i = SY F j) := by
  unfold twice
  rw [List.any_eq_false]
  constructor
  · intro h i hi j hj e
    have h1 := h i (List.mem_range.2 hi)
    have h2 : hasSide i (SX F) (SY F) (SX F i) (SY F i) = false := by simpa using h1
    have h3 := hasSide_false h2 j hj
    rw [sEq_iff.2 e] at h3
    cases h3
  · intro h i hi
    have hi' := List.mem_range.1 hi
    rw [Bool.not_eq_true]
    unfold hasSide
    rw [List.any_eq_false]
    intro j hj
    have := h i hi' j (List.mem_range.1 hj)
    rw [Bool.not_eq_true]
    rcases hx : sEq (SX F i) (SY F i) (SX F j) (SY F j) with _ | _
    · rfl
    · exact absurd (sEq_iff.1 hx) this
def sig (n : Nat) : Nat := n / 3 * 3 + (2 - n % 3)
theorem sig_side (F : Nat → V3) (n : Nat) : SX (fun i => sw (F i)) n = SY F (sig n) ∧ SY (fun i => sw (F i)) n = SX F (sig n) := by
  have h : n % 3 = 0 ∨ n % 3 = 1 ∨ n % 3 = 2 := by omega
  unfold SX SY sig
  have e1 : (n / 3 * 3 + (2 - n % 3)) / 3 = n / 3 := by omega
  have e2 : (n / 3 * 3 + (2 - n % 3)) % 3 = 2 - n % 3 := by omega
  rw [e1, e2]
  rcases h with h | h | h <;> rw [h] <;> simp [sdx, sdy, sw]
theorem fault_mir {nv nf : Nat} {V F : Nat → V3} (h : fault nv V nf F = 0) : fault nv (fun i => mv 2 (V i)) nf (fun i => sw (F i)) = 0 := by
  have k := mok h
  have hv : ∀ i, i < nv → VIn (V i) := fun i hi => vok_in (k.v i hi)
  refine mok_fault ⟨k.f0, k.b1, k.b2, fun i hi => in_vok (mv2_in (hv i hi)), fun i hi => ?_, ?_⟩
  · obtain ⟨h1, h2⟩ := k.f i hi
    have h3 : fIx nv (sw (F i)) = true := by
      unfold fIx at h1 ⊢
      simp only [Bool.and_eq_true] at h1 ⊢
      exact ⟨h1.1, h1.2.2, h1.2.1⟩
    refine ⟨h3, ?_⟩
    obtain ⟨⟨x0, x1⟩, ⟨y0, y1⟩, z0, z1⟩ := good_of h i hi
    unfold fZero fNrm at h2 ⊢
    dsimp only [sw]
    rw [norm_mir (hv _ (by omega)) (hv _ (by omega)) (hv _ (by omega))]
    rcases hx : tEq (vnorm (V (F i).x.toNat) (V (F i).y.toNat) (V (F i).z.toNat)).x (vnorm (V (F i).x.toNat) (V (F i).y.toNat) (V (F i).z.toNat)).y (-(vnorm (V (F i).x.toNat) (V (F i).y.toNat) (V (F i).z.toNat)).z) 0 0 0 with _ | _
    · rfl
    · have := tEq_iff.1 hx
      rw [tEq_iff.2 ⟨this.1, this.2.1, by omega⟩] at h2
      cases h2
  · rw [twice_iff]
    have ht := twice_iff.1 k.t
    intro i hi j hj e
    rw [(sig_side F i).1, (sig_side F i).2, (sig_side F j).1, (sig_side F j).2] at e
    have s1 : sig i < 3 * nf := by unfold sig; omega
    have s2 : sig j < 3 * nf := by unfold sig; omega
    have s3 : sig i ≠ sig j := by unfold sig; omega
    rcases Nat.lt_or_gt_of_ne s3 with h1 | h1
    · exact ht (sig j) s2 (sig i) h1 ⟨e.2.symm, e.1.symm⟩
    · exact ht (sig i) s1 (sig j) h1 ⟨e.2, e.1⟩
end Go.Proofs.Ytmcebhjcaacbpaa

/- The greatest speeds that keep the limits: there is one such list, made by two passes. -/
import Derived.Test.YtdanlnmdkneepaaVe
set_option linter.unusedSimpArgs false
set_option linter.unusedVariables false
namespace Go.Proofs.Ytdanlnmdkneepaa
open Go.RowKit

theorem rt_ge {v g : Int} (hv : 0 ≤ v) (hg : 0 ≤ g) : v ≤ rt (v * v + g) := (le_rt (by have := Int.mul_nonneg hv hv; omega) hv).1 (by omega)
theorem rt_up {u v g : Int} (hu : 0 ≤ u) (h : u ≤ v) (hg : 0 ≤ g) : rt (u * u + g) ≤ rt (v * v + g) := rt_mono (by have := Int.mul_nonneg hu hu; omega) (by have := sq_le hu h; omega)
theorem rt_nng {v g : Int} (hg : 0 ≤ g) (hv : 0 ≤ v) : 0 ≤ rt (v * v + g) := rt_nn (by have := Int.mul_nonneg hv hv; omega)
/-- The way there. -/
noncomputable def fw (B G : Nat → Int) : Nat → Int
  | 0 => B 0
  | i + 1 => min (B (i + 1)) (rt (fw B G i * fw B G i + G i))
/-- The way back. -/
noncomputable def bw (F G : Nat → Int) (n : Nat) : Nat → Int
  | 0 => F n
  | k + 1 => min (F (n - (k + 1))) (rt (bw F G n k * bw F G n k + G (n - (k + 1))))
noncomputable def spd (B G : Nat → Int) (n i : Nat) : Int := bw (fw B G) G n (n - i)
/-- Bounds and gains are not below nought. -/
structure BG (B G : Nat → Int) (n : Nat) : Prop where
  b : ∀ i, i ≤ n → 0 ≤ B i
  g : ∀ i, i < n → 0 ≤ G i
section
variable {B G : Nat → Int} {n : Nat}
theorem fw_nn (h : BG B G n) : ∀ i, i ≤ n → 0 ≤ fw B G i ∧ fw B G i ≤ B i
  | 0, hi => ⟨h.b 0 hi, Int.le_refl _⟩
  | i + 1, hi => by
    have h1 := (fw_nn h i (by omega)).1
    have h2 := rt_nng (h.g i (by omega)) h1
    have h3 := h.b (i + 1) hi
    simp only [fw]
    omega
theorem fw_step (i : Nat) : fw B G (i + 1) ≤ rt (fw B G i * fw B G i + G i) := by simp only [fw]; omega
theorem spd_n : spd B G n n = fw B G n := by unfold spd; rw [Nat.sub_self]; rfl
theorem spd_step {i : Nat} (hi : i < n) : spd B G n i = min (fw B G i) (rt (spd B G n (i + 1) * spd B G n (i + 1) + G i)) := by
  unfold spd
  rw [show n - i = (n - (i + 1)) + 1 by omega]
  simp only [bw]
  rw [show n - (n - (i + 1) + 1) = i by omega]
theorem spd_nn' (h : BG B G n) : ∀ k, k ≤ n → 0 ≤ spd B G n (n - k) ∧ spd B G n (n - k) ≤ fw B G (n - k)
  | 0, _ => by rw [Nat.sub_zero, spd_n]; exact ⟨(fw_nn h n (Nat.le_refl _)).1, Int.le_refl _⟩
  | k + 1, hk => by
    have h1 := (spd_nn' h k (by omega)).1
    rw [spd_step (i := n - (k + 1)) (by omega), show n - (k + 1) + 1 = n - k by omega]
    have h2 := rt_nng (h.g (n - (k + 1)) (by omega)) h1
    have h3 := (fw_nn h (n - (k + 1)) (by omega)).1
    omega
theorem spd_nn (h : BG B G n) (i : Nat) (hi : i ≤ n) : 0 ≤ spd B G n i ∧ spd B G n i ≤ fw B G i := by
  have := spd_nn' h (n - i) (by omega)
  rwa [show n - (n - i) = i by omega] at this
theorem spd_le (h : BG B G n) (i : Nat) (hi : i ≤ n) : 0 ≤ spd B G n i ∧ spd B G n i ≤ B i := by
  have h1 := spd_nn h i hi
  have h2 := fw_nn h i hi
  omega
theorem spd_bwd {i : Nat} (hi : i < n) : spd B G n i ≤ rt (spd B G n (i + 1) * spd B G n (i + 1) + G i) := by rw [spd_step hi]; omega
theorem spd_fwd (h : BG B G n) {i : Nat} (hi : i < n) : spd B G n (i + 1) ≤ rt (spd B G n i * spd B G n i + G i) := by
  have h1 := spd_nn h (i + 1) hi
  have h0 := spd_nn h i (by omega)
  have hg := h.g i hi
  by_cases e : fw B G i ≤ rt (spd B G n (i + 1) * spd B G n (i + 1) + G i)
  · have e2 : spd B G n i = fw B G i := by rw [spd_step hi]; omega
    have := fw_step (B := B) (G := G) i
    rw [e2]; omega
  · have e2 : spd B G n i = rt (spd B G n (i + 1) * spd B G n (i + 1) + G i) := by rw [spd_step hi]; omega
    have e3 := rt_ge (v := spd B G n (i + 1)) h1.1 hg
    have e4 := rt_ge (v := spd B G n i) h0.1 hg
    omega
/-- Speeds that keep the limits. -/
structure Keeps (B G : Nat → Int) (n : Nat) (u : Nat → Int) : Prop where
  b : ∀ i, i ≤ n → 0 ≤ u i ∧ u i ≤ B i
  f : ∀ i, i < n → u (i + 1) ≤ rt (u i * u i + G i)
  k : ∀ i, i < n → u i ≤ rt (u (i + 1) * u (i + 1) + G i)
theorem top_fw {u : Nat → Int} (h : BG B G n) (hu : Keeps B G n u) : ∀ i, i ≤ n → u i ≤ fw B G i
  | 0, hi => (hu.b 0 hi).2
  | i + 1, hi => by
    have h1 := top_fw h hu i (by omega)
    have h2 := hu.f i (by omega)
    have h3 := rt_up (hu.b i (by omega)).1 h1 (h.g i (by omega))
    have h4 := (hu.b (i + 1) hi).2
    simp only [fw]; omega
theorem top_spd' {u : Nat → Int} (h : BG B G n) (hu : Keeps B G n u) : ∀ k, k ≤ n → u (n - k) ≤ spd B G n (n - k)
  | 0, _ => by rw [Nat.sub_zero, spd_n]; exact top_fw h hu n (Nat.le_refl _)
  | k + 1, hk => by
    have h1 := top_spd' h hu k (by omega)
    rw [spd_step (i := n - (k + 1)) (by omega), show n - (k + 1) + 1 = n - k by omega]
    have h2 := hu.k (n - (k + 1)) (by omega)
    rw [show n - (k + 1) + 1 = n - k by omega] at h2
    have h3 := rt_up (hu.b (n - k) (by omega)).1 h1 (h.g (n - (k + 1)) (by omega))
    have h4 := top_fw h hu (n - (k + 1)) (by omega)
    omega
theorem top_spd {u : Nat → Int} (h : BG B G n) (hu : Keeps B G n u) (i : Nat) (hi : i ≤ n) : u i ≤ spd B G n i := by
  have := top_spd' h hu (n - i) (by omega)
  rwa [show n - (n - i) = i by omega] at this
end

/-! ### Legs: bounds and gains -/
def bndZ (n : Nat) (M C : Nat → Int) (i : Nat) : Int := if i = 0 ∨ i = n then 0 else min (min (C (i - 1)) (M (i - 1))) (M i)
def gnZ (L : Nat → Int) (c : Int) (i : Nat) : Int := gainZ c (L i)
theorem bndZ_0 {n : Nat} {M C : Nat → Int} : bndZ n M C 0 = 0 := by unfold bndZ; rw [if_pos (.inl rfl)]
theorem bndZ_n {n : Nat} {M C : Nat → Int} : bndZ n M C n = 0 := by unfold bndZ; rw [if_pos (.inr rfl)]
theorem bndZ_mid {n i : Nat} {M C : Nat → Int} (h : i + 1 < n) : bndZ n M C (i + 1) = min (min (C i) (M i)) (M (i + 1)) := by unfold bndZ; rw [if_neg (by omega), Nat.add_sub_cancel]
theorem MOk.bnd {n : Nat} {L M : Nat → Int} {k : Nat} {C : Nat → Int} {c : Int} (h : MOk n L M k C c) (i : Nat) (hi : i ≤ n) : 0 ≤ bndZ n M C i ∧ bndZ n M C i ≤ 100000 := by
  unfold bndZ
  split
  · omega
  · have h1 := h.kn
    have h2 := h.cr (i - 1) (by omega)
    have h3 := h.lg (i - 1) (by omega)
    have h4 := h.lg i (by omega)
    omega
theorem MOk.gn {n : Nat} {L M : Nat → Int} {k : Nat} {C : Nat → Int} {c : Int} (h : MOk n L M k C c) (i : Nat) (hi : i < n) : 0 ≤ gnZ L c i ∧ gnZ L c i ≤ 4000000000000 := by
  have h4 := h.lg i hi
  exact gainZ_bnd h.ch ⟨h4.1, h4.2.1⟩
theorem MOk.bg {n : Nat} {L M : Nat → Int} {k : Nat} {C : Nat → Int} {c : Int} (h : MOk n L M k C c) : BG (bndZ n M C) (gnZ L c) n := ⟨fun i hi => (h.bnd i hi).1, fun i hi => (h.gn i hi).1⟩
theorem MOk.bm {n : Nat} {L M : Nat → Int} {k : Nat} {C : Nat → Int} {c : Int} (h : MOk n L M k C c) (i : Nat) (hi : i < n) : bndZ n M C i ≤ M i ∧ bndZ n M C (i + 1) ≤ M i := by
  have h4 := h.lg i hi
  unfold bndZ
  constructor
  · split <;> omega
  · split
    · omega
    · rw [Nat.add_sub_cancel]; omega
/-- The speeds of legs. -/
noncomputable def spZ (n : Nat) (L M C : Nat → Int) (c : Int) (i : Nat) : Int := spd (bndZ n M C) (gnZ L c) n i
theorem MOk.sp {n : Nat} {L M : Nat → Int} {k : Nat} {C : Nat → Int} {c : Int} (h : MOk n L M k C c) (i : Nat) (hi : i ≤ n) : 0 ≤ spZ n L M C c i ∧ spZ n L M C c i ≤ bndZ n M C i ∧ spZ n L M C c i ≤ 100000 := by
  have h1 := spd_le h.bg i hi
  have h2 := h.bnd i hi
  unfold spZ; omega
noncomputable def fwZ (n : Nat) (L M C : Nat → Int) (c : Int) (i : Nat) : Int := fw (bndZ n M C) (gnZ L c) i
theorem MOk.fw {n : Nat} {L M : Nat → Int} {k : Nat} {C : Nat → Int} {c : Int} (h : MOk n L M k C c) (i : Nat) (hi : i ≤ n) : 0 ≤ fwZ n L M C c i ∧ fwZ n L M C c i ≤ bndZ n M C i ∧ fwZ n L M C c i ≤ 100000 := by
  have h1 := fw_nn h.bg i hi
  have h2 := h.bnd i hi
  unfold fwZ; omega
theorem MOk.fws {n : Nat} {L M : Nat → Int} {k : Nat} {C : Nat → Int} {c : Int} (h : MOk n L M k C c) (i : Nat) (hi : i < n) : fwZ n L M C c (i + 1) = min (bndZ n M C (i + 1)) (oppZ (fwZ n L M C c i) (M i) (gainZ c (L i))) := by
  have h1 := (h.bm i hi).2
  unfold fwZ oppZ
  simp only [Go.Proofs.Ytdanlnmdkneepaa.fw]
  rw [show gnZ L c i = gainZ c (L i) from rfl]
  omega
theorem MOk.sps {n : Nat} {L M : Nat → Int} {k : Nat} {C : Nat → Int} {c : Int} (h : MOk n L M k C c) (i : Nat) (hi : i < n) : spZ n L M C c i = min (fwZ n L M C c i) (oppZ (spZ n L M C c (i + 1)) (M i) (gainZ c (L i))) := by
  have h1 := (h.bm i hi).1
  have h2 := (fw_nn h.bg i (by omega)).2
  unfold spZ fwZ oppZ
  rw [spd_step hi, show gnZ L c i = gainZ c (L i) from rfl]
  omega
theorem spZ_n {n : Nat} {L M C : Nat → Int} {c : Int} : spZ n L M C c n = fwZ n L M C c n := spd_n
theorem fwZ_0 {n : Nat} {L M C : Nat → Int} {c : Int} : fwZ n L M C c 0 = bndZ n M C 0 := rfl
end Go.Proofs.Ytdanlnmdkneepaa

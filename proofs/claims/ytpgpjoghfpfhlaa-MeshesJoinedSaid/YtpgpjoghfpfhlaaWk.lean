/- Places as keys of maps: the first vertex at each place. -/
import Derived.Test.YtpgpjoghfpfhlaaKey
import Derived.Test.YtpgpjoghfpfhlaaCq
set_option linter.unusedSimpArgs false
set_option linter.unusedVariables false
namespace Go.Proofs.Ytpgpjoghfpfhlaa
open Go.RowKit Go.Maps

theorem vecKeyed : Keyed Try.prog 47 :=
  Keyed.of_law (deep_law_laid (m := 100) laidOut' (by decide) (of_decide_eq_true (by kernel_rfl)) (by kernel_rfl) (by kernel_rfl))
def VK (v : V3) : Lit := .string (keyBytes [.int .i64 v.x, .int .i64 v.y, .int .i64 v.z])
def Wf3 (v : V3) : Prop := Wf v.x ∧ Wf v.y ∧ Wf v.z
theorem key_vec (p q r : Int) (hp : (Lit.int .i64 p).wf = true) (hq : (Lit.int .i64 q).wf = true) (hr : (Lit.int .i64 r).wf = true) : keyOf Try.prog 47 (.agg #[.int .i64 p, .int .i64 q, .int .i64 r]) = some (VK ⟨p, q, r⟩) := by
  have hk : Try.prog.keyType 47 = true := by kernel_rfl
  have hf : (Value.agg #[.int .i64 p, .int .i64 q, .int .i64 r]).formed Try.prog 47 = true := by kernel_rfl
  have c3 : Try.prog.cellsOf 47 = 3 := by kernel_rfl
  have c1 : Try.prog.cellsOf 3 = 1 := by kernel_rfl
  obtain ⟨d, hd⟩ : ∃ d, Try.prog.types.size + 1 = d + 2 := ⟨Try.prog.types.size - 1, by
    have : 1 ≤ Try.prog.types.size := of_decide_eq_true (by kernel_rfl)
    omega⟩
  have hcs : (Value.agg #[.int .i64 p, .int .i64 q, .int .i64 r]).cells.toList = [.int .i64 p, .int .i64 q, .int .i64 r] := rfl
  unfold keyOf
  rw [Try.underlying47, hd]
  simp only [hk, hf, Bool.and_self, if_true, hcs]
  simp [Program.keyLits, Try.underlying47, Try.underlying3, VK, hp, hq, hr, c1, c3]
theorem vk_lit (v : V3) : WideAt.IsKeyLit (VK v) := by simp [VK, WideAt.IsKeyLit]
theorem vk_inj {v u : V3} (hv : Wf3 v) (hu : Wf3 u) (h : VK v = VK u) : v = u := by
  have h1 := key_vec v.x v.y v.z hv.1 hv.2.1 hv.2.2
  have h2 := key_vec u.x u.y u.z hu.1 hu.2.1 hu.2.2
  rw [show (⟨u.x, u.y, u.z⟩ : V3) = u from rfl, ← h] at h2
  have := vecKeyed.inj h1 h2
  cases v; cases u; simpa using this

def vEq (v u : V3) : Bool := tEq v.x v.y v.z u.x u.y u.z
theorem vEq_iff {v u : V3} : vEq v u = true ↔ v = u := by
  rw [vEq, tEq_iff]; cases v; cases u; simp
/-- The first of n vertices at a place; n if there is none. -/
def ixV (V : Nat → V3) (v : V3) : Nat → Nat
  | 0 => 0
  | n + 1 => if ixV V v n < n then ixV V v n else if vEq v (V n) = true then n else n + 1
theorem ixV_le (V : Nat → V3) (v : V3) (n : Nat) : ixV V v n ≤ n := by
  induction n with
  | zero => simp [ixV]
  | succ n ih => simp only [ixV]; split; · omega
                 · split <;> omega
theorem ixV_hit {V : Nat → V3} {v : V3} {n : Nat} (h : ixV V v n < n) : V (ixV V v n) = v := by
  induction n with
  | zero => omega
  | succ n ih =>
    simp only [ixV] at h ⊢
    split
    · rename_i h1; exact ih h1
    · rename_i h1
      split
      · rename_i h2; exact (vEq_iff.1 h2).symm
      · rename_i h2; simp [h1, h2] at h
theorem ixV_lt {V : Nat → V3} {v : V3} {n i : Nat} (hi : i < n) (h : V i = v) : ixV V v n < n := by
  induction n with
  | zero => omega
  | succ n ih =>
    simp only [ixV]
    split
    · omega
    · rename_i h1
      split
      · omega
      · rename_i h2
        exfalso
        by_cases e : i = n
        · subst e; exact h2 (vEq_iff.2 h.symm)
        · exact h1 (ih (by omega))
/-- The map from places to the first vertex there, after k vertices. -/
def VD (V : Nat → V3) : Nat → DataW Unit
  | 0 => .map []
  | k + 1 => if ixV V (V k) k < k then VD V k else (VD V k).put (VK (V k)) (.lit (.int .i64 (k : Int)))
theorem vd_tidy (V : Nat → V3) (n : Nat) : Tidy (VD V n) := by
  induction n with
  | zero => exact tidy_empty
  | succ n ih => simp only [VD]; split; · exact ih
                 · exact ih.put (vk_lit _) _
theorem ixV_succ (V : Nat → V3) (v : V3) (n : Nat) : ixV V v (n + 1) < n + 1 ↔ (ixV V v n < n ∨ vEq v (V n) = true) := by
  simp only [ixV]
  by_cases h1 : ixV V v n < n
  · rw [if_pos h1]; exact ⟨fun _ => .inl h1, fun _ => by omega⟩
  · rw [if_neg h1]
    by_cases h2 : vEq v (V n) = true
    · rw [if_pos h2]; exact ⟨fun _ => .inr h2, fun _ => by omega⟩
    · rw [if_neg h2]; exact ⟨fun h => by omega, fun h => by rcases h with h | h <;> contradiction⟩
theorem vd_has {V : Nat → V3} {n : Nat} {v : V3} (hV : ∀ i, i < n → Wf3 (V i)) (hv : Wf3 v) : Maps.has (VD V n) (VK v) = true ↔ ixV V v n < n := by
  induction n with
  | zero => simp [VD, has_eq]
  | succ n ih =>
    have ih' := ih fun i hi => hV i (by omega)
    rw [ixV_succ]
    simp only [VD]
    by_cases h : VK v = VK (V n)
    · have e := vk_inj hv (hV n (by omega)) h
      subst e
      by_cases h1 : ixV V (V n) n < n
      · rw [if_pos h1, ih']; exact ⟨.inl, fun _ => h1⟩
      · rw [if_neg h1, has_put_same (vd_tidy V n).isMap (vk_lit _)]; exact ⟨fun _ => .inr (vEq_iff.2 rfl), fun _ => rfl⟩
    · have e : ¬ vEq v (V n) = true := fun e => by rw [vEq_iff.1 e] at h; exact h rfl
      have : Maps.has (if ixV V (V n) n < n then VD V n else (VD V n).put (VK (V n)) (.lit (.int .i64 (n : Int)))) (VK v) = Maps.has (VD V n) (VK v) := by
        split
        · rfl
        · exact has_put_other h _
      rw [this, ih']
      exact ⟨.inl, fun h => by rcases h with h | h; · exact h
                               · contradiction⟩
theorem vd_at {V : Nat → V3} {n : Nat} {v : V3} (hV : ∀ i, i < n → Wf3 (V i)) (hv : Wf3 v) (h : ixV V v n < n) (z : DataW Unit) : (VD V n).atKey (VK v) z = .lit (.int .i64 (ixV V v n : Int)) := by
  induction n with
  | zero => omega
  | succ n ih =>
    have ih' := ih fun i hi => hV i (by omega)
    simp only [VD, ixV] at h ⊢
    by_cases hk : VK v = VK (V n)
    · have e := vk_inj hv (hV n (by omega)) hk
      subst e
      by_cases h1 : ixV V (V n) n < n
      · rw [if_pos h1, if_pos h1]; exact ih' h1
      · rw [if_neg h1, if_neg h1, if_pos (vEq_iff.2 rfl)]; exact atKey_put_same (vd_tidy V n).isMap (vk_lit _) _ _
    · have e : vEq v (V n) = false := by
        cases e : vEq v (V n)
        · rfl
        · rw [vEq_iff.1 e] at hk; exact absurd rfl hk
      have h1 : ixV V v n < n := by
        by_cases h1 : ixV V v n < n
        · exact h1
        · rw [if_neg h1, e] at h; simp at h
      rw [if_pos h1, ← ih' h1]
      split
      · rfl
      · exact atKey_put_other hk _ _
end Go.Proofs.Ytpgpjoghfpfhlaa

/- Sides as keys of maps. -/
import Derived.Test.YtmcebhjcaacbpaaFault2
import Derived.Maps.OwnSet
import Derived.Maps.OwnOps
import Derived.Maps.Views
set_option linter.unusedSimpArgs false
set_option linter.unusedVariables false
namespace Go.Proofs.Ytmcebhjcaacbpaa
open Go.RowKit Go.Maps

theorem laidOut' : laidOutB Try.prog = true := by kernel_rfl
theorem sideKeyed : Keyed Try.prog 102 :=
  Keyed.of_law (deep_law_laid (m := 100) laidOut' (by decide) (of_decide_eq_true (by kernel_rfl)) (by kernel_rfl) (by kernel_rfl))
def SK (p q : Int) : Lit := .string (keyBytes [.int .i64 p, .int .i64 q])
theorem key_side (p q : Int) (hp : (Lit.int .i64 p).wf = true) (hq : (Lit.int .i64 q).wf = true) : keyOf Try.prog 102 (.agg #[.int .i64 p, .int .i64 q]) = some (SK p q) := by
  have hk : Try.prog.keyType 102 = true := by kernel_rfl
  have hf : (Value.agg #[.int .i64 p, .int .i64 q]).formed Try.prog 102 = true := by kernel_rfl
  have c2 : Try.prog.cellsOf 102 = 2 := by kernel_rfl
  have c1 : Try.prog.cellsOf 3 = 1 := by kernel_rfl
  obtain ⟨d, hd⟩ : ∃ d, Try.prog.types.size + 1 = d + 2 := ⟨Try.prog.types.size - 1, by
    have : 1 ≤ Try.prog.types.size := of_decide_eq_true (by kernel_rfl)
    omega⟩
  have hcs : (Value.agg #[.int .i64 p, .int .i64 q]).cells.toList = [.int .i64 p, .int .i64 q] := rfl
  unfold keyOf
  rw [Try.underlying102, hd]
  simp only [hk, hf, Bool.and_self, if_true, hcs]
  simp [Program.keyLits, Try.underlying102, Try.underlying3, SK, hp, hq, c1, c2]

theorem sk_lit (p q : Int) : WideAt.IsKeyLit (SK p q) := by simp [SK, WideAt.IsKeyLit]
/-- A number that fits. -/
def Wf (n : Int) : Prop := (Lit.int .i64 n).wf = true
theorem wf_of {n : Int} (h : -9000000000000000000 ≤ n ∧ n ≤ 9000000000000000000) : Wf n := WalkArith.wf_i64 (by omega)
theorem sk_inj {p q p' q' : Int} (hp : Wf p) (hq : Wf q) (hp' : Wf p') (hq' : Wf q') (h : SK p q = SK p' q') : p = p' ∧ q = q' := by
  have h1 := key_side p q hp hq
  have h2 := key_side p' q' hp' hq'
  rw [← h] at h2
  have := sideKeyed.inj h1 h2
  simpa using this

/-- The map from sides to faces, after n sides. -/
def SD (X Y : Nat → Int) : Nat → DataW Unit
  | 0 => .map []
  | n + 1 => (SD X Y n).put (SK (X n) (Y n)) (.lit (.int .i64 ((n / 3 : Nat) : Int)))
theorem sd_tidy (X Y : Nat → Int) (n : Nat) : Tidy (SD X Y n) := by
  induction n with
  | zero => exact tidy_empty
  | succ n ih => exact ih.put (sk_lit _ _) _
theorem hasSide_succ (n : Nat) (X Y : Nat → Int) (p q : Int) : hasSide (n + 1) X Y p q = (hasSide n X Y p q || sEq p q (X n) (Y n)) := by
  simp [hasSide, List.range_succ]
theorem sd_has {X Y : Nat → Int} {n : Nat} {p q : Int} (hX : ∀ i, i < n → Wf (X i) ∧ Wf (Y i)) (hp : Wf p) (hq : Wf q) : Maps.has (SD X Y n) (SK p q) = hasSide n X Y p q := by
  induction n with
  | zero => simp [SD, hasSide, has_eq]
  | succ n ih =>
    rw [hasSide_succ, ← ih fun i hi => hX i (by omega)]
    simp only [SD]
    by_cases h : SK p q = SK (X n) (Y n)
    · obtain ⟨rfl, rfl⟩ := sk_inj hp hq (hX n (by omega)).1 (hX n (by omega)).2 h
      rw [has_put_same (sd_tidy X Y n).isMap (sk_lit _ _)]
      simp [sEq]
    · rw [has_put_other h]
      have : sEq p q (X n) (Y n) = false := by
        cases e : sEq p q (X n) (Y n)
        · rfl
        · obtain ⟨rfl, rfl⟩ := sEq_iff.1 e; exact absurd rfl h
      rw [this, Bool.or_false]
theorem sd_size {X Y : Nat → Int} {n : Nat} (hX : ∀ i, i < n → Wf (X i) ∧ Wf (Y i)) :
    Maps.size (SD X Y n) ≤ n ∧ ((∀ i, i < n → hasSide i X Y (X i) (Y i) = false) → Maps.size (SD X Y n) = n) ∧ (∀ i, i < n → hasSide i X Y (X i) (Y i) = true → Maps.size (SD X Y n) < n) := by
  induction n with
  | zero => exact ⟨by simp [SD, size_eq], fun _ => by simp [SD, size_eq], fun i hi => by omega⟩
  | succ n ih =>
    obtain ⟨h1, h2, h3⟩ := ih fun i hi => hX i (by omega)
    have hh := sd_has (n := n) (p := X n) (q := Y n) (fun i hi => hX i (by omega)) (hX n (by omega)).1 (hX n (by omega)).2
    have hs := size_put (k := SK (X n) (Y n)) (sd_tidy X Y n) (.lit (.int .i64 ((n / 3 : Nat) : Int)))
    simp only [SD]
    rw [hs, hh]
    refine ⟨by split <;> omega, fun hd => ?_, fun i hi ht => ?_⟩
    · rw [hd n (by omega), if_neg (by simp), h2 fun i hi => hd i (by omega)]
    · by_cases e : i = n
      · subst e; rw [ht, if_pos rfl]; omega
      · have := h3 i (by omega) ht
        split <;> omega
end Go.Proofs.Ytmcebhjcaacbpaa

/- Cells of a grid as keys of a map. -/
import Derived.Test.YtllagjncibfcmaaGreatDoorCe
import Derived.Maps.OwnSet
import Derived.Maps.OwnOps
import Derived.Maps.Views
import Derived.Carry
import Derived.DeepKeys4
set_option linter.unusedSimpArgs false
set_option linter.unusedVariables false
namespace Go.Proofs.YtllagjncibfcmaaGreatDoor
open Go.RowKit Go.Maps

theorem laidOutS : laidOutB Tryz.prog = true := by kernel_rfl
theorem spotKeyed : Keyed Tryz.prog 72 :=
  Keyed.of_law (deep_law_laid (m := 100) laidOutS (by decide) (of_decide_eq_true (by kernel_rfl)) (by kernel_rfl) (by kernel_rfl))
def SPK (p q : Int) : Lit := .string (keyBytes [.int .i64 p, .int .i64 q])
theorem key_spot (p q : Int) (hp : (Lit.int .i64 p).wf = true) (hq : (Lit.int .i64 q).wf = true) : keyOf Tryz.prog 72 (.agg #[.int .i64 p, .int .i64 q]) = some (SPK p q) := by
  have hk : Tryz.prog.keyType 72 = true := by kernel_rfl
  have hf : (Value.agg #[.int .i64 p, .int .i64 q]).formed Tryz.prog 72 = true := by kernel_rfl
  have c2 : Tryz.prog.cellsOf 72 = 2 := by kernel_rfl
  have c1 : Tryz.prog.cellsOf 3 = 1 := by kernel_rfl
  obtain ⟨d, hd⟩ : ∃ d, Tryz.prog.types.size + 1 = d + 2 := ⟨Tryz.prog.types.size - 1, by
    have : 1 ≤ Tryz.prog.types.size := of_decide_eq_true (by kernel_rfl)
    omega⟩
  have hcs : (Value.agg #[.int .i64 p, .int .i64 q]).cells.toList = [.int .i64 p, .int .i64 q] := rfl
  unfold keyOf
  rw [Tryz.underlying72, hd]
  simp only [hk, hf, Bool.and_self, if_true, hcs]
  simp [Program.keyLits, Tryz.underlying72, Tryz.underlying3, SPK, hp, hq, c1, c2]
theorem spk_lit (p q : Int) : WideAt.IsKeyLit (SPK p q) := by simp [SPK, WideAt.IsKeyLit]
theorem spk_inj {p q p' q' : Int} (hp : (Lit.int .i64 p).wf = true) (hq : (Lit.int .i64 q).wf = true) (hp' : (Lit.int .i64 p').wf = true) (hq' : (Lit.int .i64 q').wf = true) (h : SPK p q = SPK p' q') : p = p' ∧ q = q' := by
  have h1 := key_spot p q hp hq
  have h2 := key_spot p' q' hp' hq'
  rw [← h] at h2
  have := spotKeyed.inj h1 h2
  simpa using this

def smx (n : Int) : Prop := -10000000 ≤ n ∧ n ≤ 10000000
theorem smx_wf {n : Int} (h : smx n) : (Lit.int .i64 n).wf = true := WalkArith.wf_i64 (by unfold smx at h; omega)
def dput (D : DataW Unit) (p : Int × Int) : DataW Unit := D.put (SPK p.1 p.2) (.lit (.bool true))
/-- The set of some cells. -/
def DS (l : List (Int × Int)) : DataW Unit := l.foldl dput (.map [])
theorem ds_snoc (l : List (Int × Int)) (c r : Int) : DS (l ++ [(c, r)]) = (DS l).put (SPK c r) (.lit (.bool true)) := by simp [DS, List.foldl_append, dput]
theorem dput_tidy : ∀ (l : List (Int × Int)) (D : DataW Unit), Tidy D → Tidy (l.foldl dput D)
  | [], _, h => h
  | p :: l, D, h => dput_tidy l _ (h.put (spk_lit _ _) _)
theorem ds_tidy (l : List (Int × Int)) : Tidy (DS l) := dput_tidy l _ tidy_empty
theorem dput_has {c r : Int} (hc : smx c) (hr : smx r) : ∀ (l : List (Int × Int)) (D : DataW Unit), Tidy D → (∀ p ∈ l, smx p.1 ∧ smx p.2) → Maps.has (l.foldl dput D) (SPK c r) = (Maps.has D (SPK c r) || decide ((c, r) ∈ l))
  | [], D, _, _ => by simp
  | p :: l, D, hD, hl => by
    have hp := hl p (by simp)
    rw [List.foldl_cons, dput_has hc hr l _ (show Tidy (dput D p) from hD.put (spk_lit _ _) _) (fun q hq => hl q (by simp [hq]))]
    unfold dput
    by_cases e : SPK c r = SPK p.1 p.2
    · obtain ⟨e1, e2⟩ := spk_inj (smx_wf hc) (smx_wf hr) (smx_wf hp.1) (smx_wf hp.2) e
      rw [e, has_put_same hD.isMap (spk_lit _ _)]
      have : (c, r) = p := by rw [e1, e2]
      simp [this]
    · rw [has_put_other e]
      have : (c, r) ≠ p := fun h => e (by rw [← h])
      simp [this]
theorem ds_has {c r : Int} (hc : smx c) (hr : smx r) (l : List (Int × Int)) (hl : ∀ p ∈ l, smx p.1 ∧ smx p.2) : Maps.has (DS l) (SPK c r) = decide ((c, r) ∈ l) := by
  unfold DS
  rw [dput_has hc hr l _ tidy_empty hl]
  simp [has_eq]
/-- The covered cells of a row, of rows. -/
def rowL (cx y : Int) (l : List UInt8) : Nat → List (Int × Int)
  | 0 => []
  | j + 1 => rowL cx y l j ++ (if l[j]? = some 35 then [(cx + j, y)] else [])
def setL (cx cy : Int) (R : Nat → List UInt8) : Nat → List (Int × Int)
  | 0 => []
  | i + 1 => setL cx cy R i ++ rowL cx (cy + i) (R i) (R i).length
theorem rowL_mem {cx y : Int} {l : List UInt8} {c r : Int} : ∀ {m : Nat}, (c, r) ∈ rowL cx y l m ↔ r = y ∧ ∃ j : Nat, j < m ∧ l[j]? = some 35 ∧ c = cx + j
  | 0 => by simp [rowL]
  | m + 1 => by
    simp only [rowL, List.mem_append, rowL_mem (m := m)]
    constructor
    · rintro (⟨h1, j, h2, h3, h4⟩ | h)
      · exact ⟨h1, j, by omega, h3, h4⟩
      · split at h
        · simp at h; exact ⟨h.2, m, by omega, by assumption, h.1⟩
        · simp at h
    · rintro ⟨h1, j, h2, h3, h4⟩
      by_cases e : j = m
      · subst e; right; rw [if_pos h3]; simp [h1, h4]
      · left; exact ⟨h1, j, by omega, h3, h4⟩
theorem setL_mem {cx cy : Int} {R : Nat → List UInt8} {c r : Int} : ∀ {n : Nat}, (c, r) ∈ setL cx cy R n ↔ ∃ i : Nat, i < n ∧ r = cy + i ∧ ∃ j : Nat, (R i)[j]? = some 35 ∧ c = cx + j
  | 0 => by simp [setL]
  | n + 1 => by
    simp only [setL, List.mem_append, setL_mem (n := n), rowL_mem]
    constructor
    · rintro (⟨i, h1, h2, h3⟩ | ⟨h1, j, h2, h3, h4⟩)
      · exact ⟨i, by omega, h2, h3⟩
      · exact ⟨n, by omega, h1, j, h3, h4⟩
    · rintro ⟨i, h1, h2, j, h3, h4⟩
      by_cases e : i = n
      · subst e; right; exact ⟨h2, j, (List.getElem?_eq_some_iff.1 h3).1, h3, h4⟩
      · left; exact ⟨i, by omega, h2, j, h3, h4⟩
end Go.Proofs.YtllagjncibfcmaaGreatDoor

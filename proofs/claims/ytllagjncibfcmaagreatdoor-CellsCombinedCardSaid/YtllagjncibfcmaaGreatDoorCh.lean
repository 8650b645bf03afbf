/- Keys of a set of cells, read back. -/
import Derived.Test.YtllagjncibfcmaaGreatDoorCg
import Derived.Maps.RangeWalk
set_option linter.unusedSimpArgs false
set_option linter.unusedVariables false
namespace Go.Proofs.YtllagjncibfcmaaGreatDoor
open Go.RowKit Go.Maps

set_option maxRecDepth 100000 in
theorem key_spot_inv {v : Value} {kl : Lit} (h : keyOf Tryz.prog 72 v = some kl) : ∃ p : Int × Int, v = .agg #[.int .i64 p.1, .int .i64 p.2] ∧ kl = SPK p.1 p.2 ∧ (Lit.int .i64 p.1).wf = true ∧ (Lit.int .i64 p.2).wf = true := by
  have hk : Tryz.prog.keyType 72 = true := by kernel_rfl
  have c2 : Tryz.prog.cellsOf 72 = 2 := by kernel_rfl
  have c1 : Tryz.prog.cellsOf 3 = 1 := by kernel_rfl
  obtain ⟨d, hd⟩ : ∃ d, Tryz.prog.types.size + 1 = d + 2 := ⟨Tryz.prog.types.size - 1, by
    have : 1 ≤ Tryz.prog.types.size := of_decide_eq_true (by kernel_rfl)
    omega⟩
  have hform : ∃ cs : Array Value, v = .agg cs ∧ cs.size = 2 := by
    cases v <;> simp [keyOf, Tryz.underlying72, Value.formed, c2] at h
    exact ⟨_, rfl, h.1.2⟩
  obtain ⟨cs, rfl, hcs⟩ := hform
  obtain ⟨l⟩ := cs
  have hl2 : l.length = 2 := by simpa using hcs
  obtain ⟨a, b, rfl⟩ : ∃ a b, l = [a, b] := by
    rcases l with _ | ⟨a, _ | ⟨b, _ | ⟨c, r⟩⟩⟩
    · cases hl2
    · cases hl2
    · exact ⟨a, b, rfl⟩
    · simp at hl2
  have h0 := h
  have hcl : (Value.agg [a, b].toArray).cells.toList = [a, b] := rfl
  unfold keyOf at h
  rw [Tryz.underlying72, hd] at h
  simp only [hcl] at h
  obtain ⟨x, rfl, hx⟩ : ∃ x, a = .int .i64 x ∧ (Lit.int .i64 x).wf = true := by
    cases a <;> first | (exfalso; simp [Program.keyLits, Tryz.underlying72, Tryz.underlying3, c1, c2] at h; done) | skip
    rename_i q x
    by_cases hq : q = IntKind.i64 ∧ (Lit.int IntKind.i64 x).wf = true
    · exact ⟨x, by rw [hq.1], hq.2⟩
    · exfalso
      simp [Program.keyLits, Tryz.underlying72, Tryz.underlying3, c1, c2, hq] at h
  obtain ⟨y, rfl, hy⟩ : ∃ x, b = .int .i64 x ∧ (Lit.int .i64 x).wf = true := by
    cases b <;> first | (exfalso; simp [Program.keyLits, Tryz.underlying72, Tryz.underlying3, c1, c2, hx] at h; done) | skip
    rename_i q y
    by_cases hq : q = IntKind.i64 ∧ (Lit.int IntKind.i64 y).wf = true
    · exact ⟨y, by rw [hq.1], hq.2⟩
    · exfalso
      simp [Program.keyLits, Tryz.underlying72, Tryz.underlying3, c1, c2, hq, hx] at h
  have h1 := key_spot x y hx hy
  have h2 : some (SPK x y) = some kl := h1.symm.trans h0
  exact ⟨(x, y), rfl, (Option.some.inj h2).symm, hx, hy⟩
theorem dput_mem {kl : Lit} : ∀ (l : List (Int × Int)) (D : DataW Unit), Tidy D → Maps.has (l.foldl dput D) kl = true → Maps.has D kl = true ∨ ∃ p ∈ l, kl = SPK p.1 p.2
  | [], D, _, h => .inl h
  | p :: l, D, hD, h => by
    have hT : Tidy (dput D p) := hD.put (spk_lit _ _) _
    rcases dput_mem l (dput D p) hT h with h | ⟨q, hq, e⟩
    · by_cases e : kl = SPK p.1 p.2
      · exact .inr ⟨p, by simp, e⟩
      · unfold dput at h
        rw [has_put_other e] at h
        exact .inl h
    · exact .inr ⟨q, by simp [hq], e⟩
theorem ds_mem {kl : Lit} {l : List (Int × Int)} (h : Maps.has (DS l) kl = true) : ∃ p ∈ l, kl = SPK p.1 p.2 := by
  rcases dput_mem l _ tidy_empty h with h | h
  · simp [has_eq] at h
  · exact h
end Go.Proofs.YtllagjncibfcmaaGreatDoor

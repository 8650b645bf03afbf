/- The reference's MeshFault behind its first tests: the faces, then their sides. -/
import Derived.Test.YtmcebhjcaacbpaaMF
set_option linter.unusedSimpArgs false
set_option linter.unusedVariables false
namespace Go.Proofs.Ytmcebhjcaacbpaa
open Go.RowKit

/-- The cells of the first n sides. -/
def flat (F : Nat → V3) : Nat → List Value
  | 0 => []
  | n + 1 => flat F n ++ [.int .i64 (SX F n), .int .i64 (SY F n)]
theorem flat_length (F : Nat → V3) (n : Nat) : (flat F n).length = n * 2 := by
  induction n with
  | zero => rfl
  | succ n ih => simp [flat, ih]; omega
theorem flat_get (F : Nat → V3) (n i : Nat) (hi : i < n) : (flat F n)[i * 2]? = some (.int .i64 (SX F i)) ∧ (flat F n)[i * 2 + 1]? = some (.int .i64 (SY F i)) := by
  induction n with
  | zero => omega
  | succ n ih =>
    have hl := flat_length F n
    simp only [flat]
    by_cases h : i = n
    · subst h
      rw [List.getElem?_append_right (by omega), List.getElem?_append_right (by omega), hl]
      simp
    · rw [List.getElem?_append_left (by omega), List.getElem?_append_left (by omega)]
      exact ih (by omega)
/-- No two of the first n sides are the same. -/
def Dis (F : Nat → V3) (n : Nat) : Prop := ∀ i, i < n → hasSide i (SX F) (SY F) (SX F i) (SY F i) = false
theorem twice_no {nf : Nat} {F : Nat → V3} (h : Dis F (3 * nf)) : twice nf F = false := by
  simp only [twice, List.any_eq_false, List.mem_range]
  intro i hi
  simp [h i hi]
theorem twice_yes {nf : Nat} {F : Nat → V3} {i : Nat} (hi : i < 3 * nf) (h : hasSide i (SX F) (SY F) (SX F i) (SY F i) = true) : twice nf F = true := by
  simp only [twice, List.any_eq_true, List.mem_range]
  exact ⟨i, hi, h⟩
theorem SX_at (F : Nat → V3) (k t : Nat) (ht : t < 3) : SX F (3 * k + t) = sdx (F k) t := by
  unfold SX; rw [show (3 * k + t) / 3 = k by omega, show (3 * k + t) % 3 = t by omega]
theorem SY_at (F : Nat → V3) (k t : Nat) (ht : t < 3) : SY F (3 * k + t) = sdy (F k) t := by
  unfold SY; rw [show (3 * k + t) / 3 = k by omega, show (3 * k + t) % 3 = t by omega]

theorem own_slice {w : World} {base : Nat} {e : TypeId} {size : Nat} {v : Value} {n : Nat} {xs : List Value} (h : w.ownsRow base e size v n xs) : ∃ ao cap, v = .slice ao n cap := by
  rcases h.2 with ⟨rfl, rfl⟩ | ⟨g, cap, _, rfl, _⟩
  · exact ⟨_, _, rfl⟩
  · exact ⟨_, _, rfl⟩
theorem own_prs {w : World} {base : Nat} {e : TypeId} {ao : Option Addr} {cap n : Nat} {F : Nat → V3} (h : w.ownsRow base e 2 (.slice ao n cap) n (flat F n)) :
    n = 0 ∨ ∃ b off, ao = some ⟨b, off, none⟩ ∧ b < w.heap.size ∧ Prs w b off n (SX F) (SY F) := by
  by_cases hn : n = 0
  · exact .inl hn
  obtain ⟨g, cap', hv, _, hlt⟩ := h.form (by omega)
  simp only [Value.slice.injEq, true_and] at hv
  obtain ⟨rfl, rfl⟩ := hv
  refine .inr ⟨g, 0, rfl, hlt, fun i hi => ?_⟩
  obtain ⟨f1, f2⟩ := flat_get F n i hi
  refine ⟨?_, ?_⟩
  · rw [Nat.zero_add, h.cellAt (i * 2) (by omega)]; exact f1
  · rw [Nat.zero_add, h.cellAt (i * 2 + 1) (by omega)]; exact f2
theorem grown_prs {w w' : World} {row : Option Nat} {b off n : Nat} {X Y : Nat → Int} (h : Prs w b off n X Y) (hg : w.grownBy w' row) (hr : row ≠ some b) : Prs w' b off n X Y :=
  fun i hi => ⟨hg.cell (h i hi).1 (by exact Ne.symm hr), hg.cell (h i hi).2 (by exact Ne.symm hr)⟩
theorem flat_at (F : Nat → V3) (k t : Nat) (ht : t < 3) : flat F (3 * k + (t + 1)) = flat F (3 * k + t) ++ [.int .i64 (sdx (F k) t), .int .i64 (sdy (F k) t)] := by
  show flat F (3 * k + t) ++ [.int .i64 (SX F (3 * k + t)), .int .i64 (SY F (3 * k + t))] = _
  rw [SX_at F k t ht, SY_at F k t ht]
theorem dis_at {F : Nat → V3} {k t : Nat} (ht : t < 3) (hd : Dis F (3 * k + t)) (h : hasSide (3 * k + t) (SX F) (SY F) (sdx (F k) t) (sdy (F k) t) = false) : Dis F (3 * k + (t + 1)) := by
  intro i hi
  by_cases e : i = 3 * k + t
  · subst e; rw [SX_at F k t ht, SY_at F k t ht]; exact h
  · exact hd i (by omega)
theorem side_step {w1 wr w3 w4 : World} {B bs g : Nat} {e : TypeId} {v : Value} {n : Nat} {xs : List Value} {X Y : Nat → Int} {o : Obj} (hB : B ≤ wr.heap.size) (hbel : Below B w1 wr) (hb3 : Below wr.heap.size wr w3)
    (hown : w3.ownsRow B e 2 v n xs) (hgrow : (w3.alloc o).grownBy w4 v.ownBlock) (hat : v.ownBlock = some g ∨ g = w3.heap.size + 1) (hp : Prs wr bs 0 3 X Y) (hbs : bs < wr.heap.size) (hne : v.ownBlock ≠ some bs) :
    Below B w1 w4 ∧ Prs w4 bs 0 3 X Y ∧ bs < w4.heap.size ∧ g ≠ bs := by
  have s3 := hb3.size
  have s4 := hgrow.size
  simp at s4
  have h1 : Below B w1 w3 := hbel.trans (hb3.mono hB)
  have h2 : Below B w1 (w3.alloc o) := h1.alloc (by omega) o
  refine ⟨h2.grown hgrow (by simp; omega) (fun k hk => (hown.lt k hk).1), ?_, by omega, ?_⟩
  · exact grown_prs ((hp.kept hb3 hbs).kept ((Below.refl _ _).alloc (Nat.le_refl _) o) (by omega)) hgrow hne
  · rcases hat with h | h
    · intro e; subst e; exact hne h
    · omega
theorem info_side : (Try.prog.info? 102).map (fun i => (i.zero, i.size, i.bytes)) = some (some (.agg #[.int .i64 0, .int .i64 0]), 2, 16) := by kernel_rfl
end Go.Proofs.Ytmcebhjcaacbpaa

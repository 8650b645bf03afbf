/- Copies of rows of triples; a checked mesh. -/
import Derived.Test.YtmcebhjcaacbpaaHk
import Derived.Test.YtmcebhjcaacbpaaCM2
import Derived.Test.YtmcebhjcaacbpaaAm
import Derived.Deep.RegionLaw
import Derived.WalkSpells
import Derived.Lib.SliceRun
set_option linter.unusedSimpArgs false
set_option linter.unusedVariables false
namespace Go.Proofs.Ytmcebhjcaacbpaa
open Go.RowKit

/-- One of three numbers. -/
def c3 (v : V3) (t : Nat) : Int := if t = 0 then v.x else if t = 1 then v.y else v.z
/-- The cells of the first n triples. -/
def cells3 (V : Nat → V3) : Nat → List Value
  | 0 => []
  | n + 1 => cells3 V n ++ [.int .i64 (V n).x, .int .i64 (V n).y, .int .i64 (V n).z]
theorem cells3_length (V : Nat → V3) (n : Nat) : (cells3 V n).length = n * 3 := by
  induction n with
  | zero => rfl
  | succ n ih => simp [cells3, ih]; omega
theorem cells3_get (V : Nat → V3) (n i t : Nat) (hi : i < n) (ht : t < 3) : (cells3 V n)[i * 3 + t]? = some (.int .i64 (c3 (V i) t)) := by
  induction n with
  | zero => omega
  | succ n ih =>
    have hl := cells3_length V n
    simp only [cells3]
    by_cases h : i = n
    · subst h
      rw [List.getElem?_append_right (by omega), hl, show i * 3 + t - i * 3 = t by omega]
      match t, ht with
      | 0, _ => rfl
      | 1, _ => rfl
      | 2, _ => rfl
    · rw [List.getElem?_append_left (by omega)]
      exact ih (by omega)
theorem cells3_one (V : Nat → V3) (n : Nat) : ∀ u ∈ cells3 V n, u.oneCell' = true := by
  induction n with
  | zero => intro u hu; cases hu
  | succ n ih =>
    intro u hu
    simp only [cells3, List.mem_append, List.mem_cons, List.not_mem_nil, or_false] at hu
    rcases hu with hu | rfl | rfl | rfl
    · exact ih u hu
    all_goals rfl
theorem tri_cell {w : World} {b off n : Nat} {V : Nat → V3} (h : Tri w b off n V) (i t : Nat) (hi : i < n) (ht : t < 3) : w.cell? ⟨b, off + (i * 3 + t), none⟩ = some (.int .i64 (c3 (V i) t)) := by
  obtain ⟨h0, h1, h2⟩ := h i hi
  match t, ht with
  | 0, _ => exact h0
  | 1, _ => exact h1
  | 2, _ => exact h2
/-- The cells of a row are its triples. -/
theorem tri_news {w : World} {b off n : Nat} {V : Nat → V3} (h : Tri w b off n V) : ∀ j u, (cells3 V n)[j]? = some u → w.cell? ((⟨b, off, none⟩ : Addr).add j) = some u := by
  intro j u hu
  have hj : j < n * 3 := by
    have := (List.getElem?_eq_some_iff.1 hu).1
    rwa [cells3_length] at this
  have e : j / 3 * 3 + j % 3 = j := by omega
  have h1 := cells3_get V n (j / 3) (j % 3) (by omega) (by omega)
  have h2 := tri_cell h (j / 3) (j % 3) (by omega) (by omega)
  rw [e] at h1 h2
  rw [Addr.add_lit, h2, ← h1, hu]
theorem row3_own {w : World} {base : Nat} {e : TypeId} {v : Value} {n : Nat} {V : Nat → V3} (h : w.ownsRow base e 3 v n (cells3 V n)) : ∃ a c, v = .slice a n c ∧ Row3 w a n V := by
  by_cases hn : n = 0
  · subst hn
    obtain ⟨a, c, hv⟩ := own_slice' h
    exact ⟨a, c, hv, .inl rfl⟩
  obtain ⟨g, cap', hv, _, hlt⟩ := h.form (by omega)
  refine ⟨_, _, hv, .inr ⟨g, 0, rfl, hlt, fun i hi => ?_⟩⟩
  subst hv
  have k : ∀ t, t < 3 → w.cell? ⟨g, i * 3 + t, none⟩ = some (.int .i64 (c3 (V i) t)) := fun t ht => by
    rw [h.cellAt (i * 3 + t) (by omega)]
    exact cells3_get V n i t hi ht
  rw [Nat.zero_add]
  exact ⟨k 0 (by omega), k 1 (by omega), k 2 (by omega)⟩

/-- New memory with the same triples, or none. -/
def RowsPost (w : World) (T : TypeId) (n : Nat) (V : Nat → V3) (e : Ending) (w' : World) : Prop := ∃ a c, e = .returned (.slice a n c) ∧ w'.ownsRow w.heap.size T 3 (.slice a n c) n (cells3 V n) ∧ Below w.heap.size w w'

set_option maxHeartbeats 1000000 in
theorem cloneF_any (a : Option Addr) (n c : Nat) (V : Nat → V3) (w : World) (h : Row3 w a n V) (hn : n ≤ 1000000) :
    Calls Try.prog 57 #[.slice a n c] w (RowsPost w 47 n V) := by
  obtain ⟨i0, hi0, hz0, hz1, hz2⟩ := info_parts info_face
  have q22 := fun (w : World) (a : Option Addr) (n c n' c' : Nat) => Lib.run_eql_slice_nil (P := Try.prog) w _ _ a n c n' c' Try.underlying27
  rcases a with _ | x
  · obtain rfl : n = 0 := by
      rcases h with h | ⟨b, off, h, _⟩
      · exact h
      · cases h
    clear h
    go_enter Try.func57, Try.ntmps57
    go_wp2
    go_ret
    exact ⟨_, _, rfl, World.ownsRow_nil _ _ _ _, (by repeat (first | exact Below.refl _ _ | assumption | refine Below.drew ?_ | refine bdrewN ?_ _ | refine Below.setCell ?_ (by first | omega | (simp <;> omega)) _ | refine Below.alloc ?_ (by first | omega | (simp <;> omega)) _))⟩
  by_cases h0 : n = 0
  · subst h0
    clear h
    go_enter Try.func57, Try.ntmps57
    go_wp2_with (at_builtin; refine wpList_append_own _ rfl _ _ 27 rfl w.heap.size 47 i0 (.agg #[.int .i64 0, .int .i64 0, .int .i64 0]) 3 24 Try.underlying27 hi0 hz0 hz1 hz2 rfl (by decide) _ _ _ rfl (World.ownsRow_made w #[] 0 (Nat.le_refl _) (by unfold maxLen; omega) rfl) x 0 _ [] rfl rfl (by intro j u hu; simp at hu) (by intro u hu; cases hu) (by unfold maxLen; omega) (by omega) (by simp) ?_; intro v' w' hown hgrow _; have HO := Lib.hid hown; have HG := Lib.hid (Below.grown ((Below.refl _ w).alloc (Nat.le_refl _) (.cells #[] 47)) hgrow (by simp) (fun b hb => by cases hb; exact Nat.le_refl _)); clear hown hgrow)
    obtain ⟨a2, c2, rfl⟩ := own_slice' HO.out
    go_ret
    exact ⟨_, _, rfl, by simpa [cells3] using HO.out, HG.out⟩
  · rcases h with h | ⟨b, off, hx, hb, ht⟩
    · omega
    cases hx
    have HT := Lib.hid ht
    clear ht
    go_enter Try.func57, Try.ntmps57
    go_wp2_with (at_builtin; refine wpList_append_lies _ rfl _ _ 27 rfl w.heap.size 47 i0 (.agg #[.int .i64 0, .int .i64 0, .int .i64 0]) 3 24 Try.underlying27 hi0 hz0 hz1 hz2 rfl (by decide) _ _ _ rfl (World.ownsRow_made w #[] 0 (Nat.le_refl _) (by unfold maxLen; omega) rfl) ⟨b, off, none⟩ n c (cells3 V n) rfl (cells3_length V n) (tri_news (HT.out.kept ((Below.refl _ w).alloc (Nat.le_refl _) _) hb)) (cells3_one V n) (by omega) (by unfold maxLen; omega) (by omega) (by simp) (w.heap.size + 1) (by simp) ?_; intro g cap' w' hown hgrow _ _; have HO := Lib.hid hown; have HG := Lib.hid (Below.grown ((Below.refl _ w).alloc (Nat.le_refl _) (.cells #[] 47)) hgrow (by simp) (fun b hb => by cases hb; exact Nat.le_refl _)); clear hown hgrow)
    go_ret
    have ho := HO.out
    simp only [Nat.zero_add, List.nil_append] at ho
    exact ⟨_, _, by (simp only [Nat.zero_add]; rfl), ho, HG.out⟩

/-- How much of it there is, with an error. -/
def zr (E : Int) (n : Nat) : Nat := if E = 0 then n else 0
theorem zr_le (E : Int) (n : Nat) : zr E n ≤ n := by unfold zr; split <;> omega
/-- A slice of triples reads as the first n of V, in a block from base on. -/
def RowN (w : World) (base : Nat) (a : Option Addr) (n : Nat) (V : Nat → V3) : Prop := n = 0 ∨ ∃ b off, a = some ⟨b, off, none⟩ ∧ base ≤ b ∧ b < w.heap.size ∧ Tri w b off n V
theorem RowN.row3 {w : World} {base : Nat} {a : Option Addr} {n : Nat} {V : Nat → V3} (h : RowN w base a n V) : Row3 w a n V := by
  rcases h with h | ⟨b, off, h1, _, h2, h3⟩
  · exact .inl h
  · exact .inr ⟨b, off, h1, h2, h3⟩
theorem RowN.kept {w w' : World} {base : Nat} {a : Option Addr} {n : Nat} {V : Nat → V3} (h : RowN w base a n V) (hb : Below w.heap.size w w') : RowN w' base a n V := by
  rcases h with h | ⟨b, off, h1, h0, h2, h3⟩
  · exact .inl h
  · exact .inr ⟨b, off, h1, h0, Nat.lt_of_lt_of_le h2 hb.size, h3.kept hb h2⟩
theorem RowN.weak {w : World} {base base' : Nat} {a : Option Addr} {n : Nat} {V : Nat → V3} (h : RowN w base a n V) (hb : base' ≤ base) : RowN w base' a n V := by
  rcases h with h | ⟨b, off, h1, h0, h2, h3⟩
  · exact .inl h
  · exact .inr ⟨b, off, h1, by omega, h2, h3⟩
theorem RowN.set {w : World} {base : Nat} {a : Option Addr} {n : Nat} {V : Nat → V3} (h : RowN w base a n V) {p : Addr} (hp : p.block < base) (u : Value) : RowN (w.setCell p u) base a n V := by
  rcases h with h | ⟨b, off, h1, h0, h2, h3⟩
  · exact .inl h
  · have e : ∀ o, (w.setCell p u).cell? ⟨b, o, none⟩ = w.cell? ⟨b, o, none⟩ := fun o => sc_other (fun e => by rw [e] at hp; simp at hp; omega)
    exact .inr ⟨b, off, h1, h0, by simp [World.setCell]; exact h2, fun i hi => by rw [e, e, e]; exact h3 i hi⟩
/-- A mesh and an error: the mesh has these triples if there is no error, and none otherwise. -/
def MeshR (w : World) (E : Int) (nv : Nat) (V : Nat → V3) (nf : Nat) (F : Nat → V3) (e : Ending) (w' : World) : Prop :=
  ∃ av cv af cf, e = .returned (.tuple #[.agg #[.slice av (zr E nv) cv, .slice af (zr E nf) cf], .int .i64 E]) ∧ RowN w' w.heap.size av (zr E nv) V ∧ RowN w' w.heap.size af (zr E nf) F ∧ Below w.heap.size w w'
theorem meshR_no {w w' : World} {E E' : Int} {nv nf : Nat} {V F : Nat → V3} (h : E = E') (h0 : E' ≠ 0) (hb : Below w.heap.size w w') : MeshR w E nv V nf F (.returned (.tuple #[.agg #[.slice none 0 0, .slice none 0 0], .int .i64 E'])) w' := by
  subst h
  have z : ∀ n, zr E n = 0 := fun n => by simp [zr, h0]
  exact ⟨none, 0, none, 0, by simp only [z], .inl (z _), .inl (z _), hb⟩
/-- A mesh in new memory. -/
def MeshP (w : World) (nv : Nat) (V : Nat → V3) (nf : Nat) (F : Nat → V3) (e : Ending) (w' : World) : Prop :=
  ∃ av cv af cf, e = .returned (.agg #[.slice av nv cv, .slice af nf cf]) ∧ w'.ownsRow w.heap.size 39 3 (.slice av nv cv) nv (cells3 V nv) ∧ w'.ownsRow w.heap.size 47 3 (.slice af nf cf) nf (cells3 F nf) ∧ Below w.heap.size w w'
theorem own_rown {w : World} {base : Nat} {e : TypeId} {a : Option Addr} {c n : Nat} {V : Nat → V3} (h : w.ownsRow base e 3 (.slice a n c) n (cells3 V n)) : RowN w base a n V := by
  by_cases hn : n = 0
  · exact .inl hn
  obtain ⟨g, cap', hv, hg, hlt⟩ := h.form (by omega)
  cases hv
  refine .inr ⟨g, 0, rfl, hg, hlt, fun i hi => ?_⟩
  have k : ∀ t, t < 3 → w.cell? ⟨g, i * 3 + t, none⟩ = some (.int .i64 (c3 (V i) t)) := fun t ht => by
    rw [h.cellAt (i * 3 + t) (by omega)]
    exact cells3_get V n i t hi ht
  rw [Nat.zero_add]
  exact ⟨k 0 (by omega), k 1 (by omega), k 2 (by omega)⟩
theorem own_row3 {w : World} {base : Nat} {e : TypeId} {a : Option Addr} {c n : Nat} {V : Nat → V3} (h : w.ownsRow base e 3 (.slice a n c) n (cells3 V n)) : Row3 w a n V := by
  obtain ⟨a', c', hv, hr⟩ := row3_own h
  cases hv
  exact hr
def za (E : Int) (a : Option Addr) : Option Addr := if E = 0 then a else none
/-- The same mesh and no error, or none and an error. -/
def MeshC (w : World) (E : Int) (av : Option Addr) (nv cv : Nat) (af : Option Addr) (nf cf : Nat) (e : Ending) (w' : World) : Prop :=
  e = .returned (.tuple #[.agg #[.slice (za E av) (zr E nv) (zr E cv), .slice (za E af) (zr E nf) (zr E cf)], .int .i64 E]) ∧ Below w.heap.size w w'
theorem meshC_no {w w' : World} {E E' : Int} {av af : Option Addr} {nv cv nf cf : Nat} (h : E = E') (h0 : E' ≠ 0) (hb : Below w.heap.size w w') : MeshC w E av nv cv af nf cf (.returned (.tuple #[.agg #[.slice none 0 0, .slice none 0 0], .int .i64 E'])) w' := by
  subst h
  exact ⟨by simp [za, zr, h0], hb⟩
theorem meshC_yes {w w' : World} {E : Int} {nv nf cv cf : Nat} {av af : Option Addr} (h : E = 0) (hb : Below w.heap.size w w') : MeshC w E av nv cv af nf cf (.returned (.tuple #[.agg #[.slice av nv cv, .slice af nf cf], .int .i64 0])) w' := by
  subst h
  exact ⟨by simp [za, zr], hb⟩
theorem meshR_of {w w' : World} {E : Int} {av af : Option Addr} {nv cv nf cf b b' : Nat} {V F : Nat → V3} (hv : w'.ownsRow b 39 3 (.slice av nv cv) nv (cells3 V nv)) (hf : w'.ownsRow b' 47 3 (.slice af nf cf) nf (cells3 F nf)) (h1 : w.heap.size ≤ b) (h2 : w.heap.size ≤ b') (hb : Below w.heap.size w w') :
    MeshR w E nv V nf F (.returned (.tuple #[.agg #[.slice (za E av) (zr E nv) (zr E cv), .slice (za E af) (zr E nf) (zr E cf)], .int .i64 E])) w' := by
  refine ⟨_, _, _, _, rfl, ?_, ?_, hb⟩
  · by_cases h : E = 0
    · subst h; exact (own_rown hv).weak h1
    · exact .inl (by simp [zr, h])
  · by_cases h : E = 0
    · subst h; exact (own_rown hf).weak h2
    · exact .inl (by simp [zr, h])
theorem MeshR.from {w w1 w' : World} {E E' : Int} {nv nf : Nat} {V F : Nat → V3} {e : Ending} (h : MeshR w1 E nv V nf F e w') (hb : Below w.heap.size w w1) (he : E = E') : MeshR w E' nv V nf F e w' := by
  subst he
  obtain ⟨av, cv, af, cf, h1, h2, h3, h4⟩ := h
  exact ⟨av, cv, af, cf, h1, h2.weak hb.size, h3.weak hb.size, hb.trans (h4.mono hb.size)⟩

set_option maxHeartbeats 1000000 in
theorem checked_any (av af : Option Addr) (nv cv nf cf : Nat) (V F : Nat → V3) (w : World) (hv : Row3 w av nv V) (hf : Row3 w af nf F) (hnv : nv ≤ 1000000) (hnf : nf ≤ 1000000) :
    Calls Try.prog 24 #[.agg #[.slice av nv cv, .slice af nf cf]] w (MeshC w (fault nv V nf F) av nv cv af nf cf) := by
  have HV := Lib.hid hv
  have HF := Lib.hid hf
  clear hv hf
  go_enter Try.func24, Try.ntmps24
  go_wp2_with (fail)
  refine (checkMesh_any av af nv cv nf cf V F _ (HV.out.kept (by repeat (first | exact Below.refl _ _ | assumption | refine Below.drew ?_ | refine bdrewN ?_ _ | refine Below.setCell ?_ (by first | omega | (simp <;> omega)) _ | refine Below.alloc ?_ (by first | omega | (simp <;> omega)) _))) (HF.out.kept (by repeat (first | exact Below.refl _ _ | assumption | refine Below.drew ?_ | refine bdrewN ?_ _ | refine Below.setCell ?_ (by first | omega | (simp <;> omega)) _ | refine Below.alloc ?_ (by first | omega | (simp <;> omega)) _))) hnv hnf).mono ?_
  rintro e w1 ⟨rfl, hb1⟩
  have B1 : Below w.heap.size w w1 := Below.trans (by repeat (first | exact Below.refl _ _ | assumption | refine Below.drew ?_ | refine bdrewN ?_ _ | refine Below.setCell ?_ (by first | omega | (simp <;> omega)) _ | refine Below.alloc ?_ (by first | omega | (simp <;> omega)) _)) (hb1.mono (by simp; omega))
  have z1 : w.heap.size + 1 < w1.heap.size := by have := hb1.size; simp at this; omega
  have m0 : w1.cell? ⟨w.heap.size, 0, none⟩ = some (.slice av nv cv) := by rw [hb1.cell (by simp <;> omega)]; simp [go_sem]
  have m1 : w1.cell? ⟨w.heap.size, 1, none⟩ = some (.slice af nf cf) := by rw [hb1.cell (by simp <;> omega)]; simp [go_sem]
  have r0 : w1.cell? ⟨w.heap.size + 1, 0, none⟩ = some (.slice none 0 0) := by rw [hb1.cell (by simp <;> omega)]; simp [go_sem]
  have r1 : w1.cell? ⟨w.heap.size + 1, 1, none⟩ = some (.slice none 0 0) := by rw [hb1.cell (by simp <;> omega)]; simp [go_sem]
  have f0 : w1.frozen? ⟨w.heap.size + 1, 0, none⟩ = false := by rw [hb1.frozen (by simp <;> omega)]; simp [go_sem]
  have f1 : w1.frozen? ⟨w.heap.size + 1, 1, none⟩ = false := by rw [hb1.frozen (by simp <;> omega)]; simp [go_sem]
  have HB := Lib.hid B1
  clear hb1 B1
  by_cases h0 : fault nv V nf F = 0
  · have e0 : (fault nv V nf F != 0) = false := by simp [h0]
    have H0 := Lib.hid h0
    clear h0
    go_wp2
    have R := Lib.hid (HB.out.setCell (p := ⟨w.heap.size + 1, 0, none⟩) (by show _ ≤ w.heap.size + 1; omega) (.slice av nv cv) |>.setCell (p := ⟨w.heap.size + 1, 1, none⟩) (by show _ ≤ w.heap.size + 1; omega) (.slice af nf cf))
    exact bodyPost_ret (v := .tuple #[.agg #[.slice av nv cv, .slice af nf cf], .int .i64 0]) (by simp [results, Try.results24, go_sem, r0, r1]) rfl (meshC_yes H0.out R.out)
  · have e0 : (fault nv V nf F != 0) = true := by simpa using h0
    go_wp2
    exact bodyPost_ret (v := .tuple #[.agg #[.slice none 0 0, .slice none 0 0], .int .i64 (fault nv V nf F)]) (by simp [results, Try.results24, go_sem, r0, r1]) rfl (meshC_no rfl h0 (by repeat (first | exact Below.refl _ _ | assumption | refine Below.drew ?_ | refine bdrewN ?_ _ | refine Below.setCell ?_ (by first | omega | (simp <;> omega)) _ | refine Below.alloc ?_ (by first | omega | (simp <;> omega)) _)))

end Go.Proofs.Ytmcebhjcaacbpaa

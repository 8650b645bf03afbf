/- What a region that draws its order holds on to, while its calls make memory: old blocks but one, in which the result lies. -/
import Derived.Test.YtddnimbalfaieaaStrm
import Derived.Deep.RegionHeld3
set_option linter.unusedSimpArgs false
set_option linter.unusedVariables false
namespace Go.Proofs.Ytddnimbalfaieaa
open Go.RowKit

/-- The value of a cell that is there. -/
def rd (w : World) (b o : Nat) : Value := (w.cell? ⟨b, o, none⟩).getD undef
theorem rd_of {w : World} {b o : Nat} {v : Value} (h : w.cell? ⟨b, o, none⟩ = some v) : w.cell? ⟨b, o, none⟩ = some (rd w b o) := by simp [rd, h]
theorem rd_is {w : World} {b o : Nat} {v : Value} (h : w.cell? ⟨b, o, none⟩ = some v) : rd w b o = v := by simp [rd, h]

/-- Of w0's blocks all read as they did. -/
abbrev Old (w0 w' : World) : Prop :=
  (∀ b o, b < w0.heap.size → w'.cell? ⟨b, o, none⟩ = w0.cell? ⟨b, o, none⟩) ∧ (∀ b o, b < w0.heap.size → w'.frozen? ⟨b, o, none⟩ = w0.frozen? ⟨b, o, none⟩) ∧ Below w0.heap.size w0 w'
theorem old_of {w0 w' : World} (h : Below w0.heap.size w0 w') : Old w0 w' :=
  ⟨fun b o hb => h.cell (p := ⟨b, o, none⟩) hb, fun b o hb => h.frozen (p := ⟨b, o, none⟩) hb, h⟩
theorem old_next {w0 w w' : World} (h : Old w0 w) (hb : Below w.heap.size w w') : Old w0 w' :=
  old_of (h.2.2.trans (hb.mono h.2.2.size))

/-- Of w0's blocks all but R read as they did; R has n cells; below B nothing has turned. -/
abbrev Hold (B R n : Nat) (w0 w' : World) : Prop :=
  (∀ b o, b < w0.heap.size → b ≠ R → w'.cell? ⟨b, o, none⟩ = w0.cell? ⟨b, o, none⟩) ∧ (∀ b o, b < w0.heap.size → w'.frozen? ⟨b, o, none⟩ = w0.frozen? ⟨b, o, none⟩) ∧
  (∀ o, o < n → w'.cell? ⟨R, o, none⟩ = some (rd w' R o)) ∧ Below B w0 w'

theorem hold0 {B R n : Nat} {w0 : World} (h : ∀ o, o < n → (w0.cell? ⟨R, o, none⟩).isSome = true) : Hold B R n w0 w0.drew :=
  ⟨fun _ _ _ _ => rfl, fun _ _ _ => rfl, fun o ho => by
    obtain ⟨v, hv⟩ := Option.isSome_iff_exists.1 (h o ho)
    exact rd_of (w := w0.drew) hv, (Below.refl _ _).drew⟩
theorem hold_call {B R n : Nat} {w0 w w' : World} (h : Hold B R n w0 w) (hR : R < w0.heap.size) (hB : B ≤ w0.heap.size) (hb : Below w.heap.size w w') : Hold B R n w0 w' := by
  obtain ⟨h1, h2, h3, h4⟩ := h
  have hs := h4.size
  refine ⟨fun b o hb' hr => ?_, fun b o hb' => ?_, fun o ho => ?_, h4.trans (hb.mono (by omega))⟩
  · rw [hb.cell (p := ⟨b, o, none⟩) (by show b < _; omega)]; exact h1 b o hb' hr
  · rw [hb.frozen (p := ⟨b, o, none⟩) (by show b < _; omega)]; exact h2 b o hb'
  · exact rd_of ((hb.cell (p := ⟨R, o, none⟩) (by show R < _; omega)).trans (h3 o ho))
theorem hold_set {B R n : Nat} {w0 w : World} (h : Hold B R n w0 w) (hB : B ≤ R) (o : Nat) (v : Value) : Hold B R n w0 (w.setCell ⟨R, o, none⟩ v) := by
  obtain ⟨h1, h2, h3, h4⟩ := h
  refine ⟨fun b o' hb' hr => ?_, fun b o' hb' => ?_, fun o' ho => ?_, h4.setCell hB _⟩
  · rw [World.cell?_of_block (w := w) (Below.heap_setCell _ _ _ _ (by exact hr))]; exact h1 b o' hb' hr
  · rw [World.frozen?_setCell]; exact h2 b o' hb'
  · obtain ⟨v', hv⟩ := cell?_setCell_some (w := w) (p := ⟨R, o, none⟩) (x := v) (q := ⟨R, o', none⟩) (h3 o' ho)
    exact rd_of hv
theorem cellk {w w0 : World} (B : Below w.heap.size w w0) {b o : Nat} {v : Value} (hb : b < w.heap.size) (h : w.cell? ⟨b, o, none⟩ = some v) : w0.cell? ⟨b, o, none⟩ = some v :=
  (B.cell (p := ⟨b, o, none⟩) hb).trans h

theorem sc_other {w : World} {a b : Addr} {v : Value} (h : a ≠ b) : (w.setCell a v).cell? b = w.cell? b := by
  apply World.cell?_setCell_other; exact h
theorem sc_same {w : World} {a : Addr} {v u : Value} (h : w.cell? a = some u) : (w.setCell a v).cell? a = some v := by
  apply World.cell?_setCell_same; exact h
theorem some_of_setCell {w : World} {p q : Addr} {x : Value} (h : ((w.setCell p x).cell? q).isSome = true) : (w.cell? q).isSome = true := by
  by_cases hpq : p = q
  · subst hpq
    simp only [World.cell?, World.setCell, Array.getElem?_modify, if_true] at h ⊢
    cases hh : w.heap[p.block]? with
    | none => simp [hh] at h
    | some ob =>
      cases ob with
      | cells c t f =>
        cases hs : p.spot with
        | none => simpa [hh, hs] using h
        | some x => simp [hh, hs] at h
      | _ => simp [hh] at h
  · rwa [sc_other hpq] at h

theorem is_set {w : World} {p q : Addr} {x : Value} (h : (w.cell? q).isSome = true) : ((w.setCell p x).cell? q).isSome = true := by
  obtain ⟨v, hv⟩ := Option.isSome_iff_exists.1 h
  obtain ⟨v', hv'⟩ := cell?_setCell_some (w := w) (p := p) (x := x) (q := q) hv
  rw [hv']; rfl
theorem sc_same' {w : World} {a : Addr} {v : Value} (h : (w.cell? a).isSome = true) : (w.setCell a v).cell? a = some v := by
  obtain ⟨u, hu⟩ := Option.isSome_iff_exists.1 h
  exact sc_same hu
theorem is_some {w : World} {q : Addr} {v : Value} (h : w.cell? q = some v) : (w.cell? q).isSome = true := by rw [h]; rfl

/-- What three stores into one block leave there. -/
theorem set3_read {w : World} {R : Nat} {v0 v1 v2 : Value}
    (h : ∀ o, o < 3 → (((w.setCell ⟨R, 0, none⟩ v0).setCell ⟨R, 1, none⟩ v1).setCell ⟨R, 2, none⟩ v2).cell? ⟨R, o, none⟩ = some (rd (((w.setCell ⟨R, 0, none⟩ v0).setCell ⟨R, 1, none⟩ v1).setCell ⟨R, 2, none⟩ v2) R o)) :
    (((w.setCell ⟨R, 0, none⟩ v0).setCell ⟨R, 1, none⟩ v1).setCell ⟨R, 2, none⟩ v2).cell? ⟨R, 0, none⟩ = some v0 ∧
    (((w.setCell ⟨R, 0, none⟩ v0).setCell ⟨R, 1, none⟩ v1).setCell ⟨R, 2, none⟩ v2).cell? ⟨R, 1, none⟩ = some v1 ∧
    (((w.setCell ⟨R, 0, none⟩ v0).setCell ⟨R, 1, none⟩ v1).setCell ⟨R, 2, none⟩ v2).cell? ⟨R, 2, none⟩ = some v2 := by
  have k : ∀ o, o < 3 → ∃ v, w.cell? ⟨R, o, none⟩ = some v := fun o ho =>
    Option.isSome_iff_exists.1 (some_of_setCell (some_of_setCell (some_of_setCell (by rw [h o ho]; rfl))))
  obtain ⟨u0, k0⟩ := k 0 (by omega)
  obtain ⟨u1, k1⟩ := k 1 (by omega)
  obtain ⟨u2, k2⟩ := k 2 (by omega)
  refine ⟨?_, ?_, ?_⟩
  · rw [sc_other (by simp), sc_other (by simp)]; exact sc_same k0
  · rw [sc_other (by simp)]; exact sc_same (by rw [sc_other (by simp)]; exact k1)
  · exact sc_same (by rw [sc_other (by simp), sc_other (by simp)]; exact k2)

theorem ne_block {a b i j : Nat} (h : a ≠ b) : (⟨a, i, none⟩ : Addr) ≠ ⟨b, j, none⟩ := by simp [h]
theorem ne_off {a i j : Nat} (h : i ≠ j) : (⟨a, i, none⟩ : Addr) ≠ ⟨a, j, none⟩ := by simp [h]
/-- What nine stores into three blocks leave there. -/
theorem set9 {w W : World} {a b c : Nat} {x0 x1 x2 x3 x4 x5 x6 x7 x8 : Value} (hab : a ≠ b) (hac : a ≠ c) (hbc : b ≠ c)
    (ha : ∀ o, o < 3 → (w.cell? ⟨a, o, none⟩).isSome = true) (hb : ∀ o, o < 3 → (w.cell? ⟨b, o, none⟩).isSome = true) (hc : ∀ o, o < 3 → (w.cell? ⟨c, o, none⟩).isSome = true)
    (hW : (((((((((w.setCell ⟨a, 0, none⟩ x0).setCell ⟨a, 1, none⟩ x1).setCell ⟨a, 2, none⟩ x2).setCell ⟨b, 0, none⟩ x3).setCell ⟨b, 1, none⟩ x4).setCell ⟨b, 2, none⟩ x5).setCell ⟨c, 0, none⟩ x6).setCell ⟨c, 1, none⟩ x7).setCell ⟨c, 2, none⟩ x8) = W) :
    W.cell? ⟨a, 0, none⟩ = some x0 ∧ W.cell? ⟨a, 1, none⟩ = some x1 ∧ W.cell? ⟨a, 2, none⟩ = some x2 ∧ W.cell? ⟨b, 0, none⟩ = some x3 ∧ W.cell? ⟨b, 1, none⟩ = some x4 ∧ W.cell? ⟨b, 2, none⟩ = some x5 ∧ W.cell? ⟨c, 0, none⟩ = some x6 ∧ W.cell? ⟨c, 1, none⟩ = some x7 ∧ W.cell? ⟨c, 2, none⟩ = some x8 := by
  subst hW
  refine ⟨?_, ?_, ?_, ?_, ?_, ?_, ?_, ?_, ?_⟩
  · rw [sc_other (ne_block hac.symm), sc_other (ne_block hac.symm), sc_other (ne_block hac.symm), sc_other (ne_block hab.symm), sc_other (ne_block hab.symm), sc_other (ne_block hab.symm), sc_other (ne_off (by decide)), sc_other (ne_off (by decide))]; exact sc_same' (ha 0 (by decide))
  · rw [sc_other (ne_block hac.symm), sc_other (ne_block hac.symm), sc_other (ne_block hac.symm), sc_other (ne_block hab.symm), sc_other (ne_block hab.symm), sc_other (ne_block hab.symm), sc_other (ne_off (by decide))]; exact sc_same' (is_set (ha 1 (by decide)))
  · rw [sc_other (ne_block hac.symm), sc_other (ne_block hac.symm), sc_other (ne_block hac.symm), sc_other (ne_block hab.symm), sc_other (ne_block hab.symm), sc_other (ne_block hab.symm)]; exact sc_same' (is_set (is_set (ha 2 (by decide))))
  · rw [sc_other (ne_block hbc.symm), sc_other (ne_block hbc.symm), sc_other (ne_block hbc.symm), sc_other (ne_off (by decide)), sc_other (ne_off (by decide))]; exact sc_same' (is_set (is_set (is_set (hb 0 (by decide)))))
  · rw [sc_other (ne_block hbc.symm), sc_other (ne_block hbc.symm), sc_other (ne_block hbc.symm), sc_other (ne_off (by decide))]; exact sc_same' (is_set (is_set (is_set (is_set (hb 1 (by decide))))))
  · rw [sc_other (ne_block hbc.symm), sc_other (ne_block hbc.symm), sc_other (ne_block hbc.symm)]; exact sc_same' (is_set (is_set (is_set (is_set (is_set (hb 2 (by decide)))))))
  · rw [sc_other (ne_off (by decide)), sc_other (ne_off (by decide))]; exact sc_same' (is_set (is_set (is_set (is_set (is_set (is_set (hc 0 (by decide))))))))
  · rw [sc_other (ne_off (by decide))]; exact sc_same' (is_set (is_set (is_set (is_set (is_set (is_set (is_set (hc 1 (by decide)))))))))
  · exact sc_same' (is_set (is_set (is_set (is_set (is_set (is_set (is_set (is_set (hc 2 (by decide))))))))))
theorem heap_new {w : World} {o : Obj} {g : Nat} (h : g = w.heap.size) : (w.alloc o).heap[g]? = some o := by subst h; exact heap_alloc_new w o
theorem lt_of_heap {w : World} {b : Nat} {o : Obj} (h : w.heap[b]? = some o) : b < w.heap.size :=
  Decidable.byContradiction fun hn => by rw [Array.getElem?_eq_none (by omega)] at h; cases h
theorem heap_keep {w w' : World} {b : Nat} {o : Obj} (hb : Below w.heap.size w w') (h : w.heap[b]? = some o) : w'.heap[b]? = some o :=
  (hb.block b (Decidable.byContradiction fun hn => by rw [Array.getElem?_eq_none (by omega)] at h; cases h)).trans h
theorem cell_of {w : World} {b i : Nat} {c : Array Value} {t : TypeId} {fr : Nat × Nat} {v : Value} (h : w.heap[b]? = some (.cells c t fr)) (hv : c[i]? = some v) : w.cell? ⟨b, i, none⟩ = some v := by simp [World.cell?, h, hv]
theorem frozen_of {w : World} {b i : Nat} {c : Array Value} {t : TypeId} (h : w.heap[b]? = some (.cells c t (0, 0))) : w.frozen? ⟨b, i, none⟩ = false := by simp [World.frozen?, h]
theorem ownsRow_below {w w' : World} {base : Nat} {e : TypeId} {size : Nat} {v : Value} {n : Nat} {xs : List Value} (h : w.ownsRow base e size v n xs) (hb : Below w.heap.size w w') : w'.ownsRow base e size v n xs := by
  obtain ⟨h1, h2⟩ := h
  refine ⟨h1, ?_⟩
  rcases h2 with h2 | ⟨g, cap, cur, hv, hg, hh, r⟩
  · exact .inl h2
  · refine .inr ⟨g, cap, cur, hv, hg, ?_, r⟩
    rw [hb.block g ?_]; exact hh
    exact Decidable.byContradiction fun hn => by rw [Array.getElem?_eq_none (by omega)] at hh; cases hh
end Go.Proofs.Ytddnimbalfaieaa

/- Meshes, as they are drawn: pyramids. -/
import Derived.Test.YtmcebhjcaacbpaaMk1
import Derived.Deep.AppendLies
set_option linter.unusedSimpArgs false
set_option linter.unusedVariables false
namespace Go.Proofs.Ytmcebhjcaacbpaa
open Go.RowKit

theorem grow_keep {w w' : World} {row : Option Nat} {b : Nat} {o : Obj} (hg : w.grownBy w' row) (h : w.heap[b]? = some o) (hne : row ≠ some b) : w'.heap[b]? = some o :=
  (hg.block b (lt_of_heap h) (fun e => hne e.symm)).trans h
theorem own_slice' {w : World} {base : Nat} {e : TypeId} {size : Nat} {v : Value} {n : Nat} {xs : List Value} (h : w.ownsRow base e size v n xs) : ∃ ao cap, v = .slice ao n cap := by
  rcases h.2 with ⟨rfl, rfl⟩ | ⟨g, cap, _, rfl, _⟩
  · exact ⟨_, _, rfl⟩
  · exact ⟨_, _, rfl⟩
theorem own_ne {w : World} {base : Nat} {e t : TypeId} {size : Nat} {v : Value} {n : Nat} {xs : List Value} {b : Nat} {c : Array Value} {fr : Nat × Nat} (h : w.ownsRow base e size v n xs) (hb : w.heap[b]? = some (.cells c t fr)) (ht : t ≠ e) : v.ownBlock ≠ some b := by
  intro hv
  rcases h.2 with ⟨rfl, _⟩ | ⟨g, cap, cur, rfl, _, hg, _⟩
  · cases hv
  · simp only [Value.ownBlock, Option.some.injEq] at hv
    subst hv
    rw [hg] at hb
    simp only [Option.some.injEq, Obj.cells.injEq] at hb
    exact ht hb.2.1.symm
theorem own_base {w : World} {base base' : Nat} {e : TypeId} {size : Nat} {v : Value} {n : Nat} {xs : List Value} (h : w.ownsRow base e size v n xs) (hb : base' ≤ base) : w.ownsRow base' e size v n xs := by
  obtain ⟨h1, h2⟩ := h
  refine ⟨h1, ?_⟩
  rcases h2 with h2 | ⟨g, cap, cur, hv, hg, r⟩
  · exact .inl h2
  · exact .inr ⟨g, cap, cur, hv, by omega, r⟩
theorem set2_0 {w : World} {b : Nat} {v0 v1 u : Value} {t : TypeId} (h : w.heap[b]? = some (.cells #[v0, v1] t (0, 0))) : (w.setCell ⟨b, 0, none⟩ u).heap[b]? = some (.cells #[u, v1] t (0, 0)) := by
  simp [World.setCell, Array.getElem?_modify, h]
theorem set2_1 {w : World} {b : Nat} {v0 v1 u : Value} {t : TypeId} (h : w.heap[b]? = some (.cells #[v0, v1] t (0, 0))) : (w.setCell ⟨b, 1, none⟩ u).heap[b]? = some (.cells #[v0, u] t (0, 0)) := by
  simp [World.setCell, Array.getElem?_modify, h]
theorem own_mut {S : Nat → Prop} {w w' : World} {base : Nat} {e : TypeId} {size : Nat} {v : Value} {n : Nat} {xs : List Value} (h : w.ownsRow base e size v n xs) (hm : Mut S w w') (hs : ∀ b, v.ownBlock = some b → ¬ S b) : w'.ownsRow base e size v n xs := by
  obtain ⟨h1, h2⟩ := h
  refine ⟨h1, ?_⟩
  rcases h2 with h2 | ⟨g, cap, cur, hv, hg, hh, r⟩
  · exact .inl h2
  · exact .inr ⟨g, cap, cur, hv, hg, (hm.block g (lt_of_heap hh) (hs g (by rw [hv]; rfl))).trans hh, r⟩

theorem own_set {w : World} {base : Nat} {e t : TypeId} {size : Nat} {v : Value} {n : Nat} {xs : List Value} {b o : Nat} {c : Array Value} {fr : Nat × Nat} {u : Value} (h : w.ownsRow base e size v n xs) (hb : w.heap[b]? = some (.cells c t fr)) (ht : t ≠ e) : (w.setCell ⟨b, o, none⟩ u).ownsRow base e size v n xs :=
  own_mut h ((Mut.refl (· = b) w).setCell (p := ⟨b, o, none⟩) (fun _ => rfl) u) (fun k hk e => by subst e; exact own_ne h hb ht hk)

theorem own_grown {w w' : World} {base : Nat} {e e' : TypeId} {size size' : Nat} {v v' : Value} {n n' : Nat} {xs xs' : List Value} (h : w.ownsRow base e size v n xs) (h' : w.ownsRow base e' size' v' n' xs') (he : e ≠ e') (o o' : Obj) (hg : ((w.alloc o).alloc o').grownBy w' v'.ownBlock) : w'.ownsRow base e size v n xs := by
  obtain ⟨h1, h2⟩ := h
  refine ⟨h1, ?_⟩
  rcases h2 with h2 | ⟨g, cap, cur, hv, hb, hh, r⟩
  · exact .inl h2
  · have hl := lt_of_heap hh
    exact .inr ⟨g, cap, cur, hv, hb, grow_keep hg ((Below.heap_alloc _ _ _ (by simp; omega)).trans ((Below.heap_alloc w _ _ hl).trans hh)) (own_ne h' hh he), r⟩

/-- All cells are numbers, each with P. -/
def AllInt (P : Int → Prop) (xs : List Value) : Prop := ∀ u ∈ xs, ∃ z : Int, u = .int .i64 z ∧ P z
theorem AllInt.app {P : Int → Prop} {xs ys : List Value} (h : AllInt P xs) (g : AllInt P ys) : AllInt P (xs ++ ys) := fun u hu => by
  rcases List.mem_append.1 hu with h' | h'
  · exact h u h'
  · exact g u h'
theorem AllInt.mono {P Q : Int → Prop} {xs : List Value} (h : AllInt P xs) (hpq : ∀ z, P z → Q z) : AllInt Q xs := fun u hu => by
  obtain ⟨z, h1, h2⟩ := h u hu; exact ⟨z, h1, hpq z h2⟩

theorem AllInt.nil {P : Int → Prop} : AllInt P [] := fun u hu => by cases hu
theorem AllInt.cons {P : Int → Prop} {z : Int} {r : List Value} (hz : P z) (h : AllInt P r) : AllInt P (.int .i64 z :: r) := fun u hu => by
  rcases List.mem_cons.1 hu with rfl | h'
  · exact ⟨z, rfl, hz⟩
  · exact h u h'

/-- A mesh in the making: its two slices own their rows; the faces have vertices that are there. -/
structure MIn (w : World) (base : Nat) (sv sf : Value) (nv nf : Nat) : Prop where
  v : ∃ xs, w.ownsRow base 39 3 sv nv xs ∧ AllInt (fun _ => True) xs
  f : ∃ xs, w.ownsRow base 47 3 sf nf xs ∧ AllInt (fun z => 0 ≤ z ∧ z < nv) xs
theorem MIn.mut {S : Nat → Prop} {w w' : World} {base : Nat} {sv sf : Value} {nv nf : Nat} (h : MIn w base sv sf nv nf) (hm : Mut S w w') (hs : ∀ b, S b → b < base) : MIn w' base sv sf nv nf := by
  obtain ⟨⟨x, h1, h2⟩, y, h3, h4⟩ := h
  exact ⟨⟨x, own_mut h1 hm (fun b hb hS => by have := (h1.lt b hb).1; have := hs b hS; omega), h2⟩, y, own_mut h3 hm (fun b hb hS => by have := (h3.lt b hb).1; have := hs b hS; omega), h4⟩

def MeshMade (w : World) (nv nf : Nat) (e : Ending) (w' : World) : Prop :=
  ∃ sv sf, e = .returned (.agg #[sv, sf]) ∧ MIn w' w.heap.size sv sf nv nf ∧ Below w.heap.size w w'

set_option maxHeartbeats 1000000 in
theorem tetra_any (x y z n : Int) (w : World) (hx : -2000000000000 ≤ x ∧ x ≤ 2000000000000) (hy : -2000000000000 ≤ y ∧ y ≤ 2000000000000) (hz : -2000000000000 ≤ z ∧ z ≤ 2000000000000) (hn : 0 ≤ n ∧ n ≤ 1000) :
    Calls Try.prog 16 #[.agg #[.int .i64 x, .int .i64 y, .int .i64 z], .int .i64 n] w (MeshMade w 4 4) := by
  go_enter Try.func16, Try.ntmps16
  go_wp2
  refine bodyPost_ret (v := .agg #[.slice (some ⟨w.heap.size + 1 + 1, 0, none⟩) 4 4, .slice (some ⟨w.heap.size + 1 + 1 + 1, 0, none⟩) 4 4]) (by simp [results, Try.results16, go_sem]) rfl ⟨_, _, rfl, ⟨⟨_, ⟨?_, .inr ⟨w.heap.size + 1 + 1, 4, _, rfl, by omega, (by repeat (first | (refine heap_new ?_; first | rfl | (simp; done)) | rw [Below.heap_setCell _ _ _ _ (by simp <;> omega)] | rw [Below.heap_alloc _ _ _ (by simp <;> omega)])), by omega, by unfold maxLen; omega, rfl, rfl⟩⟩, ?_⟩, ⟨_, ⟨?_, .inr ⟨w.heap.size + 1 + 1 + 1, 4, _, rfl, by omega, (by repeat (first | (refine heap_new ?_; first | rfl | (simp; done)) | rw [Below.heap_setCell _ _ _ _ (by simp <;> omega)] | rw [Below.heap_alloc _ _ _ (by simp <;> omega)])), by omega, by unfold maxLen; omega, rfl, rfl⟩⟩, ?_⟩⟩, (by repeat (first | exact Below.refl _ _ | assumption | refine Below.drew ?_ | refine bdrewN ?_ _ | refine Below.setCell ?_ (by first | omega | (simp <;> omega)) _ | refine Below.alloc ?_ (by first | omega | (simp <;> omega)) _))⟩
  · rfl
  · repeat (first | exact AllInt.nil | refine AllInt.cons trivial ?_)
  · rfl
  · repeat (first | exact AllInt.nil | refine AllInt.cons (by decide) ?_)
end Go.Proofs.Ytmcebhjcaacbpaa

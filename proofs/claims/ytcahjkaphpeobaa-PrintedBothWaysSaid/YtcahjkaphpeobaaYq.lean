/- Ways and travel: the program. -/
import Derived.Test.YtcahjkaphpeobaaYp
set_option linter.unusedSimpArgs false
set_option linter.unusedVariables false
namespace Go.Proofs.Ytcahjkaphpeobaa
open Go.RowKit

theorem grow_keep {w w' : World} {row : Option Nat} {b : Nat} {o : Obj} (hg : w.grownBy w' row) (h : w.heap[b]? = some o) (hne : row ≠ some b) : w'.heap[b]? = some o :=
  (hg.block b (lt_of_heap h) (fun e => hne e.symm)).trans h
theorem own_ne {w : World} {base : Nat} {e t : TypeId} {size : Nat} {v : Value} {n : Nat} {xs : List Value} {b : Nat} {c : Array Value} {fr : Nat × Nat} (h : w.ownsRow base e size v n xs) (hb : w.heap[b]? = some (.cells c t fr)) (ht : t ≠ e) : v.ownBlock ≠ some b := by
  intro hv
  rcases h.2 with ⟨rfl, _⟩ | ⟨g, cap, cur, rfl, _, hg, _⟩
  · cases hv
  · simp only [Value.ownBlock, Option.some.injEq] at hv
    subst hv
    rw [hg] at hb
    simp only [Option.some.injEq, Obj.cells.injEq] at hb
    exact ht hb.2.1.symm
theorem set2_0 {w : World} {b : Nat} {v0 v1 u : Value} {t : TypeId} (h : w.heap[b]? = some (.cells #[v0, v1] t (0, 0))) : (w.setCell ⟨b, 0, none⟩ u).heap[b]? = some (.cells #[u, v1] t (0, 0)) := by
  simp [World.setCell, Array.getElem?_modify, h]
theorem set2_1 {w : World} {b : Nat} {v0 v1 u : Value} {t : TypeId} (h : w.heap[b]? = some (.cells #[v0, v1] t (0, 0))) : (w.setCell ⟨b, 1, none⟩ u).heap[b]? = some (.cells #[v0, u] t (0, 0)) := by
  simp [World.setCell, Array.getElem?_modify, h]
theorem own_mut {S : Nat → Prop} {w w' : World} {base : Nat} {e : TypeId} {size : Nat} {v : Value} {n : Nat} {xs : List Value} (h : w.ownsRow base e size v n xs) (hm : Mut S w w') (hs : ∀ b, v.ownBlock = some b → ¬ S b) : w'.ownsRow base e size v n xs := by
  obtain ⟨h1, h2⟩ := h
  refine ⟨h1, ?_⟩
  rcases h2 with h2 | ⟨g, cap, cur, hv, hg, hh, r⟩
  · exact .inl h2
  · exact .inr ⟨g, cap, cur, hv, hg, (hm.block g (lt_of_heap hh) (hs g (by rw [hv]; rfl))).trans hh, r⟩

theorem own_set {w : World} {base : Nat} {e t : TypeId} {size : Nat} {v : Value} {n : Nat} {xs : List Value} {b o : Nat} {c : Array Value} {fr : Nat × Nat} {u : Value} (h : w.ownsRow base e size v n xs) (hb : w.heap[b]? = some (.cells c t fr)) (ht : t ≠ e) : (w.setCell ⟨b, o, none⟩ u).ownsRow base e size v n xs :=
  own_mut h ((Mut.refl (· = b) w).setCell (p := ⟨b, o, none⟩) (fun _ => rfl) u) (fun k hk e => by subst e; exact own_ne h hb ht hk)

theorem made_at {w : World} {base g size cap : Nat} {e : TypeId} (cur : Array Value) (hg : w.heap.size = g) (hb : base ≤ g) (hm : cap ≤ maxLen) (hs : cur.size = cap * size) :
    (w.alloc (.cells cur e)).ownsRow base e size (.slice (some ⟨g, 0, none⟩) 0 cap) 0 [] := by
  subst hg; exact World.ownsRow_made w cur cap hb hm hs
def wcs (sx sy : Int) (P : Nat → Pth) (V : Nat → Vis) : Nat → List Value
  | 0 => []
  | k + 1 => wcs sx sy P V k ++ [.int .i64 (hdX sx P V k), .int .i64 (hdY sy P V k), .int .i64 (bX P (V k)), .int .i64 (bY P (V k))]
theorem wcs_length (sx sy : Int) (P : Nat → Pth) (V : Nat → Vis) (k : Nat) : (wcs sx sy P V k).length = k * 4 := by
  induction k with
  | zero => rfl
  | succ k ih => simp [wcs, ih]; omega
theorem wcs_get (sx sy : Int) (P : Nat → Pth) (V : Nat → Vis) : ∀ m i, i < m → (wcs sx sy P V m)[i * 4]? = some (.int .i64 (hdX sx P V i)) ∧ (wcs sx sy P V m)[i * 4 + 1]? = some (.int .i64 (hdY sy P V i)) ∧ (wcs sx sy P V m)[i * 4 + 2]? = some (.int .i64 (bX P (V i))) ∧ (wcs sx sy P V m)[i * 4 + 3]? = some (.int .i64 (bY P (V i)))
  | 0, i, h => by omega
  | m + 1, i, h => by
    have hl := wcs_length sx sy P V m
    by_cases e : i = m
    · subst e
      simp only [wcs]
      refine ⟨?_, ?_, ?_, ?_⟩ <;> rw [List.getElem?_append_right (by omega)] <;> simp [hl]
    · obtain ⟨h0, h1, h2, h3⟩ := wcs_get sx sy P V m i (by omega)
      simp only [wcs]
      refine ⟨?_, ?_, ?_, ?_⟩ <;> rw [List.getElem?_append_left (by omega)] <;> assumption
/-- What a loop over visits knows of one. -/
theorem one_fit {m l : Nat} {P : Nat → Pth} {V : Nat → Vis} (h : AllFit m P l V) {k : Nat} (hk : k < l) :
    ∃ q : Nat, (V k).p = q ∧ q < m ∧ VFit (P q) (V k) ∧ V k = ⟨(q : Int), (V k).s, (V k).b⟩ ∧ (P q).X (enB (P q) (V k)) = bX P (V k) ∧ (P q).Y (enB (P q) (V k)) = bY P (V k) ∧ (P q).X (enE (P q) (V k)) = eX P (V k) ∧ (P q).Y (enE (P q) (V k)) = eY P (V k) := by
  obtain ⟨q, hq, hqm, hfit⟩ := h.q k hk
  have hpe : pthOf P (V k) = P q := by unfold pthOf; rw [hq]; rfl
  refine ⟨q, hq, hqm, hfit, by rw [← hq], ?_, ?_, ?_, ?_⟩
  · unfold bX; rw [hpe]
  · unfold bY; rw [hpe]
  · unfold eX; rw [hpe]
  · unfold eY; rw [hpe]
end Go.Proofs.Ytcahjkaphpeobaa

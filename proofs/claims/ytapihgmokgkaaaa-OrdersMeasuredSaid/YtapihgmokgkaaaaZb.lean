/- The answers of Ends as a tuple; paths and visits under the stream. -/
import Derived.Test.YtapihgmokgkaaaaZa
set_option linter.unusedSimpArgs false
set_option linter.unusedVariables false
namespace Go.Proofs.Ytapihgmokgkaaaa
open Go.RowKit

theorem paths_of_own {W : World} {base t c : Nat} {a : Option Addr} {L : Nat → Pth} (ho : W.ownsRow base 59 2 (.slice a t c) t (pcs L t)) (hp : ∀ i, i < t → W.ownsRow base 27 2 (.slice (L i).a (L i).n (L i).c) (L i).n (cells2 (L i).X (L i).Y (L i).n)) : PathsR W a t L := by
  by_cases h0 : t = 0
  · exact .inl h0
  obtain ⟨g, cap, hv, _, hlt⟩ := ho.form (by omega)
  cases hv
  refine .inr ⟨g, 0, rfl, hlt, fun i hi => ⟨?_, own_pts (hp i hi)⟩⟩
  obtain ⟨g0, g1⟩ := pcs_get L t i hi
  rw [Nat.zero_add]
  exact ⟨(ho.cellAt (i * 2) (by omega)).trans g0, (ho.cellAt (i * 2 + 1) (by omega)).trans g1⟩
theorem PO.paths {w W W' : World} {B k t c : Nat} {a : Option Addr} {L : Nat → Pth} (h : PO w W B k (.slice a t c) t L) (hm : Mut (· = B) W W') : PathsR W' a t L := by
  have hl := h.l
  exact paths_of_own (own_mut h.o hm (fun b hb e => by have := (h.o.lt b hb).1; omega)) (fun i hi => own_mut (h.p i hi).2 hm (fun b hb e => by have := ((h.p i hi).2.lt b hb).1; omega))
def ifO (c x : Int) : Int := if c = 0 then x else 0
theorem endsV_shape (m : Nat) (P : Nat → Pth) (v : Vis) : endsV m P v = .tuple #[.agg #[.int .i64 (ifO (oneF m P v) (bX P v)), .int .i64 (ifO (oneF m P v) (bY P v))], .agg #[.int .i64 (ifO (oneF m P v) (eX P v)), .int .i64 (ifO (oneF m P v) (eY P v))], .int .i64 (oneF m P v)] := by
  unfold endsV ifO
  split
  · rename_i h; simp [h, bX, bY, eX, eY, pthOf]
  · rfl
theorem max2 (P : Program) (ts : Array TypeId) (t : TypeId) (x y : Int) (w : World) : (Builtin.max_ ts t #[.int .i64 x, .int .i64 y]).run P w = .ok (.int .i64 (mx x y)) w := by
  simp [Builtin.max_, Builtin.max2, mx]
theorem put_both {w W : World} {a b : Nat} {v0 v1 u0 u1 x0 x1 y0 y1 : Value} {t : TypeId} (hab : a ≠ b) (ha : w.heap[a]? = some (.cells #[v0, v1] t (0, 0))) (hb : w.heap[b]? = some (.cells #[u0, u1] t (0, 0)))
    (hW : (((w.setCell ⟨a, 0, none⟩ x0).setCell ⟨a, 1, none⟩ x1).setCell ⟨b, 0, none⟩ y0).setCell ⟨b, 1, none⟩ y1 = W) : W.heap[a]? = some (.cells #[x0, x1] t (0, 0)) ∧ W.heap[b]? = some (.cells #[y0, y1] t (0, 0)) := by
  have h1 := heap_put0 (u0 := x0) (u1 := x1) ha
  have M1 : Mut (· = a) w ((w.setCell ⟨a, 0, none⟩ x0).setCell ⟨a, 1, none⟩ x1) := Mut.setCell (S := (· = a)) (p := ⟨a, 1, none⟩) (Mut.setCell (S := (· = a)) (p := ⟨a, 0, none⟩) (Mut.refl (· = a) w) (fun _ => rfl) _) (fun _ => rfl) _
  have h2 := (M1.block b (lt_of_heap hb) (Ne.symm hab)).trans hb
  generalize ((w.setCell ⟨a, 0, none⟩ x0).setCell ⟨a, 1, none⟩ x1) = w1 at *
  have M2 : Mut (· = b) w1 ((w1.setCell ⟨b, 0, none⟩ y0).setCell ⟨b, 1, none⟩ y1) := Mut.setCell (S := (· = b)) (p := ⟨b, 1, none⟩) (Mut.setCell (S := (· = b)) (p := ⟨b, 0, none⟩) (Mut.refl (· = b) w1) (fun _ => rfl) _) (fun _ => rfl) _
  subst hW
  exact ⟨(M2.block a (lt_of_heap h1) hab).trans h1, heap_put0 h2⟩
end Go.Proofs.Ytapihgmokgkaaaa

/- Drawn paths: what is known of them while they are drawn. -/
import Derived.Test.YtcahjkaphpeobaaYv
import Derived.Deep.Cut
import Derived.Deep.CutRange
set_option linter.unusedSimpArgs false
set_option linter.unusedVariables false
namespace Go.Proofs.Ytcahjkaphpeobaa
open Go.RowKit

theorem info_path : (Try.prog.info? 30).map (fun i => (i.zero, i.size, i.bytes)) = some (some (.agg #[.slice none 0 0, .bool false]), 2, 32) := by kernel_rfl
def pcs (L : Nat → Pth) : Nat → List Value
  | 0 => []
  | t + 1 => pcs L t ++ [.slice (L t).a (L t).n (L t).c, .bool (L t).k]
theorem pcs_length (L : Nat → Pth) (t : Nat) : (pcs L t).length = t * 2 := by
  induction t with
  | zero => rfl
  | succ t ih => simp [pcs, ih]; omega
theorem pcs_ext {L L' : Nat → Pth} : ∀ {t : Nat}, (∀ i, i < t → L i = L' i) → pcs L t = pcs L' t
  | 0, _ => rfl
  | t + 1, h => by simp only [pcs]; rw [pcs_ext (fun i hi => h i (by omega)), h t (by omega)]
theorem pcs_get (L : Nat → Pth) : ∀ t i, i < t → (pcs L t)[i * 2]? = some (.slice (L i).a (L i).n (L i).c) ∧ (pcs L t)[i * 2 + 1]? = some (.bool (L i).k)
  | 0, i, h => by omega
  | t + 1, i, h => by
    have hl := pcs_length L t
    by_cases e : i = t
    · subst e
      simp only [pcs]
      refine ⟨?_, ?_⟩ <;> rw [List.getElem?_append_right (by omega)] <;> simp [hl]
    · obtain ⟨h0, h1⟩ := pcs_get L t i (by omega)
      simp only [pcs]
      refine ⟨?_, ?_⟩ <;> rw [List.getElem?_append_left (by omega)] <;> assumption
def updP (L : Nat → Pth) (j : Nat) (p : Pth) (i : Nat) : Pth := if i = j then p else L i
theorem pcs_set {L : Nat → Pth} {i : Nat} {p : Pth} : ∀ {t : Nat}, i < t → ((pcs L t).set (i * 2 + 1) (.bool p.k)).set (i * 2) (.slice p.a p.n p.c) = pcs (updP L i p) t
  | 0, h => by omega
  | t + 1, h => by
    have hl := pcs_length L t
    simp only [pcs]
    by_cases e : i = t
    · subst e
      rw [List.set_append_right _ _ (by omega), hl, Nat.add_sub_cancel_left, List.set_append_right _ _ (by omega), hl, Nat.sub_self]
      rw [pcs_ext (L' := L) (L := updP L i p) (fun j hj => by simp [updP]; omega)]
      simp [updP]
    · rw [List.set_append_left _ _ (by omega), List.set_append_left _ _ (by simp; omega), pcs_set (by omega)]
      simp [updP, Ne.symm e]
theorem own_lit {w : World} {base g n size : Nat} {e : TypeId} {cur : Array Value} {xs : List Value} (hh : w.heap[g]? = some (.cells cur e (0, 0))) (hb : base ≤ g) (hn : n ≤ maxLen) (hl : xs.length = n * size) (hx : cur.toList = xs) : w.ownsRow base e size (.slice (some ⟨g, 0, none⟩) n n) n xs := by
  refine ⟨hl, .inr ⟨g, n, cur, rfl, hb, hh, Nat.le_refl _, hn, ?_, ?_⟩⟩
  · rw [← hl, ← hx]; simp
  · rw [hx, ← hl, List.take_length]
theorem own_cap {w : World} {base : Nat} {e : TypeId} {size : Nat} {a : Option Addr} {n m c : Nat} {xs : List Value} (h : w.ownsRow base e size (.slice a m c) n xs) : n ≤ c := by
  rcases h.2 with ⟨h1, h2⟩ | ⟨g, cap, cur, hv, _, _, hc, _⟩
  · omega
  · cases hv; exact hc
/-- One path under way. -/
structure PI (w0 W : World) (B k n : Nat) (a : Option Addr) (c : Nat) (X Y : Nat → Int) : Prop where
  h : W.heap[w0.heap.size]? = some (.cells #[.slice a n c, .bool false] 30 (0, 0))
  o : W.ownsRow (w0.heap.size + 1) 38 2 (.slice a n c) n (cells2 X Y n)
  s : Strm W B k
  m : Mut (fun b => b = B ∨ w0.heap.size ≤ b) w0 W
  l : B < w0.heap.size
theorem PI.lt {w0 W : World} {B k n : Nat} {a : Option Addr} {c : Nat} {X Y : Nat → Int} (h : PI w0 W B k n a c X Y) : w0.heap.size < W.heap.size := lt_of_heap h.h
theorem PI.next {w0 W W' : World} {B k k' n : Nat} {a : Option Addr} {c : Nat} {X Y : Nat → Int} (h : PI w0 W B k n a c X Y) (hm : Mut (· = B) W W') (hs : Strm W' B k') : PI w0 W' B k' n a c X Y := by
  have hl := h.l
  exact ⟨(hm.block _ h.lt (by omega)).trans h.h, own_mut h.o hm (fun b hb e => by have := (h.o.lt b hb).1; omega), hs, h.m.trans (hm.mono fun _ _ e => .inl e), hl⟩
theorem PI.alloc {w0 W : World} {B k n : Nat} {a : Option Addr} {c : Nat} {X Y : Nat → Int} (h : PI w0 W B k n a c X Y) (o : Obj) : PI w0 (W.alloc o) B k n a c X Y :=
  h.next ((Mut.refl _ W).alloc o) (h.s.alloc o)
theorem PI.app {w0 W w5 : World} {B k n : Nat} {a : Option Addr} {c : Nat} {X Y : Nat → Int} {E : Obj} {g c' : Nat} {x y : Int} (h : PI w0 W B k n a c X Y) (hg : (W.alloc E).grownBy w5 (Value.slice a n c).ownBlock)
    (ho : w5.ownsRow (w0.heap.size + 1) 38 2 (.slice (some ⟨g, 0, none⟩) (n + 1) c') (n + 1) (cells2 X Y n ++ [.int .i64 x, .int .i64 y])) :
    PI w0 (w5.setCell ⟨w0.heap.size, 0, none⟩ (.slice (some ⟨g, 0, none⟩) (n + 1) c')) B k (n + 1) (some ⟨g, 0, none⟩) c' (upd X n x) (upd Y n y) := by
  have hlt := h.lt
  have hl := h.l
  have hh5 := grow_keep hg ((Below.heap_alloc W E _ hlt).trans h.h) (own_ne h.o h.h (by decide))
  have B5 : Below (w0.heap.size + 1) W w5 := Below.grown ((Below.refl _ W).alloc (by omega) E) hg (by simp; omega) (fun b hb => (h.o.lt b hb).1)
  have M5 : Mut (fun b => b = B ∨ w0.heap.size ≤ b) W w5 := ⟨B5.os, B5.tape, B5.output, B5.size, fun b hb hn => B5.block b (by
    have : ¬ w0.heap.size ≤ b := fun e => hn (.inr e)
    omega)⟩
  have S5 : Strm w5 B k := h.s.kept (S := fun b => w0.heap.size + 1 ≤ b) ⟨B5.os, B5.tape, B5.output, B5.size, fun b hb hn => B5.block b (by
    have : ¬ w0.heap.size + 1 ≤ b := hn
    omega)⟩ (fun b hb e => by have e' : w0.heap.size + 1 ≤ b := e; omega)
  refine ⟨set2_0 hh5, ?_, Strm.setCell S5 (by show B < w0.heap.size; omega) _, (h.m.trans (M5.mono fun _ _ e => e)).setCell (fun _ => .inr (Nat.le_refl _)) _, hl⟩
  rw [show cells2 (upd X n x) (upd Y n y) (n + 1) = cells2 X Y n ++ [.int .i64 x, .int .i64 y] by
    simp only [cells2]
    rw [cells2_ext (X := upd X n x) (Y := upd Y n y) (X' := X) (Y' := Y) (fun i hi => by simp [upd]; omega)]
    simp [upd]]
  exact own_set ho hh5 (by decide)
theorem PI.app' {w0 W w5 : World} {B k n : Nat} {a : Option Addr} {c : Nat} {X Y : Nat → Int} {g c' : Nat} {x y : Int} (h : PI w0 W B k n a c X Y) (hg : W.grownBy w5 (Value.slice a n c).ownBlock)
    (ho : w5.ownsRow (w0.heap.size + 1) 38 2 (.slice (some ⟨g, 0, none⟩) (n + 1) c') (n + 1) (cells2 X Y n ++ [.int .i64 x, .int .i64 y])) :
    PI w0 (w5.setCell ⟨w0.heap.size, 0, none⟩ (.slice (some ⟨g, 0, none⟩) (n + 1) c')) B k (n + 1) (some ⟨g, 0, none⟩) c' (upd X n x) (upd Y n y) := by
  have hlt := h.lt
  have hl := h.l
  have hh5 := grow_keep hg h.h (own_ne h.o h.h (by decide))
  have B5 : Below (w0.heap.size + 1) W w5 := Below.grown (Below.refl _ W) hg (by omega) (fun b hb => (h.o.lt b hb).1)
  have M5 : Mut (fun b => b = B ∨ w0.heap.size ≤ b) W w5 := ⟨B5.os, B5.tape, B5.output, B5.size, fun b hb hn => B5.block b (by
    have : ¬ w0.heap.size ≤ b := fun e => hn (.inr e)
    omega)⟩
  have S5 : Strm w5 B k := h.s.kept (S := fun b => w0.heap.size + 1 ≤ b) ⟨B5.os, B5.tape, B5.output, B5.size, fun b hb hn => B5.block b (by
    have : ¬ w0.heap.size + 1 ≤ b := hn
    omega)⟩ (fun b hb e => by have e' : w0.heap.size + 1 ≤ b := e; omega)
  refine ⟨set2_0 hh5, ?_, Strm.setCell S5 (by show B < w0.heap.size; omega) _, (h.m.trans (M5.mono fun _ _ e => e)).setCell (fun _ => .inr (Nat.le_refl _)) _, hl⟩
  rw [show cells2 (upd X n x) (upd Y n y) (n + 1) = cells2 X Y n ++ [.int .i64 x, .int .i64 y] by
    simp only [cells2]
    rw [cells2_ext (X := upd X n x) (Y := upd Y n y) (X' := X) (Y' := Y) (fun i hi => by simp [upd]; omega)]
    simp [upd]]
  exact own_set ho hh5 (by decide)
/-- Paths under way. -/
structure PO (w W : World) (B k : Nat) (v : Value) (t : Nat) (L : Nat → Pth) : Prop where
  o : W.ownsRow w.heap.size 30 2 v t (pcs L t)
  p : ∀ i, i < t → (L i).n ≤ 4 ∧ W.ownsRow w.heap.size 38 2 (.slice (L i).a (L i).n (L i).c) (L i).n (cells2 (L i).X (L i).Y (L i).n)
  s : Strm W B k
  m : Mut (· = B) w W
  l : B < w.heap.size
theorem PO.next {w W W' : World} {B k k' t : Nat} {v : Value} {L : Nat → Pth} (h : PO w W B k v t L) (hm : Mut (fun b => b = B ∨ W.heap.size ≤ b) W W') (hs : Strm W' B k') : PO w W' B k' v t L := by
  have hl := h.l
  exact ⟨own_mut h.o hm (fun b hb e => by have := h.o.lt b hb; omega), fun i hi => ⟨(h.p i hi).1, own_mut (h.p i hi).2 hm (fun b hb e => by have := (h.p i hi).2.lt b hb; omega)⟩, hs,
    ⟨hm.os.trans h.m.os, hm.tape.trans h.m.tape, hm.output.trans h.m.output, Nat.le_trans h.m.size hm.size, fun b hb hn => (hm.block b (Nat.lt_of_lt_of_le hb h.m.size) (by have := h.m.size; omega)).trans (h.m.block b hb hn)⟩, hl⟩
theorem PO.mutB {w W W' : World} {B k k' t : Nat} {v : Value} {L : Nat → Pth} (h : PO w W B k v t L) (hm : Mut (· = B) W W') (hs : Strm W' B k') : PO w W' B k' v t L := h.next (hm.mono fun _ _ e => .inl e) hs
theorem own_two {w w5 : World} {base : Nat} {v v' : Value} {n n' : Nat} {xs ys : List Value} {E : Obj} (h : w.ownsRow base 38 2 v n xs) (h' : w.ownsRow base 30 2 v' n' ys) (hg : (w.alloc E).grownBy w5 v'.ownBlock) : w5.ownsRow base 38 2 v n xs := by
  obtain ⟨h1, h2⟩ := h
  refine ⟨h1, ?_⟩
  rcases h2 with h2 | ⟨g, cap, cur, hv, hb, hh, r⟩
  · exact .inl h2
  · exact .inr ⟨g, cap, cur, hv, hb, grow_keep hg ((Below.heap_alloc w E g (lt_of_heap hh)).trans hh) (own_ne h' hh (by decide)), r⟩
theorem PO.app {w W w5 : World} {B k t : Nat} {v v' : Value} {L : Nat → Pth} {E : Obj} {p : Pth} (h : PO w W B k v t L) (hp : W.ownsRow w.heap.size 38 2 (.slice p.a p.n p.c) p.n (cells2 p.X p.Y p.n)) (hn : p.n ≤ 4)
    (hg : (W.alloc E).grownBy w5 v.ownBlock) (ho : w5.ownsRow w.heap.size 30 2 v' (t + 1) (pcs L t ++ [.slice p.a p.n p.c, .bool p.k])) : PO w w5 B k v' (t + 1) (updP L t p) := by
  have hl := h.l
  have B5 : Below w.heap.size W w5 := Below.grown ((Below.refl _ W).alloc h.m.size E) hg (by simp; have := h.m.size; omega) (fun b hb => (h.o.lt b hb).1)
  refine ⟨?_, fun i hi => ?_, h.s.kept (S := fun b => w.heap.size ≤ b) ⟨B5.os, B5.tape, B5.output, B5.size, fun b hb hn => B5.block b (by
    have : ¬ w.heap.size ≤ b := hn
    omega)⟩ (fun b hb e => by have e' : w.heap.size ≤ b := e; omega), ⟨B5.os.trans h.m.os, B5.tape.trans h.m.tape, B5.output.trans h.m.output, Nat.le_trans h.m.size B5.size, fun b hb hn => (B5.block b hb).trans (h.m.block b hb hn)⟩, hl⟩
  · rw [show pcs (updP L t p) (t + 1) = pcs L t ++ [.slice p.a p.n p.c, .bool p.k] by
      simp only [pcs]
      rw [pcs_ext (L := updP L t p) (L' := L) (fun i hi => by simp [updP]; omega)]
      simp [updP]]
    exact ho
  · by_cases e : i = t
    · subst e
      simp only [updP, if_true]
      exact ⟨hn, own_two hp h.o hg⟩
    · simp only [updP, if_neg e]
      obtain ⟨g1, g2⟩ := h.p i (by omega)
      exact ⟨g1, own_two g2 h.o hg⟩
theorem PO.more {w W : World} {B k k' t : Nat} {v : Value} {L : Nat → Pth} (h : PO w W B k v t L) (hk : k ≤ k') (h2 : k' ≤ 1000000) : PO w W B k' v t L := ⟨h.o, h.p, h.s.more hk h2, h.m, h.l⟩
/-- A path that is ready is laid behind the others. -/
theorem PI.done {w w0 W : World} {B k k' n t : Nat} {a : Option Addr} {c : Nat} {X Y : Nat → Int} {v : Value} {L : Nat → Pth} {b : Bool} (h : PI w0 W B k n a c X Y) (hp : PO w w0 B k' v t L) :
    PO w (W.setCell ⟨w0.heap.size, 1, none⟩ (.bool b)) B k v t L ∧ (W.setCell ⟨w0.heap.size, 1, none⟩ (.bool b)).ownsRow w.heap.size 38 2 (.slice a n c) n (cells2 X Y n) ∧ (W.setCell ⟨w0.heap.size, 1, none⟩ (.bool b)).heap[w0.heap.size]? = some (.cells #[.slice a n c, .bool b] 30 (0, 0)) := by
  have hl := h.l
  have hs := hp.m.size
  refine ⟨hp.next (h.m.setCell (fun _ => .inr (Nat.le_refl _)) _) (Strm.setCell h.s (by show B < w0.heap.size; omega) _), own_base (own_set h.o h.h (by decide)) (by omega), set2_1 h.h⟩
theorem PO.fin {w W : World} {B k t c : Nat} {a : Option Addr} {L : Nat → Pth} (h : PO w W B k (.slice a t c) t L) : PathsR W a t L ∧ (∀ i, i < t → (L i).n ≤ 4 ∧ (L i).n ≤ (L i).c) := by
  refine ⟨?_, fun i hi => ⟨(h.p i hi).1, own_cap (h.p i hi).2⟩⟩
  by_cases h0 : t = 0
  · exact .inl h0
  obtain ⟨g, cap, hv, _, hlt⟩ := h.o.form (by omega)
  cases hv
  refine .inr ⟨g, 0, rfl, hlt, fun i hi => ⟨?_, own_pts (h.p i hi).2⟩⟩
  obtain ⟨g0, g1⟩ := pcs_get L t i hi
  rw [Nat.zero_add]
  exact ⟨(h.o.cellAt (i * 2) (by omega)).trans g0, (h.o.cellAt (i * 2 + 1) (by omega)).trans g1⟩
/-- One of the paths is changed. -/
theorem PO.put {w W : World} {B k t g c j : Nat} {L : Nat → Pth} {p : Pth} (h : PO w W B k (.slice (some ⟨g, 0, none⟩) t c) t L) (hj : j < t) (hp : W.ownsRow w.heap.size 38 2 (.slice p.a p.n p.c) p.n (cells2 p.X p.Y p.n)) (hn : p.n ≤ 4) :
    PO w ((W.setCell ⟨g, j * 2 + 1, none⟩ (.bool p.k)).setCell ⟨g, j * 2, none⟩ (.slice p.a p.n p.c)) B k (.slice (some ⟨g, 0, none⟩) t c) t (updP L j p) := by
  have hl := h.l
  have hg := h.o.lt g rfl
  have hs := h.m.size
  have M2 : Mut (· = g) W ((W.setCell ⟨g, j * 2 + 1, none⟩ (.bool p.k)).setCell ⟨g, j * 2, none⟩ (.slice p.a p.n p.c)) := Mut.setCell (S := (· = g)) (p := ⟨g, j * 2, none⟩) (Mut.setCell (S := (· = g)) (p := ⟨g, j * 2 + 1, none⟩) (Mut.refl (· = g) W) (fun _ => rfl) _) (fun _ => rfl) _
  obtain ⟨cur, hh⟩ : ∃ cur, W.heap[g]? = some (.cells cur 30 (0, 0)) := by
    rcases h.o.2 with ⟨h1, _⟩ | ⟨g', cap, cur, hv, _, hh, _⟩
    · cases h1
    · cases hv; exact ⟨cur, hh⟩
  refine ⟨?_, fun i hi => ?_, Strm.setCell (Strm.setCell h.s (by show B < g; omega) _) (by show B < g; omega) _, (h.m.setCell (fun e => absurd e (by show ¬ g < w.heap.size; omega)) _).setCell (fun e => absurd e (by show ¬ g < w.heap.size; omega)) _, hl⟩
  · rw [← pcs_set hj]
    exact own_set1 (own_set1 h.o)
  · by_cases e : i = j
    · subst e
      simp only [updP, if_true]
      exact ⟨hn, own_mut hp M2 (fun b hb e => by subst e; exact own_ne hp hh (by decide) hb)⟩
    · simp only [updP, if_neg e]
      obtain ⟨g1, g2⟩ := h.p i hi
      exact ⟨g1, own_mut g2 M2 (fun b hb e => by subst e; exact own_ne g2 hh (by decide) hb)⟩
end Go.Proofs.Ytcahjkaphpeobaa

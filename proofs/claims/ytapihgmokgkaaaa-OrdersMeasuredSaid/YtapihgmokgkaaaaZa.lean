/- AnOrder. -/
import Derived.Test.YtapihgmokgkaaaaYz
set_option linter.unusedSimpArgs false
set_option linter.unusedVariables false
namespace Go.Proofs.Ytapihgmokgkaaaa
open Go.RowKit

theorem info_visit : (Try.prog.info? 34).map (fun i => (i.zero, i.size, i.bytes)) = some (some (.agg #[.int .i64 0, .int .i64 0, .bool false]), 3, 24) := by kernel_rfl
def vcs (V : Nat → Vis) : Nat → List Value
  | 0 => []
  | t + 1 => vcs V t ++ [.int .i64 (V t).p, .int .i64 (V t).s, .bool (V t).b]
theorem vcs_length (V : Nat → Vis) (t : Nat) : (vcs V t).length = t * 3 := by
  induction t with
  | zero => rfl
  | succ t ih => simp [vcs, ih]; omega
theorem vcs_ext {V V' : Nat → Vis} : ∀ {t : Nat}, (∀ i, i < t → V i = V' i) → vcs V t = vcs V' t
  | 0, _ => rfl
  | t + 1, h => by simp only [vcs]; rw [vcs_ext (fun i hi => h i (by omega)), h t (by omega)]
theorem vcs_get (V : Nat → Vis) : ∀ t i, i < t → (vcs V t)[i * 3]? = some (.int .i64 (V i).p) ∧ (vcs V t)[i * 3 + 1]? = some (.int .i64 (V i).s) ∧ (vcs V t)[i * 3 + 2]? = some (.bool (V i).b)
  | 0, i, h => by omega
  | t + 1, i, h => by
    have hl := vcs_length V t
    by_cases e : i = t
    · subst e
      simp only [vcs]
      refine ⟨?_, ?_, ?_⟩ <;> rw [List.getElem?_append_right (by omega)] <;> simp [hl]
    · obtain ⟨h0, h1, h2⟩ := vcs_get V t i (by omega)
      simp only [vcs]
      refine ⟨?_, ?_, ?_⟩ <;> rw [List.getElem?_append_left (by omega)] <;> assumption
def updV (V : Nat → Vis) (j : Nat) (v : Vis) (i : Nat) : Vis := if i = j then v else V i
theorem vcs_upd (V : Nat → Vis) (t : Nat) (v : Vis) : vcs (updV V t v) (t + 1) = vcs V t ++ [.int .i64 v.p, .int .i64 v.s, .bool v.b] := by
  simp only [vcs]
  rw [vcs_ext (V := updV V t v) (V' := V) (fun i hi => by simp [updV]; omega)]
  simp [updV]
/-- Visits under way. -/
structure VO (w W : World) (B k : Nat) (v : Value) (t : Nat) (V : Nat → Vis) : Prop where
  o : W.ownsRow w.heap.size 34 3 v t (vcs V t)
  p : ∀ i, i < t → sm (V i).p
  s : Strm W B k
  m : Mut (· = B) w W
  l : B < w.heap.size
theorem VO.mutB {w W W' : World} {B k k' t : Nat} {v : Value} {V : Nat → Vis} (h : VO w W B k v t V) (hm : Mut (· = B) W W') (hs : Strm W' B k') : VO w W' B k' v t V := by
  have hl := h.l
  exact ⟨own_mut h.o hm (fun b hb e => by have := h.o.lt b hb; omega), h.p, hs, h.m.trans (hm.mono fun _ _ e => e), hl⟩
theorem VO.app {w W w5 : World} {B k t : Nat} {v v' : Value} {V : Nat → Vis} {E : Obj} {x : Vis} (h : VO w W B k v t V) (hx : sm x.p) (hg : (W.alloc E).grownBy w5 v.ownBlock)
    (ho : w5.ownsRow w.heap.size 34 3 v' (t + 1) (vcs V t ++ [.int .i64 x.p, .int .i64 x.s, .bool x.b])) : VO w w5 B k v' (t + 1) (updV V t x) := by
  have hl := h.l
  have B5 : Below w.heap.size W w5 := Below.grown ((Below.refl _ W).alloc h.m.size E) hg (by simp; have := h.m.size; omega) (fun b hb => (h.o.lt b hb).1)
  refine ⟨by rw [vcs_upd]; exact ho, fun i hi => ?_, h.s.kept (S := fun b => w.heap.size ≤ b) ⟨B5.os, B5.tape, B5.output, B5.size, fun b hb hn => B5.block b (by
    have : ¬ w.heap.size ≤ b := hn
    omega)⟩ (fun b hb e => by have e' : w.heap.size ≤ b := e; omega), ⟨B5.os.trans h.m.os, B5.tape.trans h.m.tape, B5.output.trans h.m.output, Nat.le_trans h.m.size B5.size, fun b hb hn => (B5.block b hb).trans (h.m.block b hb hn)⟩, hl⟩
  by_cases e : i = t
  · subst e; simp only [updV, if_true]; exact hx
  · simp only [updV, if_neg e]; exact h.p i (by omega)
theorem VO.more {w W : World} {B k k' t : Nat} {v : Value} {V : Nat → Vis} (h : VO w W B k v t V) (hk : k ≤ k') (h2 : k' ≤ 1000000) : VO w W B k' v t V := ⟨h.o, h.p, h.s.more hk h2, h.m, h.l⟩
theorem VO.fin {w W : World} {B k t c : Nat} {a : Option Addr} {V : Nat → Vis} (h : VO w W B k (.slice a t c) t V) : VisR W a t V ∧ t ≤ c := by
  refine ⟨?_, own_cap h.o⟩
  by_cases h0 : t = 0
  · exact .inl h0
  obtain ⟨g, cap, hv, _, hlt⟩ := h.o.form (by omega)
  cases hv
  refine .inr ⟨g, 0, rfl, hlt, fun i hi => ?_⟩
  obtain ⟨g0, g1, g2⟩ := vcs_get V t i hi
  rw [Nat.zero_add]
  exact ⟨(h.o.cellAt (i * 3) (by omega)).trans g0, (h.o.cellAt (i * 3 + 1) (by omega)).trans g1, (h.o.cellAt (i * 3 + 2) (by omega)).trans g2⟩
theorem own_kept7 {w w5 : World} {base : Nat} {v v' : Value} {n n' : Nat} {xs ys : List Value} {E : Obj} (h : w.ownsRow base 3 1 v n xs) (h' : w.ownsRow base 34 3 v' n' ys) (hg : (w.alloc E).grownBy w5 v'.ownBlock) : w5.ownsRow base 3 1 v n xs := by
  obtain ⟨h1, h2⟩ := h
  refine ⟨h1, ?_⟩
  rcases h2 with h2 | ⟨g, cap, cur, hv, hb, hh, r⟩
  · exact .inl h2
  · exact .inr ⟨g, cap, cur, hv, hb, grow_keep hg ((Below.heap_alloc w E g (lt_of_heap hh)).trans hh) (own_ne h' hh (by decide)), r⟩
def AnOrderE (w : World) (B k m : Nat) (e : Ending) (w' : World) : Prop := ∃ a l c V, e = .returned (.slice a l c) ∧ l ≤ m + 1 ∧ VO w w' B k (.slice a l c) l V
theorem upto_lt {n : Nat} {z : Int} (h : z ∈ upto n) : ∃ i : Nat, z = i ∧ i < n := by
  unfold upto at h
  obtain ⟨i, hi, rfl⟩ := List.mem_map.1 h
  exact ⟨i, rfl, List.mem_range.1 hi⟩
set_option maxRecDepth 100000 in
set_option maxHeartbeats 16000000 in
theorem anOrder_any (B k : Nat) (a : Option Addr) (m c : Nat) (P : Nat → Pth) (w : World) (hs : Strm w B k) (hk : k + 200 ≤ 1000000) (hm : m ≤ 10) (hp : PathsR w a m P) (hn : ∀ i, i < m → (P i).n ≤ 100) (hpb : ∀ W, Mut (· = B) w W → PathsR W a m P) :
    Calls Try.prog 6 #[.pointer (some ⟨B, 0, none⟩), .slice a m c] w (AnOrderE w B (k + 100) m) := by
  obtain ⟨i0, hi0, hz0, hz1, hz2⟩ := info_parts info_visit
  have hB := hs.lt
  have HPB := Lib.hid hpb
  have HN := Lib.hid hn
  clear hp hn hpb
  go_enter Try.func6, Try.ntmps6
  go_wp2_with (fail)
  refine (order_any B k m w hs (by omega) (by omega)).mono ?_
  rintro e w1 ⟨ao, co, ol, rfl, hown, hperm, hst, hmt⟩
  have hll : ol.length = m := by rw [hperm.length_eq, upto_length]
  have HW := Lib.hid hown
  have HPM := Lib.hid hperm
  have HO1 : Hid (VO w w1 B (k + m) (.slice none 0 0) 0 (fun _ => ⟨0, 0, false⟩)) := Lib.hid ⟨World.ownsRow_nil _ _ _ _, fun i hi => by omega, hst, hmt, hB⟩
  clear hown hperm hst hmt hs
  go_wp2_with (fail)
  go_loopw [5, 13] (fun v i wr => ∃ t a' c' V, v = .slice a' t c' ∧ i = .int .i64 (t : Nat) ∧ t ≤ m ∧ VO w wr B (k + m + 6 * t) (.slice a' t c') t V ∧ wr.ownsRow w.heap.size 3 1 (.slice ao m co) m (ivs ol)) (fun _ i _ => m - (intOf i).toNat)
  case atStart => exact ⟨0, _, _, _, rfl, rfl, by omega, HO1.out, HW.out⟩
  case round =>
    clear HO1 HW
    obtain ⟨t, a', c', V, rfl, rfl, ht, hvo, hown⟩ := hrel
    have HO := Lib.hid hvo
    have HW := Lib.hid hown
    clear hvo hown
    by_cases hlt : t < m
    · obtain ⟨g, cap', hv, hg, hgl⟩ := HW.out.form (by omega)
      cases hv
      obtain ⟨i, hi, hii⟩ := upto_lt (HPM.out.mem_iff.1 (List.getElem_mem (show t < ol.length by omega)))
      have cm : wr.cell? ⟨g, t, none⟩ = some (.int .i64 i) := by rw [HW.out.cellAt t (by omega), ← hi]; simp [ivs, hll, hlt]
      clear hi
      go_wp2_with (fail)
      refine (aVisit_any B _ a m c P i wr HO.out.s (by omega) (by omega) (HPB.out wr HO.out.m) HN.out (by omega)).mono ?_
      rintro e w2 ⟨x, rfl, hx, hst2, hmt2⟩
      have HO2 := Lib.hid (HO.out.mutB hmt2 hst2)
      have HW2 := Lib.hid (own_mut HW.out hmt2 (fun b hb e => by have := (HW.out.lt b hb).1; omega))
      have hs2 := HO2.out.m.size
      clear hst2 hmt2 cm
      obtain ⟨xp, xs, xb⟩ := x
      unfold Vis.v
      go_wp2_with (at_builtin; refine wpList_append_lies _ rfl _ _ 31 rfl w.heap.size 34 i0 (.agg #[.int .i64 0, .int .i64 0, .bool false]) 3 24 Try.underlying31 hi0 hz0 hz1 hz2 rfl (by decide) _ _ _ rfl (HO2.out.o.alloc _) ⟨w2.heap.size, 0, none⟩ 1 1 [.int .i64 xp, .int .i64 xs, .bool xb] rfl rfl (World.news_of_block (cs := #[.int .i64 xp, .int .i64 xs, .bool xb]) (t := 34) (fr := (0, 0)) (heap_alloc_new w2 _)) (by simp [Value.oneCell']) (by omega) (by unfold maxLen; omega) (by omega) (by simp; omega) (w2.heap.size + 1) (by simp) ?_; intro g7 c7 w7 hown7 hgrow7 _ hlt7; have HO7 := Lib.hid (HO2.out.app (x := ⟨xp, xs, xb⟩) hx hgrow7 hown7); have HW7 := Lib.hid (own_kept7 HW2.out HO2.out.o hgrow7); clear hown7 hgrow7)
      go_roundw
      case rel => exact ⟨t + 1, _, _, _, rfl, by go_num, by omega, HO7.out.more (by omega) (by omega), HW7.out⟩
      case measure => simp [intOf]; omega
    · obtain rfl : m = t := by omega
      go_wp2_with (fail)
      refine (flip_any B _ 30 _ HO.out.s (by omega) (by omega) (by omega)).mono ?_
      rintro e w2 ⟨⟨bb, rfl⟩, hst2, hmt2⟩
      have HO2 := Lib.hid (HO.out.mutB hmt2 hst2)
      have hs2 := HO2.out.m.size
      clear hst2 hmt2
      rcases bb with _ | _
      · go_wp2_with (fail)
        go_ret
        exact ⟨_, _, _, _, rfl, by omega, HO2.out.more (by omega) (by omega)⟩
      · go_wp2_with (at_builtin; refine wpList_append_lies _ rfl _ _ 31 rfl w.heap.size 34 i0 (.agg #[.int .i64 0, .int .i64 0, .bool false]) 3 24 Try.underlying31 hi0 hz0 hz1 hz2 rfl (by decide) _ _ _ rfl (HO2.out.o.alloc _) ⟨w2.heap.size, 0, none⟩ 1 1 [.int .i64 0, .int .i64 0, .bool false] rfl rfl (World.news_of_block (cs := #[.int .i64 0, .int .i64 0, .bool false]) (t := 34) (fr := (0, 0)) (heap_alloc_new w2 _)) (by simp [Value.oneCell']) (by omega) (by unfold maxLen; omega) (by omega) (by simp; omega) (w2.heap.size + 1) (by simp) ?_; intro g7 c7 w7 hown7 hgrow7 _ hlt7; have HO7 := Lib.hid (HO2.out.app (x := ⟨0, 0, false⟩) (by unfold sm; show (-1000000 : Int) ≤ 0 ∧ (0 : Int) ≤ 1000000; omega) hgrow7 hown7); clear hown7 hgrow7)
        go_ret
        exact ⟨_, _, _, _, rfl, by omega, HO7.out.more (by omega) (by omega)⟩
end Go.Proofs.Ytapihgmokgkaaaa

/- Rows of numbers in memory, drawn numbers; two slices compared. -/
import Derived.Test.YtddnimbalfaieaaHold
import Derived.Test.YtddnimbalfaieaaTk
import Derived.Laws.BitsLemmas
import Derived.Deep.AppendLies
set_option linter.unusedSimpArgs false
set_option linter.unusedVariables false
namespace Go.Proofs.Ytddnimbalfaieaa
open Go.RowKit
theorem info_parts {f : Option TypeInfo} {z : Value} {s b : Nat} (h : f.map (fun i => (i.zero, i.size, i.bytes)) = some (some z, s, b)) : ∃ i, f = some i ∧ i.zero = some z ∧ i.size = s ∧ i.bytes = b := by
  cases f with
  | none => cases h
  | some i => exact ⟨i, rfl, by simp at h; exact h.1, by simp at h; exact h.2.1, by simp at h; exact h.2.2⟩
theorem i64w {n : Int} (h : -9000000000000000000 ≤ n ∧ n ≤ 9000000000000000000) : IntKind.i64.wrap n = n := by rw [IntKind.wrap_i64]; omega
/-- Numbers in memory, or none. -/
def IntsR (w : World) (a : Option Addr) (n : Nat) (V : Nat → Int) : Prop :=
  n = 0 ∨ ∃ b off, a = some ⟨b, off, none⟩ ∧ b < w.heap.size ∧ ∀ i, i < n → w.cell? ⟨b, off + i, none⟩ = some (.int .i64 (V i))
theorem IntsR.kept {w w' : World} {a : Option Addr} {n : Nat} {V : Nat → Int} (h : IntsR w a n V) (hb : Below w.heap.size w w') : IntsR w' a n V := by
  rcases h with h | ⟨b, off, rfl, h1, h2⟩
  · exact .inl h
  · exact .inr ⟨b, off, rfl, Nat.lt_of_lt_of_le h1 hb.size, fun i hi => cellk hb h1 (h2 i hi)⟩
theorem Below.next_drew {B : Nat} {w W : World} (h : Below B w W) : Below B w W.drew := ⟨h.os, h.tape, h.output, h.size, h.block⟩
/-- The first m numbers as cells. -/
def vs (v : Nat → Int) (m : Nat) : List Value := (List.range m).map (fun i => .int .i64 (v i))
theorem vs_length (v : Nat → Int) (m : Nat) : (vs v m).length = m := by simp [vs]
theorem vs_succ (v : Nat → Int) (m : Nat) : vs v (m + 1) = vs v m ++ [.int .i64 (v m)] := by simp [vs, List.range_succ]
theorem vs_get (v : Nat → Int) (m i : Nat) (h : i < m) : (vs v m)[i]? = some (.int .i64 (v i)) := by simp [vs, h]
theorem vs_ext {u v : Nat → Int} {m : Nat} (h : ∀ i, i < m → u i = v i) : vs u m = vs v m := by
  unfold vs
  apply List.map_congr_left
  intro i hi
  rw [h i (by simpa using hi)]
/-- A block whose first m cells are numbers. -/
def BlkI (w : World) (g m : Nat) (v : Nat → Int) : Prop := ∃ cur, w.heap[g]? = some (.cells cur 3 (0, 0)) ∧ ∀ i, i < m → cur[i]? = some (.int .i64 (v i))
theorem BlkI.lt {w : World} {g m : Nat} {v : Nat → Int} (h : BlkI w g m v) : g < w.heap.size := by obtain ⟨_, h, _⟩ := h; exact lt_of_heap h
theorem BlkI.cell {w : World} {g m : Nat} {v : Nat → Int} (h : BlkI w g m v) {i : Nat} (hi : i < m) : w.cell? ⟨g, i, none⟩ = some (.int .i64 (v i)) := by obtain ⟨_, h, h2⟩ := h; exact cell_of h (h2 i hi)
theorem BlkI.frozen {w : World} {g m : Nat} {v : Nat → Int} (h : BlkI w g m v) (i : Nat) : w.frozen? ⟨g, i, none⟩ = false := by obtain ⟨_, h, h2⟩ := h; exact frozen_of h
theorem BlkI.kept {w w' : World} {g m : Nat} {v : Nat → Int} (h : BlkI w g m v) (hb : Below w.heap.size w w') : BlkI w' g m v := by obtain ⟨c, h, h2⟩ := h; exact ⟨c, heap_keep hb h, h2⟩
theorem BlkI.ints {w : World} {g m : Nat} {v : Nat → Int} (h : BlkI w g m v) : IntsR w (some ⟨g, 0, none⟩) m v := .inr ⟨g, 0, rfl, h.lt, fun i hi => by rw [Nat.zero_add]; exact h.cell hi⟩
theorem BlkI.less {w : World} {g m k : Nat} {v : Nat → Int} (h : BlkI w g m v) (hk : k ≤ m) : BlkI w g k v := by obtain ⟨c, h, h2⟩ := h; exact ⟨c, h, fun i hi => h2 i (by omega)⟩
theorem BlkI.ext {w : World} {g m : Nat} {u v : Nat → Int} (h : BlkI w g m u) (he : ∀ i, i < m → u i = v i) : BlkI w g m v := by obtain ⟨c, h, h2⟩ := h; exact ⟨c, h, fun i hi => by rw [h2 i hi, he i hi]⟩
theorem blk_of_own {w : World} {base g m c : Nat} {v : Nat → Int} (h : w.ownsRow base 3 1 (.slice (some ⟨g, 0, none⟩) m c) m (vs v m)) : BlkI w g m v := by
  rcases h.2 with ⟨h1, h2⟩ | ⟨g', cap, cur, hv, hb, hh, hc, hm, hs, hx⟩
  · cases h1
  · cases hv
    refine ⟨cur, hh, fun i hi => ?_⟩
    have h3 := vs_get v m i hi
    rw [← hx, List.getElem?_take_of_lt (by omega)] at h3
    rw [← Array.getElem?_toList]; exact h3
theorem ints_of_own {w : World} {base m c : Nat} {a : Option Addr} {v : Nat → Int} (h : w.ownsRow base 3 1 (.slice a m c) m (vs v m)) : IntsR w a m v := by
  by_cases hm : m = 0
  · exact .inl hm
  · obtain ⟨g, cap', hv, _, hlt⟩ := h.form (by omega)
    cases hv
    exact (blk_of_own h).ints
theorem info_intV : (Try.prog.info? 3).map (fun i => (i.zero, i.size, i.bytes)) = some (some (.int .i64 0), 1, 8) := by kernel_rfl
theorem own_litV {w : World} {base g n size : Nat} {e : TypeId} {cur : Array Value} {xs : List Value} (hh : w.heap[g]? = some (.cells cur e (0, 0))) (hb : base ≤ g) (hn : n ≤ maxLen) (hl : xs.length = n * size) (hx : cur.toList = xs) : w.ownsRow base e size (.slice (some ⟨g, 0, none⟩) n n) n xs := by
  refine ⟨hl, .inr ⟨g, n, cur, rfl, hb, hh, Nat.le_refl _, hn, ?_, ?_⟩⟩
  · rw [← hl, ← hx]; simp
  · rw [hx, ← hl, List.take_length]
theorem own_sliceV {w : World} {base : Nat} {e : TypeId} {size : Nat} {v : Value} {n : Nat} {xs : List Value} (h : w.ownsRow base e size v n xs) : ∃ ao cap, v = .slice ao n cap := by
  rcases h.2 with ⟨rfl, h0⟩ | ⟨g, cap, cur, hv, _⟩
  · exact ⟨none, 0, by rw [h0]⟩
  · exact ⟨_, _, hv⟩
theorem StrmV.setCell {w : World} {B k : Nat} (h : Strm w B k) {a : Addr} (ha : B < a.block) (v : Value) : Strm (w.setCell a v) B k :=
  h.kept ((Mut.refl (· = a.block) w).setCell (p := a) (fun _ => rfl) v) (fun x hx => by omega)
theorem StrmV.drew {w : World} {B k : Nat} (h : Strm w B k) : Strm w.drew B k :=
  h.kept (S := fun _ => False) ⟨rfl, rfl, rfl, Nat.le_refl _, fun _ _ _ => rfl⟩ (fun _ _ h => h)
theorem StrmV.below {w w' : World} {B k : Nat} (h : Strm w B k) (hb : Below w.heap.size w w') : Strm w' B k :=
  h.kept (S := fun _ => False) ⟨hb.os, hb.tape, hb.output, hb.size, fun k hk _ => hb.block k hk⟩ (fun _ _ h => h)
theorem mutV_of_bel {S : Nat → Prop} {w w' : World} (h : Below w.heap.size w w') : Mut S w w' := ⟨h.os, h.tape, h.output, h.size, fun k hk _ => h.block k hk⟩
theorem pick_atV (B k : Nat) (l : List Int) (n : Nat) (P : Int → Prop) (w : World) (g : Nat) (hg : w.heap.size = g) (hs : Strm w B k) (hk : k + 1 ≤ 1000000) (hn : l.length = n) (h3 : 1 ≤ n) (h4 : n ≤ 1000000) (hP : ∀ z ∈ l, P z) :
    Calls Try.prog 23 #[.pointer (some ⟨B, 0, none⟩), .slice (some ⟨g, 0, none⟩) n n] (w.alloc (.cells (l.map (Value.int .i64)).toArray 3)) (StrmPost w B k 1 (IntE P)) := by
  subst hg; exact pick_new B k l n P w hs hk hn h3 h4 hP
theorem own_mutV {S : Nat → Prop} {w w' : World} {base : Nat} {e : TypeId} {size : Nat} {v : Value} {n : Nat} {xs : List Value} (h : w.ownsRow base e size v n xs) (hm : Mut S w w') (hs : ∀ b, v.ownBlock = some b → ¬ S b) : w'.ownsRow base e size v n xs := by
  obtain ⟨h1, h2⟩ := h
  refine ⟨h1, ?_⟩
  rcases h2 with h2 | ⟨g, cap, cur, hv, hg, hh, r⟩
  · exact .inl h2
  · exact .inr ⟨g, cap, cur, hv, hg, (hm.block g (lt_of_heap hh) (hs g (by rw [hv]; rfl))).trans hh, r⟩
theorem own_streamV {w w' : World} {base B : Nat} {e : TypeId} {size : Nat} {v : Value} {n : Nat} {xs : List Value} (h : w.ownsRow base e size v n xs) (hm : Mut (· = B) w w') (hB : B < base) : w'.ownsRow base e size v n xs :=
  own_mutV h hm (fun b hb e => by have := (h.lt b hb).1; omega)
theorem own_setV {w : World} {base n c g o size : Nat} {e : TypeId} {xs : List Value} {u : Value} (h : w.ownsRow base e size (.slice (some ⟨g, 0, none⟩) n c) n xs) : (w.setCell ⟨g, o, none⟩ u).ownsRow base e size (.slice (some ⟨g, 0, none⟩) n c) n (xs.set o u) := by
  obtain ⟨h1, h2⟩ := h
  refine ⟨by simpa using h1, ?_⟩
  rcases h2 with ⟨h2, _⟩ | ⟨g', cap, cur, hv, hb, hh, hn, hm, hs, hx⟩
  · cases h2
  · cases hv
    refine .inr ⟨g, c, cur.setIfInBounds o u, rfl, hb, ?_, hn, hm, by simpa using hs, ?_⟩
    · simp [World.setCell, Array.getElem?_modify, hh]
    · rw [← hx]; simp [List.take_set]
/-- Integers all. -/
def AllI (xs : List Value) : Prop := ∀ u ∈ xs, ∃ z : Int, u = .int .i64 z
theorem AllI.nil : AllI [] := fun u h => by cases h
theorem AllI.app {xs ys : List Value} (h : AllI xs) (k : AllI ys) : AllI (xs ++ ys) := fun u hu => (List.mem_append.1 hu).elim (h u) (k u)
theorem AllI.one (z : Int) : AllI [.int .i64 z] := fun u hu => ⟨z, by simpa using hu⟩
theorem AllI.two (y z : Int) : AllI [.int .i64 y, .int .i64 z] := fun u hu => by
  simp only [List.mem_cons, List.not_mem_nil, or_false] at hu
  rcases hu with rfl | rfl
  · exact ⟨y, rfl⟩
  · exact ⟨z, rfl⟩
theorem AllI.set {xs : List Value} (h : AllI xs) (o : Nat) (z : Int) : AllI (xs.set o (.int .i64 z)) := fun u hu => by
  rcases List.mem_or_eq_of_mem_set hu with h' | h'
  · exact h u h'
  · exact ⟨z, h'⟩
theorem AllI.at {xs : List Value} (h : AllI xs) {i : Nat} (hi : i < xs.length) : xs[i]? = some (.int .i64 (intOf (xs.getD i undef))) := by
  obtain ⟨z, hz⟩ := h xs[i] (List.getElem_mem hi)
  simp [hi, hz, intOf]
theorem AllI.vs (v : Nat → Int) (m : Nat) : AllI (vs v m) := fun u hu => by
  obtain ⟨i, _, rfl⟩ := List.mem_map.1 hu
  exact ⟨_, rfl⟩
theorem ints_of_all {w : World} {base m c : Nat} {a : Option Addr} {xs : List Value} (h : w.ownsRow base 3 1 (.slice a m c) m xs) (hx : AllI xs) : ∃ V, IntsR w a m V := by
  refine ⟨fun i => intOf (xs.getD i undef), ?_⟩
  by_cases hm : m = 0
  · exact .inl hm
  · obtain ⟨g, cap', hv, _, hlt⟩ := h.form (by omega)
    cases hv
    refine .inr ⟨g, 0, rfl, hlt, fun i hi => ?_⟩
    rw [Nat.zero_add, h.cellAt i (by omega)]
    exact hx.at (by rw [h.1]; omega)
set_option maxHeartbeats 400000 in
theorem oddV_any (B k : Nat) (lo hi : Int) (w : World) (hs : Strm w B k) (hk : k + 2 ≤ 1000000) (h3 : lo ≤ hi) (h4 : -1000000000000 ≤ lo) (h5 : hi ≤ 1000000000000) :
    Calls Try.prog 40 #[.pointer (some ⟨B, 0, none⟩), .int .i64 lo, .int .i64 hi] w (StrmPost w B k 2 (IntE fun z => -1100000000000 ≤ z ∧ z ≤ 1100000000000)) := by
  go_enter Try.func40, Try.ntmps40
  go_wp2_with (first
    | (go_at_call 7; refine (flip_any B k _ w hs (by omega) (by omega) (by omega)).mono ?_; rintro e w1 ⟨⟨b, rfl⟩, hst, hmt⟩; cases b)
    | (go_at_call 25; refine (range_any B (k + 1) _ _ w1 hst (by omega) (by omega) (by omega) (by omega)).mono ?_; rintro e w2 ⟨⟨z, rfl, h6, h7⟩, hst2, hmt2⟩)
    | (go_at_call 23; refine (pick_new B (k + 1) [lo - 1, hi + 1, lo, hi, -1099511627776, 1099511627776] 6 (fun z => -1100000000000 ≤ z ∧ z ≤ 1100000000000) w1 hst (by omega) rfl (by omega) (by omega) (by intro z hz; simp only [List.mem_cons, List.not_mem_nil, or_false] at hz; omega)).mono ?_; rintro e w2 ⟨⟨z, rfl, h6, h7⟩, hst2, hmt2⟩))
  all_goals
    go_ret
    exact StrmPost.trans hmt (d := 1) ⟨⟨_, rfl, by omega, by omega⟩, hst2, hmt2⟩
theorem IntsR.mut {w w' : World} {B n : Nat} {a : Option Addr} {V : Nat → Int} (h : IntsR w a n V) (hm : Mut (· = B) w w') (hb : ∀ x, a = some x → B < x.block) : IntsR w' a n V := by
  rcases h with h | ⟨b, off, rfl, h1, h2⟩
  · exact .inl h
  · have h3 := hb _ rfl
    exact .inr ⟨b, off, rfl, Nat.lt_of_lt_of_le h1 hm.size, fun i hi => (hm.cell h1 (by show ¬ b = B; have : B < b := h3; omega)).trans (h2 i hi)⟩
/-- A row of drawn numbers. -/
structure DI (w W : World) (B k : Nat) (e : TypeId) (sz : Nat) (a : Option Addr) (n c : Nat) (xs : List Value) : Prop where
  o : W.ownsRow w.heap.size e sz (.slice a n c) n xs
  x : AllI xs
  s : Strm W B k
  m : Mut (· = B) w W
  l : B < w.heap.size
theorem DI.size {w W : World} {B k : Nat} {e : TypeId} {sz : Nat} {a : Option Addr} {n c : Nat} {xs : List Value} (h : DI w W B k e sz a n c xs) : w.heap.size ≤ W.heap.size := h.m.size
theorem DI.next {w W W' : World} {B k k' : Nat} {e : TypeId} {sz : Nat} {a : Option Addr} {n c : Nat} {xs : List Value} (h : DI w W B k e sz a n c xs) (hm : Mut (· = B) W W') (hs : Strm W' B k') : DI w W' B k' e sz a n c xs :=
  ⟨own_streamV h.o hm h.l, h.x, hs, h.m.trans hm, h.l⟩
theorem DI.far {w W : World} {B k : Nat} {e : TypeId} {sz : Nat} {a : Option Addr} {n c : Nat} {xs : List Value} (h : DI w W B k e sz a n c xs) : ∀ x, a = some x → B < x.block := fun x hx => by
  have h1 := (h.o.lt x.block (by rw [hx]; rfl)).1
  have h2 := h.l
  omega
theorem DI.grown {w W w5 : World} {B k : Nat} {e : TypeId} {sz : Nat} {a : Option Addr} {n c g c' n' : Nat} {xs ys : List Value} (h : DI w W B k e sz a n c xs) (hb : Below w.heap.size W w5) (ho : w5.ownsRow w.heap.size e sz (.slice (some ⟨g, 0, none⟩) n' c') n' (xs ++ ys)) (hy : AllI ys) : DI w w5 B k e sz (some ⟨g, 0, none⟩) n' c' (xs ++ ys) := by
  have hl := h.l
  refine ⟨ho, h.x.app hy, h.s.kept (S := fun b => w.heap.size ≤ b) ⟨hb.os, hb.tape, hb.output, hb.size, fun k _ hn => hb.block k (Nat.lt_of_not_le hn)⟩ (fun x hx e => by omega), ?_, hl⟩
  exact ⟨hb.os.trans h.m.os, hb.tape.trans h.m.tape, hb.output.trans h.m.output, Nat.le_trans h.m.size hb.size, fun k hk hn => (hb.block k hk).trans (h.m.block k hk hn)⟩
theorem DI.set {w W : World} {B k g : Nat} {e : TypeId} {sz n c : Nat} {xs : List Value} (h : DI w W B k e sz (some ⟨g, 0, none⟩) n c xs) (o : Nat) (z : Int) : DI w (W.setCell ⟨g, o, none⟩ (.int .i64 z)) B k e sz (some ⟨g, 0, none⟩) n c (xs.set o (.int .i64 z)) := by
  have hl := h.l
  have hg := (h.o.lt g rfl).1
  exact ⟨own_setV h.o, h.x.set o z, StrmV.setCell h.s (by show B < g; omega) _, h.m.setCell (fun e => absurd e (by show ¬ g < w.heap.size; omega)) _, hl⟩
set_option maxRecDepth 100000 in
set_option maxHeartbeats 4000000 in
theorem equalV_any (a1 a2 : Option Addr) (n c1 c2 : Nat) (U V : Nat → Int) (w : World) (hn : n ≤ 1000) (h1 : IntsR w a1 n U) (h2 : IntsR w a2 n V) (he : ∀ i, i < n → U i = V i) :
    Calls Try.prog 22 #[.slice a1 n c1, .slice a2 n c2] w fun e w' => e = .returned (.bool true) ∧ Below w.heap.size w w' := by
  have H1 := Lib.hid h1
  have H2 := Lib.hid h2
  have HE := Lib.hid he
  clear h1 h2 he
  go_enter Try.func22, Try.ntmps22
  go_wp2_with (fail)
  go_loopw [13] (fun i wr => ∃ t : Nat, t ≤ n ∧ i = .int .i64 t ∧ Below w.heap.size w wr) (fun i _ => n - (intOf i).toNat)
  case atStart => exact ⟨0, by omega, rfl, Below.refl _ _⟩
  case round =>
    obtain ⟨t, ht, rfl, hbel⟩ := hrel
    have HB := Lib.hid hbel
    have hsz := hbel.size
    clear hbel
    by_cases hlt : t < n
    · rcases H1.out with h | ⟨b, off, rfl, hb, hd⟩
      · omega
      rcases H2.out with h | ⟨b2, off2, rfl, hb2, hd2⟩
      · omega
      have k0 := cellk HB.out hb (hd t hlt)
      have k1 := cellk HB.out hb2 (hd2 t hlt)
      rw [← HE.out t hlt] at k1
      clear hd hd2
      have hne : (U t != U t) = false := by simp
      go_wp2_with (fail)
      refine wp_region_held_drew (S := (fun w' => w'.cell? ⟨b, off + t, none⟩ = some (.int .i64 (U t)) ∧ w'.cell? ⟨b2, off2 + t, none⟩ = some (.int .i64 (U t)))) (by kernel_rfl) ⟨k0, k1⟩ (fun hHeld => ?_)
      refine tkH (by assumption) 0 (oi := ?_) (v := ?_) ?_ ?_ ?_ ?_ ?_ ?_ ?_ ?_; rotate_left 2; (simp only [gA, gB, gC]; exact rfl); kernel_rfl; kernel_rfl; kernel_rfl; exact fun _ _ _ h => h; rfl; (intro w' hSw; (try dsimp only at hSw); go_simp; with_reducible rfl); simp only [Act.put, pB, pC, pD]
      refine tkH (by assumption) 1 (oi := ?_) (v := ?_) ?_ ?_ ?_ ?_ ?_ ?_ ?_ ?_; rotate_left 2; (simp only [gA, gB, gC]; exact rfl); kernel_rfl; kernel_rfl; kernel_rfl; exact fun _ _ _ h => h; rfl; (intro w' hSw; (try dsimp only at hSw); go_simp; with_reducible rfl); simp only [Act.put, pB, pC, pD]
      refine tkH (by assumption) 2 (oi := ?_) (v := ?_) ?_ ?_ ?_ ?_ ?_ ?_ ?_ ?_; rotate_left 2; (simp only [gA, gB, gC]; exact rfl); kernel_rfl; kernel_rfl; kernel_rfl; exact fun _ _ _ h => h; rfl; (intro w' hSw; (try dsimp only at hSw); go_simp; with_reducible rfl); simp only [Act.put, pB, pC, pD]
      refine tkH (by assumption) 3 (oi := ?_) (v := ?_) ?_ ?_ ?_ ?_ ?_ ?_ ?_ ?_; rotate_left 2; (simp only [gA, gB, gC]; exact rfl); kernel_rfl; kernel_rfl; kernel_rfl; exact fun _ _ _ h => h; rfl; (intro w' hSw; (try dsimp only at hSw); go_simp; with_reducible rfl); simp only [Act.put, pB, pC, pD]
      refine tkH (by assumption) 4 (oi := ?_) (v := ?_) ?_ ?_ ?_ ?_ ?_ ?_ ?_ ?_; rotate_left 2; (simp only [gA, gB, gC]; exact rfl); kernel_rfl; kernel_rfl; kernel_rfl; exact fun _ _ _ h => h; rfl; (intro w' hSw; (try dsimp only at hSw); go_simp; with_reducible rfl); simp only [Act.put, pB, pC, pD]
      refine tkH (by assumption) 5 (oi := ?_) (v := ?_) ?_ ?_ ?_ ?_ ?_ ?_ ?_ ?_; rotate_left 2; (simp only [gA, gB, gC]; exact rfl); kernel_rfl; kernel_rfl; kernel_rfl; exact fun _ _ _ h => h; rfl; (intro w' hSw; (try dsimp only at hSw); go_simp; with_reducible rfl); simp only [Act.put, pB, pC, pD]
      refine tkH (by assumption) 6 (oi := ?_) (v := ?_) ?_ ?_ ?_ ?_ ?_ ?_ ?_ ?_; rotate_left 2; (simp only [gA, gB, gC]; exact rfl); kernel_rfl; kernel_rfl; kernel_rfl; exact fun _ _ _ h => h; rfl; (intro w' hSw; (try dsimp only at hSw); go_simp; with_reducible rfl); simp only [Act.put, pB, pC, pD]
      refine tkH (by assumption) 7 (oi := ?_) (v := ?_) ?_ ?_ ?_ ?_ ?_ ?_ ?_ ?_; rotate_left 2; (simp only [gA, gB, gC]; exact rfl); kernel_rfl; kernel_rfl; kernel_rfl; exact fun _ _ _ h => h; rfl; (intro w' hSw; (try dsimp only at hSw); go_simp; with_reducible rfl); simp only [Act.put, pB, pC, pD]
      refine tkH (by assumption) 8 (oi := ?_) (v := ?_) ?_ ?_ ?_ ?_ ?_ ?_ ?_ ?_; rotate_left 2; (simp only [gA, gB, gC]; exact rfl); kernel_rfl; kernel_rfl; kernel_rfl; exact fun _ _ _ h => h; rfl; (intro w' hSw; (try dsimp only at hSw); go_simp; with_reducible rfl); simp only [Act.put, pB, pC, pD]
      refine wpAnyH_done (by kernel_rfl) ?_ _
      have HB2 := Lib.hid (Below.next_drew HB.out)
      go_wp2_with (fail)
      go_roundw
      case rel => exact ⟨t + 1, by omega, by go_num, HB2.out⟩
      case measure => simp [intOf] <;> omega
    · obtain rfl : n = t := by omega
      go_wp2_with (fail)
      go_ret
      exact ⟨rfl, HB.out⟩
end Go.Proofs.Ytddnimbalfaieaa

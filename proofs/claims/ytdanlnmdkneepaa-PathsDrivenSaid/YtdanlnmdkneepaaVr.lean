/- Drawn numbers: rows of integers; Odd, AChange, CornerList. -/
import Derived.Test.YtdanlnmdkneepaaVq
set_option linter.unusedSimpArgs false
set_option linter.unusedVariables false
namespace Go.Proofs.Ytdanlnmdkneepaa
open Go.RowKit

theorem StrmV.setCell {w : World} {B k : Nat} (h : Strm w B k) {a : Addr} (ha : B < a.block) (v : Value) : Strm (w.setCell a v) B k :=
  h.kept ((Mut.refl (· = a.block) w).setCell (p := a) (fun _ => rfl) v) (fun x hx => by omega)
theorem StrmV.drew {w : World} {B k : Nat} (h : Strm w B k) : Strm w.drew B k :=
  h.kept (S := fun _ => False) ⟨rfl, rfl, rfl, Nat.le_refl _, fun _ _ _ => rfl⟩ (fun _ _ h => h)
theorem StrmV.below {w w' : World} {B k : Nat} (h : Strm w B k) (hb : Below w.heap.size w w') : Strm w' B k :=
  h.kept (S := fun _ => False) ⟨hb.os, hb.tape, hb.output, hb.size, fun k hk _ => hb.block k hk⟩ (fun _ _ h => h)
theorem mutV_of_bel {S : Nat → Prop} {w w' : World} (h : Below w.heap.size w w') : Mut S w w' := ⟨h.os, h.tape, h.output, h.size, fun k hk _ => h.block k hk⟩
theorem pick_atV (B k : Nat) (l : List Int) (n : Nat) (P : Int → Prop) (w : World) (g : Nat) (hg : w.heap.size = g) (hs : Strm w B k) (hk : k + 1 ≤ 1000000) (hn : l.length = n) (h3 : 1 ≤ n) (h4 : n ≤ 1000000) (hP : ∀ z ∈ l, P z) :
    Calls Try.prog 24 #[.pointer (some ⟨B, 0, none⟩), .slice (some ⟨g, 0, none⟩) n n] (w.alloc (.cells (l.map (Value.int .i64)).toArray 3)) (StrmPost w B k 1 (IntE P)) := by
  subst hg; exact pick_new B k l n P w hs hk hn h3 h4 hP
theorem own_mutV {S : Nat → Prop} {w w' : World} {base : Nat} {e : TypeId} {size : Nat} {v : Value} {n : Nat} {xs : List Value} (h : w.ownsRow base e size v n xs) (hm : Mut S w w') (hs : ∀ b, v.ownBlock = some b → ¬ S b) : w'.ownsRow base e size v n xs := by
  obtain ⟨h1, h2⟩ := h
  refine ⟨h1, ?_⟩
  rcases h2 with h2 | ⟨g, cap, cur, hv, hg, hh, r⟩
  · exact .inl h2
  · exact .inr ⟨g, cap, cur, hv, hg, (hm.block g (lt_of_heap hh) (hs g (by rw [hv]; rfl))).trans hh, r⟩
theorem own_streamV {w w' : World} {base B : Nat} {e : TypeId} {size : Nat} {v : Value} {n : Nat} {xs : List Value} (h : w.ownsRow base e size v n xs) (hm : Mut (· = B) w w') (hB : B < base) : w'.ownsRow base e size v n xs :=
  own_mutV h hm (fun b hb e => by have := (h.lt b hb).1; omega)
theorem own_setV {w : World} {base n c g o size : Nat} {e : TypeId} {xs : List Value} {u : Value} (h : w.ownsRow base e size (.slice (some ⟨g, 0, none⟩) n c) n xs) : (w.setCell ⟨g, o, none⟩ u).ownsRow base e size (.slice (some ⟨g, 0, none⟩) n c) n (xs.set o u) := by
  obtain ⟨h1, h2⟩ := h
  refine ⟨by simpa using h1, ?_⟩
  rcases h2 with ⟨h2, _⟩ | ⟨g', cap, cur, hv, hb, hh, hn, hm, hs, hx⟩
  · cases h2
  · cases hv
    refine .inr ⟨g, c, cur.setIfInBounds o u, rfl, hb, ?_, hn, hm, by simpa using hs, ?_⟩
    · simp [World.setCell, Array.getElem?_modify, hh]
    · rw [← hx]; simp [List.take_set]
/-- Integers all. -/
def AllI (xs : List Value) : Prop := ∀ u ∈ xs, ∃ z : Int, u = .int .i64 z
theorem AllI.nil : AllI [] := fun u h => by cases h
theorem AllI.app {xs ys : List Value} (h : AllI xs) (k : AllI ys) : AllI (xs ++ ys) := fun u hu => (List.mem_append.1 hu).elim (h u) (k u)
theorem AllI.one (z : Int) : AllI [.int .i64 z] := fun u hu => ⟨z, by simpa using hu⟩
theorem AllI.two (y z : Int) : AllI [.int .i64 y, .int .i64 z] := fun u hu => by
  simp only [List.mem_cons, List.not_mem_nil, or_false] at hu
  rcases hu with rfl | rfl
  · exact ⟨y, rfl⟩
  · exact ⟨z, rfl⟩
theorem AllI.set {xs : List Value} (h : AllI xs) (o : Nat) (z : Int) : AllI (xs.set o (.int .i64 z)) := fun u hu => by
  rcases List.mem_or_eq_of_mem_set hu with h' | h'
  · exact h u h'
  · exact ⟨z, h'⟩
theorem AllI.at {xs : List Value} (h : AllI xs) {i : Nat} (hi : i < xs.length) : xs[i]? = some (.int .i64 (intOf (xs.getD i undef))) := by
  obtain ⟨z, hz⟩ := h xs[i] (List.getElem_mem hi)
  simp [hi, hz, intOf]
theorem AllI.vs (v : Nat → Int) (m : Nat) : AllI (vs v m) := fun u hu => by
  obtain ⟨i, _, rfl⟩ := List.mem_map.1 hu
  exact ⟨_, rfl⟩
theorem ints_of_all {w : World} {base m c : Nat} {a : Option Addr} {xs : List Value} (h : w.ownsRow base 3 1 (.slice a m c) m xs) (hx : AllI xs) : ∃ V, IntsR w a m V := by
  refine ⟨fun i => intOf (xs.getD i undef), ?_⟩
  by_cases hm : m = 0
  · exact .inl hm
  · obtain ⟨g, cap', hv, _, hlt⟩ := h.form (by omega)
    cases hv
    refine .inr ⟨g, 0, rfl, hlt, fun i hi => ?_⟩
    rw [Nat.zero_add, h.cellAt i (by omega)]
    exact hx.at (by rw [h.1]; omega)
theorem legs_of_all {w : World} {base m c : Nat} {a : Option Addr} {xs : List Value} (h : w.ownsRow base 83 2 (.slice a m c) m xs) (hx : AllI xs) : ∃ L M, LegsR w a m L M := by
  refine ⟨fun i => intOf (xs.getD (i * 2) undef), fun i => intOf (xs.getD (i * 2 + 1) undef), ?_⟩
  by_cases hm : m = 0
  · exact .inl hm
  · obtain ⟨g, cap', hv, _, hlt⟩ := h.form (by omega)
    cases hv
    refine .inr ⟨g, 0, rfl, hlt, fun i hi => ⟨?_, ?_⟩⟩
    · rw [Nat.zero_add, h.cellAt (i * 2) (by omega)]
      exact hx.at (by rw [h.1]; omega)
    · rw [Nat.zero_add, h.cellAt (i * 2 + 1) (by omega)]
      exact hx.at (by rw [h.1]; omega)

set_option maxHeartbeats 400000 in
theorem oddV_any (B k : Nat) (lo hi : Int) (w : World) (hs : Strm w B k) (hk : k + 2 ≤ 1000000) (h3 : lo ≤ hi) (h4 : -1000000000000 ≤ lo) (h5 : hi ≤ 1000000000000) :
    Calls Try.prog 66 #[.pointer (some ⟨B, 0, none⟩), .int .i64 lo, .int .i64 hi] w (StrmPost w B k 2 (IntE fun z => -1100000000000 ≤ z ∧ z ≤ 1100000000000)) := by
  go_enter Try.func66, Try.ntmps66
  go_wp2_with (first
    | (go_at_call 8; refine (flip_any B k _ w hs (by omega) (by omega) (by omega)).mono ?_; rintro e w1 ⟨⟨b, rfl⟩, hst, hmt⟩; cases b)
    | (go_at_call 26; refine (range_any B (k + 1) _ _ w1 hst (by omega) (by omega) (by omega) (by omega)).mono ?_; rintro e w2 ⟨⟨z, rfl, h6, h7⟩, hst2, hmt2⟩)
    | (go_at_call 24; refine (pick_new B (k + 1) [lo - 1, hi + 1, lo, hi, -1099511627776, 1099511627776] 6 (fun z => -1100000000000 ≤ z ∧ z ≤ 1100000000000) w1 hst (by omega) rfl (by omega) (by omega) (by intro z hz; simp only [List.mem_cons, List.not_mem_nil, or_false] at hz; omega)).mono ?_; rintro e w2 ⟨⟨z, rfl, h6, h7⟩, hst2, hmt2⟩))
  all_goals
    go_ret
    exact StrmPost.trans hmt (d := 1) ⟨⟨_, rfl, by omega, by omega⟩, hst2, hmt2⟩
theorem aChange_any (B k : Nat) (w : World) (hs : Strm w B k) (hk : k + 1 ≤ 1000000) :
    Calls Try.prog 43 #[.pointer (some ⟨B, 0, none⟩)] w (StrmPost w B k 1 (IntE fun _ => True)) := by
  go_enter Try.func43, Try.ntmps43
  go_wp2_with (fail)
  refine (pick_atV B k [50, 10, 1, 500, 10000, 50, 0, 10000000, 10000001] 9 (fun _ => True) w _ rfl hs hk rfl (by omega) (by omega) (by simp)).mono ?_
  rintro e w1 ⟨⟨z, rfl, _⟩, hst, hmt⟩
  go_wp2_with (fail)
  go_ret
  exact ⟨⟨_, rfl, trivial⟩, hst, hmt⟩
theorem LegsR.mut {w w' : World} {B n : Nat} {a : Option Addr} {L M : Nat → Int} (h : LegsR w a n L M) (hm : Mut (· = B) w w') (hb : ∀ x, a = some x → B < x.block) : LegsR w' a n L M := by
  rcases h with h | ⟨b, off, rfl, h1, h2⟩
  · exact .inl h
  · have h3 := hb _ rfl
    exact .inr ⟨b, off, rfl, Nat.lt_of_lt_of_le h1 hm.size, fun i hi => ⟨(hm.cell h1 (by show ¬ b = B; have : B < b := h3; omega)).trans (h2 i hi).1, (hm.cell h1 (by show ¬ b = B; have : B < b := h3; omega)).trans (h2 i hi).2⟩⟩
theorem IntsR.mut {w w' : World} {B n : Nat} {a : Option Addr} {V : Nat → Int} (h : IntsR w a n V) (hm : Mut (· = B) w w') (hb : ∀ x, a = some x → B < x.block) : IntsR w' a n V := by
  rcases h with h | ⟨b, off, rfl, h1, h2⟩
  · exact .inl h
  · have h3 := hb _ rfl
    exact .inr ⟨b, off, rfl, Nat.lt_of_lt_of_le h1 hm.size, fun i hi => (hm.cell h1 (by show ¬ b = B; have : B < b := h3; omega)).trans (h2 i hi)⟩
/-- A row of drawn numbers. -/
structure DI (w W : World) (B k : Nat) (e : TypeId) (sz : Nat) (a : Option Addr) (n c : Nat) (xs : List Value) : Prop where
  o : W.ownsRow w.heap.size e sz (.slice a n c) n xs
  x : AllI xs
  s : Strm W B k
  m : Mut (· = B) w W
  l : B < w.heap.size
theorem DI.size {w W : World} {B k : Nat} {e : TypeId} {sz : Nat} {a : Option Addr} {n c : Nat} {xs : List Value} (h : DI w W B k e sz a n c xs) : w.heap.size ≤ W.heap.size := h.m.size
theorem DI.next {w W W' : World} {B k k' : Nat} {e : TypeId} {sz : Nat} {a : Option Addr} {n c : Nat} {xs : List Value} (h : DI w W B k e sz a n c xs) (hm : Mut (· = B) W W') (hs : Strm W' B k') : DI w W' B k' e sz a n c xs :=
  ⟨own_streamV h.o hm h.l, h.x, hs, h.m.trans hm, h.l⟩
theorem DI.far {w W : World} {B k : Nat} {e : TypeId} {sz : Nat} {a : Option Addr} {n c : Nat} {xs : List Value} (h : DI w W B k e sz a n c xs) : ∀ x, a = some x → B < x.block := fun x hx => by
  have h1 := (h.o.lt x.block (by rw [hx]; rfl)).1
  have h2 := h.l
  omega
theorem DI.grown {w W w5 : World} {B k : Nat} {e : TypeId} {sz : Nat} {a : Option Addr} {n c g c' n' : Nat} {xs ys : List Value} (h : DI w W B k e sz a n c xs) (hb : Below w.heap.size W w5) (ho : w5.ownsRow w.heap.size e sz (.slice (some ⟨g, 0, none⟩) n' c') n' (xs ++ ys)) (hy : AllI ys) : DI w w5 B k e sz (some ⟨g, 0, none⟩) n' c' (xs ++ ys) := by
  have hl := h.l
  refine ⟨ho, h.x.app hy, h.s.kept (S := fun b => w.heap.size ≤ b) ⟨hb.os, hb.tape, hb.output, hb.size, fun k _ hn => hb.block k (Nat.lt_of_not_le hn)⟩ (fun x hx e => by omega), ?_, hl⟩
  exact ⟨hb.os.trans h.m.os, hb.tape.trans h.m.tape, hb.output.trans h.m.output, Nat.le_trans h.m.size hb.size, fun k hk hn => (hb.block k hk).trans (h.m.block k hk hn)⟩
set_option maxRecDepth 100000 in
set_option maxHeartbeats 4000000 in
theorem cornerList_any (B k n : Nat) (w : World) (hs : Strm w B k) (hk : k + 100 ≤ 1000000) (hn : n ≤ 8) :
    Calls Try.prog 42 #[.pointer (some ⟨B, 0, none⟩), .int .i64 n] w fun e w' => ∃ a m c V, e = .returned (.slice a m c) ∧ m ≤ 9 ∧ IntsR w' a m V ∧ (∀ x, a = some x → B < x.block) ∧ Strm w' B (k + 20) ∧ Mut (· = B) w w' := by
  obtain ⟨i0, hi0, hz0, hz1, hz2⟩ := info_parts info_intV
  have hl := hs.lt
  have HD0 : Hid (DI w w B k 3 1 none 0 0 []) := Lib.hid ⟨World.ownsRow_nil _ _ _ _, AllI.nil, hs, Mut.refl _ _, hl⟩
  have hw1 : IntKind.i64.wrap ((n : Int) - 1) = (n : Int) - 1 := i64w (by omega)
  clear hs
  go_enter Try.func42, Try.ntmps42
  go_wp2_with (fail)
  go_loopw [5, 8] (fun v i wr => ∃ (t : Nat) (a : Option Addr) (c : Nat) (xs : List Value), v = .slice a t c ∧ i = .int .i64 t ∧ t ≤ n ∧ DI w wr B (k + t) 3 1 a t c xs) (fun _ i _ => n - (intOf i).toNat)
  case atStart => exact ⟨0, none, 0, [], rfl, rfl, by omega, HD0.out⟩
  case round =>
    clear HD0
    obtain ⟨t, a, c, xs, rfl, rfl, ht, hd⟩ := hrel
    have HD := Lib.hid hd
    have hsz := hd.size
    clear hd
    by_cases hlt : (t : Int) < (n : Int) - 1
    · go_wp2_with (fail)
      refine (pick_atV B (k + t) [0, 10, 50, 200, 1000] 5 (fun _ => True) wr _ rfl HD.out.s (by omega) rfl (by omega) (by omega) (by simp)).mono ?_
      rintro e w2 ⟨⟨z, rfl, _⟩, hst, hmt⟩
      have HD2 := Lib.hid (HD.out.next hmt hst)
      have hsz2 := hmt.size
      clear hst hmt HD
      go_wp2_with (at_builtin; refine wpList_append_lies _ rfl _ _ 22 rfl w.heap.size 3 i0 (.int .i64 0) 1 8 Try.underlying22 hi0 hz0 hz1 hz2 rfl (by decide) _ _ _ rfl (ownsRow_below HD2.out.o ((Below.refl _ w2).alloc (Nat.le_refl _) _)) ⟨w2.heap.size, 0, none⟩ 1 1 [.int .i64 z] rfl rfl (World.news_of_block (cs := #[.int .i64 z]) (t := 3) (fr := (0, 0)) (heap_alloc_new w2 (.cells #[.int .i64 z] 3))) (by simp [Value.oneCell']) (by omega) (by unfold maxLen; omega) (by omega) (by simp; omega) (w2.heap.size + 1) (by simp) ?_; intro g5 c5 w5 hown5 hgrow5 _ hlt5; have HO5 := Lib.hid hown5; have HB5 := Lib.hid (Below.grown (B := w.heap.size) (Below.alloc (B := w.heap.size) (Below.refl _ w2) (by omega) (.cells #[.int .i64 z] 3)) hgrow5 (by simp; omega) (fun b hb => ((HD2.out.o).lt b hb).1)); clear hown5 hgrow5)
      have HD5 := Lib.hid (HD2.out.grown HB5.out HO5.out (AllI.one z))
      clear HD2 HB5 HO5
      go_wp2_with (fail)
      go_roundw
      case rel => exact ⟨t + 1, _, c5, _, rfl, by go_num, by omega, HD5.out⟩
      case measure => simp [intOf] <;> omega
    · go_wp2_with (fail)
      refine (flip_any B (k + t) 12 wr HD.out.s (by omega) (by omega) (by omega)).mono ?_
      rintro e w2 ⟨⟨f, rfl⟩, hst, hmt⟩
      have HD2 := Lib.hid (HD.out.next hmt hst)
      have hsz2 := hmt.size
      clear hst hmt HD
      rcases f with _ | _
      · obtain ⟨V, hV⟩ := ints_of_all HD2.out.o HD2.out.x
        have HV := Lib.hid hV
        clear hV
        go_wp2_with (fail)
        go_ret
        exact ⟨a, t, c, V, rfl, by omega, HV.out, HD2.out.far, HD2.out.s.more (by omega) (by omega), HD2.out.m⟩
      · go_wp2_with (fail)
        refine (pick_atV B (k + t + 1) [0, -1, 100000, 100001] 4 (fun _ => True) w2 _ rfl HD2.out.s (by omega) rfl (by omega) (by omega) (by simp)).mono ?_
        rintro e w3 ⟨⟨z, rfl, _⟩, hst, hmt⟩
        have HD3 := Lib.hid (HD2.out.next hmt hst)
        have hsz3 := hmt.size
        clear hst hmt HD2
        by_cases h1 : 1 < t + 1
        · have h1' : (1 : Int) < (t : Int) + 1 := by omega
          go_wp2_with (at_builtin; refine wpList_append_lies _ rfl _ _ 22 rfl w.heap.size 3 i0 (.int .i64 0) 1 8 Try.underlying22 hi0 hz0 hz1 hz2 rfl (by decide) _ _ _ rfl (ownsRow_below HD3.out.o ((Below.refl _ w3).alloc (Nat.le_refl _) _)) ⟨w3.heap.size, 0, none⟩ 1 1 [.int .i64 z] rfl rfl (World.news_of_block (cs := #[.int .i64 z]) (t := 3) (fr := (0, 0)) (heap_alloc_new w3 (.cells #[.int .i64 z] 3))) (by simp [Value.oneCell']) (by omega) (by unfold maxLen; omega) (by omega) (by simp; omega) (w3.heap.size + 1) (by simp) ?_; intro g5 c5 w5 hown5 hgrow5 _ hlt5; have HO5 := Lib.hid hown5; have HB5 := Lib.hid (Below.grown (B := w.heap.size) (Below.alloc (B := w.heap.size) (Below.refl _ w3) (by omega) (.cells #[.int .i64 z] 3)) hgrow5 (by simp; omega) (fun b hb => ((HD3.out.o).lt b hb).1)); clear hown5 hgrow5)
          have HD5 := Lib.hid (HD3.out.grown HB5.out HO5.out (AllI.one z))
          clear HD3 HB5 HO5
          go_wp2_with (fail)
          refine (flip_any B (k + t + 1 + 1) 2 w5 HD5.out.s (by omega) (by omega) (by omega)).mono ?_
          rintro e w6 ⟨⟨f, rfl⟩, hst, hmt⟩
          have HD6 := Lib.hid (HD5.out.next hmt hst)
          clear hst hmt HD5
          obtain ⟨V, hV⟩ := ints_of_all HD6.out.o HD6.out.x
          have HV := Lib.hid hV
          clear hV
          rcases f with _ | _
          · go_wp2_with (fail)
            go_ret
            exact ⟨_, t + 1, c5, V, rfl, by omega, HV.out, HD6.out.far, HD6.out.s.more (by omega) (by omega), HD6.out.m⟩
          · have HC5 : t + 1 ≤ c5 := by
              rcases HD6.out.o.2 with ⟨h1, h2⟩ | ⟨g, cap, cur, hv, _, _, hc, _⟩
              · cases h1
              · cases hv; exact hc
            go_wp2_with (fail)
            go_ret
            refine ⟨some ⟨g5, 1, none⟩, t, c5 - 1, fun i => V (i + 1), ?_, by omega, ?_, fun x hx => by cases hx; exact HD6.out.far ⟨g5, 0, none⟩ rfl, HD6.out.s.more (by omega) (by omega), HD6.out.m⟩
            · rfl
            · rcases HV.out with h | ⟨b, off, he, h2, h3⟩
              · omega
              · cases he
                exact .inr ⟨g5, 1, rfl, h2, fun i hi => by have h4 := h3 (i + 1) (by omega); rw [show 0 + (i + 1) = 1 + i by omega] at h4; exact h4⟩
        · obtain rfl : t = 0 := by omega
          go_wp2_with (at_builtin; refine wpList_append_lies _ rfl _ _ 22 rfl w.heap.size 3 i0 (.int .i64 0) 1 8 Try.underlying22 hi0 hz0 hz1 hz2 rfl (by decide) _ _ _ rfl (ownsRow_below HD3.out.o ((Below.refl _ w3).alloc (Nat.le_refl _) _)) ⟨w3.heap.size, 0, none⟩ 1 1 [.int .i64 z] rfl rfl (World.news_of_block (cs := #[.int .i64 z]) (t := 3) (fr := (0, 0)) (heap_alloc_new w3 (.cells #[.int .i64 z] 3))) (by simp [Value.oneCell']) (by omega) (by unfold maxLen; omega) (by omega) (by simp; omega) (w3.heap.size + 1) (by simp) ?_; intro g5 c5 w5 hown5 hgrow5 _ hlt5; have HO5 := Lib.hid hown5; have HB5 := Lib.hid (Below.grown (B := w.heap.size) (Below.alloc (B := w.heap.size) (Below.refl _ w3) (by omega) (.cells #[.int .i64 z] 3)) hgrow5 (by simp; omega) (fun b hb => ((HD3.out.o).lt b hb).1)); clear hown5 hgrow5)
          have HD5 := Lib.hid (HD3.out.grown HB5.out HO5.out (AllI.one z))
          clear HD3 HB5 HO5
          obtain ⟨V, hV⟩ := ints_of_all HD5.out.o HD5.out.x
          have HV := Lib.hid hV
          clear hV
          go_wp2_with (fail)
          go_ret
          exact ⟨_, 0 + 1, c5, V, rfl, by omega, HV.out, HD5.out.far, HD5.out.s.more (by omega) (by omega), HD5.out.m⟩
end Go.Proofs.Ytdanlnmdkneepaa

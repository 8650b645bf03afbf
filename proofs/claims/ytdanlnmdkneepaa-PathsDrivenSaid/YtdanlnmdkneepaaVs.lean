/- Drawn legs. -/
import Derived.Test.YtdanlnmdkneepaaVr
set_option linter.unusedSimpArgs false
set_option linter.unusedVariables false
namespace Go.Proofs.Ytdanlnmdkneepaa
open Go.RowKit
theorem info_legV : (Try.prog.info? 83).map (fun i => (i.zero, i.size, i.bytes)) = some (some (.agg #[.int .i64 0, .int .i64 0]), 2, 16) := by kernel_rfl
theorem DI.set {w W : World} {B k g : Nat} {e : TypeId} {sz n c : Nat} {xs : List Value} (h : DI w W B k e sz (some ⟨g, 0, none⟩) n c xs) (o : Nat) (z : Int) : DI w (W.setCell ⟨g, o, none⟩ (.int .i64 z)) B k e sz (some ⟨g, 0, none⟩) n c (xs.set o (.int .i64 z)) := by
  have hl := h.l
  have hg := (h.o.lt g rfl).1
  exact ⟨own_setV h.o, h.x.set o z, StrmV.setCell h.s (by show B < g; omega) _, h.m.setCell (fun e => absurd e (by show ¬ g < w.heap.size; omega)) _, hl⟩
/-- A drawn list of legs. -/
def LegsE (w : World) (B k most : Nat) (e : Ending) (w' : World) : Prop := ∃ a n c L M, e = .returned (.slice a n c) ∧ n ≤ most ∧ LegsR w' a n L M ∧ (∀ x, a = some x → B < x.block) ∧ Strm w' B k ∧ Mut (· = B) w w'
set_option maxRecDepth 100000 in
set_option maxHeartbeats 8000000 in
theorem legList_any (B k most : Nat) (w : World) (hs : Strm w B k) (hk : k + 100 ≤ 1000000) (hm1 : 1 ≤ most) (hm : most ≤ 8) :
    Calls Try.prog 41 #[.pointer (some ⟨B, 0, none⟩), .int .i64 most] w (LegsE w B (k + 40) most) := by
  obtain ⟨i0, hi0, hz0, hz1, hz2⟩ := info_parts info_legV
  have hl := hs.lt
  go_enter Try.func41, Try.ntmps41
  go_wp2_with (fail)
  refine (range_any B k 1 most w hs (by omega) (by omega) (by omega) (by omega)).mono ?_
  rintro e w1 ⟨⟨r, rfl, hr0, hr1⟩, hst1, hm1'⟩
  obtain ⟨cn, rfl⟩ := Int.eq_ofNat_of_zero_le (show 0 ≤ r by omega)
  have hc1 : 1 ≤ cn := by omega
  have hc8 : cn ≤ most := by omega
  have HD0 : Hid (DI w w1 B (k + 1) 83 2 none 0 0 []) := Lib.hid ⟨World.ownsRow_nil _ _ _ _, AllI.nil, hst1, hm1', hl⟩
  clear hst1 hm1' hr0 hr1 hs
  go_wp2_with (fail)
  go_loopw [5, 9] (fun v i wr => ∃ (t : Nat) (a : Option Addr) (c : Nat) (xs : List Value), v = .slice a t c ∧ i = .int .i64 t ∧ t ≤ cn ∧ DI w wr B (k + 1 + 2 * t) 83 2 a t c xs) (fun _ i _ => cn - (intOf i).toNat)
  case atStart => exact ⟨0, none, 0, [], rfl, rfl, by omega, HD0.out⟩
  case round =>
    clear HD0
    obtain ⟨t, a, c, xs, rfl, rfl, ht, hd⟩ := hrel
    have HD := Lib.hid hd
    have hsz := hd.size
    clear hd
    by_cases hlt : t < cn
    · go_wp2_with (fail)
      refine (pick_atV B _ [1, 5, 20, 100, 1000] 5 (fun _ => True) wr _ rfl HD.out.s (by omega) rfl (by omega) (by omega) (by simp)).mono ?_
      rintro e w2 ⟨⟨x, rfl, _⟩, hst, hmt⟩
      have HD2 := Lib.hid (HD.out.next hmt hst)
      have hsz2 := hmt.size
      clear hst hmt HD
      go_wp2_with (fail)
      refine (pick_atV B _ [10, 50, 100, 500] 4 (fun _ => True) w2 _ rfl HD2.out.s (by omega) rfl (by omega) (by omega) (by simp)).mono ?_
      rintro e w4 ⟨⟨y, rfl, _⟩, hst, hmt⟩
      have HD3 := Lib.hid (HD2.out.next hmt hst)
      have hsz3 := hmt.size
      clear hst hmt HD2
      go_wp2_with (at_builtin; refine wpList_append_lies _ rfl _ _ 64 rfl w.heap.size 83 i0 (.agg #[.int .i64 0, .int .i64 0]) 2 16 Try.underlying64 hi0 hz0 hz1 hz2 rfl (by decide) _ _ _ rfl (ownsRow_below HD3.out.o ((Below.refl _ w4).alloc (Nat.le_refl _) _)) ⟨w4.heap.size, 0, none⟩ 1 1 [.int .i64 x, .int .i64 y] rfl rfl (World.news_of_block (cs := #[.int .i64 x, .int .i64 y]) (t := 83) (fr := (0, 0)) (heap_alloc_new w4 (.cells #[.int .i64 x, .int .i64 y] 83))) (by simp [Value.oneCell']) (by omega) (by unfold maxLen; omega) (by omega) (by simp; omega) (w4.heap.size + 1) (by simp) ?_; intro g5 c5 w5 hown5 hgrow5 _ hlt5; have HO5 := Lib.hid hown5; have HB5 := Lib.hid (Below.grown (B := w.heap.size) (Below.alloc (B := w.heap.size) (Below.refl _ w4) (by omega) (.cells #[.int .i64 x, .int .i64 y] 83)) hgrow5 (by simp; omega) (fun b hb => ((HD3.out.o).lt b hb).1)); clear hown5 hgrow5)
      have HD5 := Lib.hid (HD3.out.grown HB5.out HO5.out (AllI.two x y))
      clear HD3 HB5 HO5
      go_wp2_with (fail)
      go_roundw
      case rel => exact ⟨t + 1, _, c5, _, rfl, by go_num, by omega, by rw [show k + 1 + 2 * (t + 1) = k + 1 + 2 * t + 1 + 1 by omega]; exact HD5.out⟩
      case measure => simp [intOf] <;> omega
    · obtain rfl : t = cn := by omega
      go_wp2_with (fail)
      refine (flip_any B _ 12 wr HD.out.s (by omega) (by omega) (by omega)).mono ?_
      rintro e w2 ⟨⟨f, rfl⟩, hst, hmt⟩
      have HD2 := Lib.hid (HD.out.next hmt hst)
      clear hst hmt HD
      rcases f with _ | _
      · obtain ⟨L, M, hL⟩ := legs_of_all HD2.out.o HD2.out.x
        have HL := Lib.hid hL
        clear hL
        go_wp2_with (fail)
        go_ret
        exact ⟨a, t, c, L, M, rfl, by omega, HL.out, HD2.out.far, HD2.out.s.more (by omega) (by omega), HD2.out.m⟩
      · go_wp2_with (fail)
        refine (next_any B _ 3 w2 HD2.out.s (by omega) (by omega) (by omega)).mono ?_
        rintro e w3 ⟨⟨r, rfl, hr0, hr1⟩, hst, hmt⟩
        have HD3 := Lib.hid (HD2.out.next hmt hst)
        clear hst hmt HD2
        by_cases h0 : r = 0
        · subst h0
          go_wp2_with (fail)
          go_ret
          exact ⟨none, 0, 0, fun _ => 0, fun _ => 0, rfl, by omega, .inl rfl, (fun x h => by cases h), HD3.out.s.more (by omega) (by omega), HD3.out.m⟩
        · obtain ⟨g, cap', hv, hgb, hgl⟩ := HD3.out.o.form (by omega)
          cases hv
          by_cases h1 : r = 1
          · subst h1
            go_wp2_with (fail)
            refine (next_any B _ t w3 HD3.out.s (by omega) (by omega) (by omega)).mono ?_
            rintro e w4 ⟨⟨q, rfl, hq0, hq1⟩, hst, hmt⟩
            obtain ⟨q, rfl⟩ := Int.eq_ofNat_of_zero_le hq0
            have HD4 := Lib.hid (HD3.out.next hmt hst)
            clear hst hmt HD3
            go_wp2_with (fail)
            refine (oddV_any B _ 1 200000 w4 HD4.out.s (by omega) (by omega) (by omega) (by omega)).mono ?_
            rintro e w5 ⟨⟨x, rfl, _⟩, hst, hmt⟩
            have HD5 := Lib.hid (HD4.out.next hmt hst)
            clear hst hmt HD4
            go_wp2_with (fail)
            refine (pick_atV B _ [10, 100000] 2 (fun _ => True) w5 _ rfl HD5.out.s (by omega) rfl (by omega) (by omega) (by simp)).mono ?_
            rintro e w6 ⟨⟨y, rfl, _⟩, hst, hmt⟩
            have HD6 := Lib.hid (HD5.out.next hmt hst)
            clear hst hmt HD5
            have hq : q < t := by omega
            have c0 := HD6.out.o.cellAt (q * 2) (by omega)
            have c1 := HD6.out.o.cellAt (q * 2 + 1) (by omega)
            have hlen := HD6.out.o.1
            obtain ⟨u0, hu0⟩ : ∃ u, xs[q * 2]? = some u := ⟨_, List.getElem?_eq_getElem (by omega)⟩
            obtain ⟨u1, hu1⟩ : ∃ u, xs[q * 2 + 1]? = some u := ⟨_, List.getElem?_eq_getElem (by omega)⟩
            rw [hu0] at c0
            rw [hu1] at c1
            have f0 := HD6.out.o.frozenAt (q * 2)
            have f1 := HD6.out.o.frozenAt (q * 2 + 1)
            have b1 : (q : Int) < (t : Int) := by omega
            have hs6 := HD6.out.size
            have hg6 := (HD6.out.o.lt g rfl).2
            clear hu0 hu1 hlen
            go_wp2_with (fail)
            have HD7 := Lib.hid ((HD6.out.set (q * 2) x).set (q * 2 + 1) y)
            obtain ⟨L, M, hL⟩ := legs_of_all HD7.out.o HD7.out.x
            go_ret
            exact ⟨some ⟨g, 0, none⟩, t, c, L, M, rfl, by omega, hL, HD7.out.far, HD7.out.s.more (by omega) (by omega), HD7.out.m⟩
          · have h1' : (r == 1) = false := by simpa using h1
            have h0' : (r == 0) = false := by simpa using h0
            go_wp2_with (fail)
            refine (next_any B _ t w3 HD3.out.s (by omega) (by omega) (by omega)).mono ?_
            rintro e w4 ⟨⟨q, rfl, hq0, hq1⟩, hst, hmt⟩
            obtain ⟨q, rfl⟩ := Int.eq_ofNat_of_zero_le hq0
            have HD4 := Lib.hid (HD3.out.next hmt hst)
            clear hst hmt HD3
            go_wp2_with (fail)
            refine (pick_atV B _ [5, 200000] 2 (fun _ => True) w4 _ rfl HD4.out.s (by omega) rfl (by omega) (by omega) (by simp)).mono ?_
            rintro e w5 ⟨⟨x, rfl, _⟩, hst, hmt⟩
            have HD5 := Lib.hid (HD4.out.next hmt hst)
            clear hst hmt HD4
            go_wp2_with (fail)
            refine (oddV_any B _ 1 100000 w5 HD5.out.s (by omega) (by omega) (by omega) (by omega)).mono ?_
            rintro e w6 ⟨⟨y, rfl, _⟩, hst, hmt⟩
            have HD6 := Lib.hid (HD5.out.next hmt hst)
            clear hst hmt HD5
            have hq : q < t := by omega
            have c0 := HD6.out.o.cellAt (q * 2) (by omega)
            have c1 := HD6.out.o.cellAt (q * 2 + 1) (by omega)
            have hlen := HD6.out.o.1
            obtain ⟨u0, hu0⟩ : ∃ u, xs[q * 2]? = some u := ⟨_, List.getElem?_eq_getElem (by omega)⟩
            obtain ⟨u1, hu1⟩ : ∃ u, xs[q * 2 + 1]? = some u := ⟨_, List.getElem?_eq_getElem (by omega)⟩
            rw [hu0] at c0
            rw [hu1] at c1
            have f0 := HD6.out.o.frozenAt (q * 2)
            have f1 := HD6.out.o.frozenAt (q * 2 + 1)
            have b1 : (q : Int) < (t : Int) := by omega
            have hs6 := HD6.out.size
            have hg6 := (HD6.out.o.lt g rfl).2
            clear hu0 hu1 hlen
            go_wp2_with (fail)
            have HD7 := Lib.hid ((HD6.out.set (q * 2) x).set (q * 2 + 1) y)
            obtain ⟨L, M, hL⟩ := legs_of_all HD7.out.o HD7.out.x
            go_ret
            exact ⟨some ⟨g, 0, none⟩, t, c, L, M, rfl, by omega, hL, HD7.out.far, HD7.out.s.more (by omega) (by omega), HD7.out.m⟩
end Go.Proofs.Ytdanlnmdkneepaa

/- A drawn path of a head. -/
import Derived.Test.YtdanlnmdkneepaaUx
import Derived.Test.YtdanlnmdkneepaaVs
set_option linter.unusedSimpArgs false
set_option linter.unusedVariables false
namespace Go.Proofs.Ytdanlnmdkneepaa
open Go.RowKit
theorem absH {P : Program} {md : Region.Mode} {ops : Array Oper} {Q : Exit → Act → World → Prop} {S : World → Prop} {fuel : Nat} {listed : Array Bool} {a : Act} {w : World}
    (h : ∀ (G : Nat → Array Bool → Act → World → Prop) (A : Act), (∀ f l b v, G f l b v ↔ wpAnyH P md ops Q S f l b v) → A = a → G fuel listed A w) : wpAnyH P md ops Q S fuel listed a w :=
  (h _ a (fun _ _ _ _ => Iff.rfl) rfl)
theorem listedEq {P : Program} {md : Region.Mode} {ops : Array Oper} {Q : Exit → Act → World → Prop} {S : World → Prop} {fuel : Nat} {l l' : Array Bool} {a : Act} {w : World}
    (h : l = l') (hw : wpAnyH P md ops Q S fuel l' a w) : wpAnyH P md ops Q S fuel l a w := h ▸ hw
theorem own_capP {w : World} {base n c size : Nat} {e : TypeId} {a : Option Addr} {xs : List Value} (h : w.ownsRow base e size (.slice a n c) n xs) : n ≤ c := by
  rcases h.2 with ⟨h2, h0⟩ | ⟨g', cap, cur, hv, hb, hh, hn, _⟩
  · cases h2; omega
  · cases hv; exact hn
theorem pts_of_all {w : World} {base m c : Nat} {a : Option Addr} {xs : List Value} (h : w.ownsRow base 102 2 (.slice a m c) m xs) (hx : AllI xs) : ∃ X Y, PtsR w a m X Y := by
  refine ⟨fun i => intOf (xs.getD (i * 2) undef), fun i => intOf (xs.getD (i * 2 + 1) undef), ?_⟩
  by_cases hm : m = 0
  · exact .inl hm
  · obtain ⟨g, cap', hv, _, hlt⟩ := h.form (by omega)
    cases hv
    refine .inr ⟨g, 0, rfl, hlt, fun i hi => ⟨?_, ?_⟩⟩
    · rw [Nat.zero_add, h.cellAt (i * 2) (by omega)]
      exact hx.at (by rw [h.1]; omega)
    · rw [Nat.zero_add, h.cellAt (i * 2 + 1) (by omega)]
      exact hx.at (by rw [h.1]; omega)
theorem ptsR_set {w : World} {a : Option Addr} {n b o : Nat} {X Y : Nat → Int} {v : Value} (h : PtsR w a n X Y) (hb : ∀ x, a = some x → x.block ≠ b) : PtsR (w.setCell ⟨b, o, none⟩ v) a n X Y := by
  rcases h with h | ⟨b', off, rfl, h1, h2⟩
  · exact .inl h
  · have h3 : b ≠ b' := fun e => hb _ rfl e.symm
    exact .inr ⟨b', off, rfl, by simpa [World.setCell] using h1, fun i hi => ⟨(sc_other (ne_block h3)).trans (h2 i hi).1, (sc_other (ne_block h3)).trans (h2 i hi).2⟩⟩
theorem set2P_0 {w : World} {b : Nat} {v0 v1 u : Value} {t : TypeId} (h : w.heap[b]? = some (.cells #[v0, v1] t (0, 0))) : (w.setCell ⟨b, 0, none⟩ u).heap[b]? = some (.cells #[u, v1] t (0, 0)) := set2V_0 h
set_option maxRecDepth 100000 in
set_option maxHeartbeats 16000000 in
theorem aHeadPath_any (B k : Nat) (w : World) (hs : Strm w B k) (hk : k + 100 ≤ 1000000) :
    Calls Try.prog 40 #[.pointer (some ⟨B, 0, none⟩)] w fun e w' => ∃ a n c X Y kf, e = .returned (.agg #[.slice a n c, .bool kf]) ∧ n ≤ 1000 ∧ n ≤ c ∧ PtsR w' a n X Y ∧ (∀ x, a = some x → B < x.block) ∧ Strm w' B (k + 50) ∧ Mut (· = B) w w' := by
  obtain ⟨i0, hi0, hz0, hz1, hz2⟩ := info_parts info_point
  have hl := hs.lt
  go_enter Try.func40, Try.ntmps40
  go_wp2_with (fail)
  have H2 := Lib.hid (heap_alloc_new w (.cells #[.slice none 0 0, .bool false] 62))
  have HS := Lib.hid (hs.alloc (.cells #[.slice none 0 0, .bool false] 62))
  have HM := Lib.hid ((Mut.refl (· = B) w).alloc (.cells #[.slice none 0 0, .bool false] 62))
  generalize (w.alloc (.cells #[.slice none 0 0, .bool false] 62)) = wa at *
  obtain ⟨q2, hq2⟩ : ∃ q, q = w.heap.size := ⟨_, rfl⟩
  rw [← hq2] at H2
  try rw [← hq2]
  have hB2 : B < q2 := by omega
  have HQ2 := Lib.hid hq2
  clear hq2 hs
  refine (flip_any B k 4 wa HS.out (by omega) (by omega) (by omega)).mono ?_
  rintro e w1 ⟨⟨kf, rfl⟩, hst, hmt⟩
  replace HS := Lib.hid hst
  replace HM := Lib.hid (HM.out.trans hmt)
  replace H2 := Lib.hid ((hmt.block q2 (lt_of_heap H2.out) (by show ¬ q2 = B; omega)).trans H2.out)
  have hw1 := lt_of_heap H2.out
  clear hst hmt
  go_wp2_with (fail)
  have hb := (((Below.refl w1.heap.size w1).alloc (Nat.le_refl _) (.cells #[.slice none 0 0, .bool kf] 62))).alloc (by simp) (.cells #[.int .i64 0, .int .i64 0] 102)
  have H3 : Hid (((w1.alloc (.cells #[.slice none 0 0, .bool kf] 62)).alloc (.cells #[.int .i64 0, .int .i64 0] 102)).heap[w1.heap.size]? = some (.cells #[.slice none 0 0, .bool kf] 62 (0, 0))) := Lib.hid (by repeat (first | (refine heap_new ?_; first | rfl | (simp; done)) | rw [Below.heap_setCell _ _ _ _ (by simp <;> omega)] | rw [Below.heap_alloc _ _ _ (by simp <;> omega)]))
  have H4 : Hid (((w1.alloc (.cells #[.slice none 0 0, .bool kf] 62)).alloc (.cells #[.int .i64 0, .int .i64 0] 102)).heap[w1.heap.size + 1]? = some (.cells #[.int .i64 0, .int .i64 0] 102 (0, 0))) := Lib.hid (by repeat (first | (refine heap_new ?_; first | rfl | (simp; done)) | rw [Below.heap_setCell _ _ _ _ (by simp <;> omega)] | rw [Below.heap_alloc _ _ _ (by simp <;> omega)]))
  replace H2 := Lib.hid (heap_keep hb H2.out)
  replace HS := Lib.hid (StrmV.below HS.out hb)
  replace HM := Lib.hid (HM.out.below hb)
  clear hb
  generalize ((w1.alloc (.cells #[.slice none 0 0, .bool kf] 62)).alloc (.cells #[.int .i64 0, .int .i64 0] 102)) = wb at *
  obtain ⟨q3, hq3⟩ : ∃ q, q = w1.heap.size := ⟨_, rfl⟩
  obtain ⟨q4, hq4⟩ : ∃ q, q = w1.heap.size + 1 := ⟨_, rfl⟩
  have hB3 : B < q3 := by omega
  have hB4 : B < q4 := by omega
  have h34 : q3 < q4 := by omega
  have h23 : q2 < q3 := by omega
  rw [← hq3] at H3
  rw [← hq4] at H4
  try rw [← hq4]
  try rw [← hq3]
  clear hq3 hq4
  have lb3 : q3 < wb.heap.size := lt_of_heap H3.out
  have lb4 : q4 < wb.heap.size := lt_of_heap H4.out
  refine (range_any B (k + 1) 1 6 wb HS.out (by omega) (by omega) (by omega) (by omega)).mono ?_
  rintro e wc ⟨⟨r, rfl, hr0, hr1⟩, hst, hmt⟩
  obtain ⟨cn, rfl⟩ := Int.eq_ofNat_of_zero_le (show 0 ≤ r by omega)
  have hc6 : 1 ≤ cn ∧ cn ≤ 6 := by omega
  replace HS := Lib.hid hst
  replace HM := Lib.hid (HM.out.trans hmt)
  replace H2 := Lib.hid ((hmt.block q2 (lt_of_heap H2.out) (by show ¬ q2 = B; omega)).trans H2.out)
  replace H3 := Lib.hid ((hmt.block q3 (lt_of_heap H3.out) (by show ¬ q3 = B; omega)).trans H3.out)
  replace H4 := Lib.hid ((hmt.block q4 (lt_of_heap H4.out) (by show ¬ q4 = B; omega)).trans H4.out)
  have hbc : wb.heap.size ≤ wc.heap.size := hmt.size
  clear hst hmt hr0 hr1
  go_wp2_with (fail)
  go_loopw [11] (fun iv wr => ∃ (t : Nat) (a : Option Addr) (c : Nat) (xs : List Value) (x y : Int), iv = .int .i64 t ∧ t ≤ cn ∧ wr.ownsRow wb.heap.size 102 2 (.slice a t c) t xs ∧ AllI xs ∧ Strm wr B (k + 2 + 2 * t) ∧ Mut (· = B) w wr ∧ wr.heap[q2]? = some (.cells #[.slice none 0 0, .bool false] 62 (0, 0)) ∧ wr.heap[q3]? = some (.cells #[.slice a t c, .bool kf] 62 (0, 0)) ∧ wr.heap[q4]? = some (.cells #[.int .i64 x, .int .i64 y] 102 (0, 0)) ∧ wb.heap.size ≤ wr.heap.size) (fun iv _ => cn - (intOf iv).toNat)
  case atStart => exact ⟨0, none, 0, [], 0, 0, rfl, by omega, World.ownsRow_nil _ _ _ _, AllI.nil, HS.out, HM.out, H2.out, H3.out, H4.out, hbc⟩
  case round =>
    clear HS HM H2 H3 H4 hbc
    obtain ⟨t, a, c, xs, x, y, rfl, ht, hown, hax, hst, hmt, h2, h3, h4, hbc⟩ := hrel
    have HO := Lib.hid hown
    have HAX := Lib.hid hax
    have HS := Lib.hid hst
    have HM := Lib.hid hmt
    have H2 := Lib.hid h2
    have H3 := Lib.hid h3
    have H4 := Lib.hid h4
    have hszr := hmt.size
    clear hown hax hst hmt h2 h3 h4
    by_cases hlt : t < cn
    · have c3 := cell_of H3.out (i := 0) rfl
      have c40 := cell_of H4.out (i := 0) rfl
      have c41 := cell_of H4.out (i := 1) rfl
      go_wp2_with (at_builtin; refine wpList_append_lies _ rfl _ _ 60 rfl wb.heap.size 102 i0 (.agg #[.int .i64 0, .int .i64 0]) 2 16 Try.underlying60 hi0 hz0 hz1 hz2 rfl (by decide) _ _ _ rfl (ownsRow_below HO.out ((Below.refl _ wr).alloc (Nat.le_refl _) _)) ⟨wr.heap.size, 0, none⟩ 1 1 [.int .i64 x, .int .i64 y] rfl rfl (World.news_of_block (cs := #[.int .i64 x, .int .i64 y]) (t := 102) (fr := (0, 0)) (heap_alloc_new wr (.cells #[.int .i64 x, .int .i64 y] 102))) (by simp [Value.oneCell']) (by omega) (by unfold maxLen; omega) (by omega) (by simp; omega) (wr.heap.size + 1) (by simp) ?_; intro g5 c5 w5 hown5 hgrow5 _ hlt5; have HO5 := Lib.hid hown5; have HB5 := Lib.hid (Below.grown (B := wb.heap.size) (Below.alloc (B := wb.heap.size) (Below.refl _ wr) (by omega) (.cells #[.int .i64 x, .int .i64 y] 102)) hgrow5 (by simp; omega) (fun b hb => ((HO.out).lt b hb).1)); clear hown5 hgrow5; have hb3 := HB5.out.block q3 lb3; have hb4 := HB5.out.block q4 lb4; have H3n := Lib.hid (hb3.trans H3.out); have H4n := Lib.hid (hb4.trans H4.out); have k3 := cell_of H3n.out (i := 0) rfl; have kf3 := frozen_of H3n.out (i := 0); have k3l := lt_of_heap H3n.out; clear hb3 hb4)
      clear c3 c40 c41
      have HMB := Lib.hid (show Mut (· = B) w w5 from ⟨HB5.out.os.trans HM.out.os, HB5.out.tape.trans HM.out.tape, HB5.out.output.trans HM.out.output, Nat.le_trans HM.out.size HB5.out.size, fun k hk hn => (HB5.out.block k (by have := HQ2.out; omega)).trans (HM.out.block k hk hn)⟩)
      have HS5 := Lib.hid (HS.out.kept (S := fun b => wb.heap.size ≤ b) ⟨HB5.out.os, HB5.out.tape, HB5.out.output, HB5.out.size, fun k _ hn => HB5.out.block k (Nat.lt_of_not_le hn)⟩ (fun x hx e => by omega))
      have H2n := Lib.hid ((HB5.out.block q2 (by omega)).trans H2.out)
      have hg5 : wb.heap.size ≤ g5 := (HO5.out.lt g5 rfl).1
      have HS6 := Lib.hid (StrmV.setCell HS5.out (a := ⟨q3, 0, none⟩) (by show B < q3; omega) (.slice (some ⟨g5, 0, none⟩) (t + 1) c5))
      have HM6 := Lib.hid (HMB.out.setCell (p := ⟨q3, 0, none⟩) (fun e => absurd e (by show ¬ q3 < w.heap.size; have := HQ2.out; omega)) (.slice (some ⟨g5, 0, none⟩) (t + 1) c5))
      have H36 := Lib.hid (set2V_0 (u := .slice (some ⟨g5, 0, none⟩) (t + 1) c5) H3n.out)
      have H46 := Lib.hid ((Below.heap_setCell w5 ⟨q3, 0, none⟩ (.slice (some ⟨g5, 0, none⟩) (t + 1) c5) q4 (by show q4 ≠ q3; omega)).trans H4n.out)
      have H26 := Lib.hid ((Below.heap_setCell w5 ⟨q3, 0, none⟩ (.slice (some ⟨g5, 0, none⟩) (t + 1) c5) q2 (by show q2 ≠ q3; omega)).trans H2n.out)
      have HO6 := Lib.hid (own_mutU HO5.out (b := q3) 0 (.slice (some ⟨g5, 0, none⟩) (t + 1) c5) (fun e => by have := (HO5.out.lt q3 e).1; omega))
      have hz6 : wb.heap.size ≤ w5.heap.size := Nat.le_trans hbc HB5.out.size
      have hz7 : (w5.setCell ⟨q3, 0, none⟩ (.slice (some ⟨g5, 0, none⟩) (t + 1) c5)).heap.size = w5.heap.size := by simp [World.setCell]
      rw [← hz7] at hz6
      go_wp2_with (fail)
      clear HS5 HMB H2n H3n H4n HO5 HB5 HO HS HM H2 H3 H4 k3 kf3 k3l hz7
      generalize (w5.setCell ⟨q3, 0, none⟩ (.slice (some ⟨g5, 0, none⟩) (t + 1) c5)) = W6 at *
      have x0 := cell_of H46.out (i := 0) rfl
      have x1 := cell_of H46.out (i := 1) rfl
      have lq4 : q4 < W6.heap.size := lt_of_heap H46.out
      have nq4 : ¬ q4 = B := by omega
      refine wp_region_held_drew (S := (fun _ => True)) (by kernel_rfl) True.intro (fun hHeld => ?_)
      refine tkH (by assumption) 0 (oi := ?_) (v := ?_) ?_ ?_ ?_ ?_ ?_ ?_ ?_ ?_; rotate_left 2; (simp only [gA, gB, gC]; exact rfl); kernel_rfl; kernel_rfl; kernel_rfl; exact fun _ _ _ h => h; rfl; (intro w' hSw; (try dsimp only at hSw); go_simp; with_reducible rfl); simp only [Act.put, pB, pC, pD]
      refine tkH (by assumption) 2 (oi := ?_) (v := ?_) ?_ ?_ ?_ ?_ ?_ ?_ ?_ ?_; rotate_left 2; (simp only [gA, gB, gC]; exact rfl); kernel_rfl; kernel_rfl; kernel_rfl; exact fun _ _ _ h => h; rfl; (intro w' hSw; (try dsimp only at hSw); go_simp; with_reducible rfl); simp only [Act.put, pB, pC, pD]
      refine tkH (by assumption) 6 (oi := ?_) (v := ?_) ?_ ?_ ?_ ?_ ?_ ?_ ?_ ?_; rotate_left 2; (simp only [gA, gB, gC]; exact rfl); kernel_rfl; kernel_rfl; kernel_rfl; exact fun _ _ _ h => h; rfl; (intro w' hSw; (try dsimp only at hSw); go_simp; with_reducible rfl); simp only [Act.put, pB, pC, pD]
      refine tkH (by assumption) 8 (oi := ?_) (v := ?_) ?_ ?_ ?_ ?_ ?_ ?_ ?_ ?_; rotate_left 2; (simp only [gA, gB, gC]; exact rfl); kernel_rfl; kernel_rfl; kernel_rfl; exact fun _ _ _ h => h; rfl; (intro w' hSw; (try dsimp only at hSw); go_simp; with_reducible rfl); simp only [Act.put, pB, pC, pD]
      refine absH (fun G A hG hA => ?_)
      suffices h_1_3_4_7_9_10 : ∀ (g3 : Nat) (z4 : Int) (g9 : Nat) (z10 : Int) (W : World), Hid (Strm W B ((k + 2 + 2 * t) + 2)) → Hid (Mut (· = B) W6 W) → G 1 #[true, true, true, true, true, true, true, true, true, true, true, true, true, false] (((((((((A.put (some 20) (.int .i64 x)).put (some 22) (.slice (some ⟨g3, 0, none⟩) 5 5)).put (some 23) (.int .i64 z4)).put (some 24) (.int .i64 (IntKind.i64.wrap (x + z4)))).put (some 26) (.int .i64 y)).put (some 28) (.slice (some ⟨g9, 0, none⟩) 5 5)).put (some 29) (.int .i64 z10)).put (some 30) (.int .i64 (IntKind.i64.wrap (y + z10)))).put (some 31) (.agg #[.int .i64 (IntKind.i64.wrap (x + z4)), .int .i64 (IntKind.i64.wrap (y + z10))])) W by
        have h_1_3_4_7_9 : ∀ (g3 : Nat) (z4 : Int) (g9 : Nat) (W : World), Hid (Strm W B ((k + 2 + 2 * t) + 1)) → Hid (Mut (· = B) W6 W) → Hid (W.heap[g9]? = some (.cells #[.int .i64 0, .int .i64 0, .int .i64 10, .int .i64 (-10), .int .i64 25] 3 (0, 0))) → B < g9 → G 4 #[true, true, true, true, true, true, true, true, true, true, false, false, false, false] ((((((A.put (some 20) (.int .i64 x)).put (some 22) (.slice (some ⟨g3, 0, none⟩) 5 5)).put (some 23) (.int .i64 z4)).put (some 24) (.int .i64 (IntKind.i64.wrap (x + z4)))).put (some 26) (.int .i64 y)).put (some 28) (.slice (some ⟨g9, 0, none⟩) 5 5)) W := by
          intro g3 z4 g9 W HS HM HG9 hb9
          subst hA
          rw [hG]
          simp only [Act.put, pB, pC, pD]
          have hlW := HS.out.lt
          refine wpAnyH_ready (rs := [10]) (by kernel_rfl) (by simp) ?_
          refine coH 10 (oi := ?_) ?_ ?_ (fun K hK => ?_) ?_; rotate_left; (simp only [gA, gB, gC]; exact rfl); rfl
          · go_wp2_with (fail)
            refine (pick_any B _ g9 5 5 (fun _ => True) W HS.out (by omega) (by omega) (by omega) (by omega) (lt_of_heap HG9.out) (by
              intro i hi
              match i, hi with
              | 0, _ => exact ⟨_, cell_of HG9.out (i := 0) rfl, trivial⟩
              | 1, _ => exact ⟨_, cell_of HG9.out (i := 1) rfl, trivial⟩
              | 2, _ => exact ⟨_, cell_of HG9.out (i := 2) rfl, trivial⟩
              | 3, _ => exact ⟨_, cell_of HG9.out (i := 3) rfl, trivial⟩
              | 4, _ => exact ⟨_, cell_of HG9.out (i := 4) rfl, trivial⟩
              | j + 5, h => omega)).mono ?_
            rintro e Wn ⟨⟨z10, rfl, _⟩, hst, hmt⟩
            have HSn := Lib.hid hst
            have HMn := Lib.hid (HM.out.trans (hmt.mono fun _ _ h => h))
            clear hst hmt
            refine hK.out _ _ True.intro (fun hHeldN => ?_)
            clear hK K
            try simp only [Act.put, pB, pC, pD]
            refine tkH True.intro 11 (oi := ?_) (v := ?_) ?_ ?_ ?_ ?_ ?_ ?_ ?_ ?_; rotate_left 2; (simp only [gA, gB, gC]; exact rfl); kernel_rfl; kernel_rfl; kernel_rfl; exact fun _ _ _ h => h; rfl; (intro w' hSw; go_simp; with_reducible rfl); simp only [Act.put, pB, pC, pD]
            refine tkH True.intro 12 (oi := ?_) (v := ?_) ?_ ?_ ?_ ?_ ?_ ?_ ?_ ?_; rotate_left 2; (simp only [gA, gB, gC]; exact rfl); kernel_rfl; kernel_rfl; kernel_rfl; exact fun _ _ _ h => h; rfl; (intro w' hSw; go_simp; with_reducible rfl); simp only [Act.put, pB, pC, pD]
            refine listedEq (l' := #[true, true, true, true, true, true, true, true, true, true, true, true, true, false]) (by kernel_rfl) ?_
            have h := h_1_3_4_7_9_10 g3 z4 g9 z10 Wn HSn HMn
            rw [hG] at h
            simp only [Act.put, pB, pC, pD] at h
            exact h
          exact AllReadyH.nil
        have h_1_3_4_9_10 : ∀ (g3 : Nat) (z4 : Int) (g9 : Nat) (z10 : Int) (W : World), Hid (Strm W B ((k + 2 + 2 * t) + 2)) → Hid (Mut (· = B) W6 W) → G 4 #[true, true, true, true, true, true, true, false, true, true, true, false, false, false] ((((((A.put (some 20) (.int .i64 x)).put (some 22) (.slice (some ⟨g3, 0, none⟩) 5 5)).put (some 23) (.int .i64 z4)).put (some 24) (.int .i64 (IntKind.i64.wrap (x + z4)))).put (some 28) (.slice (some ⟨g9, 0, none⟩) 5 5)).put (some 29) (.int .i64 z10)) W := by
          intro g3 z4 g9 z10 W HS HM
          subst hA
          rw [hG]
          simp only [Act.put, pB, pC, pD]
          have hlW := HS.out.lt
          refine wpAnyH_ready (rs := [7]) (by kernel_rfl) (by simp) ?_
          refine coH 7 (oi := ?_) ?_ ?_ (fun K hK => ?_) ?_; rotate_left; (simp only [gA, gB, gC]; exact rfl); rfl
          · have l0 := (HM.out.cell (p := ⟨q4, 1, none⟩) lq4 nq4).trans x1
            go_wp2_with (fail)
            have HSn := HS
            have HMn := HM
            refine hK.out _ _ True.intro (fun hHeldN => ?_)
            clear hK K
            try simp only [Act.put, pB, pC, pD]
            refine tkH True.intro 11 (oi := ?_) (v := ?_) ?_ ?_ ?_ ?_ ?_ ?_ ?_ ?_; rotate_left 2; (simp only [gA, gB, gC]; exact rfl); kernel_rfl; kernel_rfl; kernel_rfl; exact fun _ _ _ h => h; rfl; (intro w' hSw; go_simp; with_reducible rfl); simp only [Act.put, pB, pC, pD]
            refine tkH True.intro 12 (oi := ?_) (v := ?_) ?_ ?_ ?_ ?_ ?_ ?_ ?_ ?_; rotate_left 2; (simp only [gA, gB, gC]; exact rfl); kernel_rfl; kernel_rfl; kernel_rfl; exact fun _ _ _ h => h; rfl; (intro w' hSw; go_simp; with_reducible rfl); simp only [Act.put, pB, pC, pD]
            refine listedEq (l' := #[true, true, true, true, true, true, true, true, true, true, true, true, true, false]) (by kernel_rfl) ?_
            have h := h_1_3_4_7_9_10 g3 z4 g9 z10 W HSn HMn
            rw [hG] at h
            simp only [Act.put, pB, pC, pD] at h
            exact h
          exact AllReadyH.nil
        have h_3_4_7_9_10 : ∀ (g3 : Nat) (z4 : Int) (g9 : Nat) (z10 : Int) (W : World), Hid (Strm W B ((k + 2 + 2 * t) + 2)) → Hid (Mut (· = B) W6 W) → G 4 #[true, false, true, true, true, false, true, true, true, true, true, true, false, false] ((((((A.put (some 22) (.slice (some ⟨g3, 0, none⟩) 5 5)).put (some 23) (.int .i64 z4)).put (some 26) (.int .i64 y)).put (some 28) (.slice (some ⟨g9, 0, none⟩) 5 5)).put (some 29) (.int .i64 z10)).put (some 30) (.int .i64 (IntKind.i64.wrap (y + z10)))) W := by
          intro g3 z4 g9 z10 W HS HM
          subst hA
          rw [hG]
          simp only [Act.put, pB, pC, pD]
          have hlW := HS.out.lt
          refine wpAnyH_ready (rs := [1]) (by kernel_rfl) (by simp) ?_
          refine coH 1 (oi := ?_) ?_ ?_ (fun K hK => ?_) ?_; rotate_left; (simp only [gA, gB, gC]; exact rfl); rfl
          · have l0 := (HM.out.cell (p := ⟨q4, 0, none⟩) lq4 nq4).trans x0
            go_wp2_with (fail)
            have HSn := HS
            have HMn := HM
            refine hK.out _ _ True.intro (fun hHeldN => ?_)
            clear hK K
            try simp only [Act.put, pB, pC, pD]
            refine tkH True.intro 5 (oi := ?_) (v := ?_) ?_ ?_ ?_ ?_ ?_ ?_ ?_ ?_; rotate_left 2; (simp only [gA, gB, gC]; exact rfl); kernel_rfl; kernel_rfl; kernel_rfl; exact fun _ _ _ h => h; rfl; (intro w' hSw; go_simp; with_reducible rfl); simp only [Act.put, pB, pC, pD]
            refine tkH True.intro 12 (oi := ?_) (v := ?_) ?_ ?_ ?_ ?_ ?_ ?_ ?_ ?_; rotate_left 2; (simp only [gA, gB, gC]; exact rfl); kernel_rfl; kernel_rfl; kernel_rfl; exact fun _ _ _ h => h; rfl; (intro w' hSw; go_simp; with_reducible rfl); simp only [Act.put, pB, pC, pD]
            refine listedEq (l' := #[true, true, true, true, true, true, true, true, true, true, true, true, true, false]) (by kernel_rfl) ?_
            have h := h_1_3_4_7_9_10 g3 z4 g9 z10 W HSn HMn
            rw [hG] at h
            simp only [Act.put, pB, pC, pD] at h
            exact h
          exact AllReadyH.nil
        have h_1_3_4_7 : ∀ (g3 : Nat) (z4 : Int) (W : World), Hid (Strm W B ((k + 2 + 2 * t) + 1)) → Hid (Mut (· = B) W6 W) → G 5 #[true, true, true, true, true, true, true, true, true, false, false, false, false, false] (((((A.put (some 20) (.int .i64 x)).put (some 22) (.slice (some ⟨g3, 0, none⟩) 5 5)).put (some 23) (.int .i64 z4)).put (some 24) (.int .i64 (IntKind.i64.wrap (x + z4)))).put (some 26) (.int .i64 y)) W := by
          intro g3 z4 W HS HM
          subst hA
          rw [hG]
          simp only [Act.put, pB, pC, pD]
          have hlW := HS.out.lt
          refine wpAnyH_ready (rs := [9]) (by kernel_rfl) (by simp) ?_
          refine coH 9 (oi := ?_) ?_ ?_ (fun K hK => ?_) ?_; rotate_left; (simp only [gA, gB, gC]; exact rfl); rfl
          · go_wp2_with (fail)
            have HSn := Lib.hid (HS.out.alloc (.cells #[.int .i64 0, .int .i64 0, .int .i64 10, .int .i64 (-10), .int .i64 25] 3))
            have HMn := Lib.hid (HM.out.alloc (.cells #[.int .i64 0, .int .i64 0, .int .i64 10, .int .i64 (-10), .int .i64 25] 3))
            have HGn := Lib.hid (heap_alloc_new W (.cells #[.int .i64 0, .int .i64 0, .int .i64 10, .int .i64 (-10), .int .i64 25] 3))
            refine hK.out _ _ True.intro (fun hHeldN => ?_)
            clear hK K
            try simp only [Act.put, pB, pC, pD]
            refine listedEq (l' := #[true, true, true, true, true, true, true, true, true, true, false, false, false, false]) (by kernel_rfl) ?_
            have h := h_1_3_4_7_9 g3 z4 W.heap.size (W.alloc (.cells #[.int .i64 0, .int .i64 0, .int .i64 10, .int .i64 (-10), .int .i64 25] 3)) HSn HMn HGn hlW
            rw [hG] at h
            simp only [Act.put, pB, pC, pD] at h
            exact h
          exact AllReadyH.nil
        have h_1_3_4_9 : ∀ (g3 : Nat) (z4 : Int) (g9 : Nat) (W : World), Hid (Strm W B ((k + 2 + 2 * t) + 1)) → Hid (Mut (· = B) W6 W) → Hid (W.heap[g9]? = some (.cells #[.int .i64 0, .int .i64 0, .int .i64 10, .int .i64 (-10), .int .i64 25] 3 (0, 0))) → B < g9 → G 5 #[true, true, true, true, true, true, true, false, true, true, false, false, false, false] (((((A.put (some 20) (.int .i64 x)).put (some 22) (.slice (some ⟨g3, 0, none⟩) 5 5)).put (some 23) (.int .i64 z4)).put (some 24) (.int .i64 (IntKind.i64.wrap (x + z4)))).put (some 28) (.slice (some ⟨g9, 0, none⟩) 5 5)) W := by
          intro g3 z4 g9 W HS HM HG9 hb9
          subst hA
          rw [hG]
          simp only [Act.put, pB, pC, pD]
          have hlW := HS.out.lt
          refine wpAnyH_ready (rs := [7, 10]) (by kernel_rfl) (by simp) ?_
          refine coH 7 (oi := ?_) ?_ ?_ (fun K hK => ?_) ?_; rotate_left; (simp only [gA, gB, gC]; exact rfl); rfl
          · have l0 := (HM.out.cell (p := ⟨q4, 1, none⟩) lq4 nq4).trans x1
            go_wp2_with (fail)
            have HSn := HS
            have HMn := HM
            refine hK.out _ _ True.intro (fun hHeldN => ?_)
            clear hK K
            try simp only [Act.put, pB, pC, pD]
            refine listedEq (l' := #[true, true, true, true, true, true, true, true, true, true, false, false, false, false]) (by kernel_rfl) ?_
            have h := h_1_3_4_7_9 g3 z4 g9 W HSn HMn HG9 hb9
            rw [hG] at h
            simp only [Act.put, pB, pC, pD] at h
            exact h
          refine coH 10 (oi := ?_) ?_ ?_ (fun K hK => ?_) ?_; rotate_left; (simp only [gA, gB, gC]; exact rfl); rfl
          · go_wp2_with (fail)
            refine (pick_any B _ g9 5 5 (fun _ => True) W HS.out (by omega) (by omega) (by omega) (by omega) (lt_of_heap HG9.out) (by
              intro i hi
              match i, hi with
              | 0, _ => exact ⟨_, cell_of HG9.out (i := 0) rfl, trivial⟩
              | 1, _ => exact ⟨_, cell_of HG9.out (i := 1) rfl, trivial⟩
              | 2, _ => exact ⟨_, cell_of HG9.out (i := 2) rfl, trivial⟩
              | 3, _ => exact ⟨_, cell_of HG9.out (i := 3) rfl, trivial⟩
              | 4, _ => exact ⟨_, cell_of HG9.out (i := 4) rfl, trivial⟩
              | j + 5, h => omega)).mono ?_
            rintro e Wn ⟨⟨z10, rfl, _⟩, hst, hmt⟩
            have HSn := Lib.hid hst
            have HMn := Lib.hid (HM.out.trans (hmt.mono fun _ _ h => h))
            clear hst hmt
            refine hK.out _ _ True.intro (fun hHeldN => ?_)
            clear hK K
            try simp only [Act.put, pB, pC, pD]
            refine listedEq (l' := #[true, true, true, true, true, true, true, false, true, true, true, false, false, false]) (by kernel_rfl) ?_
            have h := h_1_3_4_9_10 g3 z4 g9 z10 Wn HSn HMn
            rw [hG] at h
            simp only [Act.put, pB, pC, pD] at h
            exact h
          exact AllReadyH.nil
        have h_1_3_7_9 : ∀ (g3 : Nat) (g9 : Nat) (W : World), Hid (Strm W B ((k + 2 + 2 * t) + 0)) → Hid (Mut (· = B) W6 W) → Hid (W.heap[g3]? = some (.cells #[.int .i64 0, .int .i64 10, .int .i64 (-10), .int .i64 30, .int .i64 5] 3 (0, 0))) → B < g3 → Hid (W.heap[g9]? = some (.cells #[.int .i64 0, .int .i64 0, .int .i64 10, .int .i64 (-10), .int .i64 25] 3 (0, 0))) → B < g9 → G 6 #[true, true, true, true, false, false, true, true, true, true, false, false, false, false] ((((A.put (some 20) (.int .i64 x)).put (some 22) (.slice (some ⟨g3, 0, none⟩) 5 5)).put (some 26) (.int .i64 y)).put (some 28) (.slice (some ⟨g9, 0, none⟩) 5 5)) W := by
          intro g3 g9 W HS HM HG3 hb3 HG9 hb9
          subst hA
          rw [hG]
          simp only [Act.put, pB, pC, pD]
          have hlW := HS.out.lt
          refine wpAnyH_ready (rs := [4]) (by kernel_rfl) (by simp) ?_
          refine coH 4 (oi := ?_) ?_ ?_ (fun K hK => ?_) ?_; rotate_left; (simp only [gA, gB, gC]; exact rfl); rfl
          · go_wp2_with (fail)
            refine (pick_any B _ g3 5 5 (fun _ => True) W HS.out (by omega) (by omega) (by omega) (by omega) (lt_of_heap HG3.out) (by
              intro i hi
              match i, hi with
              | 0, _ => exact ⟨_, cell_of HG3.out (i := 0) rfl, trivial⟩
              | 1, _ => exact ⟨_, cell_of HG3.out (i := 1) rfl, trivial⟩
              | 2, _ => exact ⟨_, cell_of HG3.out (i := 2) rfl, trivial⟩
              | 3, _ => exact ⟨_, cell_of HG3.out (i := 3) rfl, trivial⟩
              | 4, _ => exact ⟨_, cell_of HG3.out (i := 4) rfl, trivial⟩
              | j + 5, h => omega)).mono ?_
            rintro e Wn ⟨⟨z4, rfl, _⟩, hst, hmt⟩
            have HSn := Lib.hid hst
            have HMn := Lib.hid (HM.out.trans (hmt.mono fun _ _ h => h))
            have HK9 := Lib.hid ((hmt.block g9 (lt_of_heap HG9.out) (by show ¬ g9 = B; omega)).trans HG9.out)
            clear hst hmt
            refine hK.out _ _ True.intro (fun hHeldN => ?_)
            clear hK K
            try simp only [Act.put, pB, pC, pD]
            refine tkH True.intro 5 (oi := ?_) (v := ?_) ?_ ?_ ?_ ?_ ?_ ?_ ?_ ?_; rotate_left 2; (simp only [gA, gB, gC]; exact rfl); kernel_rfl; kernel_rfl; kernel_rfl; exact fun _ _ _ h => h; rfl; (intro w' hSw; go_simp; with_reducible rfl); simp only [Act.put, pB, pC, pD]
            refine listedEq (l' := #[true, true, true, true, true, true, true, true, true, true, false, false, false, false]) (by kernel_rfl) ?_
            have h := h_1_3_4_7_9 g3 z4 g9 Wn HSn HMn HK9 hb9
            rw [hG] at h
            simp only [Act.put, pB, pC, pD] at h
            exact h
          exact AllReadyH.nil
        have h_3_4_7_9 : ∀ (g3 : Nat) (z4 : Int) (g9 : Nat) (W : World), Hid (Strm W B ((k + 2 + 2 * t) + 1)) → Hid (Mut (· = B) W6 W) → Hid (W.heap[g9]? = some (.cells #[.int .i64 0, .int .i64 0, .int .i64 10, .int .i64 (-10), .int .i64 25] 3 (0, 0))) → B < g9 → G 6 #[true, false, true, true, true, false, true, true, true, true, false, false, false, false] ((((A.put (some 22) (.slice (some ⟨g3, 0, none⟩) 5 5)).put (some 23) (.int .i64 z4)).put (some 26) (.int .i64 y)).put (some 28) (.slice (some ⟨g9, 0, none⟩) 5 5)) W := by
          intro g3 z4 g9 W HS HM HG9 hb9
          subst hA
          rw [hG]
          simp only [Act.put, pB, pC, pD]
          have hlW := HS.out.lt
          refine wpAnyH_ready (rs := [1, 10]) (by kernel_rfl) (by simp) ?_
          refine coH 1 (oi := ?_) ?_ ?_ (fun K hK => ?_) ?_; rotate_left; (simp only [gA, gB, gC]; exact rfl); rfl
          · have l0 := (HM.out.cell (p := ⟨q4, 0, none⟩) lq4 nq4).trans x0
            go_wp2_with (fail)
            have HSn := HS
            have HMn := HM
            refine hK.out _ _ True.intro (fun hHeldN => ?_)
            clear hK K
            try simp only [Act.put, pB, pC, pD]
            refine tkH True.intro 5 (oi := ?_) (v := ?_) ?_ ?_ ?_ ?_ ?_ ?_ ?_ ?_; rotate_left 2; (simp only [gA, gB, gC]; exact rfl); kernel_rfl; kernel_rfl; kernel_rfl; exact fun _ _ _ h => h; rfl; (intro w' hSw; go_simp; with_reducible rfl); simp only [Act.put, pB, pC, pD]
            refine listedEq (l' := #[true, true, true, true, true, true, true, true, true, true, false, false, false, false]) (by kernel_rfl) ?_
            have h := h_1_3_4_7_9 g3 z4 g9 W HSn HMn HG9 hb9
            rw [hG] at h
            simp only [Act.put, pB, pC, pD] at h
            exact h
          refine coH 10 (oi := ?_) ?_ ?_ (fun K hK => ?_) ?_; rotate_left; (simp only [gA, gB, gC]; exact rfl); rfl
          · go_wp2_with (fail)
            refine (pick_any B _ g9 5 5 (fun _ => True) W HS.out (by omega) (by omega) (by omega) (by omega) (lt_of_heap HG9.out) (by
              intro i hi
              match i, hi with
              | 0, _ => exact ⟨_, cell_of HG9.out (i := 0) rfl, trivial⟩
              | 1, _ => exact ⟨_, cell_of HG9.out (i := 1) rfl, trivial⟩
              | 2, _ => exact ⟨_, cell_of HG9.out (i := 2) rfl, trivial⟩
              | 3, _ => exact ⟨_, cell_of HG9.out (i := 3) rfl, trivial⟩
              | 4, _ => exact ⟨_, cell_of HG9.out (i := 4) rfl, trivial⟩
              | j + 5, h => omega)).mono ?_
            rintro e Wn ⟨⟨z10, rfl, _⟩, hst, hmt⟩
            have HSn := Lib.hid hst
            have HMn := Lib.hid (HM.out.trans (hmt.mono fun _ _ h => h))
            clear hst hmt
            refine hK.out _ _ True.intro (fun hHeldN => ?_)
            clear hK K
            try simp only [Act.put, pB, pC, pD]
            refine tkH True.intro 11 (oi := ?_) (v := ?_) ?_ ?_ ?_ ?_ ?_ ?_ ?_ ?_; rotate_left 2; (simp only [gA, gB, gC]; exact rfl); kernel_rfl; kernel_rfl; kernel_rfl; exact fun _ _ _ h => h; rfl; (intro w' hSw; go_simp; with_reducible rfl); simp only [Act.put, pB, pC, pD]
            refine listedEq (l' := #[true, false, true, true, true, false, true, true, true, true, true, true, false, false]) (by kernel_rfl) ?_
            have h := h_3_4_7_9_10 g3 z4 g9 z10 Wn HSn HMn
            rw [hG] at h
            simp only [Act.put, pB, pC, pD] at h
            exact h
          exact AllReadyH.nil
        have h_3_4_9_10 : ∀ (g3 : Nat) (z4 : Int) (g9 : Nat) (z10 : Int) (W : World), Hid (Strm W B ((k + 2 + 2 * t) + 2)) → Hid (Mut (· = B) W6 W) → G 6 #[true, false, true, true, true, false, true, false, true, true, true, false, false, false] ((((A.put (some 22) (.slice (some ⟨g3, 0, none⟩) 5 5)).put (some 23) (.int .i64 z4)).put (some 28) (.slice (some ⟨g9, 0, none⟩) 5 5)).put (some 29) (.int .i64 z10)) W := by
          intro g3 z4 g9 z10 W HS HM
          subst hA
          rw [hG]
          simp only [Act.put, pB, pC, pD]
          have hlW := HS.out.lt
          refine wpAnyH_ready (rs := [1, 7]) (by kernel_rfl) (by simp) ?_
          refine coH 1 (oi := ?_) ?_ ?_ (fun K hK => ?_) ?_; rotate_left; (simp only [gA, gB, gC]; exact rfl); rfl
          · have l0 := (HM.out.cell (p := ⟨q4, 0, none⟩) lq4 nq4).trans x0
            go_wp2_with (fail)
            have HSn := HS
            have HMn := HM
            refine hK.out _ _ True.intro (fun hHeldN => ?_)
            clear hK K
            try simp only [Act.put, pB, pC, pD]
            refine tkH True.intro 5 (oi := ?_) (v := ?_) ?_ ?_ ?_ ?_ ?_ ?_ ?_ ?_; rotate_left 2; (simp only [gA, gB, gC]; exact rfl); kernel_rfl; kernel_rfl; kernel_rfl; exact fun _ _ _ h => h; rfl; (intro w' hSw; go_simp; with_reducible rfl); simp only [Act.put, pB, pC, pD]
            refine listedEq (l' := #[true, true, true, true, true, true, true, false, true, true, true, false, false, false]) (by kernel_rfl) ?_
            have h := h_1_3_4_9_10 g3 z4 g9 z10 W HSn HMn
            rw [hG] at h
            simp only [Act.put, pB, pC, pD] at h
            exact h
          refine coH 7 (oi := ?_) ?_ ?_ (fun K hK => ?_) ?_; rotate_left; (simp only [gA, gB, gC]; exact rfl); rfl
          · have l0 := (HM.out.cell (p := ⟨q4, 1, none⟩) lq4 nq4).trans x1
            go_wp2_with (fail)
            have HSn := HS
            have HMn := HM
            refine hK.out _ _ True.intro (fun hHeldN => ?_)
            clear hK K
            try simp only [Act.put, pB, pC, pD]
            refine tkH True.intro 11 (oi := ?_) (v := ?_) ?_ ?_ ?_ ?_ ?_ ?_ ?_ ?_; rotate_left 2; (simp only [gA, gB, gC]; exact rfl); kernel_rfl; kernel_rfl; kernel_rfl; exact fun _ _ _ h => h; rfl; (intro w' hSw; go_simp; with_reducible rfl); simp only [Act.put, pB, pC, pD]
            refine listedEq (l' := #[true, false, true, true, true, false, true, true, true, true, true, true, false, false]) (by kernel_rfl) ?_
            have h := h_3_4_7_9_10 g3 z4 g9 z10 W HSn HMn
            rw [hG] at h
            simp only [Act.put, pB, pC, pD] at h
            exact h
          exact AllReadyH.nil
        have h_1_3_4 : ∀ (g3 : Nat) (z4 : Int) (W : World), Hid (Strm W B ((k + 2 + 2 * t) + 1)) → Hid (Mut (· = B) W6 W) → G 6 #[true, true, true, true, true, true, true, false, true, false, false, false, false, false] ((((A.put (some 20) (.int .i64 x)).put (some 22) (.slice (some ⟨g3, 0, none⟩) 5 5)).put (some 23) (.int .i64 z4)).put (some 24) (.int .i64 (IntKind.i64.wrap (x + z4)))) W := by
          intro g3 z4 W HS HM
          subst hA
          rw [hG]
          simp only [Act.put, pB, pC, pD]
          have hlW := HS.out.lt
          refine wpAnyH_ready (rs := [7, 9]) (by kernel_rfl) (by simp) ?_
          refine coH 7 (oi := ?_) ?_ ?_ (fun K hK => ?_) ?_; rotate_left; (simp only [gA, gB, gC]; exact rfl); rfl
          · have l0 := (HM.out.cell (p := ⟨q4, 1, none⟩) lq4 nq4).trans x1
            go_wp2_with (fail)
            have HSn := HS
            have HMn := HM
            refine hK.out _ _ True.intro (fun hHeldN => ?_)
            clear hK K
            try simp only [Act.put, pB, pC, pD]
            refine listedEq (l' := #[true, true, true, true, true, true, true, true, true, false, false, false, false, false]) (by kernel_rfl) ?_
            have h := h_1_3_4_7 g3 z4 W HSn HMn
            rw [hG] at h
            simp only [Act.put, pB, pC, pD] at h
            exact h
          refine coH 9 (oi := ?_) ?_ ?_ (fun K hK => ?_) ?_; rotate_left; (simp only [gA, gB, gC]; exact rfl); rfl
          · go_wp2_with (fail)
            have HSn := Lib.hid (HS.out.alloc (.cells #[.int .i64 0, .int .i64 0, .int .i64 10, .int .i64 (-10), .int .i64 25] 3))
            have HMn := Lib.hid (HM.out.alloc (.cells #[.int .i64 0, .int .i64 0, .int .i64 10, .int .i64 (-10), .int .i64 25] 3))
            have HGn := Lib.hid (heap_alloc_new W (.cells #[.int .i64 0, .int .i64 0, .int .i64 10, .int .i64 (-10), .int .i64 25] 3))
            refine hK.out _ _ True.intro (fun hHeldN => ?_)
            clear hK K
            try simp only [Act.put, pB, pC, pD]
            refine listedEq (l' := #[true, true, true, true, true, true, true, false, true, true, false, false, false, false]) (by kernel_rfl) ?_
            have h := h_1_3_4_9 g3 z4 W.heap.size (W.alloc (.cells #[.int .i64 0, .int .i64 0, .int .i64 10, .int .i64 (-10), .int .i64 25] 3)) HSn HMn HGn hlW
            rw [hG] at h
            simp only [Act.put, pB, pC, pD] at h
            exact h
          exact AllReadyH.nil
        have h_1_3_7 : ∀ (g3 : Nat) (W : World), Hid (Strm W B ((k + 2 + 2 * t) + 0)) → Hid (Mut (· = B) W6 W) → Hid (W.heap[g3]? = some (.cells #[.int .i64 0, .int .i64 10, .int .i64 (-10), .int .i64 30, .int .i64 5] 3 (0, 0))) → B < g3 → G 7 #[true, true, true, true, false, false, true, true, true, false, false, false, false, false] (((A.put (some 20) (.int .i64 x)).put (some 22) (.slice (some ⟨g3, 0, none⟩) 5 5)).put (some 26) (.int .i64 y)) W := by
          intro g3 W HS HM HG3 hb3
          subst hA
          rw [hG]
          simp only [Act.put, pB, pC, pD]
          have hlW := HS.out.lt
          refine wpAnyH_ready (rs := [4, 9]) (by kernel_rfl) (by simp) ?_
          refine coH 4 (oi := ?_) ?_ ?_ (fun K hK => ?_) ?_; rotate_left; (simp only [gA, gB, gC]; exact rfl); rfl
          · go_wp2_with (fail)
            refine (pick_any B _ g3 5 5 (fun _ => True) W HS.out (by omega) (by omega) (by omega) (by omega) (lt_of_heap HG3.out) (by
              intro i hi
              match i, hi with
              | 0, _ => exact ⟨_, cell_of HG3.out (i := 0) rfl, trivial⟩
              | 1, _ => exact ⟨_, cell_of HG3.out (i := 1) rfl, trivial⟩
              | 2, _ => exact ⟨_, cell_of HG3.out (i := 2) rfl, trivial⟩
              | 3, _ => exact ⟨_, cell_of HG3.out (i := 3) rfl, trivial⟩
              | 4, _ => exact ⟨_, cell_of HG3.out (i := 4) rfl, trivial⟩
              | j + 5, h => omega)).mono ?_
            rintro e Wn ⟨⟨z4, rfl, _⟩, hst, hmt⟩
            have HSn := Lib.hid hst
            have HMn := Lib.hid (HM.out.trans (hmt.mono fun _ _ h => h))
            clear hst hmt
            refine hK.out _ _ True.intro (fun hHeldN => ?_)
            clear hK K
            try simp only [Act.put, pB, pC, pD]
            refine tkH True.intro 5 (oi := ?_) (v := ?_) ?_ ?_ ?_ ?_ ?_ ?_ ?_ ?_; rotate_left 2; (simp only [gA, gB, gC]; exact rfl); kernel_rfl; kernel_rfl; kernel_rfl; exact fun _ _ _ h => h; rfl; (intro w' hSw; go_simp; with_reducible rfl); simp only [Act.put, pB, pC, pD]
            refine listedEq (l' := #[true, true, true, true, true, true, true, true, true, false, false, false, false, false]) (by kernel_rfl) ?_
            have h := h_1_3_4_7 g3 z4 Wn HSn HMn
            rw [hG] at h
            simp only [Act.put, pB, pC, pD] at h
            exact h
          refine coH 9 (oi := ?_) ?_ ?_ (fun K hK => ?_) ?_; rotate_left; (simp only [gA, gB, gC]; exact rfl); rfl
          · go_wp2_with (fail)
            have HSn := Lib.hid (HS.out.alloc (.cells #[.int .i64 0, .int .i64 0, .int .i64 10, .int .i64 (-10), .int .i64 25] 3))
            have HMn := Lib.hid (HM.out.alloc (.cells #[.int .i64 0, .int .i64 0, .int .i64 10, .int .i64 (-10), .int .i64 25] 3))
            have HGn := Lib.hid (heap_alloc_new W (.cells #[.int .i64 0, .int .i64 0, .int .i64 10, .int .i64 (-10), .int .i64 25] 3))
            have HK3 := Lib.hid (heap_keep ((Below.refl _ W).alloc (Nat.le_refl _) (.cells #[.int .i64 0, .int .i64 0, .int .i64 10, .int .i64 (-10), .int .i64 25] 3)) HG3.out)
            refine hK.out _ _ True.intro (fun hHeldN => ?_)
            clear hK K
            try simp only [Act.put, pB, pC, pD]
            refine listedEq (l' := #[true, true, true, true, false, false, true, true, true, true, false, false, false, false]) (by kernel_rfl) ?_
            have h := h_1_3_7_9 g3 W.heap.size (W.alloc (.cells #[.int .i64 0, .int .i64 0, .int .i64 10, .int .i64 (-10), .int .i64 25] 3)) HSn HMn HK3 hb3 HGn hlW
            rw [hG] at h
            simp only [Act.put, pB, pC, pD] at h
            exact h
          exact AllReadyH.nil
        have h_1_3_9 : ∀ (g3 : Nat) (g9 : Nat) (W : World), Hid (Strm W B ((k + 2 + 2 * t) + 0)) → Hid (Mut (· = B) W6 W) → Hid (W.heap[g3]? = some (.cells #[.int .i64 0, .int .i64 10, .int .i64 (-10), .int .i64 30, .int .i64 5] 3 (0, 0))) → B < g3 → Hid (W.heap[g9]? = some (.cells #[.int .i64 0, .int .i64 0, .int .i64 10, .int .i64 (-10), .int .i64 25] 3 (0, 0))) → B < g9 → G 7 #[true, true, true, true, false, false, true, false, true, true, false, false, false, false] (((A.put (some 20) (.int .i64 x)).put (some 22) (.slice (some ⟨g3, 0, none⟩) 5 5)).put (some 28) (.slice (some ⟨g9, 0, none⟩) 5 5)) W := by
          intro g3 g9 W HS HM HG3 hb3 HG9 hb9
          subst hA
          rw [hG]
          simp only [Act.put, pB, pC, pD]
          have hlW := HS.out.lt
          refine wpAnyH_ready (rs := [4, 7]) (by kernel_rfl) (by simp) ?_
          refine coH 4 (oi := ?_) ?_ ?_ (fun K hK => ?_) ?_; rotate_left; (simp only [gA, gB, gC]; exact rfl); rfl
          · go_wp2_with (fail)
            refine (pick_any B _ g3 5 5 (fun _ => True) W HS.out (by omega) (by omega) (by omega) (by omega) (lt_of_heap HG3.out) (by
              intro i hi
              match i, hi with
              | 0, _ => exact ⟨_, cell_of HG3.out (i := 0) rfl, trivial⟩
              | 1, _ => exact ⟨_, cell_of HG3.out (i := 1) rfl, trivial⟩
              | 2, _ => exact ⟨_, cell_of HG3.out (i := 2) rfl, trivial⟩
              | 3, _ => exact ⟨_, cell_of HG3.out (i := 3) rfl, trivial⟩
              | 4, _ => exact ⟨_, cell_of HG3.out (i := 4) rfl, trivial⟩
              | j + 5, h => omega)).mono ?_
            rintro e Wn ⟨⟨z4, rfl, _⟩, hst, hmt⟩
            have HSn := Lib.hid hst
            have HMn := Lib.hid (HM.out.trans (hmt.mono fun _ _ h => h))
            have HK9 := Lib.hid ((hmt.block g9 (lt_of_heap HG9.out) (by show ¬ g9 = B; omega)).trans HG9.out)
            clear hst hmt
            refine hK.out _ _ True.intro (fun hHeldN => ?_)
            clear hK K
            try simp only [Act.put, pB, pC, pD]
            refine tkH True.intro 5 (oi := ?_) (v := ?_) ?_ ?_ ?_ ?_ ?_ ?_ ?_ ?_; rotate_left 2; (simp only [gA, gB, gC]; exact rfl); kernel_rfl; kernel_rfl; kernel_rfl; exact fun _ _ _ h => h; rfl; (intro w' hSw; go_simp; with_reducible rfl); simp only [Act.put, pB, pC, pD]
            refine listedEq (l' := #[true, true, true, true, true, true, true, false, true, true, false, false, false, false]) (by kernel_rfl) ?_
            have h := h_1_3_4_9 g3 z4 g9 Wn HSn HMn HK9 hb9
            rw [hG] at h
            simp only [Act.put, pB, pC, pD] at h
            exact h
          refine coH 7 (oi := ?_) ?_ ?_ (fun K hK => ?_) ?_; rotate_left; (simp only [gA, gB, gC]; exact rfl); rfl
          · have l0 := (HM.out.cell (p := ⟨q4, 1, none⟩) lq4 nq4).trans x1
            go_wp2_with (fail)
            have HSn := HS
            have HMn := HM
            refine hK.out _ _ True.intro (fun hHeldN => ?_)
            clear hK K
            try simp only [Act.put, pB, pC, pD]
            refine listedEq (l' := #[true, true, true, true, false, false, true, true, true, true, false, false, false, false]) (by kernel_rfl) ?_
            have h := h_1_3_7_9 g3 g9 W HSn HMn HG3 hb3 HG9 hb9
            rw [hG] at h
            simp only [Act.put, pB, pC, pD] at h
            exact h
          exact AllReadyH.nil
        have h_1_7_9 : ∀ (g9 : Nat) (W : World), Hid (Strm W B ((k + 2 + 2 * t) + 0)) → Hid (Mut (· = B) W6 W) → Hid (W.heap[g9]? = some (.cells #[.int .i64 0, .int .i64 0, .int .i64 10, .int .i64 (-10), .int .i64 25] 3 (0, 0))) → B < g9 → G 7 #[true, true, true, false, false, false, true, true, true, true, false, false, false, false] (((A.put (some 20) (.int .i64 x)).put (some 26) (.int .i64 y)).put (some 28) (.slice (some ⟨g9, 0, none⟩) 5 5)) W := by
          intro g9 W HS HM HG9 hb9
          subst hA
          rw [hG]
          simp only [Act.put, pB, pC, pD]
          have hlW := HS.out.lt
          refine wpAnyH_ready (rs := [3]) (by kernel_rfl) (by simp) ?_
          refine coH 3 (oi := ?_) ?_ ?_ (fun K hK => ?_) ?_; rotate_left; (simp only [gA, gB, gC]; exact rfl); rfl
          · go_wp2_with (fail)
            have HSn := Lib.hid (HS.out.alloc (.cells #[.int .i64 0, .int .i64 10, .int .i64 (-10), .int .i64 30, .int .i64 5] 3))
            have HMn := Lib.hid (HM.out.alloc (.cells #[.int .i64 0, .int .i64 10, .int .i64 (-10), .int .i64 30, .int .i64 5] 3))
            have HGn := Lib.hid (heap_alloc_new W (.cells #[.int .i64 0, .int .i64 10, .int .i64 (-10), .int .i64 30, .int .i64 5] 3))
            have HK9 := Lib.hid (heap_keep ((Below.refl _ W).alloc (Nat.le_refl _) (.cells #[.int .i64 0, .int .i64 10, .int .i64 (-10), .int .i64 30, .int .i64 5] 3)) HG9.out)
            refine hK.out _ _ True.intro (fun hHeldN => ?_)
            clear hK K
            try simp only [Act.put, pB, pC, pD]
            refine listedEq (l' := #[true, true, true, true, false, false, true, true, true, true, false, false, false, false]) (by kernel_rfl) ?_
            have h := h_1_3_7_9 W.heap.size g9 (W.alloc (.cells #[.int .i64 0, .int .i64 10, .int .i64 (-10), .int .i64 30, .int .i64 5] 3)) HSn HMn HGn hlW HK9 hb9
            rw [hG] at h
            simp only [Act.put, pB, pC, pD] at h
            exact h
          exact AllReadyH.nil
        have h_3_4_7 : ∀ (g3 : Nat) (z4 : Int) (W : World), Hid (Strm W B ((k + 2 + 2 * t) + 1)) → Hid (Mut (· = B) W6 W) → G 7 #[true, false, true, true, true, false, true, true, true, false, false, false, false, false] (((A.put (some 22) (.slice (some ⟨g3, 0, none⟩) 5 5)).put (some 23) (.int .i64 z4)).put (some 26) (.int .i64 y)) W := by
          intro g3 z4 W HS HM
          subst hA
          rw [hG]
          simp only [Act.put, pB, pC, pD]
          have hlW := HS.out.lt
          refine wpAnyH_ready (rs := [1, 9]) (by kernel_rfl) (by simp) ?_
          refine coH 1 (oi := ?_) ?_ ?_ (fun K hK => ?_) ?_; rotate_left; (simp only [gA, gB, gC]; exact rfl); rfl
          · have l0 := (HM.out.cell (p := ⟨q4, 0, none⟩) lq4 nq4).trans x0
            go_wp2_with (fail)
            have HSn := HS
            have HMn := HM
            refine hK.out _ _ True.intro (fun hHeldN => ?_)
            clear hK K
            try simp only [Act.put, pB, pC, pD]
            refine tkH True.intro 5 (oi := ?_) (v := ?_) ?_ ?_ ?_ ?_ ?_ ?_ ?_ ?_; rotate_left 2; (simp only [gA, gB, gC]; exact rfl); kernel_rfl; kernel_rfl; kernel_rfl; exact fun _ _ _ h => h; rfl; (intro w' hSw; go_simp; with_reducible rfl); simp only [Act.put, pB, pC, pD]
            refine listedEq (l' := #[true, true, true, true, true, true, true, true, true, false, false, false, false, false]) (by kernel_rfl) ?_
            have h := h_1_3_4_7 g3 z4 W HSn HMn
            rw [hG] at h
            simp only [Act.put, pB, pC, pD] at h
            exact h
          refine coH 9 (oi := ?_) ?_ ?_ (fun K hK => ?_) ?_; rotate_left; (simp only [gA, gB, gC]; exact rfl); rfl
          · go_wp2_with (fail)
            have HSn := Lib.hid (HS.out.alloc (.cells #[.int .i64 0, .int .i64 0, .int .i64 10, .int .i64 (-10), .int .i64 25] 3))
            have HMn := Lib.hid (HM.out.alloc (.cells #[.int .i64 0, .int .i64 0, .int .i64 10, .int .i64 (-10), .int .i64 25] 3))
            have HGn := Lib.hid (heap_alloc_new W (.cells #[.int .i64 0, .int .i64 0, .int .i64 10, .int .i64 (-10), .int .i64 25] 3))
            refine hK.out _ _ True.intro (fun hHeldN => ?_)
            clear hK K
            try simp only [Act.put, pB, pC, pD]
            refine listedEq (l' := #[true, false, true, true, true, false, true, true, true, true, false, false, false, false]) (by kernel_rfl) ?_
            have h := h_3_4_7_9 g3 z4 W.heap.size (W.alloc (.cells #[.int .i64 0, .int .i64 0, .int .i64 10, .int .i64 (-10), .int .i64 25] 3)) HSn HMn HGn hlW
            rw [hG] at h
            simp only [Act.put, pB, pC, pD] at h
            exact h
          exact AllReadyH.nil
        have h_3_4_9 : ∀ (g3 : Nat) (z4 : Int) (g9 : Nat) (W : World), Hid (Strm W B ((k + 2 + 2 * t) + 1)) → Hid (Mut (· = B) W6 W) → Hid (W.heap[g9]? = some (.cells #[.int .i64 0, .int .i64 0, .int .i64 10, .int .i64 (-10), .int .i64 25] 3 (0, 0))) → B < g9 → G 7 #[true, false, true, true, true, false, true, false, true, true, false, false, false, false] (((A.put (some 22) (.slice (some ⟨g3, 0, none⟩) 5 5)).put (some 23) (.int .i64 z4)).put (some 28) (.slice (some ⟨g9, 0, none⟩) 5 5)) W := by
          intro g3 z4 g9 W HS HM HG9 hb9
          subst hA
          rw [hG]
          simp only [Act.put, pB, pC, pD]
          have hlW := HS.out.lt
          refine wpAnyH_ready (rs := [1, 7, 10]) (by kernel_rfl) (by simp) ?_
          refine coH 1 (oi := ?_) ?_ ?_ (fun K hK => ?_) ?_; rotate_left; (simp only [gA, gB, gC]; exact rfl); rfl
          · have l0 := (HM.out.cell (p := ⟨q4, 0, none⟩) lq4 nq4).trans x0
            go_wp2_with (fail)
            have HSn := HS
            have HMn := HM
            refine hK.out _ _ True.intro (fun hHeldN => ?_)
            clear hK K
            try simp only [Act.put, pB, pC, pD]
            refine tkH True.intro 5 (oi := ?_) (v := ?_) ?_ ?_ ?_ ?_ ?_ ?_ ?_ ?_; rotate_left 2; (simp only [gA, gB, gC]; exact rfl); kernel_rfl; kernel_rfl; kernel_rfl; exact fun _ _ _ h => h; rfl; (intro w' hSw; go_simp; with_reducible rfl); simp only [Act.put, pB, pC, pD]
            refine listedEq (l' := #[true, true, true, true, true, true, true, false, true, true, false, false, false, false]) (by kernel_rfl) ?_
            have h := h_1_3_4_9 g3 z4 g9 W HSn HMn HG9 hb9
            rw [hG] at h
            simp only [Act.put, pB, pC, pD] at h
            exact h
          refine coH 7 (oi := ?_) ?_ ?_ (fun K hK => ?_) ?_; rotate_left; (simp only [gA, gB, gC]; exact rfl); rfl
          · have l0 := (HM.out.cell (p := ⟨q4, 1, none⟩) lq4 nq4).trans x1
            go_wp2_with (fail)
            have HSn := HS
            have HMn := HM
            refine hK.out _ _ True.intro (fun hHeldN => ?_)
            clear hK K
            try simp only [Act.put, pB, pC, pD]
            refine listedEq (l' := #[true, false, true, true, true, false, true, true, true, true, false, false, false, false]) (by kernel_rfl) ?_
            have h := h_3_4_7_9 g3 z4 g9 W HSn HMn HG9 hb9
            rw [hG] at h
            simp only [Act.put, pB, pC, pD] at h
            exact h
          refine coH 10 (oi := ?_) ?_ ?_ (fun K hK => ?_) ?_; rotate_left; (simp only [gA, gB, gC]; exact rfl); rfl
          · go_wp2_with (fail)
            refine (pick_any B _ g9 5 5 (fun _ => True) W HS.out (by omega) (by omega) (by omega) (by omega) (lt_of_heap HG9.out) (by
              intro i hi
              match i, hi with
              | 0, _ => exact ⟨_, cell_of HG9.out (i := 0) rfl, trivial⟩
              | 1, _ => exact ⟨_, cell_of HG9.out (i := 1) rfl, trivial⟩
              | 2, _ => exact ⟨_, cell_of HG9.out (i := 2) rfl, trivial⟩
              | 3, _ => exact ⟨_, cell_of HG9.out (i := 3) rfl, trivial⟩
              | 4, _ => exact ⟨_, cell_of HG9.out (i := 4) rfl, trivial⟩
              | j + 5, h => omega)).mono ?_
            rintro e Wn ⟨⟨z10, rfl, _⟩, hst, hmt⟩
            have HSn := Lib.hid hst
            have HMn := Lib.hid (HM.out.trans (hmt.mono fun _ _ h => h))
            clear hst hmt
            refine hK.out _ _ True.intro (fun hHeldN => ?_)
            clear hK K
            try simp only [Act.put, pB, pC, pD]
            refine listedEq (l' := #[true, false, true, true, true, false, true, false, true, true, true, false, false, false]) (by kernel_rfl) ?_
            have h := h_3_4_9_10 g3 z4 g9 z10 Wn HSn HMn
            rw [hG] at h
            simp only [Act.put, pB, pC, pD] at h
            exact h
          exact AllReadyH.nil
        have h_3_7_9 : ∀ (g3 : Nat) (g9 : Nat) (W : World), Hid (Strm W B ((k + 2 + 2 * t) + 0)) → Hid (Mut (· = B) W6 W) → Hid (W.heap[g3]? = some (.cells #[.int .i64 0, .int .i64 10, .int .i64 (-10), .int .i64 30, .int .i64 5] 3 (0, 0))) → B < g3 → Hid (W.heap[g9]? = some (.cells #[.int .i64 0, .int .i64 0, .int .i64 10, .int .i64 (-10), .int .i64 25] 3 (0, 0))) → B < g9 → G 7 #[true, false, true, true, false, false, true, true, true, true, false, false, false, false] (((A.put (some 22) (.slice (some ⟨g3, 0, none⟩) 5 5)).put (some 26) (.int .i64 y)).put (some 28) (.slice (some ⟨g9, 0, none⟩) 5 5)) W := by
          intro g3 g9 W HS HM HG3 hb3 HG9 hb9
          subst hA
          rw [hG]
          simp only [Act.put, pB, pC, pD]
          have hlW := HS.out.lt
          refine wpAnyH_ready (rs := [1, 4]) (by kernel_rfl) (by simp) ?_
          refine coH 1 (oi := ?_) ?_ ?_ (fun K hK => ?_) ?_; rotate_left; (simp only [gA, gB, gC]; exact rfl); rfl
          · have l0 := (HM.out.cell (p := ⟨q4, 0, none⟩) lq4 nq4).trans x0
            go_wp2_with (fail)
            have HSn := HS
            have HMn := HM
            refine hK.out _ _ True.intro (fun hHeldN => ?_)
            clear hK K
            try simp only [Act.put, pB, pC, pD]
            refine listedEq (l' := #[true, true, true, true, false, false, true, true, true, true, false, false, false, false]) (by kernel_rfl) ?_
            have h := h_1_3_7_9 g3 g9 W HSn HMn HG3 hb3 HG9 hb9
            rw [hG] at h
            simp only [Act.put, pB, pC, pD] at h
            exact h
          refine coH 4 (oi := ?_) ?_ ?_ (fun K hK => ?_) ?_; rotate_left; (simp only [gA, gB, gC]; exact rfl); rfl
          · go_wp2_with (fail)
            refine (pick_any B _ g3 5 5 (fun _ => True) W HS.out (by omega) (by omega) (by omega) (by omega) (lt_of_heap HG3.out) (by
              intro i hi
              match i, hi with
              | 0, _ => exact ⟨_, cell_of HG3.out (i := 0) rfl, trivial⟩
              | 1, _ => exact ⟨_, cell_of HG3.out (i := 1) rfl, trivial⟩
              | 2, _ => exact ⟨_, cell_of HG3.out (i := 2) rfl, trivial⟩
              | 3, _ => exact ⟨_, cell_of HG3.out (i := 3) rfl, trivial⟩
              | 4, _ => exact ⟨_, cell_of HG3.out (i := 4) rfl, trivial⟩
              | j + 5, h => omega)).mono ?_
            rintro e Wn ⟨⟨z4, rfl, _⟩, hst, hmt⟩
            have HSn := Lib.hid hst
            have HMn := Lib.hid (HM.out.trans (hmt.mono fun _ _ h => h))
            have HK9 := Lib.hid ((hmt.block g9 (lt_of_heap HG9.out) (by show ¬ g9 = B; omega)).trans HG9.out)
            clear hst hmt
            refine hK.out _ _ True.intro (fun hHeldN => ?_)
            clear hK K
            try simp only [Act.put, pB, pC, pD]
            refine listedEq (l' := #[true, false, true, true, true, false, true, true, true, true, false, false, false, false]) (by kernel_rfl) ?_
            have h := h_3_4_7_9 g3 z4 g9 Wn HSn HMn HK9 hb9
            rw [hG] at h
            simp only [Act.put, pB, pC, pD] at h
            exact h
          exact AllReadyH.nil
        have h_1_3 : ∀ (g3 : Nat) (W : World), Hid (Strm W B ((k + 2 + 2 * t) + 0)) → Hid (Mut (· = B) W6 W) → Hid (W.heap[g3]? = some (.cells #[.int .i64 0, .int .i64 10, .int .i64 (-10), .int .i64 30, .int .i64 5] 3 (0, 0))) → B < g3 → G 8 #[true, true, true, true, false, false, true, false, true, false, false, false, false, false] ((A.put (some 20) (.int .i64 x)).put (some 22) (.slice (some ⟨g3, 0, none⟩) 5 5)) W := by
          intro g3 W HS HM HG3 hb3
          subst hA
          rw [hG]
          simp only [Act.put, pB, pC, pD]
          have hlW := HS.out.lt
          refine wpAnyH_ready (rs := [4, 7, 9]) (by kernel_rfl) (by simp) ?_
          refine coH 4 (oi := ?_) ?_ ?_ (fun K hK => ?_) ?_; rotate_left; (simp only [gA, gB, gC]; exact rfl); rfl
          · go_wp2_with (fail)
            refine (pick_any B _ g3 5 5 (fun _ => True) W HS.out (by omega) (by omega) (by omega) (by omega) (lt_of_heap HG3.out) (by
              intro i hi
              match i, hi with
              | 0, _ => exact ⟨_, cell_of HG3.out (i := 0) rfl, trivial⟩
              | 1, _ => exact ⟨_, cell_of HG3.out (i := 1) rfl, trivial⟩
              | 2, _ => exact ⟨_, cell_of HG3.out (i := 2) rfl, trivial⟩
              | 3, _ => exact ⟨_, cell_of HG3.out (i := 3) rfl, trivial⟩
              | 4, _ => exact ⟨_, cell_of HG3.out (i := 4) rfl, trivial⟩
              | j + 5, h => omega)).mono ?_
            rintro e Wn ⟨⟨z4, rfl, _⟩, hst, hmt⟩
            have HSn := Lib.hid hst
            have HMn := Lib.hid (HM.out.trans (hmt.mono fun _ _ h => h))
            clear hst hmt
            refine hK.out _ _ True.intro (fun hHeldN => ?_)
            clear hK K
            try simp only [Act.put, pB, pC, pD]
            refine tkH True.intro 5 (oi := ?_) (v := ?_) ?_ ?_ ?_ ?_ ?_ ?_ ?_ ?_; rotate_left 2; (simp only [gA, gB, gC]; exact rfl); kernel_rfl; kernel_rfl; kernel_rfl; exact fun _ _ _ h => h; rfl; (intro w' hSw; go_simp; with_reducible rfl); simp only [Act.put, pB, pC, pD]
            refine listedEq (l' := #[true, true, true, true, true, true, true, false, true, false, false, false, false, false]) (by kernel_rfl) ?_
            have h := h_1_3_4 g3 z4 Wn HSn HMn
            rw [hG] at h
            simp only [Act.put, pB, pC, pD] at h
            exact h
          refine coH 7 (oi := ?_) ?_ ?_ (fun K hK => ?_) ?_; rotate_left; (simp only [gA, gB, gC]; exact rfl); rfl
          · have l0 := (HM.out.cell (p := ⟨q4, 1, none⟩) lq4 nq4).trans x1
            go_wp2_with (fail)
            have HSn := HS
            have HMn := HM
            refine hK.out _ _ True.intro (fun hHeldN => ?_)
            clear hK K
            try simp only [Act.put, pB, pC, pD]
            refine listedEq (l' := #[true, true, true, true, false, false, true, true, true, false, false, false, false, false]) (by kernel_rfl) ?_
            have h := h_1_3_7 g3 W HSn HMn HG3 hb3
            rw [hG] at h
            simp only [Act.put, pB, pC, pD] at h
            exact h
          refine coH 9 (oi := ?_) ?_ ?_ (fun K hK => ?_) ?_; rotate_left; (simp only [gA, gB, gC]; exact rfl); rfl
          · go_wp2_with (fail)
            have HSn := Lib.hid (HS.out.alloc (.cells #[.int .i64 0, .int .i64 0, .int .i64 10, .int .i64 (-10), .int .i64 25] 3))
            have HMn := Lib.hid (HM.out.alloc (.cells #[.int .i64 0, .int .i64 0, .int .i64 10, .int .i64 (-10), .int .i64 25] 3))
            have HGn := Lib.hid (heap_alloc_new W (.cells #[.int .i64 0, .int .i64 0, .int .i64 10, .int .i64 (-10), .int .i64 25] 3))
            have HK3 := Lib.hid (heap_keep ((Below.refl _ W).alloc (Nat.le_refl _) (.cells #[.int .i64 0, .int .i64 0, .int .i64 10, .int .i64 (-10), .int .i64 25] 3)) HG3.out)
            refine hK.out _ _ True.intro (fun hHeldN => ?_)
            clear hK K
            try simp only [Act.put, pB, pC, pD]
            refine listedEq (l' := #[true, true, true, true, false, false, true, false, true, true, false, false, false, false]) (by kernel_rfl) ?_
            have h := h_1_3_9 g3 W.heap.size (W.alloc (.cells #[.int .i64 0, .int .i64 0, .int .i64 10, .int .i64 (-10), .int .i64 25] 3)) HSn HMn HK3 hb3 HGn hlW
            rw [hG] at h
            simp only [Act.put, pB, pC, pD] at h
            exact h
          exact AllReadyH.nil
        have h_1_7 : ∀  (W : World), Hid (Strm W B ((k + 2 + 2 * t) + 0)) → Hid (Mut (· = B) W6 W) → G 8 #[true, true, true, false, false, false, true, true, true, false, false, false, false, false] ((A.put (some 20) (.int .i64 x)).put (some 26) (.int .i64 y)) W := by
          intro W HS HM
          subst hA
          rw [hG]
          simp only [Act.put, pB, pC, pD]
          have hlW := HS.out.lt
          refine wpAnyH_ready (rs := [3, 9]) (by kernel_rfl) (by simp) ?_
          refine coH 3 (oi := ?_) ?_ ?_ (fun K hK => ?_) ?_; rotate_left; (simp only [gA, gB, gC]; exact rfl); rfl
          · go_wp2_with (fail)
            have HSn := Lib.hid (HS.out.alloc (.cells #[.int .i64 0, .int .i64 10, .int .i64 (-10), .int .i64 30, .int .i64 5] 3))
            have HMn := Lib.hid (HM.out.alloc (.cells #[.int .i64 0, .int .i64 10, .int .i64 (-10), .int .i64 30, .int .i64 5] 3))
            have HGn := Lib.hid (heap_alloc_new W (.cells #[.int .i64 0, .int .i64 10, .int .i64 (-10), .int .i64 30, .int .i64 5] 3))
            refine hK.out _ _ True.intro (fun hHeldN => ?_)
            clear hK K
            try simp only [Act.put, pB, pC, pD]
            refine listedEq (l' := #[true, true, true, true, false, false, true, true, true, false, false, false, false, false]) (by kernel_rfl) ?_
            have h := h_1_3_7 W.heap.size (W.alloc (.cells #[.int .i64 0, .int .i64 10, .int .i64 (-10), .int .i64 30, .int .i64 5] 3)) HSn HMn HGn hlW
            rw [hG] at h
            simp only [Act.put, pB, pC, pD] at h
            exact h
          refine coH 9 (oi := ?_) ?_ ?_ (fun K hK => ?_) ?_; rotate_left; (simp only [gA, gB, gC]; exact rfl); rfl
          · go_wp2_with (fail)
            have HSn := Lib.hid (HS.out.alloc (.cells #[.int .i64 0, .int .i64 0, .int .i64 10, .int .i64 (-10), .int .i64 25] 3))
            have HMn := Lib.hid (HM.out.alloc (.cells #[.int .i64 0, .int .i64 0, .int .i64 10, .int .i64 (-10), .int .i64 25] 3))
            have HGn := Lib.hid (heap_alloc_new W (.cells #[.int .i64 0, .int .i64 0, .int .i64 10, .int .i64 (-10), .int .i64 25] 3))
            refine hK.out _ _ True.intro (fun hHeldN => ?_)
            clear hK K
            try simp only [Act.put, pB, pC, pD]
            refine listedEq (l' := #[true, true, true, false, false, false, true, true, true, true, false, false, false, false]) (by kernel_rfl) ?_
            have h := h_1_7_9 W.heap.size (W.alloc (.cells #[.int .i64 0, .int .i64 0, .int .i64 10, .int .i64 (-10), .int .i64 25] 3)) HSn HMn HGn hlW
            rw [hG] at h
            simp only [Act.put, pB, pC, pD] at h
            exact h
          exact AllReadyH.nil
        have h_1_9 : ∀ (g9 : Nat) (W : World), Hid (Strm W B ((k + 2 + 2 * t) + 0)) → Hid (Mut (· = B) W6 W) → Hid (W.heap[g9]? = some (.cells #[.int .i64 0, .int .i64 0, .int .i64 10, .int .i64 (-10), .int .i64 25] 3 (0, 0))) → B < g9 → G 8 #[true, true, true, false, false, false, true, false, true, true, false, false, false, false] ((A.put (some 20) (.int .i64 x)).put (some 28) (.slice (some ⟨g9, 0, none⟩) 5 5)) W := by
          intro g9 W HS HM HG9 hb9
          subst hA
          rw [hG]
          simp only [Act.put, pB, pC, pD]
          have hlW := HS.out.lt
          refine wpAnyH_ready (rs := [3, 7]) (by kernel_rfl) (by simp) ?_
          refine coH 3 (oi := ?_) ?_ ?_ (fun K hK => ?_) ?_; rotate_left; (simp only [gA, gB, gC]; exact rfl); rfl
          · go_wp2_with (fail)
            have HSn := Lib.hid (HS.out.alloc (.cells #[.int .i64 0, .int .i64 10, .int .i64 (-10), .int .i64 30, .int .i64 5] 3))
            have HMn := Lib.hid (HM.out.alloc (.cells #[.int .i64 0, .int .i64 10, .int .i64 (-10), .int .i64 30, .int .i64 5] 3))
            have HGn := Lib.hid (heap_alloc_new W (.cells #[.int .i64 0, .int .i64 10, .int .i64 (-10), .int .i64 30, .int .i64 5] 3))
            have HK9 := Lib.hid (heap_keep ((Below.refl _ W).alloc (Nat.le_refl _) (.cells #[.int .i64 0, .int .i64 10, .int .i64 (-10), .int .i64 30, .int .i64 5] 3)) HG9.out)
            refine hK.out _ _ True.intro (fun hHeldN => ?_)
            clear hK K
            try simp only [Act.put, pB, pC, pD]
            refine listedEq (l' := #[true, true, true, true, false, false, true, false, true, true, false, false, false, false]) (by kernel_rfl) ?_
            have h := h_1_3_9 W.heap.size g9 (W.alloc (.cells #[.int .i64 0, .int .i64 10, .int .i64 (-10), .int .i64 30, .int .i64 5] 3)) HSn HMn HGn hlW HK9 hb9
            rw [hG] at h
            simp only [Act.put, pB, pC, pD] at h
            exact h
          refine coH 7 (oi := ?_) ?_ ?_ (fun K hK => ?_) ?_; rotate_left; (simp only [gA, gB, gC]; exact rfl); rfl
          · have l0 := (HM.out.cell (p := ⟨q4, 1, none⟩) lq4 nq4).trans x1
            go_wp2_with (fail)
            have HSn := HS
            have HMn := HM
            refine hK.out _ _ True.intro (fun hHeldN => ?_)
            clear hK K
            try simp only [Act.put, pB, pC, pD]
            refine listedEq (l' := #[true, true, true, false, false, false, true, true, true, true, false, false, false, false]) (by kernel_rfl) ?_
            have h := h_1_7_9 g9 W HSn HMn HG9 hb9
            rw [hG] at h
            simp only [Act.put, pB, pC, pD] at h
            exact h
          exact AllReadyH.nil
        have h_3_4 : ∀ (g3 : Nat) (z4 : Int) (W : World), Hid (Strm W B ((k + 2 + 2 * t) + 1)) → Hid (Mut (· = B) W6 W) → G 8 #[true, false, true, true, true, false, true, false, true, false, false, false, false, false] ((A.put (some 22) (.slice (some ⟨g3, 0, none⟩) 5 5)).put (some 23) (.int .i64 z4)) W := by
          intro g3 z4 W HS HM
          subst hA
          rw [hG]
          simp only [Act.put, pB, pC, pD]
          have hlW := HS.out.lt
          refine wpAnyH_ready (rs := [1, 7, 9]) (by kernel_rfl) (by simp) ?_
          refine coH 1 (oi := ?_) ?_ ?_ (fun K hK => ?_) ?_; rotate_left; (simp only [gA, gB, gC]; exact rfl); rfl
          · have l0 := (HM.out.cell (p := ⟨q4, 0, none⟩) lq4 nq4).trans x0
            go_wp2_with (fail)
            have HSn := HS
            have HMn := HM
            refine hK.out _ _ True.intro (fun hHeldN => ?_)
            clear hK K
            try simp only [Act.put, pB, pC, pD]
            refine tkH True.intro 5 (oi := ?_) (v := ?_) ?_ ?_ ?_ ?_ ?_ ?_ ?_ ?_; rotate_left 2; (simp only [gA, gB, gC]; exact rfl); kernel_rfl; kernel_rfl; kernel_rfl; exact fun _ _ _ h => h; rfl; (intro w' hSw; go_simp; with_reducible rfl); simp only [Act.put, pB, pC, pD]
            refine listedEq (l' := #[true, true, true, true, true, true, true, false, true, false, false, false, false, false]) (by kernel_rfl) ?_
            have h := h_1_3_4 g3 z4 W HSn HMn
            rw [hG] at h
            simp only [Act.put, pB, pC, pD] at h
            exact h
          refine coH 7 (oi := ?_) ?_ ?_ (fun K hK => ?_) ?_; rotate_left; (simp only [gA, gB, gC]; exact rfl); rfl
          · have l0 := (HM.out.cell (p := ⟨q4, 1, none⟩) lq4 nq4).trans x1
            go_wp2_with (fail)
            have HSn := HS
            have HMn := HM
            refine hK.out _ _ True.intro (fun hHeldN => ?_)
            clear hK K
            try simp only [Act.put, pB, pC, pD]
            refine listedEq (l' := #[true, false, true, true, true, false, true, true, true, false, false, false, false, false]) (by kernel_rfl) ?_
            have h := h_3_4_7 g3 z4 W HSn HMn
            rw [hG] at h
            simp only [Act.put, pB, pC, pD] at h
            exact h
          refine coH 9 (oi := ?_) ?_ ?_ (fun K hK => ?_) ?_; rotate_left; (simp only [gA, gB, gC]; exact rfl); rfl
          · go_wp2_with (fail)
            have HSn := Lib.hid (HS.out.alloc (.cells #[.int .i64 0, .int .i64 0, .int .i64 10, .int .i64 (-10), .int .i64 25] 3))
            have HMn := Lib.hid (HM.out.alloc (.cells #[.int .i64 0, .int .i64 0, .int .i64 10, .int .i64 (-10), .int .i64 25] 3))
            have HGn := Lib.hid (heap_alloc_new W (.cells #[.int .i64 0, .int .i64 0, .int .i64 10, .int .i64 (-10), .int .i64 25] 3))
            refine hK.out _ _ True.intro (fun hHeldN => ?_)
            clear hK K
            try simp only [Act.put, pB, pC, pD]
            refine listedEq (l' := #[true, false, true, true, true, false, true, false, true, true, false, false, false, false]) (by kernel_rfl) ?_
            have h := h_3_4_9 g3 z4 W.heap.size (W.alloc (.cells #[.int .i64 0, .int .i64 0, .int .i64 10, .int .i64 (-10), .int .i64 25] 3)) HSn HMn HGn hlW
            rw [hG] at h
            simp only [Act.put, pB, pC, pD] at h
            exact h
          exact AllReadyH.nil
        have h_3_7 : ∀ (g3 : Nat) (W : World), Hid (Strm W B ((k + 2 + 2 * t) + 0)) → Hid (Mut (· = B) W6 W) → Hid (W.heap[g3]? = some (.cells #[.int .i64 0, .int .i64 10, .int .i64 (-10), .int .i64 30, .int .i64 5] 3 (0, 0))) → B < g3 → G 8 #[true, false, true, true, false, false, true, true, true, false, false, false, false, false] ((A.put (some 22) (.slice (some ⟨g3, 0, none⟩) 5 5)).put (some 26) (.int .i64 y)) W := by
          intro g3 W HS HM HG3 hb3
          subst hA
          rw [hG]
          simp only [Act.put, pB, pC, pD]
          have hlW := HS.out.lt
          refine wpAnyH_ready (rs := [1, 4, 9]) (by kernel_rfl) (by simp) ?_
          refine coH 1 (oi := ?_) ?_ ?_ (fun K hK => ?_) ?_; rotate_left; (simp only [gA, gB, gC]; exact rfl); rfl
          · have l0 := (HM.out.cell (p := ⟨q4, 0, none⟩) lq4 nq4).trans x0
            go_wp2_with (fail)
            have HSn := HS
            have HMn := HM
            refine hK.out _ _ True.intro (fun hHeldN => ?_)
            clear hK K
            try simp only [Act.put, pB, pC, pD]
            refine listedEq (l' := #[true, true, true, true, false, false, true, true, true, false, false, false, false, false]) (by kernel_rfl) ?_
            have h := h_1_3_7 g3 W HSn HMn HG3 hb3
            rw [hG] at h
            simp only [Act.put, pB, pC, pD] at h
            exact h
          refine coH 4 (oi := ?_) ?_ ?_ (fun K hK => ?_) ?_; rotate_left; (simp only [gA, gB, gC]; exact rfl); rfl
          · go_wp2_with (fail)
            refine (pick_any B _ g3 5 5 (fun _ => True) W HS.out (by omega) (by omega) (by omega) (by omega) (lt_of_heap HG3.out) (by
              intro i hi
              match i, hi with
              | 0, _ => exact ⟨_, cell_of HG3.out (i := 0) rfl, trivial⟩
              | 1, _ => exact ⟨_, cell_of HG3.out (i := 1) rfl, trivial⟩
              | 2, _ => exact ⟨_, cell_of HG3.out (i := 2) rfl, trivial⟩
              | 3, _ => exact ⟨_, cell_of HG3.out (i := 3) rfl, trivial⟩
              | 4, _ => exact ⟨_, cell_of HG3.out (i := 4) rfl, trivial⟩
              | j + 5, h => omega)).mono ?_
            rintro e Wn ⟨⟨z4, rfl, _⟩, hst, hmt⟩
            have HSn := Lib.hid hst
            have HMn := Lib.hid (HM.out.trans (hmt.mono fun _ _ h => h))
            clear hst hmt
            refine hK.out _ _ True.intro (fun hHeldN => ?_)
            clear hK K
            try simp only [Act.put, pB, pC, pD]
            refine listedEq (l' := #[true, false, true, true, true, false, true, true, true, false, false, false, false, false]) (by kernel_rfl) ?_
            have h := h_3_4_7 g3 z4 Wn HSn HMn
            rw [hG] at h
            simp only [Act.put, pB, pC, pD] at h
            exact h
          refine coH 9 (oi := ?_) ?_ ?_ (fun K hK => ?_) ?_; rotate_left; (simp only [gA, gB, gC]; exact rfl); rfl
          · go_wp2_with (fail)
            have HSn := Lib.hid (HS.out.alloc (.cells #[.int .i64 0, .int .i64 0, .int .i64 10, .int .i64 (-10), .int .i64 25] 3))
            have HMn := Lib.hid (HM.out.alloc (.cells #[.int .i64 0, .int .i64 0, .int .i64 10, .int .i64 (-10), .int .i64 25] 3))
            have HGn := Lib.hid (heap_alloc_new W (.cells #[.int .i64 0, .int .i64 0, .int .i64 10, .int .i64 (-10), .int .i64 25] 3))
            have HK3 := Lib.hid (heap_keep ((Below.refl _ W).alloc (Nat.le_refl _) (.cells #[.int .i64 0, .int .i64 0, .int .i64 10, .int .i64 (-10), .int .i64 25] 3)) HG3.out)
            refine hK.out _ _ True.intro (fun hHeldN => ?_)
            clear hK K
            try simp only [Act.put, pB, pC, pD]
            refine listedEq (l' := #[true, false, true, true, false, false, true, true, true, true, false, false, false, false]) (by kernel_rfl) ?_
            have h := h_3_7_9 g3 W.heap.size (W.alloc (.cells #[.int .i64 0, .int .i64 0, .int .i64 10, .int .i64 (-10), .int .i64 25] 3)) HSn HMn HK3 hb3 HGn hlW
            rw [hG] at h
            simp only [Act.put, pB, pC, pD] at h
            exact h
          exact AllReadyH.nil
        have h_3_9 : ∀ (g3 : Nat) (g9 : Nat) (W : World), Hid (Strm W B ((k + 2 + 2 * t) + 0)) → Hid (Mut (· = B) W6 W) → Hid (W.heap[g3]? = some (.cells #[.int .i64 0, .int .i64 10, .int .i64 (-10), .int .i64 30, .int .i64 5] 3 (0, 0))) → B < g3 → Hid (W.heap[g9]? = some (.cells #[.int .i64 0, .int .i64 0, .int .i64 10, .int .i64 (-10), .int .i64 25] 3 (0, 0))) → B < g9 → G 8 #[true, false, true, true, false, false, true, false, true, true, false, false, false, false] ((A.put (some 22) (.slice (some ⟨g3, 0, none⟩) 5 5)).put (some 28) (.slice (some ⟨g9, 0, none⟩) 5 5)) W := by
          intro g3 g9 W HS HM HG3 hb3 HG9 hb9
          subst hA
          rw [hG]
          simp only [Act.put, pB, pC, pD]
          have hlW := HS.out.lt
          refine wpAnyH_ready (rs := [1, 4, 7]) (by kernel_rfl) (by simp) ?_
          refine coH 1 (oi := ?_) ?_ ?_ (fun K hK => ?_) ?_; rotate_left; (simp only [gA, gB, gC]; exact rfl); rfl
          · have l0 := (HM.out.cell (p := ⟨q4, 0, none⟩) lq4 nq4).trans x0
            go_wp2_with (fail)
            have HSn := HS
            have HMn := HM
            refine hK.out _ _ True.intro (fun hHeldN => ?_)
            clear hK K
            try simp only [Act.put, pB, pC, pD]
            refine listedEq (l' := #[true, true, true, true, false, false, true, false, true, true, false, false, false, false]) (by kernel_rfl) ?_
            have h := h_1_3_9 g3 g9 W HSn HMn HG3 hb3 HG9 hb9
            rw [hG] at h
            simp only [Act.put, pB, pC, pD] at h
            exact h
          refine coH 4 (oi := ?_) ?_ ?_ (fun K hK => ?_) ?_; rotate_left; (simp only [gA, gB, gC]; exact rfl); rfl
          · go_wp2_with (fail)
            refine (pick_any B _ g3 5 5 (fun _ => True) W HS.out (by omega) (by omega) (by omega) (by omega) (lt_of_heap HG3.out) (by
              intro i hi
              match i, hi with
              | 0, _ => exact ⟨_, cell_of HG3.out (i := 0) rfl, trivial⟩
              | 1, _ => exact ⟨_, cell_of HG3.out (i := 1) rfl, trivial⟩
              | 2, _ => exact ⟨_, cell_of HG3.out (i := 2) rfl, trivial⟩
              | 3, _ => exact ⟨_, cell_of HG3.out (i := 3) rfl, trivial⟩
              | 4, _ => exact ⟨_, cell_of HG3.out (i := 4) rfl, trivial⟩
              | j + 5, h => omega)).mono ?_
            rintro e Wn ⟨⟨z4, rfl, _⟩, hst, hmt⟩
            have HSn := Lib.hid hst
            have HMn := Lib.hid (HM.out.trans (hmt.mono fun _ _ h => h))
            have HK9 := Lib.hid ((hmt.block g9 (lt_of_heap HG9.out) (by show ¬ g9 = B; omega)).trans HG9.out)
            clear hst hmt
            refine hK.out _ _ True.intro (fun hHeldN => ?_)
            clear hK K
            try simp only [Act.put, pB, pC, pD]
            refine listedEq (l' := #[true, false, true, true, true, false, true, false, true, true, false, false, false, false]) (by kernel_rfl) ?_
            have h := h_3_4_9 g3 z4 g9 Wn HSn HMn HK9 hb9
            rw [hG] at h
            simp only [Act.put, pB, pC, pD] at h
            exact h
          refine coH 7 (oi := ?_) ?_ ?_ (fun K hK => ?_) ?_; rotate_left; (simp only [gA, gB, gC]; exact rfl); rfl
          · have l0 := (HM.out.cell (p := ⟨q4, 1, none⟩) lq4 nq4).trans x1
            go_wp2_with (fail)
            have HSn := HS
            have HMn := HM
            refine hK.out _ _ True.intro (fun hHeldN => ?_)
            clear hK K
            try simp only [Act.put, pB, pC, pD]
            refine listedEq (l' := #[true, false, true, true, false, false, true, true, true, true, false, false, false, false]) (by kernel_rfl) ?_
            have h := h_3_7_9 g3 g9 W HSn HMn HG3 hb3 HG9 hb9
            rw [hG] at h
            simp only [Act.put, pB, pC, pD] at h
            exact h
          exact AllReadyH.nil
        have h_7_9 : ∀ (g9 : Nat) (W : World), Hid (Strm W B ((k + 2 + 2 * t) + 0)) → Hid (Mut (· = B) W6 W) → Hid (W.heap[g9]? = some (.cells #[.int .i64 0, .int .i64 0, .int .i64 10, .int .i64 (-10), .int .i64 25] 3 (0, 0))) → B < g9 → G 8 #[true, false, true, false, false, false, true, true, true, true, false, false, false, false] ((A.put (some 26) (.int .i64 y)).put (some 28) (.slice (some ⟨g9, 0, none⟩) 5 5)) W := by
          intro g9 W HS HM HG9 hb9
          subst hA
          rw [hG]
          simp only [Act.put, pB, pC, pD]
          have hlW := HS.out.lt
          refine wpAnyH_ready (rs := [1, 3]) (by kernel_rfl) (by simp) ?_
          refine coH 1 (oi := ?_) ?_ ?_ (fun K hK => ?_) ?_; rotate_left; (simp only [gA, gB, gC]; exact rfl); rfl
          · have l0 := (HM.out.cell (p := ⟨q4, 0, none⟩) lq4 nq4).trans x0
            go_wp2_with (fail)
            have HSn := HS
            have HMn := HM
            refine hK.out _ _ True.intro (fun hHeldN => ?_)
            clear hK K
            try simp only [Act.put, pB, pC, pD]
            refine listedEq (l' := #[true, true, true, false, false, false, true, true, true, true, false, false, false, false]) (by kernel_rfl) ?_
            have h := h_1_7_9 g9 W HSn HMn HG9 hb9
            rw [hG] at h
            simp only [Act.put, pB, pC, pD] at h
            exact h
          refine coH 3 (oi := ?_) ?_ ?_ (fun K hK => ?_) ?_; rotate_left; (simp only [gA, gB, gC]; exact rfl); rfl
          · go_wp2_with (fail)
            have HSn := Lib.hid (HS.out.alloc (.cells #[.int .i64 0, .int .i64 10, .int .i64 (-10), .int .i64 30, .int .i64 5] 3))
            have HMn := Lib.hid (HM.out.alloc (.cells #[.int .i64 0, .int .i64 10, .int .i64 (-10), .int .i64 30, .int .i64 5] 3))
            have HGn := Lib.hid (heap_alloc_new W (.cells #[.int .i64 0, .int .i64 10, .int .i64 (-10), .int .i64 30, .int .i64 5] 3))
            have HK9 := Lib.hid (heap_keep ((Below.refl _ W).alloc (Nat.le_refl _) (.cells #[.int .i64 0, .int .i64 10, .int .i64 (-10), .int .i64 30, .int .i64 5] 3)) HG9.out)
            refine hK.out _ _ True.intro (fun hHeldN => ?_)
            clear hK K
            try simp only [Act.put, pB, pC, pD]
            refine listedEq (l' := #[true, false, true, true, false, false, true, true, true, true, false, false, false, false]) (by kernel_rfl) ?_
            have h := h_3_7_9 W.heap.size g9 (W.alloc (.cells #[.int .i64 0, .int .i64 10, .int .i64 (-10), .int .i64 30, .int .i64 5] 3)) HSn HMn HGn hlW HK9 hb9
            rw [hG] at h
            simp only [Act.put, pB, pC, pD] at h
            exact h
          exact AllReadyH.nil
        have h_1 : ∀  (W : World), Hid (Strm W B ((k + 2 + 2 * t) + 0)) → Hid (Mut (· = B) W6 W) → G 9 #[true, true, true, false, false, false, true, false, true, false, false, false, false, false] (A.put (some 20) (.int .i64 x)) W := by
          intro W HS HM
          subst hA
          rw [hG]
          simp only [Act.put, pB, pC, pD]
          have hlW := HS.out.lt
          refine wpAnyH_ready (rs := [3, 7, 9]) (by kernel_rfl) (by simp) ?_
          refine coH 3 (oi := ?_) ?_ ?_ (fun K hK => ?_) ?_; rotate_left; (simp only [gA, gB, gC]; exact rfl); rfl
          · go_wp2_with (fail)
            have HSn := Lib.hid (HS.out.alloc (.cells #[.int .i64 0, .int .i64 10, .int .i64 (-10), .int .i64 30, .int .i64 5] 3))
            have HMn := Lib.hid (HM.out.alloc (.cells #[.int .i64 0, .int .i64 10, .int .i64 (-10), .int .i64 30, .int .i64 5] 3))
            have HGn := Lib.hid (heap_alloc_new W (.cells #[.int .i64 0, .int .i64 10, .int .i64 (-10), .int .i64 30, .int .i64 5] 3))
            refine hK.out _ _ True.intro (fun hHeldN => ?_)
            clear hK K
            try simp only [Act.put, pB, pC, pD]
            refine listedEq (l' := #[true, true, true, true, false, false, true, false, true, false, false, false, false, false]) (by kernel_rfl) ?_
            have h := h_1_3 W.heap.size (W.alloc (.cells #[.int .i64 0, .int .i64 10, .int .i64 (-10), .int .i64 30, .int .i64 5] 3)) HSn HMn HGn hlW
            rw [hG] at h
            simp only [Act.put, pB, pC, pD] at h
            exact h
          refine coH 7 (oi := ?_) ?_ ?_ (fun K hK => ?_) ?_; rotate_left; (simp only [gA, gB, gC]; exact rfl); rfl
          · have l0 := (HM.out.cell (p := ⟨q4, 1, none⟩) lq4 nq4).trans x1
            go_wp2_with (fail)
            have HSn := HS
            have HMn := HM
            refine hK.out _ _ True.intro (fun hHeldN => ?_)
            clear hK K
            try simp only [Act.put, pB, pC, pD]
            refine listedEq (l' := #[true, true, true, false, false, false, true, true, true, false, false, false, false, false]) (by kernel_rfl) ?_
            have h := h_1_7  W HSn HMn
            rw [hG] at h
            simp only [Act.put, pB, pC, pD] at h
            exact h
          refine coH 9 (oi := ?_) ?_ ?_ (fun K hK => ?_) ?_; rotate_left; (simp only [gA, gB, gC]; exact rfl); rfl
          · go_wp2_with (fail)
            have HSn := Lib.hid (HS.out.alloc (.cells #[.int .i64 0, .int .i64 0, .int .i64 10, .int .i64 (-10), .int .i64 25] 3))
            have HMn := Lib.hid (HM.out.alloc (.cells #[.int .i64 0, .int .i64 0, .int .i64 10, .int .i64 (-10), .int .i64 25] 3))
            have HGn := Lib.hid (heap_alloc_new W (.cells #[.int .i64 0, .int .i64 0, .int .i64 10, .int .i64 (-10), .int .i64 25] 3))
            refine hK.out _ _ True.intro (fun hHeldN => ?_)
            clear hK K
            try simp only [Act.put, pB, pC, pD]
            refine listedEq (l' := #[true, true, true, false, false, false, true, false, true, true, false, false, false, false]) (by kernel_rfl) ?_
            have h := h_1_9 W.heap.size (W.alloc (.cells #[.int .i64 0, .int .i64 0, .int .i64 10, .int .i64 (-10), .int .i64 25] 3)) HSn HMn HGn hlW
            rw [hG] at h
            simp only [Act.put, pB, pC, pD] at h
            exact h
          exact AllReadyH.nil
        have h_3 : ∀ (g3 : Nat) (W : World), Hid (Strm W B ((k + 2 + 2 * t) + 0)) → Hid (Mut (· = B) W6 W) → Hid (W.heap[g3]? = some (.cells #[.int .i64 0, .int .i64 10, .int .i64 (-10), .int .i64 30, .int .i64 5] 3 (0, 0))) → B < g3 → G 9 #[true, false, true, true, false, false, true, false, true, false, false, false, false, false] (A.put (some 22) (.slice (some ⟨g3, 0, none⟩) 5 5)) W := by
          intro g3 W HS HM HG3 hb3
          subst hA
          rw [hG]
          simp only [Act.put, pB, pC, pD]
          have hlW := HS.out.lt
          refine wpAnyH_ready (rs := [1, 4, 7, 9]) (by kernel_rfl) (by simp) ?_
          refine coH 1 (oi := ?_) ?_ ?_ (fun K hK => ?_) ?_; rotate_left; (simp only [gA, gB, gC]; exact rfl); rfl
          · have l0 := (HM.out.cell (p := ⟨q4, 0, none⟩) lq4 nq4).trans x0
            go_wp2_with (fail)
            have HSn := HS
            have HMn := HM
            refine hK.out _ _ True.intro (fun hHeldN => ?_)
            clear hK K
            try simp only [Act.put, pB, pC, pD]
            refine listedEq (l' := #[true, true, true, true, false, false, true, false, true, false, false, false, false, false]) (by kernel_rfl) ?_
            have h := h_1_3 g3 W HSn HMn HG3 hb3
            rw [hG] at h
            simp only [Act.put, pB, pC, pD] at h
            exact h
          refine coH 4 (oi := ?_) ?_ ?_ (fun K hK => ?_) ?_; rotate_left; (simp only [gA, gB, gC]; exact rfl); rfl
          · go_wp2_with (fail)
            refine (pick_any B _ g3 5 5 (fun _ => True) W HS.out (by omega) (by omega) (by omega) (by omega) (lt_of_heap HG3.out) (by
              intro i hi
              match i, hi with
              | 0, _ => exact ⟨_, cell_of HG3.out (i := 0) rfl, trivial⟩
              | 1, _ => exact ⟨_, cell_of HG3.out (i := 1) rfl, trivial⟩
              | 2, _ => exact ⟨_, cell_of HG3.out (i := 2) rfl, trivial⟩
              | 3, _ => exact ⟨_, cell_of HG3.out (i := 3) rfl, trivial⟩
              | 4, _ => exact ⟨_, cell_of HG3.out (i := 4) rfl, trivial⟩
              | j + 5, h => omega)).mono ?_
            rintro e Wn ⟨⟨z4, rfl, _⟩, hst, hmt⟩
            have HSn := Lib.hid hst
            have HMn := Lib.hid (HM.out.trans (hmt.mono fun _ _ h => h))
            clear hst hmt
            refine hK.out _ _ True.intro (fun hHeldN => ?_)
            clear hK K
            try simp only [Act.put, pB, pC, pD]
            refine listedEq (l' := #[true, false, true, true, true, false, true, false, true, false, false, false, false, false]) (by kernel_rfl) ?_
            have h := h_3_4 g3 z4 Wn HSn HMn
            rw [hG] at h
            simp only [Act.put, pB, pC, pD] at h
            exact h
          refine coH 7 (oi := ?_) ?_ ?_ (fun K hK => ?_) ?_; rotate_left; (simp only [gA, gB, gC]; exact rfl); rfl
          · have l0 := (HM.out.cell (p := ⟨q4, 1, none⟩) lq4 nq4).trans x1
            go_wp2_with (fail)
            have HSn := HS
            have HMn := HM
            refine hK.out _ _ True.intro (fun hHeldN => ?_)
            clear hK K
            try simp only [Act.put, pB, pC, pD]
            refine listedEq (l' := #[true, false, true, true, false, false, true, true, true, false, false, false, false, false]) (by kernel_rfl) ?_
            have h := h_3_7 g3 W HSn HMn HG3 hb3
            rw [hG] at h
            simp only [Act.put, pB, pC, pD] at h
            exact h
          refine coH 9 (oi := ?_) ?_ ?_ (fun K hK => ?_) ?_; rotate_left; (simp only [gA, gB, gC]; exact rfl); rfl
          · go_wp2_with (fail)
            have HSn := Lib.hid (HS.out.alloc (.cells #[.int .i64 0, .int .i64 0, .int .i64 10, .int .i64 (-10), .int .i64 25] 3))
            have HMn := Lib.hid (HM.out.alloc (.cells #[.int .i64 0, .int .i64 0, .int .i64 10, .int .i64 (-10), .int .i64 25] 3))
            have HGn := Lib.hid (heap_alloc_new W (.cells #[.int .i64 0, .int .i64 0, .int .i64 10, .int .i64 (-10), .int .i64 25] 3))
            have HK3 := Lib.hid (heap_keep ((Below.refl _ W).alloc (Nat.le_refl _) (.cells #[.int .i64 0, .int .i64 0, .int .i64 10, .int .i64 (-10), .int .i64 25] 3)) HG3.out)
            refine hK.out _ _ True.intro (fun hHeldN => ?_)
            clear hK K
            try simp only [Act.put, pB, pC, pD]
            refine listedEq (l' := #[true, false, true, true, false, false, true, false, true, true, false, false, false, false]) (by kernel_rfl) ?_
            have h := h_3_9 g3 W.heap.size (W.alloc (.cells #[.int .i64 0, .int .i64 0, .int .i64 10, .int .i64 (-10), .int .i64 25] 3)) HSn HMn HK3 hb3 HGn hlW
            rw [hG] at h
            simp only [Act.put, pB, pC, pD] at h
            exact h
          exact AllReadyH.nil
        have h_7 : ∀  (W : World), Hid (Strm W B ((k + 2 + 2 * t) + 0)) → Hid (Mut (· = B) W6 W) → G 9 #[true, false, true, false, false, false, true, true, true, false, false, false, false, false] (A.put (some 26) (.int .i64 y)) W := by
          intro W HS HM
          subst hA
          rw [hG]
          simp only [Act.put, pB, pC, pD]
          have hlW := HS.out.lt
          refine wpAnyH_ready (rs := [1, 3, 9]) (by kernel_rfl) (by simp) ?_
          refine coH 1 (oi := ?_) ?_ ?_ (fun K hK => ?_) ?_; rotate_left; (simp only [gA, gB, gC]; exact rfl); rfl
          · have l0 := (HM.out.cell (p := ⟨q4, 0, none⟩) lq4 nq4).trans x0
            go_wp2_with (fail)
            have HSn := HS
            have HMn := HM
            refine hK.out _ _ True.intro (fun hHeldN => ?_)
            clear hK K
            try simp only [Act.put, pB, pC, pD]
            refine listedEq (l' := #[true, true, true, false, false, false, true, true, true, false, false, false, false, false]) (by kernel_rfl) ?_
            have h := h_1_7  W HSn HMn
            rw [hG] at h
            simp only [Act.put, pB, pC, pD] at h
            exact h
          refine coH 3 (oi := ?_) ?_ ?_ (fun K hK => ?_) ?_; rotate_left; (simp only [gA, gB, gC]; exact rfl); rfl
          · go_wp2_with (fail)
            have HSn := Lib.hid (HS.out.alloc (.cells #[.int .i64 0, .int .i64 10, .int .i64 (-10), .int .i64 30, .int .i64 5] 3))
            have HMn := Lib.hid (HM.out.alloc (.cells #[.int .i64 0, .int .i64 10, .int .i64 (-10), .int .i64 30, .int .i64 5] 3))
            have HGn := Lib.hid (heap_alloc_new W (.cells #[.int .i64 0, .int .i64 10, .int .i64 (-10), .int .i64 30, .int .i64 5] 3))
            refine hK.out _ _ True.intro (fun hHeldN => ?_)
            clear hK K
            try simp only [Act.put, pB, pC, pD]
            refine listedEq (l' := #[true, false, true, true, false, false, true, true, true, false, false, false, false, false]) (by kernel_rfl) ?_
            have h := h_3_7 W.heap.size (W.alloc (.cells #[.int .i64 0, .int .i64 10, .int .i64 (-10), .int .i64 30, .int .i64 5] 3)) HSn HMn HGn hlW
            rw [hG] at h
            simp only [Act.put, pB, pC, pD] at h
            exact h
          refine coH 9 (oi := ?_) ?_ ?_ (fun K hK => ?_) ?_; rotate_left; (simp only [gA, gB, gC]; exact rfl); rfl
          · go_wp2_with (fail)
            have HSn := Lib.hid (HS.out.alloc (.cells #[.int .i64 0, .int .i64 0, .int .i64 10, .int .i64 (-10), .int .i64 25] 3))
            have HMn := Lib.hid (HM.out.alloc (.cells #[.int .i64 0, .int .i64 0, .int .i64 10, .int .i64 (-10), .int .i64 25] 3))
            have HGn := Lib.hid (heap_alloc_new W (.cells #[.int .i64 0, .int .i64 0, .int .i64 10, .int .i64 (-10), .int .i64 25] 3))
            refine hK.out _ _ True.intro (fun hHeldN => ?_)
            clear hK K
            try simp only [Act.put, pB, pC, pD]
            refine listedEq (l' := #[true, false, true, false, false, false, true, true, true, true, false, false, false, false]) (by kernel_rfl) ?_
            have h := h_7_9 W.heap.size (W.alloc (.cells #[.int .i64 0, .int .i64 0, .int .i64 10, .int .i64 (-10), .int .i64 25] 3)) HSn HMn HGn hlW
            rw [hG] at h
            simp only [Act.put, pB, pC, pD] at h
            exact h
          exact AllReadyH.nil
        have h_9 : ∀ (g9 : Nat) (W : World), Hid (Strm W B ((k + 2 + 2 * t) + 0)) → Hid (Mut (· = B) W6 W) → Hid (W.heap[g9]? = some (.cells #[.int .i64 0, .int .i64 0, .int .i64 10, .int .i64 (-10), .int .i64 25] 3 (0, 0))) → B < g9 → G 9 #[true, false, true, false, false, false, true, false, true, true, false, false, false, false] (A.put (some 28) (.slice (some ⟨g9, 0, none⟩) 5 5)) W := by
          intro g9 W HS HM HG9 hb9
          subst hA
          rw [hG]
          simp only [Act.put, pB, pC, pD]
          have hlW := HS.out.lt
          refine wpAnyH_ready (rs := [1, 3, 7]) (by kernel_rfl) (by simp) ?_
          refine coH 1 (oi := ?_) ?_ ?_ (fun K hK => ?_) ?_; rotate_left; (simp only [gA, gB, gC]; exact rfl); rfl
          · have l0 := (HM.out.cell (p := ⟨q4, 0, none⟩) lq4 nq4).trans x0
            go_wp2_with (fail)
            have HSn := HS
            have HMn := HM
            refine hK.out _ _ True.intro (fun hHeldN => ?_)
            clear hK K
            try simp only [Act.put, pB, pC, pD]
            refine listedEq (l' := #[true, true, true, false, false, false, true, false, true, true, false, false, false, false]) (by kernel_rfl) ?_
            have h := h_1_9 g9 W HSn HMn HG9 hb9
            rw [hG] at h
            simp only [Act.put, pB, pC, pD] at h
            exact h
          refine coH 3 (oi := ?_) ?_ ?_ (fun K hK => ?_) ?_; rotate_left; (simp only [gA, gB, gC]; exact rfl); rfl
          · go_wp2_with (fail)
            have HSn := Lib.hid (HS.out.alloc (.cells #[.int .i64 0, .int .i64 10, .int .i64 (-10), .int .i64 30, .int .i64 5] 3))
            have HMn := Lib.hid (HM.out.alloc (.cells #[.int .i64 0, .int .i64 10, .int .i64 (-10), .int .i64 30, .int .i64 5] 3))
            have HGn := Lib.hid (heap_alloc_new W (.cells #[.int .i64 0, .int .i64 10, .int .i64 (-10), .int .i64 30, .int .i64 5] 3))
            have HK9 := Lib.hid (heap_keep ((Below.refl _ W).alloc (Nat.le_refl _) (.cells #[.int .i64 0, .int .i64 10, .int .i64 (-10), .int .i64 30, .int .i64 5] 3)) HG9.out)
            refine hK.out _ _ True.intro (fun hHeldN => ?_)
            clear hK K
            try simp only [Act.put, pB, pC, pD]
            refine listedEq (l' := #[true, false, true, true, false, false, true, false, true, true, false, false, false, false]) (by kernel_rfl) ?_
            have h := h_3_9 W.heap.size g9 (W.alloc (.cells #[.int .i64 0, .int .i64 10, .int .i64 (-10), .int .i64 30, .int .i64 5] 3)) HSn HMn HGn hlW HK9 hb9
            rw [hG] at h
            simp only [Act.put, pB, pC, pD] at h
            exact h
          refine coH 7 (oi := ?_) ?_ ?_ (fun K hK => ?_) ?_; rotate_left; (simp only [gA, gB, gC]; exact rfl); rfl
          · have l0 := (HM.out.cell (p := ⟨q4, 1, none⟩) lq4 nq4).trans x1
            go_wp2_with (fail)
            have HSn := HS
            have HMn := HM
            refine hK.out _ _ True.intro (fun hHeldN => ?_)
            clear hK K
            try simp only [Act.put, pB, pC, pD]
            refine listedEq (l' := #[true, false, true, false, false, false, true, true, true, true, false, false, false, false]) (by kernel_rfl) ?_
            have h := h_7_9 g9 W HSn HMn HG9 hb9
            rw [hG] at h
            simp only [Act.put, pB, pC, pD] at h
            exact h
          exact AllReadyH.nil
        have h_0 : ∀  (W : World), Hid (Strm W B ((k + 2 + 2 * t) + 0)) → Hid (Mut (· = B) W6 W) → G 10 #[true, false, true, false, false, false, true, false, true, false, false, false, false, false] A W := by
          intro W HS HM
          subst hA
          rw [hG]
          have hlW := HS.out.lt
          refine wpAnyH_ready (rs := [1, 3, 7, 9]) (by kernel_rfl) (by simp) ?_
          refine coH 1 (oi := ?_) ?_ ?_ (fun K hK => ?_) ?_; rotate_left; (simp only [gA, gB, gC]; exact rfl); rfl
          · have l0 := (HM.out.cell (p := ⟨q4, 0, none⟩) lq4 nq4).trans x0
            go_wp2_with (fail)
            have HSn := HS
            have HMn := HM
            refine hK.out _ _ True.intro (fun hHeldN => ?_)
            clear hK K
            try simp only [Act.put, pB, pC, pD]
            refine listedEq (l' := #[true, true, true, false, false, false, true, false, true, false, false, false, false, false]) (by kernel_rfl) ?_
            have h := h_1  W HSn HMn
            rw [hG] at h
            simp only [Act.put, pB, pC, pD] at h
            exact h
          refine coH 3 (oi := ?_) ?_ ?_ (fun K hK => ?_) ?_; rotate_left; (simp only [gA, gB, gC]; exact rfl); rfl
          · go_wp2_with (fail)
            have HSn := Lib.hid (HS.out.alloc (.cells #[.int .i64 0, .int .i64 10, .int .i64 (-10), .int .i64 30, .int .i64 5] 3))
            have HMn := Lib.hid (HM.out.alloc (.cells #[.int .i64 0, .int .i64 10, .int .i64 (-10), .int .i64 30, .int .i64 5] 3))
            have HGn := Lib.hid (heap_alloc_new W (.cells #[.int .i64 0, .int .i64 10, .int .i64 (-10), .int .i64 30, .int .i64 5] 3))
            refine hK.out _ _ True.intro (fun hHeldN => ?_)
            clear hK K
            try simp only [Act.put, pB, pC, pD]
            refine listedEq (l' := #[true, false, true, true, false, false, true, false, true, false, false, false, false, false]) (by kernel_rfl) ?_
            have h := h_3 W.heap.size (W.alloc (.cells #[.int .i64 0, .int .i64 10, .int .i64 (-10), .int .i64 30, .int .i64 5] 3)) HSn HMn HGn hlW
            rw [hG] at h
            simp only [Act.put, pB, pC, pD] at h
            exact h
          refine coH 7 (oi := ?_) ?_ ?_ (fun K hK => ?_) ?_; rotate_left; (simp only [gA, gB, gC]; exact rfl); rfl
          · have l0 := (HM.out.cell (p := ⟨q4, 1, none⟩) lq4 nq4).trans x1
            go_wp2_with (fail)
            have HSn := HS
            have HMn := HM
            refine hK.out _ _ True.intro (fun hHeldN => ?_)
            clear hK K
            try simp only [Act.put, pB, pC, pD]
            refine listedEq (l' := #[true, false, true, false, false, false, true, true, true, false, false, false, false, false]) (by kernel_rfl) ?_
            have h := h_7  W HSn HMn
            rw [hG] at h
            simp only [Act.put, pB, pC, pD] at h
            exact h
          refine coH 9 (oi := ?_) ?_ ?_ (fun K hK => ?_) ?_; rotate_left; (simp only [gA, gB, gC]; exact rfl); rfl
          · go_wp2_with (fail)
            have HSn := Lib.hid (HS.out.alloc (.cells #[.int .i64 0, .int .i64 0, .int .i64 10, .int .i64 (-10), .int .i64 25] 3))
            have HMn := Lib.hid (HM.out.alloc (.cells #[.int .i64 0, .int .i64 0, .int .i64 10, .int .i64 (-10), .int .i64 25] 3))
            have HGn := Lib.hid (heap_alloc_new W (.cells #[.int .i64 0, .int .i64 0, .int .i64 10, .int .i64 (-10), .int .i64 25] 3))
            refine hK.out _ _ True.intro (fun hHeldN => ?_)
            clear hK K
            try simp only [Act.put, pB, pC, pD]
            refine listedEq (l' := #[true, false, true, false, false, false, true, false, true, true, false, false, false, false]) (by kernel_rfl) ?_
            have h := h_9 W.heap.size (W.alloc (.cells #[.int .i64 0, .int .i64 0, .int .i64 10, .int .i64 (-10), .int .i64 25] 3)) HSn HMn HGn hlW
            rw [hG] at h
            simp only [Act.put, pB, pC, pD] at h
            exact h
          exact AllReadyH.nil
        have h := h_0 W6.drew (Lib.hid (StrmV.drew HS6.out)) (Lib.hid (Mut.refl _ W6).drew)
        exact h
      intro g3 z4 g9 z10 W HS HM
      subst hA
      rw [hG]
      simp only [Act.put, pB, pC, pD]
      have H4W := Lib.hid ((HM.out.block q4 lq4 nq4).trans H46.out)
      have H3W := Lib.hid ((HM.out.block q3 (lt_of_heap H36.out) (by show ¬ q3 = B; omega)).trans H36.out)
      have H2W := Lib.hid ((HM.out.block q2 (lt_of_heap H26.out) (by show ¬ q2 = B; omega)).trans H26.out)
      have HOW := Lib.hid (own_mutV HO6.out HM.out (fun b hb e => by have := (HO6.out.lt b hb).1; omega))
      have HMW := Lib.hid (HM6.out.trans HM.out)
      have hzW : wb.heap.size ≤ W.heap.size := Nat.le_trans hz6 HM.out.size
      obtain ⟨x', hx'⟩ : ∃ x', IntKind.i64.wrap (x + z4) = x' := ⟨_, rfl⟩
      obtain ⟨y', hy'⟩ : ∃ y', IntKind.i64.wrap (y + z10) = y' := ⟨_, rfl⟩
      rw [hx', hy']
      clear hx' hy' x0 x1 H46 H36 H26 HO6 HM6
      refine onH 13 (oi := ?_) (by kernel_rfl) ?_ ?_ (fun K hK => ?_); rotate_left; (simp only [gA, gB, gC]; exact rfl); rfl
      have f0 := cell_of H4W.out (i := 0) rfl
      have f1 := cell_of H4W.out (i := 1) rfl
      have z0 := frozen_of H4W.out (i := 0)
      have z1 := frozen_of H4W.out (i := 1)
      go_wp2_with (fail)
      have h9 := Lib.hid (set2V_1 (u := .int .i64 y') (set2V_0 (u := .int .i64 x') H4W.out))
      have h93 := Lib.hid ((Below.heap_setCell (W.setCell ⟨q4, 0, none⟩ (.int .i64 x')) ⟨q4, 1, none⟩ (.int .i64 y') q3 (by show q3 ≠ q4; omega)).trans ((Below.heap_setCell W ⟨q4, 0, none⟩ (.int .i64 x') q3 (by show q3 ≠ q4; omega)).trans H3W.out))
      have h92 := Lib.hid ((Below.heap_setCell (W.setCell ⟨q4, 0, none⟩ (.int .i64 x')) ⟨q4, 1, none⟩ (.int .i64 y') q2 (by show q2 ≠ q4; omega)).trans ((Below.heap_setCell W ⟨q4, 0, none⟩ (.int .i64 x') q2 (by show q2 ≠ q4; omega)).trans H2W.out))
      have h9O := Lib.hid (own_mutU (own_mutU HOW.out (b := q4) 0 (.int .i64 x') (fun e => by have := (HOW.out.lt q4 e).1; omega)) (b := q4) 1 (.int .i64 y') (fun e => by have := (HOW.out.lt q4 e).1; omega))
      have h9S := Lib.hid (StrmV.setCell (StrmV.setCell HS.out (a := ⟨q4, 0, none⟩) (by show B < q4; omega) (.int .i64 x')) (a := ⟨q4, 1, none⟩) (by show B < q4; omega) (.int .i64 y'))
      have h9M := Lib.hid ((HMW.out.setCell (p := ⟨q4, 0, none⟩) (fun e => absurd e (by show ¬ q4 < w.heap.size; have := HQ2.out; omega)) (.int .i64 x')).setCell (p := ⟨q4, 1, none⟩) (fun e => absurd e (by show ¬ q4 < w.heap.size; have := HQ2.out; omega)) (.int .i64 y'))
      have h9z : wb.heap.size ≤ ((W.setCell ⟨q4, 0, none⟩ (.int .i64 x')).setCell ⟨q4, 1, none⟩ (.int .i64 y')).heap.size := by simpa [World.setCell] using hzW
      refine hK.out _ _ True.intro (fun hHeldN => ?_)
      clear hK K hHeld
      have hHeld := hHeldN
      clear hHeldN
      try simp only [Act.put, pB, pC, pD]
      clear f0 f1 z0 z1 H4W H3W H2W HOW HMW HS HM
      generalize ((W.setCell ⟨q4, 0, none⟩ (.int .i64 x')).setCell ⟨q4, 1, none⟩ (.int .i64 y')) = W9 at *
      refine wpAnyH_done (by kernel_rfl) ?_ _
      go_wp2_with (fail)
      go_roundw
      case rel => exact ⟨t + 1, _, c5, _, x', y', by go_num, by omega, h9O.out, HAX.out.app (AllI.two x y), by rw [show k + 2 + 2 * (t + 1) = k + 2 + 2 * t + 2 by omega]; exact h9S.out, h9M.out, h92.out, h93.out, h9.out, h9z⟩
      case measure => simp [intOf] <;> omega
    · obtain rfl : t = cn := by omega
      have hBw : B < wb.heap.size := by omega
      go_wp2_with (fail)
      refine (flip_any B (k + 2 + 2 * t) 15 wr HS.out (by omega) (by omega) (by omega)).mono ?_
      rintro e wf ⟨⟨fa, rfl⟩, hst, hmt⟩
      replace HS := Lib.hid hst
      replace HM := Lib.hid (HM.out.trans hmt)
      replace H2 := Lib.hid ((hmt.block q2 (lt_of_heap H2.out) (by show ¬ q2 = B; omega)).trans H2.out)
      replace H3 := Lib.hid ((hmt.block q3 (lt_of_heap H3.out) (by show ¬ q3 = B; omega)).trans H3.out)
      replace H4 := Lib.hid ((hmt.block q4 (lt_of_heap H4.out) (by show ¬ q4 = B; omega)).trans H4.out)
      replace HO := Lib.hid (own_mutV HO.out hmt (fun b hb e => by have := (HO.out.lt b hb).1; omega))
      have hzf : wb.heap.size ≤ wf.heap.size := Nat.le_trans hbc hmt.size
      clear hst hmt
      rcases fa with _ | _
      · replace HS := Lib.hid (HS.out.more (k' := k + 20) (by omega) (by omega))
        go_wp2_with (fail)
        refine (flip_any B (k + 20) 40 _ HS.out (by omega) (by omega) (by omega)).mono ?_
        rintro e VV ⟨⟨fb, rfl⟩, hst, hmt⟩
        replace HS := Lib.hid hst
        replace HM := Lib.hid (HM.out.trans hmt)
        replace H2 := Lib.hid ((hmt.block q2 (lt_of_heap H2.out) (by show ¬ q2 = B; omega)).trans H2.out)
        replace H3 := Lib.hid ((hmt.block q3 (lt_of_heap H3.out) (by show ¬ q3 = B; omega)).trans H3.out)
        replace HO := Lib.hid (own_mutV HO.out hmt (fun b hb e => by have := (HO.out.lt b hb).1; omega))
        clear hst hmt
        have hcap := own_capP HO.out
        rcases fb with _ | _
        · obtain ⟨X, Y, hXY⟩ := pts_of_all (own_mutU (own_mutU HO.out (b := q2) 0 (.slice a t c) (fun e => by have := (HO.out.lt q2 e).1; omega)) (b := q2) 1 (.bool kf) (fun e => by have := (HO.out.lt q2 e).1; omega)) HAX.out
          have HFAR := Lib.hid (show ∀ x, a = some x → B < x.block from fun x hx => by have := (HO.out.lt x.block (by rw [hx]; rfl)).1; omega)
          have d0 := cell_of H3.out (i := 0) rfl
          have d1 := cell_of H3.out (i := 1) rfl
          have d2 := cell_of H2.out (i := 0) rfl
          have d3 := cell_of H2.out (i := 1) rfl
          have f2 := frozen_of H2.out (i := 0)
          have f3 := frozen_of H2.out (i := 1)
          have hs2 := set2V_1 (u := .bool kf) (set2V_0 (u := .slice a t c) H2.out)
          have HSV := Lib.hid (StrmV.setCell (StrmV.setCell HS.out (a := ⟨q2, 0, none⟩) (by show B < q2; omega) (.slice a t c)) (a := ⟨q2, 1, none⟩) (by show B < q2; omega) (.bool kf))
          have HMV := Lib.hid ((HM.out.setCell (p := ⟨q2, 0, none⟩) (fun e => absurd e (by show ¬ q2 < w.heap.size; have := HQ2.out; omega)) (.slice a t c)).setCell (p := ⟨q2, 1, none⟩) (fun e => absurd e (by show ¬ q2 < w.heap.size; have := HQ2.out; omega)) (.bool kf))
          have g0 := cell_of hs2 (i := 0) rfl
          have g1 := cell_of hs2 (i := 1) rfl
          have HPV := Lib.hid hXY
          go_wp2_with (fail)
          generalize ((VV.setCell ⟨q2, 0, none⟩ (.slice a t c)).setCell ⟨q2, 1, none⟩ (.bool kf)) = VE at *
          exact bodyPost_ret (v := .agg #[.slice a t c, .bool kf]) (by simp [results, Try.results40, go_sem, g0, g1]) rfl ⟨_, _, _, _, _, kf, rfl, by omega, by omega, HPV.out, by first | exact HFAR.out | exact (fun x hx => by cases hx; show B < _; omega), HSV.out.more (by omega) (by omega), HMV.out⟩
        · have lv3 : q3 < VV.heap.size := lt_of_heap H3.out
          have HB := Lib.hid ((Below.refl VV.heap.size VV).alloc (Nat.le_refl _) (.cells #[.int .i64 0, .int .i64 0] 102))
          go_wp2_with (fail)
          have HG := Lib.hid (heap_alloc_new VV (.cells #[.int .i64 0, .int .i64 0] 102))
          have hsz1 : (VV.alloc (.cells #[.int .i64 0, .int .i64 0] 102)).heap.size = VV.heap.size + 1 := by simp
          have HSA := Lib.hid (HS.out.alloc (.cells #[.int .i64 0, .int .i64 0] 102))
          replace HM := Lib.hid (HM.out.below HB.out)
          replace H2 := Lib.hid (heap_keep HB.out H2.out)
          replace H3 := Lib.hid (heap_keep HB.out H3.out)
          clear hcap
          clear HB HO
          generalize (VV.alloc (.cells #[.int .i64 0, .int .i64 0] 102)) = V1 at *
          obtain ⟨gp, hgp⟩ : ∃ g, g = VV.heap.size := ⟨_, rfl⟩
          rw [← hgp] at HG hsz1 lv3
          try rw [← hgp]
          clear hgp
          refine (pick_atV B _ [0, 1, 3, 500, 501] 5 (fun z => z = 0 ∨ z = 1 ∨ z = 3 ∨ z = 500 ∨ z = 501) V1 _ hsz1 HSA.out (by omega) rfl (by omega) (by omega) (by simp)).mono ?_
          rintro e V2 ⟨⟨z, rfl, hz⟩, hst, hmt⟩
          replace HS := Lib.hid hst
          replace HM := Lib.hid (HM.out.trans hmt)
          replace H2 := Lib.hid ((hmt.block q2 (lt_of_heap H2.out) (by show ¬ q2 = B; omega)).trans H2.out)
          replace H3 := Lib.hid ((hmt.block q3 (lt_of_heap H3.out) (by show ¬ q3 = B; omega)).trans H3.out)
          replace HG := Lib.hid ((hmt.block gp (lt_of_heap HG.out) (by show ¬ gp = B; omega)).trans HG.out)
          have c0 := cell_of HG.out (i := 0) rfl
          have c1 := cell_of HG.out (i := 1) rfl
          clear hst hmt HSA
          have lp2 : gp < V2.heap.size := lt_of_heap HG.out
          by_cases hz0 : z = 0
          · subst hz0
            clear hz
            go_wp2_with (fail)
            refine (repeatP_zero gp 0 0 V2 c0).mono ?_
            rintro e V3 ⟨g3, rfl, hg3, hb3⟩
            have HPT := Lib.hid (show PtsR V3 (some ⟨g3, 0, none⟩) 0 (fun _ => 0) (fun _ => 0) from .inl rfl)
            replace HS := Lib.hid (StrmV.below HS.out hb3)
            replace HM := Lib.hid (HM.out.below hb3)
            replace H2 := Lib.hid (heap_keep hb3 H2.out)
            replace H3 := Lib.hid (heap_keep hb3 H3.out)
            have hg3' : gp < g3 := by omega
            clear hb3 c0 c1 HG
            have k30 := cell_of H3.out (i := 0) rfl
            have k31 := cell_of H3.out (i := 1) rfl
            have kf3 := frozen_of H3.out (i := 0)
            have d2 := cell_of H2.out (i := 0) rfl
            have d3 := cell_of H2.out (i := 1) rfl
            have f2 := frozen_of H2.out (i := 0)
            have f3 := frozen_of H2.out (i := 1)
            have n23 : ¬ q2 = q3 := by omega
            have n32 : ¬ q3 = q2 := by omega
            have hs2 := set2V_1 (u := .bool kf) (set2V_0 (u := .slice (some ⟨g3, 0, none⟩) 0 0) ((Below.heap_setCell V3 ⟨q3, 0, none⟩ (.slice (some ⟨g3, 0, none⟩) 0 0) q2 n23).trans H2.out))
            have HSV := Lib.hid (StrmV.setCell (StrmV.setCell (StrmV.setCell HS.out (a := ⟨q3, 0, none⟩) (by show B < q3; omega) (.slice (some ⟨g3, 0, none⟩) 0 0)) (a := ⟨q2, 0, none⟩) (by show B < q2; omega) (.slice (some ⟨g3, 0, none⟩) 0 0)) (a := ⟨q2, 1, none⟩) (by show B < q2; omega) (.bool kf))
            have HMV := Lib.hid (((HM.out.setCell (p := ⟨q3, 0, none⟩) (fun e => absurd e (by show ¬ q3 < w.heap.size; have := HQ2.out; omega)) (.slice (some ⟨g3, 0, none⟩) 0 0)).setCell (p := ⟨q2, 0, none⟩) (fun e => absurd e (by show ¬ q2 < w.heap.size; have := HQ2.out; omega)) (.slice (some ⟨g3, 0, none⟩) 0 0)).setCell (p := ⟨q2, 1, none⟩) (fun e => absurd e (by show ¬ q2 < w.heap.size; have := HQ2.out; omega)) (.bool kf))
            have g0 := cell_of hs2 (i := 0) rfl
            have g1 := cell_of hs2 (i := 1) rfl
            have HPV := Lib.hid (ptsR_set (ptsR_set (ptsR_set HPT.out (b := q3) (o := 0) (v := .slice (some ⟨g3, 0, none⟩) 0 0) (fun x hx => by cases hx; show g3 ≠ q3; omega)) (b := q2) (o := 0) (v := .slice (some ⟨g3, 0, none⟩) 0 0) (fun x hx => by cases hx; show g3 ≠ q2; omega)) (b := q2) (o := 1) (v := .bool kf) (fun x hx => by cases hx; show g3 ≠ q2; omega))
            go_wp2_with (fail)
            generalize (((V3.setCell ⟨q3, 0, none⟩ (.slice (some ⟨g3, 0, none⟩) 0 0)).setCell ⟨q2, 0, none⟩ (.slice (some ⟨g3, 0, none⟩) 0 0)).setCell ⟨q2, 1, none⟩ (.bool kf)) = VE at *
            exact bodyPost_ret (v := .agg #[.slice (some ⟨g3, 0, none⟩) 0 0, .bool kf]) (by simp [results, Try.results40, go_sem, g0, g1]) rfl ⟨_, _, _, _, _, kf, rfl, by omega, by omega, HPV.out, (fun x hx => by cases hx; show B < g3; omega), HSV.out.more (by omega) (by omega), HMV.out⟩
          · obtain ⟨n, rfl⟩ := Int.eq_ofNat_of_zero_le (show 0 ≤ z by omega)
            have hn : n = 1 ∨ n = 3 ∨ n = 500 ∨ n = 501 := by omega
            have HN := Lib.hid hn
            clear hz hz0 hn
            go_wp2_with (fail)
            refine (repeatP_any gp n 0 0 V2 HN.out c0 c1).mono ?_
            rintro e V3 ⟨g3, rfl, hp, hg3, hb3⟩
            have HPT := Lib.hid (pts_of_pat hp)
            have hn5 : n ≤ 1000 := by have := HN.out; omega
            clear hp
            replace HS := Lib.hid (StrmV.below HS.out hb3)
            replace HM := Lib.hid (HM.out.below hb3)
            replace H2 := Lib.hid (heap_keep hb3 H2.out)
            replace H3 := Lib.hid (heap_keep hb3 H3.out)
            have hg3' : gp < g3 := by omega
            clear hb3 c0 c1 HG
            have k30 := cell_of H3.out (i := 0) rfl
            have k31 := cell_of H3.out (i := 1) rfl
            have kf3 := frozen_of H3.out (i := 0)
            have d2 := cell_of H2.out (i := 0) rfl
            have d3 := cell_of H2.out (i := 1) rfl
            have f2 := frozen_of H2.out (i := 0)
            have f3 := frozen_of H2.out (i := 1)
            have n23 : ¬ q2 = q3 := by omega
            have n32 : ¬ q3 = q2 := by omega
            have hs2 := set2V_1 (u := .bool kf) (set2V_0 (u := .slice (some ⟨g3, 0, none⟩) n n) ((Below.heap_setCell V3 ⟨q3, 0, none⟩ (.slice (some ⟨g3, 0, none⟩) n n) q2 n23).trans H2.out))
            have HSV := Lib.hid (StrmV.setCell (StrmV.setCell (StrmV.setCell HS.out (a := ⟨q3, 0, none⟩) (by show B < q3; omega) (.slice (some ⟨g3, 0, none⟩) n n)) (a := ⟨q2, 0, none⟩) (by show B < q2; omega) (.slice (some ⟨g3, 0, none⟩) n n)) (a := ⟨q2, 1, none⟩) (by show B < q2; omega) (.bool kf))
            have HMV := Lib.hid (((HM.out.setCell (p := ⟨q3, 0, none⟩) (fun e => absurd e (by show ¬ q3 < w.heap.size; have := HQ2.out; omega)) (.slice (some ⟨g3, 0, none⟩) n n)).setCell (p := ⟨q2, 0, none⟩) (fun e => absurd e (by show ¬ q2 < w.heap.size; have := HQ2.out; omega)) (.slice (some ⟨g3, 0, none⟩) n n)).setCell (p := ⟨q2, 1, none⟩) (fun e => absurd e (by show ¬ q2 < w.heap.size; have := HQ2.out; omega)) (.bool kf))
            have g0 := cell_of hs2 (i := 0) rfl
            have g1 := cell_of hs2 (i := 1) rfl
            have HPV := Lib.hid (ptsR_set (ptsR_set (ptsR_set HPT.out (b := q3) (o := 0) (v := .slice (some ⟨g3, 0, none⟩) n n) (fun x hx => by cases hx; show g3 ≠ q3; omega)) (b := q2) (o := 0) (v := .slice (some ⟨g3, 0, none⟩) n n) (fun x hx => by cases hx; show g3 ≠ q2; omega)) (b := q2) (o := 1) (v := .bool kf) (fun x hx => by cases hx; show g3 ≠ q2; omega))
            go_wp2_with (fail)
            generalize (((V3.setCell ⟨q3, 0, none⟩ (.slice (some ⟨g3, 0, none⟩) n n)).setCell ⟨q2, 0, none⟩ (.slice (some ⟨g3, 0, none⟩) n n)).setCell ⟨q2, 1, none⟩ (.bool kf)) = VE at *
            exact bodyPost_ret (v := .agg #[.slice (some ⟨g3, 0, none⟩) n n, .bool kf]) (by simp [results, Try.results40, go_sem, g0, g1]) rfl ⟨_, _, _, _, _, kf, rfl, by omega, by omega, HPV.out, (fun x hx => by cases hx; show B < g3; omega), HSV.out.more (by omega) (by omega), HMV.out⟩
      · obtain ⟨g, cap', hv, hgb, hgl⟩ := HO.out.form (by omega)
        cases hv
        clear hgb hgl
        have hgw := (HO.out.lt g rfl).1
        have hgl := (HO.out.lt g rfl).2
        go_wp2_with (fail)
        have x3 := cell_of H3.out (i := 0) rfl
        have lq3 : q3 < wf.heap.size := lt_of_heap H3.out
        have nq3 : ¬ q3 = B := by omega
        have HSF := HS
        refine wp_region_held_drew (S := (fun w' => w'.cell? ⟨q3, 0, none⟩ = some (.slice (some ⟨g, 0, none⟩) t c))) (by kernel_rfl) x3 (fun hHeld => ?_)
        refine tkH (by assumption) 0 (oi := ?_) (v := ?_) ?_ ?_ ?_ ?_ ?_ ?_ ?_ ?_; rotate_left 2; (simp only [gA, gB, gC]; exact rfl); kernel_rfl; kernel_rfl; kernel_rfl; exact fun _ _ _ h => h; rfl; (intro w' hSw; (try dsimp only at hSw); go_simp; with_reducible rfl); simp only [Act.put, pB, pC, pD]
        refine tkH (by assumption) 1 (oi := ?_) (v := ?_) ?_ ?_ ?_ ?_ ?_ ?_ ?_ ?_; rotate_left 2; (simp only [gA, gB, gC]; exact rfl); kernel_rfl; kernel_rfl; kernel_rfl; exact fun _ _ _ h => h; rfl; (intro w' hSw; (try dsimp only at hSw); go_simp; with_reducible rfl); simp only [Act.put, pB, pC, pD]
        refine tkH (by assumption) 2 (oi := ?_) (v := ?_) ?_ ?_ ?_ ?_ ?_ ?_ ?_ ?_; rotate_left 2; (simp only [gA, gB, gC]; exact rfl); kernel_rfl; kernel_rfl; kernel_rfl; exact fun _ _ _ h => h; rfl; (intro w' hSw; (try dsimp only at hSw); go_simp; with_reducible rfl); simp only [Act.put, pB, pC, pD]
        refine tkH (by assumption) 3 (oi := ?_) (v := ?_) ?_ ?_ ?_ ?_ ?_ ?_ ?_ ?_; rotate_left 2; (simp only [gA, gB, gC]; exact rfl); kernel_rfl; kernel_rfl; kernel_rfl; exact fun _ _ _ h => h; rfl; (intro w' hSw; (try dsimp only at hSw); go_simp; with_reducible rfl); simp only [Act.put, pB, pC, pD]
        refine tkH (by assumption) 4 (oi := ?_) (v := ?_) ?_ ?_ ?_ ?_ ?_ ?_ ?_ ?_; rotate_left 2; (simp only [gA, gB, gC]; exact rfl); kernel_rfl; kernel_rfl; kernel_rfl; exact fun _ _ _ h => h; rfl; (intro w' hSw; (try dsimp only at hSw); go_simp; with_reducible rfl); simp only [Act.put, pB, pC, pD]
        refine tkH (by assumption) 5 (oi := ?_) (v := ?_) ?_ ?_ ?_ ?_ ?_ ?_ ?_ ?_; rotate_left 2; (simp only [gA, gB, gC]; exact rfl); kernel_rfl; kernel_rfl; kernel_rfl; exact fun _ _ _ h => h; rfl; (intro w' hSw; (try dsimp only at hSw); go_simp; with_reducible rfl); simp only [Act.put, pB, pC, pD]
        refine tkH (by assumption) 7 (oi := ?_) (v := ?_) ?_ ?_ ?_ ?_ ?_ ?_ ?_ ?_; rotate_left 2; (simp only [gA, gB, gC]; exact rfl); kernel_rfl; kernel_rfl; kernel_rfl; exact fun _ _ _ h => h; rfl; (intro w' hSw; (try dsimp only at hSw); go_simp; with_reducible rfl); simp only [Act.put, pB, pC, pD]
        replace HS := Lib.hid (show Strm wf B (k + 3 + 2 * t) from by rw [show k + 3 + 2 * t = k + 2 + 2 * t + 1 by omega]; exact HSF.out)
        clear HSF
        have HSF := HS
        have HMO := HM
        refine absH (fun G A hG hA => ?_)
        suffices h_6_8_9 : ∀ (r6 : Nat) (g8 : Nat) (z9 : Int) (W : World), Hid (Strm W B ((k + 3 + 2 * t) + 2)) → Hid (Mut (· = B) wf W) → r6 < t → G 3 #[true, true, true, true, true, true, true, true, true, true, false, false, false] (((A.put (some 41) (.int .i64 (r6 : Int))).put (some 43) (.slice (some ⟨g8, 0, none⟩) 3 3)).put (some 44) (.int .i64 z9)) W by
          have h_6_8 : ∀ (r6 : Nat) (g8 : Nat) (W : World), Hid (Strm W B ((k + 3 + 2 * t) + 1)) → Hid (Mut (· = B) wf W) → Hid (W.heap[g8]? = some (.cells #[.int .i64 100000, .int .i64 100001, .int .i64 (-9223372036854775808)] 3 (0, 0))) → B < g8 → r6 < t → G 4 #[true, true, true, true, true, true, true, true, true, false, false, false, false] ((A.put (some 41) (.int .i64 (r6 : Int))).put (some 43) (.slice (some ⟨g8, 0, none⟩) 3 3)) W := by
            intro r6 g8 W HS HM HG8 hb8 hr6
            subst hA
            rw [hG]
            simp only [Act.put, pB, pC, pD]
            have hlW := HS.out.lt
            refine wpAnyH_ready (rs := [9]) (by kernel_rfl) (by simp) ?_
            refine coH 9 (oi := ?_) ?_ ?_ (fun K hK => ?_) ?_; rotate_left; (simp only [gA, gB, gC]; exact rfl); rfl
            · go_wp2_with (fail)
              refine (pick_any B _ g8 3 3 (fun _ => True) W HS.out (by omega) (by omega) (by omega) (by omega) (lt_of_heap HG8.out) (by
                intro i hi
                match i, hi with
                | 0, _ => exact ⟨_, cell_of HG8.out (i := 0) rfl, trivial⟩
                | 1, _ => exact ⟨_, cell_of HG8.out (i := 1) rfl, trivial⟩
                | 2, _ => exact ⟨_, cell_of HG8.out (i := 2) rfl, trivial⟩
                | j + 3, h => omega)).mono ?_
              rintro e Wn ⟨⟨z9, rfl, _⟩, hst, hmt⟩
              have HSn := Lib.hid hst
              have HMn := Lib.hid (HM.out.trans (hmt.mono fun _ _ h => h))
              clear hst hmt
              refine hK.out _ _ ((HMn.out.cell (p := ⟨q3, 0, none⟩) lq3 nq3).trans x3) (fun hHeldN => ?_)
              clear hK K
              try simp only [Act.put, pB, pC, pD]
              refine listedEq (l' := #[true, true, true, true, true, true, true, true, true, true, false, false, false]) (by kernel_rfl) ?_
              have h := h_6_8_9 r6 g8 z9 Wn HSn HMn hr6
              rw [hG] at h
              simp only [Act.put, pB, pC, pD] at h
              exact h
            exact AllReadyH.nil
          have h_6 : ∀ (r6 : Nat) (W : World), Hid (Strm W B ((k + 3 + 2 * t) + 1)) → Hid (Mut (· = B) wf W) → r6 < t → G 5 #[true, true, true, true, true, true, true, true, false, false, false, false, false] (A.put (some 41) (.int .i64 (r6 : Int))) W := by
            intro r6 W HS HM hr6
            subst hA
            rw [hG]
            simp only [Act.put, pB, pC, pD]
            have hlW := HS.out.lt
            refine wpAnyH_ready (rs := [8]) (by kernel_rfl) (by simp) ?_
            refine coH 8 (oi := ?_) ?_ ?_ (fun K hK => ?_) ?_; rotate_left; (simp only [gA, gB, gC]; exact rfl); rfl
            · go_wp2_with (fail)
              have HSn := Lib.hid (HS.out.alloc (.cells #[.int .i64 100000, .int .i64 100001, .int .i64 (-9223372036854775808)] 3))
              have HMn := Lib.hid (HM.out.alloc (.cells #[.int .i64 100000, .int .i64 100001, .int .i64 (-9223372036854775808)] 3))
              have HGn := Lib.hid (heap_alloc_new W (.cells #[.int .i64 100000, .int .i64 100001, .int .i64 (-9223372036854775808)] 3))
              refine hK.out _ _ ((HMn.out.cell (p := ⟨q3, 0, none⟩) lq3 nq3).trans x3) (fun hHeldN => ?_)
              clear hK K
              try simp only [Act.put, pB, pC, pD]
              refine listedEq (l' := #[true, true, true, true, true, true, true, true, true, false, false, false, false]) (by kernel_rfl) ?_
              have h := h_6_8 r6 W.heap.size (W.alloc (.cells #[.int .i64 100000, .int .i64 100001, .int .i64 (-9223372036854775808)] 3)) HSn HMn HGn hlW hr6
              rw [hG] at h
              simp only [Act.put, pB, pC, pD] at h
              exact h
            exact AllReadyH.nil
          have h_8 : ∀ (g8 : Nat) (W : World), Hid (Strm W B ((k + 3 + 2 * t) + 0)) → Hid (Mut (· = B) wf W) → Hid (W.heap[g8]? = some (.cells #[.int .i64 100000, .int .i64 100001, .int .i64 (-9223372036854775808)] 3 (0, 0))) → B < g8 → G 5 #[true, true, true, true, true, true, false, true, true, false, false, false, false] (A.put (some 43) (.slice (some ⟨g8, 0, none⟩) 3 3)) W := by
            intro g8 W HS HM HG8 hb8
            subst hA
            rw [hG]
            simp only [Act.put, pB, pC, pD]
            have hlW := HS.out.lt
            refine wpAnyH_ready (rs := [6]) (by kernel_rfl) (by simp) ?_
            refine coH 6 (oi := ?_) ?_ ?_ (fun K hK => ?_) ?_; rotate_left; (simp only [gA, gB, gC]; exact rfl); rfl
            · go_wp2_with (fail)
              refine (next_any B _ t W HS.out (by omega) (by omega) (by omega)).mono ?_
              rintro e Wn ⟨⟨z6, rfl, hz0, hz1⟩, hst, hmt⟩
              obtain ⟨r6, rfl⟩ := Int.eq_ofNat_of_zero_le hz0
              have hr6 : r6 < t := by omega
              clear hz0 hz1
              have HSn := Lib.hid hst
              have HMn := Lib.hid (HM.out.trans (hmt.mono fun _ _ h => h))
              have HK8 := Lib.hid ((hmt.block g8 (lt_of_heap HG8.out) (by show ¬ g8 = B; omega)).trans HG8.out)
              clear hst hmt
              refine hK.out _ _ ((HMn.out.cell (p := ⟨q3, 0, none⟩) lq3 nq3).trans x3) (fun hHeldN => ?_)
              clear hK K
              try simp only [Act.put, pB, pC, pD]
              refine listedEq (l' := #[true, true, true, true, true, true, true, true, true, false, false, false, false]) (by kernel_rfl) ?_
              have h := h_6_8 r6 g8 Wn HSn HMn HK8 hb8 hr6
              rw [hG] at h
              simp only [Act.put, pB, pC, pD] at h
              exact h
            exact AllReadyH.nil
          have h_0 : ∀  (W : World), Hid (Strm W B ((k + 3 + 2 * t) + 0)) → Hid (Mut (· = B) wf W) → G 6 #[true, true, true, true, true, true, false, true, false, false, false, false, false] A W := by
            intro W HS HM
            subst hA
            rw [hG]
            have hlW := HS.out.lt
            refine wpAnyH_ready (rs := [6, 8]) (by kernel_rfl) (by simp) ?_
            refine coH 6 (oi := ?_) ?_ ?_ (fun K hK => ?_) ?_; rotate_left; (simp only [gA, gB, gC]; exact rfl); rfl
            · go_wp2_with (fail)
              refine (next_any B _ t W HS.out (by omega) (by omega) (by omega)).mono ?_
              rintro e Wn ⟨⟨z6, rfl, hz0, hz1⟩, hst, hmt⟩
              obtain ⟨r6, rfl⟩ := Int.eq_ofNat_of_zero_le hz0
              have hr6 : r6 < t := by omega
              clear hz0 hz1
              have HSn := Lib.hid hst
              have HMn := Lib.hid (HM.out.trans (hmt.mono fun _ _ h => h))
              clear hst hmt
              refine hK.out _ _ ((HMn.out.cell (p := ⟨q3, 0, none⟩) lq3 nq3).trans x3) (fun hHeldN => ?_)
              clear hK K
              try simp only [Act.put, pB, pC, pD]
              refine listedEq (l' := #[true, true, true, true, true, true, true, true, false, false, false, false, false]) (by kernel_rfl) ?_
              have h := h_6 r6 Wn HSn HMn hr6
              rw [hG] at h
              simp only [Act.put, pB, pC, pD] at h
              exact h
            refine coH 8 (oi := ?_) ?_ ?_ (fun K hK => ?_) ?_; rotate_left; (simp only [gA, gB, gC]; exact rfl); rfl
            · go_wp2_with (fail)
              have HSn := Lib.hid (HS.out.alloc (.cells #[.int .i64 100000, .int .i64 100001, .int .i64 (-9223372036854775808)] 3))
              have HMn := Lib.hid (HM.out.alloc (.cells #[.int .i64 100000, .int .i64 100001, .int .i64 (-9223372036854775808)] 3))
              have HGn := Lib.hid (heap_alloc_new W (.cells #[.int .i64 100000, .int .i64 100001, .int .i64 (-9223372036854775808)] 3))
              refine hK.out _ _ ((HMn.out.cell (p := ⟨q3, 0, none⟩) lq3 nq3).trans x3) (fun hHeldN => ?_)
              clear hK K
              try simp only [Act.put, pB, pC, pD]
              refine listedEq (l' := #[true, true, true, true, true, true, false, true, true, false, false, false, false]) (by kernel_rfl) ?_
              have h := h_8 W.heap.size (W.alloc (.cells #[.int .i64 100000, .int .i64 100001, .int .i64 (-9223372036854775808)] 3)) HSn HMn HGn hlW
              rw [hG] at h
              simp only [Act.put, pB, pC, pD] at h
              exact h
            exact AllReadyH.nil
          have h := h_0 wf.drew (Lib.hid (StrmV.drew HSF.out)) (Lib.hid (Mut.refl _ wf).drew)
          exact h
        intro r6 g8 z9 W HS HM hr6
        subst hA
        rw [hG]
        simp only [Act.put, pB, pC, pD]
        have hS9 := (HM.out.cell (p := ⟨q3, 0, none⟩) lq3 nq3).trans x3
        have H3W := Lib.hid ((HM.out.block q3 lq3 nq3).trans H3.out)
        have H2W := Lib.hid ((HM.out.block q2 (lt_of_heap H2.out) (by show ¬ q2 = B; omega)).trans H2.out)
        have HOW := Lib.hid (own_mutV HO.out HM.out (fun b hb e => by have := (HO.out.lt b hb).1; omega))
        have HMW := Lib.hid (HMO.out.trans HM.out)
        have b1 : (r6 : Int) < (t : Int) := by omega
        have b2 : (0 : Int) ≤ (r6 : Int) := by omega
        have c0 := HOW.out.cellAt (r6 * 2) (by omega)
        have hlen := HOW.out.1
        obtain ⟨u0, hu0⟩ : ∃ u, xs[r6 * 2]? = some u := ⟨_, List.getElem?_eq_getElem (by omega)⟩
        rw [hu0] at c0
        have f0 := HOW.out.frozenAt (r6 * 2)
        clear hu0 hlen
        refine tkH hS9 10 (oi := ?_) (v := ?_) ?_ ?_ ?_ ?_ ?_ ?_ ?_ ?_; rotate_left 2; (simp only [gA, gB, gC]; exact rfl); kernel_rfl; kernel_rfl; kernel_rfl; exact fun _ _ _ h => h; rfl; (intro w' hSw; go_simp; with_reducible rfl); simp only [Act.put, pB, pC, pD]
        refine tkH hS9 11 (oi := ?_) (v := ?_) ?_ ?_ ?_ ?_ ?_ ?_ ?_ ?_; rotate_left 2; (simp only [gA, gB, gC]; exact rfl); kernel_rfl; kernel_rfl; kernel_rfl; exact fun _ _ _ h => h; rfl; (intro w' hSw; go_simp; with_reducible rfl); simp only [Act.put, pB, pC, pD]
        refine onH 12 (oi := ?_) (by kernel_rfl) ?_ ?_ (fun K hK => ?_); rotate_left; (simp only [gA, gB, gC]; exact rfl); rfl
        go_wp2_with (fail)
        have n3g : ¬ g = q3 := by omega
        refine hK.out _ _ ((sc_other (ne_block n3g)).trans hS9) (fun hHeldN => ?_)
        clear hK K
        have hHeldX := hHeldN
        clear hHeldN
        try simp only [Act.put, pB, pC, pD]
        have h93 := Lib.hid ((Below.heap_setCell W ⟨g, r6 * 2, none⟩ (.int .i64 z9) q3 (by show q3 ≠ g; omega)).trans H3W.out)
        have h92 := Lib.hid ((Below.heap_setCell W ⟨g, r6 * 2, none⟩ (.int .i64 z9) q2 (by show q2 ≠ g; omega)).trans H2W.out)
        have h9O := Lib.hid (own_setV (o := r6 * 2) (u := .int .i64 z9) HOW.out)
        have h9S := Lib.hid (StrmV.setCell HS.out (a := ⟨g, r6 * 2, none⟩) (by show B < g; omega) (.int .i64 z9))
        have h9M := Lib.hid (HMW.out.setCell (p := ⟨g, r6 * 2, none⟩) (fun e => absurd e (by show ¬ g < w.heap.size; have := HQ2.out; omega)) (.int .i64 z9))
        replace HAX := Lib.hid (HAX.out.set (r6 * 2) z9)
        clear HS HM H2 H3 H4 HO HOW HMW H3W H2W HMO HSF c0 f0 hS9 x3
        generalize (W.setCell ⟨g, r6 * 2, none⟩ (.int .i64 z9)) = W9 at *
        obtain ⟨a, ha⟩ : ∃ a : Option Addr, a = some ⟨g, 0, none⟩ := ⟨_, rfl⟩
        rw [← ha] at h93 h9O
        refine wpAnyH_done (by kernel_rfl) ?_ _
        go_wp2_with (fail)
        have HS := Lib.hid (h9S.out.more (k' := k + 20) (by omega) (by omega))
        have HM := h9M
        have H2 := h92
        have H3 := h93
        have HO := h9O
        clear h9S h9M h92 h93 h9O
        generalize xs.set (r6 * 2) (.int .i64 z9) = xs at *
        clear ha
        refine (flip_any B (k + 20) 40 _ HS.out (by omega) (by omega) (by omega)).mono ?_
        rintro e VV ⟨⟨fb, rfl⟩, hst, hmt⟩
        replace HS := Lib.hid hst
        replace HM := Lib.hid (HM.out.trans hmt)
        replace H2 := Lib.hid ((hmt.block q2 (lt_of_heap H2.out) (by show ¬ q2 = B; omega)).trans H2.out)
        replace H3 := Lib.hid ((hmt.block q3 (lt_of_heap H3.out) (by show ¬ q3 = B; omega)).trans H3.out)
        replace HO := Lib.hid (own_mutV HO.out hmt (fun b hb e => by have := (HO.out.lt b hb).1; omega))
        clear hst hmt
        have hcap := own_capP HO.out
        rcases fb with _ | _
        · obtain ⟨X, Y, hXY⟩ := pts_of_all (own_mutU (own_mutU HO.out (b := q2) 0 (.slice a t c) (fun e => by have := (HO.out.lt q2 e).1; omega)) (b := q2) 1 (.bool kf) (fun e => by have := (HO.out.lt q2 e).1; omega)) HAX.out
          have HFAR := Lib.hid (show ∀ x, a = some x → B < x.block from fun x hx => by have := (HO.out.lt x.block (by rw [hx]; rfl)).1; omega)
          have d0 := cell_of H3.out (i := 0) rfl
          have d1 := cell_of H3.out (i := 1) rfl
          have d2 := cell_of H2.out (i := 0) rfl
          have d3 := cell_of H2.out (i := 1) rfl
          have f2 := frozen_of H2.out (i := 0)
          have f3 := frozen_of H2.out (i := 1)
          have hs2 := set2V_1 (u := .bool kf) (set2V_0 (u := .slice a t c) H2.out)
          have HSV := Lib.hid (StrmV.setCell (StrmV.setCell HS.out (a := ⟨q2, 0, none⟩) (by show B < q2; omega) (.slice a t c)) (a := ⟨q2, 1, none⟩) (by show B < q2; omega) (.bool kf))
          have HMV := Lib.hid ((HM.out.setCell (p := ⟨q2, 0, none⟩) (fun e => absurd e (by show ¬ q2 < w.heap.size; have := HQ2.out; omega)) (.slice a t c)).setCell (p := ⟨q2, 1, none⟩) (fun e => absurd e (by show ¬ q2 < w.heap.size; have := HQ2.out; omega)) (.bool kf))
          have g0 := cell_of hs2 (i := 0) rfl
          have g1 := cell_of hs2 (i := 1) rfl
          have HPV := Lib.hid hXY
          go_wp2_with (fail)
          generalize ((VV.setCell ⟨q2, 0, none⟩ (.slice a t c)).setCell ⟨q2, 1, none⟩ (.bool kf)) = VE at *
          exact bodyPost_ret (v := .agg #[.slice a t c, .bool kf]) (by simp [results, Try.results40, go_sem, g0, g1]) rfl ⟨_, _, _, _, _, kf, rfl, by omega, by omega, HPV.out, by first | exact HFAR.out | exact (fun x hx => by cases hx; show B < _; omega), HSV.out.more (by omega) (by omega), HMV.out⟩
        · have lv3 : q3 < VV.heap.size := lt_of_heap H3.out
          have HB := Lib.hid ((Below.refl VV.heap.size VV).alloc (Nat.le_refl _) (.cells #[.int .i64 0, .int .i64 0] 102))
          go_wp2_with (fail)
          have HG := Lib.hid (heap_alloc_new VV (.cells #[.int .i64 0, .int .i64 0] 102))
          have hsz1 : (VV.alloc (.cells #[.int .i64 0, .int .i64 0] 102)).heap.size = VV.heap.size + 1 := by simp
          have HSA := Lib.hid (HS.out.alloc (.cells #[.int .i64 0, .int .i64 0] 102))
          replace HM := Lib.hid (HM.out.below HB.out)
          replace H2 := Lib.hid (heap_keep HB.out H2.out)
          replace H3 := Lib.hid (heap_keep HB.out H3.out)
          clear hcap
          clear HB HO
          generalize (VV.alloc (.cells #[.int .i64 0, .int .i64 0] 102)) = V1 at *
          obtain ⟨gp, hgp⟩ : ∃ g, g = VV.heap.size := ⟨_, rfl⟩
          rw [← hgp] at HG hsz1 lv3
          try rw [← hgp]
          clear hgp
          refine (pick_atV B _ [0, 1, 3, 500, 501] 5 (fun z => z = 0 ∨ z = 1 ∨ z = 3 ∨ z = 500 ∨ z = 501) V1 _ hsz1 HSA.out (by omega) rfl (by omega) (by omega) (by simp)).mono ?_
          rintro e V2 ⟨⟨z, rfl, hz⟩, hst, hmt⟩
          replace HS := Lib.hid hst
          replace HM := Lib.hid (HM.out.trans hmt)
          replace H2 := Lib.hid ((hmt.block q2 (lt_of_heap H2.out) (by show ¬ q2 = B; omega)).trans H2.out)
          replace H3 := Lib.hid ((hmt.block q3 (lt_of_heap H3.out) (by show ¬ q3 = B; omega)).trans H3.out)
          replace HG := Lib.hid ((hmt.block gp (lt_of_heap HG.out) (by show ¬ gp = B; omega)).trans HG.out)
          have c0 := cell_of HG.out (i := 0) rfl
          have c1 := cell_of HG.out (i := 1) rfl
          clear hst hmt HSA
          have lp2 : gp < V2.heap.size := lt_of_heap HG.out
          by_cases hz0 : z = 0
          · subst hz0
            clear hz
            go_wp2_with (fail)
            refine (repeatP_zero gp 0 0 V2 c0).mono ?_
            rintro e V3 ⟨g3, rfl, hg3, hb3⟩
            have HPT := Lib.hid (show PtsR V3 (some ⟨g3, 0, none⟩) 0 (fun _ => 0) (fun _ => 0) from .inl rfl)
            replace HS := Lib.hid (StrmV.below HS.out hb3)
            replace HM := Lib.hid (HM.out.below hb3)
            replace H2 := Lib.hid (heap_keep hb3 H2.out)
            replace H3 := Lib.hid (heap_keep hb3 H3.out)
            have hg3' : gp < g3 := by omega
            clear hb3 c0 c1 HG
            have k30 := cell_of H3.out (i := 0) rfl
            have k31 := cell_of H3.out (i := 1) rfl
            have kf3 := frozen_of H3.out (i := 0)
            have d2 := cell_of H2.out (i := 0) rfl
            have d3 := cell_of H2.out (i := 1) rfl
            have f2 := frozen_of H2.out (i := 0)
            have f3 := frozen_of H2.out (i := 1)
            have n23 : ¬ q2 = q3 := by omega
            have n32 : ¬ q3 = q2 := by omega
            have hs2 := set2V_1 (u := .bool kf) (set2V_0 (u := .slice (some ⟨g3, 0, none⟩) 0 0) ((Below.heap_setCell V3 ⟨q3, 0, none⟩ (.slice (some ⟨g3, 0, none⟩) 0 0) q2 n23).trans H2.out))
            have HSV := Lib.hid (StrmV.setCell (StrmV.setCell (StrmV.setCell HS.out (a := ⟨q3, 0, none⟩) (by show B < q3; omega) (.slice (some ⟨g3, 0, none⟩) 0 0)) (a := ⟨q2, 0, none⟩) (by show B < q2; omega) (.slice (some ⟨g3, 0, none⟩) 0 0)) (a := ⟨q2, 1, none⟩) (by show B < q2; omega) (.bool kf))
            have HMV := Lib.hid (((HM.out.setCell (p := ⟨q3, 0, none⟩) (fun e => absurd e (by show ¬ q3 < w.heap.size; have := HQ2.out; omega)) (.slice (some ⟨g3, 0, none⟩) 0 0)).setCell (p := ⟨q2, 0, none⟩) (fun e => absurd e (by show ¬ q2 < w.heap.size; have := HQ2.out; omega)) (.slice (some ⟨g3, 0, none⟩) 0 0)).setCell (p := ⟨q2, 1, none⟩) (fun e => absurd e (by show ¬ q2 < w.heap.size; have := HQ2.out; omega)) (.bool kf))
            have g0 := cell_of hs2 (i := 0) rfl
            have g1 := cell_of hs2 (i := 1) rfl
            have HPV := Lib.hid (ptsR_set (ptsR_set (ptsR_set HPT.out (b := q3) (o := 0) (v := .slice (some ⟨g3, 0, none⟩) 0 0) (fun x hx => by cases hx; show g3 ≠ q3; omega)) (b := q2) (o := 0) (v := .slice (some ⟨g3, 0, none⟩) 0 0) (fun x hx => by cases hx; show g3 ≠ q2; omega)) (b := q2) (o := 1) (v := .bool kf) (fun x hx => by cases hx; show g3 ≠ q2; omega))
            go_wp2_with (fail)
            generalize (((V3.setCell ⟨q3, 0, none⟩ (.slice (some ⟨g3, 0, none⟩) 0 0)).setCell ⟨q2, 0, none⟩ (.slice (some ⟨g3, 0, none⟩) 0 0)).setCell ⟨q2, 1, none⟩ (.bool kf)) = VE at *
            exact bodyPost_ret (v := .agg #[.slice (some ⟨g3, 0, none⟩) 0 0, .bool kf]) (by simp [results, Try.results40, go_sem, g0, g1]) rfl ⟨_, _, _, _, _, kf, rfl, by omega, by omega, HPV.out, (fun x hx => by cases hx; show B < g3; omega), HSV.out.more (by omega) (by omega), HMV.out⟩
          · obtain ⟨n, rfl⟩ := Int.eq_ofNat_of_zero_le (show 0 ≤ z by omega)
            have hn : n = 1 ∨ n = 3 ∨ n = 500 ∨ n = 501 := by omega
            have HN := Lib.hid hn
            clear hz hz0 hn
            go_wp2_with (fail)
            refine (repeatP_any gp n 0 0 V2 HN.out c0 c1).mono ?_
            rintro e V3 ⟨g3, rfl, hp, hg3, hb3⟩
            have HPT := Lib.hid (pts_of_pat hp)
            have hn5 : n ≤ 1000 := by have := HN.out; omega
            clear hp
            replace HS := Lib.hid (StrmV.below HS.out hb3)
            replace HM := Lib.hid (HM.out.below hb3)
            replace H2 := Lib.hid (heap_keep hb3 H2.out)
            replace H3 := Lib.hid (heap_keep hb3 H3.out)
            have hg3' : gp < g3 := by omega
            clear hb3 c0 c1 HG
            have k30 := cell_of H3.out (i := 0) rfl
            have k31 := cell_of H3.out (i := 1) rfl
            have kf3 := frozen_of H3.out (i := 0)
            have d2 := cell_of H2.out (i := 0) rfl
            have d3 := cell_of H2.out (i := 1) rfl
            have f2 := frozen_of H2.out (i := 0)
            have f3 := frozen_of H2.out (i := 1)
            have n23 : ¬ q2 = q3 := by omega
            have n32 : ¬ q3 = q2 := by omega
            have hs2 := set2V_1 (u := .bool kf) (set2V_0 (u := .slice (some ⟨g3, 0, none⟩) n n) ((Below.heap_setCell V3 ⟨q3, 0, none⟩ (.slice (some ⟨g3, 0, none⟩) n n) q2 n23).trans H2.out))
            have HSV := Lib.hid (StrmV.setCell (StrmV.setCell (StrmV.setCell HS.out (a := ⟨q3, 0, none⟩) (by show B < q3; omega) (.slice (some ⟨g3, 0, none⟩) n n)) (a := ⟨q2, 0, none⟩) (by show B < q2; omega) (.slice (some ⟨g3, 0, none⟩) n n)) (a := ⟨q2, 1, none⟩) (by show B < q2; omega) (.bool kf))
            have HMV := Lib.hid (((HM.out.setCell (p := ⟨q3, 0, none⟩) (fun e => absurd e (by show ¬ q3 < w.heap.size; have := HQ2.out; omega)) (.slice (some ⟨g3, 0, none⟩) n n)).setCell (p := ⟨q2, 0, none⟩) (fun e => absurd e (by show ¬ q2 < w.heap.size; have := HQ2.out; omega)) (.slice (some ⟨g3, 0, none⟩) n n)).setCell (p := ⟨q2, 1, none⟩) (fun e => absurd e (by show ¬ q2 < w.heap.size; have := HQ2.out; omega)) (.bool kf))
            have g0 := cell_of hs2 (i := 0) rfl
            have g1 := cell_of hs2 (i := 1) rfl
            have HPV := Lib.hid (ptsR_set (ptsR_set (ptsR_set HPT.out (b := q3) (o := 0) (v := .slice (some ⟨g3, 0, none⟩) n n) (fun x hx => by cases hx; show g3 ≠ q3; omega)) (b := q2) (o := 0) (v := .slice (some ⟨g3, 0, none⟩) n n) (fun x hx => by cases hx; show g3 ≠ q2; omega)) (b := q2) (o := 1) (v := .bool kf) (fun x hx => by cases hx; show g3 ≠ q2; omega))
            go_wp2_with (fail)
            generalize (((V3.setCell ⟨q3, 0, none⟩ (.slice (some ⟨g3, 0, none⟩) n n)).setCell ⟨q2, 0, none⟩ (.slice (some ⟨g3, 0, none⟩) n n)).setCell ⟨q2, 1, none⟩ (.bool kf)) = VE at *
            exact bodyPost_ret (v := .agg #[.slice (some ⟨g3, 0, none⟩) n n, .bool kf]) (by simp [results, Try.results40, go_sem, g0, g1]) rfl ⟨_, _, _, _, _, kf, rfl, by omega, by omega, HPV.out, (fun x hx => by cases hx; show B < g3; omega), HSV.out.more (by omega) (by omega), HMV.out⟩
end Go.Proofs.Ytdanlnmdkneepaa

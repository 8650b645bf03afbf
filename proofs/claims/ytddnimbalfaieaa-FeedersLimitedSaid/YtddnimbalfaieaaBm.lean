/- The law FeedersLimited. -/
import Derived.Test.YtddnimbalfaieaaBm0
set_option linter.unusedSimpArgs false
set_option linter.unusedVariables false
namespace Go.Proofs.Ytddnimbalfaieaa
open Go.RowKit
set_option maxRecDepth 100000 in
set_option maxHeartbeats 64000000 in
theorem feedersLimited_walk (a0 : Option Addr) (len0 cap0 : Nat) (z0 : List Int) (w : World) (w0 : IsRow .i64 w a0 len0 cap0 z0) :
    Calls Try.prog 4 #[.slice a0 len0 cap0] w fun e w' => e = .returned (.bool true) ∧ Below w.heap.size w w' := by
  have HS0 := Lib.hid (Strm.start w0)
  go_enter Try.func4, Try.ntmps4
  go_wp2_with (fail)
  have HM0 : Hid (Mut (· = w.heap.size) w (w.alloc (.cells #[.slice a0 len0 cap0, .int .i64 0] 25))) := Lib.hid ((Mut.refl _ w).alloc _)
  have hl0 : w.heap.size < (w.alloc (.cells #[.slice a0 len0 cap0, .int .i64 0] 25)).heap.size := by simp
  generalize (w.alloc (.cells #[.slice a0 len0 cap0, .int .i64 0] 25)) = ws at *
  obtain ⟨B, hBw⟩ : ∃ B, B = w.heap.size := ⟨_, rfl⟩
  rw [← hBw] at HS0 HM0 hl0 ⊢
  have HBW := Lib.hid hBw
  clear hBw
  refine (beadList_any B 0 _ HS0.out (by omega)).mono ?_
  rintro e w1 ⟨a, n, c, L, W', H, rfl, hn6, hcn, hp, hfa, hst, hmt⟩
  have HP := Lib.hid hp
  have HFA := Lib.hid hfa
  have HS := Lib.hid hst
  have HM := Lib.hid (HM0.out.trans (hmt.mono fun _ _ h => h))
  clear hp hfa hst hmt HS0 HM0
  go_wp2_with (fail)
  refine (anArea_any B _ w1 HS.out (by omega)).mono ?_
  rintro e w2 ⟨⟨x, rfl, _⟩, hst, hmt⟩
  replace HP := Lib.hid (HP.out.mut hmt HFA.out)
  replace HS := Lib.hid hst
  replace HM := Lib.hid (HM.out.trans (hmt.mono fun _ _ h => h))
  clear hst hmt
  go_wp2_with (fail)
  refine (pick_atV B _ [1, 800, 0, 5001] 4 (fun _ => True) w2 _ rfl HS.out (by omega) rfl (by omega) (by omega) (by simp)).mono ?_
  rintro e w3 ⟨⟨back, rfl, _⟩, hst, hmt⟩
  replace HP := Lib.hid (HP.out.mut hmt HFA.out)
  replace HS := Lib.hid hst
  replace HM := Lib.hid (HM.out.trans (hmt.mono fun _ _ h => h))
  clear hst hmt
  go_wp2_with (fail)
  refine (beadPlaces_any B _ n w3 HS.out (by omega) hn6).mono ?_
  rintro e w4 ⟨aq, m, cq, V, rfl, hm6, hcm, hv, hfv, hst, hmt⟩
  replace HP := Lib.hid (HP.out.mut hmt HFA.out)
  have HV := Lib.hid hv
  have HFV := Lib.hid hfv
  replace HS := Lib.hid hst
  replace HM := Lib.hid (HM.out.trans (hmt.mono fun _ _ h => h))
  clear hv hfv hst hmt
  go_wp2_with (fail)
  refine (pick_atV B _ [1, 1000, 90000, 0, 1000000000001] 5 (fun _ => True) w4 _ rfl HS.out (by omega) rfl (by omega) (by omega) (by simp)).mono ?_
  rintro e w5 ⟨⟨f, rfl, _⟩, hst, hmt⟩
  replace HP := Lib.hid (HP.out.mut hmt HFA.out)
  replace HV := Lib.hid (HV.out.mut hmt HFV.out)
  replace HS := Lib.hid hst
  replace HM := Lib.hid (HM.out.trans (hmt.mono fun _ _ h => h))
  clear hst hmt
  go_wp2_with (fail)
  refine (pick_atV B _ [1, 1240, 0, 1000001] 4 (fun _ => True) w5 _ rfl HS.out (by omega) rfl (by omega) (by omega) (by simp)).mono ?_
  rintro e w6 ⟨⟨d, rfl, _⟩, hst, hmt⟩
  replace HP := Lib.hid (HP.out.mut hmt HFA.out)
  replace HV := Lib.hid (HV.out.mut hmt HFV.out)
  replace HS := Lib.hid hst
  replace HM := Lib.hid (HM.out.trans (hmt.mono fun _ _ h => h))
  clear hst hmt
  go_wp2_with (fail)
  have HMO := HM
  replace HS := Lib.hid (HS.out.more (k' := 100) (by omega) (by omega))
  refine wp_region_held_drew (S := (fun _ => True)) (by kernel_rfl) True.intro (fun hHeld => ?_)
  refine tkH (by assumption) 0 (oi := ?_) (v := ?_) ?_ ?_ ?_ ?_ ?_ ?_ ?_ ?_; rotate_left 2; (simp only [gA, gB, gC]; exact rfl); kernel_rfl; kernel_rfl; kernel_rfl; exact fun _ _ _ h => h; rfl; (intro w' hSw; (try dsimp only at hSw); go_simp; with_reducible rfl); simp only [Act.put, pB, pC, pD]
  refine tkH (by assumption) 3 (oi := ?_) (v := ?_) ?_ ?_ ?_ ?_ ?_ ?_ ?_ ?_; rotate_left 2; (simp only [gA, gB, gC]; exact rfl); kernel_rfl; kernel_rfl; kernel_rfl; exact fun _ _ _ h => h; rfl; (intro w' hSw; (try dsimp only at hSw); go_simp; with_reducible rfl); simp only [Act.put, pB, pC, pD]
  refine tkH (by assumption) 6 (oi := ?_) (v := ?_) ?_ ?_ ?_ ?_ ?_ ?_ ?_ ?_; rotate_left 2; (simp only [gA, gB, gC]; exact rfl); kernel_rfl; kernel_rfl; kernel_rfl; exact fun _ _ _ h => h; rfl; (intro w' hSw; (try dsimp only at hSw); go_simp; with_reducible rfl); simp only [Act.put, pB, pC, pD]
  refine tkH (by assumption) 10 (oi := ?_) (v := ?_) ?_ ?_ ?_ ?_ ?_ ?_ ?_ ?_; rotate_left 2; (simp only [gA, gB, gC]; exact rfl); kernel_rfl; kernel_rfl; kernel_rfl; exact fun _ _ _ h => h; rfl; (intro w' hSw; (try dsimp only at hSw); go_simp; with_reducible rfl); simp only [Act.put, pB, pC, pD]
  refine tkH (by assumption) 13 (oi := ?_) (v := ?_) ?_ ?_ ?_ ?_ ?_ ?_ ?_ ?_; rotate_left 2; (simp only [gA, gB, gC]; exact rfl); kernel_rfl; kernel_rfl; kernel_rfl; exact fun _ _ _ h => h; rfl; (intro w' hSw; (try dsimp only at hSw); go_simp; with_reducible rfl); simp only [Act.put, pB, pC, pD]
  refine absH (fun G A hG hA => ?_)
  suffices h_1_2_4_5_7_8_9_11_14_15 : ∀ (g1 : Nat) (z2 : Int) (g4 : Nat) (z5 : Int) (g7 : Nat) (z8 : Int) (g9 : Nat) (r11 : Nat) (g14 : Nat) (z15 : Int) (W : World), Hid (Strm W B (100 + 5)) → Hid (Mut (· = B) w6 W) → Hid (W.heap[g9]? = some (.cells #[.int .i64 z2, .int .i64 z5, .int .i64 z8] 3 (0, 0))) → B < g9 → r11 ≤ 3 → G 2 #[true, true, true, true, true, true, true, true, true, true, true, true, true, true, true, true, false, false] (((((((((((A.put (some 51) (.slice (some ⟨g1, 0, none⟩) 3 3)).put (some 52) (.int .i64 z2)).put (some 54) (.slice (some ⟨g4, 0, none⟩) 3 3)).put (some 55) (.int .i64 z5)).put (some 57) (.slice (some ⟨g7, 0, none⟩) 3 3)).put (some 58) (.int .i64 z8)).put (some 59) (.slice (some ⟨g9, 0, none⟩) 3 3)).put (some 61) (.int .i64 (r11 : Int))).put (some 62) (.slice (some ⟨g9, 0, none⟩) r11 3)).put (some 64) (.slice (some ⟨g14, 0, none⟩) 4 4)).put (some 65) (.int .i64 z15)) W by
    have h_1_2_4_5_7_8_9_11_14 : ∀ (g1 : Nat) (z2 : Int) (g4 : Nat) (z5 : Int) (g7 : Nat) (z8 : Int) (g9 : Nat) (r11 : Nat) (g14 : Nat) (W : World), Hid (Strm W B (100 + 4)) → Hid (Mut (· = B) w6 W) → Hid (W.heap[g9]? = some (.cells #[.int .i64 z2, .int .i64 z5, .int .i64 z8] 3 (0, 0))) → B < g9 → Hid (W.heap[g14]? = some (.cells #[.int .i64 0, .int .i64 10, .int .i64 100, .int .i64 (-1)] 3 (0, 0))) → B < g14 → r11 ≤ 3 → G 3 #[true, true, true, true, true, true, true, true, true, true, true, true, true, true, true, false, false, false] ((((((((((A.put (some 51) (.slice (some ⟨g1, 0, none⟩) 3 3)).put (some 52) (.int .i64 z2)).put (some 54) (.slice (some ⟨g4, 0, none⟩) 3 3)).put (some 55) (.int .i64 z5)).put (some 57) (.slice (some ⟨g7, 0, none⟩) 3 3)).put (some 58) (.int .i64 z8)).put (some 59) (.slice (some ⟨g9, 0, none⟩) 3 3)).put (some 61) (.int .i64 (r11 : Int))).put (some 62) (.slice (some ⟨g9, 0, none⟩) r11 3)).put (some 64) (.slice (some ⟨g14, 0, none⟩) 4 4)) W := by
      intro g1 z2 g4 z5 g7 z8 g9 r11 g14 W HS HM HG9 hb9 HG14 hb14 hr11
      subst hA
      rw [hG]
      simp only [Act.put, pB, pC, pD]
      have hlW := HS.out.lt
      refine wpAnyH_ready (rs := [15]) (by kernel_rfl) (by simp) ?_
      refine coH 15 (oi := ?_) ?_ ?_ (fun K hK => ?_) ?_; rotate_left; (simp only [gA, gB, gC]; exact rfl); rfl
      · go_wp2_with (fail)
        refine (pick_any B _ g14 4 4 (fun _ => True) W HS.out (by omega) (by omega) (by omega) (by omega) (lt_of_heap HG14.out) (by
          intro i hi
          match i, hi with
          | 0, _ => exact ⟨_, cell_of HG14.out (i := 0) rfl, trivial⟩
          | 1, _ => exact ⟨_, cell_of HG14.out (i := 1) rfl, trivial⟩
          | 2, _ => exact ⟨_, cell_of HG14.out (i := 2) rfl, trivial⟩
          | 3, _ => exact ⟨_, cell_of HG14.out (i := 3) rfl, trivial⟩
          | j + 4, h => omega)).mono ?_
        rintro e Wn ⟨⟨z15, rfl, _⟩, hst, hmt⟩
        have HSn := Lib.hid hst
        have HMn := Lib.hid (HM.out.trans (hmt.mono fun _ _ h => h))
        have HK9 := Lib.hid ((hmt.block g9 (lt_of_heap HG9.out) (by show ¬ g9 = B; omega)).trans HG9.out)
        clear hst hmt
        refine hK.out _ _ True.intro (fun hHeldN => ?_)
        clear hK K
        try simp only [Act.put, pB, pC, pD]
        refine listedEq (l' := #[true, true, true, true, true, true, true, true, true, true, true, true, true, true, true, true, false, false]) (by kernel_rfl) ?_
        have h := h_1_2_4_5_7_8_9_11_14_15 g1 z2 g4 z5 g7 z8 g9 r11 g14 z15 Wn HSn HMn HK9 hb9 hr11
        rw [hG] at h
        simp only [Act.put, pB, pC, pD] at h
        exact h
      exact AllReadyH.nil
    have h_1_2_4_5_7_8_11_14_15 : ∀ (g1 : Nat) (z2 : Int) (g4 : Nat) (z5 : Int) (g7 : Nat) (z8 : Int) (r11 : Nat) (g14 : Nat) (z15 : Int) (W : World), Hid (Strm W B (100 + 5)) → Hid (Mut (· = B) w6 W) → r11 ≤ 3 → G 4 #[true, true, true, true, true, true, true, true, true, false, true, true, false, true, true, true, false, false] (((((((((A.put (some 51) (.slice (some ⟨g1, 0, none⟩) 3 3)).put (some 52) (.int .i64 z2)).put (some 54) (.slice (some ⟨g4, 0, none⟩) 3 3)).put (some 55) (.int .i64 z5)).put (some 57) (.slice (some ⟨g7, 0, none⟩) 3 3)).put (some 58) (.int .i64 z8)).put (some 61) (.int .i64 (r11 : Int))).put (some 64) (.slice (some ⟨g14, 0, none⟩) 4 4)).put (some 65) (.int .i64 z15)) W := by
      intro g1 z2 g4 z5 g7 z8 r11 g14 z15 W HS HM hr11
      subst hA
      rw [hG]
      simp only [Act.put, pB, pC, pD]
      have hlW := HS.out.lt
      refine wpAnyH_ready (rs := [9]) (by kernel_rfl) (by simp) ?_
      refine coH 9 (oi := ?_) ?_ ?_ (fun K hK => ?_) ?_; rotate_left; (simp only [gA, gB, gC]; exact rfl); rfl
      · go_wp2_with (fail)
        have HSn := Lib.hid (HS.out.alloc (.cells #[.int .i64 z2, .int .i64 z5, .int .i64 z8] 3))
        have HMn := Lib.hid (HM.out.alloc (.cells #[.int .i64 z2, .int .i64 z5, .int .i64 z8] 3))
        have HGn := Lib.hid (heap_alloc_new W (.cells #[.int .i64 z2, .int .i64 z5, .int .i64 z8] 3))
        refine hK.out _ _ True.intro (fun hHeldN => ?_)
        clear hK K
        try simp only [Act.put, pB, pC, pD]
        have hSW : True := trivial
        have q0 : (0 : Int) ≤ (r11 : Int) := by omega
        have q1 : (r11 : Int) ≤ 3 := by omega
        refine tkH True.intro 12 (oi := ?_) (v := ?_) ?_ ?_ ?_ ?_ ?_ ?_ ?_ ?_; rotate_left 2; (simp only [gA, gB, gC]; exact rfl); kernel_rfl; kernel_rfl; kernel_rfl; exact fun _ _ _ h => h; rfl; (intro w' hSw; go_simp; with_reducible rfl); simp only [Act.put, pB, pC, pD]
        refine listedEq (l' := #[true, true, true, true, true, true, true, true, true, true, true, true, true, true, true, true, false, false]) (by kernel_rfl) ?_
        have h := h_1_2_4_5_7_8_9_11_14_15 g1 z2 g4 z5 g7 z8 W.heap.size r11 g14 z15 (W.alloc (.cells #[.int .i64 z2, .int .i64 z5, .int .i64 z8] 3)) HSn HMn HGn hlW hr11
        rw [hG] at h
        simp only [Act.put, pB, pC, pD] at h
        exact h
      exact AllReadyH.nil
    have h_1_2_4_5_7_8_9_11 : ∀ (g1 : Nat) (z2 : Int) (g4 : Nat) (z5 : Int) (g7 : Nat) (z8 : Int) (g9 : Nat) (r11 : Nat) (W : World), Hid (Strm W B (100 + 4)) → Hid (Mut (· = B) w6 W) → Hid (W.heap[g9]? = some (.cells #[.int .i64 z2, .int .i64 z5, .int .i64 z8] 3 (0, 0))) → B < g9 → r11 ≤ 3 → G 4 #[true, true, true, true, true, true, true, true, true, true, true, true, true, true, false, false, false, false] (((((((((A.put (some 51) (.slice (some ⟨g1, 0, none⟩) 3 3)).put (some 52) (.int .i64 z2)).put (some 54) (.slice (some ⟨g4, 0, none⟩) 3 3)).put (some 55) (.int .i64 z5)).put (some 57) (.slice (some ⟨g7, 0, none⟩) 3 3)).put (some 58) (.int .i64 z8)).put (some 59) (.slice (some ⟨g9, 0, none⟩) 3 3)).put (some 61) (.int .i64 (r11 : Int))).put (some 62) (.slice (some ⟨g9, 0, none⟩) r11 3)) W := by
      intro g1 z2 g4 z5 g7 z8 g9 r11 W HS HM HG9 hb9 hr11
      subst hA
      rw [hG]
      simp only [Act.put, pB, pC, pD]
      have hlW := HS.out.lt
      refine wpAnyH_ready (rs := [14]) (by kernel_rfl) (by simp) ?_
      refine coH 14 (oi := ?_) ?_ ?_ (fun K hK => ?_) ?_; rotate_left; (simp only [gA, gB, gC]; exact rfl); rfl
      · go_wp2_with (fail)
        have HSn := Lib.hid (HS.out.alloc (.cells #[.int .i64 0, .int .i64 10, .int .i64 100, .int .i64 (-1)] 3))
        have HMn := Lib.hid (HM.out.alloc (.cells #[.int .i64 0, .int .i64 10, .int .i64 100, .int .i64 (-1)] 3))
        have HGn := Lib.hid (heap_alloc_new W (.cells #[.int .i64 0, .int .i64 10, .int .i64 100, .int .i64 (-1)] 3))
        have HK9 := Lib.hid (heap_keep ((Below.refl _ W).alloc (Nat.le_refl _) (.cells #[.int .i64 0, .int .i64 10, .int .i64 100, .int .i64 (-1)] 3)) HG9.out)
        refine hK.out _ _ True.intro (fun hHeldN => ?_)
        clear hK K
        try simp only [Act.put, pB, pC, pD]
        refine listedEq (l' := #[true, true, true, true, true, true, true, true, true, true, true, true, true, true, true, false, false, false]) (by kernel_rfl) ?_
        have h := h_1_2_4_5_7_8_9_11_14 g1 z2 g4 z5 g7 z8 g9 r11 W.heap.size (W.alloc (.cells #[.int .i64 0, .int .i64 10, .int .i64 100, .int .i64 (-1)] 3)) HSn HMn HK9 hb9 HGn hlW hr11
        rw [hG] at h
        simp only [Act.put, pB, pC, pD] at h
        exact h
      exact AllReadyH.nil
    have h_1_2_4_5_7_8_9_14 : ∀ (g1 : Nat) (z2 : Int) (g4 : Nat) (z5 : Int) (g7 : Nat) (z8 : Int) (g9 : Nat) (g14 : Nat) (W : World), Hid (Strm W B (100 + 3)) → Hid (Mut (· = B) w6 W) → Hid (W.heap[g9]? = some (.cells #[.int .i64 z2, .int .i64 z5, .int .i64 z8] 3 (0, 0))) → B < g9 → Hid (W.heap[g14]? = some (.cells #[.int .i64 0, .int .i64 10, .int .i64 100, .int .i64 (-1)] 3 (0, 0))) → B < g14 → G 5 #[true, true, true, true, true, true, true, true, true, true, true, false, false, true, true, false, false, false] ((((((((A.put (some 51) (.slice (some ⟨g1, 0, none⟩) 3 3)).put (some 52) (.int .i64 z2)).put (some 54) (.slice (some ⟨g4, 0, none⟩) 3 3)).put (some 55) (.int .i64 z5)).put (some 57) (.slice (some ⟨g7, 0, none⟩) 3 3)).put (some 58) (.int .i64 z8)).put (some 59) (.slice (some ⟨g9, 0, none⟩) 3 3)).put (some 64) (.slice (some ⟨g14, 0, none⟩) 4 4)) W := by
      intro g1 z2 g4 z5 g7 z8 g9 g14 W HS HM HG9 hb9 HG14 hb14
      subst hA
      rw [hG]
      simp only [Act.put, pB, pC, pD]
      have hlW := HS.out.lt
      refine wpAnyH_ready (rs := [11]) (by kernel_rfl) (by simp) ?_
      refine coH 11 (oi := ?_) ?_ ?_ (fun K hK => ?_) ?_; rotate_left; (simp only [gA, gB, gC]; exact rfl); rfl
      · go_wp2_with (fail)
        refine (range_any B _ 0 3 W HS.out (by omega) (by omega) (by omega) (by omega)).mono ?_
        rintro e Wn ⟨⟨z11, rfl, hz0, hz1⟩, hst, hmt⟩
        obtain ⟨r11, rfl⟩ := Int.eq_ofNat_of_zero_le hz0
        have hr11 : r11 ≤ 3 := by omega
        clear hz0 hz1
        have HSn := Lib.hid hst
        have HMn := Lib.hid (HM.out.trans (hmt.mono fun _ _ h => h))
        have HK9 := Lib.hid ((hmt.block g9 (lt_of_heap HG9.out) (by show ¬ g9 = B; omega)).trans HG9.out)
        have HK14 := Lib.hid ((hmt.block g14 (lt_of_heap HG14.out) (by show ¬ g14 = B; omega)).trans HG14.out)
        clear hst hmt
        refine hK.out _ _ True.intro (fun hHeldN => ?_)
        clear hK K
        try simp only [Act.put, pB, pC, pD]
        have hSW : True := trivial
        have q0 : (0 : Int) ≤ (r11 : Int) := by omega
        have q1 : (r11 : Int) ≤ 3 := by omega
        refine tkH True.intro 12 (oi := ?_) (v := ?_) ?_ ?_ ?_ ?_ ?_ ?_ ?_ ?_; rotate_left 2; (simp only [gA, gB, gC]; exact rfl); kernel_rfl; kernel_rfl; kernel_rfl; exact fun _ _ _ h => h; rfl; (intro w' hSw; go_simp; with_reducible rfl); simp only [Act.put, pB, pC, pD]
        refine listedEq (l' := #[true, true, true, true, true, true, true, true, true, true, true, true, true, true, true, false, false, false]) (by kernel_rfl) ?_
        have h := h_1_2_4_5_7_8_9_11_14 g1 z2 g4 z5 g7 z8 g9 r11 g14 Wn HSn HMn HK9 hb9 HK14 hb14 hr11
        rw [hG] at h
        simp only [Act.put, pB, pC, pD] at h
        exact h
      exact AllReadyH.nil
    have h_1_2_4_5_7_8_11_14 : ∀ (g1 : Nat) (z2 : Int) (g4 : Nat) (z5 : Int) (g7 : Nat) (z8 : Int) (r11 : Nat) (g14 : Nat) (W : World), Hid (Strm W B (100 + 4)) → Hid (Mut (· = B) w6 W) → Hid (W.heap[g14]? = some (.cells #[.int .i64 0, .int .i64 10, .int .i64 100, .int .i64 (-1)] 3 (0, 0))) → B < g14 → r11 ≤ 3 → G 5 #[true, true, true, true, true, true, true, true, true, false, true, true, false, true, true, false, false, false] ((((((((A.put (some 51) (.slice (some ⟨g1, 0, none⟩) 3 3)).put (some 52) (.int .i64 z2)).put (some 54) (.slice (some ⟨g4, 0, none⟩) 3 3)).put (some 55) (.int .i64 z5)).put (some 57) (.slice (some ⟨g7, 0, none⟩) 3 3)).put (some 58) (.int .i64 z8)).put (some 61) (.int .i64 (r11 : Int))).put (some 64) (.slice (some ⟨g14, 0, none⟩) 4 4)) W := by
      intro g1 z2 g4 z5 g7 z8 r11 g14 W HS HM HG14 hb14 hr11
      subst hA
      rw [hG]
      simp only [Act.put, pB, pC, pD]
      have hlW := HS.out.lt
      refine wpAnyH_ready (rs := [9, 15]) (by kernel_rfl) (by simp) ?_
      refine coH 9 (oi := ?_) ?_ ?_ (fun K hK => ?_) ?_; rotate_left; (simp only [gA, gB, gC]; exact rfl); rfl
      · go_wp2_with (fail)
        have HSn := Lib.hid (HS.out.alloc (.cells #[.int .i64 z2, .int .i64 z5, .int .i64 z8] 3))
        have HMn := Lib.hid (HM.out.alloc (.cells #[.int .i64 z2, .int .i64 z5, .int .i64 z8] 3))
        have HGn := Lib.hid (heap_alloc_new W (.cells #[.int .i64 z2, .int .i64 z5, .int .i64 z8] 3))
        have HK14 := Lib.hid (heap_keep ((Below.refl _ W).alloc (Nat.le_refl _) (.cells #[.int .i64 z2, .int .i64 z5, .int .i64 z8] 3)) HG14.out)
        refine hK.out _ _ True.intro (fun hHeldN => ?_)
        clear hK K
        try simp only [Act.put, pB, pC, pD]
        have hSW : True := trivial
        have q0 : (0 : Int) ≤ (r11 : Int) := by omega
        have q1 : (r11 : Int) ≤ 3 := by omega
        refine tkH True.intro 12 (oi := ?_) (v := ?_) ?_ ?_ ?_ ?_ ?_ ?_ ?_ ?_; rotate_left 2; (simp only [gA, gB, gC]; exact rfl); kernel_rfl; kernel_rfl; kernel_rfl; exact fun _ _ _ h => h; rfl; (intro w' hSw; go_simp; with_reducible rfl); simp only [Act.put, pB, pC, pD]
        refine listedEq (l' := #[true, true, true, true, true, true, true, true, true, true, true, true, true, true, true, false, false, false]) (by kernel_rfl) ?_
        have h := h_1_2_4_5_7_8_9_11_14 g1 z2 g4 z5 g7 z8 W.heap.size r11 g14 (W.alloc (.cells #[.int .i64 z2, .int .i64 z5, .int .i64 z8] 3)) HSn HMn HGn hlW HK14 hb14 hr11
        rw [hG] at h
        simp only [Act.put, pB, pC, pD] at h
        exact h
      refine coH 15 (oi := ?_) ?_ ?_ (fun K hK => ?_) ?_; rotate_left; (simp only [gA, gB, gC]; exact rfl); rfl
      · go_wp2_with (fail)
        refine (pick_any B _ g14 4 4 (fun _ => True) W HS.out (by omega) (by omega) (by omega) (by omega) (lt_of_heap HG14.out) (by
          intro i hi
          match i, hi with
          | 0, _ => exact ⟨_, cell_of HG14.out (i := 0) rfl, trivial⟩
          | 1, _ => exact ⟨_, cell_of HG14.out (i := 1) rfl, trivial⟩
          | 2, _ => exact ⟨_, cell_of HG14.out (i := 2) rfl, trivial⟩
          | 3, _ => exact ⟨_, cell_of HG14.out (i := 3) rfl, trivial⟩
          | j + 4, h => omega)).mono ?_
        rintro e Wn ⟨⟨z15, rfl, _⟩, hst, hmt⟩
        have HSn := Lib.hid hst
        have HMn := Lib.hid (HM.out.trans (hmt.mono fun _ _ h => h))
        clear hst hmt
        refine hK.out _ _ True.intro (fun hHeldN => ?_)
        clear hK K
        try simp only [Act.put, pB, pC, pD]
        refine listedEq (l' := #[true, true, true, true, true, true, true, true, true, false, true, true, false, true, true, true, false, false]) (by kernel_rfl) ?_
        have h := h_1_2_4_5_7_8_11_14_15 g1 z2 g4 z5 g7 z8 r11 g14 z15 Wn HSn HMn hr11
        rw [hG] at h
        simp only [Act.put, pB, pC, pD] at h
        exact h
      exact AllReadyH.nil
    have h_1_2_4_5_7_8_9 : ∀ (g1 : Nat) (z2 : Int) (g4 : Nat) (z5 : Int) (g7 : Nat) (z8 : Int) (g9 : Nat) (W : World), Hid (Strm W B (100 + 3)) → Hid (Mut (· = B) w6 W) → Hid (W.heap[g9]? = some (.cells #[.int .i64 z2, .int .i64 z5, .int .i64 z8] 3 (0, 0))) → B < g9 → G 6 #[true, true, true, true, true, true, true, true, true, true, true, false, false, true, false, false, false, false] (((((((A.put (some 51) (.slice (some ⟨g1, 0, none⟩) 3 3)).put (some 52) (.int .i64 z2)).put (some 54) (.slice (some ⟨g4, 0, none⟩) 3 3)).put (some 55) (.int .i64 z5)).put (some 57) (.slice (some ⟨g7, 0, none⟩) 3 3)).put (some 58) (.int .i64 z8)).put (some 59) (.slice (some ⟨g9, 0, none⟩) 3 3)) W := by
      intro g1 z2 g4 z5 g7 z8 g9 W HS HM HG9 hb9
      subst hA
      rw [hG]
      simp only [Act.put, pB, pC, pD]
      have hlW := HS.out.lt
      refine wpAnyH_ready (rs := [11, 14]) (by kernel_rfl) (by simp) ?_
      refine coH 11 (oi := ?_) ?_ ?_ (fun K hK => ?_) ?_; rotate_left; (simp only [gA, gB, gC]; exact rfl); rfl
      · go_wp2_with (fail)
        refine (range_any B _ 0 3 W HS.out (by omega) (by omega) (by omega) (by omega)).mono ?_
        rintro e Wn ⟨⟨z11, rfl, hz0, hz1⟩, hst, hmt⟩
        obtain ⟨r11, rfl⟩ := Int.eq_ofNat_of_zero_le hz0
        have hr11 : r11 ≤ 3 := by omega
        clear hz0 hz1
        have HSn := Lib.hid hst
        have HMn := Lib.hid (HM.out.trans (hmt.mono fun _ _ h => h))
        have HK9 := Lib.hid ((hmt.block g9 (lt_of_heap HG9.out) (by show ¬ g9 = B; omega)).trans HG9.out)
        clear hst hmt
        refine hK.out _ _ True.intro (fun hHeldN => ?_)
        clear hK K
        try simp only [Act.put, pB, pC, pD]
        have hSW : True := trivial
        have q0 : (0 : Int) ≤ (r11 : Int) := by omega
        have q1 : (r11 : Int) ≤ 3 := by omega
        refine tkH True.intro 12 (oi := ?_) (v := ?_) ?_ ?_ ?_ ?_ ?_ ?_ ?_ ?_; rotate_left 2; (simp only [gA, gB, gC]; exact rfl); kernel_rfl; kernel_rfl; kernel_rfl; exact fun _ _ _ h => h; rfl; (intro w' hSw; go_simp; with_reducible rfl); simp only [Act.put, pB, pC, pD]
        refine listedEq (l' := #[true, true, true, true, true, true, true, true, true, true, true, true, true, true, false, false, false, false]) (by kernel_rfl) ?_
        have h := h_1_2_4_5_7_8_9_11 g1 z2 g4 z5 g7 z8 g9 r11 Wn HSn HMn HK9 hb9 hr11
        rw [hG] at h
        simp only [Act.put, pB, pC, pD] at h
        exact h
      refine coH 14 (oi := ?_) ?_ ?_ (fun K hK => ?_) ?_; rotate_left; (simp only [gA, gB, gC]; exact rfl); rfl
      · go_wp2_with (fail)
        have HSn := Lib.hid (HS.out.alloc (.cells #[.int .i64 0, .int .i64 10, .int .i64 100, .int .i64 (-1)] 3))
        have HMn := Lib.hid (HM.out.alloc (.cells #[.int .i64 0, .int .i64 10, .int .i64 100, .int .i64 (-1)] 3))
        have HGn := Lib.hid (heap_alloc_new W (.cells #[.int .i64 0, .int .i64 10, .int .i64 100, .int .i64 (-1)] 3))
        have HK9 := Lib.hid (heap_keep ((Below.refl _ W).alloc (Nat.le_refl _) (.cells #[.int .i64 0, .int .i64 10, .int .i64 100, .int .i64 (-1)] 3)) HG9.out)
        refine hK.out _ _ True.intro (fun hHeldN => ?_)
        clear hK K
        try simp only [Act.put, pB, pC, pD]
        refine listedEq (l' := #[true, true, true, true, true, true, true, true, true, true, true, false, false, true, true, false, false, false]) (by kernel_rfl) ?_
        have h := h_1_2_4_5_7_8_9_14 g1 z2 g4 z5 g7 z8 g9 W.heap.size (W.alloc (.cells #[.int .i64 0, .int .i64 10, .int .i64 100, .int .i64 (-1)] 3)) HSn HMn HK9 hb9 HGn hlW
        rw [hG] at h
        simp only [Act.put, pB, pC, pD] at h
        exact h
      exact AllReadyH.nil
    have h_1_2_4_5_7_8_11 : ∀ (g1 : Nat) (z2 : Int) (g4 : Nat) (z5 : Int) (g7 : Nat) (z8 : Int) (r11 : Nat) (W : World), Hid (Strm W B (100 + 4)) → Hid (Mut (· = B) w6 W) → r11 ≤ 3 → G 6 #[true, true, true, true, true, true, true, true, true, false, true, true, false, true, false, false, false, false] (((((((A.put (some 51) (.slice (some ⟨g1, 0, none⟩) 3 3)).put (some 52) (.int .i64 z2)).put (some 54) (.slice (some ⟨g4, 0, none⟩) 3 3)).put (some 55) (.int .i64 z5)).put (some 57) (.slice (some ⟨g7, 0, none⟩) 3 3)).put (some 58) (.int .i64 z8)).put (some 61) (.int .i64 (r11 : Int))) W := by
      intro g1 z2 g4 z5 g7 z8 r11 W HS HM hr11
      subst hA
      rw [hG]
      simp only [Act.put, pB, pC, pD]
      have hlW := HS.out.lt
      refine wpAnyH_ready (rs := [9, 14]) (by kernel_rfl) (by simp) ?_
      refine coH 9 (oi := ?_) ?_ ?_ (fun K hK => ?_) ?_; rotate_left; (simp only [gA, gB, gC]; exact rfl); rfl
      · go_wp2_with (fail)
        have HSn := Lib.hid (HS.out.alloc (.cells #[.int .i64 z2, .int .i64 z5, .int .i64 z8] 3))
        have HMn := Lib.hid (HM.out.alloc (.cells #[.int .i64 z2, .int .i64 z5, .int .i64 z8] 3))
        have HGn := Lib.hid (heap_alloc_new W (.cells #[.int .i64 z2, .int .i64 z5, .int .i64 z8] 3))
        refine hK.out _ _ True.intro (fun hHeldN => ?_)
        clear hK K
        try simp only [Act.put, pB, pC, pD]
        have hSW : True := trivial
        have q0 : (0 : Int) ≤ (r11 : Int) := by omega
        have q1 : (r11 : Int) ≤ 3 := by omega
        refine tkH True.intro 12 (oi := ?_) (v := ?_) ?_ ?_ ?_ ?_ ?_ ?_ ?_ ?_; rotate_left 2; (simp only [gA, gB, gC]; exact rfl); kernel_rfl; kernel_rfl; kernel_rfl; exact fun _ _ _ h => h; rfl; (intro w' hSw; go_simp; with_reducible rfl); simp only [Act.put, pB, pC, pD]
        refine listedEq (l' := #[true, true, true, true, true, true, true, true, true, true, true, true, true, true, false, false, false, false]) (by kernel_rfl) ?_
        have h := h_1_2_4_5_7_8_9_11 g1 z2 g4 z5 g7 z8 W.heap.size r11 (W.alloc (.cells #[.int .i64 z2, .int .i64 z5, .int .i64 z8] 3)) HSn HMn HGn hlW hr11
        rw [hG] at h
        simp only [Act.put, pB, pC, pD] at h
        exact h
      refine coH 14 (oi := ?_) ?_ ?_ (fun K hK => ?_) ?_; rotate_left; (simp only [gA, gB, gC]; exact rfl); rfl
      · go_wp2_with (fail)
        have HSn := Lib.hid (HS.out.alloc (.cells #[.int .i64 0, .int .i64 10, .int .i64 100, .int .i64 (-1)] 3))
        have HMn := Lib.hid (HM.out.alloc (.cells #[.int .i64 0, .int .i64 10, .int .i64 100, .int .i64 (-1)] 3))
        have HGn := Lib.hid (heap_alloc_new W (.cells #[.int .i64 0, .int .i64 10, .int .i64 100, .int .i64 (-1)] 3))
        refine hK.out _ _ True.intro (fun hHeldN => ?_)
        clear hK K
        try simp only [Act.put, pB, pC, pD]
        refine listedEq (l' := #[true, true, true, true, true, true, true, true, true, false, true, true, false, true, true, false, false, false]) (by kernel_rfl) ?_
        have h := h_1_2_4_5_7_8_11_14 g1 z2 g4 z5 g7 z8 r11 W.heap.size (W.alloc (.cells #[.int .i64 0, .int .i64 10, .int .i64 100, .int .i64 (-1)] 3)) HSn HMn HGn hlW hr11
        rw [hG] at h
        simp only [Act.put, pB, pC, pD] at h
        exact h
      exact AllReadyH.nil
    have h_1_2_4_5_7_8_14 : ∀ (g1 : Nat) (z2 : Int) (g4 : Nat) (z5 : Int) (g7 : Nat) (z8 : Int) (g14 : Nat) (W : World), Hid (Strm W B (100 + 3)) → Hid (Mut (· = B) w6 W) → Hid (W.heap[g14]? = some (.cells #[.int .i64 0, .int .i64 10, .int .i64 100, .int .i64 (-1)] 3 (0, 0))) → B < g14 → G 6 #[true, true, true, true, true, true, true, true, true, false, true, false, false, true, true, false, false, false] (((((((A.put (some 51) (.slice (some ⟨g1, 0, none⟩) 3 3)).put (some 52) (.int .i64 z2)).put (some 54) (.slice (some ⟨g4, 0, none⟩) 3 3)).put (some 55) (.int .i64 z5)).put (some 57) (.slice (some ⟨g7, 0, none⟩) 3 3)).put (some 58) (.int .i64 z8)).put (some 64) (.slice (some ⟨g14, 0, none⟩) 4 4)) W := by
      intro g1 z2 g4 z5 g7 z8 g14 W HS HM HG14 hb14
      subst hA
      rw [hG]
      simp only [Act.put, pB, pC, pD]
      have hlW := HS.out.lt
      refine wpAnyH_ready (rs := [9, 11]) (by kernel_rfl) (by simp) ?_
      refine coH 9 (oi := ?_) ?_ ?_ (fun K hK => ?_) ?_; rotate_left; (simp only [gA, gB, gC]; exact rfl); rfl
      · go_wp2_with (fail)
        have HSn := Lib.hid (HS.out.alloc (.cells #[.int .i64 z2, .int .i64 z5, .int .i64 z8] 3))
        have HMn := Lib.hid (HM.out.alloc (.cells #[.int .i64 z2, .int .i64 z5, .int .i64 z8] 3))
        have HGn := Lib.hid (heap_alloc_new W (.cells #[.int .i64 z2, .int .i64 z5, .int .i64 z8] 3))
        have HK14 := Lib.hid (heap_keep ((Below.refl _ W).alloc (Nat.le_refl _) (.cells #[.int .i64 z2, .int .i64 z5, .int .i64 z8] 3)) HG14.out)
        refine hK.out _ _ True.intro (fun hHeldN => ?_)
        clear hK K
        try simp only [Act.put, pB, pC, pD]
        refine listedEq (l' := #[true, true, true, true, true, true, true, true, true, true, true, false, false, true, true, false, false, false]) (by kernel_rfl) ?_
        have h := h_1_2_4_5_7_8_9_14 g1 z2 g4 z5 g7 z8 W.heap.size g14 (W.alloc (.cells #[.int .i64 z2, .int .i64 z5, .int .i64 z8] 3)) HSn HMn HGn hlW HK14 hb14
        rw [hG] at h
        simp only [Act.put, pB, pC, pD] at h
        exact h
      refine coH 11 (oi := ?_) ?_ ?_ (fun K hK => ?_) ?_; rotate_left; (simp only [gA, gB, gC]; exact rfl); rfl
      · go_wp2_with (fail)
        refine (range_any B _ 0 3 W HS.out (by omega) (by omega) (by omega) (by omega)).mono ?_
        rintro e Wn ⟨⟨z11, rfl, hz0, hz1⟩, hst, hmt⟩
        obtain ⟨r11, rfl⟩ := Int.eq_ofNat_of_zero_le hz0
        have hr11 : r11 ≤ 3 := by omega
        clear hz0 hz1
        have HSn := Lib.hid hst
        have HMn := Lib.hid (HM.out.trans (hmt.mono fun _ _ h => h))
        have HK14 := Lib.hid ((hmt.block g14 (lt_of_heap HG14.out) (by show ¬ g14 = B; omega)).trans HG14.out)
        clear hst hmt
        refine hK.out _ _ True.intro (fun hHeldN => ?_)
        clear hK K
        try simp only [Act.put, pB, pC, pD]
        refine listedEq (l' := #[true, true, true, true, true, true, true, true, true, false, true, true, false, true, true, false, false, false]) (by kernel_rfl) ?_
        have h := h_1_2_4_5_7_8_11_14 g1 z2 g4 z5 g7 z8 r11 g14 Wn HSn HMn HK14 hb14 hr11
        rw [hG] at h
        simp only [Act.put, pB, pC, pD] at h
        exact h
      exact AllReadyH.nil
    have h_1_2_4_5_7_8 : ∀ (g1 : Nat) (z2 : Int) (g4 : Nat) (z5 : Int) (g7 : Nat) (z8 : Int) (W : World), Hid (Strm W B (100 + 3)) → Hid (Mut (· = B) w6 W) → G 7 #[true, true, true, true, true, true, true, true, true, false, true, false, false, true, false, false, false, false] ((((((A.put (some 51) (.slice (some ⟨g1, 0, none⟩) 3 3)).put (some 52) (.int .i64 z2)).put (some 54) (.slice (some ⟨g4, 0, none⟩) 3 3)).put (some 55) (.int .i64 z5)).put (some 57) (.slice (some ⟨g7, 0, none⟩) 3 3)).put (some 58) (.int .i64 z8)) W := by
      intro g1 z2 g4 z5 g7 z8 W HS HM
      subst hA
      rw [hG]
      simp only [Act.put, pB, pC, pD]
      have hlW := HS.out.lt
      refine wpAnyH_ready (rs := [9, 11, 14]) (by kernel_rfl) (by simp) ?_
      refine coH 9 (oi := ?_) ?_ ?_ (fun K hK => ?_) ?_; rotate_left; (simp only [gA, gB, gC]; exact rfl); rfl
      · go_wp2_with (fail)
        have HSn := Lib.hid (HS.out.alloc (.cells #[.int .i64 z2, .int .i64 z5, .int .i64 z8] 3))
        have HMn := Lib.hid (HM.out.alloc (.cells #[.int .i64 z2, .int .i64 z5, .int .i64 z8] 3))
        have HGn := Lib.hid (heap_alloc_new W (.cells #[.int .i64 z2, .int .i64 z5, .int .i64 z8] 3))
        refine hK.out _ _ True.intro (fun hHeldN => ?_)
        clear hK K
        try simp only [Act.put, pB, pC, pD]
        refine listedEq (l' := #[true, true, true, true, true, true, true, true, true, true, true, false, false, true, false, false, false, false]) (by kernel_rfl) ?_
        have h := h_1_2_4_5_7_8_9 g1 z2 g4 z5 g7 z8 W.heap.size (W.alloc (.cells #[.int .i64 z2, .int .i64 z5, .int .i64 z8] 3)) HSn HMn HGn hlW
        rw [hG] at h
        simp only [Act.put, pB, pC, pD] at h
        exact h
      refine coH 11 (oi := ?_) ?_ ?_ (fun K hK => ?_) ?_; rotate_left; (simp only [gA, gB, gC]; exact rfl); rfl
      · go_wp2_with (fail)
        refine (range_any B _ 0 3 W HS.out (by omega) (by omega) (by omega) (by omega)).mono ?_
        rintro e Wn ⟨⟨z11, rfl, hz0, hz1⟩, hst, hmt⟩
        obtain ⟨r11, rfl⟩ := Int.eq_ofNat_of_zero_le hz0
        have hr11 : r11 ≤ 3 := by omega
        clear hz0 hz1
        have HSn := Lib.hid hst
        have HMn := Lib.hid (HM.out.trans (hmt.mono fun _ _ h => h))
        clear hst hmt
        refine hK.out _ _ True.intro (fun hHeldN => ?_)
        clear hK K
        try simp only [Act.put, pB, pC, pD]
        refine listedEq (l' := #[true, true, true, true, true, true, true, true, true, false, true, true, false, true, false, false, false, false]) (by kernel_rfl) ?_
        have h := h_1_2_4_5_7_8_11 g1 z2 g4 z5 g7 z8 r11 Wn HSn HMn hr11
        rw [hG] at h
        simp only [Act.put, pB, pC, pD] at h
        exact h
      refine coH 14 (oi := ?_) ?_ ?_ (fun K hK => ?_) ?_; rotate_left; (simp only [gA, gB, gC]; exact rfl); rfl
      · go_wp2_with (fail)
        have HSn := Lib.hid (HS.out.alloc (.cells #[.int .i64 0, .int .i64 10, .int .i64 100, .int .i64 (-1)] 3))
        have HMn := Lib.hid (HM.out.alloc (.cells #[.int .i64 0, .int .i64 10, .int .i64 100, .int .i64 (-1)] 3))
        have HGn := Lib.hid (heap_alloc_new W (.cells #[.int .i64 0, .int .i64 10, .int .i64 100, .int .i64 (-1)] 3))
        refine hK.out _ _ True.intro (fun hHeldN => ?_)
        clear hK K
        try simp only [Act.put, pB, pC, pD]
        refine listedEq (l' := #[true, true, true, true, true, true, true, true, true, false, true, false, false, true, true, false, false, false]) (by kernel_rfl) ?_
        have h := h_1_2_4_5_7_8_14 g1 z2 g4 z5 g7 z8 W.heap.size (W.alloc (.cells #[.int .i64 0, .int .i64 10, .int .i64 100, .int .i64 (-1)] 3)) HSn HMn HGn hlW
        rw [hG] at h
        simp only [Act.put, pB, pC, pD] at h
        exact h
      exact AllReadyH.nil
    have h_1_2_4_5_7_14 : ∀ (g1 : Nat) (z2 : Int) (g4 : Nat) (z5 : Int) (g7 : Nat) (g14 : Nat) (W : World), Hid (Strm W B (100 + 2)) → Hid (Mut (· = B) w6 W) → Hid (W.heap[g7]? = some (.cells #[.int .i64 300, .int .i64 86400001, .int .i64 4] 3 (0, 0))) → B < g7 → Hid (W.heap[g14]? = some (.cells #[.int .i64 0, .int .i64 10, .int .i64 100, .int .i64 (-1)] 3 (0, 0))) → B < g14 → G 7 #[true, true, true, true, true, true, true, true, false, false, true, false, false, true, true, false, false, false] ((((((A.put (some 51) (.slice (some ⟨g1, 0, none⟩) 3 3)).put (some 52) (.int .i64 z2)).put (some 54) (.slice (some ⟨g4, 0, none⟩) 3 3)).put (some 55) (.int .i64 z5)).put (some 57) (.slice (some ⟨g7, 0, none⟩) 3 3)).put (some 64) (.slice (some ⟨g14, 0, none⟩) 4 4)) W := by
      intro g1 z2 g4 z5 g7 g14 W HS HM HG7 hb7 HG14 hb14
      subst hA
      rw [hG]
      simp only [Act.put, pB, pC, pD]
      have hlW := HS.out.lt
      refine wpAnyH_ready (rs := [8]) (by kernel_rfl) (by simp) ?_
      refine coH 8 (oi := ?_) ?_ ?_ (fun K hK => ?_) ?_; rotate_left; (simp only [gA, gB, gC]; exact rfl); rfl
      · go_wp2_with (fail)
        refine (pick_any B _ g7 3 3 (fun _ => True) W HS.out (by omega) (by omega) (by omega) (by omega) (lt_of_heap HG7.out) (by
          intro i hi
          match i, hi with
          | 0, _ => exact ⟨_, cell_of HG7.out (i := 0) rfl, trivial⟩
          | 1, _ => exact ⟨_, cell_of HG7.out (i := 1) rfl, trivial⟩
          | 2, _ => exact ⟨_, cell_of HG7.out (i := 2) rfl, trivial⟩
          | j + 3, h => omega)).mono ?_
        rintro e Wn ⟨⟨z8, rfl, _⟩, hst, hmt⟩
        have HSn := Lib.hid hst
        have HMn := Lib.hid (HM.out.trans (hmt.mono fun _ _ h => h))
        have HK14 := Lib.hid ((hmt.block g14 (lt_of_heap HG14.out) (by show ¬ g14 = B; omega)).trans HG14.out)
        clear hst hmt
        refine hK.out _ _ True.intro (fun hHeldN => ?_)
        clear hK K
        try simp only [Act.put, pB, pC, pD]
        refine listedEq (l' := #[true, true, true, true, true, true, true, true, true, false, true, false, false, true, true, false, false, false]) (by kernel_rfl) ?_
        have h := h_1_2_4_5_7_8_14 g1 z2 g4 z5 g7 z8 g14 Wn HSn HMn HK14 hb14
        rw [hG] at h
        simp only [Act.put, pB, pC, pD] at h
        exact h
      exact AllReadyH.nil
    have h_1_2_4_5_7 : ∀ (g1 : Nat) (z2 : Int) (g4 : Nat) (z5 : Int) (g7 : Nat) (W : World), Hid (Strm W B (100 + 2)) → Hid (Mut (· = B) w6 W) → Hid (W.heap[g7]? = some (.cells #[.int .i64 300, .int .i64 86400001, .int .i64 4] 3 (0, 0))) → B < g7 → G 8 #[true, true, true, true, true, true, true, true, false, false, true, false, false, true, false, false, false, false] (((((A.put (some 51) (.slice (some ⟨g1, 0, none⟩) 3 3)).put (some 52) (.int .i64 z2)).put (some 54) (.slice (some ⟨g4, 0, none⟩) 3 3)).put (some 55) (.int .i64 z5)).put (some 57) (.slice (some ⟨g7, 0, none⟩) 3 3)) W := by
      intro g1 z2 g4 z5 g7 W HS HM HG7 hb7
      subst hA
      rw [hG]
      simp only [Act.put, pB, pC, pD]
      have hlW := HS.out.lt
      refine wpAnyH_ready (rs := [8, 14]) (by kernel_rfl) (by simp) ?_
      refine coH 8 (oi := ?_) ?_ ?_ (fun K hK => ?_) ?_; rotate_left; (simp only [gA, gB, gC]; exact rfl); rfl
      · go_wp2_with (fail)
        refine (pick_any B _ g7 3 3 (fun _ => True) W HS.out (by omega) (by omega) (by omega) (by omega) (lt_of_heap HG7.out) (by
          intro i hi
          match i, hi with
          | 0, _ => exact ⟨_, cell_of HG7.out (i := 0) rfl, trivial⟩
          | 1, _ => exact ⟨_, cell_of HG7.out (i := 1) rfl, trivial⟩
          | 2, _ => exact ⟨_, cell_of HG7.out (i := 2) rfl, trivial⟩
          | j + 3, h => omega)).mono ?_
        rintro e Wn ⟨⟨z8, rfl, _⟩, hst, hmt⟩
        have HSn := Lib.hid hst
        have HMn := Lib.hid (HM.out.trans (hmt.mono fun _ _ h => h))
        clear hst hmt
        refine hK.out _ _ True.intro (fun hHeldN => ?_)
        clear hK K
        try simp only [Act.put, pB, pC, pD]
        refine listedEq (l' := #[true, true, true, true, true, true, true, true, true, false, true, false, false, true, false, false, false, false]) (by kernel_rfl) ?_
        have h := h_1_2_4_5_7_8 g1 z2 g4 z5 g7 z8 Wn HSn HMn
        rw [hG] at h
        simp only [Act.put, pB, pC, pD] at h
        exact h
      refine coH 14 (oi := ?_) ?_ ?_ (fun K hK => ?_) ?_; rotate_left; (simp only [gA, gB, gC]; exact rfl); rfl
      · go_wp2_with (fail)
        have HSn := Lib.hid (HS.out.alloc (.cells #[.int .i64 0, .int .i64 10, .int .i64 100, .int .i64 (-1)] 3))
        have HMn := Lib.hid (HM.out.alloc (.cells #[.int .i64 0, .int .i64 10, .int .i64 100, .int .i64 (-1)] 3))
        have HGn := Lib.hid (heap_alloc_new W (.cells #[.int .i64 0, .int .i64 10, .int .i64 100, .int .i64 (-1)] 3))
        have HK7 := Lib.hid (heap_keep ((Below.refl _ W).alloc (Nat.le_refl _) (.cells #[.int .i64 0, .int .i64 10, .int .i64 100, .int .i64 (-1)] 3)) HG7.out)
        refine hK.out _ _ True.intro (fun hHeldN => ?_)
        clear hK K
        try simp only [Act.put, pB, pC, pD]
        refine listedEq (l' := #[true, true, true, true, true, true, true, true, false, false, true, false, false, true, true, false, false, false]) (by kernel_rfl) ?_
        have h := h_1_2_4_5_7_14 g1 z2 g4 z5 g7 W.heap.size (W.alloc (.cells #[.int .i64 0, .int .i64 10, .int .i64 100, .int .i64 (-1)] 3)) HSn HMn HK7 hb7 HGn hlW
        rw [hG] at h
        simp only [Act.put, pB, pC, pD] at h
        exact h
      exact AllReadyH.nil
    have h_1_2_4_5_14 : ∀ (g1 : Nat) (z2 : Int) (g4 : Nat) (z5 : Int) (g14 : Nat) (W : World), Hid (Strm W B (100 + 2)) → Hid (Mut (· = B) w6 W) → Hid (W.heap[g14]? = some (.cells #[.int .i64 0, .int .i64 10, .int .i64 100, .int .i64 (-1)] 3 (0, 0))) → B < g14 → G 8 #[true, true, true, true, true, true, true, false, false, false, true, false, false, true, true, false, false, false] (((((A.put (some 51) (.slice (some ⟨g1, 0, none⟩) 3 3)).put (some 52) (.int .i64 z2)).put (some 54) (.slice (some ⟨g4, 0, none⟩) 3 3)).put (some 55) (.int .i64 z5)).put (some 64) (.slice (some ⟨g14, 0, none⟩) 4 4)) W := by
      intro g1 z2 g4 z5 g14 W HS HM HG14 hb14
      subst hA
      rw [hG]
      simp only [Act.put, pB, pC, pD]
      have hlW := HS.out.lt
      refine wpAnyH_ready (rs := [7]) (by kernel_rfl) (by simp) ?_
      refine coH 7 (oi := ?_) ?_ ?_ (fun K hK => ?_) ?_; rotate_left; (simp only [gA, gB, gC]; exact rfl); rfl
      · go_wp2_with (fail)
        have HSn := Lib.hid (HS.out.alloc (.cells #[.int .i64 300, .int .i64 86400001, .int .i64 4] 3))
        have HMn := Lib.hid (HM.out.alloc (.cells #[.int .i64 300, .int .i64 86400001, .int .i64 4] 3))
        have HGn := Lib.hid (heap_alloc_new W (.cells #[.int .i64 300, .int .i64 86400001, .int .i64 4] 3))
        have HK14 := Lib.hid (heap_keep ((Below.refl _ W).alloc (Nat.le_refl _) (.cells #[.int .i64 300, .int .i64 86400001, .int .i64 4] 3)) HG14.out)
        refine hK.out _ _ True.intro (fun hHeldN => ?_)
        clear hK K
        try simp only [Act.put, pB, pC, pD]
        refine listedEq (l' := #[true, true, true, true, true, true, true, true, false, false, true, false, false, true, true, false, false, false]) (by kernel_rfl) ?_
        have h := h_1_2_4_5_7_14 g1 z2 g4 z5 W.heap.size g14 (W.alloc (.cells #[.int .i64 300, .int .i64 86400001, .int .i64 4] 3)) HSn HMn HGn hlW HK14 hb14
        rw [hG] at h
        simp only [Act.put, pB, pC, pD] at h
        exact h
      exact AllReadyH.nil
    have h_1_2_4_7_14 : ∀ (g1 : Nat) (z2 : Int) (g4 : Nat) (g7 : Nat) (g14 : Nat) (W : World), Hid (Strm W B (100 + 1)) → Hid (Mut (· = B) w6 W) → Hid (W.heap[g4]? = some (.cells #[.int .i64 20, .int .i64 7, .int .i64 (-1)] 3 (0, 0))) → B < g4 → Hid (W.heap[g7]? = some (.cells #[.int .i64 300, .int .i64 86400001, .int .i64 4] 3 (0, 0))) → B < g7 → Hid (W.heap[g14]? = some (.cells #[.int .i64 0, .int .i64 10, .int .i64 100, .int .i64 (-1)] 3 (0, 0))) → B < g14 → G 8 #[true, true, true, true, true, false, true, true, false, false, true, false, false, true, true, false, false, false] (((((A.put (some 51) (.slice (some ⟨g1, 0, none⟩) 3 3)).put (some 52) (.int .i64 z2)).put (some 54) (.slice (some ⟨g4, 0, none⟩) 3 3)).put (some 57) (.slice (some ⟨g7, 0, none⟩) 3 3)).put (some 64) (.slice (some ⟨g14, 0, none⟩) 4 4)) W := by
      intro g1 z2 g4 g7 g14 W HS HM HG4 hb4 HG7 hb7 HG14 hb14
      subst hA
      rw [hG]
      simp only [Act.put, pB, pC, pD]
      have hlW := HS.out.lt
      refine wpAnyH_ready (rs := [5]) (by kernel_rfl) (by simp) ?_
      refine coH 5 (oi := ?_) ?_ ?_ (fun K hK => ?_) ?_; rotate_left; (simp only [gA, gB, gC]; exact rfl); rfl
      · go_wp2_with (fail)
        refine (pick_any B _ g4 3 3 (fun _ => True) W HS.out (by omega) (by omega) (by omega) (by omega) (lt_of_heap HG4.out) (by
          intro i hi
          match i, hi with
          | 0, _ => exact ⟨_, cell_of HG4.out (i := 0) rfl, trivial⟩
          | 1, _ => exact ⟨_, cell_of HG4.out (i := 1) rfl, trivial⟩
          | 2, _ => exact ⟨_, cell_of HG4.out (i := 2) rfl, trivial⟩
          | j + 3, h => omega)).mono ?_
        rintro e Wn ⟨⟨z5, rfl, _⟩, hst, hmt⟩
        have HSn := Lib.hid hst
        have HMn := Lib.hid (HM.out.trans (hmt.mono fun _ _ h => h))
        have HK7 := Lib.hid ((hmt.block g7 (lt_of_heap HG7.out) (by show ¬ g7 = B; omega)).trans HG7.out)
        have HK14 := Lib.hid ((hmt.block g14 (lt_of_heap HG14.out) (by show ¬ g14 = B; omega)).trans HG14.out)
        clear hst hmt
        refine hK.out _ _ True.intro (fun hHeldN => ?_)
        clear hK K
        try simp only [Act.put, pB, pC, pD]
        refine listedEq (l' := #[true, true, true, true, true, true, true, true, false, false, true, false, false, true, true, false, false, false]) (by kernel_rfl) ?_
        have h := h_1_2_4_5_7_14 g1 z2 g4 z5 g7 g14 Wn HSn HMn HK7 hb7 HK14 hb14
        rw [hG] at h
        simp only [Act.put, pB, pC, pD] at h
        exact h
      exact AllReadyH.nil
    have h_1_2_4_5 : ∀ (g1 : Nat) (z2 : Int) (g4 : Nat) (z5 : Int) (W : World), Hid (Strm W B (100 + 2)) → Hid (Mut (· = B) w6 W) → G 9 #[true, true, true, true, true, true, true, false, false, false, true, false, false, true, false, false, false, false] ((((A.put (some 51) (.slice (some ⟨g1, 0, none⟩) 3 3)).put (some 52) (.int .i64 z2)).put (some 54) (.slice (some ⟨g4, 0, none⟩) 3 3)).put (some 55) (.int .i64 z5)) W := by
      intro g1 z2 g4 z5 W HS HM
      subst hA
      rw [hG]
      simp only [Act.put, pB, pC, pD]
      have hlW := HS.out.lt
      refine wpAnyH_ready (rs := [7, 14]) (by kernel_rfl) (by simp) ?_
      refine coH 7 (oi := ?_) ?_ ?_ (fun K hK => ?_) ?_; rotate_left; (simp only [gA, gB, gC]; exact rfl); rfl
      · go_wp2_with (fail)
        have HSn := Lib.hid (HS.out.alloc (.cells #[.int .i64 300, .int .i64 86400001, .int .i64 4] 3))
        have HMn := Lib.hid (HM.out.alloc (.cells #[.int .i64 300, .int .i64 86400001, .int .i64 4] 3))
        have HGn := Lib.hid (heap_alloc_new W (.cells #[.int .i64 300, .int .i64 86400001, .int .i64 4] 3))
        refine hK.out _ _ True.intro (fun hHeldN => ?_)
        clear hK K
        try simp only [Act.put, pB, pC, pD]
        refine listedEq (l' := #[true, true, true, true, true, true, true, true, false, false, true, false, false, true, false, false, false, false]) (by kernel_rfl) ?_
        have h := h_1_2_4_5_7 g1 z2 g4 z5 W.heap.size (W.alloc (.cells #[.int .i64 300, .int .i64 86400001, .int .i64 4] 3)) HSn HMn HGn hlW
        rw [hG] at h
        simp only [Act.put, pB, pC, pD] at h
        exact h
      refine coH 14 (oi := ?_) ?_ ?_ (fun K hK => ?_) ?_; rotate_left; (simp only [gA, gB, gC]; exact rfl); rfl
      · go_wp2_with (fail)
        have HSn := Lib.hid (HS.out.alloc (.cells #[.int .i64 0, .int .i64 10, .int .i64 100, .int .i64 (-1)] 3))
        have HMn := Lib.hid (HM.out.alloc (.cells #[.int .i64 0, .int .i64 10, .int .i64 100, .int .i64 (-1)] 3))
        have HGn := Lib.hid (heap_alloc_new W (.cells #[.int .i64 0, .int .i64 10, .int .i64 100, .int .i64 (-1)] 3))
        refine hK.out _ _ True.intro (fun hHeldN => ?_)
        clear hK K
        try simp only [Act.put, pB, pC, pD]
        refine listedEq (l' := #[true, true, true, true, true, true, true, false, false, false, true, false, false, true, true, false, false, false]) (by kernel_rfl) ?_
        have h := h_1_2_4_5_14 g1 z2 g4 z5 W.heap.size (W.alloc (.cells #[.int .i64 0, .int .i64 10, .int .i64 100, .int .i64 (-1)] 3)) HSn HMn HGn hlW
        rw [hG] at h
        simp only [Act.put, pB, pC, pD] at h
        exact h
      exact AllReadyH.nil
    have h_1_2_4_7 : ∀ (g1 : Nat) (z2 : Int) (g4 : Nat) (g7 : Nat) (W : World), Hid (Strm W B (100 + 1)) → Hid (Mut (· = B) w6 W) → Hid (W.heap[g4]? = some (.cells #[.int .i64 20, .int .i64 7, .int .i64 (-1)] 3 (0, 0))) → B < g4 → Hid (W.heap[g7]? = some (.cells #[.int .i64 300, .int .i64 86400001, .int .i64 4] 3 (0, 0))) → B < g7 → G 9 #[true, true, true, true, true, false, true, true, false, false, true, false, false, true, false, false, false, false] ((((A.put (some 51) (.slice (some ⟨g1, 0, none⟩) 3 3)).put (some 52) (.int .i64 z2)).put (some 54) (.slice (some ⟨g4, 0, none⟩) 3 3)).put (some 57) (.slice (some ⟨g7, 0, none⟩) 3 3)) W := by
      intro g1 z2 g4 g7 W HS HM HG4 hb4 HG7 hb7
      subst hA
      rw [hG]
      simp only [Act.put, pB, pC, pD]
      have hlW := HS.out.lt
      refine wpAnyH_ready (rs := [5, 14]) (by kernel_rfl) (by simp) ?_
      refine coH 5 (oi := ?_) ?_ ?_ (fun K hK => ?_) ?_; rotate_left; (simp only [gA, gB, gC]; exact rfl); rfl
      · go_wp2_with (fail)
        refine (pick_any B _ g4 3 3 (fun _ => True) W HS.out (by omega) (by omega) (by omega) (by omega) (lt_of_heap HG4.out) (by
          intro i hi
          match i, hi with
          | 0, _ => exact ⟨_, cell_of HG4.out (i := 0) rfl, trivial⟩
          | 1, _ => exact ⟨_, cell_of HG4.out (i := 1) rfl, trivial⟩
          | 2, _ => exact ⟨_, cell_of HG4.out (i := 2) rfl, trivial⟩
          | j + 3, h => omega)).mono ?_
        rintro e Wn ⟨⟨z5, rfl, _⟩, hst, hmt⟩
        have HSn := Lib.hid hst
        have HMn := Lib.hid (HM.out.trans (hmt.mono fun _ _ h => h))
        have HK7 := Lib.hid ((hmt.block g7 (lt_of_heap HG7.out) (by show ¬ g7 = B; omega)).trans HG7.out)
        clear hst hmt
        refine hK.out _ _ True.intro (fun hHeldN => ?_)
        clear hK K
        try simp only [Act.put, pB, pC, pD]
        refine listedEq (l' := #[true, true, true, true, true, true, true, true, false, false, true, false, false, true, false, false, false, false]) (by kernel_rfl) ?_
        have h := h_1_2_4_5_7 g1 z2 g4 z5 g7 Wn HSn HMn HK7 hb7
        rw [hG] at h
        simp only [Act.put, pB, pC, pD] at h
        exact h
      refine coH 14 (oi := ?_) ?_ ?_ (fun K hK => ?_) ?_; rotate_left; (simp only [gA, gB, gC]; exact rfl); rfl
      · go_wp2_with (fail)
        have HSn := Lib.hid (HS.out.alloc (.cells #[.int .i64 0, .int .i64 10, .int .i64 100, .int .i64 (-1)] 3))
        have HMn := Lib.hid (HM.out.alloc (.cells #[.int .i64 0, .int .i64 10, .int .i64 100, .int .i64 (-1)] 3))
        have HGn := Lib.hid (heap_alloc_new W (.cells #[.int .i64 0, .int .i64 10, .int .i64 100, .int .i64 (-1)] 3))
        have HK4 := Lib.hid (heap_keep ((Below.refl _ W).alloc (Nat.le_refl _) (.cells #[.int .i64 0, .int .i64 10, .int .i64 100, .int .i64 (-1)] 3)) HG4.out)
        have HK7 := Lib.hid (heap_keep ((Below.refl _ W).alloc (Nat.le_refl _) (.cells #[.int .i64 0, .int .i64 10, .int .i64 100, .int .i64 (-1)] 3)) HG7.out)
        refine hK.out _ _ True.intro (fun hHeldN => ?_)
        clear hK K
        try simp only [Act.put, pB, pC, pD]
        refine listedEq (l' := #[true, true, true, true, true, false, true, true, false, false, true, false, false, true, true, false, false, false]) (by kernel_rfl) ?_
        have h := h_1_2_4_7_14 g1 z2 g4 g7 W.heap.size (W.alloc (.cells #[.int .i64 0, .int .i64 10, .int .i64 100, .int .i64 (-1)] 3)) HSn HMn HK4 hb4 HK7 hb7 HGn hlW
        rw [hG] at h
        simp only [Act.put, pB, pC, pD] at h
        exact h
      exact AllReadyH.nil
    have h_1_2_4_14 : ∀ (g1 : Nat) (z2 : Int) (g4 : Nat) (g14 : Nat) (W : World), Hid (Strm W B (100 + 1)) → Hid (Mut (· = B) w6 W) → Hid (W.heap[g4]? = some (.cells #[.int .i64 20, .int .i64 7, .int .i64 (-1)] 3 (0, 0))) → B < g4 → Hid (W.heap[g14]? = some (.cells #[.int .i64 0, .int .i64 10, .int .i64 100, .int .i64 (-1)] 3 (0, 0))) → B < g14 → G 9 #[true, true, true, true, true, false, true, false, false, false, true, false, false, true, true, false, false, false] ((((A.put (some 51) (.slice (some ⟨g1, 0, none⟩) 3 3)).put (some 52) (.int .i64 z2)).put (some 54) (.slice (some ⟨g4, 0, none⟩) 3 3)).put (some 64) (.slice (some ⟨g14, 0, none⟩) 4 4)) W := by
      intro g1 z2 g4 g14 W HS HM HG4 hb4 HG14 hb14
      subst hA
      rw [hG]
      simp only [Act.put, pB, pC, pD]
      have hlW := HS.out.lt
      refine wpAnyH_ready (rs := [5, 7]) (by kernel_rfl) (by simp) ?_
      refine coH 5 (oi := ?_) ?_ ?_ (fun K hK => ?_) ?_; rotate_left; (simp only [gA, gB, gC]; exact rfl); rfl
      · go_wp2_with (fail)
        refine (pick_any B _ g4 3 3 (fun _ => True) W HS.out (by omega) (by omega) (by omega) (by omega) (lt_of_heap HG4.out) (by
          intro i hi
          match i, hi with
          | 0, _ => exact ⟨_, cell_of HG4.out (i := 0) rfl, trivial⟩
          | 1, _ => exact ⟨_, cell_of HG4.out (i := 1) rfl, trivial⟩
          | 2, _ => exact ⟨_, cell_of HG4.out (i := 2) rfl, trivial⟩
          | j + 3, h => omega)).mono ?_
        rintro e Wn ⟨⟨z5, rfl, _⟩, hst, hmt⟩
        have HSn := Lib.hid hst
        have HMn := Lib.hid (HM.out.trans (hmt.mono fun _ _ h => h))
        have HK14 := Lib.hid ((hmt.block g14 (lt_of_heap HG14.out) (by show ¬ g14 = B; omega)).trans HG14.out)
        clear hst hmt
        refine hK.out _ _ True.intro (fun hHeldN => ?_)
        clear hK K
        try simp only [Act.put, pB, pC, pD]
        refine listedEq (l' := #[true, true, true, true, true, true, true, false, false, false, true, false, false, true, true, false, false, false]) (by kernel_rfl) ?_
        have h := h_1_2_4_5_14 g1 z2 g4 z5 g14 Wn HSn HMn HK14 hb14
        rw [hG] at h
        simp only [Act.put, pB, pC, pD] at h
        exact h
      refine coH 7 (oi := ?_) ?_ ?_ (fun K hK => ?_) ?_; rotate_left; (simp only [gA, gB, gC]; exact rfl); rfl
      · go_wp2_with (fail)
        have HSn := Lib.hid (HS.out.alloc (.cells #[.int .i64 300, .int .i64 86400001, .int .i64 4] 3))
        have HMn := Lib.hid (HM.out.alloc (.cells #[.int .i64 300, .int .i64 86400001, .int .i64 4] 3))
        have HGn := Lib.hid (heap_alloc_new W (.cells #[.int .i64 300, .int .i64 86400001, .int .i64 4] 3))
        have HK4 := Lib.hid (heap_keep ((Below.refl _ W).alloc (Nat.le_refl _) (.cells #[.int .i64 300, .int .i64 86400001, .int .i64 4] 3)) HG4.out)
        have HK14 := Lib.hid (heap_keep ((Below.refl _ W).alloc (Nat.le_refl _) (.cells #[.int .i64 300, .int .i64 86400001, .int .i64 4] 3)) HG14.out)
        refine hK.out _ _ True.intro (fun hHeldN => ?_)
        clear hK K
        try simp only [Act.put, pB, pC, pD]
        refine listedEq (l' := #[true, true, true, true, true, false, true, true, false, false, true, false, false, true, true, false, false, false]) (by kernel_rfl) ?_
        have h := h_1_2_4_7_14 g1 z2 g4 W.heap.size g14 (W.alloc (.cells #[.int .i64 300, .int .i64 86400001, .int .i64 4] 3)) HSn HMn HK4 hb4 HGn hlW HK14 hb14
        rw [hG] at h
        simp only [Act.put, pB, pC, pD] at h
        exact h
      exact AllReadyH.nil
    have h_1_2_7_14 : ∀ (g1 : Nat) (z2 : Int) (g7 : Nat) (g14 : Nat) (W : World), Hid (Strm W B (100 + 1)) → Hid (Mut (· = B) w6 W) → Hid (W.heap[g7]? = some (.cells #[.int .i64 300, .int .i64 86400001, .int .i64 4] 3 (0, 0))) → B < g7 → Hid (W.heap[g14]? = some (.cells #[.int .i64 0, .int .i64 10, .int .i64 100, .int .i64 (-1)] 3 (0, 0))) → B < g14 → G 9 #[true, true, true, true, false, false, true, true, false, false, true, false, false, true, true, false, false, false] ((((A.put (some 51) (.slice (some ⟨g1, 0, none⟩) 3 3)).put (some 52) (.int .i64 z2)).put (some 57) (.slice (some ⟨g7, 0, none⟩) 3 3)).put (some 64) (.slice (some ⟨g14, 0, none⟩) 4 4)) W := by
      intro g1 z2 g7 g14 W HS HM HG7 hb7 HG14 hb14
      subst hA
      rw [hG]
      simp only [Act.put, pB, pC, pD]
      have hlW := HS.out.lt
      refine wpAnyH_ready (rs := [4]) (by kernel_rfl) (by simp) ?_
      refine coH 4 (oi := ?_) ?_ ?_ (fun K hK => ?_) ?_; rotate_left; (simp only [gA, gB, gC]; exact rfl); rfl
      · go_wp2_with (fail)
        have HSn := Lib.hid (HS.out.alloc (.cells #[.int .i64 20, .int .i64 7, .int .i64 (-1)] 3))
        have HMn := Lib.hid (HM.out.alloc (.cells #[.int .i64 20, .int .i64 7, .int .i64 (-1)] 3))
        have HGn := Lib.hid (heap_alloc_new W (.cells #[.int .i64 20, .int .i64 7, .int .i64 (-1)] 3))
        have HK7 := Lib.hid (heap_keep ((Below.refl _ W).alloc (Nat.le_refl _) (.cells #[.int .i64 20, .int .i64 7, .int .i64 (-1)] 3)) HG7.out)
        have HK14 := Lib.hid (heap_keep ((Below.refl _ W).alloc (Nat.le_refl _) (.cells #[.int .i64 20, .int .i64 7, .int .i64 (-1)] 3)) HG14.out)
        refine hK.out _ _ True.intro (fun hHeldN => ?_)
        clear hK K
        try simp only [Act.put, pB, pC, pD]
        refine listedEq (l' := #[true, true, true, true, true, false, true, true, false, false, true, false, false, true, true, false, false, false]) (by kernel_rfl) ?_
        have h := h_1_2_4_7_14 g1 z2 W.heap.size g7 g14 (W.alloc (.cells #[.int .i64 20, .int .i64 7, .int .i64 (-1)] 3)) HSn HMn HGn hlW HK7 hb7 HK14 hb14
        rw [hG] at h
        simp only [Act.put, pB, pC, pD] at h
        exact h
      exact AllReadyH.nil
    have h_1_4_7_14 : ∀ (g1 : Nat) (g4 : Nat) (g7 : Nat) (g14 : Nat) (W : World), Hid (Strm W B (100 + 0)) → Hid (Mut (· = B) w6 W) → Hid (W.heap[g1]? = some (.cells #[.int .i64 0, .int .i64 5, .int .i64 900] 3 (0, 0))) → B < g1 → Hid (W.heap[g4]? = some (.cells #[.int .i64 20, .int .i64 7, .int .i64 (-1)] 3 (0, 0))) → B < g4 → Hid (W.heap[g7]? = some (.cells #[.int .i64 300, .int .i64 86400001, .int .i64 4] 3 (0, 0))) → B < g7 → Hid (W.heap[g14]? = some (.cells #[.int .i64 0, .int .i64 10, .int .i64 100, .int .i64 (-1)] 3 (0, 0))) → B < g14 → G 9 #[true, true, false, true, true, false, true, true, false, false, true, false, false, true, true, false, false, false] ((((A.put (some 51) (.slice (some ⟨g1, 0, none⟩) 3 3)).put (some 54) (.slice (some ⟨g4, 0, none⟩) 3 3)).put (some 57) (.slice (some ⟨g7, 0, none⟩) 3 3)).put (some 64) (.slice (some ⟨g14, 0, none⟩) 4 4)) W := by
      intro g1 g4 g7 g14 W HS HM HG1 hb1 HG4 hb4 HG7 hb7 HG14 hb14
      subst hA
      rw [hG]
      simp only [Act.put, pB, pC, pD]
      have hlW := HS.out.lt
      refine wpAnyH_ready (rs := [2]) (by kernel_rfl) (by simp) ?_
      refine coH 2 (oi := ?_) ?_ ?_ (fun K hK => ?_) ?_; rotate_left; (simp only [gA, gB, gC]; exact rfl); rfl
      · go_wp2_with (fail)
        refine (pick_any B _ g1 3 3 (fun _ => True) W HS.out (by omega) (by omega) (by omega) (by omega) (lt_of_heap HG1.out) (by
          intro i hi
          match i, hi with
          | 0, _ => exact ⟨_, cell_of HG1.out (i := 0) rfl, trivial⟩
          | 1, _ => exact ⟨_, cell_of HG1.out (i := 1) rfl, trivial⟩
          | 2, _ => exact ⟨_, cell_of HG1.out (i := 2) rfl, trivial⟩
          | j + 3, h => omega)).mono ?_
        rintro e Wn ⟨⟨z2, rfl, _⟩, hst, hmt⟩
        have HSn := Lib.hid hst
        have HMn := Lib.hid (HM.out.trans (hmt.mono fun _ _ h => h))
        have HK4 := Lib.hid ((hmt.block g4 (lt_of_heap HG4.out) (by show ¬ g4 = B; omega)).trans HG4.out)
        have HK7 := Lib.hid ((hmt.block g7 (lt_of_heap HG7.out) (by show ¬ g7 = B; omega)).trans HG7.out)
        have HK14 := Lib.hid ((hmt.block g14 (lt_of_heap HG14.out) (by show ¬ g14 = B; omega)).trans HG14.out)
        clear hst hmt
        refine hK.out _ _ True.intro (fun hHeldN => ?_)
        clear hK K
        try simp only [Act.put, pB, pC, pD]
        refine listedEq (l' := #[true, true, true, true, true, false, true, true, false, false, true, false, false, true, true, false, false, false]) (by kernel_rfl) ?_
        have h := h_1_2_4_7_14 g1 z2 g4 g7 g14 Wn HSn HMn HK4 hb4 HK7 hb7 HK14 hb14
        rw [hG] at h
        simp only [Act.put, pB, pC, pD] at h
        exact h
      exact AllReadyH.nil
    have h_1_2_4 : ∀ (g1 : Nat) (z2 : Int) (g4 : Nat) (W : World), Hid (Strm W B (100 + 1)) → Hid (Mut (· = B) w6 W) → Hid (W.heap[g4]? = some (.cells #[.int .i64 20, .int .i64 7, .int .i64 (-1)] 3 (0, 0))) → B < g4 → G 10 #[true, true, true, true, true, false, true, false, false, false, true, false, false, true, false, false, false, false] (((A.put (some 51) (.slice (some ⟨g1, 0, none⟩) 3 3)).put (some 52) (.int .i64 z2)).put (some 54) (.slice (some ⟨g4, 0, none⟩) 3 3)) W := by
      intro g1 z2 g4 W HS HM HG4 hb4
      subst hA
      rw [hG]
      simp only [Act.put, pB, pC, pD]
      have hlW := HS.out.lt
      refine wpAnyH_ready (rs := [5, 7, 14]) (by kernel_rfl) (by simp) ?_
      refine coH 5 (oi := ?_) ?_ ?_ (fun K hK => ?_) ?_; rotate_left; (simp only [gA, gB, gC]; exact rfl); rfl
      · go_wp2_with (fail)
        refine (pick_any B _ g4 3 3 (fun _ => True) W HS.out (by omega) (by omega) (by omega) (by omega) (lt_of_heap HG4.out) (by
          intro i hi
          match i, hi with
          | 0, _ => exact ⟨_, cell_of HG4.out (i := 0) rfl, trivial⟩
          | 1, _ => exact ⟨_, cell_of HG4.out (i := 1) rfl, trivial⟩
          | 2, _ => exact ⟨_, cell_of HG4.out (i := 2) rfl, trivial⟩
          | j + 3, h => omega)).mono ?_
        rintro e Wn ⟨⟨z5, rfl, _⟩, hst, hmt⟩
        have HSn := Lib.hid hst
        have HMn := Lib.hid (HM.out.trans (hmt.mono fun _ _ h => h))
        clear hst hmt
        refine hK.out _ _ True.intro (fun hHeldN => ?_)
        clear hK K
        try simp only [Act.put, pB, pC, pD]
        refine listedEq (l' := #[true, true, true, true, true, true, true, false, false, false, true, false, false, true, false, false, false, false]) (by kernel_rfl) ?_
        have h := h_1_2_4_5 g1 z2 g4 z5 Wn HSn HMn
        rw [hG] at h
        simp only [Act.put, pB, pC, pD] at h
        exact h
      refine coH 7 (oi := ?_) ?_ ?_ (fun K hK => ?_) ?_; rotate_left; (simp only [gA, gB, gC]; exact rfl); rfl
      · go_wp2_with (fail)
        have HSn := Lib.hid (HS.out.alloc (.cells #[.int .i64 300, .int .i64 86400001, .int .i64 4] 3))
        have HMn := Lib.hid (HM.out.alloc (.cells #[.int .i64 300, .int .i64 86400001, .int .i64 4] 3))
        have HGn := Lib.hid (heap_alloc_new W (.cells #[.int .i64 300, .int .i64 86400001, .int .i64 4] 3))
        have HK4 := Lib.hid (heap_keep ((Below.refl _ W).alloc (Nat.le_refl _) (.cells #[.int .i64 300, .int .i64 86400001, .int .i64 4] 3)) HG4.out)
        refine hK.out _ _ True.intro (fun hHeldN => ?_)
        clear hK K
        try simp only [Act.put, pB, pC, pD]
        refine listedEq (l' := #[true, true, true, true, true, false, true, true, false, false, true, false, false, true, false, false, false, false]) (by kernel_rfl) ?_
        have h := h_1_2_4_7 g1 z2 g4 W.heap.size (W.alloc (.cells #[.int .i64 300, .int .i64 86400001, .int .i64 4] 3)) HSn HMn HK4 hb4 HGn hlW
        rw [hG] at h
        simp only [Act.put, pB, pC, pD] at h
        exact h
      refine coH 14 (oi := ?_) ?_ ?_ (fun K hK => ?_) ?_; rotate_left; (simp only [gA, gB, gC]; exact rfl); rfl
      · go_wp2_with (fail)
        have HSn := Lib.hid (HS.out.alloc (.cells #[.int .i64 0, .int .i64 10, .int .i64 100, .int .i64 (-1)] 3))
        have HMn := Lib.hid (HM.out.alloc (.cells #[.int .i64 0, .int .i64 10, .int .i64 100, .int .i64 (-1)] 3))
        have HGn := Lib.hid (heap_alloc_new W (.cells #[.int .i64 0, .int .i64 10, .int .i64 100, .int .i64 (-1)] 3))
        have HK4 := Lib.hid (heap_keep ((Below.refl _ W).alloc (Nat.le_refl _) (.cells #[.int .i64 0, .int .i64 10, .int .i64 100, .int .i64 (-1)] 3)) HG4.out)
        refine hK.out _ _ True.intro (fun hHeldN => ?_)
        clear hK K
        try simp only [Act.put, pB, pC, pD]
        refine listedEq (l' := #[true, true, true, true, true, false, true, false, false, false, true, false, false, true, true, false, false, false]) (by kernel_rfl) ?_
        have h := h_1_2_4_14 g1 z2 g4 W.heap.size (W.alloc (.cells #[.int .i64 0, .int .i64 10, .int .i64 100, .int .i64 (-1)] 3)) HSn HMn HK4 hb4 HGn hlW
        rw [hG] at h
        simp only [Act.put, pB, pC, pD] at h
        exact h
      exact AllReadyH.nil
    have h_1_2_7 : ∀ (g1 : Nat) (z2 : Int) (g7 : Nat) (W : World), Hid (Strm W B (100 + 1)) → Hid (Mut (· = B) w6 W) → Hid (W.heap[g7]? = some (.cells #[.int .i64 300, .int .i64 86400001, .int .i64 4] 3 (0, 0))) → B < g7 → G 10 #[true, true, true, true, false, false, true, true, false, false, true, false, false, true, false, false, false, false] (((A.put (some 51) (.slice (some ⟨g1, 0, none⟩) 3 3)).put (some 52) (.int .i64 z2)).put (some 57) (.slice (some ⟨g7, 0, none⟩) 3 3)) W := by
      intro g1 z2 g7 W HS HM HG7 hb7
      subst hA
      rw [hG]
      simp only [Act.put, pB, pC, pD]
      have hlW := HS.out.lt
      refine wpAnyH_ready (rs := [4, 14]) (by kernel_rfl) (by simp) ?_
      refine coH 4 (oi := ?_) ?_ ?_ (fun K hK => ?_) ?_; rotate_left; (simp only [gA, gB, gC]; exact rfl); rfl
      · go_wp2_with (fail)
        have HSn := Lib.hid (HS.out.alloc (.cells #[.int .i64 20, .int .i64 7, .int .i64 (-1)] 3))
        have HMn := Lib.hid (HM.out.alloc (.cells #[.int .i64 20, .int .i64 7, .int .i64 (-1)] 3))
        have HGn := Lib.hid (heap_alloc_new W (.cells #[.int .i64 20, .int .i64 7, .int .i64 (-1)] 3))
        have HK7 := Lib.hid (heap_keep ((Below.refl _ W).alloc (Nat.le_refl _) (.cells #[.int .i64 20, .int .i64 7, .int .i64 (-1)] 3)) HG7.out)
        refine hK.out _ _ True.intro (fun hHeldN => ?_)
        clear hK K
        try simp only [Act.put, pB, pC, pD]
        refine listedEq (l' := #[true, true, true, true, true, false, true, true, false, false, true, false, false, true, false, false, false, false]) (by kernel_rfl) ?_
        have h := h_1_2_4_7 g1 z2 W.heap.size g7 (W.alloc (.cells #[.int .i64 20, .int .i64 7, .int .i64 (-1)] 3)) HSn HMn HGn hlW HK7 hb7
        rw [hG] at h
        simp only [Act.put, pB, pC, pD] at h
        exact h
      refine coH 14 (oi := ?_) ?_ ?_ (fun K hK => ?_) ?_; rotate_left; (simp only [gA, gB, gC]; exact rfl); rfl
      · go_wp2_with (fail)
        have HSn := Lib.hid (HS.out.alloc (.cells #[.int .i64 0, .int .i64 10, .int .i64 100, .int .i64 (-1)] 3))
        have HMn := Lib.hid (HM.out.alloc (.cells #[.int .i64 0, .int .i64 10, .int .i64 100, .int .i64 (-1)] 3))
        have HGn := Lib.hid (heap_alloc_new W (.cells #[.int .i64 0, .int .i64 10, .int .i64 100, .int .i64 (-1)] 3))
        have HK7 := Lib.hid (heap_keep ((Below.refl _ W).alloc (Nat.le_refl _) (.cells #[.int .i64 0, .int .i64 10, .int .i64 100, .int .i64 (-1)] 3)) HG7.out)
        refine hK.out _ _ True.intro (fun hHeldN => ?_)
        clear hK K
        try simp only [Act.put, pB, pC, pD]
        refine listedEq (l' := #[true, true, true, true, false, false, true, true, false, false, true, false, false, true, true, false, false, false]) (by kernel_rfl) ?_
        have h := h_1_2_7_14 g1 z2 g7 W.heap.size (W.alloc (.cells #[.int .i64 0, .int .i64 10, .int .i64 100, .int .i64 (-1)] 3)) HSn HMn HK7 hb7 HGn hlW
        rw [hG] at h
        simp only [Act.put, pB, pC, pD] at h
        exact h
      exact AllReadyH.nil
    have h_1_2_14 : ∀ (g1 : Nat) (z2 : Int) (g14 : Nat) (W : World), Hid (Strm W B (100 + 1)) → Hid (Mut (· = B) w6 W) → Hid (W.heap[g14]? = some (.cells #[.int .i64 0, .int .i64 10, .int .i64 100, .int .i64 (-1)] 3 (0, 0))) → B < g14 → G 10 #[true, true, true, true, false, false, true, false, false, false, true, false, false, true, true, false, false, false] (((A.put (some 51) (.slice (some ⟨g1, 0, none⟩) 3 3)).put (some 52) (.int .i64 z2)).put (some 64) (.slice (some ⟨g14, 0, none⟩) 4 4)) W := by
      intro g1 z2 g14 W HS HM HG14 hb14
      subst hA
      rw [hG]
      simp only [Act.put, pB, pC, pD]
      have hlW := HS.out.lt
      refine wpAnyH_ready (rs := [4, 7]) (by kernel_rfl) (by simp) ?_
      refine coH 4 (oi := ?_) ?_ ?_ (fun K hK => ?_) ?_; rotate_left; (simp only [gA, gB, gC]; exact rfl); rfl
      · go_wp2_with (fail)
        have HSn := Lib.hid (HS.out.alloc (.cells #[.int .i64 20, .int .i64 7, .int .i64 (-1)] 3))
        have HMn := Lib.hid (HM.out.alloc (.cells #[.int .i64 20, .int .i64 7, .int .i64 (-1)] 3))
        have HGn := Lib.hid (heap_alloc_new W (.cells #[.int .i64 20, .int .i64 7, .int .i64 (-1)] 3))
        have HK14 := Lib.hid (heap_keep ((Below.refl _ W).alloc (Nat.le_refl _) (.cells #[.int .i64 20, .int .i64 7, .int .i64 (-1)] 3)) HG14.out)
        refine hK.out _ _ True.intro (fun hHeldN => ?_)
        clear hK K
        try simp only [Act.put, pB, pC, pD]
        refine listedEq (l' := #[true, true, true, true, true, false, true, false, false, false, true, false, false, true, true, false, false, false]) (by kernel_rfl) ?_
        have h := h_1_2_4_14 g1 z2 W.heap.size g14 (W.alloc (.cells #[.int .i64 20, .int .i64 7, .int .i64 (-1)] 3)) HSn HMn HGn hlW HK14 hb14
        rw [hG] at h
        simp only [Act.put, pB, pC, pD] at h
        exact h
      refine coH 7 (oi := ?_) ?_ ?_ (fun K hK => ?_) ?_; rotate_left; (simp only [gA, gB, gC]; exact rfl); rfl
      · go_wp2_with (fail)
        have HSn := Lib.hid (HS.out.alloc (.cells #[.int .i64 300, .int .i64 86400001, .int .i64 4] 3))
        have HMn := Lib.hid (HM.out.alloc (.cells #[.int .i64 300, .int .i64 86400001, .int .i64 4] 3))
        have HGn := Lib.hid (heap_alloc_new W (.cells #[.int .i64 300, .int .i64 86400001, .int .i64 4] 3))
        have HK14 := Lib.hid (heap_keep ((Below.refl _ W).alloc (Nat.le_refl _) (.cells #[.int .i64 300, .int .i64 86400001, .int .i64 4] 3)) HG14.out)
        refine hK.out _ _ True.intro (fun hHeldN => ?_)
        clear hK K
        try simp only [Act.put, pB, pC, pD]
        refine listedEq (l' := #[true, true, true, true, false, false, true, true, false, false, true, false, false, true, true, false, false, false]) (by kernel_rfl) ?_
        have h := h_1_2_7_14 g1 z2 W.heap.size g14 (W.alloc (.cells #[.int .i64 300, .int .i64 86400001, .int .i64 4] 3)) HSn HMn HGn hlW HK14 hb14
        rw [hG] at h
        simp only [Act.put, pB, pC, pD] at h
        exact h
      exact AllReadyH.nil
    have h_1_4_7 : ∀ (g1 : Nat) (g4 : Nat) (g7 : Nat) (W : World), Hid (Strm W B (100 + 0)) → Hid (Mut (· = B) w6 W) → Hid (W.heap[g1]? = some (.cells #[.int .i64 0, .int .i64 5, .int .i64 900] 3 (0, 0))) → B < g1 → Hid (W.heap[g4]? = some (.cells #[.int .i64 20, .int .i64 7, .int .i64 (-1)] 3 (0, 0))) → B < g4 → Hid (W.heap[g7]? = some (.cells #[.int .i64 300, .int .i64 86400001, .int .i64 4] 3 (0, 0))) → B < g7 → G 10 #[true, true, false, true, true, false, true, true, false, false, true, false, false, true, false, false, false, false] (((A.put (some 51) (.slice (some ⟨g1, 0, none⟩) 3 3)).put (some 54) (.slice (some ⟨g4, 0, none⟩) 3 3)).put (some 57) (.slice (some ⟨g7, 0, none⟩) 3 3)) W := by
      intro g1 g4 g7 W HS HM HG1 hb1 HG4 hb4 HG7 hb7
      subst hA
      rw [hG]
      simp only [Act.put, pB, pC, pD]
      have hlW := HS.out.lt
      refine wpAnyH_ready (rs := [2, 14]) (by kernel_rfl) (by simp) ?_
      refine coH 2 (oi := ?_) ?_ ?_ (fun K hK => ?_) ?_; rotate_left; (simp only [gA, gB, gC]; exact rfl); rfl
      · go_wp2_with (fail)
        refine (pick_any B _ g1 3 3 (fun _ => True) W HS.out (by omega) (by omega) (by omega) (by omega) (lt_of_heap HG1.out) (by
          intro i hi
          match i, hi with
          | 0, _ => exact ⟨_, cell_of HG1.out (i := 0) rfl, trivial⟩
          | 1, _ => exact ⟨_, cell_of HG1.out (i := 1) rfl, trivial⟩
          | 2, _ => exact ⟨_, cell_of HG1.out (i := 2) rfl, trivial⟩
          | j + 3, h => omega)).mono ?_
        rintro e Wn ⟨⟨z2, rfl, _⟩, hst, hmt⟩
        have HSn := Lib.hid hst
        have HMn := Lib.hid (HM.out.trans (hmt.mono fun _ _ h => h))
        have HK4 := Lib.hid ((hmt.block g4 (lt_of_heap HG4.out) (by show ¬ g4 = B; omega)).trans HG4.out)
        have HK7 := Lib.hid ((hmt.block g7 (lt_of_heap HG7.out) (by show ¬ g7 = B; omega)).trans HG7.out)
        clear hst hmt
        refine hK.out _ _ True.intro (fun hHeldN => ?_)
        clear hK K
        try simp only [Act.put, pB, pC, pD]
        refine listedEq (l' := #[true, true, true, true, true, false, true, true, false, false, true, false, false, true, false, false, false, false]) (by kernel_rfl) ?_
        have h := h_1_2_4_7 g1 z2 g4 g7 Wn HSn HMn HK4 hb4 HK7 hb7
        rw [hG] at h
        simp only [Act.put, pB, pC, pD] at h
        exact h
      refine coH 14 (oi := ?_) ?_ ?_ (fun K hK => ?_) ?_; rotate_left; (simp only [gA, gB, gC]; exact rfl); rfl
      · go_wp2_with (fail)
        have HSn := Lib.hid (HS.out.alloc (.cells #[.int .i64 0, .int .i64 10, .int .i64 100, .int .i64 (-1)] 3))
        have HMn := Lib.hid (HM.out.alloc (.cells #[.int .i64 0, .int .i64 10, .int .i64 100, .int .i64 (-1)] 3))
        have HGn := Lib.hid (heap_alloc_new W (.cells #[.int .i64 0, .int .i64 10, .int .i64 100, .int .i64 (-1)] 3))
        have HK1 := Lib.hid (heap_keep ((Below.refl _ W).alloc (Nat.le_refl _) (.cells #[.int .i64 0, .int .i64 10, .int .i64 100, .int .i64 (-1)] 3)) HG1.out)
        have HK4 := Lib.hid (heap_keep ((Below.refl _ W).alloc (Nat.le_refl _) (.cells #[.int .i64 0, .int .i64 10, .int .i64 100, .int .i64 (-1)] 3)) HG4.out)
        have HK7 := Lib.hid (heap_keep ((Below.refl _ W).alloc (Nat.le_refl _) (.cells #[.int .i64 0, .int .i64 10, .int .i64 100, .int .i64 (-1)] 3)) HG7.out)
        refine hK.out _ _ True.intro (fun hHeldN => ?_)
        clear hK K
        try simp only [Act.put, pB, pC, pD]
        refine listedEq (l' := #[true, true, false, true, true, false, true, true, false, false, true, false, false, true, true, false, false, false]) (by kernel_rfl) ?_
        have h := h_1_4_7_14 g1 g4 g7 W.heap.size (W.alloc (.cells #[.int .i64 0, .int .i64 10, .int .i64 100, .int .i64 (-1)] 3)) HSn HMn HK1 hb1 HK4 hb4 HK7 hb7 HGn hlW
        rw [hG] at h
        simp only [Act.put, pB, pC, pD] at h
        exact h
      exact AllReadyH.nil
    have h_1_4_14 : ∀ (g1 : Nat) (g4 : Nat) (g14 : Nat) (W : World), Hid (Strm W B (100 + 0)) → Hid (Mut (· = B) w6 W) → Hid (W.heap[g1]? = some (.cells #[.int .i64 0, .int .i64 5, .int .i64 900] 3 (0, 0))) → B < g1 → Hid (W.heap[g4]? = some (.cells #[.int .i64 20, .int .i64 7, .int .i64 (-1)] 3 (0, 0))) → B < g4 → Hid (W.heap[g14]? = some (.cells #[.int .i64 0, .int .i64 10, .int .i64 100, .int .i64 (-1)] 3 (0, 0))) → B < g14 → G 10 #[true, true, false, true, true, false, true, false, false, false, true, false, false, true, true, false, false, false] (((A.put (some 51) (.slice (some ⟨g1, 0, none⟩) 3 3)).put (some 54) (.slice (some ⟨g4, 0, none⟩) 3 3)).put (some 64) (.slice (some ⟨g14, 0, none⟩) 4 4)) W := by
      intro g1 g4 g14 W HS HM HG1 hb1 HG4 hb4 HG14 hb14
      subst hA
      rw [hG]
      simp only [Act.put, pB, pC, pD]
      have hlW := HS.out.lt
      refine wpAnyH_ready (rs := [2, 7]) (by kernel_rfl) (by simp) ?_
      refine coH 2 (oi := ?_) ?_ ?_ (fun K hK => ?_) ?_; rotate_left; (simp only [gA, gB, gC]; exact rfl); rfl
      · go_wp2_with (fail)
        refine (pick_any B _ g1 3 3 (fun _ => True) W HS.out (by omega) (by omega) (by omega) (by omega) (lt_of_heap HG1.out) (by
          intro i hi
          match i, hi with
          | 0, _ => exact ⟨_, cell_of HG1.out (i := 0) rfl, trivial⟩
          | 1, _ => exact ⟨_, cell_of HG1.out (i := 1) rfl, trivial⟩
          | 2, _ => exact ⟨_, cell_of HG1.out (i := 2) rfl, trivial⟩
          | j + 3, h => omega)).mono ?_
        rintro e Wn ⟨⟨z2, rfl, _⟩, hst, hmt⟩
        have HSn := Lib.hid hst
        have HMn := Lib.hid (HM.out.trans (hmt.mono fun _ _ h => h))
        have HK4 := Lib.hid ((hmt.block g4 (lt_of_heap HG4.out) (by show ¬ g4 = B; omega)).trans HG4.out)
        have HK14 := Lib.hid ((hmt.block g14 (lt_of_heap HG14.out) (by show ¬ g14 = B; omega)).trans HG14.out)
        clear hst hmt
        refine hK.out _ _ True.intro (fun hHeldN => ?_)
        clear hK K
        try simp only [Act.put, pB, pC, pD]
        refine listedEq (l' := #[true, true, true, true, true, false, true, false, false, false, true, false, false, true, true, false, false, false]) (by kernel_rfl) ?_
        have h := h_1_2_4_14 g1 z2 g4 g14 Wn HSn HMn HK4 hb4 HK14 hb14
        rw [hG] at h
        simp only [Act.put, pB, pC, pD] at h
        exact h
      refine coH 7 (oi := ?_) ?_ ?_ (fun K hK => ?_) ?_; rotate_left; (simp only [gA, gB, gC]; exact rfl); rfl
      · go_wp2_with (fail)
        have HSn := Lib.hid (HS.out.alloc (.cells #[.int .i64 300, .int .i64 86400001, .int .i64 4] 3))
        have HMn := Lib.hid (HM.out.alloc (.cells #[.int .i64 300, .int .i64 86400001, .int .i64 4] 3))
        have HGn := Lib.hid (heap_alloc_new W (.cells #[.int .i64 300, .int .i64 86400001, .int .i64 4] 3))
        have HK1 := Lib.hid (heap_keep ((Below.refl _ W).alloc (Nat.le_refl _) (.cells #[.int .i64 300, .int .i64 86400001, .int .i64 4] 3)) HG1.out)
        have HK4 := Lib.hid (heap_keep ((Below.refl _ W).alloc (Nat.le_refl _) (.cells #[.int .i64 300, .int .i64 86400001, .int .i64 4] 3)) HG4.out)
        have HK14 := Lib.hid (heap_keep ((Below.refl _ W).alloc (Nat.le_refl _) (.cells #[.int .i64 300, .int .i64 86400001, .int .i64 4] 3)) HG14.out)
        refine hK.out _ _ True.intro (fun hHeldN => ?_)
        clear hK K
        try simp only [Act.put, pB, pC, pD]
        refine listedEq (l' := #[true, true, false, true, true, false, true, true, false, false, true, false, false, true, true, false, false, false]) (by kernel_rfl) ?_
        have h := h_1_4_7_14 g1 g4 W.heap.size g14 (W.alloc (.cells #[.int .i64 300, .int .i64 86400001, .int .i64 4] 3)) HSn HMn HK1 hb1 HK4 hb4 HGn hlW HK14 hb14
        rw [hG] at h
        simp only [Act.put, pB, pC, pD] at h
        exact h
      exact AllReadyH.nil
    have h_1_7_14 : ∀ (g1 : Nat) (g7 : Nat) (g14 : Nat) (W : World), Hid (Strm W B (100 + 0)) → Hid (Mut (· = B) w6 W) → Hid (W.heap[g1]? = some (.cells #[.int .i64 0, .int .i64 5, .int .i64 900] 3 (0, 0))) → B < g1 → Hid (W.heap[g7]? = some (.cells #[.int .i64 300, .int .i64 86400001, .int .i64 4] 3 (0, 0))) → B < g7 → Hid (W.heap[g14]? = some (.cells #[.int .i64 0, .int .i64 10, .int .i64 100, .int .i64 (-1)] 3 (0, 0))) → B < g14 → G 10 #[true, true, false, true, false, false, true, true, false, false, true, false, false, true, true, false, false, false] (((A.put (some 51) (.slice (some ⟨g1, 0, none⟩) 3 3)).put (some 57) (.slice (some ⟨g7, 0, none⟩) 3 3)).put (some 64) (.slice (some ⟨g14, 0, none⟩) 4 4)) W := by
      intro g1 g7 g14 W HS HM HG1 hb1 HG7 hb7 HG14 hb14
      subst hA
      rw [hG]
      simp only [Act.put, pB, pC, pD]
      have hlW := HS.out.lt
      refine wpAnyH_ready (rs := [2, 4]) (by kernel_rfl) (by simp) ?_
      refine coH 2 (oi := ?_) ?_ ?_ (fun K hK => ?_) ?_; rotate_left; (simp only [gA, gB, gC]; exact rfl); rfl
      · go_wp2_with (fail)
        refine (pick_any B _ g1 3 3 (fun _ => True) W HS.out (by omega) (by omega) (by omega) (by omega) (lt_of_heap HG1.out) (by
          intro i hi
          match i, hi with
          | 0, _ => exact ⟨_, cell_of HG1.out (i := 0) rfl, trivial⟩
          | 1, _ => exact ⟨_, cell_of HG1.out (i := 1) rfl, trivial⟩
          | 2, _ => exact ⟨_, cell_of HG1.out (i := 2) rfl, trivial⟩
          | j + 3, h => omega)).mono ?_
        rintro e Wn ⟨⟨z2, rfl, _⟩, hst, hmt⟩
        have HSn := Lib.hid hst
        have HMn := Lib.hid (HM.out.trans (hmt.mono fun _ _ h => h))
        have HK7 := Lib.hid ((hmt.block g7 (lt_of_heap HG7.out) (by show ¬ g7 = B; omega)).trans HG7.out)
        have HK14 := Lib.hid ((hmt.block g14 (lt_of_heap HG14.out) (by show ¬ g14 = B; omega)).trans HG14.out)
        clear hst hmt
        refine hK.out _ _ True.intro (fun hHeldN => ?_)
        clear hK K
        try simp only [Act.put, pB, pC, pD]
        refine listedEq (l' := #[true, true, true, true, false, false, true, true, false, false, true, false, false, true, true, false, false, false]) (by kernel_rfl) ?_
        have h := h_1_2_7_14 g1 z2 g7 g14 Wn HSn HMn HK7 hb7 HK14 hb14
        rw [hG] at h
        simp only [Act.put, pB, pC, pD] at h
        exact h
      refine coH 4 (oi := ?_) ?_ ?_ (fun K hK => ?_) ?_; rotate_left; (simp only [gA, gB, gC]; exact rfl); rfl
      · go_wp2_with (fail)
        have HSn := Lib.hid (HS.out.alloc (.cells #[.int .i64 20, .int .i64 7, .int .i64 (-1)] 3))
        have HMn := Lib.hid (HM.out.alloc (.cells #[.int .i64 20, .int .i64 7, .int .i64 (-1)] 3))
        have HGn := Lib.hid (heap_alloc_new W (.cells #[.int .i64 20, .int .i64 7, .int .i64 (-1)] 3))
        have HK1 := Lib.hid (heap_keep ((Below.refl _ W).alloc (Nat.le_refl _) (.cells #[.int .i64 20, .int .i64 7, .int .i64 (-1)] 3)) HG1.out)
        have HK7 := Lib.hid (heap_keep ((Below.refl _ W).alloc (Nat.le_refl _) (.cells #[.int .i64 20, .int .i64 7, .int .i64 (-1)] 3)) HG7.out)
        have HK14 := Lib.hid (heap_keep ((Below.refl _ W).alloc (Nat.le_refl _) (.cells #[.int .i64 20, .int .i64 7, .int .i64 (-1)] 3)) HG14.out)
        refine hK.out _ _ True.intro (fun hHeldN => ?_)
        clear hK K
        try simp only [Act.put, pB, pC, pD]
        refine listedEq (l' := #[true, true, false, true, true, false, true, true, false, false, true, false, false, true, true, false, false, false]) (by kernel_rfl) ?_
        have h := h_1_4_7_14 g1 W.heap.size g7 g14 (W.alloc (.cells #[.int .i64 20, .int .i64 7, .int .i64 (-1)] 3)) HSn HMn HK1 hb1 HGn hlW HK7 hb7 HK14 hb14
        rw [hG] at h
        simp only [Act.put, pB, pC, pD] at h
        exact h
      exact AllReadyH.nil
    have h_4_7_14 : ∀ (g4 : Nat) (g7 : Nat) (g14 : Nat) (W : World), Hid (Strm W B (100 + 0)) → Hid (Mut (· = B) w6 W) → Hid (W.heap[g4]? = some (.cells #[.int .i64 20, .int .i64 7, .int .i64 (-1)] 3 (0, 0))) → B < g4 → Hid (W.heap[g7]? = some (.cells #[.int .i64 300, .int .i64 86400001, .int .i64 4] 3 (0, 0))) → B < g7 → Hid (W.heap[g14]? = some (.cells #[.int .i64 0, .int .i64 10, .int .i64 100, .int .i64 (-1)] 3 (0, 0))) → B < g14 → G 10 #[true, false, false, true, true, false, true, true, false, false, true, false, false, true, true, false, false, false] (((A.put (some 54) (.slice (some ⟨g4, 0, none⟩) 3 3)).put (some 57) (.slice (some ⟨g7, 0, none⟩) 3 3)).put (some 64) (.slice (some ⟨g14, 0, none⟩) 4 4)) W := by
      intro g4 g7 g14 W HS HM HG4 hb4 HG7 hb7 HG14 hb14
      subst hA
      rw [hG]
      simp only [Act.put, pB, pC, pD]
      have hlW := HS.out.lt
      refine wpAnyH_ready (rs := [1]) (by kernel_rfl) (by simp) ?_
      refine coH 1 (oi := ?_) ?_ ?_ (fun K hK => ?_) ?_; rotate_left; (simp only [gA, gB, gC]; exact rfl); rfl
      · go_wp2_with (fail)
        have HSn := Lib.hid (HS.out.alloc (.cells #[.int .i64 0, .int .i64 5, .int .i64 900] 3))
        have HMn := Lib.hid (HM.out.alloc (.cells #[.int .i64 0, .int .i64 5, .int .i64 900] 3))
        have HGn := Lib.hid (heap_alloc_new W (.cells #[.int .i64 0, .int .i64 5, .int .i64 900] 3))
        have HK4 := Lib.hid (heap_keep ((Below.refl _ W).alloc (Nat.le_refl _) (.cells #[.int .i64 0, .int .i64 5, .int .i64 900] 3)) HG4.out)
        have HK7 := Lib.hid (heap_keep ((Below.refl _ W).alloc (Nat.le_refl _) (.cells #[.int .i64 0, .int .i64 5, .int .i64 900] 3)) HG7.out)
        have HK14 := Lib.hid (heap_keep ((Below.refl _ W).alloc (Nat.le_refl _) (.cells #[.int .i64 0, .int .i64 5, .int .i64 900] 3)) HG14.out)
        refine hK.out _ _ True.intro (fun hHeldN => ?_)
        clear hK K
        try simp only [Act.put, pB, pC, pD]
        refine listedEq (l' := #[true, true, false, true, true, false, true, true, false, false, true, false, false, true, true, false, false, false]) (by kernel_rfl) ?_
        have h := h_1_4_7_14 W.heap.size g4 g7 g14 (W.alloc (.cells #[.int .i64 0, .int .i64 5, .int .i64 900] 3)) HSn HMn HGn hlW HK4 hb4 HK7 hb7 HK14 hb14
        rw [hG] at h
        simp only [Act.put, pB, pC, pD] at h
        exact h
      exact AllReadyH.nil
    have h_1_2 : ∀ (g1 : Nat) (z2 : Int) (W : World), Hid (Strm W B (100 + 1)) → Hid (Mut (· = B) w6 W) → G 11 #[true, true, true, true, false, false, true, false, false, false, true, false, false, true, false, false, false, false] ((A.put (some 51) (.slice (some ⟨g1, 0, none⟩) 3 3)).put (some 52) (.int .i64 z2)) W := by
      intro g1 z2 W HS HM
      subst hA
      rw [hG]
      simp only [Act.put, pB, pC, pD]
      have hlW := HS.out.lt
      refine wpAnyH_ready (rs := [4, 7, 14]) (by kernel_rfl) (by simp) ?_
      refine coH 4 (oi := ?_) ?_ ?_ (fun K hK => ?_) ?_; rotate_left; (simp only [gA, gB, gC]; exact rfl); rfl
      · go_wp2_with (fail)
        have HSn := Lib.hid (HS.out.alloc (.cells #[.int .i64 20, .int .i64 7, .int .i64 (-1)] 3))
        have HMn := Lib.hid (HM.out.alloc (.cells #[.int .i64 20, .int .i64 7, .int .i64 (-1)] 3))
        have HGn := Lib.hid (heap_alloc_new W (.cells #[.int .i64 20, .int .i64 7, .int .i64 (-1)] 3))
        refine hK.out _ _ True.intro (fun hHeldN => ?_)
        clear hK K
        try simp only [Act.put, pB, pC, pD]
        refine listedEq (l' := #[true, true, true, true, true, false, true, false, false, false, true, false, false, true, false, false, false, false]) (by kernel_rfl) ?_
        have h := h_1_2_4 g1 z2 W.heap.size (W.alloc (.cells #[.int .i64 20, .int .i64 7, .int .i64 (-1)] 3)) HSn HMn HGn hlW
        rw [hG] at h
        simp only [Act.put, pB, pC, pD] at h
        exact h
      refine coH 7 (oi := ?_) ?_ ?_ (fun K hK => ?_) ?_; rotate_left; (simp only [gA, gB, gC]; exact rfl); rfl
      · go_wp2_with (fail)
        have HSn := Lib.hid (HS.out.alloc (.cells #[.int .i64 300, .int .i64 86400001, .int .i64 4] 3))
        have HMn := Lib.hid (HM.out.alloc (.cells #[.int .i64 300, .int .i64 86400001, .int .i64 4] 3))
        have HGn := Lib.hid (heap_alloc_new W (.cells #[.int .i64 300, .int .i64 86400001, .int .i64 4] 3))
        refine hK.out _ _ True.intro (fun hHeldN => ?_)
        clear hK K
        try simp only [Act.put, pB, pC, pD]
        refine listedEq (l' := #[true, true, true, true, false, false, true, true, false, false, true, false, false, true, false, false, false, false]) (by kernel_rfl) ?_
        have h := h_1_2_7 g1 z2 W.heap.size (W.alloc (.cells #[.int .i64 300, .int .i64 86400001, .int .i64 4] 3)) HSn HMn HGn hlW
        rw [hG] at h
        simp only [Act.put, pB, pC, pD] at h
        exact h
      refine coH 14 (oi := ?_) ?_ ?_ (fun K hK => ?_) ?_; rotate_left; (simp only [gA, gB, gC]; exact rfl); rfl
      · go_wp2_with (fail)
        have HSn := Lib.hid (HS.out.alloc (.cells #[.int .i64 0, .int .i64 10, .int .i64 100, .int .i64 (-1)] 3))
        have HMn := Lib.hid (HM.out.alloc (.cells #[.int .i64 0, .int .i64 10, .int .i64 100, .int .i64 (-1)] 3))
        have HGn := Lib.hid (heap_alloc_new W (.cells #[.int .i64 0, .int .i64 10, .int .i64 100, .int .i64 (-1)] 3))
        refine hK.out _ _ True.intro (fun hHeldN => ?_)
        clear hK K
        try simp only [Act.put, pB, pC, pD]
        refine listedEq (l' := #[true, true, true, true, false, false, true, false, false, false, true, false, false, true, true, false, false, false]) (by kernel_rfl) ?_
        have h := h_1_2_14 g1 z2 W.heap.size (W.alloc (.cells #[.int .i64 0, .int .i64 10, .int .i64 100, .int .i64 (-1)] 3)) HSn HMn HGn hlW
        rw [hG] at h
        simp only [Act.put, pB, pC, pD] at h
        exact h
      exact AllReadyH.nil
    have h_1_4 : ∀ (g1 : Nat) (g4 : Nat) (W : World), Hid (Strm W B (100 + 0)) → Hid (Mut (· = B) w6 W) → Hid (W.heap[g1]? = some (.cells #[.int .i64 0, .int .i64 5, .int .i64 900] 3 (0, 0))) → B < g1 → Hid (W.heap[g4]? = some (.cells #[.int .i64 20, .int .i64 7, .int .i64 (-1)] 3 (0, 0))) → B < g4 → G 11 #[true, true, false, true, true, false, true, false, false, false, true, false, false, true, false, false, false, false] ((A.put (some 51) (.slice (some ⟨g1, 0, none⟩) 3 3)).put (some 54) (.slice (some ⟨g4, 0, none⟩) 3 3)) W := by
      intro g1 g4 W HS HM HG1 hb1 HG4 hb4
      subst hA
      rw [hG]
      simp only [Act.put, pB, pC, pD]
      have hlW := HS.out.lt
      refine wpAnyH_ready (rs := [2, 7, 14]) (by kernel_rfl) (by simp) ?_
      refine coH 2 (oi := ?_) ?_ ?_ (fun K hK => ?_) ?_; rotate_left; (simp only [gA, gB, gC]; exact rfl); rfl
      · go_wp2_with (fail)
        refine (pick_any B _ g1 3 3 (fun _ => True) W HS.out (by omega) (by omega) (by omega) (by omega) (lt_of_heap HG1.out) (by
          intro i hi
          match i, hi with
          | 0, _ => exact ⟨_, cell_of HG1.out (i := 0) rfl, trivial⟩
          | 1, _ => exact ⟨_, cell_of HG1.out (i := 1) rfl, trivial⟩
          | 2, _ => exact ⟨_, cell_of HG1.out (i := 2) rfl, trivial⟩
          | j + 3, h => omega)).mono ?_
        rintro e Wn ⟨⟨z2, rfl, _⟩, hst, hmt⟩
        have HSn := Lib.hid hst
        have HMn := Lib.hid (HM.out.trans (hmt.mono fun _ _ h => h))
        have HK4 := Lib.hid ((hmt.block g4 (lt_of_heap HG4.out) (by show ¬ g4 = B; omega)).trans HG4.out)
        clear hst hmt
        refine hK.out _ _ True.intro (fun hHeldN => ?_)
        clear hK K
        try simp only [Act.put, pB, pC, pD]
        refine listedEq (l' := #[true, true, true, true, true, false, true, false, false, false, true, false, false, true, false, false, false, false]) (by kernel_rfl) ?_
        have h := h_1_2_4 g1 z2 g4 Wn HSn HMn HK4 hb4
        rw [hG] at h
        simp only [Act.put, pB, pC, pD] at h
        exact h
      refine coH 7 (oi := ?_) ?_ ?_ (fun K hK => ?_) ?_; rotate_left; (simp only [gA, gB, gC]; exact rfl); rfl
      · go_wp2_with (fail)
        have HSn := Lib.hid (HS.out.alloc (.cells #[.int .i64 300, .int .i64 86400001, .int .i64 4] 3))
        have HMn := Lib.hid (HM.out.alloc (.cells #[.int .i64 300, .int .i64 86400001, .int .i64 4] 3))
        have HGn := Lib.hid (heap_alloc_new W (.cells #[.int .i64 300, .int .i64 86400001, .int .i64 4] 3))
        have HK1 := Lib.hid (heap_keep ((Below.refl _ W).alloc (Nat.le_refl _) (.cells #[.int .i64 300, .int .i64 86400001, .int .i64 4] 3)) HG1.out)
        have HK4 := Lib.hid (heap_keep ((Below.refl _ W).alloc (Nat.le_refl _) (.cells #[.int .i64 300, .int .i64 86400001, .int .i64 4] 3)) HG4.out)
        refine hK.out _ _ True.intro (fun hHeldN => ?_)
        clear hK K
        try simp only [Act.put, pB, pC, pD]
        refine listedEq (l' := #[true, true, false, true, true, false, true, true, false, false, true, false, false, true, false, false, false, false]) (by kernel_rfl) ?_
        have h := h_1_4_7 g1 g4 W.heap.size (W.alloc (.cells #[.int .i64 300, .int .i64 86400001, .int .i64 4] 3)) HSn HMn HK1 hb1 HK4 hb4 HGn hlW
        rw [hG] at h
        simp only [Act.put, pB, pC, pD] at h
        exact h
      refine coH 14 (oi := ?_) ?_ ?_ (fun K hK => ?_) ?_; rotate_left; (simp only [gA, gB, gC]; exact rfl); rfl
      · go_wp2_with (fail)
        have HSn := Lib.hid (HS.out.alloc (.cells #[.int .i64 0, .int .i64 10, .int .i64 100, .int .i64 (-1)] 3))
        have HMn := Lib.hid (HM.out.alloc (.cells #[.int .i64 0, .int .i64 10, .int .i64 100, .int .i64 (-1)] 3))
        have HGn := Lib.hid (heap_alloc_new W (.cells #[.int .i64 0, .int .i64 10, .int .i64 100, .int .i64 (-1)] 3))
        have HK1 := Lib.hid (heap_keep ((Below.refl _ W).alloc (Nat.le_refl _) (.cells #[.int .i64 0, .int .i64 10, .int .i64 100, .int .i64 (-1)] 3)) HG1.out)
        have HK4 := Lib.hid (heap_keep ((Below.refl _ W).alloc (Nat.le_refl _) (.cells #[.int .i64 0, .int .i64 10, .int .i64 100, .int .i64 (-1)] 3)) HG4.out)
        refine hK.out _ _ True.intro (fun hHeldN => ?_)
        clear hK K
        try simp only [Act.put, pB, pC, pD]
        refine listedEq (l' := #[true, true, false, true, true, false, true, false, false, false, true, false, false, true, true, false, false, false]) (by kernel_rfl) ?_
        have h := h_1_4_14 g1 g4 W.heap.size (W.alloc (.cells #[.int .i64 0, .int .i64 10, .int .i64 100, .int .i64 (-1)] 3)) HSn HMn HK1 hb1 HK4 hb4 HGn hlW
        rw [hG] at h
        simp only [Act.put, pB, pC, pD] at h
        exact h
      exact AllReadyH.nil
    have h_1_7 : ∀ (g1 : Nat) (g7 : Nat) (W : World), Hid (Strm W B (100 + 0)) → Hid (Mut (· = B) w6 W) → Hid (W.heap[g1]? = some (.cells #[.int .i64 0, .int .i64 5, .int .i64 900] 3 (0, 0))) → B < g1 → Hid (W.heap[g7]? = some (.cells #[.int .i64 300, .int .i64 86400001, .int .i64 4] 3 (0, 0))) → B < g7 → G 11 #[true, true, false, true, false, false, true, true, false, false, true, false, false, true, false, false, false, false] ((A.put (some 51) (.slice (some ⟨g1, 0, none⟩) 3 3)).put (some 57) (.slice (some ⟨g7, 0, none⟩) 3 3)) W := by
      intro g1 g7 W HS HM HG1 hb1 HG7 hb7
      subst hA
      rw [hG]
      simp only [Act.put, pB, pC, pD]
      have hlW := HS.out.lt
      refine wpAnyH_ready (rs := [2, 4, 14]) (by kernel_rfl) (by simp) ?_
      refine coH 2 (oi := ?_) ?_ ?_ (fun K hK => ?_) ?_; rotate_left; (simp only [gA, gB, gC]; exact rfl); rfl
      · go_wp2_with (fail)
        refine (pick_any B _ g1 3 3 (fun _ => True) W HS.out (by omega) (by omega) (by omega) (by omega) (lt_of_heap HG1.out) (by
          intro i hi
          match i, hi with
          | 0, _ => exact ⟨_, cell_of HG1.out (i := 0) rfl, trivial⟩
          | 1, _ => exact ⟨_, cell_of HG1.out (i := 1) rfl, trivial⟩
          | 2, _ => exact ⟨_, cell_of HG1.out (i := 2) rfl, trivial⟩
          | j + 3, h => omega)).mono ?_
        rintro e Wn ⟨⟨z2, rfl, _⟩, hst, hmt⟩
        have HSn := Lib.hid hst
        have HMn := Lib.hid (HM.out.trans (hmt.mono fun _ _ h => h))
        have HK7 := Lib.hid ((hmt.block g7 (lt_of_heap HG7.out) (by show ¬ g7 = B; omega)).trans HG7.out)
        clear hst hmt
        refine hK.out _ _ True.intro (fun hHeldN => ?_)
        clear hK K
        try simp only [Act.put, pB, pC, pD]
        refine listedEq (l' := #[true, true, true, true, false, false, true, true, false, false, true, false, false, true, false, false, false, false]) (by kernel_rfl) ?_
        have h := h_1_2_7 g1 z2 g7 Wn HSn HMn HK7 hb7
        rw [hG] at h
        simp only [Act.put, pB, pC, pD] at h
        exact h
      refine coH 4 (oi := ?_) ?_ ?_ (fun K hK => ?_) ?_; rotate_left; (simp only [gA, gB, gC]; exact rfl); rfl
      · go_wp2_with (fail)
        have HSn := Lib.hid (HS.out.alloc (.cells #[.int .i64 20, .int .i64 7, .int .i64 (-1)] 3))
        have HMn := Lib.hid (HM.out.alloc (.cells #[.int .i64 20, .int .i64 7, .int .i64 (-1)] 3))
        have HGn := Lib.hid (heap_alloc_new W (.cells #[.int .i64 20, .int .i64 7, .int .i64 (-1)] 3))
        have HK1 := Lib.hid (heap_keep ((Below.refl _ W).alloc (Nat.le_refl _) (.cells #[.int .i64 20, .int .i64 7, .int .i64 (-1)] 3)) HG1.out)
        have HK7 := Lib.hid (heap_keep ((Below.refl _ W).alloc (Nat.le_refl _) (.cells #[.int .i64 20, .int .i64 7, .int .i64 (-1)] 3)) HG7.out)
        refine hK.out _ _ True.intro (fun hHeldN => ?_)
        clear hK K
        try simp only [Act.put, pB, pC, pD]
        refine listedEq (l' := #[true, true, false, true, true, false, true, true, false, false, true, false, false, true, false, false, false, false]) (by kernel_rfl) ?_
        have h := h_1_4_7 g1 W.heap.size g7 (W.alloc (.cells #[.int .i64 20, .int .i64 7, .int .i64 (-1)] 3)) HSn HMn HK1 hb1 HGn hlW HK7 hb7
        rw [hG] at h
        simp only [Act.put, pB, pC, pD] at h
        exact h
      refine coH 14 (oi := ?_) ?_ ?_ (fun K hK => ?_) ?_; rotate_left; (simp only [gA, gB, gC]; exact rfl); rfl
      · go_wp2_with (fail)
        have HSn := Lib.hid (HS.out.alloc (.cells #[.int .i64 0, .int .i64 10, .int .i64 100, .int .i64 (-1)] 3))
        have HMn := Lib.hid (HM.out.alloc (.cells #[.int .i64 0, .int .i64 10, .int .i64 100, .int .i64 (-1)] 3))
        have HGn := Lib.hid (heap_alloc_new W (.cells #[.int .i64 0, .int .i64 10, .int .i64 100, .int .i64 (-1)] 3))
        have HK1 := Lib.hid (heap_keep ((Below.refl _ W).alloc (Nat.le_refl _) (.cells #[.int .i64 0, .int .i64 10, .int .i64 100, .int .i64 (-1)] 3)) HG1.out)
        have HK7 := Lib.hid (heap_keep ((Below.refl _ W).alloc (Nat.le_refl _) (.cells #[.int .i64 0, .int .i64 10, .int .i64 100, .int .i64 (-1)] 3)) HG7.out)
        refine hK.out _ _ True.intro (fun hHeldN => ?_)
        clear hK K
        try simp only [Act.put, pB, pC, pD]
        refine listedEq (l' := #[true, true, false, true, false, false, true, true, false, false, true, false, false, true, true, false, false, false]) (by kernel_rfl) ?_
        have h := h_1_7_14 g1 g7 W.heap.size (W.alloc (.cells #[.int .i64 0, .int .i64 10, .int .i64 100, .int .i64 (-1)] 3)) HSn HMn HK1 hb1 HK7 hb7 HGn hlW
        rw [hG] at h
        simp only [Act.put, pB, pC, pD] at h
        exact h
      exact AllReadyH.nil
    have h_1_14 : ∀ (g1 : Nat) (g14 : Nat) (W : World), Hid (Strm W B (100 + 0)) → Hid (Mut (· = B) w6 W) → Hid (W.heap[g1]? = some (.cells #[.int .i64 0, .int .i64 5, .int .i64 900] 3 (0, 0))) → B < g1 → Hid (W.heap[g14]? = some (.cells #[.int .i64 0, .int .i64 10, .int .i64 100, .int .i64 (-1)] 3 (0, 0))) → B < g14 → G 11 #[true, true, false, true, false, false, true, false, false, false, true, false, false, true, true, false, false, false] ((A.put (some 51) (.slice (some ⟨g1, 0, none⟩) 3 3)).put (some 64) (.slice (some ⟨g14, 0, none⟩) 4 4)) W := by
      intro g1 g14 W HS HM HG1 hb1 HG14 hb14
      subst hA
      rw [hG]
      simp only [Act.put, pB, pC, pD]
      have hlW := HS.out.lt
      refine wpAnyH_ready (rs := [2, 4, 7]) (by kernel_rfl) (by simp) ?_
      refine coH 2 (oi := ?_) ?_ ?_ (fun K hK => ?_) ?_; rotate_left; (simp only [gA, gB, gC]; exact rfl); rfl
      · go_wp2_with (fail)
        refine (pick_any B _ g1 3 3 (fun _ => True) W HS.out (by omega) (by omega) (by omega) (by omega) (lt_of_heap HG1.out) (by
          intro i hi
          match i, hi with
          | 0, _ => exact ⟨_, cell_of HG1.out (i := 0) rfl, trivial⟩
          | 1, _ => exact ⟨_, cell_of HG1.out (i := 1) rfl, trivial⟩
          | 2, _ => exact ⟨_, cell_of HG1.out (i := 2) rfl, trivial⟩
          | j + 3, h => omega)).mono ?_
        rintro e Wn ⟨⟨z2, rfl, _⟩, hst, hmt⟩
        have HSn := Lib.hid hst
        have HMn := Lib.hid (HM.out.trans (hmt.mono fun _ _ h => h))
        have HK14 := Lib.hid ((hmt.block g14 (lt_of_heap HG14.out) (by show ¬ g14 = B; omega)).trans HG14.out)
        clear hst hmt
        refine hK.out _ _ True.intro (fun hHeldN => ?_)
        clear hK K
        try simp only [Act.put, pB, pC, pD]
        refine listedEq (l' := #[true, true, true, true, false, false, true, false, false, false, true, false, false, true, true, false, false, false]) (by kernel_rfl) ?_
        have h := h_1_2_14 g1 z2 g14 Wn HSn HMn HK14 hb14
        rw [hG] at h
        simp only [Act.put, pB, pC, pD] at h
        exact h
      refine coH 4 (oi := ?_) ?_ ?_ (fun K hK => ?_) ?_; rotate_left; (simp only [gA, gB, gC]; exact rfl); rfl
      · go_wp2_with (fail)
        have HSn := Lib.hid (HS.out.alloc (.cells #[.int .i64 20, .int .i64 7, .int .i64 (-1)] 3))
        have HMn := Lib.hid (HM.out.alloc (.cells #[.int .i64 20, .int .i64 7, .int .i64 (-1)] 3))
        have HGn := Lib.hid (heap_alloc_new W (.cells #[.int .i64 20, .int .i64 7, .int .i64 (-1)] 3))
        have HK1 := Lib.hid (heap_keep ((Below.refl _ W).alloc (Nat.le_refl _) (.cells #[.int .i64 20, .int .i64 7, .int .i64 (-1)] 3)) HG1.out)
        have HK14 := Lib.hid (heap_keep ((Below.refl _ W).alloc (Nat.le_refl _) (.cells #[.int .i64 20, .int .i64 7, .int .i64 (-1)] 3)) HG14.out)
        refine hK.out _ _ True.intro (fun hHeldN => ?_)
        clear hK K
        try simp only [Act.put, pB, pC, pD]
        refine listedEq (l' := #[true, true, false, true, true, false, true, false, false, false, true, false, false, true, true, false, false, false]) (by kernel_rfl) ?_
        have h := h_1_4_14 g1 W.heap.size g14 (W.alloc (.cells #[.int .i64 20, .int .i64 7, .int .i64 (-1)] 3)) HSn HMn HK1 hb1 HGn hlW HK14 hb14
        rw [hG] at h
        simp only [Act.put, pB, pC, pD] at h
        exact h
      refine coH 7 (oi := ?_) ?_ ?_ (fun K hK => ?_) ?_; rotate_left; (simp only [gA, gB, gC]; exact rfl); rfl
      · go_wp2_with (fail)
        have HSn := Lib.hid (HS.out.alloc (.cells #[.int .i64 300, .int .i64 86400001, .int .i64 4] 3))
        have HMn := Lib.hid (HM.out.alloc (.cells #[.int .i64 300, .int .i64 86400001, .int .i64 4] 3))
        have HGn := Lib.hid (heap_alloc_new W (.cells #[.int .i64 300, .int .i64 86400001, .int .i64 4] 3))
        have HK1 := Lib.hid (heap_keep ((Below.refl _ W).alloc (Nat.le_refl _) (.cells #[.int .i64 300, .int .i64 86400001, .int .i64 4] 3)) HG1.out)
        have HK14 := Lib.hid (heap_keep ((Below.refl _ W).alloc (Nat.le_refl _) (.cells #[.int .i64 300, .int .i64 86400001, .int .i64 4] 3)) HG14.out)
        refine hK.out _ _ True.intro (fun hHeldN => ?_)
        clear hK K
        try simp only [Act.put, pB, pC, pD]
        refine listedEq (l' := #[true, true, false, true, false, false, true, true, false, false, true, false, false, true, true, false, false, false]) (by kernel_rfl) ?_
        have h := h_1_7_14 g1 W.heap.size g14 (W.alloc (.cells #[.int .i64 300, .int .i64 86400001, .int .i64 4] 3)) HSn HMn HK1 hb1 HGn hlW HK14 hb14
        rw [hG] at h
        simp only [Act.put, pB, pC, pD] at h
        exact h
      exact AllReadyH.nil
    have h_4_7 : ∀ (g4 : Nat) (g7 : Nat) (W : World), Hid (Strm W B (100 + 0)) → Hid (Mut (· = B) w6 W) → Hid (W.heap[g4]? = some (.cells #[.int .i64 20, .int .i64 7, .int .i64 (-1)] 3 (0, 0))) → B < g4 → Hid (W.heap[g7]? = some (.cells #[.int .i64 300, .int .i64 86400001, .int .i64 4] 3 (0, 0))) → B < g7 → G 11 #[true, false, false, true, true, false, true, true, false, false, true, false, false, true, false, false, false, false] ((A.put (some 54) (.slice (some ⟨g4, 0, none⟩) 3 3)).put (some 57) (.slice (some ⟨g7, 0, none⟩) 3 3)) W := by
      intro g4 g7 W HS HM HG4 hb4 HG7 hb7
      subst hA
      rw [hG]
      simp only [Act.put, pB, pC, pD]
      have hlW := HS.out.lt
      refine wpAnyH_ready (rs := [1, 14]) (by kernel_rfl) (by simp) ?_
      refine coH 1 (oi := ?_) ?_ ?_ (fun K hK => ?_) ?_; rotate_left; (simp only [gA, gB, gC]; exact rfl); rfl
      · go_wp2_with (fail)
        have HSn := Lib.hid (HS.out.alloc (.cells #[.int .i64 0, .int .i64 5, .int .i64 900] 3))
        have HMn := Lib.hid (HM.out.alloc (.cells #[.int .i64 0, .int .i64 5, .int .i64 900] 3))
        have HGn := Lib.hid (heap_alloc_new W (.cells #[.int .i64 0, .int .i64 5, .int .i64 900] 3))
        have HK4 := Lib.hid (heap_keep ((Below.refl _ W).alloc (Nat.le_refl _) (.cells #[.int .i64 0, .int .i64 5, .int .i64 900] 3)) HG4.out)
        have HK7 := Lib.hid (heap_keep ((Below.refl _ W).alloc (Nat.le_refl _) (.cells #[.int .i64 0, .int .i64 5, .int .i64 900] 3)) HG7.out)
        refine hK.out _ _ True.intro (fun hHeldN => ?_)
        clear hK K
        try simp only [Act.put, pB, pC, pD]
        refine listedEq (l' := #[true, true, false, true, true, false, true, true, false, false, true, false, false, true, false, false, false, false]) (by kernel_rfl) ?_
        have h := h_1_4_7 W.heap.size g4 g7 (W.alloc (.cells #[.int .i64 0, .int .i64 5, .int .i64 900] 3)) HSn HMn HGn hlW HK4 hb4 HK7 hb7
        rw [hG] at h
        simp only [Act.put, pB, pC, pD] at h
        exact h
      refine coH 14 (oi := ?_) ?_ ?_ (fun K hK => ?_) ?_; rotate_left; (simp only [gA, gB, gC]; exact rfl); rfl
      · go_wp2_with (fail)
        have HSn := Lib.hid (HS.out.alloc (.cells #[.int .i64 0, .int .i64 10, .int .i64 100, .int .i64 (-1)] 3))
        have HMn := Lib.hid (HM.out.alloc (.cells #[.int .i64 0, .int .i64 10, .int .i64 100, .int .i64 (-1)] 3))
        have HGn := Lib.hid (heap_alloc_new W (.cells #[.int .i64 0, .int .i64 10, .int .i64 100, .int .i64 (-1)] 3))
        have HK4 := Lib.hid (heap_keep ((Below.refl _ W).alloc (Nat.le_refl _) (.cells #[.int .i64 0, .int .i64 10, .int .i64 100, .int .i64 (-1)] 3)) HG4.out)
        have HK7 := Lib.hid (heap_keep ((Below.refl _ W).alloc (Nat.le_refl _) (.cells #[.int .i64 0, .int .i64 10, .int .i64 100, .int .i64 (-1)] 3)) HG7.out)
        refine hK.out _ _ True.intro (fun hHeldN => ?_)
        clear hK K
        try simp only [Act.put, pB, pC, pD]
        refine listedEq (l' := #[true, false, false, true, true, false, true, true, false, false, true, false, false, true, true, false, false, false]) (by kernel_rfl) ?_
        have h := h_4_7_14 g4 g7 W.heap.size (W.alloc (.cells #[.int .i64 0, .int .i64 10, .int .i64 100, .int .i64 (-1)] 3)) HSn HMn HK4 hb4 HK7 hb7 HGn hlW
        rw [hG] at h
        simp only [Act.put, pB, pC, pD] at h
        exact h
      exact AllReadyH.nil
    have h_4_14 : ∀ (g4 : Nat) (g14 : Nat) (W : World), Hid (Strm W B (100 + 0)) → Hid (Mut (· = B) w6 W) → Hid (W.heap[g4]? = some (.cells #[.int .i64 20, .int .i64 7, .int .i64 (-1)] 3 (0, 0))) → B < g4 → Hid (W.heap[g14]? = some (.cells #[.int .i64 0, .int .i64 10, .int .i64 100, .int .i64 (-1)] 3 (0, 0))) → B < g14 → G 11 #[true, false, false, true, true, false, true, false, false, false, true, false, false, true, true, false, false, false] ((A.put (some 54) (.slice (some ⟨g4, 0, none⟩) 3 3)).put (some 64) (.slice (some ⟨g14, 0, none⟩) 4 4)) W := by
      intro g4 g14 W HS HM HG4 hb4 HG14 hb14
      subst hA
      rw [hG]
      simp only [Act.put, pB, pC, pD]
      have hlW := HS.out.lt
      refine wpAnyH_ready (rs := [1, 7]) (by kernel_rfl) (by simp) ?_
      refine coH 1 (oi := ?_) ?_ ?_ (fun K hK => ?_) ?_; rotate_left; (simp only [gA, gB, gC]; exact rfl); rfl
      · go_wp2_with (fail)
        have HSn := Lib.hid (HS.out.alloc (.cells #[.int .i64 0, .int .i64 5, .int .i64 900] 3))
        have HMn := Lib.hid (HM.out.alloc (.cells #[.int .i64 0, .int .i64 5, .int .i64 900] 3))
        have HGn := Lib.hid (heap_alloc_new W (.cells #[.int .i64 0, .int .i64 5, .int .i64 900] 3))
        have HK4 := Lib.hid (heap_keep ((Below.refl _ W).alloc (Nat.le_refl _) (.cells #[.int .i64 0, .int .i64 5, .int .i64 900] 3)) HG4.out)
        have HK14 := Lib.hid (heap_keep ((Below.refl _ W).alloc (Nat.le_refl _) (.cells #[.int .i64 0, .int .i64 5, .int .i64 900] 3)) HG14.out)
        refine hK.out _ _ True.intro (fun hHeldN => ?_)
        clear hK K
        try simp only [Act.put, pB, pC, pD]
        refine listedEq (l' := #[true, true, false, true, true, false, true, false, false, false, true, false, false, true, true, false, false, false]) (by kernel_rfl) ?_
        have h := h_1_4_14 W.heap.size g4 g14 (W.alloc (.cells #[.int .i64 0, .int .i64 5, .int .i64 900] 3)) HSn HMn HGn hlW HK4 hb4 HK14 hb14
        rw [hG] at h
        simp only [Act.put, pB, pC, pD] at h
        exact h
      refine coH 7 (oi := ?_) ?_ ?_ (fun K hK => ?_) ?_; rotate_left; (simp only [gA, gB, gC]; exact rfl); rfl
      · go_wp2_with (fail)
        have HSn := Lib.hid (HS.out.alloc (.cells #[.int .i64 300, .int .i64 86400001, .int .i64 4] 3))
        have HMn := Lib.hid (HM.out.alloc (.cells #[.int .i64 300, .int .i64 86400001, .int .i64 4] 3))
        have HGn := Lib.hid (heap_alloc_new W (.cells #[.int .i64 300, .int .i64 86400001, .int .i64 4] 3))
        have HK4 := Lib.hid (heap_keep ((Below.refl _ W).alloc (Nat.le_refl _) (.cells #[.int .i64 300, .int .i64 86400001, .int .i64 4] 3)) HG4.out)
        have HK14 := Lib.hid (heap_keep ((Below.refl _ W).alloc (Nat.le_refl _) (.cells #[.int .i64 300, .int .i64 86400001, .int .i64 4] 3)) HG14.out)
        refine hK.out _ _ True.intro (fun hHeldN => ?_)
        clear hK K
        try simp only [Act.put, pB, pC, pD]
        refine listedEq (l' := #[true, false, false, true, true, false, true, true, false, false, true, false, false, true, true, false, false, false]) (by kernel_rfl) ?_
        have h := h_4_7_14 g4 W.heap.size g14 (W.alloc (.cells #[.int .i64 300, .int .i64 86400001, .int .i64 4] 3)) HSn HMn HK4 hb4 HGn hlW HK14 hb14
        rw [hG] at h
        simp only [Act.put, pB, pC, pD] at h
        exact h
      exact AllReadyH.nil
    have h_7_14 : ∀ (g7 : Nat) (g14 : Nat) (W : World), Hid (Strm W B (100 + 0)) → Hid (Mut (· = B) w6 W) → Hid (W.heap[g7]? = some (.cells #[.int .i64 300, .int .i64 86400001, .int .i64 4] 3 (0, 0))) → B < g7 → Hid (W.heap[g14]? = some (.cells #[.int .i64 0, .int .i64 10, .int .i64 100, .int .i64 (-1)] 3 (0, 0))) → B < g14 → G 11 #[true, false, false, true, false, false, true, true, false, false, true, false, false, true, true, false, false, false] ((A.put (some 57) (.slice (some ⟨g7, 0, none⟩) 3 3)).put (some 64) (.slice (some ⟨g14, 0, none⟩) 4 4)) W := by
      intro g7 g14 W HS HM HG7 hb7 HG14 hb14
      subst hA
      rw [hG]
      simp only [Act.put, pB, pC, pD]
      have hlW := HS.out.lt
      refine wpAnyH_ready (rs := [1, 4]) (by kernel_rfl) (by simp) ?_
      refine coH 1 (oi := ?_) ?_ ?_ (fun K hK => ?_) ?_; rotate_left; (simp only [gA, gB, gC]; exact rfl); rfl
      · go_wp2_with (fail)
        have HSn := Lib.hid (HS.out.alloc (.cells #[.int .i64 0, .int .i64 5, .int .i64 900] 3))
        have HMn := Lib.hid (HM.out.alloc (.cells #[.int .i64 0, .int .i64 5, .int .i64 900] 3))
        have HGn := Lib.hid (heap_alloc_new W (.cells #[.int .i64 0, .int .i64 5, .int .i64 900] 3))
        have HK7 := Lib.hid (heap_keep ((Below.refl _ W).alloc (Nat.le_refl _) (.cells #[.int .i64 0, .int .i64 5, .int .i64 900] 3)) HG7.out)
        have HK14 := Lib.hid (heap_keep ((Below.refl _ W).alloc (Nat.le_refl _) (.cells #[.int .i64 0, .int .i64 5, .int .i64 900] 3)) HG14.out)
        refine hK.out _ _ True.intro (fun hHeldN => ?_)
        clear hK K
        try simp only [Act.put, pB, pC, pD]
        refine listedEq (l' := #[true, true, false, true, false, false, true, true, false, false, true, false, false, true, true, false, false, false]) (by kernel_rfl) ?_
        have h := h_1_7_14 W.heap.size g7 g14 (W.alloc (.cells #[.int .i64 0, .int .i64 5, .int .i64 900] 3)) HSn HMn HGn hlW HK7 hb7 HK14 hb14
        rw [hG] at h
        simp only [Act.put, pB, pC, pD] at h
        exact h
      refine coH 4 (oi := ?_) ?_ ?_ (fun K hK => ?_) ?_; rotate_left; (simp only [gA, gB, gC]; exact rfl); rfl
      · go_wp2_with (fail)
        have HSn := Lib.hid (HS.out.alloc (.cells #[.int .i64 20, .int .i64 7, .int .i64 (-1)] 3))
        have HMn := Lib.hid (HM.out.alloc (.cells #[.int .i64 20, .int .i64 7, .int .i64 (-1)] 3))
        have HGn := Lib.hid (heap_alloc_new W (.cells #[.int .i64 20, .int .i64 7, .int .i64 (-1)] 3))
        have HK7 := Lib.hid (heap_keep ((Below.refl _ W).alloc (Nat.le_refl _) (.cells #[.int .i64 20, .int .i64 7, .int .i64 (-1)] 3)) HG7.out)
        have HK14 := Lib.hid (heap_keep ((Below.refl _ W).alloc (Nat.le_refl _) (.cells #[.int .i64 20, .int .i64 7, .int .i64 (-1)] 3)) HG14.out)
        refine hK.out _ _ True.intro (fun hHeldN => ?_)
        clear hK K
        try simp only [Act.put, pB, pC, pD]
        refine listedEq (l' := #[true, false, false, true, true, false, true, true, false, false, true, false, false, true, true, false, false, false]) (by kernel_rfl) ?_
        have h := h_4_7_14 W.heap.size g7 g14 (W.alloc (.cells #[.int .i64 20, .int .i64 7, .int .i64 (-1)] 3)) HSn HMn HGn hlW HK7 hb7 HK14 hb14
        rw [hG] at h
        simp only [Act.put, pB, pC, pD] at h
        exact h
      exact AllReadyH.nil
    have h_1 : ∀ (g1 : Nat) (W : World), Hid (Strm W B (100 + 0)) → Hid (Mut (· = B) w6 W) → Hid (W.heap[g1]? = some (.cells #[.int .i64 0, .int .i64 5, .int .i64 900] 3 (0, 0))) → B < g1 → G 12 #[true, true, false, true, false, false, true, false, false, false, true, false, false, true, false, false, false, false] (A.put (some 51) (.slice (some ⟨g1, 0, none⟩) 3 3)) W := by
      intro g1 W HS HM HG1 hb1
      subst hA
      rw [hG]
      simp only [Act.put, pB, pC, pD]
      have hlW := HS.out.lt
      refine wpAnyH_ready (rs := [2, 4, 7, 14]) (by kernel_rfl) (by simp) ?_
      refine coH 2 (oi := ?_) ?_ ?_ (fun K hK => ?_) ?_; rotate_left; (simp only [gA, gB, gC]; exact rfl); rfl
      · go_wp2_with (fail)
        refine (pick_any B _ g1 3 3 (fun _ => True) W HS.out (by omega) (by omega) (by omega) (by omega) (lt_of_heap HG1.out) (by
          intro i hi
          match i, hi with
          | 0, _ => exact ⟨_, cell_of HG1.out (i := 0) rfl, trivial⟩
          | 1, _ => exact ⟨_, cell_of HG1.out (i := 1) rfl, trivial⟩
          | 2, _ => exact ⟨_, cell_of HG1.out (i := 2) rfl, trivial⟩
          | j + 3, h => omega)).mono ?_
        rintro e Wn ⟨⟨z2, rfl, _⟩, hst, hmt⟩
        have HSn := Lib.hid hst
        have HMn := Lib.hid (HM.out.trans (hmt.mono fun _ _ h => h))
        clear hst hmt
        refine hK.out _ _ True.intro (fun hHeldN => ?_)
        clear hK K
        try simp only [Act.put, pB, pC, pD]
        refine listedEq (l' := #[true, true, true, true, false, false, true, false, false, false, true, false, false, true, false, false, false, false]) (by kernel_rfl) ?_
        have h := h_1_2 g1 z2 Wn HSn HMn
        rw [hG] at h
        simp only [Act.put, pB, pC, pD] at h
        exact h
      refine coH 4 (oi := ?_) ?_ ?_ (fun K hK => ?_) ?_; rotate_left; (simp only [gA, gB, gC]; exact rfl); rfl
      · go_wp2_with (fail)
        have HSn := Lib.hid (HS.out.alloc (.cells #[.int .i64 20, .int .i64 7, .int .i64 (-1)] 3))
        have HMn := Lib.hid (HM.out.alloc (.cells #[.int .i64 20, .int .i64 7, .int .i64 (-1)] 3))
        have HGn := Lib.hid (heap_alloc_new W (.cells #[.int .i64 20, .int .i64 7, .int .i64 (-1)] 3))
        have HK1 := Lib.hid (heap_keep ((Below.refl _ W).alloc (Nat.le_refl _) (.cells #[.int .i64 20, .int .i64 7, .int .i64 (-1)] 3)) HG1.out)
        refine hK.out _ _ True.intro (fun hHeldN => ?_)
        clear hK K
        try simp only [Act.put, pB, pC, pD]
        refine listedEq (l' := #[true, true, false, true, true, false, true, false, false, false, true, false, false, true, false, false, false, false]) (by kernel_rfl) ?_
        have h := h_1_4 g1 W.heap.size (W.alloc (.cells #[.int .i64 20, .int .i64 7, .int .i64 (-1)] 3)) HSn HMn HK1 hb1 HGn hlW
        rw [hG] at h
        simp only [Act.put, pB, pC, pD] at h
        exact h
      refine coH 7 (oi := ?_) ?_ ?_ (fun K hK => ?_) ?_; rotate_left; (simp only [gA, gB, gC]; exact rfl); rfl
      · go_wp2_with (fail)
        have HSn := Lib.hid (HS.out.alloc (.cells #[.int .i64 300, .int .i64 86400001, .int .i64 4] 3))
        have HMn := Lib.hid (HM.out.alloc (.cells #[.int .i64 300, .int .i64 86400001, .int .i64 4] 3))
        have HGn := Lib.hid (heap_alloc_new W (.cells #[.int .i64 300, .int .i64 86400001, .int .i64 4] 3))
        have HK1 := Lib.hid (heap_keep ((Below.refl _ W).alloc (Nat.le_refl _) (.cells #[.int .i64 300, .int .i64 86400001, .int .i64 4] 3)) HG1.out)
        refine hK.out _ _ True.intro (fun hHeldN => ?_)
        clear hK K
        try simp only [Act.put, pB, pC, pD]
        refine listedEq (l' := #[true, true, false, true, false, false, true, true, false, false, true, false, false, true, false, false, false, false]) (by kernel_rfl) ?_
        have h := h_1_7 g1 W.heap.size (W.alloc (.cells #[.int .i64 300, .int .i64 86400001, .int .i64 4] 3)) HSn HMn HK1 hb1 HGn hlW
        rw [hG] at h
        simp only [Act.put, pB, pC, pD] at h
        exact h
      refine coH 14 (oi := ?_) ?_ ?_ (fun K hK => ?_) ?_; rotate_left; (simp only [gA, gB, gC]; exact rfl); rfl
      · go_wp2_with (fail)
        have HSn := Lib.hid (HS.out.alloc (.cells #[.int .i64 0, .int .i64 10, .int .i64 100, .int .i64 (-1)] 3))
        have HMn := Lib.hid (HM.out.alloc (.cells #[.int .i64 0, .int .i64 10, .int .i64 100, .int .i64 (-1)] 3))
        have HGn := Lib.hid (heap_alloc_new W (.cells #[.int .i64 0, .int .i64 10, .int .i64 100, .int .i64 (-1)] 3))
        have HK1 := Lib.hid (heap_keep ((Below.refl _ W).alloc (Nat.le_refl _) (.cells #[.int .i64 0, .int .i64 10, .int .i64 100, .int .i64 (-1)] 3)) HG1.out)
        refine hK.out _ _ True.intro (fun hHeldN => ?_)
        clear hK K
        try simp only [Act.put, pB, pC, pD]
        refine listedEq (l' := #[true, true, false, true, false, false, true, false, false, false, true, false, false, true, true, false, false, false]) (by kernel_rfl) ?_
        have h := h_1_14 g1 W.heap.size (W.alloc (.cells #[.int .i64 0, .int .i64 10, .int .i64 100, .int .i64 (-1)] 3)) HSn HMn HK1 hb1 HGn hlW
        rw [hG] at h
        simp only [Act.put, pB, pC, pD] at h
        exact h
      exact AllReadyH.nil
    have h_4 : ∀ (g4 : Nat) (W : World), Hid (Strm W B (100 + 0)) → Hid (Mut (· = B) w6 W) → Hid (W.heap[g4]? = some (.cells #[.int .i64 20, .int .i64 7, .int .i64 (-1)] 3 (0, 0))) → B < g4 → G 12 #[true, false, false, true, true, false, true, false, false, false, true, false, false, true, false, false, false, false] (A.put (some 54) (.slice (some ⟨g4, 0, none⟩) 3 3)) W := by
      intro g4 W HS HM HG4 hb4
      subst hA
      rw [hG]
      simp only [Act.put, pB, pC, pD]
      have hlW := HS.out.lt
      refine wpAnyH_ready (rs := [1, 7, 14]) (by kernel_rfl) (by simp) ?_
      refine coH 1 (oi := ?_) ?_ ?_ (fun K hK => ?_) ?_; rotate_left; (simp only [gA, gB, gC]; exact rfl); rfl
      · go_wp2_with (fail)
        have HSn := Lib.hid (HS.out.alloc (.cells #[.int .i64 0, .int .i64 5, .int .i64 900] 3))
        have HMn := Lib.hid (HM.out.alloc (.cells #[.int .i64 0, .int .i64 5, .int .i64 900] 3))
        have HGn := Lib.hid (heap_alloc_new W (.cells #[.int .i64 0, .int .i64 5, .int .i64 900] 3))
        have HK4 := Lib.hid (heap_keep ((Below.refl _ W).alloc (Nat.le_refl _) (.cells #[.int .i64 0, .int .i64 5, .int .i64 900] 3)) HG4.out)
        refine hK.out _ _ True.intro (fun hHeldN => ?_)
        clear hK K
        try simp only [Act.put, pB, pC, pD]
        refine listedEq (l' := #[true, true, false, true, true, false, true, false, false, false, true, false, false, true, false, false, false, false]) (by kernel_rfl) ?_
        have h := h_1_4 W.heap.size g4 (W.alloc (.cells #[.int .i64 0, .int .i64 5, .int .i64 900] 3)) HSn HMn HGn hlW HK4 hb4
        rw [hG] at h
        simp only [Act.put, pB, pC, pD] at h
        exact h
      refine coH 7 (oi := ?_) ?_ ?_ (fun K hK => ?_) ?_; rotate_left; (simp only [gA, gB, gC]; exact rfl); rfl
      · go_wp2_with (fail)
        have HSn := Lib.hid (HS.out.alloc (.cells #[.int .i64 300, .int .i64 86400001, .int .i64 4] 3))
        have HMn := Lib.hid (HM.out.alloc (.cells #[.int .i64 300, .int .i64 86400001, .int .i64 4] 3))
        have HGn := Lib.hid (heap_alloc_new W (.cells #[.int .i64 300, .int .i64 86400001, .int .i64 4] 3))
        have HK4 := Lib.hid (heap_keep ((Below.refl _ W).alloc (Nat.le_refl _) (.cells #[.int .i64 300, .int .i64 86400001, .int .i64 4] 3)) HG4.out)
        refine hK.out _ _ True.intro (fun hHeldN => ?_)
        clear hK K
        try simp only [Act.put, pB, pC, pD]
        refine listedEq (l' := #[true, false, false, true, true, false, true, true, false, false, true, false, false, true, false, false, false, false]) (by kernel_rfl) ?_
        have h := h_4_7 g4 W.heap.size (W.alloc (.cells #[.int .i64 300, .int .i64 86400001, .int .i64 4] 3)) HSn HMn HK4 hb4 HGn hlW
        rw [hG] at h
        simp only [Act.put, pB, pC, pD] at h
        exact h
      refine coH 14 (oi := ?_) ?_ ?_ (fun K hK => ?_) ?_; rotate_left; (simp only [gA, gB, gC]; exact rfl); rfl
      · go_wp2_with (fail)
        have HSn := Lib.hid (HS.out.alloc (.cells #[.int .i64 0, .int .i64 10, .int .i64 100, .int .i64 (-1)] 3))
        have HMn := Lib.hid (HM.out.alloc (.cells #[.int .i64 0, .int .i64 10, .int .i64 100, .int .i64 (-1)] 3))
        have HGn := Lib.hid (heap_alloc_new W (.cells #[.int .i64 0, .int .i64 10, .int .i64 100, .int .i64 (-1)] 3))
        have HK4 := Lib.hid (heap_keep ((Below.refl _ W).alloc (Nat.le_refl _) (.cells #[.int .i64 0, .int .i64 10, .int .i64 100, .int .i64 (-1)] 3)) HG4.out)
        refine hK.out _ _ True.intro (fun hHeldN => ?_)
        clear hK K
        try simp only [Act.put, pB, pC, pD]
        refine listedEq (l' := #[true, false, false, true, true, false, true, false, false, false, true, false, false, true, true, false, false, false]) (by kernel_rfl) ?_
        have h := h_4_14 g4 W.heap.size (W.alloc (.cells #[.int .i64 0, .int .i64 10, .int .i64 100, .int .i64 (-1)] 3)) HSn HMn HK4 hb4 HGn hlW
        rw [hG] at h
        simp only [Act.put, pB, pC, pD] at h
        exact h
      exact AllReadyH.nil
    have h_7 : ∀ (g7 : Nat) (W : World), Hid (Strm W B (100 + 0)) → Hid (Mut (· = B) w6 W) → Hid (W.heap[g7]? = some (.cells #[.int .i64 300, .int .i64 86400001, .int .i64 4] 3 (0, 0))) → B < g7 → G 12 #[true, false, false, true, false, false, true, true, false, false, true, false, false, true, false, false, false, false] (A.put (some 57) (.slice (some ⟨g7, 0, none⟩) 3 3)) W := by
      intro g7 W HS HM HG7 hb7
      subst hA
      rw [hG]
      simp only [Act.put, pB, pC, pD]
      have hlW := HS.out.lt
      refine wpAnyH_ready (rs := [1, 4, 14]) (by kernel_rfl) (by simp) ?_
      refine coH 1 (oi := ?_) ?_ ?_ (fun K hK => ?_) ?_; rotate_left; (simp only [gA, gB, gC]; exact rfl); rfl
      · go_wp2_with (fail)
        have HSn := Lib.hid (HS.out.alloc (.cells #[.int .i64 0, .int .i64 5, .int .i64 900] 3))
        have HMn := Lib.hid (HM.out.alloc (.cells #[.int .i64 0, .int .i64 5, .int .i64 900] 3))
        have HGn := Lib.hid (heap_alloc_new W (.cells #[.int .i64 0, .int .i64 5, .int .i64 900] 3))
        have HK7 := Lib.hid (heap_keep ((Below.refl _ W).alloc (Nat.le_refl _) (.cells #[.int .i64 0, .int .i64 5, .int .i64 900] 3)) HG7.out)
        refine hK.out _ _ True.intro (fun hHeldN => ?_)
        clear hK K
        try simp only [Act.put, pB, pC, pD]
        refine listedEq (l' := #[true, true, false, true, false, false, true, true, false, false, true, false, false, true, false, false, false, false]) (by kernel_rfl) ?_
        have h := h_1_7 W.heap.size g7 (W.alloc (.cells #[.int .i64 0, .int .i64 5, .int .i64 900] 3)) HSn HMn HGn hlW HK7 hb7
        rw [hG] at h
        simp only [Act.put, pB, pC, pD] at h
        exact h
      refine coH 4 (oi := ?_) ?_ ?_ (fun K hK => ?_) ?_; rotate_left; (simp only [gA, gB, gC]; exact rfl); rfl
      · go_wp2_with (fail)
        have HSn := Lib.hid (HS.out.alloc (.cells #[.int .i64 20, .int .i64 7, .int .i64 (-1)] 3))
        have HMn := Lib.hid (HM.out.alloc (.cells #[.int .i64 20, .int .i64 7, .int .i64 (-1)] 3))
        have HGn := Lib.hid (heap_alloc_new W (.cells #[.int .i64 20, .int .i64 7, .int .i64 (-1)] 3))
        have HK7 := Lib.hid (heap_keep ((Below.refl _ W).alloc (Nat.le_refl _) (.cells #[.int .i64 20, .int .i64 7, .int .i64 (-1)] 3)) HG7.out)
        refine hK.out _ _ True.intro (fun hHeldN => ?_)
        clear hK K
        try simp only [Act.put, pB, pC, pD]
        refine listedEq (l' := #[true, false, false, true, true, false, true, true, false, false, true, false, false, true, false, false, false, false]) (by kernel_rfl) ?_
        have h := h_4_7 W.heap.size g7 (W.alloc (.cells #[.int .i64 20, .int .i64 7, .int .i64 (-1)] 3)) HSn HMn HGn hlW HK7 hb7
        rw [hG] at h
        simp only [Act.put, pB, pC, pD] at h
        exact h
      refine coH 14 (oi := ?_) ?_ ?_ (fun K hK => ?_) ?_; rotate_left; (simp only [gA, gB, gC]; exact rfl); rfl
      · go_wp2_with (fail)
        have HSn := Lib.hid (HS.out.alloc (.cells #[.int .i64 0, .int .i64 10, .int .i64 100, .int .i64 (-1)] 3))
        have HMn := Lib.hid (HM.out.alloc (.cells #[.int .i64 0, .int .i64 10, .int .i64 100, .int .i64 (-1)] 3))
        have HGn := Lib.hid (heap_alloc_new W (.cells #[.int .i64 0, .int .i64 10, .int .i64 100, .int .i64 (-1)] 3))
        have HK7 := Lib.hid (heap_keep ((Below.refl _ W).alloc (Nat.le_refl _) (.cells #[.int .i64 0, .int .i64 10, .int .i64 100, .int .i64 (-1)] 3)) HG7.out)
        refine hK.out _ _ True.intro (fun hHeldN => ?_)
        clear hK K
        try simp only [Act.put, pB, pC, pD]
        refine listedEq (l' := #[true, false, false, true, false, false, true, true, false, false, true, false, false, true, true, false, false, false]) (by kernel_rfl) ?_
        have h := h_7_14 g7 W.heap.size (W.alloc (.cells #[.int .i64 0, .int .i64 10, .int .i64 100, .int .i64 (-1)] 3)) HSn HMn HK7 hb7 HGn hlW
        rw [hG] at h
        simp only [Act.put, pB, pC, pD] at h
        exact h
      exact AllReadyH.nil
    have h_14 : ∀ (g14 : Nat) (W : World), Hid (Strm W B (100 + 0)) → Hid (Mut (· = B) w6 W) → Hid (W.heap[g14]? = some (.cells #[.int .i64 0, .int .i64 10, .int .i64 100, .int .i64 (-1)] 3 (0, 0))) → B < g14 → G 12 #[true, false, false, true, false, false, true, false, false, false, true, false, false, true, true, false, false, false] (A.put (some 64) (.slice (some ⟨g14, 0, none⟩) 4 4)) W := by
      intro g14 W HS HM HG14 hb14
      subst hA
      rw [hG]
      simp only [Act.put, pB, pC, pD]
      have hlW := HS.out.lt
      refine wpAnyH_ready (rs := [1, 4, 7]) (by kernel_rfl) (by simp) ?_
      refine coH 1 (oi := ?_) ?_ ?_ (fun K hK => ?_) ?_; rotate_left; (simp only [gA, gB, gC]; exact rfl); rfl
      · go_wp2_with (fail)
        have HSn := Lib.hid (HS.out.alloc (.cells #[.int .i64 0, .int .i64 5, .int .i64 900] 3))
        have HMn := Lib.hid (HM.out.alloc (.cells #[.int .i64 0, .int .i64 5, .int .i64 900] 3))
        have HGn := Lib.hid (heap_alloc_new W (.cells #[.int .i64 0, .int .i64 5, .int .i64 900] 3))
        have HK14 := Lib.hid (heap_keep ((Below.refl _ W).alloc (Nat.le_refl _) (.cells #[.int .i64 0, .int .i64 5, .int .i64 900] 3)) HG14.out)
        refine hK.out _ _ True.intro (fun hHeldN => ?_)
        clear hK K
        try simp only [Act.put, pB, pC, pD]
        refine listedEq (l' := #[true, true, false, true, false, false, true, false, false, false, true, false, false, true, true, false, false, false]) (by kernel_rfl) ?_
        have h := h_1_14 W.heap.size g14 (W.alloc (.cells #[.int .i64 0, .int .i64 5, .int .i64 900] 3)) HSn HMn HGn hlW HK14 hb14
        rw [hG] at h
        simp only [Act.put, pB, pC, pD] at h
        exact h
      refine coH 4 (oi := ?_) ?_ ?_ (fun K hK => ?_) ?_; rotate_left; (simp only [gA, gB, gC]; exact rfl); rfl
      · go_wp2_with (fail)
        have HSn := Lib.hid (HS.out.alloc (.cells #[.int .i64 20, .int .i64 7, .int .i64 (-1)] 3))
        have HMn := Lib.hid (HM.out.alloc (.cells #[.int .i64 20, .int .i64 7, .int .i64 (-1)] 3))
        have HGn := Lib.hid (heap_alloc_new W (.cells #[.int .i64 20, .int .i64 7, .int .i64 (-1)] 3))
        have HK14 := Lib.hid (heap_keep ((Below.refl _ W).alloc (Nat.le_refl _) (.cells #[.int .i64 20, .int .i64 7, .int .i64 (-1)] 3)) HG14.out)
        refine hK.out _ _ True.intro (fun hHeldN => ?_)
        clear hK K
        try simp only [Act.put, pB, pC, pD]
        refine listedEq (l' := #[true, false, false, true, true, false, true, false, false, false, true, false, false, true, true, false, false, false]) (by kernel_rfl) ?_
        have h := h_4_14 W.heap.size g14 (W.alloc (.cells #[.int .i64 20, .int .i64 7, .int .i64 (-1)] 3)) HSn HMn HGn hlW HK14 hb14
        rw [hG] at h
        simp only [Act.put, pB, pC, pD] at h
        exact h
      refine coH 7 (oi := ?_) ?_ ?_ (fun K hK => ?_) ?_; rotate_left; (simp only [gA, gB, gC]; exact rfl); rfl
      · go_wp2_with (fail)
        have HSn := Lib.hid (HS.out.alloc (.cells #[.int .i64 300, .int .i64 86400001, .int .i64 4] 3))
        have HMn := Lib.hid (HM.out.alloc (.cells #[.int .i64 300, .int .i64 86400001, .int .i64 4] 3))
        have HGn := Lib.hid (heap_alloc_new W (.cells #[.int .i64 300, .int .i64 86400001, .int .i64 4] 3))
        have HK14 := Lib.hid (heap_keep ((Below.refl _ W).alloc (Nat.le_refl _) (.cells #[.int .i64 300, .int .i64 86400001, .int .i64 4] 3)) HG14.out)
        refine hK.out _ _ True.intro (fun hHeldN => ?_)
        clear hK K
        try simp only [Act.put, pB, pC, pD]
        refine listedEq (l' := #[true, false, false, true, false, false, true, true, false, false, true, false, false, true, true, false, false, false]) (by kernel_rfl) ?_
        have h := h_7_14 W.heap.size g14 (W.alloc (.cells #[.int .i64 300, .int .i64 86400001, .int .i64 4] 3)) HSn HMn HGn hlW HK14 hb14
        rw [hG] at h
        simp only [Act.put, pB, pC, pD] at h
        exact h
      exact AllReadyH.nil
    have h_0 : ∀  (W : World), Hid (Strm W B (100 + 0)) → Hid (Mut (· = B) w6 W) → G 13 #[true, false, false, true, false, false, true, false, false, false, true, false, false, true, false, false, false, false] A W := by
      intro W HS HM
      subst hA
      rw [hG]
      have hlW := HS.out.lt
      refine wpAnyH_ready (rs := [1, 4, 7, 14]) (by kernel_rfl) (by simp) ?_
      refine coH 1 (oi := ?_) ?_ ?_ (fun K hK => ?_) ?_; rotate_left; (simp only [gA, gB, gC]; exact rfl); rfl
      · go_wp2_with (fail)
        have HSn := Lib.hid (HS.out.alloc (.cells #[.int .i64 0, .int .i64 5, .int .i64 900] 3))
        have HMn := Lib.hid (HM.out.alloc (.cells #[.int .i64 0, .int .i64 5, .int .i64 900] 3))
        have HGn := Lib.hid (heap_alloc_new W (.cells #[.int .i64 0, .int .i64 5, .int .i64 900] 3))
        refine hK.out _ _ True.intro (fun hHeldN => ?_)
        clear hK K
        try simp only [Act.put, pB, pC, pD]
        refine listedEq (l' := #[true, true, false, true, false, false, true, false, false, false, true, false, false, true, false, false, false, false]) (by kernel_rfl) ?_
        have h := h_1 W.heap.size (W.alloc (.cells #[.int .i64 0, .int .i64 5, .int .i64 900] 3)) HSn HMn HGn hlW
        rw [hG] at h
        simp only [Act.put, pB, pC, pD] at h
        exact h
      refine coH 4 (oi := ?_) ?_ ?_ (fun K hK => ?_) ?_; rotate_left; (simp only [gA, gB, gC]; exact rfl); rfl
      · go_wp2_with (fail)
        have HSn := Lib.hid (HS.out.alloc (.cells #[.int .i64 20, .int .i64 7, .int .i64 (-1)] 3))
        have HMn := Lib.hid (HM.out.alloc (.cells #[.int .i64 20, .int .i64 7, .int .i64 (-1)] 3))
        have HGn := Lib.hid (heap_alloc_new W (.cells #[.int .i64 20, .int .i64 7, .int .i64 (-1)] 3))
        refine hK.out _ _ True.intro (fun hHeldN => ?_)
        clear hK K
        try simp only [Act.put, pB, pC, pD]
        refine listedEq (l' := #[true, false, false, true, true, false, true, false, false, false, true, false, false, true, false, false, false, false]) (by kernel_rfl) ?_
        have h := h_4 W.heap.size (W.alloc (.cells #[.int .i64 20, .int .i64 7, .int .i64 (-1)] 3)) HSn HMn HGn hlW
        rw [hG] at h
        simp only [Act.put, pB, pC, pD] at h
        exact h
      refine coH 7 (oi := ?_) ?_ ?_ (fun K hK => ?_) ?_; rotate_left; (simp only [gA, gB, gC]; exact rfl); rfl
      · go_wp2_with (fail)
        have HSn := Lib.hid (HS.out.alloc (.cells #[.int .i64 300, .int .i64 86400001, .int .i64 4] 3))
        have HMn := Lib.hid (HM.out.alloc (.cells #[.int .i64 300, .int .i64 86400001, .int .i64 4] 3))
        have HGn := Lib.hid (heap_alloc_new W (.cells #[.int .i64 300, .int .i64 86400001, .int .i64 4] 3))
        refine hK.out _ _ True.intro (fun hHeldN => ?_)
        clear hK K
        try simp only [Act.put, pB, pC, pD]
        refine listedEq (l' := #[true, false, false, true, false, false, true, true, false, false, true, false, false, true, false, false, false, false]) (by kernel_rfl) ?_
        have h := h_7 W.heap.size (W.alloc (.cells #[.int .i64 300, .int .i64 86400001, .int .i64 4] 3)) HSn HMn HGn hlW
        rw [hG] at h
        simp only [Act.put, pB, pC, pD] at h
        exact h
      refine coH 14 (oi := ?_) ?_ ?_ (fun K hK => ?_) ?_; rotate_left; (simp only [gA, gB, gC]; exact rfl); rfl
      · go_wp2_with (fail)
        have HSn := Lib.hid (HS.out.alloc (.cells #[.int .i64 0, .int .i64 10, .int .i64 100, .int .i64 (-1)] 3))
        have HMn := Lib.hid (HM.out.alloc (.cells #[.int .i64 0, .int .i64 10, .int .i64 100, .int .i64 (-1)] 3))
        have HGn := Lib.hid (heap_alloc_new W (.cells #[.int .i64 0, .int .i64 10, .int .i64 100, .int .i64 (-1)] 3))
        refine hK.out _ _ True.intro (fun hHeldN => ?_)
        clear hK K
        try simp only [Act.put, pB, pC, pD]
        refine listedEq (l' := #[true, false, false, true, false, false, true, false, false, false, true, false, false, true, true, false, false, false]) (by kernel_rfl) ?_
        have h := h_14 W.heap.size (W.alloc (.cells #[.int .i64 0, .int .i64 10, .int .i64 100, .int .i64 (-1)] 3)) HSn HMn HGn hlW
        rw [hG] at h
        simp only [Act.put, pB, pC, pD] at h
        exact h
      exact AllReadyH.nil
    have h := h_0 w6.drew (Lib.hid (StrmV.drew HS.out)) (Lib.hid (Mut.refl _ w6).drew)
    exact h
  intro g1 z2 g4 z5 g7 z8 g9 r11 g14 z15 W HS HM HG9 hb9 hr11
  subst hA
  rw [hG]
  simp only [Act.put, pB, pC, pD]
  refine tkH True.intro 16 (oi := ?_) (v := ?_) ?_ ?_ ?_ ?_ ?_ ?_ ?_ ?_; rotate_left 2; (simp only [gA, gB, gC]; exact rfl); kernel_rfl; kernel_rfl; kernel_rfl; exact fun _ _ _ h => h; rfl; (intro w' hSw; go_simp; with_reducible rfl); simp only [Act.put, pB, pC, pD]
  refine tkH True.intro 17 (oi := ?_) (v := ?_) ?_ ?_ ?_ ?_ ?_ ?_ ?_ ?_; rotate_left 2; (simp only [gA, gB, gC]; exact rfl); kernel_rfl; kernel_rfl; kernel_rfl; exact fun _ _ _ h => h; rfl; (intro w' hSw; go_simp; with_reducible rfl); simp only [Act.put, pB, pC, pD]
  refine wpAnyH_done (by kernel_rfl) ?_ _
  have BW : Hid (Below B w W) := Lib.hid ((HMO.out.trans HM.out).toBelow B (by rw [HBW.out]; exact Nat.le_refl _) (fun k hk e => by omega))
  replace HP := Lib.hid (HP.out.mut HM.out HFA.out)
  replace HV := Lib.hid (HV.out.mut HM.out HFV.out)
  have HT := Lib.hid (ints_tF HG9.out hr11)
  rw [HBW.out] at BW
  rw [HBW.out]
  clear HBW HM HMO HS HFA HFV HG9 hb9 hl0
  have hn100 : n ≤ 100 := by omega
  have hm100 : m ≤ 100 := by omega
  have hr100 : r11 ≤ 100 := by omega
  have hn5 : n ≤ 5000 := by omega
  go_wp2_with (fail)
  refine (retracted_u a n c L W' H x back aq m cq V _ hn100 HP.out hm100 hcm HV.out).mono ?_
  rintro e u1 ⟨⟨ar, kr, cr, R, rfl, har, hr1, hr2⟩, hb⟩
  replace BW := bwn BW hb
  replace HP := kB HP hb
  replace HV := kI HV hb
  replace HT := kI HT hb
  have HAR := Lib.hid har
  have HR1 := Lib.hid hr1
  have HR2 := Lib.hid hr2
  clear har hr1 hr2
  clear hb
  go_wp2_with (fail)
  refine (fastest_u a n c L W' H f _ hn100 HP.out).mono ?_
  rintro e u2 ⟨⟨ax, kx, cx, X, rfl, hax, hx1, hx2⟩, hb⟩
  replace BW := bwn BW hb
  replace HP := kB HP hb
  replace HV := kI HV hb
  replace HT := kI HT hb
  replace HAR := kI HAR hb
  have HAX := Lib.hid hax
  have HX1 := Lib.hid hx1
  have HX2 := Lib.hid hx2
  clear hax hx1 hx2
  clear hb
  go_wp2_with (fail)
  refine (slowed_u _ r11 3 (tF z2 z5 z8) z15 _ hr100 HT.out).mono ?_
  rintro e u3 ⟨⟨at_, kt, ct, Z, gv, rfl, hat, ht1, ht2⟩, hb⟩
  replace BW := bwn BW hb
  replace HP := kB HP hb
  replace HV := kI HV hb
  replace HT := kI HT hb
  replace HAR := kI HAR hb
  replace HAX := kI HAX hb
  have HAT := Lib.hid hat
  have HT1 := Lib.hid ht1
  have HT2 := Lib.hid ht2
  clear hat ht1 ht2
  clear hb
  go_wp2_with (fail)
  refine (Weight_any a n c L W' H d _ hn100 HP.out).mono ?_
  rintro e u4 ⟨rfl, hb⟩
  replace BW := bwn BW hb
  replace HP := kB HP hb
  replace HV := kI HV hb
  replace HT := kI HT hb
  replace HAR := kI HAR hb
  replace HAX := kI HAX hb
  replace HAT := kI HAT hb
  clear hb
  go_wp2_with (fail)
  have H19 := Lib.hid (heap_alloc_new u4 (.cells #[.int .i64 (wrN n L W' H d), .int .i64 (wrD n L W' H d)] 36))
  have hb := (Below.refl _ u4).alloc (Nat.le_refl _) (.cells #[.int .i64 (wrN n L W' H d), .int .i64 (wrD n L W' H d)] 36)
  replace BW := bwn BW hb
  replace HP := kB HP hb
  replace HV := kI HV hb
  replace HT := kI HT hb
  replace HAR := kI HAR hb
  replace HAX := kI HAX hb
  replace HAT := kI HAT hb
  clear hb
  generalize (u4.alloc (.cells #[.int .i64 (wrN n L W' H d), .int .i64 (wrD n L W' H d)] 36)) = v0 at *
  obtain ⟨q19, hq⟩ : ∃ q, q = u4.heap.size := ⟨_, rfl⟩
  rw [← hq] at H19
  try rw [← hq]
  clear hq
  refine (areaFault_any a n c L W' H x _ hn5 HP.out).mono ?_
  rintro e u5 ⟨rfl, hb⟩
  replace BW := bwn BW hb
  replace HP := kB HP hb
  replace HV := kI HV hb
  replace HT := kI HT hb
  replace HAR := kI HAR hb
  replace HAX := kI HAX hb
  replace HAT := kI HAT hb
  replace H19 := kH hb H19
  clear hb
  go_wp2_with (fail)
  refine (beadsFault_any a n c L W' H _ hn5 HP.out).mono ?_
  rintro e u6 ⟨rfl, hb⟩
  replace BW := bwn BW hb
  replace HP := kB HP hb
  replace HV := kI HV hb
  replace HT := kI HT hb
  replace HAR := kI HAR hb
  replace HAX := kI HAX hb
  replace HAT := kI HAT hb
  replace H19 := kH hb H19
  clear hb
  go_wp2_with (go_at_call 31; refine (spanFault_any _ _ _ _).mono ?_; rintro e w7 ⟨rfl, rfl⟩)
  refine (or_any _ _ _ _ rfl).mono ?_
  rintro e u7 ⟨rfl, hw2⟩
  have hb : Below u6.heap.size u6 u7 := hw2 ▸ (Below.refl _ u6).alloc (Nat.le_refl _) _
  clear hw2
  replace BW := bwn BW hb
  replace HP := kB HP hb
  replace HV := kI HV hb
  replace HT := kI HT hb
  replace HAR := kI HAR hb
  replace HAX := kI HAX hb
  replace HAT := kI HAT hb
  replace H19 := kH hb H19
  clear hb
  rw [show orE (bdE n L W' H) (spanE f 1 1000000000000) = fsE n L W' H f from rfl]
  go_wp2_with (fail)
  refine (timesFault_any _ r11 3 (tF z2 z5 z8) z15 _ hr100 HT.out).mono ?_
  rintro e u8 ⟨rfl, hb⟩
  replace BW := bwn BW hb
  replace HP := kB HP hb
  replace HV := kI HV hb
  replace HT := kI HT hb
  replace HAR := kI HAR hb
  replace HAX := kI HAX hb
  replace HAT := kI HAT hb
  replace H19 := kH hb H19
  clear hb
  go_wp2_with (fail)
  refine (weightFault_any a n c L W' H d _ hn100 HP.out).mono ?_
  rintro e u9 ⟨rfl, hb⟩
  replace BW := bwn BW hb
  replace HP := kB HP hb
  replace HV := kI HV hb
  replace HT := kI HT hb
  replace HAR := kI HAR hb
  replace HAX := kI HAX hb
  replace HAT := kI HAT hb
  replace H19 := kH hb H19
  clear hb
  have hrt : rtE n L W' H x back V m = if arE n L W' H x = 0 then bkE back V n m else arE n L W' H x := rfl
  by_cases hz : arE n L W' H x = 0
  · rw [if_pos hz] at hrt
    by_cases hbk : bkE back V n m = 0
    · rw [hbk] at hrt
      rw [hrt, hz]
      have HZ := Lib.hid hz
      have HBK := Lib.hid hbk
      obtain ⟨hk, hR⟩ := HR1.out hrt
      subst hk
      subst hR
      clear HR1 HR2 hz hbk hrt
      by_cases hz : fsE n L W' H f = 0
      · rw [hz]
        have HFZ := Lib.hid (fsE_ok hz)
        obtain ⟨hk, hR⟩ := HX1.out hz
        replace hk := hk.symm
        subst hk
        subst hR
        clear HX1 HX2 hz
        by_cases hz : tmE r11 (tF z2 z5 z8) z15 = 0
        · rw [hz]
          have HTZ := Lib.hid hz
          obtain ⟨⟨hk, hR⟩, hG⟩ := HT1.out hz
          replace hk := hk.symm
          subst hk
          subst hR
          rw [hG]
          clear HT1 HT2 hz hG
          by_cases hz : wtE n L W' H d = 0
          · rw [hz]
            have HWZ := Lib.hid hz
            have hy := (show wrN n L W' H d = wdN n L W' H d from if_pos hz)
            have hz2 := (show wrD n L W' H d = wdD n L W' H d from if_pos hz)
            rw [hy, hz2] at H19
            try rw [hy, hz2]
            clear hy hz2 hz
            go_wp2_with (fail)
            refine (backFault_any a n c back aq m cq V _ hm100 hn5 HV.out).mono ?_
            rintro e u10 ⟨rfl, hb⟩
            replace BW := bwn BW hb
            replace HP := kB HP hb
            replace HV := kI HV hb
            replace HT := kI HT hb
            replace HAR := kI HAR hb
            replace HAX := kI HAX hb
            replace HAT := kI HAT hb
            replace H19 := kH hb H19
            rw [HBK.out]
            clear hb
            go_wp2_with (fail)
            have H28 := Lib.hid (heap_alloc_new u10 (.cells #[.int .i64 0, .int .i64 0] 36))
            have L19 := Lib.hid (lt_of_heap H19.out)
            have HWB := Lib.hid BW.out.size
            have hb := (Below.refl _ u10).alloc (Nat.le_refl _) (.cells #[.int .i64 0, .int .i64 0] 36)
            replace BW := bwn BW hb
            replace HP := kB HP hb
            replace HV := kI HV hb
            replace HT := kI HT hb
            replace H19 := kH hb H19
            have BQ := Lib.hid hb
            have HQE := Lib.hid (rfl : u10.heap.size = u10.heap.size)
            clear hb
            generalize hvv : (u10.alloc (.cells #[.int .i64 0, .int .i64 0] 36)) = vq at *
            clear hvv
            obtain ⟨q28, hq⟩ : ∃ q, q = u10.heap.size := ⟨_, rfl⟩
            replace HQE := Lib.hid hq
            rw [← hq] at H28 L19 HWB BQ
            try rw [← hq]
            replace BQ := Lib.hid (show Below q28 u10 vq from BQ.out)
            clear hq
            have LHOR := Lib.hid (lt_of_heap H28.out)
            refine (retractedOf_any a n c L W' H x back aq m cq V _ hn100 HP.out HZ.out hcn hm100 HV.out (bkE_ok HBK.out).1).mono ?_
            rintro e u11 ⟨a2, k2, c2, rfl, hk2, ho2, hb⟩
            replace BW := bwn BW hb
            replace HP := kB HP hb
            replace HV := kI HV hb
            replace HT := kI HT hb
            replace H19 := kH hb H19
            replace H28 := kH hb H28
            replace BQ := Lib.hid (BQ.out.trans (hb.mono (show q28 ≤ _ by have h1 := BQ.out.size; have h2 := HQE.out; omega)))
            subst hk2
            have HOR := Lib.hid ho2
            clear ho2
            clear hb
            go_wp2_with (fail)
            have LHOX := Lib.hid (lt_of_heap H28.out)
            refine (fastestOf_any a n c L W' H f _ hn100 HP.out (bdE_ok HFZ.out.1).2 HFZ.out.2).mono ?_
            rintro e u12 ⟨a3, c3, rfl, ho3, hb⟩
            replace BW := bwn BW hb
            replace HP := kB HP hb
            replace HV := kI HV hb
            replace HT := kI HT hb
            replace H19 := kH hb H19
            replace H28 := kH hb H28
            replace BQ := Lib.hid (BQ.out.trans (hb.mono (show q28 ≤ _ by have h1 := BQ.out.size; have h2 := HQE.out; omega)))
            replace HOR := Lib.hid (ownsRow_below HOR.out hb)
            have HOX := Lib.hid ho3
            clear ho3
            clear hb
            go_wp2_with (fail)
            have LHOT := Lib.hid (lt_of_heap H28.out)
            refine (slowedOf_any _ r11 3 (tF z2 z5 z8) z15 _ hr100 HT.out HTZ.out).mono ?_
            rintro e u13 ⟨a4, c4, rfl, ho4, hb⟩
            replace BW := bwn BW hb
            replace HP := kB HP hb
            replace HV := kI HV hb
            replace HT := kI HT hb
            replace H19 := kH hb H19
            replace H28 := kH hb H28
            replace BQ := Lib.hid (BQ.out.trans (hb.mono (show q28 ≤ _ by have h1 := BQ.out.size; have h2 := HQE.out; omega)))
            replace HOR := Lib.hid (ownsRow_below HOR.out hb)
            replace HOX := Lib.hid (ownsRow_below HOX.out hb)
            have HOT := Lib.hid ho4
            clear ho4
            clear hb
            go_wp2_with (fail)
            refine (weightOf_any a n c L W' H d _ hn100 HP.out HWZ.out).mono ?_
            rintro e u14 ⟨rfl, hb⟩
            replace BW := bwn BW hb
            replace HP := kB HP hb
            replace HV := kI HV hb
            replace HT := kI HT hb
            replace H19 := kH hb H19
            replace H28 := kH hb H28
            replace BQ := Lib.hid (BQ.out.trans (hb.mono (show q28 ≤ _ by have h1 := BQ.out.size; have h2 := HQE.out; omega)))
            replace HOR := Lib.hid (ownsRow_below HOR.out hb)
            replace HOX := Lib.hid (ownsRow_below HOX.out hb)
            replace HOT := Lib.hid (ownsRow_below HOT.out hb)
            clear hb
            obtain ⟨y, hy⟩ : ∃ y, wdN n L W' H d = y := ⟨_, rfl⟩
            obtain ⟨z, hz⟩ : ∃ z, wdD n L W' H d = z := ⟨_, rfl⟩
            rw [hy, hz] at H19
            rw [hy, hz]
            clear hy hz
            have d0' := cell_of H28.out (i := 0) rfl
            have d1' := cell_of H28.out (i := 1) rfl
            have f0' := frozen_of H28.out (i := 0)
            have f1' := frozen_of H28.out (i := 1)
            have hne1 : ¬ q19 = q28 := Nat.ne_of_lt L19.out
            have hne2 : ¬ q28 = q19 := fun h => hne1 h.symm
            have g0' := cell_of H19.out (i := 0) rfl
            have g1' := cell_of H19.out (i := 1) rfl
            have hs := set2V_1 (u := .int .i64 z) (set2V_0 (u := .int .i64 y) H28.out)
            replace BW := Lib.hid ((Below.setCell (p := ⟨q28, 0, none⟩) BW.out HWB.out (.int .i64 y)).setCell (p := ⟨q28, 1, none⟩) HWB.out (.int .i64 z))
            replace BQ := Lib.hid ((Below.setCell (p := ⟨q28, 0, none⟩) BQ.out (Nat.le_refl _) (.int .i64 y)).setCell (p := ⟨q28, 1, none⟩) (Nat.le_refl _) (.int .i64 z))
            replace HOR := Lib.hid (own_mutB (own_mutB HOR.out (b := q28) 0 (.int .i64 y) (fun e => by have := (HOR.out.lt q28 e).1; have h2 := LHOR.out; omega)) (b := q28) 1 (.int .i64 z) (fun e => by have := (HOR.out.lt q28 e).1; have h2 := LHOR.out; omega))
            replace HOX := Lib.hid (own_mutB (own_mutB HOX.out (b := q28) 0 (.int .i64 y) (fun e => by have := (HOX.out.lt q28 e).1; have h2 := LHOX.out; omega)) (b := q28) 1 (.int .i64 z) (fun e => by have := (HOX.out.lt q28 e).1; have h2 := LHOX.out; omega))
            replace HOT := Lib.hid (own_mutB (own_mutB HOT.out (b := q28) 0 (.int .i64 y) (fun e => by have := (HOT.out.lt q28 e).1; have h2 := LHOT.out; omega)) (b := q28) 1 (.int .i64 z) (fun e => by have := (HOT.out.lt q28 e).1; have h2 := LHOT.out; omega))
            replace H28 := Lib.hid hs
            replace H19 := Lib.hid ((Below.heap_setCell (u14.setCell ⟨q28, 0, none⟩ (.int .i64 y)) ⟨q28, 1, none⟩ (.int .i64 z) q19 hne1).trans ((Below.heap_setCell u14 ⟨q28, 0, none⟩ (.int .i64 y) q19 hne1).trans H19.out))
            clear hs HP HV HT
            go_wp2_with (fail)
            clear d0' d1' f0' f1'
            generalize hvw : ((u14.setCell ⟨q28, 0, none⟩ (.int .i64 y)).setCell ⟨q28, 1, none⟩ (.int .i64 z)) = vz at *
            clear hvw g0' g1' hne1 hne2
            replace HAR := Lib.hid (HAR.out.kept (w' := vz) (HQE.out ▸ BQ.out))
            replace HAX := Lib.hid (HAX.out.kept (w' := vz) (HQE.out ▸ BQ.out))
            replace HAT := Lib.hid (HAT.out.kept (w' := vz) (HQE.out ▸ BQ.out))
            have HIR := Lib.hid (ints_of_IV HOR.out)
            have HIX := Lib.hid (ints_of_own HOX.out)
            have HIT := Lib.hid (ints_of_own HOT.out)
            refine (equalV_any ar a2 (rtL back V m (amtF L W' H x) n).length cr c2 (fun i => (rtL back V m (amtF L W' H x) n).getD i 0) (fun i => (rtL back V m (amtF L W' H x) n).getD i 0) _ (by first | omega | (have h := rtL_len back V m (amtF L W' H x) n; omega)) HAR.out HIR.out (fun _ _ => rfl)).mono ?_
            rintro e u15 ⟨rfl, hb⟩
            replace BW := bwn BW hb
            replace H19 := kH hb H19
            replace H28 := kH hb H28
            replace HAX := kI HAX hb
            replace HIX := kI HIX hb
            replace HAT := kI HAT hb
            replace HIT := kI HIT hb
            clear hb
            go_wp2_with (fail)
            refine (equalV_any ax a3 n cx c3 (fsF W' H f) (fsF W' H f) _ (by first | omega | (have h := rtL_len back V m (amtF L W' H x) n; omega)) HAX.out HIX.out (fun _ _ => rfl)).mono ?_
            rintro e u16 ⟨rfl, hb⟩
            replace BW := bwn BW hb
            replace H19 := kH hb H19
            replace H28 := kH hb H28
            replace HAT := kI HAT hb
            replace HIT := kI HIT hb
            clear hb
            go_wp2_with (fail)
            refine (equalV_any at_ a4 r11 ct c4 (slF (tF z2 z5 z8) z15) (slF (tF z2 z5 z8) z15) _ (by first | omega | (have h := rtL_len back V m (amtF L W' H x) n; omega)) HAT.out HIT.out (fun _ _ => rfl)).mono ?_
            rintro e u17 ⟨rfl, hb⟩
            replace BW := bwn BW hb
            replace H19 := kH hb H19
            replace H28 := kH hb H28
            clear hb
            have g0' := cell_of H19.out (i := 0) rfl
            have g1' := cell_of H19.out (i := 1) rfl
            have g2' := cell_of H28.out (i := 0) rfl
            have g3' := cell_of H28.out (i := 1) rfl
            go_wp2_with (fail)
            clear g0' g1' g2' g3'
            refine (flowed_any _).mono ?_
            rintro e u18 ⟨rfl, hb⟩
            replace BW := bwn BW hb
            clear hb
            go_wp2_with (fail)
            go_ret
            exact ⟨rfl, BW.out⟩
          · have hy := (show wrN n L W' H d = 0 from if_neg hz)
            have hz2 := (show wrD n L W' H d = 0 from if_neg hz)
            rw [hy, hz2] at H19
            try rw [hy, hz2]
            have f1 : (wtE n L W' H d == 0) = false := by simpa using hz
            have f2 : (wtE n L W' H d == wtE n L W' H d) = true := by simp
            clear hy hz2 hz
            go_wp2_with (fail)
            refine (backFault_any a n c back aq m cq V _ hm100 hn5 HV.out).mono ?_
            rintro e u10 ⟨rfl, hb⟩
            replace BW := bwn BW hb
            replace HP := kB HP hb
            replace HV := kI HV hb
            replace HT := kI HT hb
            replace HAR := kI HAR hb
            replace HAX := kI HAX hb
            replace HAT := kI HAT hb
            replace H19 := kH hb H19
            rw [HBK.out]
            clear hb
            go_wp2_with (fail)
            have H28 := Lib.hid (heap_alloc_new u10 (.cells #[.int .i64 0, .int .i64 0] 36))
            have L19 := Lib.hid (lt_of_heap H19.out)
            have HWB := Lib.hid BW.out.size
            have hb := (Below.refl _ u10).alloc (Nat.le_refl _) (.cells #[.int .i64 0, .int .i64 0] 36)
            replace BW := bwn BW hb
            replace HP := kB HP hb
            replace HV := kI HV hb
            replace HT := kI HT hb
            replace H19 := kH hb H19
            have BQ := Lib.hid hb
            have HQE := Lib.hid (rfl : u10.heap.size = u10.heap.size)
            clear hb
            generalize hvv : (u10.alloc (.cells #[.int .i64 0, .int .i64 0] 36)) = vq at *
            clear hvv
            obtain ⟨q28, hq⟩ : ∃ q, q = u10.heap.size := ⟨_, rfl⟩
            replace HQE := Lib.hid hq
            rw [← hq] at H28 L19 HWB BQ
            try rw [← hq]
            replace BQ := Lib.hid (show Below q28 u10 vq from BQ.out)
            clear hq
            have LHOR := Lib.hid (lt_of_heap H28.out)
            refine (retractedOf_any a n c L W' H x back aq m cq V _ hn100 HP.out HZ.out hcn hm100 HV.out (bkE_ok HBK.out).1).mono ?_
            rintro e u11 ⟨a2, k2, c2, rfl, hk2, ho2, hb⟩
            replace BW := bwn BW hb
            replace HP := kB HP hb
            replace HV := kI HV hb
            replace HT := kI HT hb
            replace H19 := kH hb H19
            replace H28 := kH hb H28
            replace BQ := Lib.hid (BQ.out.trans (hb.mono (show q28 ≤ _ by have h1 := BQ.out.size; have h2 := HQE.out; omega)))
            subst hk2
            have HOR := Lib.hid ho2
            clear ho2
            clear hb
            go_wp2_with (fail)
            have LHOX := Lib.hid (lt_of_heap H28.out)
            refine (fastestOf_any a n c L W' H f _ hn100 HP.out (bdE_ok HFZ.out.1).2 HFZ.out.2).mono ?_
            rintro e u12 ⟨a3, c3, rfl, ho3, hb⟩
            replace BW := bwn BW hb
            replace HP := kB HP hb
            replace HV := kI HV hb
            replace HT := kI HT hb
            replace H19 := kH hb H19
            replace H28 := kH hb H28
            replace BQ := Lib.hid (BQ.out.trans (hb.mono (show q28 ≤ _ by have h1 := BQ.out.size; have h2 := HQE.out; omega)))
            replace HOR := Lib.hid (ownsRow_below HOR.out hb)
            have HOX := Lib.hid ho3
            clear ho3
            clear hb
            go_wp2_with (fail)
            have LHOT := Lib.hid (lt_of_heap H28.out)
            refine (slowedOf_any _ r11 3 (tF z2 z5 z8) z15 _ hr100 HT.out HTZ.out).mono ?_
            rintro e u13 ⟨a4, c4, rfl, ho4, hb⟩
            replace BW := bwn BW hb
            replace HP := kB HP hb
            replace HV := kI HV hb
            replace HT := kI HT hb
            replace H19 := kH hb H19
            replace H28 := kH hb H28
            replace BQ := Lib.hid (BQ.out.trans (hb.mono (show q28 ≤ _ by have h1 := BQ.out.size; have h2 := HQE.out; omega)))
            replace HOR := Lib.hid (ownsRow_below HOR.out hb)
            replace HOX := Lib.hid (ownsRow_below HOX.out hb)
            have HOT := Lib.hid ho4
            clear ho4
            clear hb
            go_wp2_with (fail)
            replace HAR := Lib.hid (HAR.out.kept (w' := u13) (HQE.out ▸ BQ.out))
            replace HAX := Lib.hid (HAX.out.kept (w' := u13) (HQE.out ▸ BQ.out))
            replace HAT := Lib.hid (HAT.out.kept (w' := u13) (HQE.out ▸ BQ.out))
            have HIR := Lib.hid (ints_of_IV HOR.out)
            have HIX := Lib.hid (ints_of_own HOX.out)
            have HIT := Lib.hid (ints_of_own HOT.out)
            refine (equalV_any ar a2 (rtL back V m (amtF L W' H x) n).length cr c2 (fun i => (rtL back V m (amtF L W' H x) n).getD i 0) (fun i => (rtL back V m (amtF L W' H x) n).getD i 0) _ (by first | omega | (have h := rtL_len back V m (amtF L W' H x) n; omega)) HAR.out HIR.out (fun _ _ => rfl)).mono ?_
            rintro e u14 ⟨rfl, hb⟩
            replace BW := bwn BW hb
            replace H19 := kH hb H19
            replace H28 := kH hb H28
            replace HAX := kI HAX hb
            replace HIX := kI HIX hb
            replace HAT := kI HAT hb
            replace HIT := kI HIT hb
            clear hb
            go_wp2_with (fail)
            refine (equalV_any ax a3 n cx c3 (fsF W' H f) (fsF W' H f) _ (by first | omega | (have h := rtL_len back V m (amtF L W' H x) n; omega)) HAX.out HIX.out (fun _ _ => rfl)).mono ?_
            rintro e u15 ⟨rfl, hb⟩
            replace BW := bwn BW hb
            replace H19 := kH hb H19
            replace H28 := kH hb H28
            replace HAT := kI HAT hb
            replace HIT := kI HIT hb
            clear hb
            go_wp2_with (fail)
            refine (equalV_any at_ a4 r11 ct c4 (slF (tF z2 z5 z8) z15) (slF (tF z2 z5 z8) z15) _ (by first | omega | (have h := rtL_len back V m (amtF L W' H x) n; omega)) HAT.out HIT.out (fun _ _ => rfl)).mono ?_
            rintro e u16 ⟨rfl, hb⟩
            replace BW := bwn BW hb
            replace H19 := kH hb H19
            replace H28 := kH hb H28
            clear hb
            have g0' := cell_of H19.out (i := 0) rfl
            have g1' := cell_of H19.out (i := 1) rfl
            have g2' := cell_of H28.out (i := 0) rfl
            have g3' := cell_of H28.out (i := 1) rfl
            go_wp2_with (fail)
            clear g0' g1' g2' g3'
            refine (flowed_any _).mono ?_
            rintro e u17 ⟨rfl, hb⟩
            replace BW := bwn BW hb
            clear hb
            go_wp2_with (fail)
            go_ret
            exact ⟨rfl, BW.out⟩
        · obtain ⟨rfl, rfl⟩ := HT2.out hz
          have e1 : (tmE r11 (tF z2 z5 z8) z15 == 0) = false := by simpa using hz
          have e2 : (tmE r11 (tF z2 z5 z8) z15 == tmE r11 (tF z2 z5 z8) z15) = true := by simp
          clear HT1 HT2 hz
          by_cases hz : wtE n L W' H d = 0
          · rw [hz]
            have HWZ := Lib.hid hz
            have hy := (show wrN n L W' H d = wdN n L W' H d from if_pos hz)
            have hz2 := (show wrD n L W' H d = wdD n L W' H d from if_pos hz)
            rw [hy, hz2] at H19
            try rw [hy, hz2]
            clear hy hz2 hz
            go_wp2_with (fail)
            refine (backFault_any a n c back aq m cq V _ hm100 hn5 HV.out).mono ?_
            rintro e u10 ⟨rfl, hb⟩
            replace BW := bwn BW hb
            replace HP := kB HP hb
            replace HV := kI HV hb
            replace HT := kI HT hb
            replace HAR := kI HAR hb
            replace HAX := kI HAX hb
            replace HAT := kI HAT hb
            replace H19 := kH hb H19
            rw [HBK.out]
            clear hb
            go_wp2_with (fail)
            have H28 := Lib.hid (heap_alloc_new u10 (.cells #[.int .i64 0, .int .i64 0] 36))
            have L19 := Lib.hid (lt_of_heap H19.out)
            have HWB := Lib.hid BW.out.size
            have hb := (Below.refl _ u10).alloc (Nat.le_refl _) (.cells #[.int .i64 0, .int .i64 0] 36)
            replace BW := bwn BW hb
            replace HP := kB HP hb
            replace HV := kI HV hb
            replace HT := kI HT hb
            replace H19 := kH hb H19
            have BQ := Lib.hid hb
            have HQE := Lib.hid (rfl : u10.heap.size = u10.heap.size)
            clear hb
            generalize hvv : (u10.alloc (.cells #[.int .i64 0, .int .i64 0] 36)) = vq at *
            clear hvv
            obtain ⟨q28, hq⟩ : ∃ q, q = u10.heap.size := ⟨_, rfl⟩
            replace HQE := Lib.hid hq
            rw [← hq] at H28 L19 HWB BQ
            try rw [← hq]
            replace BQ := Lib.hid (show Below q28 u10 vq from BQ.out)
            clear hq
            have LHOR := Lib.hid (lt_of_heap H28.out)
            refine (retractedOf_any a n c L W' H x back aq m cq V _ hn100 HP.out HZ.out hcn hm100 HV.out (bkE_ok HBK.out).1).mono ?_
            rintro e u11 ⟨a2, k2, c2, rfl, hk2, ho2, hb⟩
            replace BW := bwn BW hb
            replace HP := kB HP hb
            replace HV := kI HV hb
            replace HT := kI HT hb
            replace H19 := kH hb H19
            replace H28 := kH hb H28
            replace BQ := Lib.hid (BQ.out.trans (hb.mono (show q28 ≤ _ by have h1 := BQ.out.size; have h2 := HQE.out; omega)))
            subst hk2
            have HOR := Lib.hid ho2
            clear ho2
            clear hb
            go_wp2_with (fail)
            have LHOX := Lib.hid (lt_of_heap H28.out)
            refine (fastestOf_any a n c L W' H f _ hn100 HP.out (bdE_ok HFZ.out.1).2 HFZ.out.2).mono ?_
            rintro e u12 ⟨a3, c3, rfl, ho3, hb⟩
            replace BW := bwn BW hb
            replace HP := kB HP hb
            replace HV := kI HV hb
            replace HT := kI HT hb
            replace H19 := kH hb H19
            replace H28 := kH hb H28
            replace BQ := Lib.hid (BQ.out.trans (hb.mono (show q28 ≤ _ by have h1 := BQ.out.size; have h2 := HQE.out; omega)))
            replace HOR := Lib.hid (ownsRow_below HOR.out hb)
            have HOX := Lib.hid ho3
            clear ho3
            clear hb
            go_wp2_with (fail)
            refine (weightOf_any a n c L W' H d _ hn100 HP.out HWZ.out).mono ?_
            rintro e u13 ⟨rfl, hb⟩
            replace BW := bwn BW hb
            replace HP := kB HP hb
            replace HV := kI HV hb
            replace HT := kI HT hb
            replace H19 := kH hb H19
            replace H28 := kH hb H28
            replace BQ := Lib.hid (BQ.out.trans (hb.mono (show q28 ≤ _ by have h1 := BQ.out.size; have h2 := HQE.out; omega)))
            replace HOR := Lib.hid (ownsRow_below HOR.out hb)
            replace HOX := Lib.hid (ownsRow_below HOX.out hb)
            clear hb
            obtain ⟨y, hy⟩ : ∃ y, wdN n L W' H d = y := ⟨_, rfl⟩
            obtain ⟨z, hz⟩ : ∃ z, wdD n L W' H d = z := ⟨_, rfl⟩
            rw [hy, hz] at H19
            rw [hy, hz]
            clear hy hz
            have d0' := cell_of H28.out (i := 0) rfl
            have d1' := cell_of H28.out (i := 1) rfl
            have f0' := frozen_of H28.out (i := 0)
            have f1' := frozen_of H28.out (i := 1)
            have hne1 : ¬ q19 = q28 := Nat.ne_of_lt L19.out
            have hne2 : ¬ q28 = q19 := fun h => hne1 h.symm
            have g0' := cell_of H19.out (i := 0) rfl
            have g1' := cell_of H19.out (i := 1) rfl
            have hs := set2V_1 (u := .int .i64 z) (set2V_0 (u := .int .i64 y) H28.out)
            replace BW := Lib.hid ((Below.setCell (p := ⟨q28, 0, none⟩) BW.out HWB.out (.int .i64 y)).setCell (p := ⟨q28, 1, none⟩) HWB.out (.int .i64 z))
            replace BQ := Lib.hid ((Below.setCell (p := ⟨q28, 0, none⟩) BQ.out (Nat.le_refl _) (.int .i64 y)).setCell (p := ⟨q28, 1, none⟩) (Nat.le_refl _) (.int .i64 z))
            replace HOR := Lib.hid (own_mutB (own_mutB HOR.out (b := q28) 0 (.int .i64 y) (fun e => by have := (HOR.out.lt q28 e).1; have h2 := LHOR.out; omega)) (b := q28) 1 (.int .i64 z) (fun e => by have := (HOR.out.lt q28 e).1; have h2 := LHOR.out; omega))
            replace HOX := Lib.hid (own_mutB (own_mutB HOX.out (b := q28) 0 (.int .i64 y) (fun e => by have := (HOX.out.lt q28 e).1; have h2 := LHOX.out; omega)) (b := q28) 1 (.int .i64 z) (fun e => by have := (HOX.out.lt q28 e).1; have h2 := LHOX.out; omega))
            replace H28 := Lib.hid hs
            replace H19 := Lib.hid ((Below.heap_setCell (u13.setCell ⟨q28, 0, none⟩ (.int .i64 y)) ⟨q28, 1, none⟩ (.int .i64 z) q19 hne1).trans ((Below.heap_setCell u13 ⟨q28, 0, none⟩ (.int .i64 y) q19 hne1).trans H19.out))
            clear hs HP HV HT
            go_wp2_with (fail)
            clear d0' d1' f0' f1'
            generalize hvw : ((u13.setCell ⟨q28, 0, none⟩ (.int .i64 y)).setCell ⟨q28, 1, none⟩ (.int .i64 z)) = vz at *
            clear hvw g0' g1' hne1 hne2
            replace HAR := Lib.hid (HAR.out.kept (w' := vz) (HQE.out ▸ BQ.out))
            replace HAX := Lib.hid (HAX.out.kept (w' := vz) (HQE.out ▸ BQ.out))
            replace HAT := Lib.hid (HAT.out.kept (w' := vz) (HQE.out ▸ BQ.out))
            have HIR := Lib.hid (ints_of_IV HOR.out)
            have HIX := Lib.hid (ints_of_own HOX.out)
            refine (equalV_any ar a2 (rtL back V m (amtF L W' H x) n).length cr c2 (fun i => (rtL back V m (amtF L W' H x) n).getD i 0) (fun i => (rtL back V m (amtF L W' H x) n).getD i 0) _ (by first | omega | (have h := rtL_len back V m (amtF L W' H x) n; omega)) HAR.out HIR.out (fun _ _ => rfl)).mono ?_
            rintro e u14 ⟨rfl, hb⟩
            replace BW := bwn BW hb
            replace H19 := kH hb H19
            replace H28 := kH hb H28
            replace HAX := kI HAX hb
            replace HIX := kI HIX hb
            replace HAT := kI HAT hb
            clear hb
            go_wp2_with (fail)
            refine (equalV_any ax a3 n cx c3 (fsF W' H f) (fsF W' H f) _ (by first | omega | (have h := rtL_len back V m (amtF L W' H x) n; omega)) HAX.out HIX.out (fun _ _ => rfl)).mono ?_
            rintro e u15 ⟨rfl, hb⟩
            replace BW := bwn BW hb
            replace H19 := kH hb H19
            replace H28 := kH hb H28
            replace HAT := kI HAT hb
            clear hb
            go_wp2_with (fail)
            refine (equalV_any at_ none 0 ct 0 Z (fun _ => 0) _ (by omega) HAT.out ints_nil (fun i h => absurd h (Nat.not_lt_zero i))).mono ?_
            rintro e u16 ⟨rfl, hb⟩
            replace BW := bwn BW hb
            replace H19 := kH hb H19
            replace H28 := kH hb H28
            clear hb
            have g0' := cell_of H19.out (i := 0) rfl
            have g1' := cell_of H19.out (i := 1) rfl
            have g2' := cell_of H28.out (i := 0) rfl
            have g3' := cell_of H28.out (i := 1) rfl
            go_wp2_with (fail)
            clear g0' g1' g2' g3'
            refine (flowed_any _).mono ?_
            rintro e u17 ⟨rfl, hb⟩
            replace BW := bwn BW hb
            clear hb
            go_wp2_with (fail)
            go_ret
            exact ⟨rfl, BW.out⟩
          · have hy := (show wrN n L W' H d = 0 from if_neg hz)
            have hz2 := (show wrD n L W' H d = 0 from if_neg hz)
            rw [hy, hz2] at H19
            try rw [hy, hz2]
            have f1 : (wtE n L W' H d == 0) = false := by simpa using hz
            have f2 : (wtE n L W' H d == wtE n L W' H d) = true := by simp
            clear hy hz2 hz
            go_wp2_with (fail)
            refine (backFault_any a n c back aq m cq V _ hm100 hn5 HV.out).mono ?_
            rintro e u10 ⟨rfl, hb⟩
            replace BW := bwn BW hb
            replace HP := kB HP hb
            replace HV := kI HV hb
            replace HT := kI HT hb
            replace HAR := kI HAR hb
            replace HAX := kI HAX hb
            replace HAT := kI HAT hb
            replace H19 := kH hb H19
            rw [HBK.out]
            clear hb
            go_wp2_with (fail)
            have H28 := Lib.hid (heap_alloc_new u10 (.cells #[.int .i64 0, .int .i64 0] 36))
            have L19 := Lib.hid (lt_of_heap H19.out)
            have HWB := Lib.hid BW.out.size
            have hb := (Below.refl _ u10).alloc (Nat.le_refl _) (.cells #[.int .i64 0, .int .i64 0] 36)
            replace BW := bwn BW hb
            replace HP := kB HP hb
            replace HV := kI HV hb
            replace HT := kI HT hb
            replace H19 := kH hb H19
            have BQ := Lib.hid hb
            have HQE := Lib.hid (rfl : u10.heap.size = u10.heap.size)
            clear hb
            generalize hvv : (u10.alloc (.cells #[.int .i64 0, .int .i64 0] 36)) = vq at *
            clear hvv
            obtain ⟨q28, hq⟩ : ∃ q, q = u10.heap.size := ⟨_, rfl⟩
            replace HQE := Lib.hid hq
            rw [← hq] at H28 L19 HWB BQ
            try rw [← hq]
            replace BQ := Lib.hid (show Below q28 u10 vq from BQ.out)
            clear hq
            have LHOR := Lib.hid (lt_of_heap H28.out)
            refine (retractedOf_any a n c L W' H x back aq m cq V _ hn100 HP.out HZ.out hcn hm100 HV.out (bkE_ok HBK.out).1).mono ?_
            rintro e u11 ⟨a2, k2, c2, rfl, hk2, ho2, hb⟩
            replace BW := bwn BW hb
            replace HP := kB HP hb
            replace HV := kI HV hb
            replace HT := kI HT hb
            replace H19 := kH hb H19
            replace H28 := kH hb H28
            replace BQ := Lib.hid (BQ.out.trans (hb.mono (show q28 ≤ _ by have h1 := BQ.out.size; have h2 := HQE.out; omega)))
            subst hk2
            have HOR := Lib.hid ho2
            clear ho2
            clear hb
            go_wp2_with (fail)
            have LHOX := Lib.hid (lt_of_heap H28.out)
            refine (fastestOf_any a n c L W' H f _ hn100 HP.out (bdE_ok HFZ.out.1).2 HFZ.out.2).mono ?_
            rintro e u12 ⟨a3, c3, rfl, ho3, hb⟩
            replace BW := bwn BW hb
            replace HP := kB HP hb
            replace HV := kI HV hb
            replace HT := kI HT hb
            replace H19 := kH hb H19
            replace H28 := kH hb H28
            replace BQ := Lib.hid (BQ.out.trans (hb.mono (show q28 ≤ _ by have h1 := BQ.out.size; have h2 := HQE.out; omega)))
            replace HOR := Lib.hid (ownsRow_below HOR.out hb)
            have HOX := Lib.hid ho3
            clear ho3
            clear hb
            go_wp2_with (fail)
            replace HAR := Lib.hid (HAR.out.kept (w' := u12) (HQE.out ▸ BQ.out))
            replace HAX := Lib.hid (HAX.out.kept (w' := u12) (HQE.out ▸ BQ.out))
            replace HAT := Lib.hid (HAT.out.kept (w' := u12) (HQE.out ▸ BQ.out))
            have HIR := Lib.hid (ints_of_IV HOR.out)
            have HIX := Lib.hid (ints_of_own HOX.out)
            refine (equalV_any ar a2 (rtL back V m (amtF L W' H x) n).length cr c2 (fun i => (rtL back V m (amtF L W' H x) n).getD i 0) (fun i => (rtL back V m (amtF L W' H x) n).getD i 0) _ (by first | omega | (have h := rtL_len back V m (amtF L W' H x) n; omega)) HAR.out HIR.out (fun _ _ => rfl)).mono ?_
            rintro e u13 ⟨rfl, hb⟩
            replace BW := bwn BW hb
            replace H19 := kH hb H19
            replace H28 := kH hb H28
            replace HAX := kI HAX hb
            replace HIX := kI HIX hb
            replace HAT := kI HAT hb
            clear hb
            go_wp2_with (fail)
            refine (equalV_any ax a3 n cx c3 (fsF W' H f) (fsF W' H f) _ (by first | omega | (have h := rtL_len back V m (amtF L W' H x) n; omega)) HAX.out HIX.out (fun _ _ => rfl)).mono ?_
            rintro e u14 ⟨rfl, hb⟩
            replace BW := bwn BW hb
            replace H19 := kH hb H19
            replace H28 := kH hb H28
            replace HAT := kI HAT hb
            clear hb
            go_wp2_with (fail)
            refine (equalV_any at_ none 0 ct 0 Z (fun _ => 0) _ (by omega) HAT.out ints_nil (fun i h => absurd h (Nat.not_lt_zero i))).mono ?_
            rintro e u15 ⟨rfl, hb⟩
            replace BW := bwn BW hb
            replace H19 := kH hb H19
            replace H28 := kH hb H28
            clear hb
            have g0' := cell_of H19.out (i := 0) rfl
            have g1' := cell_of H19.out (i := 1) rfl
            have g2' := cell_of H28.out (i := 0) rfl
            have g3' := cell_of H28.out (i := 1) rfl
            go_wp2_with (fail)
            clear g0' g1' g2' g3'
            refine (flowed_any _).mono ?_
            rintro e u16 ⟨rfl, hb⟩
            replace BW := bwn BW hb
            clear hb
            go_wp2_with (fail)
            go_ret
            exact ⟨rfl, BW.out⟩
      · obtain rfl := HX2.out hz
        have d1 : (fsE n L W' H f == 0) = false := by simpa using hz
        have d2 : (fsE n L W' H f == fsE n L W' H f) = true := by simp
        clear HX1 HX2 hz
        by_cases hz : tmE r11 (tF z2 z5 z8) z15 = 0
        · rw [hz]
          have HTZ := Lib.hid hz
          obtain ⟨⟨hk, hR⟩, hG⟩ := HT1.out hz
          replace hk := hk.symm
          subst hk
          subst hR
          rw [hG]
          clear HT1 HT2 hz hG
          by_cases hz : wtE n L W' H d = 0
          · rw [hz]
            have HWZ := Lib.hid hz
            have hy := (show wrN n L W' H d = wdN n L W' H d from if_pos hz)
            have hz2 := (show wrD n L W' H d = wdD n L W' H d from if_pos hz)
            rw [hy, hz2] at H19
            try rw [hy, hz2]
            clear hy hz2 hz
            go_wp2_with (fail)
            refine (backFault_any a n c back aq m cq V _ hm100 hn5 HV.out).mono ?_
            rintro e u10 ⟨rfl, hb⟩
            replace BW := bwn BW hb
            replace HP := kB HP hb
            replace HV := kI HV hb
            replace HT := kI HT hb
            replace HAR := kI HAR hb
            replace HAX := kI HAX hb
            replace HAT := kI HAT hb
            replace H19 := kH hb H19
            rw [HBK.out]
            clear hb
            go_wp2_with (fail)
            have H28 := Lib.hid (heap_alloc_new u10 (.cells #[.int .i64 0, .int .i64 0] 36))
            have L19 := Lib.hid (lt_of_heap H19.out)
            have HWB := Lib.hid BW.out.size
            have hb := (Below.refl _ u10).alloc (Nat.le_refl _) (.cells #[.int .i64 0, .int .i64 0] 36)
            replace BW := bwn BW hb
            replace HP := kB HP hb
            replace HV := kI HV hb
            replace HT := kI HT hb
            replace H19 := kH hb H19
            have BQ := Lib.hid hb
            have HQE := Lib.hid (rfl : u10.heap.size = u10.heap.size)
            clear hb
            generalize hvv : (u10.alloc (.cells #[.int .i64 0, .int .i64 0] 36)) = vq at *
            clear hvv
            obtain ⟨q28, hq⟩ : ∃ q, q = u10.heap.size := ⟨_, rfl⟩
            replace HQE := Lib.hid hq
            rw [← hq] at H28 L19 HWB BQ
            try rw [← hq]
            replace BQ := Lib.hid (show Below q28 u10 vq from BQ.out)
            clear hq
            have LHOR := Lib.hid (lt_of_heap H28.out)
            refine (retractedOf_any a n c L W' H x back aq m cq V _ hn100 HP.out HZ.out hcn hm100 HV.out (bkE_ok HBK.out).1).mono ?_
            rintro e u11 ⟨a2, k2, c2, rfl, hk2, ho2, hb⟩
            replace BW := bwn BW hb
            replace HP := kB HP hb
            replace HV := kI HV hb
            replace HT := kI HT hb
            replace H19 := kH hb H19
            replace H28 := kH hb H28
            replace BQ := Lib.hid (BQ.out.trans (hb.mono (show q28 ≤ _ by have h1 := BQ.out.size; have h2 := HQE.out; omega)))
            subst hk2
            have HOR := Lib.hid ho2
            clear ho2
            clear hb
            go_wp2_with (fail)
            have LHOT := Lib.hid (lt_of_heap H28.out)
            refine (slowedOf_any _ r11 3 (tF z2 z5 z8) z15 _ hr100 HT.out HTZ.out).mono ?_
            rintro e u12 ⟨a4, c4, rfl, ho4, hb⟩
            replace BW := bwn BW hb
            replace HP := kB HP hb
            replace HV := kI HV hb
            replace HT := kI HT hb
            replace H19 := kH hb H19
            replace H28 := kH hb H28
            replace BQ := Lib.hid (BQ.out.trans (hb.mono (show q28 ≤ _ by have h1 := BQ.out.size; have h2 := HQE.out; omega)))
            replace HOR := Lib.hid (ownsRow_below HOR.out hb)
            have HOT := Lib.hid ho4
            clear ho4
            clear hb
            go_wp2_with (fail)
            refine (weightOf_any a n c L W' H d _ hn100 HP.out HWZ.out).mono ?_
            rintro e u13 ⟨rfl, hb⟩
            replace BW := bwn BW hb
            replace HP := kB HP hb
            replace HV := kI HV hb
            replace HT := kI HT hb
            replace H19 := kH hb H19
            replace H28 := kH hb H28
            replace BQ := Lib.hid (BQ.out.trans (hb.mono (show q28 ≤ _ by have h1 := BQ.out.size; have h2 := HQE.out; omega)))
            replace HOR := Lib.hid (ownsRow_below HOR.out hb)
            replace HOT := Lib.hid (ownsRow_below HOT.out hb)
            clear hb
            obtain ⟨y, hy⟩ : ∃ y, wdN n L W' H d = y := ⟨_, rfl⟩
            obtain ⟨z, hz⟩ : ∃ z, wdD n L W' H d = z := ⟨_, rfl⟩
            rw [hy, hz] at H19
            rw [hy, hz]
            clear hy hz
            have d0' := cell_of H28.out (i := 0) rfl
            have d1' := cell_of H28.out (i := 1) rfl
            have f0' := frozen_of H28.out (i := 0)
            have f1' := frozen_of H28.out (i := 1)
            have hne1 : ¬ q19 = q28 := Nat.ne_of_lt L19.out
            have hne2 : ¬ q28 = q19 := fun h => hne1 h.symm
            have g0' := cell_of H19.out (i := 0) rfl
            have g1' := cell_of H19.out (i := 1) rfl
            have hs := set2V_1 (u := .int .i64 z) (set2V_0 (u := .int .i64 y) H28.out)
            replace BW := Lib.hid ((Below.setCell (p := ⟨q28, 0, none⟩) BW.out HWB.out (.int .i64 y)).setCell (p := ⟨q28, 1, none⟩) HWB.out (.int .i64 z))
            replace BQ := Lib.hid ((Below.setCell (p := ⟨q28, 0, none⟩) BQ.out (Nat.le_refl _) (.int .i64 y)).setCell (p := ⟨q28, 1, none⟩) (Nat.le_refl _) (.int .i64 z))
            replace HOR := Lib.hid (own_mutB (own_mutB HOR.out (b := q28) 0 (.int .i64 y) (fun e => by have := (HOR.out.lt q28 e).1; have h2 := LHOR.out; omega)) (b := q28) 1 (.int .i64 z) (fun e => by have := (HOR.out.lt q28 e).1; have h2 := LHOR.out; omega))
            replace HOT := Lib.hid (own_mutB (own_mutB HOT.out (b := q28) 0 (.int .i64 y) (fun e => by have := (HOT.out.lt q28 e).1; have h2 := LHOT.out; omega)) (b := q28) 1 (.int .i64 z) (fun e => by have := (HOT.out.lt q28 e).1; have h2 := LHOT.out; omega))
            replace H28 := Lib.hid hs
            replace H19 := Lib.hid ((Below.heap_setCell (u13.setCell ⟨q28, 0, none⟩ (.int .i64 y)) ⟨q28, 1, none⟩ (.int .i64 z) q19 hne1).trans ((Below.heap_setCell u13 ⟨q28, 0, none⟩ (.int .i64 y) q19 hne1).trans H19.out))
            clear hs HP HV HT
            go_wp2_with (fail)
            clear d0' d1' f0' f1'
            generalize hvw : ((u13.setCell ⟨q28, 0, none⟩ (.int .i64 y)).setCell ⟨q28, 1, none⟩ (.int .i64 z)) = vz at *
            clear hvw g0' g1' hne1 hne2
            replace HAR := Lib.hid (HAR.out.kept (w' := vz) (HQE.out ▸ BQ.out))
            replace HAX := Lib.hid (HAX.out.kept (w' := vz) (HQE.out ▸ BQ.out))
            replace HAT := Lib.hid (HAT.out.kept (w' := vz) (HQE.out ▸ BQ.out))
            have HIR := Lib.hid (ints_of_IV HOR.out)
            have HIT := Lib.hid (ints_of_own HOT.out)
            refine (equalV_any ar a2 (rtL back V m (amtF L W' H x) n).length cr c2 (fun i => (rtL back V m (amtF L W' H x) n).getD i 0) (fun i => (rtL back V m (amtF L W' H x) n).getD i 0) _ (by first | omega | (have h := rtL_len back V m (amtF L W' H x) n; omega)) HAR.out HIR.out (fun _ _ => rfl)).mono ?_
            rintro e u14 ⟨rfl, hb⟩
            replace BW := bwn BW hb
            replace H19 := kH hb H19
            replace H28 := kH hb H28
            replace HAX := kI HAX hb
            replace HAT := kI HAT hb
            replace HIT := kI HIT hb
            clear hb
            go_wp2_with (fail)
            refine (equalV_any ax none 0 cx 0 X (fun _ => 0) _ (by omega) HAX.out ints_nil (fun i h => absurd h (Nat.not_lt_zero i))).mono ?_
            rintro e u15 ⟨rfl, hb⟩
            replace BW := bwn BW hb
            replace H19 := kH hb H19
            replace H28 := kH hb H28
            replace HAT := kI HAT hb
            replace HIT := kI HIT hb
            clear hb
            go_wp2_with (fail)
            refine (equalV_any at_ a4 r11 ct c4 (slF (tF z2 z5 z8) z15) (slF (tF z2 z5 z8) z15) _ (by first | omega | (have h := rtL_len back V m (amtF L W' H x) n; omega)) HAT.out HIT.out (fun _ _ => rfl)).mono ?_
            rintro e u16 ⟨rfl, hb⟩
            replace BW := bwn BW hb
            replace H19 := kH hb H19
            replace H28 := kH hb H28
            clear hb
            have g0' := cell_of H19.out (i := 0) rfl
            have g1' := cell_of H19.out (i := 1) rfl
            have g2' := cell_of H28.out (i := 0) rfl
            have g3' := cell_of H28.out (i := 1) rfl
            go_wp2_with (fail)
            clear g0' g1' g2' g3'
            refine (flowed_any _).mono ?_
            rintro e u17 ⟨rfl, hb⟩
            replace BW := bwn BW hb
            clear hb
            go_wp2_with (fail)
            go_ret
            exact ⟨rfl, BW.out⟩
          · have hy := (show wrN n L W' H d = 0 from if_neg hz)
            have hz2 := (show wrD n L W' H d = 0 from if_neg hz)
            rw [hy, hz2] at H19
            try rw [hy, hz2]
            have f1 : (wtE n L W' H d == 0) = false := by simpa using hz
            have f2 : (wtE n L W' H d == wtE n L W' H d) = true := by simp
            clear hy hz2 hz
            go_wp2_with (fail)
            refine (backFault_any a n c back aq m cq V _ hm100 hn5 HV.out).mono ?_
            rintro e u10 ⟨rfl, hb⟩
            replace BW := bwn BW hb
            replace HP := kB HP hb
            replace HV := kI HV hb
            replace HT := kI HT hb
            replace HAR := kI HAR hb
            replace HAX := kI HAX hb
            replace HAT := kI HAT hb
            replace H19 := kH hb H19
            rw [HBK.out]
            clear hb
            go_wp2_with (fail)
            have H28 := Lib.hid (heap_alloc_new u10 (.cells #[.int .i64 0, .int .i64 0] 36))
            have L19 := Lib.hid (lt_of_heap H19.out)
            have HWB := Lib.hid BW.out.size
            have hb := (Below.refl _ u10).alloc (Nat.le_refl _) (.cells #[.int .i64 0, .int .i64 0] 36)
            replace BW := bwn BW hb
            replace HP := kB HP hb
            replace HV := kI HV hb
            replace HT := kI HT hb
            replace H19 := kH hb H19
            have BQ := Lib.hid hb
            have HQE := Lib.hid (rfl : u10.heap.size = u10.heap.size)
            clear hb
            generalize hvv : (u10.alloc (.cells #[.int .i64 0, .int .i64 0] 36)) = vq at *
            clear hvv
            obtain ⟨q28, hq⟩ : ∃ q, q = u10.heap.size := ⟨_, rfl⟩
            replace HQE := Lib.hid hq
            rw [← hq] at H28 L19 HWB BQ
            try rw [← hq]
            replace BQ := Lib.hid (show Below q28 u10 vq from BQ.out)
            clear hq
            have LHOR := Lib.hid (lt_of_heap H28.out)
            refine (retractedOf_any a n c L W' H x back aq m cq V _ hn100 HP.out HZ.out hcn hm100 HV.out (bkE_ok HBK.out).1).mono ?_
            rintro e u11 ⟨a2, k2, c2, rfl, hk2, ho2, hb⟩
            replace BW := bwn BW hb
            replace HP := kB HP hb
            replace HV := kI HV hb
            replace HT := kI HT hb
            replace H19 := kH hb H19
            replace H28 := kH hb H28
            replace BQ := Lib.hid (BQ.out.trans (hb.mono (show q28 ≤ _ by have h1 := BQ.out.size; have h2 := HQE.out; omega)))
            subst hk2
            have HOR := Lib.hid ho2
            clear ho2
            clear hb
            go_wp2_with (fail)
            have LHOT := Lib.hid (lt_of_heap H28.out)
            refine (slowedOf_any _ r11 3 (tF z2 z5 z8) z15 _ hr100 HT.out HTZ.out).mono ?_
            rintro e u12 ⟨a4, c4, rfl, ho4, hb⟩
            replace BW := bwn BW hb
            replace HP := kB HP hb
            replace HV := kI HV hb
            replace HT := kI HT hb
            replace H19 := kH hb H19
            replace H28 := kH hb H28
            replace BQ := Lib.hid (BQ.out.trans (hb.mono (show q28 ≤ _ by have h1 := BQ.out.size; have h2 := HQE.out; omega)))
            replace HOR := Lib.hid (ownsRow_below HOR.out hb)
            have HOT := Lib.hid ho4
            clear ho4
            clear hb
            go_wp2_with (fail)
            replace HAR := Lib.hid (HAR.out.kept (w' := u12) (HQE.out ▸ BQ.out))
            replace HAX := Lib.hid (HAX.out.kept (w' := u12) (HQE.out ▸ BQ.out))
            replace HAT := Lib.hid (HAT.out.kept (w' := u12) (HQE.out ▸ BQ.out))
            have HIR := Lib.hid (ints_of_IV HOR.out)
            have HIT := Lib.hid (ints_of_own HOT.out)
            refine (equalV_any ar a2 (rtL back V m (amtF L W' H x) n).length cr c2 (fun i => (rtL back V m (amtF L W' H x) n).getD i 0) (fun i => (rtL back V m (amtF L W' H x) n).getD i 0) _ (by first | omega | (have h := rtL_len back V m (amtF L W' H x) n; omega)) HAR.out HIR.out (fun _ _ => rfl)).mono ?_
            rintro e u13 ⟨rfl, hb⟩
            replace BW := bwn BW hb
            replace H19 := kH hb H19
            replace H28 := kH hb H28
            replace HAX := kI HAX hb
            replace HAT := kI HAT hb
            replace HIT := kI HIT hb
            clear hb
            go_wp2_with (fail)
            refine (equalV_any ax none 0 cx 0 X (fun _ => 0) _ (by omega) HAX.out ints_nil (fun i h => absurd h (Nat.not_lt_zero i))).mono ?_
            rintro e u14 ⟨rfl, hb⟩
            replace BW := bwn BW hb
            replace H19 := kH hb H19
            replace H28 := kH hb H28
            replace HAT := kI HAT hb
            replace HIT := kI HIT hb
            clear hb
            go_wp2_with (fail)
            refine (equalV_any at_ a4 r11 ct c4 (slF (tF z2 z5 z8) z15) (slF (tF z2 z5 z8) z15) _ (by first | omega | (have h := rtL_len back V m (amtF L W' H x) n; omega)) HAT.out HIT.out (fun _ _ => rfl)).mono ?_
            rintro e u15 ⟨rfl, hb⟩
            replace BW := bwn BW hb
            replace H19 := kH hb H19
            replace H28 := kH hb H28
            clear hb
            have g0' := cell_of H19.out (i := 0) rfl
            have g1' := cell_of H19.out (i := 1) rfl
            have g2' := cell_of H28.out (i := 0) rfl
            have g3' := cell_of H28.out (i := 1) rfl
            go_wp2_with (fail)
            clear g0' g1' g2' g3'
            refine (flowed_any _).mono ?_
            rintro e u16 ⟨rfl, hb⟩
            replace BW := bwn BW hb
            clear hb
            go_wp2_with (fail)
            go_ret
            exact ⟨rfl, BW.out⟩
        · obtain ⟨rfl, rfl⟩ := HT2.out hz
          have e1 : (tmE r11 (tF z2 z5 z8) z15 == 0) = false := by simpa using hz
          have e2 : (tmE r11 (tF z2 z5 z8) z15 == tmE r11 (tF z2 z5 z8) z15) = true := by simp
          clear HT1 HT2 hz
          by_cases hz : wtE n L W' H d = 0
          · rw [hz]
            have HWZ := Lib.hid hz
            have hy := (show wrN n L W' H d = wdN n L W' H d from if_pos hz)
            have hz2 := (show wrD n L W' H d = wdD n L W' H d from if_pos hz)
            rw [hy, hz2] at H19
            try rw [hy, hz2]
            clear hy hz2 hz
            go_wp2_with (fail)
            refine (backFault_any a n c back aq m cq V _ hm100 hn5 HV.out).mono ?_
            rintro e u10 ⟨rfl, hb⟩
            replace BW := bwn BW hb
            replace HP := kB HP hb
            replace HV := kI HV hb
            replace HT := kI HT hb
            replace HAR := kI HAR hb
            replace HAX := kI HAX hb
            replace HAT := kI HAT hb
            replace H19 := kH hb H19
            rw [HBK.out]
            clear hb
            go_wp2_with (fail)
            have H28 := Lib.hid (heap_alloc_new u10 (.cells #[.int .i64 0, .int .i64 0] 36))
            have L19 := Lib.hid (lt_of_heap H19.out)
            have HWB := Lib.hid BW.out.size
            have hb := (Below.refl _ u10).alloc (Nat.le_refl _) (.cells #[.int .i64 0, .int .i64 0] 36)
            replace BW := bwn BW hb
            replace HP := kB HP hb
            replace HV := kI HV hb
            replace HT := kI HT hb
            replace H19 := kH hb H19
            have BQ := Lib.hid hb
            have HQE := Lib.hid (rfl : u10.heap.size = u10.heap.size)
            clear hb
            generalize hvv : (u10.alloc (.cells #[.int .i64 0, .int .i64 0] 36)) = vq at *
            clear hvv
            obtain ⟨q28, hq⟩ : ∃ q, q = u10.heap.size := ⟨_, rfl⟩
            replace HQE := Lib.hid hq
            rw [← hq] at H28 L19 HWB BQ
            try rw [← hq]
            replace BQ := Lib.hid (show Below q28 u10 vq from BQ.out)
            clear hq
            have LHOR := Lib.hid (lt_of_heap H28.out)
            refine (retractedOf_any a n c L W' H x back aq m cq V _ hn100 HP.out HZ.out hcn hm100 HV.out (bkE_ok HBK.out).1).mono ?_
            rintro e u11 ⟨a2, k2, c2, rfl, hk2, ho2, hb⟩
            replace BW := bwn BW hb
            replace HP := kB HP hb
            replace HV := kI HV hb
            replace HT := kI HT hb
            replace H19 := kH hb H19
            replace H28 := kH hb H28
            replace BQ := Lib.hid (BQ.out.trans (hb.mono (show q28 ≤ _ by have h1 := BQ.out.size; have h2 := HQE.out; omega)))
            subst hk2
            have HOR := Lib.hid ho2
            clear ho2
            clear hb
            go_wp2_with (fail)
            refine (weightOf_any a n c L W' H d _ hn100 HP.out HWZ.out).mono ?_
            rintro e u12 ⟨rfl, hb⟩
            replace BW := bwn BW hb
            replace HP := kB HP hb
            replace HV := kI HV hb
            replace HT := kI HT hb
            replace H19 := kH hb H19
            replace H28 := kH hb H28
            replace BQ := Lib.hid (BQ.out.trans (hb.mono (show q28 ≤ _ by have h1 := BQ.out.size; have h2 := HQE.out; omega)))
            replace HOR := Lib.hid (ownsRow_below HOR.out hb)
            clear hb
            obtain ⟨y, hy⟩ : ∃ y, wdN n L W' H d = y := ⟨_, rfl⟩
            obtain ⟨z, hz⟩ : ∃ z, wdD n L W' H d = z := ⟨_, rfl⟩
            rw [hy, hz] at H19
            rw [hy, hz]
            clear hy hz
            have d0' := cell_of H28.out (i := 0) rfl
            have d1' := cell_of H28.out (i := 1) rfl
            have f0' := frozen_of H28.out (i := 0)
            have f1' := frozen_of H28.out (i := 1)
            have hne1 : ¬ q19 = q28 := Nat.ne_of_lt L19.out
            have hne2 : ¬ q28 = q19 := fun h => hne1 h.symm
            have g0' := cell_of H19.out (i := 0) rfl
            have g1' := cell_of H19.out (i := 1) rfl
            have hs := set2V_1 (u := .int .i64 z) (set2V_0 (u := .int .i64 y) H28.out)
            replace BW := Lib.hid ((Below.setCell (p := ⟨q28, 0, none⟩) BW.out HWB.out (.int .i64 y)).setCell (p := ⟨q28, 1, none⟩) HWB.out (.int .i64 z))
            replace BQ := Lib.hid ((Below.setCell (p := ⟨q28, 0, none⟩) BQ.out (Nat.le_refl _) (.int .i64 y)).setCell (p := ⟨q28, 1, none⟩) (Nat.le_refl _) (.int .i64 z))
            replace HOR := Lib.hid (own_mutB (own_mutB HOR.out (b := q28) 0 (.int .i64 y) (fun e => by have := (HOR.out.lt q28 e).1; have h2 := LHOR.out; omega)) (b := q28) 1 (.int .i64 z) (fun e => by have := (HOR.out.lt q28 e).1; have h2 := LHOR.out; omega))
            replace H28 := Lib.hid hs
            replace H19 := Lib.hid ((Below.heap_setCell (u12.setCell ⟨q28, 0, none⟩ (.int .i64 y)) ⟨q28, 1, none⟩ (.int .i64 z) q19 hne1).trans ((Below.heap_setCell u12 ⟨q28, 0, none⟩ (.int .i64 y) q19 hne1).trans H19.out))
            clear hs HP HV HT
            go_wp2_with (fail)
            clear d0' d1' f0' f1'
            generalize hvw : ((u12.setCell ⟨q28, 0, none⟩ (.int .i64 y)).setCell ⟨q28, 1, none⟩ (.int .i64 z)) = vz at *
            clear hvw g0' g1' hne1 hne2
            replace HAR := Lib.hid (HAR.out.kept (w' := vz) (HQE.out ▸ BQ.out))
            replace HAX := Lib.hid (HAX.out.kept (w' := vz) (HQE.out ▸ BQ.out))
            replace HAT := Lib.hid (HAT.out.kept (w' := vz) (HQE.out ▸ BQ.out))
            have HIR := Lib.hid (ints_of_IV HOR.out)
            refine (equalV_any ar a2 (rtL back V m (amtF L W' H x) n).length cr c2 (fun i => (rtL back V m (amtF L W' H x) n).getD i 0) (fun i => (rtL back V m (amtF L W' H x) n).getD i 0) _ (by first | omega | (have h := rtL_len back V m (amtF L W' H x) n; omega)) HAR.out HIR.out (fun _ _ => rfl)).mono ?_
            rintro e u13 ⟨rfl, hb⟩
            replace BW := bwn BW hb
            replace H19 := kH hb H19
            replace H28 := kH hb H28
            replace HAX := kI HAX hb
            replace HAT := kI HAT hb
            clear hb
            go_wp2_with (fail)
            refine (equalV_any ax none 0 cx 0 X (fun _ => 0) _ (by omega) HAX.out ints_nil (fun i h => absurd h (Nat.not_lt_zero i))).mono ?_
            rintro e u14 ⟨rfl, hb⟩
            replace BW := bwn BW hb
            replace H19 := kH hb H19
            replace H28 := kH hb H28
            replace HAT := kI HAT hb
            clear hb
            go_wp2_with (fail)
            refine (equalV_any at_ none 0 ct 0 Z (fun _ => 0) _ (by omega) HAT.out ints_nil (fun i h => absurd h (Nat.not_lt_zero i))).mono ?_
            rintro e u15 ⟨rfl, hb⟩
            replace BW := bwn BW hb
            replace H19 := kH hb H19
            replace H28 := kH hb H28
            clear hb
            have g0' := cell_of H19.out (i := 0) rfl
            have g1' := cell_of H19.out (i := 1) rfl
            have g2' := cell_of H28.out (i := 0) rfl
            have g3' := cell_of H28.out (i := 1) rfl
            go_wp2_with (fail)
            clear g0' g1' g2' g3'
            refine (flowed_any _).mono ?_
            rintro e u16 ⟨rfl, hb⟩
            replace BW := bwn BW hb
            clear hb
            go_wp2_with (fail)
            go_ret
            exact ⟨rfl, BW.out⟩
          · have hy := (show wrN n L W' H d = 0 from if_neg hz)
            have hz2 := (show wrD n L W' H d = 0 from if_neg hz)
            rw [hy, hz2] at H19
            try rw [hy, hz2]
            have f1 : (wtE n L W' H d == 0) = false := by simpa using hz
            have f2 : (wtE n L W' H d == wtE n L W' H d) = true := by simp
            clear hy hz2 hz
            go_wp2_with (fail)
            refine (backFault_any a n c back aq m cq V _ hm100 hn5 HV.out).mono ?_
            rintro e u10 ⟨rfl, hb⟩
            replace BW := bwn BW hb
            replace HP := kB HP hb
            replace HV := kI HV hb
            replace HT := kI HT hb
            replace HAR := kI HAR hb
            replace HAX := kI HAX hb
            replace HAT := kI HAT hb
            replace H19 := kH hb H19
            rw [HBK.out]
            clear hb
            go_wp2_with (fail)
            have H28 := Lib.hid (heap_alloc_new u10 (.cells #[.int .i64 0, .int .i64 0] 36))
            have L19 := Lib.hid (lt_of_heap H19.out)
            have HWB := Lib.hid BW.out.size
            have hb := (Below.refl _ u10).alloc (Nat.le_refl _) (.cells #[.int .i64 0, .int .i64 0] 36)
            replace BW := bwn BW hb
            replace HP := kB HP hb
            replace HV := kI HV hb
            replace HT := kI HT hb
            replace H19 := kH hb H19
            have BQ := Lib.hid hb
            have HQE := Lib.hid (rfl : u10.heap.size = u10.heap.size)
            clear hb
            generalize hvv : (u10.alloc (.cells #[.int .i64 0, .int .i64 0] 36)) = vq at *
            clear hvv
            obtain ⟨q28, hq⟩ : ∃ q, q = u10.heap.size := ⟨_, rfl⟩
            replace HQE := Lib.hid hq
            rw [← hq] at H28 L19 HWB BQ
            try rw [← hq]
            replace BQ := Lib.hid (show Below q28 u10 vq from BQ.out)
            clear hq
            have LHOR := Lib.hid (lt_of_heap H28.out)
            refine (retractedOf_any a n c L W' H x back aq m cq V _ hn100 HP.out HZ.out hcn hm100 HV.out (bkE_ok HBK.out).1).mono ?_
            rintro e u11 ⟨a2, k2, c2, rfl, hk2, ho2, hb⟩
            replace BW := bwn BW hb
            replace HP := kB HP hb
            replace HV := kI HV hb
            replace HT := kI HT hb
            replace H19 := kH hb H19
            replace H28 := kH hb H28
            replace BQ := Lib.hid (BQ.out.trans (hb.mono (show q28 ≤ _ by have h1 := BQ.out.size; have h2 := HQE.out; omega)))
            subst hk2
            have HOR := Lib.hid ho2
            clear ho2
            clear hb
            go_wp2_with (fail)
            replace HAR := Lib.hid (HAR.out.kept (w' := u11) (HQE.out ▸ BQ.out))
            replace HAX := Lib.hid (HAX.out.kept (w' := u11) (HQE.out ▸ BQ.out))
            replace HAT := Lib.hid (HAT.out.kept (w' := u11) (HQE.out ▸ BQ.out))
            have HIR := Lib.hid (ints_of_IV HOR.out)
            refine (equalV_any ar a2 (rtL back V m (amtF L W' H x) n).length cr c2 (fun i => (rtL back V m (amtF L W' H x) n).getD i 0) (fun i => (rtL back V m (amtF L W' H x) n).getD i 0) _ (by first | omega | (have h := rtL_len back V m (amtF L W' H x) n; omega)) HAR.out HIR.out (fun _ _ => rfl)).mono ?_
            rintro e u12 ⟨rfl, hb⟩
            replace BW := bwn BW hb
            replace H19 := kH hb H19
            replace H28 := kH hb H28
            replace HAX := kI HAX hb
            replace HAT := kI HAT hb
            clear hb
            go_wp2_with (fail)
            refine (equalV_any ax none 0 cx 0 X (fun _ => 0) _ (by omega) HAX.out ints_nil (fun i h => absurd h (Nat.not_lt_zero i))).mono ?_
            rintro e u13 ⟨rfl, hb⟩
            replace BW := bwn BW hb
            replace H19 := kH hb H19
            replace H28 := kH hb H28
            replace HAT := kI HAT hb
            clear hb
            go_wp2_with (fail)
            refine (equalV_any at_ none 0 ct 0 Z (fun _ => 0) _ (by omega) HAT.out ints_nil (fun i h => absurd h (Nat.not_lt_zero i))).mono ?_
            rintro e u14 ⟨rfl, hb⟩
            replace BW := bwn BW hb
            replace H19 := kH hb H19
            replace H28 := kH hb H28
            clear hb
            have g0' := cell_of H19.out (i := 0) rfl
            have g1' := cell_of H19.out (i := 1) rfl
            have g2' := cell_of H28.out (i := 0) rfl
            have g3' := cell_of H28.out (i := 1) rfl
            go_wp2_with (fail)
            clear g0' g1' g2' g3'
            refine (flowed_any _).mono ?_
            rintro e u15 ⟨rfl, hb⟩
            replace BW := bwn BW hb
            clear hb
            go_wp2_with (fail)
            go_ret
            exact ⟨rfl, BW.out⟩
    · rw [hrt, hz]
      obtain rfl := HR2.out (by rw [hrt]; exact hbk)
      have b1 : (bkE back V n m == 0) = false := by simpa using hbk
      have b2 : (bkE back V n m == bkE back V n m) = true := by simp
      clear HR1 HR2 hz hbk hrt
      by_cases hz : fsE n L W' H f = 0
      · rw [hz]
        have HFZ := Lib.hid (fsE_ok hz)
        obtain ⟨hk, hR⟩ := HX1.out hz
        replace hk := hk.symm
        subst hk
        subst hR
        clear HX1 HX2 hz
        by_cases hz : tmE r11 (tF z2 z5 z8) z15 = 0
        · rw [hz]
          have HTZ := Lib.hid hz
          obtain ⟨⟨hk, hR⟩, hG⟩ := HT1.out hz
          replace hk := hk.symm
          subst hk
          subst hR
          rw [hG]
          clear HT1 HT2 hz hG
          by_cases hz : wtE n L W' H d = 0
          · rw [hz]
            have HWZ := Lib.hid hz
            have hy := (show wrN n L W' H d = wdN n L W' H d from if_pos hz)
            have hz2 := (show wrD n L W' H d = wdD n L W' H d from if_pos hz)
            rw [hy, hz2] at H19
            try rw [hy, hz2]
            clear hy hz2 hz
            go_wp2_with (fail)
            refine (backFault_any a n c back aq m cq V _ hm100 hn5 HV.out).mono ?_
            rintro e u10 ⟨rfl, hb⟩
            replace BW := bwn BW hb
            replace HP := kB HP hb
            replace HV := kI HV hb
            replace HT := kI HT hb
            replace HAR := kI HAR hb
            replace HAX := kI HAX hb
            replace HAT := kI HAT hb
            replace H19 := kH hb H19
            clear hb
            go_wp2_with (fail)
            have H28 := Lib.hid (heap_alloc_new u10 (.cells #[.int .i64 0, .int .i64 0] 36))
            have L19 := Lib.hid (lt_of_heap H19.out)
            have HWB := Lib.hid BW.out.size
            have hb := (Below.refl _ u10).alloc (Nat.le_refl _) (.cells #[.int .i64 0, .int .i64 0] 36)
            replace BW := bwn BW hb
            replace HP := kB HP hb
            replace HV := kI HV hb
            replace HT := kI HT hb
            replace H19 := kH hb H19
            have BQ := Lib.hid hb
            have HQE := Lib.hid (rfl : u10.heap.size = u10.heap.size)
            clear hb
            generalize hvv : (u10.alloc (.cells #[.int .i64 0, .int .i64 0] 36)) = vq at *
            clear hvv
            obtain ⟨q28, hq⟩ : ∃ q, q = u10.heap.size := ⟨_, rfl⟩
            replace HQE := Lib.hid hq
            rw [← hq] at H28 L19 HWB BQ
            try rw [← hq]
            replace BQ := Lib.hid (show Below q28 u10 vq from BQ.out)
            clear hq
            have LHOX := Lib.hid (lt_of_heap H28.out)
            refine (fastestOf_any a n c L W' H f _ hn100 HP.out (bdE_ok HFZ.out.1).2 HFZ.out.2).mono ?_
            rintro e u11 ⟨a3, c3, rfl, ho3, hb⟩
            replace BW := bwn BW hb
            replace HP := kB HP hb
            replace HV := kI HV hb
            replace HT := kI HT hb
            replace H19 := kH hb H19
            replace H28 := kH hb H28
            replace BQ := Lib.hid (BQ.out.trans (hb.mono (show q28 ≤ _ by have h1 := BQ.out.size; have h2 := HQE.out; omega)))
            have HOX := Lib.hid ho3
            clear ho3
            clear hb
            go_wp2_with (fail)
            have LHOT := Lib.hid (lt_of_heap H28.out)
            refine (slowedOf_any _ r11 3 (tF z2 z5 z8) z15 _ hr100 HT.out HTZ.out).mono ?_
            rintro e u12 ⟨a4, c4, rfl, ho4, hb⟩
            replace BW := bwn BW hb
            replace HP := kB HP hb
            replace HV := kI HV hb
            replace HT := kI HT hb
            replace H19 := kH hb H19
            replace H28 := kH hb H28
            replace BQ := Lib.hid (BQ.out.trans (hb.mono (show q28 ≤ _ by have h1 := BQ.out.size; have h2 := HQE.out; omega)))
            replace HOX := Lib.hid (ownsRow_below HOX.out hb)
            have HOT := Lib.hid ho4
            clear ho4
            clear hb
            go_wp2_with (fail)
            refine (weightOf_any a n c L W' H d _ hn100 HP.out HWZ.out).mono ?_
            rintro e u13 ⟨rfl, hb⟩
            replace BW := bwn BW hb
            replace HP := kB HP hb
            replace HV := kI HV hb
            replace HT := kI HT hb
            replace H19 := kH hb H19
            replace H28 := kH hb H28
            replace BQ := Lib.hid (BQ.out.trans (hb.mono (show q28 ≤ _ by have h1 := BQ.out.size; have h2 := HQE.out; omega)))
            replace HOX := Lib.hid (ownsRow_below HOX.out hb)
            replace HOT := Lib.hid (ownsRow_below HOT.out hb)
            clear hb
            obtain ⟨y, hy⟩ : ∃ y, wdN n L W' H d = y := ⟨_, rfl⟩
            obtain ⟨z, hz⟩ : ∃ z, wdD n L W' H d = z := ⟨_, rfl⟩
            rw [hy, hz] at H19
            rw [hy, hz]
            clear hy hz
            have d0' := cell_of H28.out (i := 0) rfl
            have d1' := cell_of H28.out (i := 1) rfl
            have f0' := frozen_of H28.out (i := 0)
            have f1' := frozen_of H28.out (i := 1)
            have hne1 : ¬ q19 = q28 := Nat.ne_of_lt L19.out
            have hne2 : ¬ q28 = q19 := fun h => hne1 h.symm
            have g0' := cell_of H19.out (i := 0) rfl
            have g1' := cell_of H19.out (i := 1) rfl
            have hs := set2V_1 (u := .int .i64 z) (set2V_0 (u := .int .i64 y) H28.out)
            replace BW := Lib.hid ((Below.setCell (p := ⟨q28, 0, none⟩) BW.out HWB.out (.int .i64 y)).setCell (p := ⟨q28, 1, none⟩) HWB.out (.int .i64 z))
            replace BQ := Lib.hid ((Below.setCell (p := ⟨q28, 0, none⟩) BQ.out (Nat.le_refl _) (.int .i64 y)).setCell (p := ⟨q28, 1, none⟩) (Nat.le_refl _) (.int .i64 z))
            replace HOX := Lib.hid (own_mutB (own_mutB HOX.out (b := q28) 0 (.int .i64 y) (fun e => by have := (HOX.out.lt q28 e).1; have h2 := LHOX.out; omega)) (b := q28) 1 (.int .i64 z) (fun e => by have := (HOX.out.lt q28 e).1; have h2 := LHOX.out; omega))
            replace HOT := Lib.hid (own_mutB (own_mutB HOT.out (b := q28) 0 (.int .i64 y) (fun e => by have := (HOT.out.lt q28 e).1; have h2 := LHOT.out; omega)) (b := q28) 1 (.int .i64 z) (fun e => by have := (HOT.out.lt q28 e).1; have h2 := LHOT.out; omega))
            replace H28 := Lib.hid hs
            replace H19 := Lib.hid ((Below.heap_setCell (u13.setCell ⟨q28, 0, none⟩ (.int .i64 y)) ⟨q28, 1, none⟩ (.int .i64 z) q19 hne1).trans ((Below.heap_setCell u13 ⟨q28, 0, none⟩ (.int .i64 y) q19 hne1).trans H19.out))
            clear hs HP HV HT
            go_wp2_with (fail)
            clear d0' d1' f0' f1'
            generalize hvw : ((u13.setCell ⟨q28, 0, none⟩ (.int .i64 y)).setCell ⟨q28, 1, none⟩ (.int .i64 z)) = vz at *
            clear hvw g0' g1' hne1 hne2
            replace HAR := Lib.hid (HAR.out.kept (w' := vz) (HQE.out ▸ BQ.out))
            replace HAX := Lib.hid (HAX.out.kept (w' := vz) (HQE.out ▸ BQ.out))
            replace HAT := Lib.hid (HAT.out.kept (w' := vz) (HQE.out ▸ BQ.out))
            have HIX := Lib.hid (ints_of_own HOX.out)
            have HIT := Lib.hid (ints_of_own HOT.out)
            refine (equalV_any ar none 0 cr 0 R (fun _ => 0) _ (by omega) HAR.out ints_nil (fun i h => absurd h (Nat.not_lt_zero i))).mono ?_
            rintro e u14 ⟨rfl, hb⟩
            replace BW := bwn BW hb
            replace H19 := kH hb H19
            replace H28 := kH hb H28
            replace HAX := kI HAX hb
            replace HIX := kI HIX hb
            replace HAT := kI HAT hb
            replace HIT := kI HIT hb
            clear hb
            go_wp2_with (fail)
            refine (equalV_any ax a3 n cx c3 (fsF W' H f) (fsF W' H f) _ (by first | omega | (have h := rtL_len back V m (amtF L W' H x) n; omega)) HAX.out HIX.out (fun _ _ => rfl)).mono ?_
            rintro e u15 ⟨rfl, hb⟩
            replace BW := bwn BW hb
            replace H19 := kH hb H19
            replace H28 := kH hb H28
            replace HAT := kI HAT hb
            replace HIT := kI HIT hb
            clear hb
            go_wp2_with (fail)
            refine (equalV_any at_ a4 r11 ct c4 (slF (tF z2 z5 z8) z15) (slF (tF z2 z5 z8) z15) _ (by first | omega | (have h := rtL_len back V m (amtF L W' H x) n; omega)) HAT.out HIT.out (fun _ _ => rfl)).mono ?_
            rintro e u16 ⟨rfl, hb⟩
            replace BW := bwn BW hb
            replace H19 := kH hb H19
            replace H28 := kH hb H28
            clear hb
            have g0' := cell_of H19.out (i := 0) rfl
            have g1' := cell_of H19.out (i := 1) rfl
            have g2' := cell_of H28.out (i := 0) rfl
            have g3' := cell_of H28.out (i := 1) rfl
            go_wp2_with (fail)
            clear g0' g1' g2' g3'
            refine (flowed_any _).mono ?_
            rintro e u17 ⟨rfl, hb⟩
            replace BW := bwn BW hb
            clear hb
            go_wp2_with (fail)
            go_ret
            exact ⟨rfl, BW.out⟩
          · have hy := (show wrN n L W' H d = 0 from if_neg hz)
            have hz2 := (show wrD n L W' H d = 0 from if_neg hz)
            rw [hy, hz2] at H19
            try rw [hy, hz2]
            have f1 : (wtE n L W' H d == 0) = false := by simpa using hz
            have f2 : (wtE n L W' H d == wtE n L W' H d) = true := by simp
            clear hy hz2 hz
            go_wp2_with (fail)
            refine (backFault_any a n c back aq m cq V _ hm100 hn5 HV.out).mono ?_
            rintro e u10 ⟨rfl, hb⟩
            replace BW := bwn BW hb
            replace HP := kB HP hb
            replace HV := kI HV hb
            replace HT := kI HT hb
            replace HAR := kI HAR hb
            replace HAX := kI HAX hb
            replace HAT := kI HAT hb
            replace H19 := kH hb H19
            clear hb
            go_wp2_with (fail)
            have H28 := Lib.hid (heap_alloc_new u10 (.cells #[.int .i64 0, .int .i64 0] 36))
            have L19 := Lib.hid (lt_of_heap H19.out)
            have HWB := Lib.hid BW.out.size
            have hb := (Below.refl _ u10).alloc (Nat.le_refl _) (.cells #[.int .i64 0, .int .i64 0] 36)
            replace BW := bwn BW hb
            replace HP := kB HP hb
            replace HV := kI HV hb
            replace HT := kI HT hb
            replace H19 := kH hb H19
            have BQ := Lib.hid hb
            have HQE := Lib.hid (rfl : u10.heap.size = u10.heap.size)
            clear hb
            generalize hvv : (u10.alloc (.cells #[.int .i64 0, .int .i64 0] 36)) = vq at *
            clear hvv
            obtain ⟨q28, hq⟩ : ∃ q, q = u10.heap.size := ⟨_, rfl⟩
            replace HQE := Lib.hid hq
            rw [← hq] at H28 L19 HWB BQ
            try rw [← hq]
            replace BQ := Lib.hid (show Below q28 u10 vq from BQ.out)
            clear hq
            have LHOX := Lib.hid (lt_of_heap H28.out)
            refine (fastestOf_any a n c L W' H f _ hn100 HP.out (bdE_ok HFZ.out.1).2 HFZ.out.2).mono ?_
            rintro e u11 ⟨a3, c3, rfl, ho3, hb⟩
            replace BW := bwn BW hb
            replace HP := kB HP hb
            replace HV := kI HV hb
            replace HT := kI HT hb
            replace H19 := kH hb H19
            replace H28 := kH hb H28
            replace BQ := Lib.hid (BQ.out.trans (hb.mono (show q28 ≤ _ by have h1 := BQ.out.size; have h2 := HQE.out; omega)))
            have HOX := Lib.hid ho3
            clear ho3
            clear hb
            go_wp2_with (fail)
            have LHOT := Lib.hid (lt_of_heap H28.out)
            refine (slowedOf_any _ r11 3 (tF z2 z5 z8) z15 _ hr100 HT.out HTZ.out).mono ?_
            rintro e u12 ⟨a4, c4, rfl, ho4, hb⟩
            replace BW := bwn BW hb
            replace HP := kB HP hb
            replace HV := kI HV hb
            replace HT := kI HT hb
            replace H19 := kH hb H19
            replace H28 := kH hb H28
            replace BQ := Lib.hid (BQ.out.trans (hb.mono (show q28 ≤ _ by have h1 := BQ.out.size; have h2 := HQE.out; omega)))
            replace HOX := Lib.hid (ownsRow_below HOX.out hb)
            have HOT := Lib.hid ho4
            clear ho4
            clear hb
            go_wp2_with (fail)
            replace HAR := Lib.hid (HAR.out.kept (w' := u12) (HQE.out ▸ BQ.out))
            replace HAX := Lib.hid (HAX.out.kept (w' := u12) (HQE.out ▸ BQ.out))
            replace HAT := Lib.hid (HAT.out.kept (w' := u12) (HQE.out ▸ BQ.out))
            have HIX := Lib.hid (ints_of_own HOX.out)
            have HIT := Lib.hid (ints_of_own HOT.out)
            refine (equalV_any ar none 0 cr 0 R (fun _ => 0) _ (by omega) HAR.out ints_nil (fun i h => absurd h (Nat.not_lt_zero i))).mono ?_
            rintro e u13 ⟨rfl, hb⟩
            replace BW := bwn BW hb
            replace H19 := kH hb H19
            replace H28 := kH hb H28
            replace HAX := kI HAX hb
            replace HIX := kI HIX hb
            replace HAT := kI HAT hb
            replace HIT := kI HIT hb
            clear hb
            go_wp2_with (fail)
            refine (equalV_any ax a3 n cx c3 (fsF W' H f) (fsF W' H f) _ (by first | omega | (have h := rtL_len back V m (amtF L W' H x) n; omega)) HAX.out HIX.out (fun _ _ => rfl)).mono ?_
            rintro e u14 ⟨rfl, hb⟩
            replace BW := bwn BW hb
            replace H19 := kH hb H19
            replace H28 := kH hb H28
            replace HAT := kI HAT hb
            replace HIT := kI HIT hb
            clear hb
            go_wp2_with (fail)
            refine (equalV_any at_ a4 r11 ct c4 (slF (tF z2 z5 z8) z15) (slF (tF z2 z5 z8) z15) _ (by first | omega | (have h := rtL_len back V m (amtF L W' H x) n; omega)) HAT.out HIT.out (fun _ _ => rfl)).mono ?_
            rintro e u15 ⟨rfl, hb⟩
            replace BW := bwn BW hb
            replace H19 := kH hb H19
            replace H28 := kH hb H28
            clear hb
            have g0' := cell_of H19.out (i := 0) rfl
            have g1' := cell_of H19.out (i := 1) rfl
            have g2' := cell_of H28.out (i := 0) rfl
            have g3' := cell_of H28.out (i := 1) rfl
            go_wp2_with (fail)
            clear g0' g1' g2' g3'
            refine (flowed_any _).mono ?_
            rintro e u16 ⟨rfl, hb⟩
            replace BW := bwn BW hb
            clear hb
            go_wp2_with (fail)
            go_ret
            exact ⟨rfl, BW.out⟩
        · obtain ⟨rfl, rfl⟩ := HT2.out hz
          have e1 : (tmE r11 (tF z2 z5 z8) z15 == 0) = false := by simpa using hz
          have e2 : (tmE r11 (tF z2 z5 z8) z15 == tmE r11 (tF z2 z5 z8) z15) = true := by simp
          clear HT1 HT2 hz
          by_cases hz : wtE n L W' H d = 0
          · rw [hz]
            have HWZ := Lib.hid hz
            have hy := (show wrN n L W' H d = wdN n L W' H d from if_pos hz)
            have hz2 := (show wrD n L W' H d = wdD n L W' H d from if_pos hz)
            rw [hy, hz2] at H19
            try rw [hy, hz2]
            clear hy hz2 hz
            go_wp2_with (fail)
            refine (backFault_any a n c back aq m cq V _ hm100 hn5 HV.out).mono ?_
            rintro e u10 ⟨rfl, hb⟩
            replace BW := bwn BW hb
            replace HP := kB HP hb
            replace HV := kI HV hb
            replace HT := kI HT hb
            replace HAR := kI HAR hb
            replace HAX := kI HAX hb
            replace HAT := kI HAT hb
            replace H19 := kH hb H19
            clear hb
            go_wp2_with (fail)
            have H28 := Lib.hid (heap_alloc_new u10 (.cells #[.int .i64 0, .int .i64 0] 36))
            have L19 := Lib.hid (lt_of_heap H19.out)
            have HWB := Lib.hid BW.out.size
            have hb := (Below.refl _ u10).alloc (Nat.le_refl _) (.cells #[.int .i64 0, .int .i64 0] 36)
            replace BW := bwn BW hb
            replace HP := kB HP hb
            replace HV := kI HV hb
            replace HT := kI HT hb
            replace H19 := kH hb H19
            have BQ := Lib.hid hb
            have HQE := Lib.hid (rfl : u10.heap.size = u10.heap.size)
            clear hb
            generalize hvv : (u10.alloc (.cells #[.int .i64 0, .int .i64 0] 36)) = vq at *
            clear hvv
            obtain ⟨q28, hq⟩ : ∃ q, q = u10.heap.size := ⟨_, rfl⟩
            replace HQE := Lib.hid hq
            rw [← hq] at H28 L19 HWB BQ
            try rw [← hq]
            replace BQ := Lib.hid (show Below q28 u10 vq from BQ.out)
            clear hq
            have LHOX := Lib.hid (lt_of_heap H28.out)
            refine (fastestOf_any a n c L W' H f _ hn100 HP.out (bdE_ok HFZ.out.1).2 HFZ.out.2).mono ?_
            rintro e u11 ⟨a3, c3, rfl, ho3, hb⟩
            replace BW := bwn BW hb
            replace HP := kB HP hb
            replace HV := kI HV hb
            replace HT := kI HT hb
            replace H19 := kH hb H19
            replace H28 := kH hb H28
            replace BQ := Lib.hid (BQ.out.trans (hb.mono (show q28 ≤ _ by have h1 := BQ.out.size; have h2 := HQE.out; omega)))
            have HOX := Lib.hid ho3
            clear ho3
            clear hb
            go_wp2_with (fail)
            refine (weightOf_any a n c L W' H d _ hn100 HP.out HWZ.out).mono ?_
            rintro e u12 ⟨rfl, hb⟩
            replace BW := bwn BW hb
            replace HP := kB HP hb
            replace HV := kI HV hb
            replace HT := kI HT hb
            replace H19 := kH hb H19
            replace H28 := kH hb H28
            replace BQ := Lib.hid (BQ.out.trans (hb.mono (show q28 ≤ _ by have h1 := BQ.out.size; have h2 := HQE.out; omega)))
            replace HOX := Lib.hid (ownsRow_below HOX.out hb)
            clear hb
            obtain ⟨y, hy⟩ : ∃ y, wdN n L W' H d = y := ⟨_, rfl⟩
            obtain ⟨z, hz⟩ : ∃ z, wdD n L W' H d = z := ⟨_, rfl⟩
            rw [hy, hz] at H19
            rw [hy, hz]
            clear hy hz
            have d0' := cell_of H28.out (i := 0) rfl
            have d1' := cell_of H28.out (i := 1) rfl
            have f0' := frozen_of H28.out (i := 0)
            have f1' := frozen_of H28.out (i := 1)
            have hne1 : ¬ q19 = q28 := Nat.ne_of_lt L19.out
            have hne2 : ¬ q28 = q19 := fun h => hne1 h.symm
            have g0' := cell_of H19.out (i := 0) rfl
            have g1' := cell_of H19.out (i := 1) rfl
            have hs := set2V_1 (u := .int .i64 z) (set2V_0 (u := .int .i64 y) H28.out)
            replace BW := Lib.hid ((Below.setCell (p := ⟨q28, 0, none⟩) BW.out HWB.out (.int .i64 y)).setCell (p := ⟨q28, 1, none⟩) HWB.out (.int .i64 z))
            replace BQ := Lib.hid ((Below.setCell (p := ⟨q28, 0, none⟩) BQ.out (Nat.le_refl _) (.int .i64 y)).setCell (p := ⟨q28, 1, none⟩) (Nat.le_refl _) (.int .i64 z))
            replace HOX := Lib.hid (own_mutB (own_mutB HOX.out (b := q28) 0 (.int .i64 y) (fun e => by have := (HOX.out.lt q28 e).1; have h2 := LHOX.out; omega)) (b := q28) 1 (.int .i64 z) (fun e => by have := (HOX.out.lt q28 e).1; have h2 := LHOX.out; omega))
            replace H28 := Lib.hid hs
            replace H19 := Lib.hid ((Below.heap_setCell (u12.setCell ⟨q28, 0, none⟩ (.int .i64 y)) ⟨q28, 1, none⟩ (.int .i64 z) q19 hne1).trans ((Below.heap_setCell u12 ⟨q28, 0, none⟩ (.int .i64 y) q19 hne1).trans H19.out))
            clear hs HP HV HT
            go_wp2_with (fail)
            clear d0' d1' f0' f1'
            generalize hvw : ((u12.setCell ⟨q28, 0, none⟩ (.int .i64 y)).setCell ⟨q28, 1, none⟩ (.int .i64 z)) = vz at *
            clear hvw g0' g1' hne1 hne2
            replace HAR := Lib.hid (HAR.out.kept (w' := vz) (HQE.out ▸ BQ.out))
            replace HAX := Lib.hid (HAX.out.kept (w' := vz) (HQE.out ▸ BQ.out))
            replace HAT := Lib.hid (HAT.out.kept (w' := vz) (HQE.out ▸ BQ.out))
            have HIX := Lib.hid (ints_of_own HOX.out)
            refine (equalV_any ar none 0 cr 0 R (fun _ => 0) _ (by omega) HAR.out ints_nil (fun i h => absurd h (Nat.not_lt_zero i))).mono ?_
            rintro e u13 ⟨rfl, hb⟩
            replace BW := bwn BW hb
            replace H19 := kH hb H19
            replace H28 := kH hb H28
            replace HAX := kI HAX hb
            replace HIX := kI HIX hb
            replace HAT := kI HAT hb
            clear hb
            go_wp2_with (fail)
            refine (equalV_any ax a3 n cx c3 (fsF W' H f) (fsF W' H f) _ (by first | omega | (have h := rtL_len back V m (amtF L W' H x) n; omega)) HAX.out HIX.out (fun _ _ => rfl)).mono ?_
            rintro e u14 ⟨rfl, hb⟩
            replace BW := bwn BW hb
            replace H19 := kH hb H19
            replace H28 := kH hb H28
            replace HAT := kI HAT hb
            clear hb
            go_wp2_with (fail)
            refine (equalV_any at_ none 0 ct 0 Z (fun _ => 0) _ (by omega) HAT.out ints_nil (fun i h => absurd h (Nat.not_lt_zero i))).mono ?_
            rintro e u15 ⟨rfl, hb⟩
            replace BW := bwn BW hb
            replace H19 := kH hb H19
            replace H28 := kH hb H28
            clear hb
            have g0' := cell_of H19.out (i := 0) rfl
            have g1' := cell_of H19.out (i := 1) rfl
            have g2' := cell_of H28.out (i := 0) rfl
            have g3' := cell_of H28.out (i := 1) rfl
            go_wp2_with (fail)
            clear g0' g1' g2' g3'
            refine (flowed_any _).mono ?_
            rintro e u16 ⟨rfl, hb⟩
            replace BW := bwn BW hb
            clear hb
            go_wp2_with (fail)
            go_ret
            exact ⟨rfl, BW.out⟩
          · have hy := (show wrN n L W' H d = 0 from if_neg hz)
            have hz2 := (show wrD n L W' H d = 0 from if_neg hz)
            rw [hy, hz2] at H19
            try rw [hy, hz2]
            have f1 : (wtE n L W' H d == 0) = false := by simpa using hz
            have f2 : (wtE n L W' H d == wtE n L W' H d) = true := by simp
            clear hy hz2 hz
            go_wp2_with (fail)
            refine (backFault_any a n c back aq m cq V _ hm100 hn5 HV.out).mono ?_
            rintro e u10 ⟨rfl, hb⟩
            replace BW := bwn BW hb
            replace HP := kB HP hb
            replace HV := kI HV hb
            replace HT := kI HT hb
            replace HAR := kI HAR hb
            replace HAX := kI HAX hb
            replace HAT := kI HAT hb
            replace H19 := kH hb H19
            clear hb
            go_wp2_with (fail)
            have H28 := Lib.hid (heap_alloc_new u10 (.cells #[.int .i64 0, .int .i64 0] 36))
            have L19 := Lib.hid (lt_of_heap H19.out)
            have HWB := Lib.hid BW.out.size
            have hb := (Below.refl _ u10).alloc (Nat.le_refl _) (.cells #[.int .i64 0, .int .i64 0] 36)
            replace BW := bwn BW hb
            replace HP := kB HP hb
            replace HV := kI HV hb
            replace HT := kI HT hb
            replace H19 := kH hb H19
            have BQ := Lib.hid hb
            have HQE := Lib.hid (rfl : u10.heap.size = u10.heap.size)
            clear hb
            generalize hvv : (u10.alloc (.cells #[.int .i64 0, .int .i64 0] 36)) = vq at *
            clear hvv
            obtain ⟨q28, hq⟩ : ∃ q, q = u10.heap.size := ⟨_, rfl⟩
            replace HQE := Lib.hid hq
            rw [← hq] at H28 L19 HWB BQ
            try rw [← hq]
            replace BQ := Lib.hid (show Below q28 u10 vq from BQ.out)
            clear hq
            have LHOX := Lib.hid (lt_of_heap H28.out)
            refine (fastestOf_any a n c L W' H f _ hn100 HP.out (bdE_ok HFZ.out.1).2 HFZ.out.2).mono ?_
            rintro e u11 ⟨a3, c3, rfl, ho3, hb⟩
            replace BW := bwn BW hb
            replace HP := kB HP hb
            replace HV := kI HV hb
            replace HT := kI HT hb
            replace H19 := kH hb H19
            replace H28 := kH hb H28
            replace BQ := Lib.hid (BQ.out.trans (hb.mono (show q28 ≤ _ by have h1 := BQ.out.size; have h2 := HQE.out; omega)))
            have HOX := Lib.hid ho3
            clear ho3
            clear hb
            go_wp2_with (fail)
            replace HAR := Lib.hid (HAR.out.kept (w' := u11) (HQE.out ▸ BQ.out))
            replace HAX := Lib.hid (HAX.out.kept (w' := u11) (HQE.out ▸ BQ.out))
            replace HAT := Lib.hid (HAT.out.kept (w' := u11) (HQE.out ▸ BQ.out))
            have HIX := Lib.hid (ints_of_own HOX.out)
            refine (equalV_any ar none 0 cr 0 R (fun _ => 0) _ (by omega) HAR.out ints_nil (fun i h => absurd h (Nat.not_lt_zero i))).mono ?_
            rintro e u12 ⟨rfl, hb⟩
            replace BW := bwn BW hb
            replace H19 := kH hb H19
            replace H28 := kH hb H28
            replace HAX := kI HAX hb
            replace HIX := kI HIX hb
            replace HAT := kI HAT hb
            clear hb
            go_wp2_with (fail)
            refine (equalV_any ax a3 n cx c3 (fsF W' H f) (fsF W' H f) _ (by first | omega | (have h := rtL_len back V m (amtF L W' H x) n; omega)) HAX.out HIX.out (fun _ _ => rfl)).mono ?_
            rintro e u13 ⟨rfl, hb⟩
            replace BW := bwn BW hb
            replace H19 := kH hb H19
            replace H28 := kH hb H28
            replace HAT := kI HAT hb
            clear hb
            go_wp2_with (fail)
            refine (equalV_any at_ none 0 ct 0 Z (fun _ => 0) _ (by omega) HAT.out ints_nil (fun i h => absurd h (Nat.not_lt_zero i))).mono ?_
            rintro e u14 ⟨rfl, hb⟩
            replace BW := bwn BW hb
            replace H19 := kH hb H19
            replace H28 := kH hb H28
            clear hb
            have g0' := cell_of H19.out (i := 0) rfl
            have g1' := cell_of H19.out (i := 1) rfl
            have g2' := cell_of H28.out (i := 0) rfl
            have g3' := cell_of H28.out (i := 1) rfl
            go_wp2_with (fail)
            clear g0' g1' g2' g3'
            refine (flowed_any _).mono ?_
            rintro e u15 ⟨rfl, hb⟩
            replace BW := bwn BW hb
            clear hb
            go_wp2_with (fail)
            go_ret
            exact ⟨rfl, BW.out⟩
      · obtain rfl := HX2.out hz
        have d1 : (fsE n L W' H f == 0) = false := by simpa using hz
        have d2 : (fsE n L W' H f == fsE n L W' H f) = true := by simp
        clear HX1 HX2 hz
        by_cases hz : tmE r11 (tF z2 z5 z8) z15 = 0
        · rw [hz]
          have HTZ := Lib.hid hz
          obtain ⟨⟨hk, hR⟩, hG⟩ := HT1.out hz
          replace hk := hk.symm
          subst hk
          subst hR
          rw [hG]
          clear HT1 HT2 hz hG
          by_cases hz : wtE n L W' H d = 0
          · rw [hz]
            have HWZ := Lib.hid hz
            have hy := (show wrN n L W' H d = wdN n L W' H d from if_pos hz)
            have hz2 := (show wrD n L W' H d = wdD n L W' H d from if_pos hz)
            rw [hy, hz2] at H19
            try rw [hy, hz2]
            clear hy hz2 hz
            go_wp2_with (fail)
            refine (backFault_any a n c back aq m cq V _ hm100 hn5 HV.out).mono ?_
            rintro e u10 ⟨rfl, hb⟩
            replace BW := bwn BW hb
            replace HP := kB HP hb
            replace HV := kI HV hb
            replace HT := kI HT hb
            replace HAR := kI HAR hb
            replace HAX := kI HAX hb
            replace HAT := kI HAT hb
            replace H19 := kH hb H19
            clear hb
            go_wp2_with (fail)
            have H28 := Lib.hid (heap_alloc_new u10 (.cells #[.int .i64 0, .int .i64 0] 36))
            have L19 := Lib.hid (lt_of_heap H19.out)
            have HWB := Lib.hid BW.out.size
            have hb := (Below.refl _ u10).alloc (Nat.le_refl _) (.cells #[.int .i64 0, .int .i64 0] 36)
            replace BW := bwn BW hb
            replace HP := kB HP hb
            replace HV := kI HV hb
            replace HT := kI HT hb
            replace H19 := kH hb H19
            have BQ := Lib.hid hb
            have HQE := Lib.hid (rfl : u10.heap.size = u10.heap.size)
            clear hb
            generalize hvv : (u10.alloc (.cells #[.int .i64 0, .int .i64 0] 36)) = vq at *
            clear hvv
            obtain ⟨q28, hq⟩ : ∃ q, q = u10.heap.size := ⟨_, rfl⟩
            replace HQE := Lib.hid hq
            rw [← hq] at H28 L19 HWB BQ
            try rw [← hq]
            replace BQ := Lib.hid (show Below q28 u10 vq from BQ.out)
            clear hq
            have LHOT := Lib.hid (lt_of_heap H28.out)
            refine (slowedOf_any _ r11 3 (tF z2 z5 z8) z15 _ hr100 HT.out HTZ.out).mono ?_
            rintro e u11 ⟨a4, c4, rfl, ho4, hb⟩
            replace BW := bwn BW hb
            replace HP := kB HP hb
            replace HV := kI HV hb
            replace HT := kI HT hb
            replace H19 := kH hb H19
            replace H28 := kH hb H28
            replace BQ := Lib.hid (BQ.out.trans (hb.mono (show q28 ≤ _ by have h1 := BQ.out.size; have h2 := HQE.out; omega)))
            have HOT := Lib.hid ho4
            clear ho4
            clear hb
            go_wp2_with (fail)
            refine (weightOf_any a n c L W' H d _ hn100 HP.out HWZ.out).mono ?_
            rintro e u12 ⟨rfl, hb⟩
            replace BW := bwn BW hb
            replace HP := kB HP hb
            replace HV := kI HV hb
            replace HT := kI HT hb
            replace H19 := kH hb H19
            replace H28 := kH hb H28
            replace BQ := Lib.hid (BQ.out.trans (hb.mono (show q28 ≤ _ by have h1 := BQ.out.size; have h2 := HQE.out; omega)))
            replace HOT := Lib.hid (ownsRow_below HOT.out hb)
            clear hb
            obtain ⟨y, hy⟩ : ∃ y, wdN n L W' H d = y := ⟨_, rfl⟩
            obtain ⟨z, hz⟩ : ∃ z, wdD n L W' H d = z := ⟨_, rfl⟩
            rw [hy, hz] at H19
            rw [hy, hz]
            clear hy hz
            have d0' := cell_of H28.out (i := 0) rfl
            have d1' := cell_of H28.out (i := 1) rfl
            have f0' := frozen_of H28.out (i := 0)
            have f1' := frozen_of H28.out (i := 1)
            have hne1 : ¬ q19 = q28 := Nat.ne_of_lt L19.out
            have hne2 : ¬ q28 = q19 := fun h => hne1 h.symm
            have g0' := cell_of H19.out (i := 0) rfl
            have g1' := cell_of H19.out (i := 1) rfl
            have hs := set2V_1 (u := .int .i64 z) (set2V_0 (u := .int .i64 y) H28.out)
            replace BW := Lib.hid ((Below.setCell (p := ⟨q28, 0, none⟩) BW.out HWB.out (.int .i64 y)).setCell (p := ⟨q28, 1, none⟩) HWB.out (.int .i64 z))
            replace BQ := Lib.hid ((Below.setCell (p := ⟨q28, 0, none⟩) BQ.out (Nat.le_refl _) (.int .i64 y)).setCell (p := ⟨q28, 1, none⟩) (Nat.le_refl _) (.int .i64 z))
            replace HOT := Lib.hid (own_mutB (own_mutB HOT.out (b := q28) 0 (.int .i64 y) (fun e => by have := (HOT.out.lt q28 e).1; have h2 := LHOT.out; omega)) (b := q28) 1 (.int .i64 z) (fun e => by have := (HOT.out.lt q28 e).1; have h2 := LHOT.out; omega))
            replace H28 := Lib.hid hs
            replace H19 := Lib.hid ((Below.heap_setCell (u12.setCell ⟨q28, 0, none⟩ (.int .i64 y)) ⟨q28, 1, none⟩ (.int .i64 z) q19 hne1).trans ((Below.heap_setCell u12 ⟨q28, 0, none⟩ (.int .i64 y) q19 hne1).trans H19.out))
            clear hs HP HV HT
            go_wp2_with (fail)
            clear d0' d1' f0' f1'
            generalize hvw : ((u12.setCell ⟨q28, 0, none⟩ (.int .i64 y)).setCell ⟨q28, 1, none⟩ (.int .i64 z)) = vz at *
            clear hvw g0' g1' hne1 hne2
            replace HAR := Lib.hid (HAR.out.kept (w' := vz) (HQE.out ▸ BQ.out))
            replace HAX := Lib.hid (HAX.out.kept (w' := vz) (HQE.out ▸ BQ.out))
            replace HAT := Lib.hid (HAT.out.kept (w' := vz) (HQE.out ▸ BQ.out))
            have HIT := Lib.hid (ints_of_own HOT.out)
            refine (equalV_any ar none 0 cr 0 R (fun _ => 0) _ (by omega) HAR.out ints_nil (fun i h => absurd h (Nat.not_lt_zero i))).mono ?_
            rintro e u13 ⟨rfl, hb⟩
            replace BW := bwn BW hb
            replace H19 := kH hb H19
            replace H28 := kH hb H28
            replace HAX := kI HAX hb
            replace HAT := kI HAT hb
            replace HIT := kI HIT hb
            clear hb
            go_wp2_with (fail)
            refine (equalV_any ax none 0 cx 0 X (fun _ => 0) _ (by omega) HAX.out ints_nil (fun i h => absurd h (Nat.not_lt_zero i))).mono ?_
            rintro e u14 ⟨rfl, hb⟩
            replace BW := bwn BW hb
            replace H19 := kH hb H19
            replace H28 := kH hb H28
            replace HAT := kI HAT hb
            replace HIT := kI HIT hb
            clear hb
            go_wp2_with (fail)
            refine (equalV_any at_ a4 r11 ct c4 (slF (tF z2 z5 z8) z15) (slF (tF z2 z5 z8) z15) _ (by first | omega | (have h := rtL_len back V m (amtF L W' H x) n; omega)) HAT.out HIT.out (fun _ _ => rfl)).mono ?_
            rintro e u15 ⟨rfl, hb⟩
            replace BW := bwn BW hb
            replace H19 := kH hb H19
            replace H28 := kH hb H28
            clear hb
            have g0' := cell_of H19.out (i := 0) rfl
            have g1' := cell_of H19.out (i := 1) rfl
            have g2' := cell_of H28.out (i := 0) rfl
            have g3' := cell_of H28.out (i := 1) rfl
            go_wp2_with (fail)
            clear g0' g1' g2' g3'
            refine (flowed_any _).mono ?_
            rintro e u16 ⟨rfl, hb⟩
            replace BW := bwn BW hb
            clear hb
            go_wp2_with (fail)
            go_ret
            exact ⟨rfl, BW.out⟩
          · have hy := (show wrN n L W' H d = 0 from if_neg hz)
            have hz2 := (show wrD n L W' H d = 0 from if_neg hz)
            rw [hy, hz2] at H19
            try rw [hy, hz2]
            have f1 : (wtE n L W' H d == 0) = false := by simpa using hz
            have f2 : (wtE n L W' H d == wtE n L W' H d) = true := by simp
            clear hy hz2 hz
            go_wp2_with (fail)
            refine (backFault_any a n c back aq m cq V _ hm100 hn5 HV.out).mono ?_
            rintro e u10 ⟨rfl, hb⟩
            replace BW := bwn BW hb
            replace HP := kB HP hb
            replace HV := kI HV hb
            replace HT := kI HT hb
            replace HAR := kI HAR hb
            replace HAX := kI HAX hb
            replace HAT := kI HAT hb
            replace H19 := kH hb H19
            clear hb
            go_wp2_with (fail)
            have H28 := Lib.hid (heap_alloc_new u10 (.cells #[.int .i64 0, .int .i64 0] 36))
            have L19 := Lib.hid (lt_of_heap H19.out)
            have HWB := Lib.hid BW.out.size
            have hb := (Below.refl _ u10).alloc (Nat.le_refl _) (.cells #[.int .i64 0, .int .i64 0] 36)
            replace BW := bwn BW hb
            replace HP := kB HP hb
            replace HV := kI HV hb
            replace HT := kI HT hb
            replace H19 := kH hb H19
            have BQ := Lib.hid hb
            have HQE := Lib.hid (rfl : u10.heap.size = u10.heap.size)
            clear hb
            generalize hvv : (u10.alloc (.cells #[.int .i64 0, .int .i64 0] 36)) = vq at *
            clear hvv
            obtain ⟨q28, hq⟩ : ∃ q, q = u10.heap.size := ⟨_, rfl⟩
            replace HQE := Lib.hid hq
            rw [← hq] at H28 L19 HWB BQ
            try rw [← hq]
            replace BQ := Lib.hid (show Below q28 u10 vq from BQ.out)
            clear hq
            have LHOT := Lib.hid (lt_of_heap H28.out)
            refine (slowedOf_any _ r11 3 (tF z2 z5 z8) z15 _ hr100 HT.out HTZ.out).mono ?_
            rintro e u11 ⟨a4, c4, rfl, ho4, hb⟩
            replace BW := bwn BW hb
            replace HP := kB HP hb
            replace HV := kI HV hb
            replace HT := kI HT hb
            replace H19 := kH hb H19
            replace H28 := kH hb H28
            replace BQ := Lib.hid (BQ.out.trans (hb.mono (show q28 ≤ _ by have h1 := BQ.out.size; have h2 := HQE.out; omega)))
            have HOT := Lib.hid ho4
            clear ho4
            clear hb
            go_wp2_with (fail)
            replace HAR := Lib.hid (HAR.out.kept (w' := u11) (HQE.out ▸ BQ.out))
            replace HAX := Lib.hid (HAX.out.kept (w' := u11) (HQE.out ▸ BQ.out))
            replace HAT := Lib.hid (HAT.out.kept (w' := u11) (HQE.out ▸ BQ.out))
            have HIT := Lib.hid (ints_of_own HOT.out)
            refine (equalV_any ar none 0 cr 0 R (fun _ => 0) _ (by omega) HAR.out ints_nil (fun i h => absurd h (Nat.not_lt_zero i))).mono ?_
            rintro e u12 ⟨rfl, hb⟩
            replace BW := bwn BW hb
            replace H19 := kH hb H19
            replace H28 := kH hb H28
            replace HAX := kI HAX hb
            replace HAT := kI HAT hb
            replace HIT := kI HIT hb
            clear hb
            go_wp2_with (fail)
            refine (equalV_any ax none 0 cx 0 X (fun _ => 0) _ (by omega) HAX.out ints_nil (fun i h => absurd h (Nat.not_lt_zero i))).mono ?_
            rintro e u13 ⟨rfl, hb⟩
            replace BW := bwn BW hb
            replace H19 := kH hb H19
            replace H28 := kH hb H28
            replace HAT := kI HAT hb
            replace HIT := kI HIT hb
            clear hb
            go_wp2_with (fail)
            refine (equalV_any at_ a4 r11 ct c4 (slF (tF z2 z5 z8) z15) (slF (tF z2 z5 z8) z15) _ (by first | omega | (have h := rtL_len back V m (amtF L W' H x) n; omega)) HAT.out HIT.out (fun _ _ => rfl)).mono ?_
            rintro e u14 ⟨rfl, hb⟩
            replace BW := bwn BW hb
            replace H19 := kH hb H19
            replace H28 := kH hb H28
            clear hb
            have g0' := cell_of H19.out (i := 0) rfl
            have g1' := cell_of H19.out (i := 1) rfl
            have g2' := cell_of H28.out (i := 0) rfl
            have g3' := cell_of H28.out (i := 1) rfl
            go_wp2_with (fail)
            clear g0' g1' g2' g3'
            refine (flowed_any _).mono ?_
            rintro e u15 ⟨rfl, hb⟩
            replace BW := bwn BW hb
            clear hb
            go_wp2_with (fail)
            go_ret
            exact ⟨rfl, BW.out⟩
        · obtain ⟨rfl, rfl⟩ := HT2.out hz
          have e1 : (tmE r11 (tF z2 z5 z8) z15 == 0) = false := by simpa using hz
          have e2 : (tmE r11 (tF z2 z5 z8) z15 == tmE r11 (tF z2 z5 z8) z15) = true := by simp
          clear HT1 HT2 hz
          by_cases hz : wtE n L W' H d = 0
          · rw [hz]
            have HWZ := Lib.hid hz
            have hy := (show wrN n L W' H d = wdN n L W' H d from if_pos hz)
            have hz2 := (show wrD n L W' H d = wdD n L W' H d from if_pos hz)
            rw [hy, hz2] at H19
            try rw [hy, hz2]
            clear hy hz2 hz
            go_wp2_with (fail)
            refine (backFault_any a n c back aq m cq V _ hm100 hn5 HV.out).mono ?_
            rintro e u10 ⟨rfl, hb⟩
            replace BW := bwn BW hb
            replace HP := kB HP hb
            replace HV := kI HV hb
            replace HT := kI HT hb
            replace HAR := kI HAR hb
            replace HAX := kI HAX hb
            replace HAT := kI HAT hb
            replace H19 := kH hb H19
            clear hb
            go_wp2_with (fail)
            have H28 := Lib.hid (heap_alloc_new u10 (.cells #[.int .i64 0, .int .i64 0] 36))
            have L19 := Lib.hid (lt_of_heap H19.out)
            have HWB := Lib.hid BW.out.size
            have hb := (Below.refl _ u10).alloc (Nat.le_refl _) (.cells #[.int .i64 0, .int .i64 0] 36)
            replace BW := bwn BW hb
            replace HP := kB HP hb
            replace HV := kI HV hb
            replace HT := kI HT hb
            replace H19 := kH hb H19
            have BQ := Lib.hid hb
            have HQE := Lib.hid (rfl : u10.heap.size = u10.heap.size)
            clear hb
            generalize hvv : (u10.alloc (.cells #[.int .i64 0, .int .i64 0] 36)) = vq at *
            clear hvv
            obtain ⟨q28, hq⟩ : ∃ q, q = u10.heap.size := ⟨_, rfl⟩
            replace HQE := Lib.hid hq
            rw [← hq] at H28 L19 HWB BQ
            try rw [← hq]
            replace BQ := Lib.hid (show Below q28 u10 vq from BQ.out)
            clear hq
            refine (weightOf_any a n c L W' H d _ hn100 HP.out HWZ.out).mono ?_
            rintro e u11 ⟨rfl, hb⟩
            replace BW := bwn BW hb
            replace HP := kB HP hb
            replace HV := kI HV hb
            replace HT := kI HT hb
            replace H19 := kH hb H19
            replace H28 := kH hb H28
            replace BQ := Lib.hid (BQ.out.trans (hb.mono (show q28 ≤ _ by have h1 := BQ.out.size; have h2 := HQE.out; omega)))
            clear hb
            obtain ⟨y, hy⟩ : ∃ y, wdN n L W' H d = y := ⟨_, rfl⟩
            obtain ⟨z, hz⟩ : ∃ z, wdD n L W' H d = z := ⟨_, rfl⟩
            rw [hy, hz] at H19
            rw [hy, hz]
            clear hy hz
            have d0' := cell_of H28.out (i := 0) rfl
            have d1' := cell_of H28.out (i := 1) rfl
            have f0' := frozen_of H28.out (i := 0)
            have f1' := frozen_of H28.out (i := 1)
            have hne1 : ¬ q19 = q28 := Nat.ne_of_lt L19.out
            have hne2 : ¬ q28 = q19 := fun h => hne1 h.symm
            have g0' := cell_of H19.out (i := 0) rfl
            have g1' := cell_of H19.out (i := 1) rfl
            have hs := set2V_1 (u := .int .i64 z) (set2V_0 (u := .int .i64 y) H28.out)
            replace BW := Lib.hid ((Below.setCell (p := ⟨q28, 0, none⟩) BW.out HWB.out (.int .i64 y)).setCell (p := ⟨q28, 1, none⟩) HWB.out (.int .i64 z))
            replace BQ := Lib.hid ((Below.setCell (p := ⟨q28, 0, none⟩) BQ.out (Nat.le_refl _) (.int .i64 y)).setCell (p := ⟨q28, 1, none⟩) (Nat.le_refl _) (.int .i64 z))
            replace H28 := Lib.hid hs
            replace H19 := Lib.hid ((Below.heap_setCell (u11.setCell ⟨q28, 0, none⟩ (.int .i64 y)) ⟨q28, 1, none⟩ (.int .i64 z) q19 hne1).trans ((Below.heap_setCell u11 ⟨q28, 0, none⟩ (.int .i64 y) q19 hne1).trans H19.out))
            clear hs HP HV HT
            go_wp2_with (fail)
            clear d0' d1' f0' f1'
            generalize hvw : ((u11.setCell ⟨q28, 0, none⟩ (.int .i64 y)).setCell ⟨q28, 1, none⟩ (.int .i64 z)) = vz at *
            clear hvw g0' g1' hne1 hne2
            replace HAR := Lib.hid (HAR.out.kept (w' := vz) (HQE.out ▸ BQ.out))
            replace HAX := Lib.hid (HAX.out.kept (w' := vz) (HQE.out ▸ BQ.out))
            replace HAT := Lib.hid (HAT.out.kept (w' := vz) (HQE.out ▸ BQ.out))
            refine (equalV_any ar none 0 cr 0 R (fun _ => 0) _ (by omega) HAR.out ints_nil (fun i h => absurd h (Nat.not_lt_zero i))).mono ?_
            rintro e u12 ⟨rfl, hb⟩
            replace BW := bwn BW hb
            replace H19 := kH hb H19
            replace H28 := kH hb H28
            replace HAX := kI HAX hb
            replace HAT := kI HAT hb
            clear hb
            go_wp2_with (fail)
            refine (equalV_any ax none 0 cx 0 X (fun _ => 0) _ (by omega) HAX.out ints_nil (fun i h => absurd h (Nat.not_lt_zero i))).mono ?_
            rintro e u13 ⟨rfl, hb⟩
            replace BW := bwn BW hb
            replace H19 := kH hb H19
            replace H28 := kH hb H28
            replace HAT := kI HAT hb
            clear hb
            go_wp2_with (fail)
            refine (equalV_any at_ none 0 ct 0 Z (fun _ => 0) _ (by omega) HAT.out ints_nil (fun i h => absurd h (Nat.not_lt_zero i))).mono ?_
            rintro e u14 ⟨rfl, hb⟩
            replace BW := bwn BW hb
            replace H19 := kH hb H19
            replace H28 := kH hb H28
            clear hb
            have g0' := cell_of H19.out (i := 0) rfl
            have g1' := cell_of H19.out (i := 1) rfl
            have g2' := cell_of H28.out (i := 0) rfl
            have g3' := cell_of H28.out (i := 1) rfl
            go_wp2_with (fail)
            clear g0' g1' g2' g3'
            refine (flowed_any _).mono ?_
            rintro e u15 ⟨rfl, hb⟩
            replace BW := bwn BW hb
            clear hb
            go_wp2_with (fail)
            go_ret
            exact ⟨rfl, BW.out⟩
          · have hy := (show wrN n L W' H d = 0 from if_neg hz)
            have hz2 := (show wrD n L W' H d = 0 from if_neg hz)
            rw [hy, hz2] at H19
            try rw [hy, hz2]
            have f1 : (wtE n L W' H d == 0) = false := by simpa using hz
            have f2 : (wtE n L W' H d == wtE n L W' H d) = true := by simp
            clear hy hz2 hz
            go_wp2_with (fail)
            refine (backFault_any a n c back aq m cq V _ hm100 hn5 HV.out).mono ?_
            rintro e u10 ⟨rfl, hb⟩
            replace BW := bwn BW hb
            replace HP := kB HP hb
            replace HV := kI HV hb
            replace HT := kI HT hb
            replace HAR := kI HAR hb
            replace HAX := kI HAX hb
            replace HAT := kI HAT hb
            replace H19 := kH hb H19
            clear hb
            go_wp2_with (fail)
            have H28 := Lib.hid (heap_alloc_new u10 (.cells #[.int .i64 0, .int .i64 0] 36))
            have L19 := Lib.hid (lt_of_heap H19.out)
            have HWB := Lib.hid BW.out.size
            have hb := (Below.refl _ u10).alloc (Nat.le_refl _) (.cells #[.int .i64 0, .int .i64 0] 36)
            replace BW := bwn BW hb
            replace HP := kB HP hb
            replace HV := kI HV hb
            replace HT := kI HT hb
            replace H19 := kH hb H19
            have BQ := Lib.hid hb
            have HQE := Lib.hid (rfl : u10.heap.size = u10.heap.size)
            clear hb
            generalize hvv : (u10.alloc (.cells #[.int .i64 0, .int .i64 0] 36)) = vq at *
            clear hvv
            obtain ⟨q28, hq⟩ : ∃ q, q = u10.heap.size := ⟨_, rfl⟩
            replace HQE := Lib.hid hq
            rw [← hq] at H28 L19 HWB BQ
            try rw [← hq]
            replace BQ := Lib.hid (show Below q28 u10 vq from BQ.out)
            clear hq
            replace HAR := Lib.hid (HAR.out.kept (w' := vq) (HQE.out ▸ BQ.out))
            replace HAX := Lib.hid (HAX.out.kept (w' := vq) (HQE.out ▸ BQ.out))
            replace HAT := Lib.hid (HAT.out.kept (w' := vq) (HQE.out ▸ BQ.out))
            refine (equalV_any ar none 0 cr 0 R (fun _ => 0) _ (by omega) HAR.out ints_nil (fun i h => absurd h (Nat.not_lt_zero i))).mono ?_
            rintro e u11 ⟨rfl, hb⟩
            replace BW := bwn BW hb
            replace H19 := kH hb H19
            replace H28 := kH hb H28
            replace HAX := kI HAX hb
            replace HAT := kI HAT hb
            clear hb
            go_wp2_with (fail)
            refine (equalV_any ax none 0 cx 0 X (fun _ => 0) _ (by omega) HAX.out ints_nil (fun i h => absurd h (Nat.not_lt_zero i))).mono ?_
            rintro e u12 ⟨rfl, hb⟩
            replace BW := bwn BW hb
            replace H19 := kH hb H19
            replace H28 := kH hb H28
            replace HAT := kI HAT hb
            clear hb
            go_wp2_with (fail)
            refine (equalV_any at_ none 0 ct 0 Z (fun _ => 0) _ (by omega) HAT.out ints_nil (fun i h => absurd h (Nat.not_lt_zero i))).mono ?_
            rintro e u13 ⟨rfl, hb⟩
            replace BW := bwn BW hb
            replace H19 := kH hb H19
            replace H28 := kH hb H28
            clear hb
            have g0' := cell_of H19.out (i := 0) rfl
            have g1' := cell_of H19.out (i := 1) rfl
            have g2' := cell_of H28.out (i := 0) rfl
            have g3' := cell_of H28.out (i := 1) rfl
            go_wp2_with (fail)
            clear g0' g1' g2' g3'
            refine (flowed_any _).mono ?_
            rintro e u14 ⟨rfl, hb⟩
            replace BW := bwn BW hb
            clear hb
            go_wp2_with (fail)
            go_ret
            exact ⟨rfl, BW.out⟩
  · rw [if_neg hz] at hrt
    rw [hrt]
    obtain rfl := HR2.out (by rw [hrt]; exact hz)
    have b1 : (arE n L W' H x == 0) = false := by simpa using hz
    have b2 : (arE n L W' H x == arE n L W' H x) = true := by simp
    clear HR1 HR2 hz hrt
    by_cases hz : fsE n L W' H f = 0
    · rw [hz]
      have HFZ := Lib.hid (fsE_ok hz)
      obtain ⟨hk, hR⟩ := HX1.out hz
      replace hk := hk.symm
      subst hk
      subst hR
      clear HX1 HX2 hz
      by_cases hz : tmE r11 (tF z2 z5 z8) z15 = 0
      · rw [hz]
        have HTZ := Lib.hid hz
        obtain ⟨⟨hk, hR⟩, hG⟩ := HT1.out hz
        replace hk := hk.symm
        subst hk
        subst hR
        rw [hG]
        clear HT1 HT2 hz hG
        by_cases hz : wtE n L W' H d = 0
        · rw [hz]
          have HWZ := Lib.hid hz
          have hy := (show wrN n L W' H d = wdN n L W' H d from if_pos hz)
          have hz2 := (show wrD n L W' H d = wdD n L W' H d from if_pos hz)
          rw [hy, hz2] at H19
          try rw [hy, hz2]
          clear hy hz2 hz
          go_wp2_with (fail)
          have H28 := Lib.hid (heap_alloc_new u9 (.cells #[.int .i64 0, .int .i64 0] 36))
          have L19 := Lib.hid (lt_of_heap H19.out)
          have HWB := Lib.hid BW.out.size
          have hb := (Below.refl _ u9).alloc (Nat.le_refl _) (.cells #[.int .i64 0, .int .i64 0] 36)
          replace BW := bwn BW hb
          replace HP := kB HP hb
          replace HV := kI HV hb
          replace HT := kI HT hb
          replace H19 := kH hb H19
          have BQ := Lib.hid hb
          have HQE := Lib.hid (rfl : u9.heap.size = u9.heap.size)
          clear hb
          generalize hvv : (u9.alloc (.cells #[.int .i64 0, .int .i64 0] 36)) = vq at *
          clear hvv
          obtain ⟨q28, hq⟩ : ∃ q, q = u9.heap.size := ⟨_, rfl⟩
          replace HQE := Lib.hid hq
          rw [← hq] at H28 L19 HWB BQ
          try rw [← hq]
          replace BQ := Lib.hid (show Below q28 u9 vq from BQ.out)
          clear hq
          have LHOX := Lib.hid (lt_of_heap H28.out)
          refine (fastestOf_any a n c L W' H f _ hn100 HP.out (bdE_ok HFZ.out.1).2 HFZ.out.2).mono ?_
          rintro e u10 ⟨a3, c3, rfl, ho3, hb⟩
          replace BW := bwn BW hb
          replace HP := kB HP hb
          replace HV := kI HV hb
          replace HT := kI HT hb
          replace H19 := kH hb H19
          replace H28 := kH hb H28
          replace BQ := Lib.hid (BQ.out.trans (hb.mono (show q28 ≤ _ by have h1 := BQ.out.size; have h2 := HQE.out; omega)))
          have HOX := Lib.hid ho3
          clear ho3
          clear hb
          go_wp2_with (fail)
          have LHOT := Lib.hid (lt_of_heap H28.out)
          refine (slowedOf_any _ r11 3 (tF z2 z5 z8) z15 _ hr100 HT.out HTZ.out).mono ?_
          rintro e u11 ⟨a4, c4, rfl, ho4, hb⟩
          replace BW := bwn BW hb
          replace HP := kB HP hb
          replace HV := kI HV hb
          replace HT := kI HT hb
          replace H19 := kH hb H19
          replace H28 := kH hb H28
          replace BQ := Lib.hid (BQ.out.trans (hb.mono (show q28 ≤ _ by have h1 := BQ.out.size; have h2 := HQE.out; omega)))
          replace HOX := Lib.hid (ownsRow_below HOX.out hb)
          have HOT := Lib.hid ho4
          clear ho4
          clear hb
          go_wp2_with (fail)
          refine (weightOf_any a n c L W' H d _ hn100 HP.out HWZ.out).mono ?_
          rintro e u12 ⟨rfl, hb⟩
          replace BW := bwn BW hb
          replace HP := kB HP hb
          replace HV := kI HV hb
          replace HT := kI HT hb
          replace H19 := kH hb H19
          replace H28 := kH hb H28
          replace BQ := Lib.hid (BQ.out.trans (hb.mono (show q28 ≤ _ by have h1 := BQ.out.size; have h2 := HQE.out; omega)))
          replace HOX := Lib.hid (ownsRow_below HOX.out hb)
          replace HOT := Lib.hid (ownsRow_below HOT.out hb)
          clear hb
          obtain ⟨y, hy⟩ : ∃ y, wdN n L W' H d = y := ⟨_, rfl⟩
          obtain ⟨z, hz⟩ : ∃ z, wdD n L W' H d = z := ⟨_, rfl⟩
          rw [hy, hz] at H19
          rw [hy, hz]
          clear hy hz
          have d0' := cell_of H28.out (i := 0) rfl
          have d1' := cell_of H28.out (i := 1) rfl
          have f0' := frozen_of H28.out (i := 0)
          have f1' := frozen_of H28.out (i := 1)
          have hne1 : ¬ q19 = q28 := Nat.ne_of_lt L19.out
          have hne2 : ¬ q28 = q19 := fun h => hne1 h.symm
          have g0' := cell_of H19.out (i := 0) rfl
          have g1' := cell_of H19.out (i := 1) rfl
          have hs := set2V_1 (u := .int .i64 z) (set2V_0 (u := .int .i64 y) H28.out)
          replace BW := Lib.hid ((Below.setCell (p := ⟨q28, 0, none⟩) BW.out HWB.out (.int .i64 y)).setCell (p := ⟨q28, 1, none⟩) HWB.out (.int .i64 z))
          replace BQ := Lib.hid ((Below.setCell (p := ⟨q28, 0, none⟩) BQ.out (Nat.le_refl _) (.int .i64 y)).setCell (p := ⟨q28, 1, none⟩) (Nat.le_refl _) (.int .i64 z))
          replace HOX := Lib.hid (own_mutB (own_mutB HOX.out (b := q28) 0 (.int .i64 y) (fun e => by have := (HOX.out.lt q28 e).1; have h2 := LHOX.out; omega)) (b := q28) 1 (.int .i64 z) (fun e => by have := (HOX.out.lt q28 e).1; have h2 := LHOX.out; omega))
          replace HOT := Lib.hid (own_mutB (own_mutB HOT.out (b := q28) 0 (.int .i64 y) (fun e => by have := (HOT.out.lt q28 e).1; have h2 := LHOT.out; omega)) (b := q28) 1 (.int .i64 z) (fun e => by have := (HOT.out.lt q28 e).1; have h2 := LHOT.out; omega))
          replace H28 := Lib.hid hs
          replace H19 := Lib.hid ((Below.heap_setCell (u12.setCell ⟨q28, 0, none⟩ (.int .i64 y)) ⟨q28, 1, none⟩ (.int .i64 z) q19 hne1).trans ((Below.heap_setCell u12 ⟨q28, 0, none⟩ (.int .i64 y) q19 hne1).trans H19.out))
          clear hs HP HV HT
          go_wp2_with (fail)
          clear d0' d1' f0' f1'
          generalize hvw : ((u12.setCell ⟨q28, 0, none⟩ (.int .i64 y)).setCell ⟨q28, 1, none⟩ (.int .i64 z)) = vz at *
          clear hvw g0' g1' hne1 hne2
          replace HAR := Lib.hid (HAR.out.kept (w' := vz) (HQE.out ▸ BQ.out))
          replace HAX := Lib.hid (HAX.out.kept (w' := vz) (HQE.out ▸ BQ.out))
          replace HAT := Lib.hid (HAT.out.kept (w' := vz) (HQE.out ▸ BQ.out))
          have HIX := Lib.hid (ints_of_own HOX.out)
          have HIT := Lib.hid (ints_of_own HOT.out)
          refine (equalV_any ar none 0 cr 0 R (fun _ => 0) _ (by omega) HAR.out ints_nil (fun i h => absurd h (Nat.not_lt_zero i))).mono ?_
          rintro e u13 ⟨rfl, hb⟩
          replace BW := bwn BW hb
          replace H19 := kH hb H19
          replace H28 := kH hb H28
          replace HAX := kI HAX hb
          replace HIX := kI HIX hb
          replace HAT := kI HAT hb
          replace HIT := kI HIT hb
          clear hb
          go_wp2_with (fail)
          refine (equalV_any ax a3 n cx c3 (fsF W' H f) (fsF W' H f) _ (by first | omega | (have h := rtL_len back V m (amtF L W' H x) n; omega)) HAX.out HIX.out (fun _ _ => rfl)).mono ?_
          rintro e u14 ⟨rfl, hb⟩
          replace BW := bwn BW hb
          replace H19 := kH hb H19
          replace H28 := kH hb H28
          replace HAT := kI HAT hb
          replace HIT := kI HIT hb
          clear hb
          go_wp2_with (fail)
          refine (equalV_any at_ a4 r11 ct c4 (slF (tF z2 z5 z8) z15) (slF (tF z2 z5 z8) z15) _ (by first | omega | (have h := rtL_len back V m (amtF L W' H x) n; omega)) HAT.out HIT.out (fun _ _ => rfl)).mono ?_
          rintro e u15 ⟨rfl, hb⟩
          replace BW := bwn BW hb
          replace H19 := kH hb H19
          replace H28 := kH hb H28
          clear hb
          have g0' := cell_of H19.out (i := 0) rfl
          have g1' := cell_of H19.out (i := 1) rfl
          have g2' := cell_of H28.out (i := 0) rfl
          have g3' := cell_of H28.out (i := 1) rfl
          go_wp2_with (fail)
          clear g0' g1' g2' g3'
          refine (flowed_any _).mono ?_
          rintro e u16 ⟨rfl, hb⟩
          replace BW := bwn BW hb
          clear hb
          go_wp2_with (fail)
          go_ret
          exact ⟨rfl, BW.out⟩
        · have hy := (show wrN n L W' H d = 0 from if_neg hz)
          have hz2 := (show wrD n L W' H d = 0 from if_neg hz)
          rw [hy, hz2] at H19
          try rw [hy, hz2]
          have f1 : (wtE n L W' H d == 0) = false := by simpa using hz
          have f2 : (wtE n L W' H d == wtE n L W' H d) = true := by simp
          clear hy hz2 hz
          go_wp2_with (fail)
          have H28 := Lib.hid (heap_alloc_new u9 (.cells #[.int .i64 0, .int .i64 0] 36))
          have L19 := Lib.hid (lt_of_heap H19.out)
          have HWB := Lib.hid BW.out.size
          have hb := (Below.refl _ u9).alloc (Nat.le_refl _) (.cells #[.int .i64 0, .int .i64 0] 36)
          replace BW := bwn BW hb
          replace HP := kB HP hb
          replace HV := kI HV hb
          replace HT := kI HT hb
          replace H19 := kH hb H19
          have BQ := Lib.hid hb
          have HQE := Lib.hid (rfl : u9.heap.size = u9.heap.size)
          clear hb
          generalize hvv : (u9.alloc (.cells #[.int .i64 0, .int .i64 0] 36)) = vq at *
          clear hvv
          obtain ⟨q28, hq⟩ : ∃ q, q = u9.heap.size := ⟨_, rfl⟩
          replace HQE := Lib.hid hq
          rw [← hq] at H28 L19 HWB BQ
          try rw [← hq]
          replace BQ := Lib.hid (show Below q28 u9 vq from BQ.out)
          clear hq
          have LHOX := Lib.hid (lt_of_heap H28.out)
          refine (fastestOf_any a n c L W' H f _ hn100 HP.out (bdE_ok HFZ.out.1).2 HFZ.out.2).mono ?_
          rintro e u10 ⟨a3, c3, rfl, ho3, hb⟩
          replace BW := bwn BW hb
          replace HP := kB HP hb
          replace HV := kI HV hb
          replace HT := kI HT hb
          replace H19 := kH hb H19
          replace H28 := kH hb H28
          replace BQ := Lib.hid (BQ.out.trans (hb.mono (show q28 ≤ _ by have h1 := BQ.out.size; have h2 := HQE.out; omega)))
          have HOX := Lib.hid ho3
          clear ho3
          clear hb
          go_wp2_with (fail)
          have LHOT := Lib.hid (lt_of_heap H28.out)
          refine (slowedOf_any _ r11 3 (tF z2 z5 z8) z15 _ hr100 HT.out HTZ.out).mono ?_
          rintro e u11 ⟨a4, c4, rfl, ho4, hb⟩
          replace BW := bwn BW hb
          replace HP := kB HP hb
          replace HV := kI HV hb
          replace HT := kI HT hb
          replace H19 := kH hb H19
          replace H28 := kH hb H28
          replace BQ := Lib.hid (BQ.out.trans (hb.mono (show q28 ≤ _ by have h1 := BQ.out.size; have h2 := HQE.out; omega)))
          replace HOX := Lib.hid (ownsRow_below HOX.out hb)
          have HOT := Lib.hid ho4
          clear ho4
          clear hb
          go_wp2_with (fail)
          replace HAR := Lib.hid (HAR.out.kept (w' := u11) (HQE.out ▸ BQ.out))
          replace HAX := Lib.hid (HAX.out.kept (w' := u11) (HQE.out ▸ BQ.out))
          replace HAT := Lib.hid (HAT.out.kept (w' := u11) (HQE.out ▸ BQ.out))
          have HIX := Lib.hid (ints_of_own HOX.out)
          have HIT := Lib.hid (ints_of_own HOT.out)
          refine (equalV_any ar none 0 cr 0 R (fun _ => 0) _ (by omega) HAR.out ints_nil (fun i h => absurd h (Nat.not_lt_zero i))).mono ?_
          rintro e u12 ⟨rfl, hb⟩
          replace BW := bwn BW hb
          replace H19 := kH hb H19
          replace H28 := kH hb H28
          replace HAX := kI HAX hb
          replace HIX := kI HIX hb
          replace HAT := kI HAT hb
          replace HIT := kI HIT hb
          clear hb
          go_wp2_with (fail)
          refine (equalV_any ax a3 n cx c3 (fsF W' H f) (fsF W' H f) _ (by first | omega | (have h := rtL_len back V m (amtF L W' H x) n; omega)) HAX.out HIX.out (fun _ _ => rfl)).mono ?_
          rintro e u13 ⟨rfl, hb⟩
          replace BW := bwn BW hb
          replace H19 := kH hb H19
          replace H28 := kH hb H28
          replace HAT := kI HAT hb
          replace HIT := kI HIT hb
          clear hb
          go_wp2_with (fail)
          refine (equalV_any at_ a4 r11 ct c4 (slF (tF z2 z5 z8) z15) (slF (tF z2 z5 z8) z15) _ (by first | omega | (have h := rtL_len back V m (amtF L W' H x) n; omega)) HAT.out HIT.out (fun _ _ => rfl)).mono ?_
          rintro e u14 ⟨rfl, hb⟩
          replace BW := bwn BW hb
          replace H19 := kH hb H19
          replace H28 := kH hb H28
          clear hb
          have g0' := cell_of H19.out (i := 0) rfl
          have g1' := cell_of H19.out (i := 1) rfl
          have g2' := cell_of H28.out (i := 0) rfl
          have g3' := cell_of H28.out (i := 1) rfl
          go_wp2_with (fail)
          clear g0' g1' g2' g3'
          refine (flowed_any _).mono ?_
          rintro e u15 ⟨rfl, hb⟩
          replace BW := bwn BW hb
          clear hb
          go_wp2_with (fail)
          go_ret
          exact ⟨rfl, BW.out⟩
      · obtain ⟨rfl, rfl⟩ := HT2.out hz
        have e1 : (tmE r11 (tF z2 z5 z8) z15 == 0) = false := by simpa using hz
        have e2 : (tmE r11 (tF z2 z5 z8) z15 == tmE r11 (tF z2 z5 z8) z15) = true := by simp
        clear HT1 HT2 hz
        by_cases hz : wtE n L W' H d = 0
        · rw [hz]
          have HWZ := Lib.hid hz
          have hy := (show wrN n L W' H d = wdN n L W' H d from if_pos hz)
          have hz2 := (show wrD n L W' H d = wdD n L W' H d from if_pos hz)
          rw [hy, hz2] at H19
          try rw [hy, hz2]
          clear hy hz2 hz
          go_wp2_with (fail)
          have H28 := Lib.hid (heap_alloc_new u9 (.cells #[.int .i64 0, .int .i64 0] 36))
          have L19 := Lib.hid (lt_of_heap H19.out)
          have HWB := Lib.hid BW.out.size
          have hb := (Below.refl _ u9).alloc (Nat.le_refl _) (.cells #[.int .i64 0, .int .i64 0] 36)
          replace BW := bwn BW hb
          replace HP := kB HP hb
          replace HV := kI HV hb
          replace HT := kI HT hb
          replace H19 := kH hb H19
          have BQ := Lib.hid hb
          have HQE := Lib.hid (rfl : u9.heap.size = u9.heap.size)
          clear hb
          generalize hvv : (u9.alloc (.cells #[.int .i64 0, .int .i64 0] 36)) = vq at *
          clear hvv
          obtain ⟨q28, hq⟩ : ∃ q, q = u9.heap.size := ⟨_, rfl⟩
          replace HQE := Lib.hid hq
          rw [← hq] at H28 L19 HWB BQ
          try rw [← hq]
          replace BQ := Lib.hid (show Below q28 u9 vq from BQ.out)
          clear hq
          have LHOX := Lib.hid (lt_of_heap H28.out)
          refine (fastestOf_any a n c L W' H f _ hn100 HP.out (bdE_ok HFZ.out.1).2 HFZ.out.2).mono ?_
          rintro e u10 ⟨a3, c3, rfl, ho3, hb⟩
          replace BW := bwn BW hb
          replace HP := kB HP hb
          replace HV := kI HV hb
          replace HT := kI HT hb
          replace H19 := kH hb H19
          replace H28 := kH hb H28
          replace BQ := Lib.hid (BQ.out.trans (hb.mono (show q28 ≤ _ by have h1 := BQ.out.size; have h2 := HQE.out; omega)))
          have HOX := Lib.hid ho3
          clear ho3
          clear hb
          go_wp2_with (fail)
          refine (weightOf_any a n c L W' H d _ hn100 HP.out HWZ.out).mono ?_
          rintro e u11 ⟨rfl, hb⟩
          replace BW := bwn BW hb
          replace HP := kB HP hb
          replace HV := kI HV hb
          replace HT := kI HT hb
          replace H19 := kH hb H19
          replace H28 := kH hb H28
          replace BQ := Lib.hid (BQ.out.trans (hb.mono (show q28 ≤ _ by have h1 := BQ.out.size; have h2 := HQE.out; omega)))
          replace HOX := Lib.hid (ownsRow_below HOX.out hb)
          clear hb
          obtain ⟨y, hy⟩ : ∃ y, wdN n L W' H d = y := ⟨_, rfl⟩
          obtain ⟨z, hz⟩ : ∃ z, wdD n L W' H d = z := ⟨_, rfl⟩
          rw [hy, hz] at H19
          rw [hy, hz]
          clear hy hz
          have d0' := cell_of H28.out (i := 0) rfl
          have d1' := cell_of H28.out (i := 1) rfl
          have f0' := frozen_of H28.out (i := 0)
          have f1' := frozen_of H28.out (i := 1)
          have hne1 : ¬ q19 = q28 := Nat.ne_of_lt L19.out
          have hne2 : ¬ q28 = q19 := fun h => hne1 h.symm
          have g0' := cell_of H19.out (i := 0) rfl
          have g1' := cell_of H19.out (i := 1) rfl
          have hs := set2V_1 (u := .int .i64 z) (set2V_0 (u := .int .i64 y) H28.out)
          replace BW := Lib.hid ((Below.setCell (p := ⟨q28, 0, none⟩) BW.out HWB.out (.int .i64 y)).setCell (p := ⟨q28, 1, none⟩) HWB.out (.int .i64 z))
          replace BQ := Lib.hid ((Below.setCell (p := ⟨q28, 0, none⟩) BQ.out (Nat.le_refl _) (.int .i64 y)).setCell (p := ⟨q28, 1, none⟩) (Nat.le_refl _) (.int .i64 z))
          replace HOX := Lib.hid (own_mutB (own_mutB HOX.out (b := q28) 0 (.int .i64 y) (fun e => by have := (HOX.out.lt q28 e).1; have h2 := LHOX.out; omega)) (b := q28) 1 (.int .i64 z) (fun e => by have := (HOX.out.lt q28 e).1; have h2 := LHOX.out; omega))
          replace H28 := Lib.hid hs
          replace H19 := Lib.hid ((Below.heap_setCell (u11.setCell ⟨q28, 0, none⟩ (.int .i64 y)) ⟨q28, 1, none⟩ (.int .i64 z) q19 hne1).trans ((Below.heap_setCell u11 ⟨q28, 0, none⟩ (.int .i64 y) q19 hne1).trans H19.out))
          clear hs HP HV HT
          go_wp2_with (fail)
          clear d0' d1' f0' f1'
          generalize hvw : ((u11.setCell ⟨q28, 0, none⟩ (.int .i64 y)).setCell ⟨q28, 1, none⟩ (.int .i64 z)) = vz at *
          clear hvw g0' g1' hne1 hne2
          replace HAR := Lib.hid (HAR.out.kept (w' := vz) (HQE.out ▸ BQ.out))
          replace HAX := Lib.hid (HAX.out.kept (w' := vz) (HQE.out ▸ BQ.out))
          replace HAT := Lib.hid (HAT.out.kept (w' := vz) (HQE.out ▸ BQ.out))
          have HIX := Lib.hid (ints_of_own HOX.out)
          refine (equalV_any ar none 0 cr 0 R (fun _ => 0) _ (by omega) HAR.out ints_nil (fun i h => absurd h (Nat.not_lt_zero i))).mono ?_
          rintro e u12 ⟨rfl, hb⟩
          replace BW := bwn BW hb
          replace H19 := kH hb H19
          replace H28 := kH hb H28
          replace HAX := kI HAX hb
          replace HIX := kI HIX hb
          replace HAT := kI HAT hb
          clear hb
          go_wp2_with (fail)
          refine (equalV_any ax a3 n cx c3 (fsF W' H f) (fsF W' H f) _ (by first | omega | (have h := rtL_len back V m (amtF L W' H x) n; omega)) HAX.out HIX.out (fun _ _ => rfl)).mono ?_
          rintro e u13 ⟨rfl, hb⟩
          replace BW := bwn BW hb
          replace H19 := kH hb H19
          replace H28 := kH hb H28
          replace HAT := kI HAT hb
          clear hb
          go_wp2_with (fail)
          refine (equalV_any at_ none 0 ct 0 Z (fun _ => 0) _ (by omega) HAT.out ints_nil (fun i h => absurd h (Nat.not_lt_zero i))).mono ?_
          rintro e u14 ⟨rfl, hb⟩
          replace BW := bwn BW hb
          replace H19 := kH hb H19
          replace H28 := kH hb H28
          clear hb
          have g0' := cell_of H19.out (i := 0) rfl
          have g1' := cell_of H19.out (i := 1) rfl
          have g2' := cell_of H28.out (i := 0) rfl
          have g3' := cell_of H28.out (i := 1) rfl
          go_wp2_with (fail)
          clear g0' g1' g2' g3'
          refine (flowed_any _).mono ?_
          rintro e u15 ⟨rfl, hb⟩
          replace BW := bwn BW hb
          clear hb
          go_wp2_with (fail)
          go_ret
          exact ⟨rfl, BW.out⟩
        · have hy := (show wrN n L W' H d = 0 from if_neg hz)
          have hz2 := (show wrD n L W' H d = 0 from if_neg hz)
          rw [hy, hz2] at H19
          try rw [hy, hz2]
          have f1 : (wtE n L W' H d == 0) = false := by simpa using hz
          have f2 : (wtE n L W' H d == wtE n L W' H d) = true := by simp
          clear hy hz2 hz
          go_wp2_with (fail)
          have H28 := Lib.hid (heap_alloc_new u9 (.cells #[.int .i64 0, .int .i64 0] 36))
          have L19 := Lib.hid (lt_of_heap H19.out)
          have HWB := Lib.hid BW.out.size
          have hb := (Below.refl _ u9).alloc (Nat.le_refl _) (.cells #[.int .i64 0, .int .i64 0] 36)
          replace BW := bwn BW hb
          replace HP := kB HP hb
          replace HV := kI HV hb
          replace HT := kI HT hb
          replace H19 := kH hb H19
          have BQ := Lib.hid hb
          have HQE := Lib.hid (rfl : u9.heap.size = u9.heap.size)
          clear hb
          generalize hvv : (u9.alloc (.cells #[.int .i64 0, .int .i64 0] 36)) = vq at *
          clear hvv
          obtain ⟨q28, hq⟩ : ∃ q, q = u9.heap.size := ⟨_, rfl⟩
          replace HQE := Lib.hid hq
          rw [← hq] at H28 L19 HWB BQ
          try rw [← hq]
          replace BQ := Lib.hid (show Below q28 u9 vq from BQ.out)
          clear hq
          have LHOX := Lib.hid (lt_of_heap H28.out)
          refine (fastestOf_any a n c L W' H f _ hn100 HP.out (bdE_ok HFZ.out.1).2 HFZ.out.2).mono ?_
          rintro e u10 ⟨a3, c3, rfl, ho3, hb⟩
          replace BW := bwn BW hb
          replace HP := kB HP hb
          replace HV := kI HV hb
          replace HT := kI HT hb
          replace H19 := kH hb H19
          replace H28 := kH hb H28
          replace BQ := Lib.hid (BQ.out.trans (hb.mono (show q28 ≤ _ by have h1 := BQ.out.size; have h2 := HQE.out; omega)))
          have HOX := Lib.hid ho3
          clear ho3
          clear hb
          go_wp2_with (fail)
          replace HAR := Lib.hid (HAR.out.kept (w' := u10) (HQE.out ▸ BQ.out))
          replace HAX := Lib.hid (HAX.out.kept (w' := u10) (HQE.out ▸ BQ.out))
          replace HAT := Lib.hid (HAT.out.kept (w' := u10) (HQE.out ▸ BQ.out))
          have HIX := Lib.hid (ints_of_own HOX.out)
          refine (equalV_any ar none 0 cr 0 R (fun _ => 0) _ (by omega) HAR.out ints_nil (fun i h => absurd h (Nat.not_lt_zero i))).mono ?_
          rintro e u11 ⟨rfl, hb⟩
          replace BW := bwn BW hb
          replace H19 := kH hb H19
          replace H28 := kH hb H28
          replace HAX := kI HAX hb
          replace HIX := kI HIX hb
          replace HAT := kI HAT hb
          clear hb
          go_wp2_with (fail)
          refine (equalV_any ax a3 n cx c3 (fsF W' H f) (fsF W' H f) _ (by first | omega | (have h := rtL_len back V m (amtF L W' H x) n; omega)) HAX.out HIX.out (fun _ _ => rfl)).mono ?_
          rintro e u12 ⟨rfl, hb⟩
          replace BW := bwn BW hb
          replace H19 := kH hb H19
          replace H28 := kH hb H28
          replace HAT := kI HAT hb
          clear hb
          go_wp2_with (fail)
          refine (equalV_any at_ none 0 ct 0 Z (fun _ => 0) _ (by omega) HAT.out ints_nil (fun i h => absurd h (Nat.not_lt_zero i))).mono ?_
          rintro e u13 ⟨rfl, hb⟩
          replace BW := bwn BW hb
          replace H19 := kH hb H19
          replace H28 := kH hb H28
          clear hb
          have g0' := cell_of H19.out (i := 0) rfl
          have g1' := cell_of H19.out (i := 1) rfl
          have g2' := cell_of H28.out (i := 0) rfl
          have g3' := cell_of H28.out (i := 1) rfl
          go_wp2_with (fail)
          clear g0' g1' g2' g3'
          refine (flowed_any _).mono ?_
          rintro e u14 ⟨rfl, hb⟩
          replace BW := bwn BW hb
          clear hb
          go_wp2_with (fail)
          go_ret
          exact ⟨rfl, BW.out⟩
    · obtain rfl := HX2.out hz
      have d1 : (fsE n L W' H f == 0) = false := by simpa using hz
      have d2 : (fsE n L W' H f == fsE n L W' H f) = true := by simp
      clear HX1 HX2 hz
      by_cases hz : tmE r11 (tF z2 z5 z8) z15 = 0
      · rw [hz]
        have HTZ := Lib.hid hz
        obtain ⟨⟨hk, hR⟩, hG⟩ := HT1.out hz
        replace hk := hk.symm
        subst hk
        subst hR
        rw [hG]
        clear HT1 HT2 hz hG
        by_cases hz : wtE n L W' H d = 0
        · rw [hz]
          have HWZ := Lib.hid hz
          have hy := (show wrN n L W' H d = wdN n L W' H d from if_pos hz)
          have hz2 := (show wrD n L W' H d = wdD n L W' H d from if_pos hz)
          rw [hy, hz2] at H19
          try rw [hy, hz2]
          clear hy hz2 hz
          go_wp2_with (fail)
          have H28 := Lib.hid (heap_alloc_new u9 (.cells #[.int .i64 0, .int .i64 0] 36))
          have L19 := Lib.hid (lt_of_heap H19.out)
          have HWB := Lib.hid BW.out.size
          have hb := (Below.refl _ u9).alloc (Nat.le_refl _) (.cells #[.int .i64 0, .int .i64 0] 36)
          replace BW := bwn BW hb
          replace HP := kB HP hb
          replace HV := kI HV hb
          replace HT := kI HT hb
          replace H19 := kH hb H19
          have BQ := Lib.hid hb
          have HQE := Lib.hid (rfl : u9.heap.size = u9.heap.size)
          clear hb
          generalize hvv : (u9.alloc (.cells #[.int .i64 0, .int .i64 0] 36)) = vq at *
          clear hvv
          obtain ⟨q28, hq⟩ : ∃ q, q = u9.heap.size := ⟨_, rfl⟩
          replace HQE := Lib.hid hq
          rw [← hq] at H28 L19 HWB BQ
          try rw [← hq]
          replace BQ := Lib.hid (show Below q28 u9 vq from BQ.out)
          clear hq
          have LHOT := Lib.hid (lt_of_heap H28.out)
          refine (slowedOf_any _ r11 3 (tF z2 z5 z8) z15 _ hr100 HT.out HTZ.out).mono ?_
          rintro e u10 ⟨a4, c4, rfl, ho4, hb⟩
          replace BW := bwn BW hb
          replace HP := kB HP hb
          replace HV := kI HV hb
          replace HT := kI HT hb
          replace H19 := kH hb H19
          replace H28 := kH hb H28
          replace BQ := Lib.hid (BQ.out.trans (hb.mono (show q28 ≤ _ by have h1 := BQ.out.size; have h2 := HQE.out; omega)))
          have HOT := Lib.hid ho4
          clear ho4
          clear hb
          go_wp2_with (fail)
          refine (weightOf_any a n c L W' H d _ hn100 HP.out HWZ.out).mono ?_
          rintro e u11 ⟨rfl, hb⟩
          replace BW := bwn BW hb
          replace HP := kB HP hb
          replace HV := kI HV hb
          replace HT := kI HT hb
          replace H19 := kH hb H19
          replace H28 := kH hb H28
          replace BQ := Lib.hid (BQ.out.trans (hb.mono (show q28 ≤ _ by have h1 := BQ.out.size; have h2 := HQE.out; omega)))
          replace HOT := Lib.hid (ownsRow_below HOT.out hb)
          clear hb
          obtain ⟨y, hy⟩ : ∃ y, wdN n L W' H d = y := ⟨_, rfl⟩
          obtain ⟨z, hz⟩ : ∃ z, wdD n L W' H d = z := ⟨_, rfl⟩
          rw [hy, hz] at H19
          rw [hy, hz]
          clear hy hz
          have d0' := cell_of H28.out (i := 0) rfl
          have d1' := cell_of H28.out (i := 1) rfl
          have f0' := frozen_of H28.out (i := 0)
          have f1' := frozen_of H28.out (i := 1)
          have hne1 : ¬ q19 = q28 := Nat.ne_of_lt L19.out
          have hne2 : ¬ q28 = q19 := fun h => hne1 h.symm
          have g0' := cell_of H19.out (i := 0) rfl
          have g1' := cell_of H19.out (i := 1) rfl
          have hs := set2V_1 (u := .int .i64 z) (set2V_0 (u := .int .i64 y) H28.out)
          replace BW := Lib.hid ((Below.setCell (p := ⟨q28, 0, none⟩) BW.out HWB.out (.int .i64 y)).setCell (p := ⟨q28, 1, none⟩) HWB.out (.int .i64 z))
          replace BQ := Lib.hid ((Below.setCell (p := ⟨q28, 0, none⟩) BQ.out (Nat.le_refl _) (.int .i64 y)).setCell (p := ⟨q28, 1, none⟩) (Nat.le_refl _) (.int .i64 z))
          replace HOT := Lib.hid (own_mutB (own_mutB HOT.out (b := q28) 0 (.int .i64 y) (fun e => by have := (HOT.out.lt q28 e).1; have h2 := LHOT.out; omega)) (b := q28) 1 (.int .i64 z) (fun e => by have := (HOT.out.lt q28 e).1; have h2 := LHOT.out; omega))
          replace H28 := Lib.hid hs
          replace H19 := Lib.hid ((Below.heap_setCell (u11.setCell ⟨q28, 0, none⟩ (.int .i64 y)) ⟨q28, 1, none⟩ (.int .i64 z) q19 hne1).trans ((Below.heap_setCell u11 ⟨q28, 0, none⟩ (.int .i64 y) q19 hne1).trans H19.out))
          clear hs HP HV HT
          go_wp2_with (fail)
          clear d0' d1' f0' f1'
          generalize hvw : ((u11.setCell ⟨q28, 0, none⟩ (.int .i64 y)).setCell ⟨q28, 1, none⟩ (.int .i64 z)) = vz at *
          clear hvw g0' g1' hne1 hne2
          replace HAR := Lib.hid (HAR.out.kept (w' := vz) (HQE.out ▸ BQ.out))
          replace HAX := Lib.hid (HAX.out.kept (w' := vz) (HQE.out ▸ BQ.out))
          replace HAT := Lib.hid (HAT.out.kept (w' := vz) (HQE.out ▸ BQ.out))
          have HIT := Lib.hid (ints_of_own HOT.out)
          refine (equalV_any ar none 0 cr 0 R (fun _ => 0) _ (by omega) HAR.out ints_nil (fun i h => absurd h (Nat.not_lt_zero i))).mono ?_
          rintro e u12 ⟨rfl, hb⟩
          replace BW := bwn BW hb
          replace H19 := kH hb H19
          replace H28 := kH hb H28
          replace HAX := kI HAX hb
          replace HAT := kI HAT hb
          replace HIT := kI HIT hb
          clear hb
          go_wp2_with (fail)
          refine (equalV_any ax none 0 cx 0 X (fun _ => 0) _ (by omega) HAX.out ints_nil (fun i h => absurd h (Nat.not_lt_zero i))).mono ?_
          rintro e u13 ⟨rfl, hb⟩
          replace BW := bwn BW hb
          replace H19 := kH hb H19
          replace H28 := kH hb H28
          replace HAT := kI HAT hb
          replace HIT := kI HIT hb
          clear hb
          go_wp2_with (fail)
          refine (equalV_any at_ a4 r11 ct c4 (slF (tF z2 z5 z8) z15) (slF (tF z2 z5 z8) z15) _ (by first | omega | (have h := rtL_len back V m (amtF L W' H x) n; omega)) HAT.out HIT.out (fun _ _ => rfl)).mono ?_
          rintro e u14 ⟨rfl, hb⟩
          replace BW := bwn BW hb
          replace H19 := kH hb H19
          replace H28 := kH hb H28
          clear hb
          have g0' := cell_of H19.out (i := 0) rfl
          have g1' := cell_of H19.out (i := 1) rfl
          have g2' := cell_of H28.out (i := 0) rfl
          have g3' := cell_of H28.out (i := 1) rfl
          go_wp2_with (fail)
          clear g0' g1' g2' g3'
          refine (flowed_any _).mono ?_
          rintro e u15 ⟨rfl, hb⟩
          replace BW := bwn BW hb
          clear hb
          go_wp2_with (fail)
          go_ret
          exact ⟨rfl, BW.out⟩
        · have hy := (show wrN n L W' H d = 0 from if_neg hz)
          have hz2 := (show wrD n L W' H d = 0 from if_neg hz)
          rw [hy, hz2] at H19
          try rw [hy, hz2]
          have f1 : (wtE n L W' H d == 0) = false := by simpa using hz
          have f2 : (wtE n L W' H d == wtE n L W' H d) = true := by simp
          clear hy hz2 hz
          go_wp2_with (fail)
          have H28 := Lib.hid (heap_alloc_new u9 (.cells #[.int .i64 0, .int .i64 0] 36))
          have L19 := Lib.hid (lt_of_heap H19.out)
          have HWB := Lib.hid BW.out.size
          have hb := (Below.refl _ u9).alloc (Nat.le_refl _) (.cells #[.int .i64 0, .int .i64 0] 36)
          replace BW := bwn BW hb
          replace HP := kB HP hb
          replace HV := kI HV hb
          replace HT := kI HT hb
          replace H19 := kH hb H19
          have BQ := Lib.hid hb
          have HQE := Lib.hid (rfl : u9.heap.size = u9.heap.size)
          clear hb
          generalize hvv : (u9.alloc (.cells #[.int .i64 0, .int .i64 0] 36)) = vq at *
          clear hvv
          obtain ⟨q28, hq⟩ : ∃ q, q = u9.heap.size := ⟨_, rfl⟩
          replace HQE := Lib.hid hq
          rw [← hq] at H28 L19 HWB BQ
          try rw [← hq]
          replace BQ := Lib.hid (show Below q28 u9 vq from BQ.out)
          clear hq
          have LHOT := Lib.hid (lt_of_heap H28.out)
          refine (slowedOf_any _ r11 3 (tF z2 z5 z8) z15 _ hr100 HT.out HTZ.out).mono ?_
          rintro e u10 ⟨a4, c4, rfl, ho4, hb⟩
          replace BW := bwn BW hb
          replace HP := kB HP hb
          replace HV := kI HV hb
          replace HT := kI HT hb
          replace H19 := kH hb H19
          replace H28 := kH hb H28
          replace BQ := Lib.hid (BQ.out.trans (hb.mono (show q28 ≤ _ by have h1 := BQ.out.size; have h2 := HQE.out; omega)))
          have HOT := Lib.hid ho4
          clear ho4
          clear hb
          go_wp2_with (fail)
          replace HAR := Lib.hid (HAR.out.kept (w' := u10) (HQE.out ▸ BQ.out))
          replace HAX := Lib.hid (HAX.out.kept (w' := u10) (HQE.out ▸ BQ.out))
          replace HAT := Lib.hid (HAT.out.kept (w' := u10) (HQE.out ▸ BQ.out))
          have HIT := Lib.hid (ints_of_own HOT.out)
          refine (equalV_any ar none 0 cr 0 R (fun _ => 0) _ (by omega) HAR.out ints_nil (fun i h => absurd h (Nat.not_lt_zero i))).mono ?_
          rintro e u11 ⟨rfl, hb⟩
          replace BW := bwn BW hb
          replace H19 := kH hb H19
          replace H28 := kH hb H28
          replace HAX := kI HAX hb
          replace HAT := kI HAT hb
          replace HIT := kI HIT hb
          clear hb
          go_wp2_with (fail)
          refine (equalV_any ax none 0 cx 0 X (fun _ => 0) _ (by omega) HAX.out ints_nil (fun i h => absurd h (Nat.not_lt_zero i))).mono ?_
          rintro e u12 ⟨rfl, hb⟩
          replace BW := bwn BW hb
          replace H19 := kH hb H19
          replace H28 := kH hb H28
          replace HAT := kI HAT hb
          replace HIT := kI HIT hb
          clear hb
          go_wp2_with (fail)
          refine (equalV_any at_ a4 r11 ct c4 (slF (tF z2 z5 z8) z15) (slF (tF z2 z5 z8) z15) _ (by first | omega | (have h := rtL_len back V m (amtF L W' H x) n; omega)) HAT.out HIT.out (fun _ _ => rfl)).mono ?_
          rintro e u13 ⟨rfl, hb⟩
          replace BW := bwn BW hb
          replace H19 := kH hb H19
          replace H28 := kH hb H28
          clear hb
          have g0' := cell_of H19.out (i := 0) rfl
          have g1' := cell_of H19.out (i := 1) rfl
          have g2' := cell_of H28.out (i := 0) rfl
          have g3' := cell_of H28.out (i := 1) rfl
          go_wp2_with (fail)
          clear g0' g1' g2' g3'
          refine (flowed_any _).mono ?_
          rintro e u14 ⟨rfl, hb⟩
          replace BW := bwn BW hb
          clear hb
          go_wp2_with (fail)
          go_ret
          exact ⟨rfl, BW.out⟩
      · obtain ⟨rfl, rfl⟩ := HT2.out hz
        have e1 : (tmE r11 (tF z2 z5 z8) z15 == 0) = false := by simpa using hz
        have e2 : (tmE r11 (tF z2 z5 z8) z15 == tmE r11 (tF z2 z5 z8) z15) = true := by simp
        clear HT1 HT2 hz
        by_cases hz : wtE n L W' H d = 0
        · rw [hz]
          have HWZ := Lib.hid hz
          have hy := (show wrN n L W' H d = wdN n L W' H d from if_pos hz)
          have hz2 := (show wrD n L W' H d = wdD n L W' H d from if_pos hz)
          rw [hy, hz2] at H19
          try rw [hy, hz2]
          clear hy hz2 hz
          go_wp2_with (fail)
          have H28 := Lib.hid (heap_alloc_new u9 (.cells #[.int .i64 0, .int .i64 0] 36))
          have L19 := Lib.hid (lt_of_heap H19.out)
          have HWB := Lib.hid BW.out.size
          have hb := (Below.refl _ u9).alloc (Nat.le_refl _) (.cells #[.int .i64 0, .int .i64 0] 36)
          replace BW := bwn BW hb
          replace HP := kB HP hb
          replace HV := kI HV hb
          replace HT := kI HT hb
          replace H19 := kH hb H19
          have BQ := Lib.hid hb
          have HQE := Lib.hid (rfl : u9.heap.size = u9.heap.size)
          clear hb
          generalize hvv : (u9.alloc (.cells #[.int .i64 0, .int .i64 0] 36)) = vq at *
          clear hvv
          obtain ⟨q28, hq⟩ : ∃ q, q = u9.heap.size := ⟨_, rfl⟩
          replace HQE := Lib.hid hq
          rw [← hq] at H28 L19 HWB BQ
          try rw [← hq]
          replace BQ := Lib.hid (show Below q28 u9 vq from BQ.out)
          clear hq
          refine (weightOf_any a n c L W' H d _ hn100 HP.out HWZ.out).mono ?_
          rintro e u10 ⟨rfl, hb⟩
          replace BW := bwn BW hb
          replace HP := kB HP hb
          replace HV := kI HV hb
          replace HT := kI HT hb
          replace H19 := kH hb H19
          replace H28 := kH hb H28
          replace BQ := Lib.hid (BQ.out.trans (hb.mono (show q28 ≤ _ by have h1 := BQ.out.size; have h2 := HQE.out; omega)))
          clear hb
          obtain ⟨y, hy⟩ : ∃ y, wdN n L W' H d = y := ⟨_, rfl⟩
          obtain ⟨z, hz⟩ : ∃ z, wdD n L W' H d = z := ⟨_, rfl⟩
          rw [hy, hz] at H19
          rw [hy, hz]
          clear hy hz
          have d0' := cell_of H28.out (i := 0) rfl
          have d1' := cell_of H28.out (i := 1) rfl
          have f0' := frozen_of H28.out (i := 0)
          have f1' := frozen_of H28.out (i := 1)
          have hne1 : ¬ q19 = q28 := Nat.ne_of_lt L19.out
          have hne2 : ¬ q28 = q19 := fun h => hne1 h.symm
          have g0' := cell_of H19.out (i := 0) rfl
          have g1' := cell_of H19.out (i := 1) rfl
          have hs := set2V_1 (u := .int .i64 z) (set2V_0 (u := .int .i64 y) H28.out)
          replace BW := Lib.hid ((Below.setCell (p := ⟨q28, 0, none⟩) BW.out HWB.out (.int .i64 y)).setCell (p := ⟨q28, 1, none⟩) HWB.out (.int .i64 z))
          replace BQ := Lib.hid ((Below.setCell (p := ⟨q28, 0, none⟩) BQ.out (Nat.le_refl _) (.int .i64 y)).setCell (p := ⟨q28, 1, none⟩) (Nat.le_refl _) (.int .i64 z))
          replace H28 := Lib.hid hs
          replace H19 := Lib.hid ((Below.heap_setCell (u10.setCell ⟨q28, 0, none⟩ (.int .i64 y)) ⟨q28, 1, none⟩ (.int .i64 z) q19 hne1).trans ((Below.heap_setCell u10 ⟨q28, 0, none⟩ (.int .i64 y) q19 hne1).trans H19.out))
          clear hs HP HV HT
          go_wp2_with (fail)
          clear d0' d1' f0' f1'
          generalize hvw : ((u10.setCell ⟨q28, 0, none⟩ (.int .i64 y)).setCell ⟨q28, 1, none⟩ (.int .i64 z)) = vz at *
          clear hvw g0' g1' hne1 hne2
          replace HAR := Lib.hid (HAR.out.kept (w' := vz) (HQE.out ▸ BQ.out))
          replace HAX := Lib.hid (HAX.out.kept (w' := vz) (HQE.out ▸ BQ.out))
          replace HAT := Lib.hid (HAT.out.kept (w' := vz) (HQE.out ▸ BQ.out))
          refine (equalV_any ar none 0 cr 0 R (fun _ => 0) _ (by omega) HAR.out ints_nil (fun i h => absurd h (Nat.not_lt_zero i))).mono ?_
          rintro e u11 ⟨rfl, hb⟩
          replace BW := bwn BW hb
          replace H19 := kH hb H19
          replace H28 := kH hb H28
          replace HAX := kI HAX hb
          replace HAT := kI HAT hb
          clear hb
          go_wp2_with (fail)
          refine (equalV_any ax none 0 cx 0 X (fun _ => 0) _ (by omega) HAX.out ints_nil (fun i h => absurd h (Nat.not_lt_zero i))).mono ?_
          rintro e u12 ⟨rfl, hb⟩
          replace BW := bwn BW hb
          replace H19 := kH hb H19
          replace H28 := kH hb H28
          replace HAT := kI HAT hb
          clear hb
          go_wp2_with (fail)
          refine (equalV_any at_ none 0 ct 0 Z (fun _ => 0) _ (by omega) HAT.out ints_nil (fun i h => absurd h (Nat.not_lt_zero i))).mono ?_
          rintro e u13 ⟨rfl, hb⟩
          replace BW := bwn BW hb
          replace H19 := kH hb H19
          replace H28 := kH hb H28
          clear hb
          have g0' := cell_of H19.out (i := 0) rfl
          have g1' := cell_of H19.out (i := 1) rfl
          have g2' := cell_of H28.out (i := 0) rfl
          have g3' := cell_of H28.out (i := 1) rfl
          go_wp2_with (fail)
          clear g0' g1' g2' g3'
          refine (flowed_any _).mono ?_
          rintro e u14 ⟨rfl, hb⟩
          replace BW := bwn BW hb
          clear hb
          go_wp2_with (fail)
          go_ret
          exact ⟨rfl, BW.out⟩
        · have hy := (show wrN n L W' H d = 0 from if_neg hz)
          have hz2 := (show wrD n L W' H d = 0 from if_neg hz)
          rw [hy, hz2] at H19
          try rw [hy, hz2]
          have f1 : (wtE n L W' H d == 0) = false := by simpa using hz
          have f2 : (wtE n L W' H d == wtE n L W' H d) = true := by simp
          clear hy hz2 hz
          go_wp2_with (fail)
          have H28 := Lib.hid (heap_alloc_new u9 (.cells #[.int .i64 0, .int .i64 0] 36))
          have L19 := Lib.hid (lt_of_heap H19.out)
          have HWB := Lib.hid BW.out.size
          have hb := (Below.refl _ u9).alloc (Nat.le_refl _) (.cells #[.int .i64 0, .int .i64 0] 36)
          replace BW := bwn BW hb
          replace HP := kB HP hb
          replace HV := kI HV hb
          replace HT := kI HT hb
          replace H19 := kH hb H19
          have BQ := Lib.hid hb
          have HQE := Lib.hid (rfl : u9.heap.size = u9.heap.size)
          clear hb
          generalize hvv : (u9.alloc (.cells #[.int .i64 0, .int .i64 0] 36)) = vq at *
          clear hvv
          obtain ⟨q28, hq⟩ : ∃ q, q = u9.heap.size := ⟨_, rfl⟩
          replace HQE := Lib.hid hq
          rw [← hq] at H28 L19 HWB BQ
          try rw [← hq]
          replace BQ := Lib.hid (show Below q28 u9 vq from BQ.out)
          clear hq
          replace HAR := Lib.hid (HAR.out.kept (w' := vq) (HQE.out ▸ BQ.out))
          replace HAX := Lib.hid (HAX.out.kept (w' := vq) (HQE.out ▸ BQ.out))
          replace HAT := Lib.hid (HAT.out.kept (w' := vq) (HQE.out ▸ BQ.out))
          refine (equalV_any ar none 0 cr 0 R (fun _ => 0) _ (by omega) HAR.out ints_nil (fun i h => absurd h (Nat.not_lt_zero i))).mono ?_
          rintro e u10 ⟨rfl, hb⟩
          replace BW := bwn BW hb
          replace H19 := kH hb H19
          replace H28 := kH hb H28
          replace HAX := kI HAX hb
          replace HAT := kI HAT hb
          clear hb
          go_wp2_with (fail)
          refine (equalV_any ax none 0 cx 0 X (fun _ => 0) _ (by omega) HAX.out ints_nil (fun i h => absurd h (Nat.not_lt_zero i))).mono ?_
          rintro e u11 ⟨rfl, hb⟩
          replace BW := bwn BW hb
          replace H19 := kH hb H19
          replace H28 := kH hb H28
          replace HAT := kI HAT hb
          clear hb
          go_wp2_with (fail)
          refine (equalV_any at_ none 0 ct 0 Z (fun _ => 0) _ (by omega) HAT.out ints_nil (fun i h => absurd h (Nat.not_lt_zero i))).mono ?_
          rintro e u12 ⟨rfl, hb⟩
          replace BW := bwn BW hb
          replace H19 := kH hb H19
          replace H28 := kH hb H28
          clear hb
          have g0' := cell_of H19.out (i := 0) rfl
          have g1' := cell_of H19.out (i := 1) rfl
          have g2' := cell_of H28.out (i := 0) rfl
          have g3' := cell_of H28.out (i := 1) rfl
          go_wp2_with (fail)
          clear g0' g1' g2' g3'
          refine (flowed_any _).mono ?_
          rintro e u13 ⟨rfl, hb⟩
          replace BW := bwn BW hb
          clear hb
          go_wp2_with (fail)
          go_ret
          exact ⟨rfl, BW.out⟩

end Go.Proofs.Ytddnimbalfaieaa

/- Drawn speeds. -/
import Derived.Test.YteodekmncgmjeaaVs
set_option linter.unusedSimpArgs false
set_option linter.unusedVariables false
namespace Go.Proofs.Yteodekmncgmjeaa
open Go.RowKit
set_option maxRecDepth 100000 in
set_option maxHeartbeats 16000000 in
theorem speedList_any (B k : Nat) (a : Option Addr) (n cl : Nat) (L M : Nat → Int) (ac : Option Addr) (m cc : Nat) (C : Nat → Int) (c : Int) (w : World) (hs : Strm w B k) (hk : k + 100 ≤ 1000000) (hn : n ≤ 8) (hm : m ≤ 9) (hp : LegsR w a n L M) (hc : IntsR w ac m C) :
    Calls Try.prog 7 #[.pointer (some ⟨B, 0, none⟩), .slice a n cl, .slice ac m cc, .int .i64 c] w fun e w' => ∃ av q cv V, e = .returned (.slice av q cv) ∧ q ≤ 10 ∧ IntsR w' av q V ∧ Strm w' B (k + 20) ∧ Mut (· = B) w w' := by
  obtain ⟨i0, hi0, hz0, hz1, hz2⟩ := info_parts info_intV
  have hl := hs.lt
  have HP := Lib.hid hp
  have HC := Lib.hid hc
  have HS := Lib.hid hs
  clear hp hc hs
  go_enter Try.func7, Try.ntmps7
  go_wp2_with (fail)
  refine (cornersFault_any a n cl L M ac m cc C w (by omega) (by omega) HP.out HC.out).mono ?_
  rintro e w1 ⟨rfl, hb1⟩
  have B1 := Lib.hid hb1
  have HN1 : Hid (DI w w1 B k 3 1 none 0 0 []) := Lib.hid ⟨World.ownsRow_nil _ _ _ _, AllI.nil, StrmV.below HS.out hb1, mutV_of_bel hb1, hl⟩
  have hsz1 := hb1.size
  clear hb1
  by_cases hz : cornE n L M m C = 0
  · have hz' : (cornE n L M m C == 0) = true := by simp [hz]
    have HZ := Lib.hid hz
    clear hz
    by_cases hy : chE c = 0
    · have hy' : (chE c == 0) = true := by simp [hy]
      have OK := Lib.hid (mok (show movE n L M m C c = 0 by rw [movE_ch HZ.out]; exact hy))
      clear hy
      go_wp2_with (go_at_call 27; refine (changeFault_any _ _).mono ?_; rintro e w' ⟨rfl, rfl⟩)
      refine (speedsOf_any a n cl L M ac m cc C c w1 (by omega) (HP.out.kept B1.out) (HC.out.kept B1.out) OK.out).mono ?_
      rintro e w2 ⟨g, rfl, hown, hb2⟩
      obtain ⟨xs, hxs⟩ : ∃ xs, xs = vs (spZ n L M C c) (n + 1) := ⟨_, rfl⟩
      have HD2 : Hid (DI w w2 B k 3 1 (some ⟨g, 0, none⟩) (n + 1) (n + 1) xs) := Lib.hid (by
        rw [hxs]
        exact ⟨by
          obtain ⟨h1, h2⟩ := hown
          refine ⟨h1, ?_⟩
          rcases h2 with h2 | ⟨g', cap, cur, hv, hg, r⟩
          · exact .inl h2
          · exact .inr ⟨g', cap, cur, hv, by omega, r⟩, AllI.vs _ _, StrmV.below HN1.out.s hb2, HN1.out.m.trans (mutV_of_bel hb2), hl⟩)
      have hsz2 := HD2.out.size
      clear hown hb2 hxs HN1 HZ hy' hz'
      by_cases h2 : 2 < n + 1
      · have h2' : (2 : Int) < (n : Int) + 1 := by omega
        go_wp2_with (fail)
        refine (flip_any B _ 2 w2 HD2.out.s (by omega) (by omega) (by omega)).mono ?_
        rintro e w3 ⟨⟨f, rfl⟩, hst, hmt⟩
        have HD3 := Lib.hid (HD2.out.next hmt hst)
        clear hst hmt HD2
        rcases f with _ | _
        · go_wp2_with (fail)
          refine (flip_any B _ 12 w3 HD3.out.s (by omega) (by omega) (by omega)).mono ?_
          rintro e wt ⟨⟨f, rfl⟩, hst, hmt⟩
          have HT := Lib.hid (HD3.out.next hmt hst)
          have hszt := HT.out.size
          clear hst hmt HD3
          rcases f with _ | _
          · skip
            obtain ⟨V, hV⟩ := ints_of_all HT.out.o HT.out.x
            have HVF := Lib.hid hV
            clear hV
            go_wp2_with (fail)
            go_ret
            exact ⟨some ⟨g, 0, none⟩, n + 1, n + 1, V, rfl, by omega, HVF.out, HT.out.s.more (by omega) (by omega), HT.out.m⟩
          · go_wp2_with (fail)
            refine (pick_atV B _ [0, -1, 5] 3 (fun _ => True) wt _ rfl HT.out.s (by omega) rfl (by omega) (by omega) (by simp)).mono ?_
            rintro e wu ⟨⟨z, rfl, _⟩, hst, hmt⟩
            have HU := Lib.hid (HT.out.next hmt hst)
            have hszu := HU.out.size
            clear hst hmt HT
            go_wp2_with (at_builtin; refine wpList_append_lies _ rfl _ _ 22 rfl w.heap.size 3 i0 (.int .i64 0) 1 8 Try.underlying22 hi0 hz0 hz1 hz2 rfl (by decide) _ _ _ rfl (ownsRow_below HU.out.o ((Below.refl _ wu).alloc (Nat.le_refl _) _)) ⟨wu.heap.size, 0, none⟩ 1 1 [.int .i64 z] rfl rfl (World.news_of_block (cs := #[.int .i64 z]) (t := 3) (fr := (0, 0)) (heap_alloc_new wu (.cells #[.int .i64 z] 3))) (by simp [Value.oneCell']) (by omega) (by unfold maxLen; omega) (by omega) (by simp; omega) (wu.heap.size + 1) (by simp) ?_; intro g5 c5 w5 hown5 hgrow5 _ hlt5; have HO5 := Lib.hid hown5; have HB5 := Lib.hid (Below.grown (B := w.heap.size) (Below.alloc (B := w.heap.size) (Below.refl _ wu) (by omega) (.cells #[.int .i64 z] 3)) hgrow5 (by simp; omega) (fun b hb => ((HU.out.o).lt b hb).1)); clear hown5 hgrow5)
            have HX := Lib.hid (HU.out.grown HB5.out HO5.out (AllI.one z))
            clear HU HB5 HO5
            obtain ⟨V, hV⟩ := ints_of_all HX.out.o HX.out.x
            have HVF := Lib.hid hV
            clear hV
            go_wp2_with (fail)
            go_ret
            exact ⟨_, n + 1 + 1, c5, V, rfl, by omega, HVF.out, HX.out.s.more (by omega) (by omega), HX.out.m⟩
        · have hw1 : IntKind.i64.wrap ((n : Int) + 1 - 2) = (n : Int) + 1 - 2 := i64w (by omega)
          go_wp2_with (fail)
          refine (next_any B _ ((n : Int) + 1 - 2) w3 HD3.out.s (by omega) (by omega) (by omega)).mono ?_
          rintro e w4 ⟨⟨r, rfl, hr0, hr1⟩, hst, hmt⟩
          have HQ := Lib.hid (HD3.out.next hmt hst)
          clear hst hmt HD3
          obtain ⟨j, hj⟩ : ∃ j : Nat, 1 + r = (j : Int) := ⟨(1 + r).toNat, by omega⟩
          have hjn : j < n + 1 := by omega
          have hjn' : (j : Int) < (n : Int) + 1 := by omega
          have hw2 : IntKind.i64.wrap (1 + r) = (j : Int) := by rw [i64w (by omega)]; exact hj
          have hlen := HQ.out.o.1
          obtain ⟨xv, hxv⟩ := HQ.out.x xs[j] (List.getElem_mem (by omega))
          have HXJ := Lib.hid (show xs[j]? = some (.int .i64 xv) by rw [List.getElem?_eq_getElem (by omega), hxv])
          clear hj hlen hxv hr0 hr1
          go_wp2_with (fail)
          refine wp_region_held_drew (S := (fun _ => True)) (by kernel_rfl) True.intro (fun hHeld => ?_)
          have hdr : Below w4.heap.size w4 w4.drew := (Below.refl _ _).drew
          replace HQ := Lib.hid (HQ.out.next (mutV_of_bel hdr) (StrmV.below HQ.out.s hdr))
          clear hdr
          generalize w4.drew = W0 at *
          refine tkH (by assumption) 0 (oi := ?_) (v := ?_) ?_ ?_ ?_ ?_ ?_ ?_ ?_ ?_; rotate_left 2; (simp only [gA, gB, gC]; exact rfl); kernel_rfl; kernel_rfl; kernel_rfl; exact fun _ _ _ h => h; rfl; (intro w' hSw; (try dsimp only at hSw); go_simp; with_reducible rfl); simp only [Act.put, pB, pC, pD]
          refine tkH (by assumption) 1 (oi := ?_) (v := ?_) ?_ ?_ ?_ ?_ ?_ ?_ ?_ ?_; rotate_left 2; (simp only [gA, gB, gC]; exact rfl); kernel_rfl; kernel_rfl; kernel_rfl; exact fun _ _ _ h => h; rfl; (intro w' hSw; (try dsimp only at hSw); go_simp; with_reducible rfl); simp only [Act.put, pB, pC, pD]
          refine tkH (by assumption) 2 (oi := ?_) (v := ?_) ?_ ?_ ?_ ?_ ?_ ?_ ?_ ?_; rotate_left 2; (simp only [gA, gB, gC]; exact rfl); kernel_rfl; kernel_rfl; kernel_rfl; exact fun _ _ _ h => h; rfl; (intro w' hSw; (try dsimp only at hSw); go_simp; with_reducible rfl); simp only [Act.put, pB, pC, pD]
          refine tkH (by assumption) 3 (oi := ?_) (v := ?_) ?_ ?_ ?_ ?_ ?_ ?_ ?_ ?_; rotate_left 2; (simp only [gA, gB, gC]; exact rfl); kernel_rfl; kernel_rfl; kernel_rfl; exact fun _ _ _ h => h; rfl; (intro w' hSw; (try dsimp only at hSw); go_simp; with_reducible rfl); simp only [Act.put, pB, pC, pD]
          refine tkH (by assumption) 4 (oi := ?_) (v := ?_) ?_ ?_ ?_ ?_ ?_ ?_ ?_ ?_; rotate_left 2; (simp only [gA, gB, gC]; exact rfl); kernel_rfl; kernel_rfl; kernel_rfl; exact fun _ _ _ h => h; rfl; (intro w' hSw; (try dsimp only at hSw); go_simp; with_reducible rfl); simp only [Act.put, pB, pC, pD]
          refine tkH (by assumption) 6 (oi := ?_) (v := ?_) ?_ ?_ ?_ ?_ ?_ ?_ ?_ ?_; rotate_left 2; (simp only [gA, gB, gC]; exact rfl); kernel_rfl; kernel_rfl; kernel_rfl; exact fun _ _ _ h => h; rfl; (intro w' hSw; (try dsimp only at hSw); go_simp; with_reducible rfl); simp only [Act.put, pB, pC, pD]
          refine wpAnyH_ready (rs := [5, 7]) (by kernel_rfl) (by simp) ?_
          refine coH 5 (oi := ?_) ?_ ?_ (fun K hK => ?_) ?_; rotate_left; (simp only [gA, gB, gC]; exact rfl); rfl
          · skip
            have cx := HQ.out.o.cellAt j (by omega)
            rw [HXJ.out] at cx
            go_wp2_with (fail)
            clear cx
            refine hK.out _ _ True.intro (fun hHeldN => ?_)
            clear hK K hHeld
            have hHeld := hHeldN
            clear hHeldN
            try simp only [Act.put, pB, pC, pD]
            refine wpAnyH_ready (rs := [7]) (by kernel_rfl) (by simp) ?_
            refine coH 7 (oi := ?_) ?_ ?_ (fun K hK => ?_) ?_; rotate_left; (simp only [gA, gB, gC]; exact rfl); rfl
            · skip
              go_wp2_with (fail)
              have hb : Below W0.heap.size W0 (W0.alloc (.cells #[.int .i64 (-1), .int .i64 1, .int .i64 (-5), .int .i64 (-20)] 3)) := (Below.refl _ _).alloc (Nat.le_refl _) _
              have cA : ∀ i, i < 4 → ∃ z, (W0.alloc (.cells #[.int .i64 (-1), .int .i64 1, .int .i64 (-5), .int .i64 (-20)] 3)).cell? ⟨W0.heap.size, i, none⟩ = some (.int .i64 z) ∧ True := cells_lit W0 [-1, 1, -5, -20] 3 (fun _ => True) (by simp)
              have lA : W0.heap.size < (W0.alloc (.cells #[.int .i64 (-1), .int .i64 1, .int .i64 (-5), .int .i64 (-20)] 3)).heap.size := by simp
              have bA : W0.heap.size ≠ B := by have := HQ.out.size; have := HQ.out.l; omega
              replace HQ := Lib.hid (HQ.out.next (mutV_of_bel hb) (StrmV.below HQ.out.s hb))
              refine hK.out _ _ True.intro (fun hHeldN => ?_)
              clear hK K hHeld
              have hHeld := hHeldN
              clear hHeldN
              try simp only [Act.put, pB, pC, pD]
              generalize (W0.alloc (.cells #[.int .i64 (-1), .int .i64 1, .int .i64 (-5), .int .i64 (-20)] 3)) = X2 at *
              obtain ⟨qA, hg⟩ : ∃ g, g = W0.heap.size := ⟨_, rfl⟩
              rw [← hg] at cA lA bA ⊢
              clear hg hb
              refine wpAnyH_ready (rs := [8]) (by kernel_rfl) (by simp) ?_
              refine coH 8 (oi := ?_) ?_ ?_ (fun K hK => ?_) ?_; rotate_left; (simp only [gA, gB, gC]; exact rfl); rfl
              · skip
                go_wp2_with (fail)
                refine (pick_any B _ qA 4 4 (fun _ => True) X2 HQ.out.s (by omega) (by omega) (by omega) bA lA cA).mono ?_
                rintro e X3 ⟨⟨pz, rfl, _⟩, hst, hmt⟩
                replace HQ := Lib.hid (HQ.out.next hmt hst)
                refine hK.out _ _ True.intro (fun hHeldN => ?_)
                clear hK K hHeld
                have hHeld := hHeldN
                clear hHeldN
                try simp only [Act.put, pB, pC, pD]
                clear hst hmt cA lA bA
                obtain ⟨ys, hys⟩ : ∃ y, IntKind.i64.wrap (xv + pz) = y := ⟨_, rfl⟩
                obtain ⟨zs, hzs⟩ : ∃ y, (if ys > 0 then ys else 0) = y := ⟨_, rfl⟩
                refine tkH (by assumption) 9 (oi := ?_) (v := ?_) ?_ ?_ ?_ ?_ ?_ ?_ ?_ ?_; rotate_left 2; (simp only [gA, gB, gC]; exact rfl); kernel_rfl; kernel_rfl; kernel_rfl; exact fun _ _ _ h => h; rfl; (intro w' hSw; (try dsimp only at hSw); go_simp; with_reducible rfl); simp only [Act.put, pB, pC, pD]
                refine tkH (by assumption) 10 (oi := ?_) (v := ?_) ?_ ?_ ?_ ?_ ?_ ?_ ?_ ?_; rotate_left 2; (simp only [gA, gB, gC]; exact rfl); kernel_rfl; kernel_rfl; kernel_rfl; exact fun _ _ _ h => h; rfl; (intro w' hSw; (try dsimp only at hSw); go_simp; with_reducible rfl); simp only [Act.put, pB, pC, pD]
                clear hys hzs
                refine tkH (by assumption) 11 (oi := ?_) (v := ?_) ?_ ?_ ?_ ?_ ?_ ?_ ?_ ?_; rotate_left 2; (simp only [gA, gB, gC]; exact rfl); kernel_rfl; kernel_rfl; kernel_rfl; exact fun _ _ _ h => h; rfl; (intro w' hSw; (try dsimp only at hSw); go_simp; with_reducible rfl); simp only [Act.put, pB, pC, pD]
                refine onH 12 (oi := ?_) (by kernel_rfl) ?_ ?_ (fun K hK => ?_); rotate_left; (simp only [gA, gB, gC]; exact rfl); rfl
                have cx := HQ.out.o.cellAt j (by omega)
                rw [HXJ.out] at cx
                have fx := HQ.out.o.frozenAt j
                go_wp2_with (fail)
                replace HQ := Lib.hid (HQ.out.set j zs)
                clear cx fx
                refine hK.out _ _ True.intro (fun hHeldN => ?_)
                clear hK K hHeld
                have hHeld := hHeldN
                clear hHeldN
                try simp only [Act.put, pB, pC, pD]
                refine wpAnyH_done (by kernel_rfl) ?_ _
                go_wp2_with (fail)
                generalize (X3.setCell ⟨g, j, none⟩ (.int .i64 zs)) = wF at *
                refine (flip_any B _ 12 wF HQ.out.s (by omega) (by omega) (by omega)).mono ?_
                rintro e wt ⟨⟨f, rfl⟩, hst, hmt⟩
                have HT := Lib.hid (HQ.out.next hmt hst)
                have hszt := HT.out.size
                clear hst hmt HQ
                rcases f with _ | _
                · skip
                  obtain ⟨V, hV⟩ := ints_of_all HT.out.o HT.out.x
                  have HVF := Lib.hid hV
                  clear hV
                  go_wp2_with (fail)
                  go_ret
                  exact ⟨some ⟨g, 0, none⟩, n + 1, n + 1, V, rfl, by omega, HVF.out, HT.out.s.more (by omega) (by omega), HT.out.m⟩
                · go_wp2_with (fail)
                  refine (pick_atV B _ [0, -1, 5] 3 (fun _ => True) wt _ rfl HT.out.s (by omega) rfl (by omega) (by omega) (by simp)).mono ?_
                  rintro e wu ⟨⟨z, rfl, _⟩, hst, hmt⟩
                  have HU := Lib.hid (HT.out.next hmt hst)
                  have hszu := HU.out.size
                  clear hst hmt HT
                  go_wp2_with (at_builtin; refine wpList_append_lies _ rfl _ _ 22 rfl w.heap.size 3 i0 (.int .i64 0) 1 8 Try.underlying22 hi0 hz0 hz1 hz2 rfl (by decide) _ _ _ rfl (ownsRow_below HU.out.o ((Below.refl _ wu).alloc (Nat.le_refl _) _)) ⟨wu.heap.size, 0, none⟩ 1 1 [.int .i64 z] rfl rfl (World.news_of_block (cs := #[.int .i64 z]) (t := 3) (fr := (0, 0)) (heap_alloc_new wu (.cells #[.int .i64 z] 3))) (by simp [Value.oneCell']) (by omega) (by unfold maxLen; omega) (by omega) (by simp; omega) (wu.heap.size + 1) (by simp) ?_; intro g5 c5 w5 hown5 hgrow5 _ hlt5; have HO5 := Lib.hid hown5; have HB5 := Lib.hid (Below.grown (B := w.heap.size) (Below.alloc (B := w.heap.size) (Below.refl _ wu) (by omega) (.cells #[.int .i64 z] 3)) hgrow5 (by simp; omega) (fun b hb => ((HU.out.o).lt b hb).1)); clear hown5 hgrow5)
                  have HX := Lib.hid (HU.out.grown HB5.out HO5.out (AllI.one z))
                  clear HU HB5 HO5
                  obtain ⟨V, hV⟩ := ints_of_all HX.out.o HX.out.x
                  have HVF := Lib.hid hV
                  clear hV
                  go_wp2_with (fail)
                  go_ret
                  exact ⟨_, n + 1 + 1, c5, V, rfl, by omega, HVF.out, HX.out.s.more (by omega) (by omega), HX.out.m⟩
              exact AllReadyH.nil
            exact AllReadyH.nil
          refine coH 7 (oi := ?_) ?_ ?_ (fun K hK => ?_) ?_; rotate_left; (simp only [gA, gB, gC]; exact rfl); rfl
          · skip
            go_wp2_with (fail)
            have hb : Below W0.heap.size W0 (W0.alloc (.cells #[.int .i64 (-1), .int .i64 1, .int .i64 (-5), .int .i64 (-20)] 3)) := (Below.refl _ _).alloc (Nat.le_refl _) _
            have cA : ∀ i, i < 4 → ∃ z, (W0.alloc (.cells #[.int .i64 (-1), .int .i64 1, .int .i64 (-5), .int .i64 (-20)] 3)).cell? ⟨W0.heap.size, i, none⟩ = some (.int .i64 z) ∧ True := cells_lit W0 [-1, 1, -5, -20] 3 (fun _ => True) (by simp)
            have lA : W0.heap.size < (W0.alloc (.cells #[.int .i64 (-1), .int .i64 1, .int .i64 (-5), .int .i64 (-20)] 3)).heap.size := by simp
            have bA : W0.heap.size ≠ B := by have := HQ.out.size; have := HQ.out.l; omega
            replace HQ := Lib.hid (HQ.out.next (mutV_of_bel hb) (StrmV.below HQ.out.s hb))
            refine hK.out _ _ True.intro (fun hHeldN => ?_)
            clear hK K hHeld
            have hHeld := hHeldN
            clear hHeldN
            try simp only [Act.put, pB, pC, pD]
            generalize (W0.alloc (.cells #[.int .i64 (-1), .int .i64 1, .int .i64 (-5), .int .i64 (-20)] 3)) = X4 at *
            obtain ⟨qA, hg⟩ : ∃ g, g = W0.heap.size := ⟨_, rfl⟩
            rw [← hg] at cA lA bA ⊢
            clear hg hb
            refine wpAnyH_ready (rs := [5, 8]) (by kernel_rfl) (by simp) ?_
            refine coH 5 (oi := ?_) ?_ ?_ (fun K hK => ?_) ?_; rotate_left; (simp only [gA, gB, gC]; exact rfl); rfl
            · skip
              have cx := HQ.out.o.cellAt j (by omega)
              rw [HXJ.out] at cx
              go_wp2_with (fail)
              clear cx
              refine hK.out _ _ True.intro (fun hHeldN => ?_)
              clear hK K hHeld
              have hHeld := hHeldN
              clear hHeldN
              try simp only [Act.put, pB, pC, pD]
              refine wpAnyH_ready (rs := [8]) (by kernel_rfl) (by simp) ?_
              refine coH 8 (oi := ?_) ?_ ?_ (fun K hK => ?_) ?_; rotate_left; (simp only [gA, gB, gC]; exact rfl); rfl
              · skip
                go_wp2_with (fail)
                refine (pick_any B _ qA 4 4 (fun _ => True) X4 HQ.out.s (by omega) (by omega) (by omega) bA lA cA).mono ?_
                rintro e X6 ⟨⟨pz, rfl, _⟩, hst, hmt⟩
                replace HQ := Lib.hid (HQ.out.next hmt hst)
                refine hK.out _ _ True.intro (fun hHeldN => ?_)
                clear hK K hHeld
                have hHeld := hHeldN
                clear hHeldN
                try simp only [Act.put, pB, pC, pD]
                clear hst hmt cA lA bA
                obtain ⟨ys, hys⟩ : ∃ y, IntKind.i64.wrap (xv + pz) = y := ⟨_, rfl⟩
                obtain ⟨zs, hzs⟩ : ∃ y, (if ys > 0 then ys else 0) = y := ⟨_, rfl⟩
                refine tkH (by assumption) 9 (oi := ?_) (v := ?_) ?_ ?_ ?_ ?_ ?_ ?_ ?_ ?_; rotate_left 2; (simp only [gA, gB, gC]; exact rfl); kernel_rfl; kernel_rfl; kernel_rfl; exact fun _ _ _ h => h; rfl; (intro w' hSw; (try dsimp only at hSw); go_simp; with_reducible rfl); simp only [Act.put, pB, pC, pD]
                refine tkH (by assumption) 10 (oi := ?_) (v := ?_) ?_ ?_ ?_ ?_ ?_ ?_ ?_ ?_; rotate_left 2; (simp only [gA, gB, gC]; exact rfl); kernel_rfl; kernel_rfl; kernel_rfl; exact fun _ _ _ h => h; rfl; (intro w' hSw; (try dsimp only at hSw); go_simp; with_reducible rfl); simp only [Act.put, pB, pC, pD]
                clear hys hzs
                refine tkH (by assumption) 11 (oi := ?_) (v := ?_) ?_ ?_ ?_ ?_ ?_ ?_ ?_ ?_; rotate_left 2; (simp only [gA, gB, gC]; exact rfl); kernel_rfl; kernel_rfl; kernel_rfl; exact fun _ _ _ h => h; rfl; (intro w' hSw; (try dsimp only at hSw); go_simp; with_reducible rfl); simp only [Act.put, pB, pC, pD]
                refine onH 12 (oi := ?_) (by kernel_rfl) ?_ ?_ (fun K hK => ?_); rotate_left; (simp only [gA, gB, gC]; exact rfl); rfl
                have cx := HQ.out.o.cellAt j (by omega)
                rw [HXJ.out] at cx
                have fx := HQ.out.o.frozenAt j
                go_wp2_with (fail)
                replace HQ := Lib.hid (HQ.out.set j zs)
                clear cx fx
                refine hK.out _ _ True.intro (fun hHeldN => ?_)
                clear hK K hHeld
                have hHeld := hHeldN
                clear hHeldN
                try simp only [Act.put, pB, pC, pD]
                refine wpAnyH_done (by kernel_rfl) ?_ _
                go_wp2_with (fail)
                generalize (X6.setCell ⟨g, j, none⟩ (.int .i64 zs)) = wF at *
                refine (flip_any B _ 12 wF HQ.out.s (by omega) (by omega) (by omega)).mono ?_
                rintro e wt ⟨⟨f, rfl⟩, hst, hmt⟩
                have HT := Lib.hid (HQ.out.next hmt hst)
                have hszt := HT.out.size
                clear hst hmt HQ
                rcases f with _ | _
                · skip
                  obtain ⟨V, hV⟩ := ints_of_all HT.out.o HT.out.x
                  have HVF := Lib.hid hV
                  clear hV
                  go_wp2_with (fail)
                  go_ret
                  exact ⟨some ⟨g, 0, none⟩, n + 1, n + 1, V, rfl, by omega, HVF.out, HT.out.s.more (by omega) (by omega), HT.out.m⟩
                · go_wp2_with (fail)
                  refine (pick_atV B _ [0, -1, 5] 3 (fun _ => True) wt _ rfl HT.out.s (by omega) rfl (by omega) (by omega) (by simp)).mono ?_
                  rintro e wu ⟨⟨z, rfl, _⟩, hst, hmt⟩
                  have HU := Lib.hid (HT.out.next hmt hst)
                  have hszu := HU.out.size
                  clear hst hmt HT
                  go_wp2_with (at_builtin; refine wpList_append_lies _ rfl _ _ 22 rfl w.heap.size 3 i0 (.int .i64 0) 1 8 Try.underlying22 hi0 hz0 hz1 hz2 rfl (by decide) _ _ _ rfl (ownsRow_below HU.out.o ((Below.refl _ wu).alloc (Nat.le_refl _) _)) ⟨wu.heap.size, 0, none⟩ 1 1 [.int .i64 z] rfl rfl (World.news_of_block (cs := #[.int .i64 z]) (t := 3) (fr := (0, 0)) (heap_alloc_new wu (.cells #[.int .i64 z] 3))) (by simp [Value.oneCell']) (by omega) (by unfold maxLen; omega) (by omega) (by simp; omega) (wu.heap.size + 1) (by simp) ?_; intro g5 c5 w5 hown5 hgrow5 _ hlt5; have HO5 := Lib.hid hown5; have HB5 := Lib.hid (Below.grown (B := w.heap.size) (Below.alloc (B := w.heap.size) (Below.refl _ wu) (by omega) (.cells #[.int .i64 z] 3)) hgrow5 (by simp; omega) (fun b hb => ((HU.out.o).lt b hb).1)); clear hown5 hgrow5)
                  have HX := Lib.hid (HU.out.grown HB5.out HO5.out (AllI.one z))
                  clear HU HB5 HO5
                  obtain ⟨V, hV⟩ := ints_of_all HX.out.o HX.out.x
                  have HVF := Lib.hid hV
                  clear hV
                  go_wp2_with (fail)
                  go_ret
                  exact ⟨_, n + 1 + 1, c5, V, rfl, by omega, HVF.out, HX.out.s.more (by omega) (by omega), HX.out.m⟩
              exact AllReadyH.nil
            refine coH 8 (oi := ?_) ?_ ?_ (fun K hK => ?_) ?_; rotate_left; (simp only [gA, gB, gC]; exact rfl); rfl
            · skip
              go_wp2_with (fail)
              refine (pick_any B _ qA 4 4 (fun _ => True) X4 HQ.out.s (by omega) (by omega) (by omega) bA lA cA).mono ?_
              rintro e X7 ⟨⟨pz, rfl, _⟩, hst, hmt⟩
              replace HQ := Lib.hid (HQ.out.next hmt hst)
              refine hK.out _ _ True.intro (fun hHeldN => ?_)
              clear hK K hHeld
              have hHeld := hHeldN
              clear hHeldN
              try simp only [Act.put, pB, pC, pD]
              clear hst hmt cA lA bA
              refine wpAnyH_ready (rs := [5]) (by kernel_rfl) (by simp) ?_
              refine coH 5 (oi := ?_) ?_ ?_ (fun K hK => ?_) ?_; rotate_left; (simp only [gA, gB, gC]; exact rfl); rfl
              · skip
                have cx := HQ.out.o.cellAt j (by omega)
                rw [HXJ.out] at cx
                go_wp2_with (fail)
                clear cx
                refine hK.out _ _ True.intro (fun hHeldN => ?_)
                clear hK K hHeld
                have hHeld := hHeldN
                clear hHeldN
                try simp only [Act.put, pB, pC, pD]
                obtain ⟨ys, hys⟩ : ∃ y, IntKind.i64.wrap (xv + pz) = y := ⟨_, rfl⟩
                obtain ⟨zs, hzs⟩ : ∃ y, (if ys > 0 then ys else 0) = y := ⟨_, rfl⟩
                refine tkH (by assumption) 9 (oi := ?_) (v := ?_) ?_ ?_ ?_ ?_ ?_ ?_ ?_ ?_; rotate_left 2; (simp only [gA, gB, gC]; exact rfl); kernel_rfl; kernel_rfl; kernel_rfl; exact fun _ _ _ h => h; rfl; (intro w' hSw; (try dsimp only at hSw); go_simp; with_reducible rfl); simp only [Act.put, pB, pC, pD]
                refine tkH (by assumption) 10 (oi := ?_) (v := ?_) ?_ ?_ ?_ ?_ ?_ ?_ ?_ ?_; rotate_left 2; (simp only [gA, gB, gC]; exact rfl); kernel_rfl; kernel_rfl; kernel_rfl; exact fun _ _ _ h => h; rfl; (intro w' hSw; (try dsimp only at hSw); go_simp; with_reducible rfl); simp only [Act.put, pB, pC, pD]
                clear hys hzs
                refine tkH (by assumption) 11 (oi := ?_) (v := ?_) ?_ ?_ ?_ ?_ ?_ ?_ ?_ ?_; rotate_left 2; (simp only [gA, gB, gC]; exact rfl); kernel_rfl; kernel_rfl; kernel_rfl; exact fun _ _ _ h => h; rfl; (intro w' hSw; (try dsimp only at hSw); go_simp; with_reducible rfl); simp only [Act.put, pB, pC, pD]
                refine onH 12 (oi := ?_) (by kernel_rfl) ?_ ?_ (fun K hK => ?_); rotate_left; (simp only [gA, gB, gC]; exact rfl); rfl
                have cx := HQ.out.o.cellAt j (by omega)
                rw [HXJ.out] at cx
                have fx := HQ.out.o.frozenAt j
                go_wp2_with (fail)
                replace HQ := Lib.hid (HQ.out.set j zs)
                clear cx fx
                refine hK.out _ _ True.intro (fun hHeldN => ?_)
                clear hK K hHeld
                have hHeld := hHeldN
                clear hHeldN
                try simp only [Act.put, pB, pC, pD]
                refine wpAnyH_done (by kernel_rfl) ?_ _
                go_wp2_with (fail)
                generalize (X7.setCell ⟨g, j, none⟩ (.int .i64 zs)) = wF at *
                refine (flip_any B _ 12 wF HQ.out.s (by omega) (by omega) (by omega)).mono ?_
                rintro e wt ⟨⟨f, rfl⟩, hst, hmt⟩
                have HT := Lib.hid (HQ.out.next hmt hst)
                have hszt := HT.out.size
                clear hst hmt HQ
                rcases f with _ | _
                · skip
                  obtain ⟨V, hV⟩ := ints_of_all HT.out.o HT.out.x
                  have HVF := Lib.hid hV
                  clear hV
                  go_wp2_with (fail)
                  go_ret
                  exact ⟨some ⟨g, 0, none⟩, n + 1, n + 1, V, rfl, by omega, HVF.out, HT.out.s.more (by omega) (by omega), HT.out.m⟩
                · go_wp2_with (fail)
                  refine (pick_atV B _ [0, -1, 5] 3 (fun _ => True) wt _ rfl HT.out.s (by omega) rfl (by omega) (by omega) (by simp)).mono ?_
                  rintro e wu ⟨⟨z, rfl, _⟩, hst, hmt⟩
                  have HU := Lib.hid (HT.out.next hmt hst)
                  have hszu := HU.out.size
                  clear hst hmt HT
                  go_wp2_with (at_builtin; refine wpList_append_lies _ rfl _ _ 22 rfl w.heap.size 3 i0 (.int .i64 0) 1 8 Try.underlying22 hi0 hz0 hz1 hz2 rfl (by decide) _ _ _ rfl (ownsRow_below HU.out.o ((Below.refl _ wu).alloc (Nat.le_refl _) _)) ⟨wu.heap.size, 0, none⟩ 1 1 [.int .i64 z] rfl rfl (World.news_of_block (cs := #[.int .i64 z]) (t := 3) (fr := (0, 0)) (heap_alloc_new wu (.cells #[.int .i64 z] 3))) (by simp [Value.oneCell']) (by omega) (by unfold maxLen; omega) (by omega) (by simp; omega) (wu.heap.size + 1) (by simp) ?_; intro g5 c5 w5 hown5 hgrow5 _ hlt5; have HO5 := Lib.hid hown5; have HB5 := Lib.hid (Below.grown (B := w.heap.size) (Below.alloc (B := w.heap.size) (Below.refl _ wu) (by omega) (.cells #[.int .i64 z] 3)) hgrow5 (by simp; omega) (fun b hb => ((HU.out.o).lt b hb).1)); clear hown5 hgrow5)
                  have HX := Lib.hid (HU.out.grown HB5.out HO5.out (AllI.one z))
                  clear HU HB5 HO5
                  obtain ⟨V, hV⟩ := ints_of_all HX.out.o HX.out.x
                  have HVF := Lib.hid hV
                  clear hV
                  go_wp2_with (fail)
                  go_ret
                  exact ⟨_, n + 1 + 1, c5, V, rfl, by omega, HVF.out, HX.out.s.more (by omega) (by omega), HX.out.m⟩
              exact AllReadyH.nil
            exact AllReadyH.nil
          exact AllReadyH.nil
      · have h2' : ¬ (2 : Int) < (n : Int) + 1 := by omega
        go_wp2_with (fail)
        refine (flip_any B _ 12 w2 HD2.out.s (by omega) (by omega) (by omega)).mono ?_
        rintro e wt ⟨⟨f, rfl⟩, hst, hmt⟩
        have HT := Lib.hid (HD2.out.next hmt hst)
        have hszt := HT.out.size
        clear hst hmt HD2
        rcases f with _ | _
        · skip
          obtain ⟨V, hV⟩ := ints_of_all HT.out.o HT.out.x
          have HVF := Lib.hid hV
          clear hV
          go_wp2_with (fail)
          go_ret
          exact ⟨some ⟨g, 0, none⟩, n + 1, n + 1, V, rfl, by omega, HVF.out, HT.out.s.more (by omega) (by omega), HT.out.m⟩
        · go_wp2_with (fail)
          refine (pick_atV B _ [0, -1, 5] 3 (fun _ => True) wt _ rfl HT.out.s (by omega) rfl (by omega) (by omega) (by simp)).mono ?_
          rintro e wu ⟨⟨z, rfl, _⟩, hst, hmt⟩
          have HU := Lib.hid (HT.out.next hmt hst)
          have hszu := HU.out.size
          clear hst hmt HT
          go_wp2_with (at_builtin; refine wpList_append_lies _ rfl _ _ 22 rfl w.heap.size 3 i0 (.int .i64 0) 1 8 Try.underlying22 hi0 hz0 hz1 hz2 rfl (by decide) _ _ _ rfl (ownsRow_below HU.out.o ((Below.refl _ wu).alloc (Nat.le_refl _) _)) ⟨wu.heap.size, 0, none⟩ 1 1 [.int .i64 z] rfl rfl (World.news_of_block (cs := #[.int .i64 z]) (t := 3) (fr := (0, 0)) (heap_alloc_new wu (.cells #[.int .i64 z] 3))) (by simp [Value.oneCell']) (by omega) (by unfold maxLen; omega) (by omega) (by simp; omega) (wu.heap.size + 1) (by simp) ?_; intro g5 c5 w5 hown5 hgrow5 _ hlt5; have HO5 := Lib.hid hown5; have HB5 := Lib.hid (Below.grown (B := w.heap.size) (Below.alloc (B := w.heap.size) (Below.refl _ wu) (by omega) (.cells #[.int .i64 z] 3)) hgrow5 (by simp; omega) (fun b hb => ((HU.out.o).lt b hb).1)); clear hown5 hgrow5)
          have HX := Lib.hid (HU.out.grown HB5.out HO5.out (AllI.one z))
          clear HU HB5 HO5
          obtain ⟨V, hV⟩ := ints_of_all HX.out.o HX.out.x
          have HVF := Lib.hid hV
          clear hV
          go_wp2_with (fail)
          go_ret
          exact ⟨_, n + 1 + 1, c5, V, rfl, by omega, HVF.out, HX.out.s.more (by omega) (by omega), HX.out.m⟩
    · have hy' : (chE c == 0) = false := by simpa using hy
      clear hy
      go_wp2_with (go_at_call 27; refine (changeFault_any _ _).mono ?_; rintro e w' ⟨rfl, rfl⟩)
      refine (flip_any B _ 12 w1 HN1.out.s (by omega) (by omega) (by omega)).mono ?_
      rintro e wt ⟨⟨f, rfl⟩, hst, hmt⟩
      have HT := Lib.hid (HN1.out.next hmt hst)
      have hszt := HT.out.size
      clear hst hmt HN1
      rcases f with _ | _
      · skip
        obtain ⟨V, hV⟩ := ints_of_all HT.out.o HT.out.x
        have HVF := Lib.hid hV
        clear hV
        go_wp2_with (fail)
        go_ret
        exact ⟨none, 0, 0, V, rfl, by omega, HVF.out, HT.out.s.more (by omega) (by omega), HT.out.m⟩
      · go_wp2_with (fail)
        refine (pick_atV B _ [0, -1, 5] 3 (fun _ => True) wt _ rfl HT.out.s (by omega) rfl (by omega) (by omega) (by simp)).mono ?_
        rintro e wu ⟨⟨z, rfl, _⟩, hst, hmt⟩
        have HU := Lib.hid (HT.out.next hmt hst)
        have hszu := HU.out.size
        clear hst hmt HT
        go_wp2_with (at_builtin; refine wpList_append_lies _ rfl _ _ 22 rfl w.heap.size 3 i0 (.int .i64 0) 1 8 Try.underlying22 hi0 hz0 hz1 hz2 rfl (by decide) _ _ _ rfl (ownsRow_below HU.out.o ((Below.refl _ wu).alloc (Nat.le_refl _) _)) ⟨wu.heap.size, 0, none⟩ 1 1 [.int .i64 z] rfl rfl (World.news_of_block (cs := #[.int .i64 z]) (t := 3) (fr := (0, 0)) (heap_alloc_new wu (.cells #[.int .i64 z] 3))) (by simp [Value.oneCell']) (by omega) (by unfold maxLen; omega) (by omega) (by simp; omega) (wu.heap.size + 1) (by simp) ?_; intro g5 c5 w5 hown5 hgrow5 _ hlt5; have HO5 := Lib.hid hown5; have HB5 := Lib.hid (Below.grown (B := w.heap.size) (Below.alloc (B := w.heap.size) (Below.refl _ wu) (by omega) (.cells #[.int .i64 z] 3)) hgrow5 (by simp; omega) (fun b hb => ((HU.out.o).lt b hb).1)); clear hown5 hgrow5)
        have HX := Lib.hid (HU.out.grown HB5.out HO5.out (AllI.one z))
        clear HU HB5 HO5
        obtain ⟨V, hV⟩ := ints_of_all HX.out.o HX.out.x
        have HVF := Lib.hid hV
        clear hV
        go_wp2_with (fail)
        go_ret
        exact ⟨_, 0 + 1, c5, V, rfl, by omega, HVF.out, HX.out.s.more (by omega) (by omega), HX.out.m⟩
  · have hz' : (cornE n L M m C == 0) = false := by simpa using hz
    clear hz
    go_wp2_with (fail)
    refine (flip_any B _ 12 w1 HN1.out.s (by omega) (by omega) (by omega)).mono ?_
    rintro e wt ⟨⟨f, rfl⟩, hst, hmt⟩
    have HT := Lib.hid (HN1.out.next hmt hst)
    have hszt := HT.out.size
    clear hst hmt HN1
    rcases f with _ | _
    · skip
      obtain ⟨V, hV⟩ := ints_of_all HT.out.o HT.out.x
      have HVF := Lib.hid hV
      clear hV
      go_wp2_with (fail)
      go_ret
      exact ⟨none, 0, 0, V, rfl, by omega, HVF.out, HT.out.s.more (by omega) (by omega), HT.out.m⟩
    · go_wp2_with (fail)
      refine (pick_atV B _ [0, -1, 5] 3 (fun _ => True) wt _ rfl HT.out.s (by omega) rfl (by omega) (by omega) (by simp)).mono ?_
      rintro e wu ⟨⟨z, rfl, _⟩, hst, hmt⟩
      have HU := Lib.hid (HT.out.next hmt hst)
      have hszu := HU.out.size
      clear hst hmt HT
      go_wp2_with (at_builtin; refine wpList_append_lies _ rfl _ _ 22 rfl w.heap.size 3 i0 (.int .i64 0) 1 8 Try.underlying22 hi0 hz0 hz1 hz2 rfl (by decide) _ _ _ rfl (ownsRow_below HU.out.o ((Below.refl _ wu).alloc (Nat.le_refl _) _)) ⟨wu.heap.size, 0, none⟩ 1 1 [.int .i64 z] rfl rfl (World.news_of_block (cs := #[.int .i64 z]) (t := 3) (fr := (0, 0)) (heap_alloc_new wu (.cells #[.int .i64 z] 3))) (by simp [Value.oneCell']) (by omega) (by unfold maxLen; omega) (by omega) (by simp; omega) (wu.heap.size + 1) (by simp) ?_; intro g5 c5 w5 hown5 hgrow5 _ hlt5; have HO5 := Lib.hid hown5; have HB5 := Lib.hid (Below.grown (B := w.heap.size) (Below.alloc (B := w.heap.size) (Below.refl _ wu) (by omega) (.cells #[.int .i64 z] 3)) hgrow5 (by simp; omega) (fun b hb => ((HU.out.o).lt b hb).1)); clear hown5 hgrow5)
      have HX := Lib.hid (HU.out.grown HB5.out HO5.out (AllI.one z))
      clear HU HB5 HO5
      obtain ⟨V, hV⟩ := ints_of_all HX.out.o HX.out.x
      have HVF := Lib.hid hV
      clear hV
      go_wp2_with (fail)
      go_ret
      exact ⟨_, 0 + 1, c5, V, rfl, by omega, HVF.out, HX.out.s.more (by omega) (by omega), HX.out.m⟩
end Go.Proofs.Yteodekmncgmjeaa

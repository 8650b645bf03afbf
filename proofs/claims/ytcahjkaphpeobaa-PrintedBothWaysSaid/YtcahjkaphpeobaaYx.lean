/- Drawn paths, drawn. -/
import Derived.Test.YtcahjkaphpeobaaYw
set_option linter.unusedSimpArgs false
set_option linter.unusedVariables false
namespace Go.Proofs.Ytcahjkaphpeobaa
open Go.RowKit

def PListE (w : World) (B k : Nat) (e : Ending) (w' : World) : Prop := ∃ a t c L, e = .returned (.slice a t c) ∧ t ≤ 5 ∧ PO w w' B k (.slice a t c) t L
set_option maxRecDepth 100000 in
set_option maxHeartbeats 16000000 in
theorem pathListM_any (M : Int) (hM : 0 ≤ M ∧ M ≤ 5) (B k : Nat) (w : World) (hs : Strm w B k) (hk : k + 100 ≤ 1000000) :
    Calls Try.prog 10 #[.pointer (some ⟨B, 0, none⟩), .int .i64 M] w (PListE w B (k + 70)) := by
  obtain ⟨i0, hi0, hz0, hz1, hz2⟩ := info_parts info_point
  obtain ⟨i1, hi1, hy0, hy1, hy2⟩ := info_parts info_path
  have hB := hs.lt
  go_enter Try.func10, Try.ntmps10
  go_wp2_with (fail)
  refine (range_any B k 0 M w hs (by omega) (by omega) (by omega) (by omega)).mono ?_
  rintro e w1 ⟨⟨r, rfl, hr0, hr1⟩, hst1, hm1⟩
  obtain ⟨cn, rfl⟩ := Int.eq_ofNat_of_zero_le hr0
  have hcn : cn ≤ 5 := by omega
  have HO1 : Hid (PO w w1 B (k + 1) (.slice none 0 0) 0 (fun _ => ⟨none, 0, 0, fun _ => 0, fun _ => 0, false⟩)) := Lib.hid ⟨World.ownsRow_nil _ _ _ _, fun i hi => by omega, hst1, hm1, hB⟩
  clear hst1 hm1 hr0 hr1 hs
  go_wp2_with (fail)
  go_loopw [5, 11] (fun v i wr => ∃ t a c L, v = .slice a t c ∧ i = .int .i64 t ∧ t ≤ cn ∧ PO w wr B (k + 1 + 10 * t) (.slice a t c) t L) (fun _ i _ => cn - (intOf i).toNat)
  case atStart => exact ⟨0, _, _, _, rfl, rfl, by omega, HO1.out⟩
  case round =>
    clear HO1
    obtain ⟨t, a, c, L, rfl, rfl, ht, hpo⟩ := hrel
    have HO := Lib.hid hpo
    clear hpo
    by_cases hlt : t < cn
    · go_wp2_with (fail)
      have hZ : wr.heap.size < (wr.alloc (.cells #[.slice none 0 0, .bool false] 30)).heap.size := by simp
      have hst := HO.out.s
      have hl1 := hst.lt
      refine (range_any B _ 1 4 _ (hst.alloc (.cells #[.slice none 0 0, .bool false] 30)) (by omega) (by omega) (by omega) (by omega)).mono ?_
      rintro e w2 ⟨⟨r, rfl, hr0, hr1⟩, hst2, hm2⟩
      obtain ⟨m, rfl⟩ := Int.eq_ofNat_of_zero_le (show 0 ≤ r by omega)
      have hm4 : m ≤ 4 := by omega
      have HI0 : Hid (PI wr w2 B (k + 1 + 10 * t + 1) 0 none 0 (fun _ => 0) (fun _ => 0)) := Lib.hid ⟨(hm2.block _ (by simp) (by omega)).trans (heap_alloc_new wr _), World.ownsRow_nil _ _ _ _, hst2, ((Mut.refl _ wr).alloc _).trans (hm2.mono fun _ _ e => .inl e), hl1⟩
      clear hst hst2 hm2 hr0 hr1
      generalize hw0 : wr = w0 at *
      go_wp2_with (fail)
      go_loopw [15] (fun i wi => ∃ n a' c' X Y, i = .int .i64 (n : Nat) ∧ n ≤ m ∧ PI w0 wi B (k + 1 + 10 * t + 1 + 2 * n) n a' c' X Y) (fun i _ => m - (intOf i).toNat)
      case atStart => exact ⟨0, _, _, _, _, rfl, by omega, HI0.out⟩
      case round =>
        clear HI0
        obtain ⟨n, a', c', X, Y, rfl, hn, hpi⟩ := hrel
        have HI := Lib.hid hpi
        clear hpi
        by_cases hlt2 : n < m
        · go_wp2_with (fail)
          have hh := HI.out.h
          have c0 := cell_of hh (i := 0) rfl
          generalize hwY : wr = wY at *
          refine wp_region_held_drew (S := (fun _ => True)) (by kernel_rfl) True.intro (fun hHeld => ?_)
          refine tkH (by assumption) 0 (oi := ?_) (v := ?_) ?_ ?_ ?_ ?_ ?_ ?_ ?_ ?_; rotate_left 2; (simp only [gA, gB, gC]; exact rfl); kernel_rfl; kernel_rfl; kernel_rfl; exact fun _ _ _ h => h; rfl; (intro w' hSw; (try dsimp only at hSw); go_simp; with_reducible rfl); simp only [Act.put, pB, pC, pD]
          refine tkH (by assumption) 2 (oi := ?_) (v := ?_) ?_ ?_ ?_ ?_ ?_ ?_ ?_ ?_; rotate_left 2; (simp only [gA, gB, gC]; exact rfl); kernel_rfl; kernel_rfl; kernel_rfl; exact fun _ _ _ h => h; rfl; (intro w' hSw; (try dsimp only at hSw); go_simp; with_reducible rfl); simp only [Act.put, pB, pC, pD]
          refine tkH (by assumption) 5 (oi := ?_) (v := ?_) ?_ ?_ ?_ ?_ ?_ ?_ ?_ ?_; rotate_left 2; (simp only [gA, gB, gC]; exact rfl); kernel_rfl; kernel_rfl; kernel_rfl; exact fun _ _ _ h => h; rfl; (intro w' hSw; (try dsimp only at hSw); go_simp; with_reducible rfl); simp only [Act.put, pB, pC, pD]
          refine wpAnyH_ready (rs := [1, 3, 6]) (by kernel_rfl) (by simp) ?_
          refine coH 1 (oi := ?_) ?_ ?_ (fun K hK => ?_) ?_; rotate_left; (simp only [gA, gB, gC]; exact rfl); rfl
          · have hc0 := cell_of HI.out.h (i := 0) rfl
            go_wp2_with (fail)
            refine hK.out _ _ True.intro (fun hHeldN => ?_)
            clear hK K hHeld hc0
            have hHeld := hHeldN
            clear hHeldN
            try simp only [Act.put, pB, pC, pD]
            refine wpAnyH_ready (rs := [3, 6]) (by kernel_rfl) (by simp) ?_
            refine coH 3 (oi := ?_) ?_ ?_ (fun K hK => ?_) ?_; rotate_left; (simp only [gA, gB, gC]; exact rfl); rfl
            · go_wp2_with (fail)
              have hb : Below wY.heap.size wY (wY.alloc (.cells #[.int .i64 0, .int .i64 1, .int .i64 2, .int .i64 5, .int .i64 9] 3)) := (Below.refl _ _).alloc (Nat.le_refl _) _
              have cA : ∀ i, i < 5 → ∃ z, (wY.alloc (.cells #[.int .i64 0, .int .i64 1, .int .i64 2, .int .i64 5, .int .i64 9] 3)).cell? ⟨wY.heap.size, i, none⟩ = some (.int .i64 z) ∧ True := cells_lit wY [0, 1, 2, 5, 9] 3 (fun _ => True) (by simp)
              have lA : wY.heap.size < (wY.alloc (.cells #[.int .i64 0, .int .i64 1, .int .i64 2, .int .i64 5, .int .i64 9] 3)).heap.size := by simp
              have bA : wY.heap.size ≠ B := by have := HI.out.lt; have := HI.out.l; omega
              replace HI := Lib.hid (HI.out.alloc (.cells #[.int .i64 0, .int .i64 1, .int .i64 2, .int .i64 5, .int .i64 9] 3))
              refine hK.out _ _ True.intro (fun hHeldN => ?_)
              clear hK K hHeld hb
              have hHeld := hHeldN
              clear hHeldN
              try simp only [Act.put, pB, pC, pD]
              generalize (wY.alloc (.cells #[.int .i64 0, .int .i64 1, .int .i64 2, .int .i64 5, .int .i64 9] 3)) = W2 at *
              obtain ⟨qA, hg⟩ : ∃ g, g = wY.heap.size := ⟨_, rfl⟩
              rw [← hg] at cA lA bA ⊢
              clear hg
              refine wpAnyH_ready (rs := [4, 6]) (by kernel_rfl) (by simp) ?_
              refine coH 4 (oi := ?_) ?_ ?_ (fun K hK => ?_) ?_; rotate_left; (simp only [gA, gB, gC]; exact rfl); rfl
              · go_wp2_with (fail)
                refine (pick_any B _ qA 5 5 (fun _ => True) W2.drew (HI.out.s.kept (S := fun _ => False) (Mut.refl _ _).drew (fun _ _ h => h)) (by omega) (by omega) (by omega) bA lA cA).mono ?_
                rintro e wN ⟨⟨x, rfl, _⟩, hst, hmt⟩
                replace hmt : Mut (· = B) W2 wN := ⟨hmt.os, hmt.tape, hmt.output, hmt.size, hmt.block⟩
                replace HI := Lib.hid (HI.out.next hmt hst)
                refine hK.out _ _ True.intro (fun hHeldN => ?_)
                clear hK K hHeld hst hmt cA lA bA
                have hHeld := hHeldN
                clear hHeldN
                try simp only [Act.put, pB, pC, pD]
                refine wpAnyH_ready (rs := [6]) (by kernel_rfl) (by simp) ?_
                refine coH 6 (oi := ?_) ?_ ?_ (fun K hK => ?_) ?_; rotate_left; (simp only [gA, gB, gC]; exact rfl); rfl
                · go_wp2_with (fail)
                  have hb : Below wN.heap.size wN (wN.alloc (.cells #[.int .i64 0, .int .i64 0, .int .i64 1, .int .i64 4] 3)) := (Below.refl _ _).alloc (Nat.le_refl _) _
                  have cB : ∀ i, i < 4 → ∃ z, (wN.alloc (.cells #[.int .i64 0, .int .i64 0, .int .i64 1, .int .i64 4] 3)).cell? ⟨wN.heap.size, i, none⟩ = some (.int .i64 z) ∧ True := cells_lit wN [0, 0, 1, 4] 3 (fun _ => True) (by simp)
                  have lB : wN.heap.size < (wN.alloc (.cells #[.int .i64 0, .int .i64 0, .int .i64 1, .int .i64 4] 3)).heap.size := by simp
                  have bB : wN.heap.size ≠ B := by have := HI.out.lt; have := HI.out.l; omega
                  replace HI := Lib.hid (HI.out.alloc (.cells #[.int .i64 0, .int .i64 0, .int .i64 1, .int .i64 4] 3))
                  refine hK.out _ _ True.intro (fun hHeldN => ?_)
                  clear hK K hHeld hb
                  have hHeld := hHeldN
                  clear hHeldN
                  try simp only [Act.put, pB, pC, pD]
                  generalize (wN.alloc (.cells #[.int .i64 0, .int .i64 0, .int .i64 1, .int .i64 4] 3)) = W4 at *
                  obtain ⟨qB, hg⟩ : ∃ g, g = wN.heap.size := ⟨_, rfl⟩
                  rw [← hg] at cB lB bB ⊢
                  clear hg
                  refine wpAnyH_ready (rs := [7]) (by kernel_rfl) (by simp) ?_
                  refine coH 7 (oi := ?_) ?_ ?_ (fun K hK => ?_) ?_; rotate_left; (simp only [gA, gB, gC]; exact rfl); rfl
                  · go_wp2_with (fail)
                    refine (pick_any B _ qB 4 4 (fun _ => True) W4 HI.out.s (by omega) (by omega) (by omega) bB lB cB).mono ?_
                    rintro e wN ⟨⟨y, rfl, _⟩, hst, hmt⟩
                    replace HI := Lib.hid (HI.out.next hmt hst)
                    refine hK.out _ _ True.intro (fun hHeldN => ?_)
                    clear hK K hHeld hst hmt cB lB bB
                    have hHeld := hHeldN
                    clear hHeldN
                    try simp only [Act.put, pB, pC, pD]
                    refine tkH (by assumption) 8 (oi := ?_) (v := ?_) ?_ ?_ ?_ ?_ ?_ ?_ ?_ ?_; rotate_left 2; (simp only [gA, gB, gC]; exact rfl); kernel_rfl; kernel_rfl; kernel_rfl; exact fun _ _ _ h => h; rfl; (intro w' hSw; (try dsimp only at hSw); go_simp; with_reducible rfl); simp only [Act.put, pB, pC, pD]
                    refine wpAnyH_ready (rs := [9]) (by kernel_rfl) (by simp) ?_
                    refine coH 9 (oi := ?_) ?_ ?_ (fun K hK => ?_) ?_; rotate_left; (simp only [gA, gB, gC]; exact rfl); rfl
                    · go_wp2_with (fail)
                      have hnw := World.news_of_block (cs := #[.int .i64 x, .int .i64 y]) (t := 38) (fr := (0, 0)) (heap_alloc_new wN (.cells #[.int .i64 x, .int .i64 y] 38))
                      have hbz : w0.heap.size + 1 ≤ wN.heap.size := HI.out.lt
                      replace HI := Lib.hid (HI.out.alloc (.cells #[.int .i64 x, .int .i64 y] 38))
                      refine hK.out _ _ True.intro (fun hHeldN => ?_)
                      clear hK K hHeld
                      have hHeld := hHeldN
                      clear hHeldN
                      try simp only [Act.put, pB, pC, pD]
                      obtain ⟨q9, hg⟩ : ∃ g, g = wN.heap.size := ⟨_, rfl⟩
                      have hs9 : (wN.alloc (.cells #[.int .i64 x, .int .i64 y] 38)).heap.size = q9 + 1 := by simp [hg]
                      rw [← hg] at hnw hbz ⊢
                      generalize (wN.alloc (.cells #[.int .i64 x, .int .i64 y] 38)) = W6 at *
                      clear hg
                      refine onH 10 (oi := ?_) (by kernel_rfl) ?_ ?_ (fun K hK => ?_); rotate_left; (simp only [gA, gB, gC]; exact rfl); rfl
                      refine wp_append_lies _ _ _ 28 rfl (w0.heap.size + 1) 38 i0 (.agg #[.int .i64 0, .int .i64 0]) 2 16 Try.underlying28 hi0 hz0 hz1 hz2 rfl (by decide) _ _ _ rfl HI.out.o ⟨q9, 0, none⟩ 1 1 [.int .i64 x, .int .i64 y] rfl rfl hnw (by simp [Value.oneCell']) (by omega) (by unfold maxLen; omega) (by omega) (by omega) (q9 + 1) hs9 ?_
                      intro g5 c5 w5 hown hgrow _ hlt5
                      have HG := Lib.hid (HI.out.app' hgrow hown)
                      have hh5 := grow_keep hgrow HI.out.h (own_ne HI.out.o HI.out.h (by decide))
                      have ff0 := frozen_of hh5 (i := 0)
                      have cc0 := cell_of hh5 (i := 0) rfl
                      refine hK.out _ _ True.intro (fun hHeldN => ?_)
                      clear hK K hHeld hown hgrow
                      try simp only [Act.put, pB, pC, pD]
                      have hHeld := hHeldN
                      clear hHeldN
                      refine tkH (by assumption) 11 (oi := ?_) (v := ?_) ?_ ?_ ?_ ?_ ?_ ?_ ?_ ?_; rotate_left 2; (simp only [gA, gB, gC]; exact rfl); kernel_rfl; kernel_rfl; kernel_rfl; exact fun _ _ _ h => h; rfl; (intro w' hSw; (try dsimp only at hSw); go_simp; with_reducible rfl); simp only [Act.put, pB, pC, pD]
                      refine onH 12 (oi := ?_) (by kernel_rfl) ?_ ?_ (fun K hK => ?_); rotate_left; (simp only [gA, gB, gC]; exact rfl); rfl
                      go_wp2_with (fail)
                      refine hK.out _ _ True.intro (fun hHeldN => ?_)
                      clear hK K hHeld hHeldN
                      try simp only [Act.put, pB, pC, pD]
                      refine wpAnyH_done (by kernel_rfl) ?_ _
                      go_wp2_with (fail)
                      go_roundw
                      case rel => exact ⟨n + 1, _, _, _, _, by go_num, by omega, by rw [show k + 1 + 10 * t + 1 + 2 * (n + 1) = k + 1 + 10 * t + 1 + 2 * n + 1 + 1 by omega]; exact HG.out⟩
                      case measure => simp [intOf]; omega
                    exact AllReadyH.nil
                  exact AllReadyH.nil
                exact AllReadyH.nil
              refine coH 6 (oi := ?_) ?_ ?_ (fun K hK => ?_) ?_; rotate_left; (simp only [gA, gB, gC]; exact rfl); rfl
              · go_wp2_with (fail)
                have hb : Below W2.heap.size W2 (W2.alloc (.cells #[.int .i64 0, .int .i64 0, .int .i64 1, .int .i64 4] 3)) := (Below.refl _ _).alloc (Nat.le_refl _) _
                have cB : ∀ i, i < 4 → ∃ z, (W2.alloc (.cells #[.int .i64 0, .int .i64 0, .int .i64 1, .int .i64 4] 3)).cell? ⟨W2.heap.size, i, none⟩ = some (.int .i64 z) ∧ True := cells_lit W2 [0, 0, 1, 4] 3 (fun _ => True) (by simp)
                have lB : W2.heap.size < (W2.alloc (.cells #[.int .i64 0, .int .i64 0, .int .i64 1, .int .i64 4] 3)).heap.size := by simp
                have bB : W2.heap.size ≠ B := by have := HI.out.lt; have := HI.out.l; omega
                replace HI := Lib.hid (HI.out.alloc (.cells #[.int .i64 0, .int .i64 0, .int .i64 1, .int .i64 4] 3))
                replace cA : ∀ i, i < 5 → ∃ z, (W2.alloc (.cells #[.int .i64 0, .int .i64 0, .int .i64 1, .int .i64 4] 3)).cell? ⟨qA, i, none⟩ = some (.int .i64 z) ∧ True := fun i hi => by obtain ⟨z, h1, h2⟩ := cA i hi; exact ⟨z, cellk hb lA h1, h2⟩
                replace lA := Nat.lt_of_lt_of_le lA hb.size
                refine hK.out _ _ True.intro (fun hHeldN => ?_)
                clear hK K hHeld hb
                have hHeld := hHeldN
                clear hHeldN
                try simp only [Act.put, pB, pC, pD]
                generalize (W2.alloc (.cells #[.int .i64 0, .int .i64 0, .int .i64 1, .int .i64 4] 3)) = W7 at *
                obtain ⟨qB, hg⟩ : ∃ g, g = W2.heap.size := ⟨_, rfl⟩
                rw [← hg] at cB lB bB ⊢
                clear hg
                refine wpAnyH_ready (rs := [4]) (by kernel_rfl) (by simp) ?_
                refine coH 4 (oi := ?_) ?_ ?_ (fun K hK => ?_) ?_; rotate_left; (simp only [gA, gB, gC]; exact rfl); rfl
                · go_wp2_with (fail)
                  refine (pick_any B _ qA 5 5 (fun _ => True) W7.drew (HI.out.s.kept (S := fun _ => False) (Mut.refl _ _).drew (fun _ _ h => h)) (by omega) (by omega) (by omega) bA lA cA).mono ?_
                  rintro e wN ⟨⟨x, rfl, _⟩, hst, hmt⟩
                  replace hmt : Mut (· = B) W7 wN := ⟨hmt.os, hmt.tape, hmt.output, hmt.size, hmt.block⟩
                  replace HI := Lib.hid (HI.out.next hmt hst)
                  replace cB : ∀ i, i < 4 → ∃ z, wN.cell? ⟨qB, i, none⟩ = some (.int .i64 z) ∧ True := fun i hi => by obtain ⟨z, h1, h2⟩ := cB i hi; exact ⟨z, (hmt.cell (p := ⟨qB, i, none⟩) lB bB).trans h1, h2⟩
                  replace lB := Nat.lt_of_lt_of_le lB hmt.size
                  refine hK.out _ _ True.intro (fun hHeldN => ?_)
                  clear hK K hHeld hst hmt cA lA bA
                  have hHeld := hHeldN
                  clear hHeldN
                  try simp only [Act.put, pB, pC, pD]
                  refine wpAnyH_ready (rs := [7]) (by kernel_rfl) (by simp) ?_
                  refine coH 7 (oi := ?_) ?_ ?_ (fun K hK => ?_) ?_; rotate_left; (simp only [gA, gB, gC]; exact rfl); rfl
                  · go_wp2_with (fail)
                    refine (pick_any B _ qB 4 4 (fun _ => True) wN HI.out.s (by omega) (by omega) (by omega) bB lB cB).mono ?_
                    rintro e wN ⟨⟨y, rfl, _⟩, hst, hmt⟩
                    replace HI := Lib.hid (HI.out.next hmt hst)
                    refine hK.out _ _ True.intro (fun hHeldN => ?_)
                    clear hK K hHeld hst hmt cB lB bB
                    have hHeld := hHeldN
                    clear hHeldN
                    try simp only [Act.put, pB, pC, pD]
                    refine tkH (by assumption) 8 (oi := ?_) (v := ?_) ?_ ?_ ?_ ?_ ?_ ?_ ?_ ?_; rotate_left 2; (simp only [gA, gB, gC]; exact rfl); kernel_rfl; kernel_rfl; kernel_rfl; exact fun _ _ _ h => h; rfl; (intro w' hSw; (try dsimp only at hSw); go_simp; with_reducible rfl); simp only [Act.put, pB, pC, pD]
                    refine wpAnyH_ready (rs := [9]) (by kernel_rfl) (by simp) ?_
                    refine coH 9 (oi := ?_) ?_ ?_ (fun K hK => ?_) ?_; rotate_left; (simp only [gA, gB, gC]; exact rfl); rfl
                    · go_wp2_with (fail)
                      have hnw := World.news_of_block (cs := #[.int .i64 x, .int .i64 y]) (t := 38) (fr := (0, 0)) (heap_alloc_new wN (.cells #[.int .i64 x, .int .i64 y] 38))
                      have hbz : w0.heap.size + 1 ≤ wN.heap.size := HI.out.lt
                      replace HI := Lib.hid (HI.out.alloc (.cells #[.int .i64 x, .int .i64 y] 38))
                      refine hK.out _ _ True.intro (fun hHeldN => ?_)
                      clear hK K hHeld
                      have hHeld := hHeldN
                      clear hHeldN
                      try simp only [Act.put, pB, pC, pD]
                      obtain ⟨q9, hg⟩ : ∃ g, g = wN.heap.size := ⟨_, rfl⟩
                      have hs9 : (wN.alloc (.cells #[.int .i64 x, .int .i64 y] 38)).heap.size = q9 + 1 := by simp [hg]
                      rw [← hg] at hnw hbz ⊢
                      generalize (wN.alloc (.cells #[.int .i64 x, .int .i64 y] 38)) = W10 at *
                      clear hg
                      refine onH 10 (oi := ?_) (by kernel_rfl) ?_ ?_ (fun K hK => ?_); rotate_left; (simp only [gA, gB, gC]; exact rfl); rfl
                      refine wp_append_lies _ _ _ 28 rfl (w0.heap.size + 1) 38 i0 (.agg #[.int .i64 0, .int .i64 0]) 2 16 Try.underlying28 hi0 hz0 hz1 hz2 rfl (by decide) _ _ _ rfl HI.out.o ⟨q9, 0, none⟩ 1 1 [.int .i64 x, .int .i64 y] rfl rfl hnw (by simp [Value.oneCell']) (by omega) (by unfold maxLen; omega) (by omega) (by omega) (q9 + 1) hs9 ?_
                      intro g5 c5 w5 hown hgrow _ hlt5
                      have HG := Lib.hid (HI.out.app' hgrow hown)
                      have hh5 := grow_keep hgrow HI.out.h (own_ne HI.out.o HI.out.h (by decide))
                      have ff0 := frozen_of hh5 (i := 0)
                      have cc0 := cell_of hh5 (i := 0) rfl
                      refine hK.out _ _ True.intro (fun hHeldN => ?_)
                      clear hK K hHeld hown hgrow
                      try simp only [Act.put, pB, pC, pD]
                      have hHeld := hHeldN
                      clear hHeldN
                      refine tkH (by assumption) 11 (oi := ?_) (v := ?_) ?_ ?_ ?_ ?_ ?_ ?_ ?_ ?_; rotate_left 2; (simp only [gA, gB, gC]; exact rfl); kernel_rfl; kernel_rfl; kernel_rfl; exact fun _ _ _ h => h; rfl; (intro w' hSw; (try dsimp only at hSw); go_simp; with_reducible rfl); simp only [Act.put, pB, pC, pD]
                      refine onH 12 (oi := ?_) (by kernel_rfl) ?_ ?_ (fun K hK => ?_); rotate_left; (simp only [gA, gB, gC]; exact rfl); rfl
                      go_wp2_with (fail)
                      refine hK.out _ _ True.intro (fun hHeldN => ?_)
                      clear hK K hHeld hHeldN
                      try simp only [Act.put, pB, pC, pD]
                      refine wpAnyH_done (by kernel_rfl) ?_ _
                      go_wp2_with (fail)
                      go_roundw
                      case rel => exact ⟨n + 1, _, _, _, _, by go_num, by omega, by rw [show k + 1 + 10 * t + 1 + 2 * (n + 1) = k + 1 + 10 * t + 1 + 2 * n + 1 + 1 by omega]; exact HG.out⟩
                      case measure => simp [intOf]; omega
                    exact AllReadyH.nil
                  exact AllReadyH.nil
                exact AllReadyH.nil
              exact AllReadyH.nil
            refine coH 6 (oi := ?_) ?_ ?_ (fun K hK => ?_) ?_; rotate_left; (simp only [gA, gB, gC]; exact rfl); rfl
            · go_wp2_with (fail)
              have hb : Below wY.heap.size wY (wY.alloc (.cells #[.int .i64 0, .int .i64 0, .int .i64 1, .int .i64 4] 3)) := (Below.refl _ _).alloc (Nat.le_refl _) _
              have cB : ∀ i, i < 4 → ∃ z, (wY.alloc (.cells #[.int .i64 0, .int .i64 0, .int .i64 1, .int .i64 4] 3)).cell? ⟨wY.heap.size, i, none⟩ = some (.int .i64 z) ∧ True := cells_lit wY [0, 0, 1, 4] 3 (fun _ => True) (by simp)
              have lB : wY.heap.size < (wY.alloc (.cells #[.int .i64 0, .int .i64 0, .int .i64 1, .int .i64 4] 3)).heap.size := by simp
              have bB : wY.heap.size ≠ B := by have := HI.out.lt; have := HI.out.l; omega
              replace HI := Lib.hid (HI.out.alloc (.cells #[.int .i64 0, .int .i64 0, .int .i64 1, .int .i64 4] 3))
              refine hK.out _ _ True.intro (fun hHeldN => ?_)
              clear hK K hHeld hb
              have hHeld := hHeldN
              clear hHeldN
              try simp only [Act.put, pB, pC, pD]
              generalize (wY.alloc (.cells #[.int .i64 0, .int .i64 0, .int .i64 1, .int .i64 4] 3)) = W11 at *
              obtain ⟨qB, hg⟩ : ∃ g, g = wY.heap.size := ⟨_, rfl⟩
              rw [← hg] at cB lB bB ⊢
              clear hg
              refine wpAnyH_ready (rs := [3]) (by kernel_rfl) (by simp) ?_
              refine coH 3 (oi := ?_) ?_ ?_ (fun K hK => ?_) ?_; rotate_left; (simp only [gA, gB, gC]; exact rfl); rfl
              · go_wp2_with (fail)
                have hb : Below W11.heap.size W11 (W11.alloc (.cells #[.int .i64 0, .int .i64 1, .int .i64 2, .int .i64 5, .int .i64 9] 3)) := (Below.refl _ _).alloc (Nat.le_refl _) _
                have cA : ∀ i, i < 5 → ∃ z, (W11.alloc (.cells #[.int .i64 0, .int .i64 1, .int .i64 2, .int .i64 5, .int .i64 9] 3)).cell? ⟨W11.heap.size, i, none⟩ = some (.int .i64 z) ∧ True := cells_lit W11 [0, 1, 2, 5, 9] 3 (fun _ => True) (by simp)
                have lA : W11.heap.size < (W11.alloc (.cells #[.int .i64 0, .int .i64 1, .int .i64 2, .int .i64 5, .int .i64 9] 3)).heap.size := by simp
                have bA : W11.heap.size ≠ B := by have := HI.out.lt; have := HI.out.l; omega
                replace HI := Lib.hid (HI.out.alloc (.cells #[.int .i64 0, .int .i64 1, .int .i64 2, .int .i64 5, .int .i64 9] 3))
                replace cB : ∀ i, i < 4 → ∃ z, (W11.alloc (.cells #[.int .i64 0, .int .i64 1, .int .i64 2, .int .i64 5, .int .i64 9] 3)).cell? ⟨qB, i, none⟩ = some (.int .i64 z) ∧ True := fun i hi => by obtain ⟨z, h1, h2⟩ := cB i hi; exact ⟨z, cellk hb lB h1, h2⟩
                replace lB := Nat.lt_of_lt_of_le lB hb.size
                refine hK.out _ _ True.intro (fun hHeldN => ?_)
                clear hK K hHeld hb
                have hHeld := hHeldN
                clear hHeldN
                try simp only [Act.put, pB, pC, pD]
                generalize (W11.alloc (.cells #[.int .i64 0, .int .i64 1, .int .i64 2, .int .i64 5, .int .i64 9] 3)) = W12 at *
                obtain ⟨qA, hg⟩ : ∃ g, g = W11.heap.size := ⟨_, rfl⟩
                rw [← hg] at cA lA bA ⊢
                clear hg
                refine wpAnyH_ready (rs := [4]) (by kernel_rfl) (by simp) ?_
                refine coH 4 (oi := ?_) ?_ ?_ (fun K hK => ?_) ?_; rotate_left; (simp only [gA, gB, gC]; exact rfl); rfl
                · go_wp2_with (fail)
                  refine (pick_any B _ qA 5 5 (fun _ => True) W12.drew (HI.out.s.kept (S := fun _ => False) (Mut.refl _ _).drew (fun _ _ h => h)) (by omega) (by omega) (by omega) bA lA cA).mono ?_
                  rintro e wN ⟨⟨x, rfl, _⟩, hst, hmt⟩
                  replace hmt : Mut (· = B) W12 wN := ⟨hmt.os, hmt.tape, hmt.output, hmt.size, hmt.block⟩
                  replace HI := Lib.hid (HI.out.next hmt hst)
                  replace cB : ∀ i, i < 4 → ∃ z, wN.cell? ⟨qB, i, none⟩ = some (.int .i64 z) ∧ True := fun i hi => by obtain ⟨z, h1, h2⟩ := cB i hi; exact ⟨z, (hmt.cell (p := ⟨qB, i, none⟩) lB bB).trans h1, h2⟩
                  replace lB := Nat.lt_of_lt_of_le lB hmt.size
                  refine hK.out _ _ True.intro (fun hHeldN => ?_)
                  clear hK K hHeld hst hmt cA lA bA
                  have hHeld := hHeldN
                  clear hHeldN
                  try simp only [Act.put, pB, pC, pD]
                  refine wpAnyH_ready (rs := [7]) (by kernel_rfl) (by simp) ?_
                  refine coH 7 (oi := ?_) ?_ ?_ (fun K hK => ?_) ?_; rotate_left; (simp only [gA, gB, gC]; exact rfl); rfl
                  · go_wp2_with (fail)
                    refine (pick_any B _ qB 4 4 (fun _ => True) wN HI.out.s (by omega) (by omega) (by omega) bB lB cB).mono ?_
                    rintro e wN ⟨⟨y, rfl, _⟩, hst, hmt⟩
                    replace HI := Lib.hid (HI.out.next hmt hst)
                    refine hK.out _ _ True.intro (fun hHeldN => ?_)
                    clear hK K hHeld hst hmt cB lB bB
                    have hHeld := hHeldN
                    clear hHeldN
                    try simp only [Act.put, pB, pC, pD]
                    refine tkH (by assumption) 8 (oi := ?_) (v := ?_) ?_ ?_ ?_ ?_ ?_ ?_ ?_ ?_; rotate_left 2; (simp only [gA, gB, gC]; exact rfl); kernel_rfl; kernel_rfl; kernel_rfl; exact fun _ _ _ h => h; rfl; (intro w' hSw; (try dsimp only at hSw); go_simp; with_reducible rfl); simp only [Act.put, pB, pC, pD]
                    refine wpAnyH_ready (rs := [9]) (by kernel_rfl) (by simp) ?_
                    refine coH 9 (oi := ?_) ?_ ?_ (fun K hK => ?_) ?_; rotate_left; (simp only [gA, gB, gC]; exact rfl); rfl
                    · go_wp2_with (fail)
                      have hnw := World.news_of_block (cs := #[.int .i64 x, .int .i64 y]) (t := 38) (fr := (0, 0)) (heap_alloc_new wN (.cells #[.int .i64 x, .int .i64 y] 38))
                      have hbz : w0.heap.size + 1 ≤ wN.heap.size := HI.out.lt
                      replace HI := Lib.hid (HI.out.alloc (.cells #[.int .i64 x, .int .i64 y] 38))
                      refine hK.out _ _ True.intro (fun hHeldN => ?_)
                      clear hK K hHeld
                      have hHeld := hHeldN
                      clear hHeldN
                      try simp only [Act.put, pB, pC, pD]
                      obtain ⟨q9, hg⟩ : ∃ g, g = wN.heap.size := ⟨_, rfl⟩
                      have hs9 : (wN.alloc (.cells #[.int .i64 x, .int .i64 y] 38)).heap.size = q9 + 1 := by simp [hg]
                      rw [← hg] at hnw hbz ⊢
                      generalize (wN.alloc (.cells #[.int .i64 x, .int .i64 y] 38)) = W15 at *
                      clear hg
                      refine onH 10 (oi := ?_) (by kernel_rfl) ?_ ?_ (fun K hK => ?_); rotate_left; (simp only [gA, gB, gC]; exact rfl); rfl
                      refine wp_append_lies _ _ _ 28 rfl (w0.heap.size + 1) 38 i0 (.agg #[.int .i64 0, .int .i64 0]) 2 16 Try.underlying28 hi0 hz0 hz1 hz2 rfl (by decide) _ _ _ rfl HI.out.o ⟨q9, 0, none⟩ 1 1 [.int .i64 x, .int .i64 y] rfl rfl hnw (by simp [Value.oneCell']) (by omega) (by unfold maxLen; omega) (by omega) (by omega) (q9 + 1) hs9 ?_
                      intro g5 c5 w5 hown hgrow _ hlt5
                      have HG := Lib.hid (HI.out.app' hgrow hown)
                      have hh5 := grow_keep hgrow HI.out.h (own_ne HI.out.o HI.out.h (by decide))
                      have ff0 := frozen_of hh5 (i := 0)
                      have cc0 := cell_of hh5 (i := 0) rfl
                      refine hK.out _ _ True.intro (fun hHeldN => ?_)
                      clear hK K hHeld hown hgrow
                      try simp only [Act.put, pB, pC, pD]
                      have hHeld := hHeldN
                      clear hHeldN
                      refine tkH (by assumption) 11 (oi := ?_) (v := ?_) ?_ ?_ ?_ ?_ ?_ ?_ ?_ ?_; rotate_left 2; (simp only [gA, gB, gC]; exact rfl); kernel_rfl; kernel_rfl; kernel_rfl; exact fun _ _ _ h => h; rfl; (intro w' hSw; (try dsimp only at hSw); go_simp; with_reducible rfl); simp only [Act.put, pB, pC, pD]
                      refine onH 12 (oi := ?_) (by kernel_rfl) ?_ ?_ (fun K hK => ?_); rotate_left; (simp only [gA, gB, gC]; exact rfl); rfl
                      go_wp2_with (fail)
                      refine hK.out _ _ True.intro (fun hHeldN => ?_)
                      clear hK K hHeld hHeldN
                      try simp only [Act.put, pB, pC, pD]
                      refine wpAnyH_done (by kernel_rfl) ?_ _
                      go_wp2_with (fail)
                      go_roundw
                      case rel => exact ⟨n + 1, _, _, _, _, by go_num, by omega, by rw [show k + 1 + 10 * t + 1 + 2 * (n + 1) = k + 1 + 10 * t + 1 + 2 * n + 1 + 1 by omega]; exact HG.out⟩
                      case measure => simp [intOf]; omega
                    exact AllReadyH.nil
                  exact AllReadyH.nil
                exact AllReadyH.nil
              exact AllReadyH.nil
            exact AllReadyH.nil
          refine coH 3 (oi := ?_) ?_ ?_ (fun K hK => ?_) ?_; rotate_left; (simp only [gA, gB, gC]; exact rfl); rfl
          · go_wp2_with (fail)
            have hb : Below wY.heap.size wY (wY.alloc (.cells #[.int .i64 0, .int .i64 1, .int .i64 2, .int .i64 5, .int .i64 9] 3)) := (Below.refl _ _).alloc (Nat.le_refl _) _
            have cA : ∀ i, i < 5 → ∃ z, (wY.alloc (.cells #[.int .i64 0, .int .i64 1, .int .i64 2, .int .i64 5, .int .i64 9] 3)).cell? ⟨wY.heap.size, i, none⟩ = some (.int .i64 z) ∧ True := cells_lit wY [0, 1, 2, 5, 9] 3 (fun _ => True) (by simp)
            have lA : wY.heap.size < (wY.alloc (.cells #[.int .i64 0, .int .i64 1, .int .i64 2, .int .i64 5, .int .i64 9] 3)).heap.size := by simp
            have bA : wY.heap.size ≠ B := by have := HI.out.lt; have := HI.out.l; omega
            replace HI := Lib.hid (HI.out.alloc (.cells #[.int .i64 0, .int .i64 1, .int .i64 2, .int .i64 5, .int .i64 9] 3))
            refine hK.out _ _ True.intro (fun hHeldN => ?_)
            clear hK K hHeld hb
            have hHeld := hHeldN
            clear hHeldN
            try simp only [Act.put, pB, pC, pD]
            generalize (wY.alloc (.cells #[.int .i64 0, .int .i64 1, .int .i64 2, .int .i64 5, .int .i64 9] 3)) = W16 at *
            obtain ⟨qA, hg⟩ : ∃ g, g = wY.heap.size := ⟨_, rfl⟩
            rw [← hg] at cA lA bA ⊢
            clear hg
            refine wpAnyH_ready (rs := [1, 4, 6]) (by kernel_rfl) (by simp) ?_
            refine coH 1 (oi := ?_) ?_ ?_ (fun K hK => ?_) ?_; rotate_left; (simp only [gA, gB, gC]; exact rfl); rfl
            · have hc0 := cell_of HI.out.h (i := 0) rfl
              go_wp2_with (fail)
              refine hK.out _ _ True.intro (fun hHeldN => ?_)
              clear hK K hHeld hc0
              have hHeld := hHeldN
              clear hHeldN
              try simp only [Act.put, pB, pC, pD]
              refine wpAnyH_ready (rs := [4, 6]) (by kernel_rfl) (by simp) ?_
              refine coH 4 (oi := ?_) ?_ ?_ (fun K hK => ?_) ?_; rotate_left; (simp only [gA, gB, gC]; exact rfl); rfl
              · go_wp2_with (fail)
                refine (pick_any B _ qA 5 5 (fun _ => True) W16.drew (HI.out.s.kept (S := fun _ => False) (Mut.refl _ _).drew (fun _ _ h => h)) (by omega) (by omega) (by omega) bA lA cA).mono ?_
                rintro e wN ⟨⟨x, rfl, _⟩, hst, hmt⟩
                replace hmt : Mut (· = B) W16 wN := ⟨hmt.os, hmt.tape, hmt.output, hmt.size, hmt.block⟩
                replace HI := Lib.hid (HI.out.next hmt hst)
                refine hK.out _ _ True.intro (fun hHeldN => ?_)
                clear hK K hHeld hst hmt cA lA bA
                have hHeld := hHeldN
                clear hHeldN
                try simp only [Act.put, pB, pC, pD]
                refine wpAnyH_ready (rs := [6]) (by kernel_rfl) (by simp) ?_
                refine coH 6 (oi := ?_) ?_ ?_ (fun K hK => ?_) ?_; rotate_left; (simp only [gA, gB, gC]; exact rfl); rfl
                · go_wp2_with (fail)
                  have hb : Below wN.heap.size wN (wN.alloc (.cells #[.int .i64 0, .int .i64 0, .int .i64 1, .int .i64 4] 3)) := (Below.refl _ _).alloc (Nat.le_refl _) _
                  have cB : ∀ i, i < 4 → ∃ z, (wN.alloc (.cells #[.int .i64 0, .int .i64 0, .int .i64 1, .int .i64 4] 3)).cell? ⟨wN.heap.size, i, none⟩ = some (.int .i64 z) ∧ True := cells_lit wN [0, 0, 1, 4] 3 (fun _ => True) (by simp)
                  have lB : wN.heap.size < (wN.alloc (.cells #[.int .i64 0, .int .i64 0, .int .i64 1, .int .i64 4] 3)).heap.size := by simp
                  have bB : wN.heap.size ≠ B := by have := HI.out.lt; have := HI.out.l; omega
                  replace HI := Lib.hid (HI.out.alloc (.cells #[.int .i64 0, .int .i64 0, .int .i64 1, .int .i64 4] 3))
                  refine hK.out _ _ True.intro (fun hHeldN => ?_)
                  clear hK K hHeld hb
                  have hHeld := hHeldN
                  clear hHeldN
                  try simp only [Act.put, pB, pC, pD]
                  generalize (wN.alloc (.cells #[.int .i64 0, .int .i64 0, .int .i64 1, .int .i64 4] 3)) = W19 at *
                  obtain ⟨qB, hg⟩ : ∃ g, g = wN.heap.size := ⟨_, rfl⟩
                  rw [← hg] at cB lB bB ⊢
                  clear hg
                  refine wpAnyH_ready (rs := [7]) (by kernel_rfl) (by simp) ?_
                  refine coH 7 (oi := ?_) ?_ ?_ (fun K hK => ?_) ?_; rotate_left; (simp only [gA, gB, gC]; exact rfl); rfl
                  · go_wp2_with (fail)
                    refine (pick_any B _ qB 4 4 (fun _ => True) W19 HI.out.s (by omega) (by omega) (by omega) bB lB cB).mono ?_
                    rintro e wN ⟨⟨y, rfl, _⟩, hst, hmt⟩
                    replace HI := Lib.hid (HI.out.next hmt hst)
                    refine hK.out _ _ True.intro (fun hHeldN => ?_)
                    clear hK K hHeld hst hmt cB lB bB
                    have hHeld := hHeldN
                    clear hHeldN
                    try simp only [Act.put, pB, pC, pD]
                    refine tkH (by assumption) 8 (oi := ?_) (v := ?_) ?_ ?_ ?_ ?_ ?_ ?_ ?_ ?_; rotate_left 2; (simp only [gA, gB, gC]; exact rfl); kernel_rfl; kernel_rfl; kernel_rfl; exact fun _ _ _ h => h; rfl; (intro w' hSw; (try dsimp only at hSw); go_simp; with_reducible rfl); simp only [Act.put, pB, pC, pD]
                    refine wpAnyH_ready (rs := [9]) (by kernel_rfl) (by simp) ?_
                    refine coH 9 (oi := ?_) ?_ ?_ (fun K hK => ?_) ?_; rotate_left; (simp only [gA, gB, gC]; exact rfl); rfl
                    · go_wp2_with (fail)
                      have hnw := World.news_of_block (cs := #[.int .i64 x, .int .i64 y]) (t := 38) (fr := (0, 0)) (heap_alloc_new wN (.cells #[.int .i64 x, .int .i64 y] 38))
                      have hbz : w0.heap.size + 1 ≤ wN.heap.size := HI.out.lt
                      replace HI := Lib.hid (HI.out.alloc (.cells #[.int .i64 x, .int .i64 y] 38))
                      refine hK.out _ _ True.intro (fun hHeldN => ?_)
                      clear hK K hHeld
                      have hHeld := hHeldN
                      clear hHeldN
                      try simp only [Act.put, pB, pC, pD]
                      obtain ⟨q9, hg⟩ : ∃ g, g = wN.heap.size := ⟨_, rfl⟩
                      have hs9 : (wN.alloc (.cells #[.int .i64 x, .int .i64 y] 38)).heap.size = q9 + 1 := by simp [hg]
                      rw [← hg] at hnw hbz ⊢
                      generalize (wN.alloc (.cells #[.int .i64 x, .int .i64 y] 38)) = W21 at *
                      clear hg
                      refine onH 10 (oi := ?_) (by kernel_rfl) ?_ ?_ (fun K hK => ?_); rotate_left; (simp only [gA, gB, gC]; exact rfl); rfl
                      refine wp_append_lies _ _ _ 28 rfl (w0.heap.size + 1) 38 i0 (.agg #[.int .i64 0, .int .i64 0]) 2 16 Try.underlying28 hi0 hz0 hz1 hz2 rfl (by decide) _ _ _ rfl HI.out.o ⟨q9, 0, none⟩ 1 1 [.int .i64 x, .int .i64 y] rfl rfl hnw (by simp [Value.oneCell']) (by omega) (by unfold maxLen; omega) (by omega) (by omega) (q9 + 1) hs9 ?_
                      intro g5 c5 w5 hown hgrow _ hlt5
                      have HG := Lib.hid (HI.out.app' hgrow hown)
                      have hh5 := grow_keep hgrow HI.out.h (own_ne HI.out.o HI.out.h (by decide))
                      have ff0 := frozen_of hh5 (i := 0)
                      have cc0 := cell_of hh5 (i := 0) rfl
                      refine hK.out _ _ True.intro (fun hHeldN => ?_)
                      clear hK K hHeld hown hgrow
                      try simp only [Act.put, pB, pC, pD]
                      have hHeld := hHeldN
                      clear hHeldN
                      refine tkH (by assumption) 11 (oi := ?_) (v := ?_) ?_ ?_ ?_ ?_ ?_ ?_ ?_ ?_; rotate_left 2; (simp only [gA, gB, gC]; exact rfl); kernel_rfl; kernel_rfl; kernel_rfl; exact fun _ _ _ h => h; rfl; (intro w' hSw; (try dsimp only at hSw); go_simp; with_reducible rfl); simp only [Act.put, pB, pC, pD]
                      refine onH 12 (oi := ?_) (by kernel_rfl) ?_ ?_ (fun K hK => ?_); rotate_left; (simp only [gA, gB, gC]; exact rfl); rfl
                      go_wp2_with (fail)
                      refine hK.out _ _ True.intro (fun hHeldN => ?_)
                      clear hK K hHeld hHeldN
                      try simp only [Act.put, pB, pC, pD]
                      refine wpAnyH_done (by kernel_rfl) ?_ _
                      go_wp2_with (fail)
                      go_roundw
                      case rel => exact ⟨n + 1, _, _, _, _, by go_num, by omega, by rw [show k + 1 + 10 * t + 1 + 2 * (n + 1) = k + 1 + 10 * t + 1 + 2 * n + 1 + 1 by omega]; exact HG.out⟩
                      case measure => simp [intOf]; omega
                    exact AllReadyH.nil
                  exact AllReadyH.nil
                exact AllReadyH.nil
              refine coH 6 (oi := ?_) ?_ ?_ (fun K hK => ?_) ?_; rotate_left; (simp only [gA, gB, gC]; exact rfl); rfl
              · go_wp2_with (fail)
                have hb : Below W16.heap.size W16 (W16.alloc (.cells #[.int .i64 0, .int .i64 0, .int .i64 1, .int .i64 4] 3)) := (Below.refl _ _).alloc (Nat.le_refl _) _
                have cB : ∀ i, i < 4 → ∃ z, (W16.alloc (.cells #[.int .i64 0, .int .i64 0, .int .i64 1, .int .i64 4] 3)).cell? ⟨W16.heap.size, i, none⟩ = some (.int .i64 z) ∧ True := cells_lit W16 [0, 0, 1, 4] 3 (fun _ => True) (by simp)
                have lB : W16.heap.size < (W16.alloc (.cells #[.int .i64 0, .int .i64 0, .int .i64 1, .int .i64 4] 3)).heap.size := by simp
                have bB : W16.heap.size ≠ B := by have := HI.out.lt; have := HI.out.l; omega
                replace HI := Lib.hid (HI.out.alloc (.cells #[.int .i64 0, .int .i64 0, .int .i64 1, .int .i64 4] 3))
                replace cA : ∀ i, i < 5 → ∃ z, (W16.alloc (.cells #[.int .i64 0, .int .i64 0, .int .i64 1, .int .i64 4] 3)).cell? ⟨qA, i, none⟩ = some (.int .i64 z) ∧ True := fun i hi => by obtain ⟨z, h1, h2⟩ := cA i hi; exact ⟨z, cellk hb lA h1, h2⟩
                replace lA := Nat.lt_of_lt_of_le lA hb.size
                refine hK.out _ _ True.intro (fun hHeldN => ?_)
                clear hK K hHeld hb
                have hHeld := hHeldN
                clear hHeldN
                try simp only [Act.put, pB, pC, pD]
                generalize (W16.alloc (.cells #[.int .i64 0, .int .i64 0, .int .i64 1, .int .i64 4] 3)) = W22 at *
                obtain ⟨qB, hg⟩ : ∃ g, g = W16.heap.size := ⟨_, rfl⟩
                rw [← hg] at cB lB bB ⊢
                clear hg
                refine wpAnyH_ready (rs := [4]) (by kernel_rfl) (by simp) ?_
                refine coH 4 (oi := ?_) ?_ ?_ (fun K hK => ?_) ?_; rotate_left; (simp only [gA, gB, gC]; exact rfl); rfl
                · go_wp2_with (fail)
                  refine (pick_any B _ qA 5 5 (fun _ => True) W22.drew (HI.out.s.kept (S := fun _ => False) (Mut.refl _ _).drew (fun _ _ h => h)) (by omega) (by omega) (by omega) bA lA cA).mono ?_
                  rintro e wN ⟨⟨x, rfl, _⟩, hst, hmt⟩
                  replace hmt : Mut (· = B) W22 wN := ⟨hmt.os, hmt.tape, hmt.output, hmt.size, hmt.block⟩
                  replace HI := Lib.hid (HI.out.next hmt hst)
                  replace cB : ∀ i, i < 4 → ∃ z, wN.cell? ⟨qB, i, none⟩ = some (.int .i64 z) ∧ True := fun i hi => by obtain ⟨z, h1, h2⟩ := cB i hi; exact ⟨z, (hmt.cell (p := ⟨qB, i, none⟩) lB bB).trans h1, h2⟩
                  replace lB := Nat.lt_of_lt_of_le lB hmt.size
                  refine hK.out _ _ True.intro (fun hHeldN => ?_)
                  clear hK K hHeld hst hmt cA lA bA
                  have hHeld := hHeldN
                  clear hHeldN
                  try simp only [Act.put, pB, pC, pD]
                  refine wpAnyH_ready (rs := [7]) (by kernel_rfl) (by simp) ?_
                  refine coH 7 (oi := ?_) ?_ ?_ (fun K hK => ?_) ?_; rotate_left; (simp only [gA, gB, gC]; exact rfl); rfl
                  · go_wp2_with (fail)
                    refine (pick_any B _ qB 4 4 (fun _ => True) wN HI.out.s (by omega) (by omega) (by omega) bB lB cB).mono ?_
                    rintro e wN ⟨⟨y, rfl, _⟩, hst, hmt⟩
                    replace HI := Lib.hid (HI.out.next hmt hst)
                    refine hK.out _ _ True.intro (fun hHeldN => ?_)
                    clear hK K hHeld hst hmt cB lB bB
                    have hHeld := hHeldN
                    clear hHeldN
                    try simp only [Act.put, pB, pC, pD]
                    refine tkH (by assumption) 8 (oi := ?_) (v := ?_) ?_ ?_ ?_ ?_ ?_ ?_ ?_ ?_; rotate_left 2; (simp only [gA, gB, gC]; exact rfl); kernel_rfl; kernel_rfl; kernel_rfl; exact fun _ _ _ h => h; rfl; (intro w' hSw; (try dsimp only at hSw); go_simp; with_reducible rfl); simp only [Act.put, pB, pC, pD]
                    refine wpAnyH_ready (rs := [9]) (by kernel_rfl) (by simp) ?_
                    refine coH 9 (oi := ?_) ?_ ?_ (fun K hK => ?_) ?_; rotate_left; (simp only [gA, gB, gC]; exact rfl); rfl
                    · go_wp2_with (fail)
                      have hnw := World.news_of_block (cs := #[.int .i64 x, .int .i64 y]) (t := 38) (fr := (0, 0)) (heap_alloc_new wN (.cells #[.int .i64 x, .int .i64 y] 38))
                      have hbz : w0.heap.size + 1 ≤ wN.heap.size := HI.out.lt
                      replace HI := Lib.hid (HI.out.alloc (.cells #[.int .i64 x, .int .i64 y] 38))
                      refine hK.out _ _ True.intro (fun hHeldN => ?_)
                      clear hK K hHeld
                      have hHeld := hHeldN
                      clear hHeldN
                      try simp only [Act.put, pB, pC, pD]
                      obtain ⟨q9, hg⟩ : ∃ g, g = wN.heap.size := ⟨_, rfl⟩
                      have hs9 : (wN.alloc (.cells #[.int .i64 x, .int .i64 y] 38)).heap.size = q9 + 1 := by simp [hg]
                      rw [← hg] at hnw hbz ⊢
                      generalize (wN.alloc (.cells #[.int .i64 x, .int .i64 y] 38)) = W25 at *
                      clear hg
                      refine onH 10 (oi := ?_) (by kernel_rfl) ?_ ?_ (fun K hK => ?_); rotate_left; (simp only [gA, gB, gC]; exact rfl); rfl
                      refine wp_append_lies _ _ _ 28 rfl (w0.heap.size + 1) 38 i0 (.agg #[.int .i64 0, .int .i64 0]) 2 16 Try.underlying28 hi0 hz0 hz1 hz2 rfl (by decide) _ _ _ rfl HI.out.o ⟨q9, 0, none⟩ 1 1 [.int .i64 x, .int .i64 y] rfl rfl hnw (by simp [Value.oneCell']) (by omega) (by unfold maxLen; omega) (by omega) (by omega) (q9 + 1) hs9 ?_
                      intro g5 c5 w5 hown hgrow _ hlt5
                      have HG := Lib.hid (HI.out.app' hgrow hown)
                      have hh5 := grow_keep hgrow HI.out.h (own_ne HI.out.o HI.out.h (by decide))
                      have ff0 := frozen_of hh5 (i := 0)
                      have cc0 := cell_of hh5 (i := 0) rfl
                      refine hK.out _ _ True.intro (fun hHeldN => ?_)
                      clear hK K hHeld hown hgrow
                      try simp only [Act.put, pB, pC, pD]
                      have hHeld := hHeldN
                      clear hHeldN
                      refine tkH (by assumption) 11 (oi := ?_) (v := ?_) ?_ ?_ ?_ ?_ ?_ ?_ ?_ ?_; rotate_left 2; (simp only [gA, gB, gC]; exact rfl); kernel_rfl; kernel_rfl; kernel_rfl; exact fun _ _ _ h => h; rfl; (intro w' hSw; (try dsimp only at hSw); go_simp; with_reducible rfl); simp only [Act.put, pB, pC, pD]
                      refine onH 12 (oi := ?_) (by kernel_rfl) ?_ ?_ (fun K hK => ?_); rotate_left; (simp only [gA, gB, gC]; exact rfl); rfl
                      go_wp2_with (fail)
                      refine hK.out _ _ True.intro (fun hHeldN => ?_)
                      clear hK K hHeld hHeldN
                      try simp only [Act.put, pB, pC, pD]
                      refine wpAnyH_done (by kernel_rfl) ?_ _
                      go_wp2_with (fail)
                      go_roundw
                      case rel => exact ⟨n + 1, _, _, _, _, by go_num, by omega, by rw [show k + 1 + 10 * t + 1 + 2 * (n + 1) = k + 1 + 10 * t + 1 + 2 * n + 1 + 1 by omega]; exact HG.out⟩
                      case measure => simp [intOf]; omega
                    exact AllReadyH.nil
                  exact AllReadyH.nil
                exact AllReadyH.nil
              exact AllReadyH.nil
            refine coH 4 (oi := ?_) ?_ ?_ (fun K hK => ?_) ?_; rotate_left; (simp only [gA, gB, gC]; exact rfl); rfl
            · go_wp2_with (fail)
              refine (pick_any B _ qA 5 5 (fun _ => True) W16.drew (HI.out.s.kept (S := fun _ => False) (Mut.refl _ _).drew (fun _ _ h => h)) (by omega) (by omega) (by omega) bA lA cA).mono ?_
              rintro e wN ⟨⟨x, rfl, _⟩, hst, hmt⟩
              replace hmt : Mut (· = B) W16 wN := ⟨hmt.os, hmt.tape, hmt.output, hmt.size, hmt.block⟩
              replace HI := Lib.hid (HI.out.next hmt hst)
              refine hK.out _ _ True.intro (fun hHeldN => ?_)
              clear hK K hHeld hst hmt cA lA bA
              have hHeld := hHeldN
              clear hHeldN
              try simp only [Act.put, pB, pC, pD]
              refine wpAnyH_ready (rs := [1, 6]) (by kernel_rfl) (by simp) ?_
              refine coH 1 (oi := ?_) ?_ ?_ (fun K hK => ?_) ?_; rotate_left; (simp only [gA, gB, gC]; exact rfl); rfl
              · have hc0 := cell_of HI.out.h (i := 0) rfl
                go_wp2_with (fail)
                refine hK.out _ _ True.intro (fun hHeldN => ?_)
                clear hK K hHeld hc0
                have hHeld := hHeldN
                clear hHeldN
                try simp only [Act.put, pB, pC, pD]
                refine wpAnyH_ready (rs := [6]) (by kernel_rfl) (by simp) ?_
                refine coH 6 (oi := ?_) ?_ ?_ (fun K hK => ?_) ?_; rotate_left; (simp only [gA, gB, gC]; exact rfl); rfl
                · go_wp2_with (fail)
                  have hb : Below wN.heap.size wN (wN.alloc (.cells #[.int .i64 0, .int .i64 0, .int .i64 1, .int .i64 4] 3)) := (Below.refl _ _).alloc (Nat.le_refl _) _
                  have cB : ∀ i, i < 4 → ∃ z, (wN.alloc (.cells #[.int .i64 0, .int .i64 0, .int .i64 1, .int .i64 4] 3)).cell? ⟨wN.heap.size, i, none⟩ = some (.int .i64 z) ∧ True := cells_lit wN [0, 0, 1, 4] 3 (fun _ => True) (by simp)
                  have lB : wN.heap.size < (wN.alloc (.cells #[.int .i64 0, .int .i64 0, .int .i64 1, .int .i64 4] 3)).heap.size := by simp
                  have bB : wN.heap.size ≠ B := by have := HI.out.lt; have := HI.out.l; omega
                  replace HI := Lib.hid (HI.out.alloc (.cells #[.int .i64 0, .int .i64 0, .int .i64 1, .int .i64 4] 3))
                  refine hK.out _ _ True.intro (fun hHeldN => ?_)
                  clear hK K hHeld hb
                  have hHeld := hHeldN
                  clear hHeldN
                  try simp only [Act.put, pB, pC, pD]
                  generalize (wN.alloc (.cells #[.int .i64 0, .int .i64 0, .int .i64 1, .int .i64 4] 3)) = W28 at *
                  obtain ⟨qB, hg⟩ : ∃ g, g = wN.heap.size := ⟨_, rfl⟩
                  rw [← hg] at cB lB bB ⊢
                  clear hg
                  refine wpAnyH_ready (rs := [7]) (by kernel_rfl) (by simp) ?_
                  refine coH 7 (oi := ?_) ?_ ?_ (fun K hK => ?_) ?_; rotate_left; (simp only [gA, gB, gC]; exact rfl); rfl
                  · go_wp2_with (fail)
                    refine (pick_any B _ qB 4 4 (fun _ => True) W28 HI.out.s (by omega) (by omega) (by omega) bB lB cB).mono ?_
                    rintro e wN ⟨⟨y, rfl, _⟩, hst, hmt⟩
                    replace HI := Lib.hid (HI.out.next hmt hst)
                    refine hK.out _ _ True.intro (fun hHeldN => ?_)
                    clear hK K hHeld hst hmt cB lB bB
                    have hHeld := hHeldN
                    clear hHeldN
                    try simp only [Act.put, pB, pC, pD]
                    refine tkH (by assumption) 8 (oi := ?_) (v := ?_) ?_ ?_ ?_ ?_ ?_ ?_ ?_ ?_; rotate_left 2; (simp only [gA, gB, gC]; exact rfl); kernel_rfl; kernel_rfl; kernel_rfl; exact fun _ _ _ h => h; rfl; (intro w' hSw; (try dsimp only at hSw); go_simp; with_reducible rfl); simp only [Act.put, pB, pC, pD]
                    refine wpAnyH_ready (rs := [9]) (by kernel_rfl) (by simp) ?_
                    refine coH 9 (oi := ?_) ?_ ?_ (fun K hK => ?_) ?_; rotate_left; (simp only [gA, gB, gC]; exact rfl); rfl
                    · go_wp2_with (fail)
                      have hnw := World.news_of_block (cs := #[.int .i64 x, .int .i64 y]) (t := 38) (fr := (0, 0)) (heap_alloc_new wN (.cells #[.int .i64 x, .int .i64 y] 38))
                      have hbz : w0.heap.size + 1 ≤ wN.heap.size := HI.out.lt
                      replace HI := Lib.hid (HI.out.alloc (.cells #[.int .i64 x, .int .i64 y] 38))
                      refine hK.out _ _ True.intro (fun hHeldN => ?_)
                      clear hK K hHeld
                      have hHeld := hHeldN
                      clear hHeldN
                      try simp only [Act.put, pB, pC, pD]
                      obtain ⟨q9, hg⟩ : ∃ g, g = wN.heap.size := ⟨_, rfl⟩
                      have hs9 : (wN.alloc (.cells #[.int .i64 x, .int .i64 y] 38)).heap.size = q9 + 1 := by simp [hg]
                      rw [← hg] at hnw hbz ⊢
                      generalize (wN.alloc (.cells #[.int .i64 x, .int .i64 y] 38)) = W30 at *
                      clear hg
                      refine onH 10 (oi := ?_) (by kernel_rfl) ?_ ?_ (fun K hK => ?_); rotate_left; (simp only [gA, gB, gC]; exact rfl); rfl
                      refine wp_append_lies _ _ _ 28 rfl (w0.heap.size + 1) 38 i0 (.agg #[.int .i64 0, .int .i64 0]) 2 16 Try.underlying28 hi0 hz0 hz1 hz2 rfl (by decide) _ _ _ rfl HI.out.o ⟨q9, 0, none⟩ 1 1 [.int .i64 x, .int .i64 y] rfl rfl hnw (by simp [Value.oneCell']) (by omega) (by unfold maxLen; omega) (by omega) (by omega) (q9 + 1) hs9 ?_
                      intro g5 c5 w5 hown hgrow _ hlt5
                      have HG := Lib.hid (HI.out.app' hgrow hown)
                      have hh5 := grow_keep hgrow HI.out.h (own_ne HI.out.o HI.out.h (by decide))
                      have ff0 := frozen_of hh5 (i := 0)
                      have cc0 := cell_of hh5 (i := 0) rfl
                      refine hK.out _ _ True.intro (fun hHeldN => ?_)
                      clear hK K hHeld hown hgrow
                      try simp only [Act.put, pB, pC, pD]
                      have hHeld := hHeldN
                      clear hHeldN
                      refine tkH (by assumption) 11 (oi := ?_) (v := ?_) ?_ ?_ ?_ ?_ ?_ ?_ ?_ ?_; rotate_left 2; (simp only [gA, gB, gC]; exact rfl); kernel_rfl; kernel_rfl; kernel_rfl; exact fun _ _ _ h => h; rfl; (intro w' hSw; (try dsimp only at hSw); go_simp; with_reducible rfl); simp only [Act.put, pB, pC, pD]
                      refine onH 12 (oi := ?_) (by kernel_rfl) ?_ ?_ (fun K hK => ?_); rotate_left; (simp only [gA, gB, gC]; exact rfl); rfl
                      go_wp2_with (fail)
                      refine hK.out _ _ True.intro (fun hHeldN => ?_)
                      clear hK K hHeld hHeldN
                      try simp only [Act.put, pB, pC, pD]
                      refine wpAnyH_done (by kernel_rfl) ?_ _
                      go_wp2_with (fail)
                      go_roundw
                      case rel => exact ⟨n + 1, _, _, _, _, by go_num, by omega, by rw [show k + 1 + 10 * t + 1 + 2 * (n + 1) = k + 1 + 10 * t + 1 + 2 * n + 1 + 1 by omega]; exact HG.out⟩
                      case measure => simp [intOf]; omega
                    exact AllReadyH.nil
                  exact AllReadyH.nil
                exact AllReadyH.nil
              refine coH 6 (oi := ?_) ?_ ?_ (fun K hK => ?_) ?_; rotate_left; (simp only [gA, gB, gC]; exact rfl); rfl
              · go_wp2_with (fail)
                have hb : Below wN.heap.size wN (wN.alloc (.cells #[.int .i64 0, .int .i64 0, .int .i64 1, .int .i64 4] 3)) := (Below.refl _ _).alloc (Nat.le_refl _) _
                have cB : ∀ i, i < 4 → ∃ z, (wN.alloc (.cells #[.int .i64 0, .int .i64 0, .int .i64 1, .int .i64 4] 3)).cell? ⟨wN.heap.size, i, none⟩ = some (.int .i64 z) ∧ True := cells_lit wN [0, 0, 1, 4] 3 (fun _ => True) (by simp)
                have lB : wN.heap.size < (wN.alloc (.cells #[.int .i64 0, .int .i64 0, .int .i64 1, .int .i64 4] 3)).heap.size := by simp
                have bB : wN.heap.size ≠ B := by have := HI.out.lt; have := HI.out.l; omega
                replace HI := Lib.hid (HI.out.alloc (.cells #[.int .i64 0, .int .i64 0, .int .i64 1, .int .i64 4] 3))
                refine hK.out _ _ True.intro (fun hHeldN => ?_)
                clear hK K hHeld hb
                have hHeld := hHeldN
                clear hHeldN
                try simp only [Act.put, pB, pC, pD]
                generalize (wN.alloc (.cells #[.int .i64 0, .int .i64 0, .int .i64 1, .int .i64 4] 3)) = W31 at *
                obtain ⟨qB, hg⟩ : ∃ g, g = wN.heap.size := ⟨_, rfl⟩
                rw [← hg] at cB lB bB ⊢
                clear hg
                refine wpAnyH_ready (rs := [1, 7]) (by kernel_rfl) (by simp) ?_
                refine coH 1 (oi := ?_) ?_ ?_ (fun K hK => ?_) ?_; rotate_left; (simp only [gA, gB, gC]; exact rfl); rfl
                · have hc0 := cell_of HI.out.h (i := 0) rfl
                  go_wp2_with (fail)
                  refine hK.out _ _ True.intro (fun hHeldN => ?_)
                  clear hK K hHeld hc0
                  have hHeld := hHeldN
                  clear hHeldN
                  try simp only [Act.put, pB, pC, pD]
                  refine wpAnyH_ready (rs := [7]) (by kernel_rfl) (by simp) ?_
                  refine coH 7 (oi := ?_) ?_ ?_ (fun K hK => ?_) ?_; rotate_left; (simp only [gA, gB, gC]; exact rfl); rfl
                  · go_wp2_with (fail)
                    refine (pick_any B _ qB 4 4 (fun _ => True) W31 HI.out.s (by omega) (by omega) (by omega) bB lB cB).mono ?_
                    rintro e wN ⟨⟨y, rfl, _⟩, hst, hmt⟩
                    replace HI := Lib.hid (HI.out.next hmt hst)
                    refine hK.out _ _ True.intro (fun hHeldN => ?_)
                    clear hK K hHeld hst hmt cB lB bB
                    have hHeld := hHeldN
                    clear hHeldN
                    try simp only [Act.put, pB, pC, pD]
                    refine tkH (by assumption) 8 (oi := ?_) (v := ?_) ?_ ?_ ?_ ?_ ?_ ?_ ?_ ?_; rotate_left 2; (simp only [gA, gB, gC]; exact rfl); kernel_rfl; kernel_rfl; kernel_rfl; exact fun _ _ _ h => h; rfl; (intro w' hSw; (try dsimp only at hSw); go_simp; with_reducible rfl); simp only [Act.put, pB, pC, pD]
                    refine wpAnyH_ready (rs := [9]) (by kernel_rfl) (by simp) ?_
                    refine coH 9 (oi := ?_) ?_ ?_ (fun K hK => ?_) ?_; rotate_left; (simp only [gA, gB, gC]; exact rfl); rfl
                    · go_wp2_with (fail)
                      have hnw := World.news_of_block (cs := #[.int .i64 x, .int .i64 y]) (t := 38) (fr := (0, 0)) (heap_alloc_new wN (.cells #[.int .i64 x, .int .i64 y] 38))
                      have hbz : w0.heap.size + 1 ≤ wN.heap.size := HI.out.lt
                      replace HI := Lib.hid (HI.out.alloc (.cells #[.int .i64 x, .int .i64 y] 38))
                      refine hK.out _ _ True.intro (fun hHeldN => ?_)
                      clear hK K hHeld
                      have hHeld := hHeldN
                      clear hHeldN
                      try simp only [Act.put, pB, pC, pD]
                      obtain ⟨q9, hg⟩ : ∃ g, g = wN.heap.size := ⟨_, rfl⟩
                      have hs9 : (wN.alloc (.cells #[.int .i64 x, .int .i64 y] 38)).heap.size = q9 + 1 := by simp [hg]
                      rw [← hg] at hnw hbz ⊢
                      generalize (wN.alloc (.cells #[.int .i64 x, .int .i64 y] 38)) = W34 at *
                      clear hg
                      refine onH 10 (oi := ?_) (by kernel_rfl) ?_ ?_ (fun K hK => ?_); rotate_left; (simp only [gA, gB, gC]; exact rfl); rfl
                      refine wp_append_lies _ _ _ 28 rfl (w0.heap.size + 1) 38 i0 (.agg #[.int .i64 0, .int .i64 0]) 2 16 Try.underlying28 hi0 hz0 hz1 hz2 rfl (by decide) _ _ _ rfl HI.out.o ⟨q9, 0, none⟩ 1 1 [.int .i64 x, .int .i64 y] rfl rfl hnw (by simp [Value.oneCell']) (by omega) (by unfold maxLen; omega) (by omega) (by omega) (q9 + 1) hs9 ?_
                      intro g5 c5 w5 hown hgrow _ hlt5
                      have HG := Lib.hid (HI.out.app' hgrow hown)
                      have hh5 := grow_keep hgrow HI.out.h (own_ne HI.out.o HI.out.h (by decide))
                      have ff0 := frozen_of hh5 (i := 0)
                      have cc0 := cell_of hh5 (i := 0) rfl
                      refine hK.out _ _ True.intro (fun hHeldN => ?_)
                      clear hK K hHeld hown hgrow
                      try simp only [Act.put, pB, pC, pD]
                      have hHeld := hHeldN
                      clear hHeldN
                      refine tkH (by assumption) 11 (oi := ?_) (v := ?_) ?_ ?_ ?_ ?_ ?_ ?_ ?_ ?_; rotate_left 2; (simp only [gA, gB, gC]; exact rfl); kernel_rfl; kernel_rfl; kernel_rfl; exact fun _ _ _ h => h; rfl; (intro w' hSw; (try dsimp only at hSw); go_simp; with_reducible rfl); simp only [Act.put, pB, pC, pD]
                      refine onH 12 (oi := ?_) (by kernel_rfl) ?_ ?_ (fun K hK => ?_); rotate_left; (simp only [gA, gB, gC]; exact rfl); rfl
                      go_wp2_with (fail)
                      refine hK.out _ _ True.intro (fun hHeldN => ?_)
                      clear hK K hHeld hHeldN
                      try simp only [Act.put, pB, pC, pD]
                      refine wpAnyH_done (by kernel_rfl) ?_ _
                      go_wp2_with (fail)
                      go_roundw
                      case rel => exact ⟨n + 1, _, _, _, _, by go_num, by omega, by rw [show k + 1 + 10 * t + 1 + 2 * (n + 1) = k + 1 + 10 * t + 1 + 2 * n + 1 + 1 by omega]; exact HG.out⟩
                      case measure => simp [intOf]; omega
                    exact AllReadyH.nil
                  exact AllReadyH.nil
                refine coH 7 (oi := ?_) ?_ ?_ (fun K hK => ?_) ?_; rotate_left; (simp only [gA, gB, gC]; exact rfl); rfl
                · go_wp2_with (fail)
                  refine (pick_any B _ qB 4 4 (fun _ => True) W31 HI.out.s (by omega) (by omega) (by omega) bB lB cB).mono ?_
                  rintro e wN ⟨⟨y, rfl, _⟩, hst, hmt⟩
                  replace HI := Lib.hid (HI.out.next hmt hst)
                  refine hK.out _ _ True.intro (fun hHeldN => ?_)
                  clear hK K hHeld hst hmt cB lB bB
                  have hHeld := hHeldN
                  clear hHeldN
                  try simp only [Act.put, pB, pC, pD]
                  refine tkH (by assumption) 8 (oi := ?_) (v := ?_) ?_ ?_ ?_ ?_ ?_ ?_ ?_ ?_; rotate_left 2; (simp only [gA, gB, gC]; exact rfl); kernel_rfl; kernel_rfl; kernel_rfl; exact fun _ _ _ h => h; rfl; (intro w' hSw; (try dsimp only at hSw); go_simp; with_reducible rfl); simp only [Act.put, pB, pC, pD]
                  refine wpAnyH_ready (rs := [1, 9]) (by kernel_rfl) (by simp) ?_
                  refine coH 1 (oi := ?_) ?_ ?_ (fun K hK => ?_) ?_; rotate_left; (simp only [gA, gB, gC]; exact rfl); rfl
                  · have hc0 := cell_of HI.out.h (i := 0) rfl
                    go_wp2_with (fail)
                    refine hK.out _ _ True.intro (fun hHeldN => ?_)
                    clear hK K hHeld hc0
                    have hHeld := hHeldN
                    clear hHeldN
                    try simp only [Act.put, pB, pC, pD]
                    refine wpAnyH_ready (rs := [9]) (by kernel_rfl) (by simp) ?_
                    refine coH 9 (oi := ?_) ?_ ?_ (fun K hK => ?_) ?_; rotate_left; (simp only [gA, gB, gC]; exact rfl); rfl
                    · go_wp2_with (fail)
                      have hnw := World.news_of_block (cs := #[.int .i64 x, .int .i64 y]) (t := 38) (fr := (0, 0)) (heap_alloc_new wN (.cells #[.int .i64 x, .int .i64 y] 38))
                      have hbz : w0.heap.size + 1 ≤ wN.heap.size := HI.out.lt
                      replace HI := Lib.hid (HI.out.alloc (.cells #[.int .i64 x, .int .i64 y] 38))
                      refine hK.out _ _ True.intro (fun hHeldN => ?_)
                      clear hK K hHeld
                      have hHeld := hHeldN
                      clear hHeldN
                      try simp only [Act.put, pB, pC, pD]
                      obtain ⟨q9, hg⟩ : ∃ g, g = wN.heap.size := ⟨_, rfl⟩
                      have hs9 : (wN.alloc (.cells #[.int .i64 x, .int .i64 y] 38)).heap.size = q9 + 1 := by simp [hg]
                      rw [← hg] at hnw hbz ⊢
                      generalize (wN.alloc (.cells #[.int .i64 x, .int .i64 y] 38)) = W37 at *
                      clear hg
                      refine onH 10 (oi := ?_) (by kernel_rfl) ?_ ?_ (fun K hK => ?_); rotate_left; (simp only [gA, gB, gC]; exact rfl); rfl
                      refine wp_append_lies _ _ _ 28 rfl (w0.heap.size + 1) 38 i0 (.agg #[.int .i64 0, .int .i64 0]) 2 16 Try.underlying28 hi0 hz0 hz1 hz2 rfl (by decide) _ _ _ rfl HI.out.o ⟨q9, 0, none⟩ 1 1 [.int .i64 x, .int .i64 y] rfl rfl hnw (by simp [Value.oneCell']) (by omega) (by unfold maxLen; omega) (by omega) (by omega) (q9 + 1) hs9 ?_
                      intro g5 c5 w5 hown hgrow _ hlt5
                      have HG := Lib.hid (HI.out.app' hgrow hown)
                      have hh5 := grow_keep hgrow HI.out.h (own_ne HI.out.o HI.out.h (by decide))
                      have ff0 := frozen_of hh5 (i := 0)
                      have cc0 := cell_of hh5 (i := 0) rfl
                      refine hK.out _ _ True.intro (fun hHeldN => ?_)
                      clear hK K hHeld hown hgrow
                      try simp only [Act.put, pB, pC, pD]
                      have hHeld := hHeldN
                      clear hHeldN
                      refine tkH (by assumption) 11 (oi := ?_) (v := ?_) ?_ ?_ ?_ ?_ ?_ ?_ ?_ ?_; rotate_left 2; (simp only [gA, gB, gC]; exact rfl); kernel_rfl; kernel_rfl; kernel_rfl; exact fun _ _ _ h => h; rfl; (intro w' hSw; (try dsimp only at hSw); go_simp; with_reducible rfl); simp only [Act.put, pB, pC, pD]
                      refine onH 12 (oi := ?_) (by kernel_rfl) ?_ ?_ (fun K hK => ?_); rotate_left; (simp only [gA, gB, gC]; exact rfl); rfl
                      go_wp2_with (fail)
                      refine hK.out _ _ True.intro (fun hHeldN => ?_)
                      clear hK K hHeld hHeldN
                      try simp only [Act.put, pB, pC, pD]
                      refine wpAnyH_done (by kernel_rfl) ?_ _
                      go_wp2_with (fail)
                      go_roundw
                      case rel => exact ⟨n + 1, _, _, _, _, by go_num, by omega, by rw [show k + 1 + 10 * t + 1 + 2 * (n + 1) = k + 1 + 10 * t + 1 + 2 * n + 1 + 1 by omega]; exact HG.out⟩
                      case measure => simp [intOf]; omega
                    exact AllReadyH.nil
                  refine coH 9 (oi := ?_) ?_ ?_ (fun K hK => ?_) ?_; rotate_left; (simp only [gA, gB, gC]; exact rfl); rfl
                  · go_wp2_with (fail)
                    have hnw := World.news_of_block (cs := #[.int .i64 x, .int .i64 y]) (t := 38) (fr := (0, 0)) (heap_alloc_new wN (.cells #[.int .i64 x, .int .i64 y] 38))
                    have hbz : w0.heap.size + 1 ≤ wN.heap.size := HI.out.lt
                    replace HI := Lib.hid (HI.out.alloc (.cells #[.int .i64 x, .int .i64 y] 38))
                    refine hK.out _ _ True.intro (fun hHeldN => ?_)
                    clear hK K hHeld
                    have hHeld := hHeldN
                    clear hHeldN
                    try simp only [Act.put, pB, pC, pD]
                    obtain ⟨q9, hg⟩ : ∃ g, g = wN.heap.size := ⟨_, rfl⟩
                    have hs9 : (wN.alloc (.cells #[.int .i64 x, .int .i64 y] 38)).heap.size = q9 + 1 := by simp [hg]
                    rw [← hg] at hnw hbz ⊢
                    generalize (wN.alloc (.cells #[.int .i64 x, .int .i64 y] 38)) = W38 at *
                    clear hg
                    refine wpAnyH_ready (rs := [1]) (by kernel_rfl) (by simp) ?_
                    refine coH 1 (oi := ?_) ?_ ?_ (fun K hK => ?_) ?_; rotate_left; (simp only [gA, gB, gC]; exact rfl); rfl
                    · have hc0 := cell_of HI.out.h (i := 0) rfl
                      go_wp2_with (fail)
                      refine hK.out _ _ True.intro (fun hHeldN => ?_)
                      clear hK K hHeld hc0
                      have hHeld := hHeldN
                      clear hHeldN
                      try simp only [Act.put, pB, pC, pD]
                      refine onH 10 (oi := ?_) (by kernel_rfl) ?_ ?_ (fun K hK => ?_); rotate_left; (simp only [gA, gB, gC]; exact rfl); rfl
                      refine wp_append_lies _ _ _ 28 rfl (w0.heap.size + 1) 38 i0 (.agg #[.int .i64 0, .int .i64 0]) 2 16 Try.underlying28 hi0 hz0 hz1 hz2 rfl (by decide) _ _ _ rfl HI.out.o ⟨q9, 0, none⟩ 1 1 [.int .i64 x, .int .i64 y] rfl rfl hnw (by simp [Value.oneCell']) (by omega) (by unfold maxLen; omega) (by omega) (by omega) (q9 + 1) hs9 ?_
                      intro g5 c5 w5 hown hgrow _ hlt5
                      have HG := Lib.hid (HI.out.app' hgrow hown)
                      have hh5 := grow_keep hgrow HI.out.h (own_ne HI.out.o HI.out.h (by decide))
                      have ff0 := frozen_of hh5 (i := 0)
                      have cc0 := cell_of hh5 (i := 0) rfl
                      refine hK.out _ _ True.intro (fun hHeldN => ?_)
                      clear hK K hHeld hown hgrow
                      try simp only [Act.put, pB, pC, pD]
                      have hHeld := hHeldN
                      clear hHeldN
                      refine tkH (by assumption) 11 (oi := ?_) (v := ?_) ?_ ?_ ?_ ?_ ?_ ?_ ?_ ?_; rotate_left 2; (simp only [gA, gB, gC]; exact rfl); kernel_rfl; kernel_rfl; kernel_rfl; exact fun _ _ _ h => h; rfl; (intro w' hSw; (try dsimp only at hSw); go_simp; with_reducible rfl); simp only [Act.put, pB, pC, pD]
                      refine onH 12 (oi := ?_) (by kernel_rfl) ?_ ?_ (fun K hK => ?_); rotate_left; (simp only [gA, gB, gC]; exact rfl); rfl
                      go_wp2_with (fail)
                      refine hK.out _ _ True.intro (fun hHeldN => ?_)
                      clear hK K hHeld hHeldN
                      try simp only [Act.put, pB, pC, pD]
                      refine wpAnyH_done (by kernel_rfl) ?_ _
                      go_wp2_with (fail)
                      go_roundw
                      case rel => exact ⟨n + 1, _, _, _, _, by go_num, by omega, by rw [show k + 1 + 10 * t + 1 + 2 * (n + 1) = k + 1 + 10 * t + 1 + 2 * n + 1 + 1 by omega]; exact HG.out⟩
                      case measure => simp [intOf]; omega
                    exact AllReadyH.nil
                  exact AllReadyH.nil
                exact AllReadyH.nil
              exact AllReadyH.nil
            refine coH 6 (oi := ?_) ?_ ?_ (fun K hK => ?_) ?_; rotate_left; (simp only [gA, gB, gC]; exact rfl); rfl
            · go_wp2_with (fail)
              have hb : Below W16.heap.size W16 (W16.alloc (.cells #[.int .i64 0, .int .i64 0, .int .i64 1, .int .i64 4] 3)) := (Below.refl _ _).alloc (Nat.le_refl _) _
              have cB : ∀ i, i < 4 → ∃ z, (W16.alloc (.cells #[.int .i64 0, .int .i64 0, .int .i64 1, .int .i64 4] 3)).cell? ⟨W16.heap.size, i, none⟩ = some (.int .i64 z) ∧ True := cells_lit W16 [0, 0, 1, 4] 3 (fun _ => True) (by simp)
              have lB : W16.heap.size < (W16.alloc (.cells #[.int .i64 0, .int .i64 0, .int .i64 1, .int .i64 4] 3)).heap.size := by simp
              have bB : W16.heap.size ≠ B := by have := HI.out.lt; have := HI.out.l; omega
              replace HI := Lib.hid (HI.out.alloc (.cells #[.int .i64 0, .int .i64 0, .int .i64 1, .int .i64 4] 3))
              replace cA : ∀ i, i < 5 → ∃ z, (W16.alloc (.cells #[.int .i64 0, .int .i64 0, .int .i64 1, .int .i64 4] 3)).cell? ⟨qA, i, none⟩ = some (.int .i64 z) ∧ True := fun i hi => by obtain ⟨z, h1, h2⟩ := cA i hi; exact ⟨z, cellk hb lA h1, h2⟩
              replace lA := Nat.lt_of_lt_of_le lA hb.size
              refine hK.out _ _ True.intro (fun hHeldN => ?_)
              clear hK K hHeld hb
              have hHeld := hHeldN
              clear hHeldN
              try simp only [Act.put, pB, pC, pD]
              generalize (W16.alloc (.cells #[.int .i64 0, .int .i64 0, .int .i64 1, .int .i64 4] 3)) = W40 at *
              obtain ⟨qB, hg⟩ : ∃ g, g = W16.heap.size := ⟨_, rfl⟩
              rw [← hg] at cB lB bB ⊢
              clear hg
              refine wpAnyH_ready (rs := [1, 4]) (by kernel_rfl) (by simp) ?_
              refine coH 1 (oi := ?_) ?_ ?_ (fun K hK => ?_) ?_; rotate_left; (simp only [gA, gB, gC]; exact rfl); rfl
              · have hc0 := cell_of HI.out.h (i := 0) rfl
                go_wp2_with (fail)
                refine hK.out _ _ True.intro (fun hHeldN => ?_)
                clear hK K hHeld hc0
                have hHeld := hHeldN
                clear hHeldN
                try simp only [Act.put, pB, pC, pD]
                refine wpAnyH_ready (rs := [4]) (by kernel_rfl) (by simp) ?_
                refine coH 4 (oi := ?_) ?_ ?_ (fun K hK => ?_) ?_; rotate_left; (simp only [gA, gB, gC]; exact rfl); rfl
                · go_wp2_with (fail)
                  refine (pick_any B _ qA 5 5 (fun _ => True) W40.drew (HI.out.s.kept (S := fun _ => False) (Mut.refl _ _).drew (fun _ _ h => h)) (by omega) (by omega) (by omega) bA lA cA).mono ?_
                  rintro e wN ⟨⟨x, rfl, _⟩, hst, hmt⟩
                  replace hmt : Mut (· = B) W40 wN := ⟨hmt.os, hmt.tape, hmt.output, hmt.size, hmt.block⟩
                  replace HI := Lib.hid (HI.out.next hmt hst)
                  replace cB : ∀ i, i < 4 → ∃ z, wN.cell? ⟨qB, i, none⟩ = some (.int .i64 z) ∧ True := fun i hi => by obtain ⟨z, h1, h2⟩ := cB i hi; exact ⟨z, (hmt.cell (p := ⟨qB, i, none⟩) lB bB).trans h1, h2⟩
                  replace lB := Nat.lt_of_lt_of_le lB hmt.size
                  refine hK.out _ _ True.intro (fun hHeldN => ?_)
                  clear hK K hHeld hst hmt cA lA bA
                  have hHeld := hHeldN
                  clear hHeldN
                  try simp only [Act.put, pB, pC, pD]
                  refine wpAnyH_ready (rs := [7]) (by kernel_rfl) (by simp) ?_
                  refine coH 7 (oi := ?_) ?_ ?_ (fun K hK => ?_) ?_; rotate_left; (simp only [gA, gB, gC]; exact rfl); rfl
                  · go_wp2_with (fail)
                    refine (pick_any B _ qB 4 4 (fun _ => True) wN HI.out.s (by omega) (by omega) (by omega) bB lB cB).mono ?_
                    rintro e wN ⟨⟨y, rfl, _⟩, hst, hmt⟩
                    replace HI := Lib.hid (HI.out.next hmt hst)
                    refine hK.out _ _ True.intro (fun hHeldN => ?_)
                    clear hK K hHeld hst hmt cB lB bB
                    have hHeld := hHeldN
                    clear hHeldN
                    try simp only [Act.put, pB, pC, pD]
                    refine tkH (by assumption) 8 (oi := ?_) (v := ?_) ?_ ?_ ?_ ?_ ?_ ?_ ?_ ?_; rotate_left 2; (simp only [gA, gB, gC]; exact rfl); kernel_rfl; kernel_rfl; kernel_rfl; exact fun _ _ _ h => h; rfl; (intro w' hSw; (try dsimp only at hSw); go_simp; with_reducible rfl); simp only [Act.put, pB, pC, pD]
                    refine wpAnyH_ready (rs := [9]) (by kernel_rfl) (by simp) ?_
                    refine coH 9 (oi := ?_) ?_ ?_ (fun K hK => ?_) ?_; rotate_left; (simp only [gA, gB, gC]; exact rfl); rfl
                    · go_wp2_with (fail)
                      have hnw := World.news_of_block (cs := #[.int .i64 x, .int .i64 y]) (t := 38) (fr := (0, 0)) (heap_alloc_new wN (.cells #[.int .i64 x, .int .i64 y] 38))
                      have hbz : w0.heap.size + 1 ≤ wN.heap.size := HI.out.lt
                      replace HI := Lib.hid (HI.out.alloc (.cells #[.int .i64 x, .int .i64 y] 38))
                      refine hK.out _ _ True.intro (fun hHeldN => ?_)
                      clear hK K hHeld
                      have hHeld := hHeldN
                      clear hHeldN
                      try simp only [Act.put, pB, pC, pD]
                      obtain ⟨q9, hg⟩ : ∃ g, g = wN.heap.size := ⟨_, rfl⟩
                      have hs9 : (wN.alloc (.cells #[.int .i64 x, .int .i64 y] 38)).heap.size = q9 + 1 := by simp [hg]
                      rw [← hg] at hnw hbz ⊢
                      generalize (wN.alloc (.cells #[.int .i64 x, .int .i64 y] 38)) = W44 at *
                      clear hg
                      refine onH 10 (oi := ?_) (by kernel_rfl) ?_ ?_ (fun K hK => ?_); rotate_left; (simp only [gA, gB, gC]; exact rfl); rfl
                      refine wp_append_lies _ _ _ 28 rfl (w0.heap.size + 1) 38 i0 (.agg #[.int .i64 0, .int .i64 0]) 2 16 Try.underlying28 hi0 hz0 hz1 hz2 rfl (by decide) _ _ _ rfl HI.out.o ⟨q9, 0, none⟩ 1 1 [.int .i64 x, .int .i64 y] rfl rfl hnw (by simp [Value.oneCell']) (by omega) (by unfold maxLen; omega) (by omega) (by omega) (q9 + 1) hs9 ?_
                      intro g5 c5 w5 hown hgrow _ hlt5
                      have HG := Lib.hid (HI.out.app' hgrow hown)
                      have hh5 := grow_keep hgrow HI.out.h (own_ne HI.out.o HI.out.h (by decide))
                      have ff0 := frozen_of hh5 (i := 0)
                      have cc0 := cell_of hh5 (i := 0) rfl
                      refine hK.out _ _ True.intro (fun hHeldN => ?_)
                      clear hK K hHeld hown hgrow
                      try simp only [Act.put, pB, pC, pD]
                      have hHeld := hHeldN
                      clear hHeldN
                      refine tkH (by assumption) 11 (oi := ?_) (v := ?_) ?_ ?_ ?_ ?_ ?_ ?_ ?_ ?_; rotate_left 2; (simp only [gA, gB, gC]; exact rfl); kernel_rfl; kernel_rfl; kernel_rfl; exact fun _ _ _ h => h; rfl; (intro w' hSw; (try dsimp only at hSw); go_simp; with_reducible rfl); simp only [Act.put, pB, pC, pD]
                      refine onH 12 (oi := ?_) (by kernel_rfl) ?_ ?_ (fun K hK => ?_); rotate_left; (simp only [gA, gB, gC]; exact rfl); rfl
                      go_wp2_with (fail)
                      refine hK.out _ _ True.intro (fun hHeldN => ?_)
                      clear hK K hHeld hHeldN
                      try simp only [Act.put, pB, pC, pD]
                      refine wpAnyH_done (by kernel_rfl) ?_ _
                      go_wp2_with (fail)
                      go_roundw
                      case rel => exact ⟨n + 1, _, _, _, _, by go_num, by omega, by rw [show k + 1 + 10 * t + 1 + 2 * (n + 1) = k + 1 + 10 * t + 1 + 2 * n + 1 + 1 by omega]; exact HG.out⟩
                      case measure => simp [intOf]; omega
                    exact AllReadyH.nil
                  exact AllReadyH.nil
                exact AllReadyH.nil
              refine coH 4 (oi := ?_) ?_ ?_ (fun K hK => ?_) ?_; rotate_left; (simp only [gA, gB, gC]; exact rfl); rfl
              · go_wp2_with (fail)
                refine (pick_any B _ qA 5 5 (fun _ => True) W40.drew (HI.out.s.kept (S := fun _ => False) (Mut.refl _ _).drew (fun _ _ h => h)) (by omega) (by omega) (by omega) bA lA cA).mono ?_
                rintro e wN ⟨⟨x, rfl, _⟩, hst, hmt⟩
                replace hmt : Mut (· = B) W40 wN := ⟨hmt.os, hmt.tape, hmt.output, hmt.size, hmt.block⟩
                replace HI := Lib.hid (HI.out.next hmt hst)
                replace cB : ∀ i, i < 4 → ∃ z, wN.cell? ⟨qB, i, none⟩ = some (.int .i64 z) ∧ True := fun i hi => by obtain ⟨z, h1, h2⟩ := cB i hi; exact ⟨z, (hmt.cell (p := ⟨qB, i, none⟩) lB bB).trans h1, h2⟩
                replace lB := Nat.lt_of_lt_of_le lB hmt.size
                refine hK.out _ _ True.intro (fun hHeldN => ?_)
                clear hK K hHeld hst hmt cA lA bA
                have hHeld := hHeldN
                clear hHeldN
                try simp only [Act.put, pB, pC, pD]
                refine wpAnyH_ready (rs := [1, 7]) (by kernel_rfl) (by simp) ?_
                refine coH 1 (oi := ?_) ?_ ?_ (fun K hK => ?_) ?_; rotate_left; (simp only [gA, gB, gC]; exact rfl); rfl
                · have hc0 := cell_of HI.out.h (i := 0) rfl
                  go_wp2_with (fail)
                  refine hK.out _ _ True.intro (fun hHeldN => ?_)
                  clear hK K hHeld hc0
                  have hHeld := hHeldN
                  clear hHeldN
                  try simp only [Act.put, pB, pC, pD]
                  refine wpAnyH_ready (rs := [7]) (by kernel_rfl) (by simp) ?_
                  refine coH 7 (oi := ?_) ?_ ?_ (fun K hK => ?_) ?_; rotate_left; (simp only [gA, gB, gC]; exact rfl); rfl
                  · go_wp2_with (fail)
                    refine (pick_any B _ qB 4 4 (fun _ => True) wN HI.out.s (by omega) (by omega) (by omega) bB lB cB).mono ?_
                    rintro e wN ⟨⟨y, rfl, _⟩, hst, hmt⟩
                    replace HI := Lib.hid (HI.out.next hmt hst)
                    refine hK.out _ _ True.intro (fun hHeldN => ?_)
                    clear hK K hHeld hst hmt cB lB bB
                    have hHeld := hHeldN
                    clear hHeldN
                    try simp only [Act.put, pB, pC, pD]
                    refine tkH (by assumption) 8 (oi := ?_) (v := ?_) ?_ ?_ ?_ ?_ ?_ ?_ ?_ ?_; rotate_left 2; (simp only [gA, gB, gC]; exact rfl); kernel_rfl; kernel_rfl; kernel_rfl; exact fun _ _ _ h => h; rfl; (intro w' hSw; (try dsimp only at hSw); go_simp; with_reducible rfl); simp only [Act.put, pB, pC, pD]
                    refine wpAnyH_ready (rs := [9]) (by kernel_rfl) (by simp) ?_
                    refine coH 9 (oi := ?_) ?_ ?_ (fun K hK => ?_) ?_; rotate_left; (simp only [gA, gB, gC]; exact rfl); rfl
                    · go_wp2_with (fail)
                      have hnw := World.news_of_block (cs := #[.int .i64 x, .int .i64 y]) (t := 38) (fr := (0, 0)) (heap_alloc_new wN (.cells #[.int .i64 x, .int .i64 y] 38))
                      have hbz : w0.heap.size + 1 ≤ wN.heap.size := HI.out.lt
                      replace HI := Lib.hid (HI.out.alloc (.cells #[.int .i64 x, .int .i64 y] 38))
                      refine hK.out _ _ True.intro (fun hHeldN => ?_)
                      clear hK K hHeld
                      have hHeld := hHeldN
                      clear hHeldN
                      try simp only [Act.put, pB, pC, pD]
                      obtain ⟨q9, hg⟩ : ∃ g, g = wN.heap.size := ⟨_, rfl⟩
                      have hs9 : (wN.alloc (.cells #[.int .i64 x, .int .i64 y] 38)).heap.size = q9 + 1 := by simp [hg]
                      rw [← hg] at hnw hbz ⊢
                      generalize (wN.alloc (.cells #[.int .i64 x, .int .i64 y] 38)) = W48 at *
                      clear hg
                      refine onH 10 (oi := ?_) (by kernel_rfl) ?_ ?_ (fun K hK => ?_); rotate_left; (simp only [gA, gB, gC]; exact rfl); rfl
                      refine wp_append_lies _ _ _ 28 rfl (w0.heap.size + 1) 38 i0 (.agg #[.int .i64 0, .int .i64 0]) 2 16 Try.underlying28 hi0 hz0 hz1 hz2 rfl (by decide) _ _ _ rfl HI.out.o ⟨q9, 0, none⟩ 1 1 [.int .i64 x, .int .i64 y] rfl rfl hnw (by simp [Value.oneCell']) (by omega) (by unfold maxLen; omega) (by omega) (by omega) (q9 + 1) hs9 ?_
                      intro g5 c5 w5 hown hgrow _ hlt5
                      have HG := Lib.hid (HI.out.app' hgrow hown)
                      have hh5 := grow_keep hgrow HI.out.h (own_ne HI.out.o HI.out.h (by decide))
                      have ff0 := frozen_of hh5 (i := 0)
                      have cc0 := cell_of hh5 (i := 0) rfl
                      refine hK.out _ _ True.intro (fun hHeldN => ?_)
                      clear hK K hHeld hown hgrow
                      try simp only [Act.put, pB, pC, pD]
                      have hHeld := hHeldN
                      clear hHeldN
                      refine tkH (by assumption) 11 (oi := ?_) (v := ?_) ?_ ?_ ?_ ?_ ?_ ?_ ?_ ?_; rotate_left 2; (simp only [gA, gB, gC]; exact rfl); kernel_rfl; kernel_rfl; kernel_rfl; exact fun _ _ _ h => h; rfl; (intro w' hSw; (try dsimp only at hSw); go_simp; with_reducible rfl); simp only [Act.put, pB, pC, pD]
                      refine onH 12 (oi := ?_) (by kernel_rfl) ?_ ?_ (fun K hK => ?_); rotate_left; (simp only [gA, gB, gC]; exact rfl); rfl
                      go_wp2_with (fail)
                      refine hK.out _ _ True.intro (fun hHeldN => ?_)
                      clear hK K hHeld hHeldN
                      try simp only [Act.put, pB, pC, pD]
                      refine wpAnyH_done (by kernel_rfl) ?_ _
                      go_wp2_with (fail)
                      go_roundw
                      case rel => exact ⟨n + 1, _, _, _, _, by go_num, by omega, by rw [show k + 1 + 10 * t + 1 + 2 * (n + 1) = k + 1 + 10 * t + 1 + 2 * n + 1 + 1 by omega]; exact HG.out⟩
                      case measure => simp [intOf]; omega
                    exact AllReadyH.nil
                  exact AllReadyH.nil
                refine coH 7 (oi := ?_) ?_ ?_ (fun K hK => ?_) ?_; rotate_left; (simp only [gA, gB, gC]; exact rfl); rfl
                · go_wp2_with (fail)
                  refine (pick_any B _ qB 4 4 (fun _ => True) wN HI.out.s (by omega) (by omega) (by omega) bB lB cB).mono ?_
                  rintro e wN ⟨⟨y, rfl, _⟩, hst, hmt⟩
                  replace HI := Lib.hid (HI.out.next hmt hst)
                  refine hK.out _ _ True.intro (fun hHeldN => ?_)
                  clear hK K hHeld hst hmt cB lB bB
                  have hHeld := hHeldN
                  clear hHeldN
                  try simp only [Act.put, pB, pC, pD]
                  refine tkH (by assumption) 8 (oi := ?_) (v := ?_) ?_ ?_ ?_ ?_ ?_ ?_ ?_ ?_; rotate_left 2; (simp only [gA, gB, gC]; exact rfl); kernel_rfl; kernel_rfl; kernel_rfl; exact fun _ _ _ h => h; rfl; (intro w' hSw; (try dsimp only at hSw); go_simp; with_reducible rfl); simp only [Act.put, pB, pC, pD]
                  refine wpAnyH_ready (rs := [1, 9]) (by kernel_rfl) (by simp) ?_
                  refine coH 1 (oi := ?_) ?_ ?_ (fun K hK => ?_) ?_; rotate_left; (simp only [gA, gB, gC]; exact rfl); rfl
                  · have hc0 := cell_of HI.out.h (i := 0) rfl
                    go_wp2_with (fail)
                    refine hK.out _ _ True.intro (fun hHeldN => ?_)
                    clear hK K hHeld hc0
                    have hHeld := hHeldN
                    clear hHeldN
                    try simp only [Act.put, pB, pC, pD]
                    refine wpAnyH_ready (rs := [9]) (by kernel_rfl) (by simp) ?_
                    refine coH 9 (oi := ?_) ?_ ?_ (fun K hK => ?_) ?_; rotate_left; (simp only [gA, gB, gC]; exact rfl); rfl
                    · go_wp2_with (fail)
                      have hnw := World.news_of_block (cs := #[.int .i64 x, .int .i64 y]) (t := 38) (fr := (0, 0)) (heap_alloc_new wN (.cells #[.int .i64 x, .int .i64 y] 38))
                      have hbz : w0.heap.size + 1 ≤ wN.heap.size := HI.out.lt
                      replace HI := Lib.hid (HI.out.alloc (.cells #[.int .i64 x, .int .i64 y] 38))
                      refine hK.out _ _ True.intro (fun hHeldN => ?_)
                      clear hK K hHeld
                      have hHeld := hHeldN
                      clear hHeldN
                      try simp only [Act.put, pB, pC, pD]
                      obtain ⟨q9, hg⟩ : ∃ g, g = wN.heap.size := ⟨_, rfl⟩
                      have hs9 : (wN.alloc (.cells #[.int .i64 x, .int .i64 y] 38)).heap.size = q9 + 1 := by simp [hg]
                      rw [← hg] at hnw hbz ⊢
                      generalize (wN.alloc (.cells #[.int .i64 x, .int .i64 y] 38)) = W51 at *
                      clear hg
                      refine onH 10 (oi := ?_) (by kernel_rfl) ?_ ?_ (fun K hK => ?_); rotate_left; (simp only [gA, gB, gC]; exact rfl); rfl
                      refine wp_append_lies _ _ _ 28 rfl (w0.heap.size + 1) 38 i0 (.agg #[.int .i64 0, .int .i64 0]) 2 16 Try.underlying28 hi0 hz0 hz1 hz2 rfl (by decide) _ _ _ rfl HI.out.o ⟨q9, 0, none⟩ 1 1 [.int .i64 x, .int .i64 y] rfl rfl hnw (by simp [Value.oneCell']) (by omega) (by unfold maxLen; omega) (by omega) (by omega) (q9 + 1) hs9 ?_
                      intro g5 c5 w5 hown hgrow _ hlt5
                      have HG := Lib.hid (HI.out.app' hgrow hown)
                      have hh5 := grow_keep hgrow HI.out.h (own_ne HI.out.o HI.out.h (by decide))
                      have ff0 := frozen_of hh5 (i := 0)
                      have cc0 := cell_of hh5 (i := 0) rfl
                      refine hK.out _ _ True.intro (fun hHeldN => ?_)
                      clear hK K hHeld hown hgrow
                      try simp only [Act.put, pB, pC, pD]
                      have hHeld := hHeldN
                      clear hHeldN
                      refine tkH (by assumption) 11 (oi := ?_) (v := ?_) ?_ ?_ ?_ ?_ ?_ ?_ ?_ ?_; rotate_left 2; (simp only [gA, gB, gC]; exact rfl); kernel_rfl; kernel_rfl; kernel_rfl; exact fun _ _ _ h => h; rfl; (intro w' hSw; (try dsimp only at hSw); go_simp; with_reducible rfl); simp only [Act.put, pB, pC, pD]
                      refine onH 12 (oi := ?_) (by kernel_rfl) ?_ ?_ (fun K hK => ?_); rotate_left; (simp only [gA, gB, gC]; exact rfl); rfl
                      go_wp2_with (fail)
                      refine hK.out _ _ True.intro (fun hHeldN => ?_)
                      clear hK K hHeld hHeldN
                      try simp only [Act.put, pB, pC, pD]
                      refine wpAnyH_done (by kernel_rfl) ?_ _
                      go_wp2_with (fail)
                      go_roundw
                      case rel => exact ⟨n + 1, _, _, _, _, by go_num, by omega, by rw [show k + 1 + 10 * t + 1 + 2 * (n + 1) = k + 1 + 10 * t + 1 + 2 * n + 1 + 1 by omega]; exact HG.out⟩
                      case measure => simp [intOf]; omega
                    exact AllReadyH.nil
                  refine coH 9 (oi := ?_) ?_ ?_ (fun K hK => ?_) ?_; rotate_left; (simp only [gA, gB, gC]; exact rfl); rfl
                  · go_wp2_with (fail)
                    have hnw := World.news_of_block (cs := #[.int .i64 x, .int .i64 y]) (t := 38) (fr := (0, 0)) (heap_alloc_new wN (.cells #[.int .i64 x, .int .i64 y] 38))
                    have hbz : w0.heap.size + 1 ≤ wN.heap.size := HI.out.lt
                    replace HI := Lib.hid (HI.out.alloc (.cells #[.int .i64 x, .int .i64 y] 38))
                    refine hK.out _ _ True.intro (fun hHeldN => ?_)
                    clear hK K hHeld
                    have hHeld := hHeldN
                    clear hHeldN
                    try simp only [Act.put, pB, pC, pD]
                    obtain ⟨q9, hg⟩ : ∃ g, g = wN.heap.size := ⟨_, rfl⟩
                    have hs9 : (wN.alloc (.cells #[.int .i64 x, .int .i64 y] 38)).heap.size = q9 + 1 := by simp [hg]
                    rw [← hg] at hnw hbz ⊢
                    generalize (wN.alloc (.cells #[.int .i64 x, .int .i64 y] 38)) = W52 at *
                    clear hg
                    refine wpAnyH_ready (rs := [1]) (by kernel_rfl) (by simp) ?_
                    refine coH 1 (oi := ?_) ?_ ?_ (fun K hK => ?_) ?_; rotate_left; (simp only [gA, gB, gC]; exact rfl); rfl
                    · have hc0 := cell_of HI.out.h (i := 0) rfl
                      go_wp2_with (fail)
                      refine hK.out _ _ True.intro (fun hHeldN => ?_)
                      clear hK K hHeld hc0
                      have hHeld := hHeldN
                      clear hHeldN
                      try simp only [Act.put, pB, pC, pD]
                      refine onH 10 (oi := ?_) (by kernel_rfl) ?_ ?_ (fun K hK => ?_); rotate_left; (simp only [gA, gB, gC]; exact rfl); rfl
                      refine wp_append_lies _ _ _ 28 rfl (w0.heap.size + 1) 38 i0 (.agg #[.int .i64 0, .int .i64 0]) 2 16 Try.underlying28 hi0 hz0 hz1 hz2 rfl (by decide) _ _ _ rfl HI.out.o ⟨q9, 0, none⟩ 1 1 [.int .i64 x, .int .i64 y] rfl rfl hnw (by simp [Value.oneCell']) (by omega) (by unfold maxLen; omega) (by omega) (by omega) (q9 + 1) hs9 ?_
                      intro g5 c5 w5 hown hgrow _ hlt5
                      have HG := Lib.hid (HI.out.app' hgrow hown)
                      have hh5 := grow_keep hgrow HI.out.h (own_ne HI.out.o HI.out.h (by decide))
                      have ff0 := frozen_of hh5 (i := 0)
                      have cc0 := cell_of hh5 (i := 0) rfl
                      refine hK.out _ _ True.intro (fun hHeldN => ?_)
                      clear hK K hHeld hown hgrow
                      try simp only [Act.put, pB, pC, pD]
                      have hHeld := hHeldN
                      clear hHeldN
                      refine tkH (by assumption) 11 (oi := ?_) (v := ?_) ?_ ?_ ?_ ?_ ?_ ?_ ?_ ?_; rotate_left 2; (simp only [gA, gB, gC]; exact rfl); kernel_rfl; kernel_rfl; kernel_rfl; exact fun _ _ _ h => h; rfl; (intro w' hSw; (try dsimp only at hSw); go_simp; with_reducible rfl); simp only [Act.put, pB, pC, pD]
                      refine onH 12 (oi := ?_) (by kernel_rfl) ?_ ?_ (fun K hK => ?_); rotate_left; (simp only [gA, gB, gC]; exact rfl); rfl
                      go_wp2_with (fail)
                      refine hK.out _ _ True.intro (fun hHeldN => ?_)
                      clear hK K hHeld hHeldN
                      try simp only [Act.put, pB, pC, pD]
                      refine wpAnyH_done (by kernel_rfl) ?_ _
                      go_wp2_with (fail)
                      go_roundw
                      case rel => exact ⟨n + 1, _, _, _, _, by go_num, by omega, by rw [show k + 1 + 10 * t + 1 + 2 * (n + 1) = k + 1 + 10 * t + 1 + 2 * n + 1 + 1 by omega]; exact HG.out⟩
                      case measure => simp [intOf]; omega
                    exact AllReadyH.nil
                  exact AllReadyH.nil
                exact AllReadyH.nil
              exact AllReadyH.nil
            exact AllReadyH.nil
          refine coH 6 (oi := ?_) ?_ ?_ (fun K hK => ?_) ?_; rotate_left; (simp only [gA, gB, gC]; exact rfl); rfl
          · go_wp2_with (fail)
            have hb : Below wY.heap.size wY (wY.alloc (.cells #[.int .i64 0, .int .i64 0, .int .i64 1, .int .i64 4] 3)) := (Below.refl _ _).alloc (Nat.le_refl _) _
            have cB : ∀ i, i < 4 → ∃ z, (wY.alloc (.cells #[.int .i64 0, .int .i64 0, .int .i64 1, .int .i64 4] 3)).cell? ⟨wY.heap.size, i, none⟩ = some (.int .i64 z) ∧ True := cells_lit wY [0, 0, 1, 4] 3 (fun _ => True) (by simp)
            have lB : wY.heap.size < (wY.alloc (.cells #[.int .i64 0, .int .i64 0, .int .i64 1, .int .i64 4] 3)).heap.size := by simp
            have bB : wY.heap.size ≠ B := by have := HI.out.lt; have := HI.out.l; omega
            replace HI := Lib.hid (HI.out.alloc (.cells #[.int .i64 0, .int .i64 0, .int .i64 1, .int .i64 4] 3))
            refine hK.out _ _ True.intro (fun hHeldN => ?_)
            clear hK K hHeld hb
            have hHeld := hHeldN
            clear hHeldN
            try simp only [Act.put, pB, pC, pD]
            generalize (wY.alloc (.cells #[.int .i64 0, .int .i64 0, .int .i64 1, .int .i64 4] 3)) = W54 at *
            obtain ⟨qB, hg⟩ : ∃ g, g = wY.heap.size := ⟨_, rfl⟩
            rw [← hg] at cB lB bB ⊢
            clear hg
            refine wpAnyH_ready (rs := [1, 3]) (by kernel_rfl) (by simp) ?_
            refine coH 1 (oi := ?_) ?_ ?_ (fun K hK => ?_) ?_; rotate_left; (simp only [gA, gB, gC]; exact rfl); rfl
            · have hc0 := cell_of HI.out.h (i := 0) rfl
              go_wp2_with (fail)
              refine hK.out _ _ True.intro (fun hHeldN => ?_)
              clear hK K hHeld hc0
              have hHeld := hHeldN
              clear hHeldN
              try simp only [Act.put, pB, pC, pD]
              refine wpAnyH_ready (rs := [3]) (by kernel_rfl) (by simp) ?_
              refine coH 3 (oi := ?_) ?_ ?_ (fun K hK => ?_) ?_; rotate_left; (simp only [gA, gB, gC]; exact rfl); rfl
              · go_wp2_with (fail)
                have hb : Below W54.heap.size W54 (W54.alloc (.cells #[.int .i64 0, .int .i64 1, .int .i64 2, .int .i64 5, .int .i64 9] 3)) := (Below.refl _ _).alloc (Nat.le_refl _) _
                have cA : ∀ i, i < 5 → ∃ z, (W54.alloc (.cells #[.int .i64 0, .int .i64 1, .int .i64 2, .int .i64 5, .int .i64 9] 3)).cell? ⟨W54.heap.size, i, none⟩ = some (.int .i64 z) ∧ True := cells_lit W54 [0, 1, 2, 5, 9] 3 (fun _ => True) (by simp)
                have lA : W54.heap.size < (W54.alloc (.cells #[.int .i64 0, .int .i64 1, .int .i64 2, .int .i64 5, .int .i64 9] 3)).heap.size := by simp
                have bA : W54.heap.size ≠ B := by have := HI.out.lt; have := HI.out.l; omega
                replace HI := Lib.hid (HI.out.alloc (.cells #[.int .i64 0, .int .i64 1, .int .i64 2, .int .i64 5, .int .i64 9] 3))
                replace cB : ∀ i, i < 4 → ∃ z, (W54.alloc (.cells #[.int .i64 0, .int .i64 1, .int .i64 2, .int .i64 5, .int .i64 9] 3)).cell? ⟨qB, i, none⟩ = some (.int .i64 z) ∧ True := fun i hi => by obtain ⟨z, h1, h2⟩ := cB i hi; exact ⟨z, cellk hb lB h1, h2⟩
                replace lB := Nat.lt_of_lt_of_le lB hb.size
                refine hK.out _ _ True.intro (fun hHeldN => ?_)
                clear hK K hHeld hb
                have hHeld := hHeldN
                clear hHeldN
                try simp only [Act.put, pB, pC, pD]
                generalize (W54.alloc (.cells #[.int .i64 0, .int .i64 1, .int .i64 2, .int .i64 5, .int .i64 9] 3)) = W56 at *
                obtain ⟨qA, hg⟩ : ∃ g, g = W54.heap.size := ⟨_, rfl⟩
                rw [← hg] at cA lA bA ⊢
                clear hg
                refine wpAnyH_ready (rs := [4]) (by kernel_rfl) (by simp) ?_
                refine coH 4 (oi := ?_) ?_ ?_ (fun K hK => ?_) ?_; rotate_left; (simp only [gA, gB, gC]; exact rfl); rfl
                · go_wp2_with (fail)
                  refine (pick_any B _ qA 5 5 (fun _ => True) W56.drew (HI.out.s.kept (S := fun _ => False) (Mut.refl _ _).drew (fun _ _ h => h)) (by omega) (by omega) (by omega) bA lA cA).mono ?_
                  rintro e wN ⟨⟨x, rfl, _⟩, hst, hmt⟩
                  replace hmt : Mut (· = B) W56 wN := ⟨hmt.os, hmt.tape, hmt.output, hmt.size, hmt.block⟩
                  replace HI := Lib.hid (HI.out.next hmt hst)
                  replace cB : ∀ i, i < 4 → ∃ z, wN.cell? ⟨qB, i, none⟩ = some (.int .i64 z) ∧ True := fun i hi => by obtain ⟨z, h1, h2⟩ := cB i hi; exact ⟨z, (hmt.cell (p := ⟨qB, i, none⟩) lB bB).trans h1, h2⟩
                  replace lB := Nat.lt_of_lt_of_le lB hmt.size
                  refine hK.out _ _ True.intro (fun hHeldN => ?_)
                  clear hK K hHeld hst hmt cA lA bA
                  have hHeld := hHeldN
                  clear hHeldN
                  try simp only [Act.put, pB, pC, pD]
                  refine wpAnyH_ready (rs := [7]) (by kernel_rfl) (by simp) ?_
                  refine coH 7 (oi := ?_) ?_ ?_ (fun K hK => ?_) ?_; rotate_left; (simp only [gA, gB, gC]; exact rfl); rfl
                  · go_wp2_with (fail)
                    refine (pick_any B _ qB 4 4 (fun _ => True) wN HI.out.s (by omega) (by omega) (by omega) bB lB cB).mono ?_
                    rintro e wN ⟨⟨y, rfl, _⟩, hst, hmt⟩
                    replace HI := Lib.hid (HI.out.next hmt hst)
                    refine hK.out _ _ True.intro (fun hHeldN => ?_)
                    clear hK K hHeld hst hmt cB lB bB
                    have hHeld := hHeldN
                    clear hHeldN
                    try simp only [Act.put, pB, pC, pD]
                    refine tkH (by assumption) 8 (oi := ?_) (v := ?_) ?_ ?_ ?_ ?_ ?_ ?_ ?_ ?_; rotate_left 2; (simp only [gA, gB, gC]; exact rfl); kernel_rfl; kernel_rfl; kernel_rfl; exact fun _ _ _ h => h; rfl; (intro w' hSw; (try dsimp only at hSw); go_simp; with_reducible rfl); simp only [Act.put, pB, pC, pD]
                    refine wpAnyH_ready (rs := [9]) (by kernel_rfl) (by simp) ?_
                    refine coH 9 (oi := ?_) ?_ ?_ (fun K hK => ?_) ?_; rotate_left; (simp only [gA, gB, gC]; exact rfl); rfl
                    · go_wp2_with (fail)
                      have hnw := World.news_of_block (cs := #[.int .i64 x, .int .i64 y]) (t := 38) (fr := (0, 0)) (heap_alloc_new wN (.cells #[.int .i64 x, .int .i64 y] 38))
                      have hbz : w0.heap.size + 1 ≤ wN.heap.size := HI.out.lt
                      replace HI := Lib.hid (HI.out.alloc (.cells #[.int .i64 x, .int .i64 y] 38))
                      refine hK.out _ _ True.intro (fun hHeldN => ?_)
                      clear hK K hHeld
                      have hHeld := hHeldN
                      clear hHeldN
                      try simp only [Act.put, pB, pC, pD]
                      obtain ⟨q9, hg⟩ : ∃ g, g = wN.heap.size := ⟨_, rfl⟩
                      have hs9 : (wN.alloc (.cells #[.int .i64 x, .int .i64 y] 38)).heap.size = q9 + 1 := by simp [hg]
                      rw [← hg] at hnw hbz ⊢
                      generalize (wN.alloc (.cells #[.int .i64 x, .int .i64 y] 38)) = W59 at *
                      clear hg
                      refine onH 10 (oi := ?_) (by kernel_rfl) ?_ ?_ (fun K hK => ?_); rotate_left; (simp only [gA, gB, gC]; exact rfl); rfl
                      refine wp_append_lies _ _ _ 28 rfl (w0.heap.size + 1) 38 i0 (.agg #[.int .i64 0, .int .i64 0]) 2 16 Try.underlying28 hi0 hz0 hz1 hz2 rfl (by decide) _ _ _ rfl HI.out.o ⟨q9, 0, none⟩ 1 1 [.int .i64 x, .int .i64 y] rfl rfl hnw (by simp [Value.oneCell']) (by omega) (by unfold maxLen; omega) (by omega) (by omega) (q9 + 1) hs9 ?_
                      intro g5 c5 w5 hown hgrow _ hlt5
                      have HG := Lib.hid (HI.out.app' hgrow hown)
                      have hh5 := grow_keep hgrow HI.out.h (own_ne HI.out.o HI.out.h (by decide))
                      have ff0 := frozen_of hh5 (i := 0)
                      have cc0 := cell_of hh5 (i := 0) rfl
                      refine hK.out _ _ True.intro (fun hHeldN => ?_)
                      clear hK K hHeld hown hgrow
                      try simp only [Act.put, pB, pC, pD]
                      have hHeld := hHeldN
                      clear hHeldN
                      refine tkH (by assumption) 11 (oi := ?_) (v := ?_) ?_ ?_ ?_ ?_ ?_ ?_ ?_ ?_; rotate_left 2; (simp only [gA, gB, gC]; exact rfl); kernel_rfl; kernel_rfl; kernel_rfl; exact fun _ _ _ h => h; rfl; (intro w' hSw; (try dsimp only at hSw); go_simp; with_reducible rfl); simp only [Act.put, pB, pC, pD]
                      refine onH 12 (oi := ?_) (by kernel_rfl) ?_ ?_ (fun K hK => ?_); rotate_left; (simp only [gA, gB, gC]; exact rfl); rfl
                      go_wp2_with (fail)
                      refine hK.out _ _ True.intro (fun hHeldN => ?_)
                      clear hK K hHeld hHeldN
                      try simp only [Act.put, pB, pC, pD]
                      refine wpAnyH_done (by kernel_rfl) ?_ _
                      go_wp2_with (fail)
                      go_roundw
                      case rel => exact ⟨n + 1, _, _, _, _, by go_num, by omega, by rw [show k + 1 + 10 * t + 1 + 2 * (n + 1) = k + 1 + 10 * t + 1 + 2 * n + 1 + 1 by omega]; exact HG.out⟩
                      case measure => simp [intOf]; omega
                    exact AllReadyH.nil
                  exact AllReadyH.nil
                exact AllReadyH.nil
              exact AllReadyH.nil
            refine coH 3 (oi := ?_) ?_ ?_ (fun K hK => ?_) ?_; rotate_left; (simp only [gA, gB, gC]; exact rfl); rfl
            · go_wp2_with (fail)
              have hb : Below W54.heap.size W54 (W54.alloc (.cells #[.int .i64 0, .int .i64 1, .int .i64 2, .int .i64 5, .int .i64 9] 3)) := (Below.refl _ _).alloc (Nat.le_refl _) _
              have cA : ∀ i, i < 5 → ∃ z, (W54.alloc (.cells #[.int .i64 0, .int .i64 1, .int .i64 2, .int .i64 5, .int .i64 9] 3)).cell? ⟨W54.heap.size, i, none⟩ = some (.int .i64 z) ∧ True := cells_lit W54 [0, 1, 2, 5, 9] 3 (fun _ => True) (by simp)
              have lA : W54.heap.size < (W54.alloc (.cells #[.int .i64 0, .int .i64 1, .int .i64 2, .int .i64 5, .int .i64 9] 3)).heap.size := by simp
              have bA : W54.heap.size ≠ B := by have := HI.out.lt; have := HI.out.l; omega
              replace HI := Lib.hid (HI.out.alloc (.cells #[.int .i64 0, .int .i64 1, .int .i64 2, .int .i64 5, .int .i64 9] 3))
              replace cB : ∀ i, i < 4 → ∃ z, (W54.alloc (.cells #[.int .i64 0, .int .i64 1, .int .i64 2, .int .i64 5, .int .i64 9] 3)).cell? ⟨qB, i, none⟩ = some (.int .i64 z) ∧ True := fun i hi => by obtain ⟨z, h1, h2⟩ := cB i hi; exact ⟨z, cellk hb lB h1, h2⟩
              replace lB := Nat.lt_of_lt_of_le lB hb.size
              refine hK.out _ _ True.intro (fun hHeldN => ?_)
              clear hK K hHeld hb
              have hHeld := hHeldN
              clear hHeldN
              try simp only [Act.put, pB, pC, pD]
              generalize (W54.alloc (.cells #[.int .i64 0, .int .i64 1, .int .i64 2, .int .i64 5, .int .i64 9] 3)) = W60 at *
              obtain ⟨qA, hg⟩ : ∃ g, g = W54.heap.size := ⟨_, rfl⟩
              rw [← hg] at cA lA bA ⊢
              clear hg
              refine wpAnyH_ready (rs := [1, 4]) (by kernel_rfl) (by simp) ?_
              refine coH 1 (oi := ?_) ?_ ?_ (fun K hK => ?_) ?_; rotate_left; (simp only [gA, gB, gC]; exact rfl); rfl
              · have hc0 := cell_of HI.out.h (i := 0) rfl
                go_wp2_with (fail)
                refine hK.out _ _ True.intro (fun hHeldN => ?_)
                clear hK K hHeld hc0
                have hHeld := hHeldN
                clear hHeldN
                try simp only [Act.put, pB, pC, pD]
                refine wpAnyH_ready (rs := [4]) (by kernel_rfl) (by simp) ?_
                refine coH 4 (oi := ?_) ?_ ?_ (fun K hK => ?_) ?_; rotate_left; (simp only [gA, gB, gC]; exact rfl); rfl
                · go_wp2_with (fail)
                  refine (pick_any B _ qA 5 5 (fun _ => True) W60.drew (HI.out.s.kept (S := fun _ => False) (Mut.refl _ _).drew (fun _ _ h => h)) (by omega) (by omega) (by omega) bA lA cA).mono ?_
                  rintro e wN ⟨⟨x, rfl, _⟩, hst, hmt⟩
                  replace hmt : Mut (· = B) W60 wN := ⟨hmt.os, hmt.tape, hmt.output, hmt.size, hmt.block⟩
                  replace HI := Lib.hid (HI.out.next hmt hst)
                  replace cB : ∀ i, i < 4 → ∃ z, wN.cell? ⟨qB, i, none⟩ = some (.int .i64 z) ∧ True := fun i hi => by obtain ⟨z, h1, h2⟩ := cB i hi; exact ⟨z, (hmt.cell (p := ⟨qB, i, none⟩) lB bB).trans h1, h2⟩
                  replace lB := Nat.lt_of_lt_of_le lB hmt.size
                  refine hK.out _ _ True.intro (fun hHeldN => ?_)
                  clear hK K hHeld hst hmt cA lA bA
                  have hHeld := hHeldN
                  clear hHeldN
                  try simp only [Act.put, pB, pC, pD]
                  refine wpAnyH_ready (rs := [7]) (by kernel_rfl) (by simp) ?_
                  refine coH 7 (oi := ?_) ?_ ?_ (fun K hK => ?_) ?_; rotate_left; (simp only [gA, gB, gC]; exact rfl); rfl
                  · go_wp2_with (fail)
                    refine (pick_any B _ qB 4 4 (fun _ => True) wN HI.out.s (by omega) (by omega) (by omega) bB lB cB).mono ?_
                    rintro e wN ⟨⟨y, rfl, _⟩, hst, hmt⟩
                    replace HI := Lib.hid (HI.out.next hmt hst)
                    refine hK.out _ _ True.intro (fun hHeldN => ?_)
                    clear hK K hHeld hst hmt cB lB bB
                    have hHeld := hHeldN
                    clear hHeldN
                    try simp only [Act.put, pB, pC, pD]
                    refine tkH (by assumption) 8 (oi := ?_) (v := ?_) ?_ ?_ ?_ ?_ ?_ ?_ ?_ ?_; rotate_left 2; (simp only [gA, gB, gC]; exact rfl); kernel_rfl; kernel_rfl; kernel_rfl; exact fun _ _ _ h => h; rfl; (intro w' hSw; (try dsimp only at hSw); go_simp; with_reducible rfl); simp only [Act.put, pB, pC, pD]
                    refine wpAnyH_ready (rs := [9]) (by kernel_rfl) (by simp) ?_
                    refine coH 9 (oi := ?_) ?_ ?_ (fun K hK => ?_) ?_; rotate_left; (simp only [gA, gB, gC]; exact rfl); rfl
                    · go_wp2_with (fail)
                      have hnw := World.news_of_block (cs := #[.int .i64 x, .int .i64 y]) (t := 38) (fr := (0, 0)) (heap_alloc_new wN (.cells #[.int .i64 x, .int .i64 y] 38))
                      have hbz : w0.heap.size + 1 ≤ wN.heap.size := HI.out.lt
                      replace HI := Lib.hid (HI.out.alloc (.cells #[.int .i64 x, .int .i64 y] 38))
                      refine hK.out _ _ True.intro (fun hHeldN => ?_)
                      clear hK K hHeld
                      have hHeld := hHeldN
                      clear hHeldN
                      try simp only [Act.put, pB, pC, pD]
                      obtain ⟨q9, hg⟩ : ∃ g, g = wN.heap.size := ⟨_, rfl⟩
                      have hs9 : (wN.alloc (.cells #[.int .i64 x, .int .i64 y] 38)).heap.size = q9 + 1 := by simp [hg]
                      rw [← hg] at hnw hbz ⊢
                      generalize (wN.alloc (.cells #[.int .i64 x, .int .i64 y] 38)) = W64 at *
                      clear hg
                      refine onH 10 (oi := ?_) (by kernel_rfl) ?_ ?_ (fun K hK => ?_); rotate_left; (simp only [gA, gB, gC]; exact rfl); rfl
                      refine wp_append_lies _ _ _ 28 rfl (w0.heap.size + 1) 38 i0 (.agg #[.int .i64 0, .int .i64 0]) 2 16 Try.underlying28 hi0 hz0 hz1 hz2 rfl (by decide) _ _ _ rfl HI.out.o ⟨q9, 0, none⟩ 1 1 [.int .i64 x, .int .i64 y] rfl rfl hnw (by simp [Value.oneCell']) (by omega) (by unfold maxLen; omega) (by omega) (by omega) (q9 + 1) hs9 ?_
                      intro g5 c5 w5 hown hgrow _ hlt5
                      have HG := Lib.hid (HI.out.app' hgrow hown)
                      have hh5 := grow_keep hgrow HI.out.h (own_ne HI.out.o HI.out.h (by decide))
                      have ff0 := frozen_of hh5 (i := 0)
                      have cc0 := cell_of hh5 (i := 0) rfl
                      refine hK.out _ _ True.intro (fun hHeldN => ?_)
                      clear hK K hHeld hown hgrow
                      try simp only [Act.put, pB, pC, pD]
                      have hHeld := hHeldN
                      clear hHeldN
                      refine tkH (by assumption) 11 (oi := ?_) (v := ?_) ?_ ?_ ?_ ?_ ?_ ?_ ?_ ?_; rotate_left 2; (simp only [gA, gB, gC]; exact rfl); kernel_rfl; kernel_rfl; kernel_rfl; exact fun _ _ _ h => h; rfl; (intro w' hSw; (try dsimp only at hSw); go_simp; with_reducible rfl); simp only [Act.put, pB, pC, pD]
                      refine onH 12 (oi := ?_) (by kernel_rfl) ?_ ?_ (fun K hK => ?_); rotate_left; (simp only [gA, gB, gC]; exact rfl); rfl
                      go_wp2_with (fail)
                      refine hK.out _ _ True.intro (fun hHeldN => ?_)
                      clear hK K hHeld hHeldN
                      try simp only [Act.put, pB, pC, pD]
                      refine wpAnyH_done (by kernel_rfl) ?_ _
                      go_wp2_with (fail)
                      go_roundw
                      case rel => exact ⟨n + 1, _, _, _, _, by go_num, by omega, by rw [show k + 1 + 10 * t + 1 + 2 * (n + 1) = k + 1 + 10 * t + 1 + 2 * n + 1 + 1 by omega]; exact HG.out⟩
                      case measure => simp [intOf]; omega
                    exact AllReadyH.nil
                  exact AllReadyH.nil
                exact AllReadyH.nil
              refine coH 4 (oi := ?_) ?_ ?_ (fun K hK => ?_) ?_; rotate_left; (simp only [gA, gB, gC]; exact rfl); rfl
              · go_wp2_with (fail)
                refine (pick_any B _ qA 5 5 (fun _ => True) W60.drew (HI.out.s.kept (S := fun _ => False) (Mut.refl _ _).drew (fun _ _ h => h)) (by omega) (by omega) (by omega) bA lA cA).mono ?_
                rintro e wN ⟨⟨x, rfl, _⟩, hst, hmt⟩
                replace hmt : Mut (· = B) W60 wN := ⟨hmt.os, hmt.tape, hmt.output, hmt.size, hmt.block⟩
                replace HI := Lib.hid (HI.out.next hmt hst)
                replace cB : ∀ i, i < 4 → ∃ z, wN.cell? ⟨qB, i, none⟩ = some (.int .i64 z) ∧ True := fun i hi => by obtain ⟨z, h1, h2⟩ := cB i hi; exact ⟨z, (hmt.cell (p := ⟨qB, i, none⟩) lB bB).trans h1, h2⟩
                replace lB := Nat.lt_of_lt_of_le lB hmt.size
                refine hK.out _ _ True.intro (fun hHeldN => ?_)
                clear hK K hHeld hst hmt cA lA bA
                have hHeld := hHeldN
                clear hHeldN
                try simp only [Act.put, pB, pC, pD]
                refine wpAnyH_ready (rs := [1, 7]) (by kernel_rfl) (by simp) ?_
                refine coH 1 (oi := ?_) ?_ ?_ (fun K hK => ?_) ?_; rotate_left; (simp only [gA, gB, gC]; exact rfl); rfl
                · have hc0 := cell_of HI.out.h (i := 0) rfl
                  go_wp2_with (fail)
                  refine hK.out _ _ True.intro (fun hHeldN => ?_)
                  clear hK K hHeld hc0
                  have hHeld := hHeldN
                  clear hHeldN
                  try simp only [Act.put, pB, pC, pD]
                  refine wpAnyH_ready (rs := [7]) (by kernel_rfl) (by simp) ?_
                  refine coH 7 (oi := ?_) ?_ ?_ (fun K hK => ?_) ?_; rotate_left; (simp only [gA, gB, gC]; exact rfl); rfl
                  · go_wp2_with (fail)
                    refine (pick_any B _ qB 4 4 (fun _ => True) wN HI.out.s (by omega) (by omega) (by omega) bB lB cB).mono ?_
                    rintro e wN ⟨⟨y, rfl, _⟩, hst, hmt⟩
                    replace HI := Lib.hid (HI.out.next hmt hst)
                    refine hK.out _ _ True.intro (fun hHeldN => ?_)
                    clear hK K hHeld hst hmt cB lB bB
                    have hHeld := hHeldN
                    clear hHeldN
                    try simp only [Act.put, pB, pC, pD]
                    refine tkH (by assumption) 8 (oi := ?_) (v := ?_) ?_ ?_ ?_ ?_ ?_ ?_ ?_ ?_; rotate_left 2; (simp only [gA, gB, gC]; exact rfl); kernel_rfl; kernel_rfl; kernel_rfl; exact fun _ _ _ h => h; rfl; (intro w' hSw; (try dsimp only at hSw); go_simp; with_reducible rfl); simp only [Act.put, pB, pC, pD]
                    refine wpAnyH_ready (rs := [9]) (by kernel_rfl) (by simp) ?_
                    refine coH 9 (oi := ?_) ?_ ?_ (fun K hK => ?_) ?_; rotate_left; (simp only [gA, gB, gC]; exact rfl); rfl
                    · go_wp2_with (fail)
                      have hnw := World.news_of_block (cs := #[.int .i64 x, .int .i64 y]) (t := 38) (fr := (0, 0)) (heap_alloc_new wN (.cells #[.int .i64 x, .int .i64 y] 38))
                      have hbz : w0.heap.size + 1 ≤ wN.heap.size := HI.out.lt
                      replace HI := Lib.hid (HI.out.alloc (.cells #[.int .i64 x, .int .i64 y] 38))
                      refine hK.out _ _ True.intro (fun hHeldN => ?_)
                      clear hK K hHeld
                      have hHeld := hHeldN
                      clear hHeldN
                      try simp only [Act.put, pB, pC, pD]
                      obtain ⟨q9, hg⟩ : ∃ g, g = wN.heap.size := ⟨_, rfl⟩
                      have hs9 : (wN.alloc (.cells #[.int .i64 x, .int .i64 y] 38)).heap.size = q9 + 1 := by simp [hg]
                      rw [← hg] at hnw hbz ⊢
                      generalize (wN.alloc (.cells #[.int .i64 x, .int .i64 y] 38)) = W68 at *
                      clear hg
                      refine onH 10 (oi := ?_) (by kernel_rfl) ?_ ?_ (fun K hK => ?_); rotate_left; (simp only [gA, gB, gC]; exact rfl); rfl
                      refine wp_append_lies _ _ _ 28 rfl (w0.heap.size + 1) 38 i0 (.agg #[.int .i64 0, .int .i64 0]) 2 16 Try.underlying28 hi0 hz0 hz1 hz2 rfl (by decide) _ _ _ rfl HI.out.o ⟨q9, 0, none⟩ 1 1 [.int .i64 x, .int .i64 y] rfl rfl hnw (by simp [Value.oneCell']) (by omega) (by unfold maxLen; omega) (by omega) (by omega) (q9 + 1) hs9 ?_
                      intro g5 c5 w5 hown hgrow _ hlt5
                      have HG := Lib.hid (HI.out.app' hgrow hown)
                      have hh5 := grow_keep hgrow HI.out.h (own_ne HI.out.o HI.out.h (by decide))
                      have ff0 := frozen_of hh5 (i := 0)
                      have cc0 := cell_of hh5 (i := 0) rfl
                      refine hK.out _ _ True.intro (fun hHeldN => ?_)
                      clear hK K hHeld hown hgrow
                      try simp only [Act.put, pB, pC, pD]
                      have hHeld := hHeldN
                      clear hHeldN
                      refine tkH (by assumption) 11 (oi := ?_) (v := ?_) ?_ ?_ ?_ ?_ ?_ ?_ ?_ ?_; rotate_left 2; (simp only [gA, gB, gC]; exact rfl); kernel_rfl; kernel_rfl; kernel_rfl; exact fun _ _ _ h => h; rfl; (intro w' hSw; (try dsimp only at hSw); go_simp; with_reducible rfl); simp only [Act.put, pB, pC, pD]
                      refine onH 12 (oi := ?_) (by kernel_rfl) ?_ ?_ (fun K hK => ?_); rotate_left; (simp only [gA, gB, gC]; exact rfl); rfl
                      go_wp2_with (fail)
                      refine hK.out _ _ True.intro (fun hHeldN => ?_)
                      clear hK K hHeld hHeldN
                      try simp only [Act.put, pB, pC, pD]
                      refine wpAnyH_done (by kernel_rfl) ?_ _
                      go_wp2_with (fail)
                      go_roundw
                      case rel => exact ⟨n + 1, _, _, _, _, by go_num, by omega, by rw [show k + 1 + 10 * t + 1 + 2 * (n + 1) = k + 1 + 10 * t + 1 + 2 * n + 1 + 1 by omega]; exact HG.out⟩
                      case measure => simp [intOf]; omega
                    exact AllReadyH.nil
                  exact AllReadyH.nil
                refine coH 7 (oi := ?_) ?_ ?_ (fun K hK => ?_) ?_; rotate_left; (simp only [gA, gB, gC]; exact rfl); rfl
                · go_wp2_with (fail)
                  refine (pick_any B _ qB 4 4 (fun _ => True) wN HI.out.s (by omega) (by omega) (by omega) bB lB cB).mono ?_
                  rintro e wN ⟨⟨y, rfl, _⟩, hst, hmt⟩
                  replace HI := Lib.hid (HI.out.next hmt hst)
                  refine hK.out _ _ True.intro (fun hHeldN => ?_)
                  clear hK K hHeld hst hmt cB lB bB
                  have hHeld := hHeldN
                  clear hHeldN
                  try simp only [Act.put, pB, pC, pD]
                  refine tkH (by assumption) 8 (oi := ?_) (v := ?_) ?_ ?_ ?_ ?_ ?_ ?_ ?_ ?_; rotate_left 2; (simp only [gA, gB, gC]; exact rfl); kernel_rfl; kernel_rfl; kernel_rfl; exact fun _ _ _ h => h; rfl; (intro w' hSw; (try dsimp only at hSw); go_simp; with_reducible rfl); simp only [Act.put, pB, pC, pD]
                  refine wpAnyH_ready (rs := [1, 9]) (by kernel_rfl) (by simp) ?_
                  refine coH 1 (oi := ?_) ?_ ?_ (fun K hK => ?_) ?_; rotate_left; (simp only [gA, gB, gC]; exact rfl); rfl
                  · have hc0 := cell_of HI.out.h (i := 0) rfl
                    go_wp2_with (fail)
                    refine hK.out _ _ True.intro (fun hHeldN => ?_)
                    clear hK K hHeld hc0
                    have hHeld := hHeldN
                    clear hHeldN
                    try simp only [Act.put, pB, pC, pD]
                    refine wpAnyH_ready (rs := [9]) (by kernel_rfl) (by simp) ?_
                    refine coH 9 (oi := ?_) ?_ ?_ (fun K hK => ?_) ?_; rotate_left; (simp only [gA, gB, gC]; exact rfl); rfl
                    · go_wp2_with (fail)
                      have hnw := World.news_of_block (cs := #[.int .i64 x, .int .i64 y]) (t := 38) (fr := (0, 0)) (heap_alloc_new wN (.cells #[.int .i64 x, .int .i64 y] 38))
                      have hbz : w0.heap.size + 1 ≤ wN.heap.size := HI.out.lt
                      replace HI := Lib.hid (HI.out.alloc (.cells #[.int .i64 x, .int .i64 y] 38))
                      refine hK.out _ _ True.intro (fun hHeldN => ?_)
                      clear hK K hHeld
                      have hHeld := hHeldN
                      clear hHeldN
                      try simp only [Act.put, pB, pC, pD]
                      obtain ⟨q9, hg⟩ : ∃ g, g = wN.heap.size := ⟨_, rfl⟩
                      have hs9 : (wN.alloc (.cells #[.int .i64 x, .int .i64 y] 38)).heap.size = q9 + 1 := by simp [hg]
                      rw [← hg] at hnw hbz ⊢
                      generalize (wN.alloc (.cells #[.int .i64 x, .int .i64 y] 38)) = W71 at *
                      clear hg
                      refine onH 10 (oi := ?_) (by kernel_rfl) ?_ ?_ (fun K hK => ?_); rotate_left; (simp only [gA, gB, gC]; exact rfl); rfl
                      refine wp_append_lies _ _ _ 28 rfl (w0.heap.size + 1) 38 i0 (.agg #[.int .i64 0, .int .i64 0]) 2 16 Try.underlying28 hi0 hz0 hz1 hz2 rfl (by decide) _ _ _ rfl HI.out.o ⟨q9, 0, none⟩ 1 1 [.int .i64 x, .int .i64 y] rfl rfl hnw (by simp [Value.oneCell']) (by omega) (by unfold maxLen; omega) (by omega) (by omega) (q9 + 1) hs9 ?_
                      intro g5 c5 w5 hown hgrow _ hlt5
                      have HG := Lib.hid (HI.out.app' hgrow hown)
                      have hh5 := grow_keep hgrow HI.out.h (own_ne HI.out.o HI.out.h (by decide))
                      have ff0 := frozen_of hh5 (i := 0)
                      have cc0 := cell_of hh5 (i := 0) rfl
                      refine hK.out _ _ True.intro (fun hHeldN => ?_)
                      clear hK K hHeld hown hgrow
                      try simp only [Act.put, pB, pC, pD]
                      have hHeld := hHeldN
                      clear hHeldN
                      refine tkH (by assumption) 11 (oi := ?_) (v := ?_) ?_ ?_ ?_ ?_ ?_ ?_ ?_ ?_; rotate_left 2; (simp only [gA, gB, gC]; exact rfl); kernel_rfl; kernel_rfl; kernel_rfl; exact fun _ _ _ h => h; rfl; (intro w' hSw; (try dsimp only at hSw); go_simp; with_reducible rfl); simp only [Act.put, pB, pC, pD]
                      refine onH 12 (oi := ?_) (by kernel_rfl) ?_ ?_ (fun K hK => ?_); rotate_left; (simp only [gA, gB, gC]; exact rfl); rfl
                      go_wp2_with (fail)
                      refine hK.out _ _ True.intro (fun hHeldN => ?_)
                      clear hK K hHeld hHeldN
                      try simp only [Act.put, pB, pC, pD]
                      refine wpAnyH_done (by kernel_rfl) ?_ _
                      go_wp2_with (fail)
                      go_roundw
                      case rel => exact ⟨n + 1, _, _, _, _, by go_num, by omega, by rw [show k + 1 + 10 * t + 1 + 2 * (n + 1) = k + 1 + 10 * t + 1 + 2 * n + 1 + 1 by omega]; exact HG.out⟩
                      case measure => simp [intOf]; omega
                    exact AllReadyH.nil
                  refine coH 9 (oi := ?_) ?_ ?_ (fun K hK => ?_) ?_; rotate_left; (simp only [gA, gB, gC]; exact rfl); rfl
                  · go_wp2_with (fail)
                    have hnw := World.news_of_block (cs := #[.int .i64 x, .int .i64 y]) (t := 38) (fr := (0, 0)) (heap_alloc_new wN (.cells #[.int .i64 x, .int .i64 y] 38))
                    have hbz : w0.heap.size + 1 ≤ wN.heap.size := HI.out.lt
                    replace HI := Lib.hid (HI.out.alloc (.cells #[.int .i64 x, .int .i64 y] 38))
                    refine hK.out _ _ True.intro (fun hHeldN => ?_)
                    clear hK K hHeld
                    have hHeld := hHeldN
                    clear hHeldN
                    try simp only [Act.put, pB, pC, pD]
                    obtain ⟨q9, hg⟩ : ∃ g, g = wN.heap.size := ⟨_, rfl⟩
                    have hs9 : (wN.alloc (.cells #[.int .i64 x, .int .i64 y] 38)).heap.size = q9 + 1 := by simp [hg]
                    rw [← hg] at hnw hbz ⊢
                    generalize (wN.alloc (.cells #[.int .i64 x, .int .i64 y] 38)) = W72 at *
                    clear hg
                    refine wpAnyH_ready (rs := [1]) (by kernel_rfl) (by simp) ?_
                    refine coH 1 (oi := ?_) ?_ ?_ (fun K hK => ?_) ?_; rotate_left; (simp only [gA, gB, gC]; exact rfl); rfl
                    · have hc0 := cell_of HI.out.h (i := 0) rfl
                      go_wp2_with (fail)
                      refine hK.out _ _ True.intro (fun hHeldN => ?_)
                      clear hK K hHeld hc0
                      have hHeld := hHeldN
                      clear hHeldN
                      try simp only [Act.put, pB, pC, pD]
                      refine onH 10 (oi := ?_) (by kernel_rfl) ?_ ?_ (fun K hK => ?_); rotate_left; (simp only [gA, gB, gC]; exact rfl); rfl
                      refine wp_append_lies _ _ _ 28 rfl (w0.heap.size + 1) 38 i0 (.agg #[.int .i64 0, .int .i64 0]) 2 16 Try.underlying28 hi0 hz0 hz1 hz2 rfl (by decide) _ _ _ rfl HI.out.o ⟨q9, 0, none⟩ 1 1 [.int .i64 x, .int .i64 y] rfl rfl hnw (by simp [Value.oneCell']) (by omega) (by unfold maxLen; omega) (by omega) (by omega) (q9 + 1) hs9 ?_
                      intro g5 c5 w5 hown hgrow _ hlt5
                      have HG := Lib.hid (HI.out.app' hgrow hown)
                      have hh5 := grow_keep hgrow HI.out.h (own_ne HI.out.o HI.out.h (by decide))
                      have ff0 := frozen_of hh5 (i := 0)
                      have cc0 := cell_of hh5 (i := 0) rfl
                      refine hK.out _ _ True.intro (fun hHeldN => ?_)
                      clear hK K hHeld hown hgrow
                      try simp only [Act.put, pB, pC, pD]
                      have hHeld := hHeldN
                      clear hHeldN
                      refine tkH (by assumption) 11 (oi := ?_) (v := ?_) ?_ ?_ ?_ ?_ ?_ ?_ ?_ ?_; rotate_left 2; (simp only [gA, gB, gC]; exact rfl); kernel_rfl; kernel_rfl; kernel_rfl; exact fun _ _ _ h => h; rfl; (intro w' hSw; (try dsimp only at hSw); go_simp; with_reducible rfl); simp only [Act.put, pB, pC, pD]
                      refine onH 12 (oi := ?_) (by kernel_rfl) ?_ ?_ (fun K hK => ?_); rotate_left; (simp only [gA, gB, gC]; exact rfl); rfl
                      go_wp2_with (fail)
                      refine hK.out _ _ True.intro (fun hHeldN => ?_)
                      clear hK K hHeld hHeldN
                      try simp only [Act.put, pB, pC, pD]
                      refine wpAnyH_done (by kernel_rfl) ?_ _
                      go_wp2_with (fail)
                      go_roundw
                      case rel => exact ⟨n + 1, _, _, _, _, by go_num, by omega, by rw [show k + 1 + 10 * t + 1 + 2 * (n + 1) = k + 1 + 10 * t + 1 + 2 * n + 1 + 1 by omega]; exact HG.out⟩
                      case measure => simp [intOf]; omega
                    exact AllReadyH.nil
                  exact AllReadyH.nil
                exact AllReadyH.nil
              exact AllReadyH.nil
            exact AllReadyH.nil
          exact AllReadyH.nil
        · obtain rfl : m = n := by omega
          have hz0 := cell_of HI.out.h (i := 0) rfl
          have hz1 := cell_of HI.out.h (i := 1) rfl
          have hf1 := frozen_of HI.out.h (i := 1)
          by_cases h2 : 2 < m
          · have h2' : (2 : Int) < (m : Int) := by omega
            go_wp2_with (fail)
            refine (flip_any B _ 2 _ HI.out.s (by omega) (by omega) (by omega)).mono ?_
            rintro e w5 ⟨⟨bb, rfl⟩, hst5, hmt5⟩
            have HI5 := Lib.hid (HI.out.next hmt5 hst5)
            clear hst5 hmt5 hz0 hz1 hf1
            have hz0 := cell_of HI5.out.h (i := 0) rfl
            have hz1 := cell_of HI5.out.h (i := 1) rfl
            have hf1 := frozen_of HI5.out.h (i := 1)
            obtain ⟨hp6, hq6, hh6⟩ := HI5.out.done (b := bb) HO.out
            have HP6 := Lib.hid hp6
            have HQ6 := Lib.hid hq6
            have HH6 := Lib.hid hh6
            clear hp6 hq6 hh6
            go_upto_region 10 with (fail)
            clear hz0 hz1 hf1
            have hh6 := HH6.out
            generalize (w5.setCell ⟨w0.heap.size, 1, none⟩ (.bool bb)) = w6 at *
            have hlw := lt_of_heap hh6
            have z0 := cell_of hh6 (i := 0) rfl
            have z1 := cell_of hh6 (i := 1) rfl
            have hwz : w.heap.size ≤ w6.heap.size := HP6.out.m.size
            go_wp2_with (at_builtin; refine wpList_append_lies _ rfl _ _ 26 rfl w.heap.size 30 i1 (.agg #[.slice none 0 0, .bool false]) 2 32 Try.underlying26 hi1 hy0 hy1 hy2 rfl (by decide) _ _ _ rfl (HP6.out.o.alloc _) ⟨w6.heap.size, 0, none⟩ 1 1 [.slice a' m c', .bool bb] rfl rfl (World.news_of_block (cs := #[.slice a' m c', .bool bb]) (t := 30) (fr := (0, 0)) (heap_alloc_new w6 _)) (by simp [Value.oneCell']) (by omega) (by unfold maxLen; omega) (by omega) (by simp; omega) (w6.heap.size + 1) (by simp) ?_; intro g7 c7 w7 hown7 hgrow7 _ hlt7; have HP7 := Lib.hid (HP6.out.app (p := ⟨a', m, c', X, Y, bb⟩) HQ6.out hm4 hgrow7 hown7); clear hown7 hgrow7)
            go_roundw
            case rel => exact ⟨t + 1, _, _, _, rfl, by go_num, by omega, HP7.out.more (by omega) (by omega)⟩
            case measure => simp [intOf]; omega
          · have h2' : decide ((2 : Int) < (m : Int)) = false := by simp; omega
            obtain ⟨hp6, hq6, hh6⟩ := HI.out.done (b := false) HO.out
            have HP6 := Lib.hid hp6
            have HQ6 := Lib.hid hq6
            have HH6 := Lib.hid hh6
            clear hp6 hq6 hh6
            go_upto_region 10 with (fail)
            clear hz0 hz1 hf1
            have hh6 := HH6.out
            generalize (wr.setCell ⟨w0.heap.size, 1, none⟩ (.bool false)) = w6 at *
            have hlw := lt_of_heap hh6
            have z0 := cell_of hh6 (i := 0) rfl
            have z1 := cell_of hh6 (i := 1) rfl
            have hwz : w.heap.size ≤ w6.heap.size := HP6.out.m.size
            go_wp2_with (at_builtin; refine wpList_append_lies _ rfl _ _ 26 rfl w.heap.size 30 i1 (.agg #[.slice none 0 0, .bool false]) 2 32 Try.underlying26 hi1 hy0 hy1 hy2 rfl (by decide) _ _ _ rfl (HP6.out.o.alloc _) ⟨w6.heap.size, 0, none⟩ 1 1 [.slice a' m c', .bool false] rfl rfl (World.news_of_block (cs := #[.slice a' m c', .bool false]) (t := 30) (fr := (0, 0)) (heap_alloc_new w6 _)) (by simp [Value.oneCell']) (by omega) (by unfold maxLen; omega) (by omega) (by simp; omega) (w6.heap.size + 1) (by simp) ?_; intro g7 c7 w7 hown7 hgrow7 _ hlt7; have HP7 := Lib.hid (HP6.out.app (p := ⟨a', m, c', X, Y, false⟩) HQ6.out hm4 hgrow7 hown7); clear hown7 hgrow7)
            go_roundw
            case rel => exact ⟨t + 1, _, _, _, rfl, by go_num, by omega, HP7.out.more (by omega) (by omega)⟩
            case measure => simp [intOf]; omega
    · obtain rfl : cn = t := by omega
      by_cases h0 : cn = 0
      · subst h0
        go_wp2_with (fail)
        go_ret
        exact ⟨_, _, _, _, rfl, by omega, HO.out.more (by omega) (by omega)⟩
      · have h0' : (0 : Int) < (cn : Int) := by omega
        obtain ⟨g, c', hv, hg, hgl⟩ := HO.out.o.form (by omega)
        cases hv
        go_wp2_with (fail)
        refine (flip_any B _ 15 _ HO.out.s (by omega) (by omega) (by omega)).mono ?_
        rintro e w5 ⟨⟨bb, rfl⟩, hst5, hmt5⟩
        have HP := Lib.hid (HO.out.mutB hmt5 hst5)
        clear hst5 hmt5
        rcases bb with _ | _
        · go_wp2_with (fail)
          go_ret
          exact ⟨_, _, _, _, rfl, by omega, HP.out.more (by omega) (by omega)⟩
        · go_wp2_with (fail)
          refine (next_any B _ (cn : Int) _ HP.out.s (by omega) (by omega) (by omega)).mono ?_
          rintro e w6 ⟨⟨r, rfl, hr0, hr1⟩, hst6, hmt6⟩
          obtain ⟨j, rfl⟩ := Int.eq_ofNat_of_zero_le hr0
          have HP6 := Lib.hid (HP.out.mutB hmt6 hst6)
          clear hst6 hmt6
          have hj : j < cn := by omega
          go_wp2_with (fail)
          refine (flip_any B _ 2 _ HP6.out.s (by omega) (by omega) (by omega)).mono ?_
          rintro e w7 ⟨⟨b2, rfl⟩, hst7, hmt7⟩
          have HP7 := Lib.hid (HP6.out.mutB hmt7 hst7)
          clear hst7 hmt7
          have hB7 := HP7.out.s.lt
          go_wp2_with (fail)
          refine (odd_any B _ (-100000) 100000 _ (HP7.out.s.alloc (.cells #[.int .i64 1, .int .i64 0] 38)) (by omega) (by omega) (by omega) (by omega)).mono ?_
          rintro e w8 ⟨⟨z, rfl, _⟩, hst8, hmt8⟩
          have hh1 := (hmt8.block w7.heap.size (by simp) (by omega)).trans (heap_alloc_new w7 _)
          have HP8 := Lib.hid (HP7.out.mutB (((Mut.refl _ w7).alloc _).trans hmt8) hst8)
          have hl1 := lt_of_heap hh1
          have HH1 := Lib.hid hh1
          clear hst8 hmt8 hh1
          have hB8 := HP8.out.s.lt
          go_wp2_with (fail)
          have M9 : Mut (· = B) w8 ((w8.alloc (.cells #[.int .i64 1, .int .i64 0, .int .i64 z, .int .i64 0] 38)).alloc (.cells #[.slice none 0 0, .slice (some ⟨w7.heap.size, 0, none⟩) 1 1, .slice (some ⟨w8.heap.size, 0, none⟩) 2 2] 28)) := ((Mut.refl _ w8).alloc _).alloc _
          have k1 := (M9.block _ hl1 (by omega)).trans HH1.out
          have k2 : ((w8.alloc (.cells #[.int .i64 1, .int .i64 0, .int .i64 z, .int .i64 0] 38)).alloc (.cells #[.slice none 0 0, .slice (some ⟨w7.heap.size, 0, none⟩) 1 1, .slice (some ⟨w8.heap.size, 0, none⟩) 2 2] 28)).heap[w8.heap.size]? = some (.cells #[.int .i64 1, .int .i64 0, .int .i64 z, .int .i64 0] 38 (0, 0)) := (by repeat (first | (refine heap_new ?_; first | rfl | (simp; done)) | rw [Below.heap_setCell _ _ _ _ (by simp <;> omega)] | rw [Below.heap_alloc _ _ _ (by simp <;> omega)]))
          have k3 : ((w8.alloc (.cells #[.int .i64 1, .int .i64 0, .int .i64 z, .int .i64 0] 38)).alloc (.cells #[.slice none 0 0, .slice (some ⟨w7.heap.size, 0, none⟩) 1 1, .slice (some ⟨w8.heap.size, 0, none⟩) 2 2] 28)).heap[w8.heap.size + 1]? = some (.cells #[.slice none 0 0, .slice (some ⟨w7.heap.size, 0, none⟩) 1 1, .slice (some ⟨w8.heap.size, 0, none⟩) 2 2] 28 (0, 0)) := (by repeat (first | (refine heap_new ?_; first | rfl | (simp; done)) | rw [Below.heap_setCell _ _ _ _ (by simp <;> omega)] | rw [Below.heap_alloc _ _ _ (by simp <;> omega)]))
          have HP9 := Lib.hid (HP8.out.mutB M9 ((HP8.out.s.alloc (.cells #[.int .i64 1, .int .i64 0, .int .i64 z, .int .i64 0] 38)).alloc (.cells #[.slice none 0 0, .slice (some ⟨w7.heap.size, 0, none⟩) 1 1, .slice (some ⟨w8.heap.size, 0, none⟩) 2 2] 28)))
          generalize ((w8.alloc (.cells #[.int .i64 1, .int .i64 0, .int .i64 z, .int .i64 0] 38)).alloc (.cells #[.slice none 0 0, .slice (some ⟨w7.heap.size, 0, none⟩) 1 1, .slice (some ⟨w8.heap.size, 0, none⟩) 2 2] 28)) = w9 at *
          refine (next_any B _ 3 _ HP9.out.s (by omega) (by omega) (by omega)).mono ?_
          rintro e wA ⟨⟨r2, rfl, hr20, hr21⟩, hstA, hmtA⟩
          have HPA := Lib.hid (HP9.out.mutB hmtA hstA)
          replace k1 := (hmtA.block _ (lt_of_heap k1) (by omega)).trans k1
          replace k2 := (hmtA.block _ (lt_of_heap k2) (by omega)).trans k2
          replace k3 := (hmtA.block _ (lt_of_heap k3) (by omega)).trans k3
          clear hstA hmtA M9
          have s0 := cell_of k3 (i := 0) rfl
          have s1 := cell_of k3 (i := 1) rfl
          have s2 := cell_of k3 (i := 2) rfl
          obtain ⟨p0, p1⟩ := pcs_get L cn j hj
          have pc0 := (HPA.out.o.cellAt (j * 2) (by omega)).trans p0
          have pc1 := (HPA.out.o.cellAt (j * 2 + 1) (by omega)).trans p1
          have pf0 := HPA.out.o.frozenAt (j * 2)
          have pf1 := HPA.out.o.frozenAt (j * 2 + 1)
          have hsz1 := HP7.out.m.size
          have hsz2 := HP8.out.m.size
          have K1 := Lib.hid k1
          have K2 := Lib.hid k2
          clear p0 p1 k1 k2 k3
          have hr3 : r2 = 0 ∨ r2 = 1 ∨ r2 = 2 := by omega
          clear hr20 hr21
          rcases hr3 with rfl | rfl | rfl
          · have HF := Lib.hid (HPA.out.put (p := ⟨none, 0, 0, fun _ => 0, fun _ => 0, b2⟩) hj (World.ownsRow_nil _ _ _ _) (by show 0 ≤ 4; omega))
            go_wp2_with (fail)
            go_ret
            exact ⟨_, _, _, _, rfl, by omega, HF.out.more (by omega) (by omega)⟩
          · have HF := Lib.hid (HPA.out.put (p := ⟨some ⟨w7.heap.size, 0, none⟩, 1, 1, fun _ => 1, fun _ => 0, b2⟩) hj (own_lit (n := 1) K1.out hsz1 (by unfold maxLen; omega) rfl rfl) (by show 1 ≤ 4; omega))
            go_wp2_with (fail)
            go_ret
            exact ⟨_, _, _, _, rfl, by omega, HF.out.more (by omega) (by omega)⟩
          · have HF := Lib.hid (HPA.out.put (p := ⟨some ⟨w8.heap.size, 0, none⟩, 2, 2, fun i => if i = 0 then 1 else z, fun _ => 0, b2⟩) hj (own_lit (n := 2) K2.out hsz2 (by unfold maxLen; omega) rfl rfl) (by show 2 ≤ 4; omega))
            go_wp2_with (fail)
            go_ret
            exact ⟨_, _, _, _, rfl, by omega, HF.out.more (by omega) (by omega)⟩
theorem pathList_any (B k : Nat) (w : World) (hs : Strm w B k) (hk : k + 100 ≤ 1000000) :
    Calls Try.prog 10 #[.pointer (some ⟨B, 0, none⟩), .int .i64 5] w (PListE w B (k + 70)) := pathListM_any 5 (by omega) B k w hs hk
end Go.Proofs.Ytcahjkaphpeobaa

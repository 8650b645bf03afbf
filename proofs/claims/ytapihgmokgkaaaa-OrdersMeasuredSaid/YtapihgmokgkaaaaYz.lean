/- Drawn visits and orders. -/
import Derived.Test.YtapihgmokgkaaaaYx
import Derived.Test.YtapihgmokgkaaaaYy
set_option linter.unusedSimpArgs false
set_option linter.unusedVariables false
namespace Go.Proofs.Ytapihgmokgkaaaa
open Go.RowKit

/-- A visit that was drawn: not far off. -/
def VisE (w : World) (B k : Nat) (e : Ending) (w' : World) : Prop := ∃ v : Vis, e = .returned v.v ∧ sm v.p ∧ Strm w' B k ∧ Mut (· = B) w w'
/-- A visit under way: two blocks. -/
structure VU (w W : World) (B k g : Nat) (p s : Int) (bk : Bool) : Prop where
  r : W.heap[w.heap.size]? = some (.cells #[.int .i64 0, .int .i64 0, .bool false] 34 (0, 0))
  h : W.heap[g]? = some (.cells #[.int .i64 p, .int .i64 s, .bool bk] 34 (0, 0))
  s : Strm W B k
  m : Mut (· = B) w W
  l : B < w.heap.size
  g : w.heap.size < g
theorem VU.mutB {w W W' : World} {B k k' g : Nat} {p s : Int} {bk : Bool} (h : VU w W B k g p s bk) (hm : Mut (· = B) W W') (hs : Strm W' B k') : VU w W' B k' g p s bk := by
  have hl := h.l
  have hg := h.g
  exact ⟨(hm.block _ (lt_of_heap h.r) (by omega)).trans h.r, (hm.block _ (lt_of_heap h.h) (by omega)).trans h.h, hs, h.m.trans (hm.mono fun _ _ e => e), hl, hg⟩
theorem set3_1 {w : World} {b : Nat} {v0 v1 v2 u : Value} {t : TypeId} (h : w.heap[b]? = some (.cells #[v0, v1, v2] t (0, 0))) : (w.setCell ⟨b, 1, none⟩ u).heap[b]? = some (.cells #[v0, u, v2] t (0, 0)) := by
  simp [World.setCell, Array.getElem?_modify, h]
theorem set3_0 {w : World} {b : Nat} {v0 v1 v2 u : Value} {t : TypeId} (h : w.heap[b]? = some (.cells #[v0, v1, v2] t (0, 0))) : (w.setCell ⟨b, 0, none⟩ u).heap[b]? = some (.cells #[u, v1, v2] t (0, 0)) := by
  simp [World.setCell, Array.getElem?_modify, h]
theorem set3_2 {w : World} {b : Nat} {v0 v1 v2 u : Value} {t : TypeId} (h : w.heap[b]? = some (.cells #[v0, v1, v2] t (0, 0))) : (w.setCell ⟨b, 2, none⟩ u).heap[b]? = some (.cells #[v0, v1, u] t (0, 0)) := by
  simp [World.setCell, Array.getElem?_modify, h]
theorem VU.put {w W : World} {B k g : Nat} {p s : Int} {bk : Bool} (h : VU w W B k g p s bk) (o : Nat) (u : Value) {p' s' : Int} {bk' : Bool} (hu : (W.setCell ⟨g, o, none⟩ u).heap[g]? = some (.cells #[.int .i64 p', .int .i64 s', .bool bk'] 34 (0, 0))) : VU w (W.setCell ⟨g, o, none⟩ u) B k g p' s' bk' := by
  have hl := h.l
  have hg := h.g
  have M : Mut (· = g) W (W.setCell ⟨g, o, none⟩ u) := Mut.setCell (S := (· = g)) (p := ⟨g, o, none⟩) (Mut.refl (· = g) W) (fun _ => rfl) _
  exact ⟨(M.block _ (lt_of_heap h.r) (by omega)).trans h.r, hu, Strm.setCell h.s (by show B < g; omega) _, h.m.setCell (fun e => absurd e (by show ¬ g < w.heap.size; omega)) _, hl, hg⟩
/-- The end: the result is laid into the first block. -/
theorem VU.fin {w W W' : World} {B k K g : Nat} {p s : Int} {bk : Bool} (h : VU w W B k g p s bk) (hk : k ≤ K) (hK : K ≤ 1000000)
    (hW : ((W.setCell ⟨w.heap.size, 0, none⟩ (.int .i64 p)).setCell ⟨w.heap.size, 1, none⟩ (.int .i64 s)).setCell ⟨w.heap.size, 2, none⟩ (.bool bk) = W') :
    (W'.cell? ⟨w.heap.size, 0, none⟩ = some (.int .i64 p) ∧ W'.cell? ⟨w.heap.size, 1, none⟩ = some (.int .i64 s) ∧ W'.cell? ⟨w.heap.size, 2, none⟩ = some (.bool bk)) ∧ Strm W' B K ∧ Mut (· = B) w W' := by
  subst hW
  have hl := h.l
  have e := set3_2 (u := .bool bk) (set3_1 (u := .int .i64 s) (set3_0 (u := .int .i64 p) h.r))
  refine ⟨⟨cell_of e rfl, cell_of e rfl, cell_of e rfl⟩, (Strm.setCell (Strm.setCell (Strm.setCell h.s (by show B < w.heap.size; omega) _) (by show B < w.heap.size; omega) _) (by show B < w.heap.size; omega) _).more hk hK, ((h.m.setCell (fun e => absurd e (Nat.lt_irrefl _)) _).setCell (fun e => absurd e (Nat.lt_irrefl _)) _).setCell (fun e => absurd e (Nat.lt_irrefl _)) _⟩
set_option maxRecDepth 100000 in
set_option maxHeartbeats 16000000 in
theorem aVisit_any (B k : Nat) (a : Option Addr) (m c : Nat) (P : Nat → Pth) (i : Nat) (w : World) (hs : Strm w B k) (hk : k + 10 ≤ 1000000) (hm : m ≤ 100) (hp : PathsR w a m P) (hn : ∀ i, i < m → (P i).n ≤ 100) (hi : i ≤ 1000) :
    Calls Try.prog 7 #[.pointer (some ⟨B, 0, none⟩), .slice a m c, .int .i64 i] w (VisE w B (k + 6)) := by
  have hB := hs.lt
  have hi0 : (0 : Int) ≤ (i : Int) := by omega
  have HPP := Lib.hid hp
  go_enter Try.func7, Try.ntmps7
  go_upto_if 17 with (fail)
  have HU0 : Hid (VU w ((w.alloc (.cells #[.int .i64 0, .int .i64 0, .bool false] 34)).alloc (.cells #[.int .i64 i, .int .i64 0, .bool false] 34)) B k (w.heap.size + 1) i 0 false) := Lib.hid ⟨(by repeat (first | (refine heap_new ?_; first | rfl | (simp; done)) | rw [Below.heap_setCell _ _ _ _ (by simp <;> omega)] | rw [Below.heap_alloc _ _ _ (by simp <;> omega)])), (by repeat (first | (refine heap_new ?_; first | rfl | (simp; done)) | rw [Below.heap_setCell _ _ _ _ (by simp <;> omega)] | rw [Below.heap_alloc _ _ _ (by simp <;> omega)])), (hs.alloc _).alloc _, ((Mut.refl _ _).alloc _).alloc _, hB, by omega⟩
  have BW : Hid (Below w.heap.size w ((w.alloc (.cells #[.int .i64 0, .int .i64 0, .bool false] 34)).alloc (.cells #[.int .i64 i, .int .i64 0, .bool false] 34))) := Lib.hid (by repeat (first | exact Below.refl _ _ | assumption | refine Below.drew ?_ | refine bdrewN ?_ _ | refine Below.setCell ?_ (by first | omega | (simp <;> omega)) _ | refine Below.alloc ?_ (by first | omega | (simp <;> omega)) _))
  generalize ((w.alloc (.cells #[.int .i64 0, .int .i64 0, .bool false] 34)).alloc (.cells #[.int .i64 i, .int .i64 0, .bool false] 34)) = w0 at *
  have hV0 := cell_of HU0.out.h (i := 0) rfl
  have hV1 := cell_of HU0.out.h (i := 1) rfl
  have hV2 := cell_of HU0.out.h (i := 2) rfl
  have hF1 := frozen_of HU0.out.h (i := 1)
  have hF2 := frozen_of HU0.out.h (i := 2)
  go_cut [] from 10 to 34 (fun wx => ∃ s bk, VU w wx B (k + 1) (w.heap.size + 1) i s bk)
  case first =>
    by_cases him : i < m
    · have himi : (i : Int) < (m : Int) := by omega
      rcases HPP.out with h | ⟨b, off, rfl, hb, hd⟩
      · omega
      obtain ⟨⟨t0, t1⟩, hpt⟩ := hd i him
      have hni := hn i him
      replace t0 := cellk BW.out hb t0
      replace t1 := cellk BW.out hb t1
      have hbw : b < w0.heap.size := Nat.lt_of_lt_of_le hb BW.out.size
      have hbg : b ≠ w.heap.size + 1 := by omega
      have hbB : b ≠ B ∨ b = B := by omega
      clear hd hpt hp hn
      rcases hk2 : (P i).k with _ | _
      · rw [hk2] at t1
        go_wp2_with (fail)
        refine (flip_any B _ 2 _ HU0.out.s (by omega) (by omega) (by omega)).mono ?_
        rintro e w5 ⟨⟨bk, rfl⟩, hst, hmt⟩
        have HU := Lib.hid (HU0.out.mutB hmt hst)
        clear hst hmt hV0 hV1 hV2 hF1 hF2
        have hV2 := cell_of HU.out.h (i := 2) rfl
        have hF2 := frozen_of HU.out.h (i := 2)
        have HU2 := Lib.hid (HU.out.put 2 (.bool bk) (set3_2 HU.out.h))
        go_wp2_with (fail)
        go_meet
        exact ⟨_, _, HU2.out⟩
      · rw [hk2] at t1
        by_cases hn0 : (P i).n = 0
        · rw [hn0] at t0
          go_wp2_with (fail)
          refine (next0_any B _ _ HU0.out.s (by omega)).mono ?_
          rintro e w5 ⟨⟨r, rfl, hr0, hr1⟩, hst, hmt⟩
          have HU := Lib.hid (HU0.out.mutB hmt hst)
          clear hst hmt hV0 hV1 hV2 hF1 hF2
          have hV1 := cell_of HU.out.h (i := 1) rfl
          have hF1 := frozen_of HU.out.h (i := 1)
          have HU2 := Lib.hid (HU.out.put 1 (.int .i64 r) (set3_1 HU.out.h))
          go_wp2_with (fail)
          go_meet
          exact ⟨_, _, HU2.out⟩
        · go_wp2_with (fail)
          refine (next_any B _ _ _ HU0.out.s (by omega) (by omega) (by omega)).mono ?_
          rintro e w5 ⟨⟨r, rfl, hr0, hr1⟩, hst, hmt⟩
          have HU := Lib.hid (HU0.out.mutB hmt hst)
          clear hst hmt hV0 hV1 hV2 hF1 hF2
          have hV1 := cell_of HU.out.h (i := 1) rfl
          have hF1 := frozen_of HU.out.h (i := 1)
          have HU2 := Lib.hid (HU.out.put 1 (.int .i64 r) (set3_1 HU.out.h))
          go_wp2_with (fail)
          go_meet
          exact ⟨_, _, HU2.out⟩
    · have himi : ¬ (i : Int) < (m : Int) := by omega
      go_wp2_with (fail)
      go_meet
      exact ⟨_, _, ⟨HU0.out.r, HU0.out.h, HU0.out.s.more (by omega) (by omega), HU0.out.m, HU0.out.l, HU0.out.g⟩⟩
  case rest =>
    obtain ⟨s, bk, hu⟩ := hcut
    have HU := Lib.hid hu
    clear hu hV0 hV1 hV2 hF1 hF2 HU0 BW HPP hp hn
    obtain ⟨g, hg⟩ : ∃ g, g = w.heap.size + 1 := ⟨_, rfl⟩
    rw [← hg] at HU ⊢
    clear hg
    obtain ⟨p, hpi⟩ : ∃ p : Int, p = i := ⟨_, rfl⟩
    have hp : sm p := by unfold sm; omega
    rw [← hpi] at HU
    clear hpi
    go_wp2_with (fail)
    refine (flip_any B _ 25 _ HU.out.s (by omega) (by omega) (by omega)).mono ?_
    rintro e wY ⟨⟨bb, rfl⟩, hst, hmt⟩
    replace HU := Lib.hid (HU.out.mutB hmt hst)
    clear hst hmt
    rcases bb with _ | _
    · skip
      have hV0 := cell_of HU.out.h (i := 0) rfl
      have hV1 := cell_of HU.out.h (i := 1) rfl
      have hV2 := cell_of HU.out.h (i := 2) rfl
      have hr0 := cell_of HU.out.r (i := 0) rfl
      have hz0 := frozen_of HU.out.r (i := 0)
      have hr1 := cell_of HU.out.r (i := 1) rfl
      have hz1 := frozen_of HU.out.r (i := 1)
      have hr2 := cell_of HU.out.r (i := 2) rfl
      have hz2 := frozen_of HU.out.r (i := 2)
      go_wp2_with (fail)
      obtain ⟨⟨e0, e1, e2⟩, hsF, hmF⟩ := HU.out.fin (K := k + 6) (by omega) (by omega) rfl
      exact bodyPost_ret (v := .agg #[.int .i64 p, .int .i64 s, .bool bk]) (by simp [results, Try.results7, go_sem, e0, e1, e2]) rfl ⟨⟨p, s, bk⟩, rfl, hp, hsF, hmF⟩
    · go_wp2_with (fail)
      refine wp_region_held_drew (S := (fun _ => True)) (by kernel_rfl) True.intro (fun hHeld => ?_)
      refine tkH (by assumption) 0 (oi := ?_) (v := ?_) ?_ ?_ ?_ ?_ ?_ ?_ ?_ ?_; rotate_left 2; (simp only [gA, gB, gC]; exact rfl); kernel_rfl; kernel_rfl; kernel_rfl; exact fun _ _ _ h => h; rfl; (intro w' hSw; (try dsimp only at hSw); go_simp; with_reducible rfl); simp only [Act.put, pB, pC, pD]
      refine tkH (by assumption) 1 (oi := ?_) (v := ?_) ?_ ?_ ?_ ?_ ?_ ?_ ?_ ?_; rotate_left 2; (simp only [gA, gB, gC]; exact rfl); kernel_rfl; kernel_rfl; kernel_rfl; exact fun _ _ _ h => h; rfl; (intro w' hSw; (try dsimp only at hSw); go_simp; with_reducible rfl); simp only [Act.put, pB, pC, pD]
      refine tkH (by assumption) 3 (oi := ?_) (v := ?_) ?_ ?_ ?_ ?_ ?_ ?_ ?_ ?_; rotate_left 2; (simp only [gA, gB, gC]; exact rfl); kernel_rfl; kernel_rfl; kernel_rfl; exact fun _ _ _ h => h; rfl; (intro w' hSw; (try dsimp only at hSw); go_simp; with_reducible rfl); simp only [Act.put, pB, pC, pD]
      refine tkH (by assumption) 4 (oi := ?_) (v := ?_) ?_ ?_ ?_ ?_ ?_ ?_ ?_ ?_; rotate_left 2; (simp only [gA, gB, gC]; exact rfl); kernel_rfl; kernel_rfl; kernel_rfl; exact fun _ _ _ h => h; rfl; (intro w' hSw; (try dsimp only at hSw); go_simp; with_reducible rfl); simp only [Act.put, pB, pC, pD]
      refine tkH (by assumption) 7 (oi := ?_) (v := ?_) ?_ ?_ ?_ ?_ ?_ ?_ ?_ ?_; rotate_left 2; (simp only [gA, gB, gC]; exact rfl); kernel_rfl; kernel_rfl; kernel_rfl; exact fun _ _ _ h => h; rfl; (intro w' hSw; (try dsimp only at hSw); go_simp; with_reducible rfl); simp only [Act.put, pB, pC, pD]
      refine tkH (by assumption) 8 (oi := ?_) (v := ?_) ?_ ?_ ?_ ?_ ?_ ?_ ?_ ?_; rotate_left 2; (simp only [gA, gB, gC]; exact rfl); kernel_rfl; kernel_rfl; kernel_rfl; exact fun _ _ _ h => h; rfl; (intro w' hSw; (try dsimp only at hSw); go_simp; with_reducible rfl); simp only [Act.put, pB, pC, pD]
      refine tkH (by assumption) 12 (oi := ?_) (v := ?_) ?_ ?_ ?_ ?_ ?_ ?_ ?_ ?_; rotate_left 2; (simp only [gA, gB, gC]; exact rfl); kernel_rfl; kernel_rfl; kernel_rfl; exact fun _ _ _ h => h; rfl; (intro w' hSw; (try dsimp only at hSw); go_simp; with_reducible rfl); simp only [Act.put, pB, pC, pD]
      refine wpAnyH_ready (rs := [2, 9]) (by kernel_rfl) (by simp) ?_
      refine coH 2 (oi := ?_) ?_ ?_ (fun K hK => ?_) ?_; rotate_left; (simp only [gA, gB, gC]; exact rfl); rfl
      · have hc0 := cell_of HU.out.h (i := 0) rfl
        go_wp2_with (fail)
        refine hK.out _ _ True.intro (fun hHeldN => ?_)
        clear hK K hHeld
        have hHeld := hHeldN
        clear hHeldN
        try simp only [Act.put, pB, pC, pD]
        clear hc0
        refine wpAnyH_ready (rs := [5, 9]) (by kernel_rfl) (by simp) ?_
        refine coH 5 (oi := ?_) ?_ ?_ (fun K hK => ?_) ?_; rotate_left; (simp only [gA, gB, gC]; exact rfl); rfl
        · go_wp2_with (fail)
          have hb : Below wY.heap.size wY (wY.alloc (.cells #[.int .i64 p, .int .i64 (-1), .int .i64 (m : Int), .int .i64 0] 3)) := (Below.refl _ _).alloc (Nat.le_refl _) _
          have cA : ∀ i, i < 4 → ∃ z, (wY.alloc (.cells #[.int .i64 p, .int .i64 (-1), .int .i64 (m : Int), .int .i64 0] 3)).cell? ⟨wY.heap.size, i, none⟩ = some (.int .i64 z) ∧ sm z := cells_lit wY [p, -1, (m : Int), 0] 3 sm (by intro z hz; simp only [List.mem_cons, List.not_mem_nil, or_false] at hz; unfold sm at *; omega)
          have lA : wY.heap.size < (wY.alloc (.cells #[.int .i64 p, .int .i64 (-1), .int .i64 (m : Int), .int .i64 0] 3)).heap.size := by simp
          have bA : wY.heap.size ≠ B := by have := HU.out.s.lt; omega
          replace HU := Lib.hid (HU.out.mutB (Mut.alloc (Mut.refl (· = B) wY) (o := (.cells #[.int .i64 p, .int .i64 (-1), .int .i64 (m : Int), .int .i64 0] 3))) (HU.out.s.alloc _))
          refine hK.out _ _ True.intro (fun hHeldN => ?_)
          clear hK K hHeld
          have hHeld := hHeldN
          clear hHeldN
          try simp only [Act.put, pB, pC, pD]
          clear hb
          generalize (wY.alloc (.cells #[.int .i64 p, .int .i64 (-1), .int .i64 (m : Int), .int .i64 0] 3)) = W2 at *
          obtain ⟨qA, hg⟩ : ∃ g, g = wY.heap.size := ⟨_, rfl⟩
          rw [← hg] at cA lA bA ⊢
          clear hg
          refine wpAnyH_ready (rs := [6, 9]) (by kernel_rfl) (by simp) ?_
          refine coH 6 (oi := ?_) ?_ ?_ (fun K hK => ?_) ?_; rotate_left; (simp only [gA, gB, gC]; exact rfl); rfl
          · go_wp2_with (fail)
            refine (pick_any B _ qA 4 4 sm W2.drew (HU.out.s.kept (S := fun _ => False) (Mut.refl _ _).drew (fun _ _ h => h)) (by omega) (by omega) (by omega) bA lA cA).mono ?_
            rintro e wN ⟨⟨x, rfl, hx⟩, hst, hmt⟩
            replace hmt : Mut (· = B) W2 wN := ⟨hmt.os, hmt.tape, hmt.output, hmt.size, hmt.block⟩
            replace HU := Lib.hid (HU.out.mutB hmt hst)
            refine hK.out _ _ True.intro (fun hHeldN => ?_)
            clear hK K hHeld
            have hHeld := hHeldN
            clear hHeldN
            try simp only [Act.put, pB, pC, pD]
            clear hst hmt cA lA bA
            refine wpAnyH_ready (rs := [9]) (by kernel_rfl) (by simp) ?_
            refine coH 9 (oi := ?_) ?_ ?_ (fun K hK => ?_) ?_; rotate_left; (simp only [gA, gB, gC]; exact rfl); rfl
            · have hc0 := cell_of HU.out.h (i := 1) rfl
              go_wp2_with (fail)
              refine hK.out _ _ True.intro (fun hHeldN => ?_)
              clear hK K hHeld
              have hHeld := hHeldN
              clear hHeldN
              try simp only [Act.put, pB, pC, pD]
              clear hc0
              refine tkH (by assumption) 14 (oi := ?_) (v := ?_) ?_ ?_ ?_ ?_ ?_ ?_ ?_ ?_; rotate_left 2; (simp only [gA, gB, gC]; exact rfl); kernel_rfl; kernel_rfl; kernel_rfl; exact fun _ _ _ h => h; rfl; (intro w' hSw; (try dsimp only at hSw); go_simp; with_reducible rfl); simp only [Act.put, pB, pC, pD]
              refine wpAnyH_ready (rs := [10]) (by kernel_rfl) (by simp) ?_
              refine coH 10 (oi := ?_) ?_ ?_ (fun K hK => ?_) ?_; rotate_left; (simp only [gA, gB, gC]; exact rfl); rfl
              · go_wp2_with (fail)
                have hb : Below wN.heap.size wN (wN.alloc (.cells #[.int .i64 s, .int .i64 1, .int .i64 (-1), .int .i64 9] 3)) := (Below.refl _ _).alloc (Nat.le_refl _) _
                have cB : ∀ i, i < 4 → ∃ z, (wN.alloc (.cells #[.int .i64 s, .int .i64 1, .int .i64 (-1), .int .i64 9] 3)).cell? ⟨wN.heap.size, i, none⟩ = some (.int .i64 z) ∧ (fun _ => True) z := cells_lit wN [s, 1, -1, 9] 3 (fun _ => True) (by simp)
                have lB : wN.heap.size < (wN.alloc (.cells #[.int .i64 s, .int .i64 1, .int .i64 (-1), .int .i64 9] 3)).heap.size := by simp
                have bB : wN.heap.size ≠ B := by have := HU.out.s.lt; omega
                replace HU := Lib.hid (HU.out.mutB (Mut.alloc (Mut.refl (· = B) wN) (o := (.cells #[.int .i64 s, .int .i64 1, .int .i64 (-1), .int .i64 9] 3))) (HU.out.s.alloc _))
                refine hK.out _ _ True.intro (fun hHeldN => ?_)
                clear hK K hHeld
                have hHeld := hHeldN
                clear hHeldN
                try simp only [Act.put, pB, pC, pD]
                clear hb
                generalize (wN.alloc (.cells #[.int .i64 s, .int .i64 1, .int .i64 (-1), .int .i64 9] 3)) = W5 at *
                obtain ⟨qB, hg⟩ : ∃ g, g = wN.heap.size := ⟨_, rfl⟩
                rw [← hg] at cB lB bB ⊢
                clear hg
                refine wpAnyH_ready (rs := [11]) (by kernel_rfl) (by simp) ?_
                refine coH 11 (oi := ?_) ?_ ?_ (fun K hK => ?_) ?_; rotate_left; (simp only [gA, gB, gC]; exact rfl); rfl
                · go_wp2_with (fail)
                  refine (pick_any B _ qB 4 4 (fun _ => True) W5 HU.out.s (by omega) (by omega) (by omega) bB lB cB).mono ?_
                  rintro e wN ⟨⟨y, rfl, hy⟩, hst, hmt⟩
                  replace HU := Lib.hid (HU.out.mutB hmt hst)
                  refine hK.out _ _ True.intro (fun hHeldN => ?_)
                  clear hK K hHeld
                  have hHeld := hHeldN
                  clear hHeldN
                  try simp only [Act.put, pB, pC, pD]
                  clear hst hmt cB lB bB
                  refine onH 13 (oi := ?_) (by kernel_rfl) ?_ ?_ (fun K hK => ?_); rotate_left; (simp only [gA, gB, gC]; exact rfl); rfl
                  go_wp2_with (fail)
                  refine (flip_any B _ 2 wN HU.out.s (by omega) (by omega) (by omega)).mono ?_
                  rintro e wM ⟨⟨bk', rfl⟩, hst, hmt⟩
                  replace HU := Lib.hid (HU.out.mutB hmt hst)
                  refine hK.out _ _ True.intro (fun hHeldN => ?_)
                  clear hK K hHeld
                  have hHeld := hHeldN
                  clear hHeldN
                  try simp only [Act.put, pB, pC, pD]
                  clear hst hmt
                  have ff0 := frozen_of HU.out.h (i := 0)
                  have cc0 := cell_of HU.out.h (i := 0) rfl
                  refine onH 15 (oi := ?_) (by kernel_rfl) ?_ ?_ (fun K hK => ?_); rotate_left; (simp only [gA, gB, gC]; exact rfl); rfl
                  go_wp2_with (fail)
                  replace HU := Lib.hid (HU.out.put 0 (.int .i64 x) (set3_0 HU.out.h))
                  refine hK.out _ _ True.intro (fun hHeldN => ?_)
                  clear hK K hHeld
                  have hHeld := hHeldN
                  clear hHeldN
                  try simp only [Act.put, pB, pC, pD]
                  clear ff0 cc0
                  refine tkH (by assumption) 16 (oi := ?_) (v := ?_) ?_ ?_ ?_ ?_ ?_ ?_ ?_ ?_; rotate_left 2; (simp only [gA, gB, gC]; exact rfl); kernel_rfl; kernel_rfl; kernel_rfl; exact fun _ _ _ h => h; rfl; (intro w' hSw; (try dsimp only at hSw); go_simp; with_reducible rfl); simp only [Act.put, pB, pC, pD]
                  have ff0 := frozen_of HU.out.h (i := 1)
                  have cc0 := cell_of HU.out.h (i := 1) rfl
                  refine onH 17 (oi := ?_) (by kernel_rfl) ?_ ?_ (fun K hK => ?_); rotate_left; (simp only [gA, gB, gC]; exact rfl); rfl
                  go_wp2_with (fail)
                  replace HU := Lib.hid (HU.out.put 1 (.int .i64 y) (set3_1 HU.out.h))
                  refine hK.out _ _ True.intro (fun hHeldN => ?_)
                  clear hK K hHeld
                  have hHeld := hHeldN
                  clear hHeldN
                  try simp only [Act.put, pB, pC, pD]
                  clear ff0 cc0
                  refine tkH (by assumption) 18 (oi := ?_) (v := ?_) ?_ ?_ ?_ ?_ ?_ ?_ ?_ ?_; rotate_left 2; (simp only [gA, gB, gC]; exact rfl); kernel_rfl; kernel_rfl; kernel_rfl; exact fun _ _ _ h => h; rfl; (intro w' hSw; (try dsimp only at hSw); go_simp; with_reducible rfl); simp only [Act.put, pB, pC, pD]
                  have ff0 := frozen_of HU.out.h (i := 2)
                  have cc0 := cell_of HU.out.h (i := 2) rfl
                  refine onH 19 (oi := ?_) (by kernel_rfl) ?_ ?_ (fun K hK => ?_); rotate_left; (simp only [gA, gB, gC]; exact rfl); rfl
                  go_wp2_with (fail)
                  replace HU := Lib.hid (HU.out.put 2 (.bool bk') (set3_2 HU.out.h))
                  refine hK.out _ _ True.intro (fun hHeldN => ?_)
                  clear hK K hHeld hHeldN ff0 cc0
                  try simp only [Act.put, pB, pC, pD]
                  refine wpAnyH_done (by kernel_rfl) ?_ _
                  generalize (((wM.setCell ⟨g, 0, none⟩ (.int .i64 x)).setCell ⟨g, 1, none⟩ (.int .i64 y)).setCell ⟨g, 2, none⟩ (.bool bk')) = wF at *
                  have hV0 := cell_of HU.out.h (i := 0) rfl
                  have hV1 := cell_of HU.out.h (i := 1) rfl
                  have hV2 := cell_of HU.out.h (i := 2) rfl
                  have hr0 := cell_of HU.out.r (i := 0) rfl
                  have hz0 := frozen_of HU.out.r (i := 0)
                  have hr1 := cell_of HU.out.r (i := 1) rfl
                  have hz1 := frozen_of HU.out.r (i := 1)
                  have hr2 := cell_of HU.out.r (i := 2) rfl
                  have hz2 := frozen_of HU.out.r (i := 2)
                  go_wp2_with (fail)
                  obtain ⟨⟨e0, e1, e2⟩, hsF, hmF⟩ := HU.out.fin (K := k + 6) (by omega) (by omega) rfl
                  exact bodyPost_ret (v := .agg #[.int .i64 x, .int .i64 y, .bool bk']) (by simp [results, Try.results7, go_sem, e0, e1, e2]) rfl ⟨⟨x, y, bk'⟩, rfl, hx, hsF, hmF⟩
                exact AllReadyH.nil
              exact AllReadyH.nil
            exact AllReadyH.nil
          refine coH 9 (oi := ?_) ?_ ?_ (fun K hK => ?_) ?_; rotate_left; (simp only [gA, gB, gC]; exact rfl); rfl
          · have hc0 := cell_of HU.out.h (i := 1) rfl
            go_wp2_with (fail)
            refine hK.out _ _ True.intro (fun hHeldN => ?_)
            clear hK K hHeld
            have hHeld := hHeldN
            clear hHeldN
            try simp only [Act.put, pB, pC, pD]
            clear hc0
            refine wpAnyH_ready (rs := [6, 10]) (by kernel_rfl) (by simp) ?_
            refine coH 6 (oi := ?_) ?_ ?_ (fun K hK => ?_) ?_; rotate_left; (simp only [gA, gB, gC]; exact rfl); rfl
            · go_wp2_with (fail)
              refine (pick_any B _ qA 4 4 sm W2.drew (HU.out.s.kept (S := fun _ => False) (Mut.refl _ _).drew (fun _ _ h => h)) (by omega) (by omega) (by omega) bA lA cA).mono ?_
              rintro e wN ⟨⟨x, rfl, hx⟩, hst, hmt⟩
              replace hmt : Mut (· = B) W2 wN := ⟨hmt.os, hmt.tape, hmt.output, hmt.size, hmt.block⟩
              replace HU := Lib.hid (HU.out.mutB hmt hst)
              refine hK.out _ _ True.intro (fun hHeldN => ?_)
              clear hK K hHeld
              have hHeld := hHeldN
              clear hHeldN
              try simp only [Act.put, pB, pC, pD]
              clear hst hmt cA lA bA
              refine tkH (by assumption) 14 (oi := ?_) (v := ?_) ?_ ?_ ?_ ?_ ?_ ?_ ?_ ?_; rotate_left 2; (simp only [gA, gB, gC]; exact rfl); kernel_rfl; kernel_rfl; kernel_rfl; exact fun _ _ _ h => h; rfl; (intro w' hSw; (try dsimp only at hSw); go_simp; with_reducible rfl); simp only [Act.put, pB, pC, pD]
              refine wpAnyH_ready (rs := [10]) (by kernel_rfl) (by simp) ?_
              refine coH 10 (oi := ?_) ?_ ?_ (fun K hK => ?_) ?_; rotate_left; (simp only [gA, gB, gC]; exact rfl); rfl
              · go_wp2_with (fail)
                have hb : Below wN.heap.size wN (wN.alloc (.cells #[.int .i64 s, .int .i64 1, .int .i64 (-1), .int .i64 9] 3)) := (Below.refl _ _).alloc (Nat.le_refl _) _
                have cB : ∀ i, i < 4 → ∃ z, (wN.alloc (.cells #[.int .i64 s, .int .i64 1, .int .i64 (-1), .int .i64 9] 3)).cell? ⟨wN.heap.size, i, none⟩ = some (.int .i64 z) ∧ (fun _ => True) z := cells_lit wN [s, 1, -1, 9] 3 (fun _ => True) (by simp)
                have lB : wN.heap.size < (wN.alloc (.cells #[.int .i64 s, .int .i64 1, .int .i64 (-1), .int .i64 9] 3)).heap.size := by simp
                have bB : wN.heap.size ≠ B := by have := HU.out.s.lt; omega
                replace HU := Lib.hid (HU.out.mutB (Mut.alloc (Mut.refl (· = B) wN) (o := (.cells #[.int .i64 s, .int .i64 1, .int .i64 (-1), .int .i64 9] 3))) (HU.out.s.alloc _))
                refine hK.out _ _ True.intro (fun hHeldN => ?_)
                clear hK K hHeld
                have hHeld := hHeldN
                clear hHeldN
                try simp only [Act.put, pB, pC, pD]
                clear hb
                generalize (wN.alloc (.cells #[.int .i64 s, .int .i64 1, .int .i64 (-1), .int .i64 9] 3)) = W9 at *
                obtain ⟨qB, hg⟩ : ∃ g, g = wN.heap.size := ⟨_, rfl⟩
                rw [← hg] at cB lB bB ⊢
                clear hg
                refine wpAnyH_ready (rs := [11]) (by kernel_rfl) (by simp) ?_
                refine coH 11 (oi := ?_) ?_ ?_ (fun K hK => ?_) ?_; rotate_left; (simp only [gA, gB, gC]; exact rfl); rfl
                · go_wp2_with (fail)
                  refine (pick_any B _ qB 4 4 (fun _ => True) W9 HU.out.s (by omega) (by omega) (by omega) bB lB cB).mono ?_
                  rintro e wN ⟨⟨y, rfl, hy⟩, hst, hmt⟩
                  replace HU := Lib.hid (HU.out.mutB hmt hst)
                  refine hK.out _ _ True.intro (fun hHeldN => ?_)
                  clear hK K hHeld
                  have hHeld := hHeldN
                  clear hHeldN
                  try simp only [Act.put, pB, pC, pD]
                  clear hst hmt cB lB bB
                  refine onH 13 (oi := ?_) (by kernel_rfl) ?_ ?_ (fun K hK => ?_); rotate_left; (simp only [gA, gB, gC]; exact rfl); rfl
                  go_wp2_with (fail)
                  refine (flip_any B _ 2 wN HU.out.s (by omega) (by omega) (by omega)).mono ?_
                  rintro e wM ⟨⟨bk', rfl⟩, hst, hmt⟩
                  replace HU := Lib.hid (HU.out.mutB hmt hst)
                  refine hK.out _ _ True.intro (fun hHeldN => ?_)
                  clear hK K hHeld
                  have hHeld := hHeldN
                  clear hHeldN
                  try simp only [Act.put, pB, pC, pD]
                  clear hst hmt
                  have ff0 := frozen_of HU.out.h (i := 0)
                  have cc0 := cell_of HU.out.h (i := 0) rfl
                  refine onH 15 (oi := ?_) (by kernel_rfl) ?_ ?_ (fun K hK => ?_); rotate_left; (simp only [gA, gB, gC]; exact rfl); rfl
                  go_wp2_with (fail)
                  replace HU := Lib.hid (HU.out.put 0 (.int .i64 x) (set3_0 HU.out.h))
                  refine hK.out _ _ True.intro (fun hHeldN => ?_)
                  clear hK K hHeld
                  have hHeld := hHeldN
                  clear hHeldN
                  try simp only [Act.put, pB, pC, pD]
                  clear ff0 cc0
                  refine tkH (by assumption) 16 (oi := ?_) (v := ?_) ?_ ?_ ?_ ?_ ?_ ?_ ?_ ?_; rotate_left 2; (simp only [gA, gB, gC]; exact rfl); kernel_rfl; kernel_rfl; kernel_rfl; exact fun _ _ _ h => h; rfl; (intro w' hSw; (try dsimp only at hSw); go_simp; with_reducible rfl); simp only [Act.put, pB, pC, pD]
                  have ff0 := frozen_of HU.out.h (i := 1)
                  have cc0 := cell_of HU.out.h (i := 1) rfl
                  refine onH 17 (oi := ?_) (by kernel_rfl) ?_ ?_ (fun K hK => ?_); rotate_left; (simp only [gA, gB, gC]; exact rfl); rfl
                  go_wp2_with (fail)
                  replace HU := Lib.hid (HU.out.put 1 (.int .i64 y) (set3_1 HU.out.h))
                  refine hK.out _ _ True.intro (fun hHeldN => ?_)
                  clear hK K hHeld
                  have hHeld := hHeldN
                  clear hHeldN
                  try simp only [Act.put, pB, pC, pD]
                  clear ff0 cc0
                  refine tkH (by assumption) 18 (oi := ?_) (v := ?_) ?_ ?_ ?_ ?_ ?_ ?_ ?_ ?_; rotate_left 2; (simp only [gA, gB, gC]; exact rfl); kernel_rfl; kernel_rfl; kernel_rfl; exact fun _ _ _ h => h; rfl; (intro w' hSw; (try dsimp only at hSw); go_simp; with_reducible rfl); simp only [Act.put, pB, pC, pD]
                  have ff0 := frozen_of HU.out.h (i := 2)
                  have cc0 := cell_of HU.out.h (i := 2) rfl
                  refine onH 19 (oi := ?_) (by kernel_rfl) ?_ ?_ (fun K hK => ?_); rotate_left; (simp only [gA, gB, gC]; exact rfl); rfl
                  go_wp2_with (fail)
                  replace HU := Lib.hid (HU.out.put 2 (.bool bk') (set3_2 HU.out.h))
                  refine hK.out _ _ True.intro (fun hHeldN => ?_)
                  clear hK K hHeld hHeldN ff0 cc0
                  try simp only [Act.put, pB, pC, pD]
                  refine wpAnyH_done (by kernel_rfl) ?_ _
                  generalize (((wM.setCell ⟨g, 0, none⟩ (.int .i64 x)).setCell ⟨g, 1, none⟩ (.int .i64 y)).setCell ⟨g, 2, none⟩ (.bool bk')) = wF at *
                  have hV0 := cell_of HU.out.h (i := 0) rfl
                  have hV1 := cell_of HU.out.h (i := 1) rfl
                  have hV2 := cell_of HU.out.h (i := 2) rfl
                  have hr0 := cell_of HU.out.r (i := 0) rfl
                  have hz0 := frozen_of HU.out.r (i := 0)
                  have hr1 := cell_of HU.out.r (i := 1) rfl
                  have hz1 := frozen_of HU.out.r (i := 1)
                  have hr2 := cell_of HU.out.r (i := 2) rfl
                  have hz2 := frozen_of HU.out.r (i := 2)
                  go_wp2_with (fail)
                  obtain ⟨⟨e0, e1, e2⟩, hsF, hmF⟩ := HU.out.fin (K := k + 6) (by omega) (by omega) rfl
                  exact bodyPost_ret (v := .agg #[.int .i64 x, .int .i64 y, .bool bk']) (by simp [results, Try.results7, go_sem, e0, e1, e2]) rfl ⟨⟨x, y, bk'⟩, rfl, hx, hsF, hmF⟩
                exact AllReadyH.nil
              exact AllReadyH.nil
            refine coH 10 (oi := ?_) ?_ ?_ (fun K hK => ?_) ?_; rotate_left; (simp only [gA, gB, gC]; exact rfl); rfl
            · go_wp2_with (fail)
              have hb : Below W2.heap.size W2 (W2.alloc (.cells #[.int .i64 s, .int .i64 1, .int .i64 (-1), .int .i64 9] 3)) := (Below.refl _ _).alloc (Nat.le_refl _) _
              have cB : ∀ i, i < 4 → ∃ z, (W2.alloc (.cells #[.int .i64 s, .int .i64 1, .int .i64 (-1), .int .i64 9] 3)).cell? ⟨W2.heap.size, i, none⟩ = some (.int .i64 z) ∧ (fun _ => True) z := cells_lit W2 [s, 1, -1, 9] 3 (fun _ => True) (by simp)
              have lB : W2.heap.size < (W2.alloc (.cells #[.int .i64 s, .int .i64 1, .int .i64 (-1), .int .i64 9] 3)).heap.size := by simp
              have bB : W2.heap.size ≠ B := by have := HU.out.s.lt; omega
              replace HU := Lib.hid (HU.out.mutB (Mut.alloc (Mut.refl (· = B) W2) (o := (.cells #[.int .i64 s, .int .i64 1, .int .i64 (-1), .int .i64 9] 3))) (HU.out.s.alloc _))
              replace cA : ∀ i, i < 4 → ∃ z, (W2.alloc (.cells #[.int .i64 s, .int .i64 1, .int .i64 (-1), .int .i64 9] 3)).cell? ⟨qA, i, none⟩ = some (.int .i64 z) ∧ sm z := fun i hi => by obtain ⟨z, h1, h2⟩ := cA i hi; exact ⟨z, cellk hb lA h1, h2⟩
              replace lA := Nat.lt_of_lt_of_le lA hb.size
              refine hK.out _ _ True.intro (fun hHeldN => ?_)
              clear hK K hHeld
              have hHeld := hHeldN
              clear hHeldN
              try simp only [Act.put, pB, pC, pD]
              clear hb
              generalize (W2.alloc (.cells #[.int .i64 s, .int .i64 1, .int .i64 (-1), .int .i64 9] 3)) = W11 at *
              obtain ⟨qB, hg⟩ : ∃ g, g = W2.heap.size := ⟨_, rfl⟩
              rw [← hg] at cB lB bB ⊢
              clear hg
              refine wpAnyH_ready (rs := [6]) (by kernel_rfl) (by simp) ?_
              refine coH 6 (oi := ?_) ?_ ?_ (fun K hK => ?_) ?_; rotate_left; (simp only [gA, gB, gC]; exact rfl); rfl
              · go_wp2_with (fail)
                refine (pick_any B _ qA 4 4 sm W11.drew (HU.out.s.kept (S := fun _ => False) (Mut.refl _ _).drew (fun _ _ h => h)) (by omega) (by omega) (by omega) bA lA cA).mono ?_
                rintro e wN ⟨⟨x, rfl, hx⟩, hst, hmt⟩
                replace hmt : Mut (· = B) W11 wN := ⟨hmt.os, hmt.tape, hmt.output, hmt.size, hmt.block⟩
                replace HU := Lib.hid (HU.out.mutB hmt hst)
                replace cB : ∀ i, i < 4 → ∃ z, wN.cell? ⟨qB, i, none⟩ = some (.int .i64 z) ∧ (fun _ => True) z := fun i hi => by obtain ⟨z, h1, h2⟩ := cB i hi; exact ⟨z, (hmt.cell (p := ⟨qB, i, none⟩) lB bB).trans h1, h2⟩
                replace lB := Nat.lt_of_lt_of_le lB hmt.size
                refine hK.out _ _ True.intro (fun hHeldN => ?_)
                clear hK K hHeld
                have hHeld := hHeldN
                clear hHeldN
                try simp only [Act.put, pB, pC, pD]
                clear hst hmt cA lA bA
                refine tkH (by assumption) 14 (oi := ?_) (v := ?_) ?_ ?_ ?_ ?_ ?_ ?_ ?_ ?_; rotate_left 2; (simp only [gA, gB, gC]; exact rfl); kernel_rfl; kernel_rfl; kernel_rfl; exact fun _ _ _ h => h; rfl; (intro w' hSw; (try dsimp only at hSw); go_simp; with_reducible rfl); simp only [Act.put, pB, pC, pD]
                refine wpAnyH_ready (rs := [11]) (by kernel_rfl) (by simp) ?_
                refine coH 11 (oi := ?_) ?_ ?_ (fun K hK => ?_) ?_; rotate_left; (simp only [gA, gB, gC]; exact rfl); rfl
                · go_wp2_with (fail)
                  refine (pick_any B _ qB 4 4 (fun _ => True) wN HU.out.s (by omega) (by omega) (by omega) bB lB cB).mono ?_
                  rintro e wN ⟨⟨y, rfl, hy⟩, hst, hmt⟩
                  replace HU := Lib.hid (HU.out.mutB hmt hst)
                  refine hK.out _ _ True.intro (fun hHeldN => ?_)
                  clear hK K hHeld
                  have hHeld := hHeldN
                  clear hHeldN
                  try simp only [Act.put, pB, pC, pD]
                  clear hst hmt cB lB bB
                  refine onH 13 (oi := ?_) (by kernel_rfl) ?_ ?_ (fun K hK => ?_); rotate_left; (simp only [gA, gB, gC]; exact rfl); rfl
                  go_wp2_with (fail)
                  refine (flip_any B _ 2 wN HU.out.s (by omega) (by omega) (by omega)).mono ?_
                  rintro e wM ⟨⟨bk', rfl⟩, hst, hmt⟩
                  replace HU := Lib.hid (HU.out.mutB hmt hst)
                  refine hK.out _ _ True.intro (fun hHeldN => ?_)
                  clear hK K hHeld
                  have hHeld := hHeldN
                  clear hHeldN
                  try simp only [Act.put, pB, pC, pD]
                  clear hst hmt
                  have ff0 := frozen_of HU.out.h (i := 0)
                  have cc0 := cell_of HU.out.h (i := 0) rfl
                  refine onH 15 (oi := ?_) (by kernel_rfl) ?_ ?_ (fun K hK => ?_); rotate_left; (simp only [gA, gB, gC]; exact rfl); rfl
                  go_wp2_with (fail)
                  replace HU := Lib.hid (HU.out.put 0 (.int .i64 x) (set3_0 HU.out.h))
                  refine hK.out _ _ True.intro (fun hHeldN => ?_)
                  clear hK K hHeld
                  have hHeld := hHeldN
                  clear hHeldN
                  try simp only [Act.put, pB, pC, pD]
                  clear ff0 cc0
                  refine tkH (by assumption) 16 (oi := ?_) (v := ?_) ?_ ?_ ?_ ?_ ?_ ?_ ?_ ?_; rotate_left 2; (simp only [gA, gB, gC]; exact rfl); kernel_rfl; kernel_rfl; kernel_rfl; exact fun _ _ _ h => h; rfl; (intro w' hSw; (try dsimp only at hSw); go_simp; with_reducible rfl); simp only [Act.put, pB, pC, pD]
                  have ff0 := frozen_of HU.out.h (i := 1)
                  have cc0 := cell_of HU.out.h (i := 1) rfl
                  refine onH 17 (oi := ?_) (by kernel_rfl) ?_ ?_ (fun K hK => ?_); rotate_left; (simp only [gA, gB, gC]; exact rfl); rfl
                  go_wp2_with (fail)
                  replace HU := Lib.hid (HU.out.put 1 (.int .i64 y) (set3_1 HU.out.h))
                  refine hK.out _ _ True.intro (fun hHeldN => ?_)
                  clear hK K hHeld
                  have hHeld := hHeldN
                  clear hHeldN
                  try simp only [Act.put, pB, pC, pD]
                  clear ff0 cc0
                  refine tkH (by assumption) 18 (oi := ?_) (v := ?_) ?_ ?_ ?_ ?_ ?_ ?_ ?_ ?_; rotate_left 2; (simp only [gA, gB, gC]; exact rfl); kernel_rfl; kernel_rfl; kernel_rfl; exact fun _ _ _ h => h; rfl; (intro w' hSw; (try dsimp only at hSw); go_simp; with_reducible rfl); simp only [Act.put, pB, pC, pD]
                  have ff0 := frozen_of HU.out.h (i := 2)
                  have cc0 := cell_of HU.out.h (i := 2) rfl
                  refine onH 19 (oi := ?_) (by kernel_rfl) ?_ ?_ (fun K hK => ?_); rotate_left; (simp only [gA, gB, gC]; exact rfl); rfl
                  go_wp2_with (fail)
                  replace HU := Lib.hid (HU.out.put 2 (.bool bk') (set3_2 HU.out.h))
                  refine hK.out _ _ True.intro (fun hHeldN => ?_)
                  clear hK K hHeld hHeldN ff0 cc0
                  try simp only [Act.put, pB, pC, pD]
                  refine wpAnyH_done (by kernel_rfl) ?_ _
                  generalize (((wM.setCell ⟨g, 0, none⟩ (.int .i64 x)).setCell ⟨g, 1, none⟩ (.int .i64 y)).setCell ⟨g, 2, none⟩ (.bool bk')) = wF at *
                  have hV0 := cell_of HU.out.h (i := 0) rfl
                  have hV1 := cell_of HU.out.h (i := 1) rfl
                  have hV2 := cell_of HU.out.h (i := 2) rfl
                  have hr0 := cell_of HU.out.r (i := 0) rfl
                  have hz0 := frozen_of HU.out.r (i := 0)
                  have hr1 := cell_of HU.out.r (i := 1) rfl
                  have hz1 := frozen_of HU.out.r (i := 1)
                  have hr2 := cell_of HU.out.r (i := 2) rfl
                  have hz2 := frozen_of HU.out.r (i := 2)
                  go_wp2_with (fail)
                  obtain ⟨⟨e0, e1, e2⟩, hsF, hmF⟩ := HU.out.fin (K := k + 6) (by omega) (by omega) rfl
                  exact bodyPost_ret (v := .agg #[.int .i64 x, .int .i64 y, .bool bk']) (by simp [results, Try.results7, go_sem, e0, e1, e2]) rfl ⟨⟨x, y, bk'⟩, rfl, hx, hsF, hmF⟩
                exact AllReadyH.nil
              exact AllReadyH.nil
            exact AllReadyH.nil
          exact AllReadyH.nil
        refine coH 9 (oi := ?_) ?_ ?_ (fun K hK => ?_) ?_; rotate_left; (simp only [gA, gB, gC]; exact rfl); rfl
        · have hc0 := cell_of HU.out.h (i := 1) rfl
          go_wp2_with (fail)
          refine hK.out _ _ True.intro (fun hHeldN => ?_)
          clear hK K hHeld
          have hHeld := hHeldN
          clear hHeldN
          try simp only [Act.put, pB, pC, pD]
          clear hc0
          refine wpAnyH_ready (rs := [5, 10]) (by kernel_rfl) (by simp) ?_
          refine coH 5 (oi := ?_) ?_ ?_ (fun K hK => ?_) ?_; rotate_left; (simp only [gA, gB, gC]; exact rfl); rfl
          · go_wp2_with (fail)
            have hb : Below wY.heap.size wY (wY.alloc (.cells #[.int .i64 p, .int .i64 (-1), .int .i64 (m : Int), .int .i64 0] 3)) := (Below.refl _ _).alloc (Nat.le_refl _) _
            have cA : ∀ i, i < 4 → ∃ z, (wY.alloc (.cells #[.int .i64 p, .int .i64 (-1), .int .i64 (m : Int), .int .i64 0] 3)).cell? ⟨wY.heap.size, i, none⟩ = some (.int .i64 z) ∧ sm z := cells_lit wY [p, -1, (m : Int), 0] 3 sm (by intro z hz; simp only [List.mem_cons, List.not_mem_nil, or_false] at hz; unfold sm at *; omega)
            have lA : wY.heap.size < (wY.alloc (.cells #[.int .i64 p, .int .i64 (-1), .int .i64 (m : Int), .int .i64 0] 3)).heap.size := by simp
            have bA : wY.heap.size ≠ B := by have := HU.out.s.lt; omega
            replace HU := Lib.hid (HU.out.mutB (Mut.alloc (Mut.refl (· = B) wY) (o := (.cells #[.int .i64 p, .int .i64 (-1), .int .i64 (m : Int), .int .i64 0] 3))) (HU.out.s.alloc _))
            refine hK.out _ _ True.intro (fun hHeldN => ?_)
            clear hK K hHeld
            have hHeld := hHeldN
            clear hHeldN
            try simp only [Act.put, pB, pC, pD]
            clear hb
            generalize (wY.alloc (.cells #[.int .i64 p, .int .i64 (-1), .int .i64 (m : Int), .int .i64 0] 3)) = W15 at *
            obtain ⟨qA, hg⟩ : ∃ g, g = wY.heap.size := ⟨_, rfl⟩
            rw [← hg] at cA lA bA ⊢
            clear hg
            refine wpAnyH_ready (rs := [6, 10]) (by kernel_rfl) (by simp) ?_
            refine coH 6 (oi := ?_) ?_ ?_ (fun K hK => ?_) ?_; rotate_left; (simp only [gA, gB, gC]; exact rfl); rfl
            · go_wp2_with (fail)
              refine (pick_any B _ qA 4 4 sm W15.drew (HU.out.s.kept (S := fun _ => False) (Mut.refl _ _).drew (fun _ _ h => h)) (by omega) (by omega) (by omega) bA lA cA).mono ?_
              rintro e wN ⟨⟨x, rfl, hx⟩, hst, hmt⟩
              replace hmt : Mut (· = B) W15 wN := ⟨hmt.os, hmt.tape, hmt.output, hmt.size, hmt.block⟩
              replace HU := Lib.hid (HU.out.mutB hmt hst)
              refine hK.out _ _ True.intro (fun hHeldN => ?_)
              clear hK K hHeld
              have hHeld := hHeldN
              clear hHeldN
              try simp only [Act.put, pB, pC, pD]
              clear hst hmt cA lA bA
              refine tkH (by assumption) 14 (oi := ?_) (v := ?_) ?_ ?_ ?_ ?_ ?_ ?_ ?_ ?_; rotate_left 2; (simp only [gA, gB, gC]; exact rfl); kernel_rfl; kernel_rfl; kernel_rfl; exact fun _ _ _ h => h; rfl; (intro w' hSw; (try dsimp only at hSw); go_simp; with_reducible rfl); simp only [Act.put, pB, pC, pD]
              refine wpAnyH_ready (rs := [10]) (by kernel_rfl) (by simp) ?_
              refine coH 10 (oi := ?_) ?_ ?_ (fun K hK => ?_) ?_; rotate_left; (simp only [gA, gB, gC]; exact rfl); rfl
              · go_wp2_with (fail)
                have hb : Below wN.heap.size wN (wN.alloc (.cells #[.int .i64 s, .int .i64 1, .int .i64 (-1), .int .i64 9] 3)) := (Below.refl _ _).alloc (Nat.le_refl _) _
                have cB : ∀ i, i < 4 → ∃ z, (wN.alloc (.cells #[.int .i64 s, .int .i64 1, .int .i64 (-1), .int .i64 9] 3)).cell? ⟨wN.heap.size, i, none⟩ = some (.int .i64 z) ∧ (fun _ => True) z := cells_lit wN [s, 1, -1, 9] 3 (fun _ => True) (by simp)
                have lB : wN.heap.size < (wN.alloc (.cells #[.int .i64 s, .int .i64 1, .int .i64 (-1), .int .i64 9] 3)).heap.size := by simp
                have bB : wN.heap.size ≠ B := by have := HU.out.s.lt; omega
                replace HU := Lib.hid (HU.out.mutB (Mut.alloc (Mut.refl (· = B) wN) (o := (.cells #[.int .i64 s, .int .i64 1, .int .i64 (-1), .int .i64 9] 3))) (HU.out.s.alloc _))
                refine hK.out _ _ True.intro (fun hHeldN => ?_)
                clear hK K hHeld
                have hHeld := hHeldN
                clear hHeldN
                try simp only [Act.put, pB, pC, pD]
                clear hb
                generalize (wN.alloc (.cells #[.int .i64 s, .int .i64 1, .int .i64 (-1), .int .i64 9] 3)) = W17 at *
                obtain ⟨qB, hg⟩ : ∃ g, g = wN.heap.size := ⟨_, rfl⟩
                rw [← hg] at cB lB bB ⊢
                clear hg
                refine wpAnyH_ready (rs := [11]) (by kernel_rfl) (by simp) ?_
                refine coH 11 (oi := ?_) ?_ ?_ (fun K hK => ?_) ?_; rotate_left; (simp only [gA, gB, gC]; exact rfl); rfl
                · go_wp2_with (fail)
                  refine (pick_any B _ qB 4 4 (fun _ => True) W17 HU.out.s (by omega) (by omega) (by omega) bB lB cB).mono ?_
                  rintro e wN ⟨⟨y, rfl, hy⟩, hst, hmt⟩
                  replace HU := Lib.hid (HU.out.mutB hmt hst)
                  refine hK.out _ _ True.intro (fun hHeldN => ?_)
                  clear hK K hHeld
                  have hHeld := hHeldN
                  clear hHeldN
                  try simp only [Act.put, pB, pC, pD]
                  clear hst hmt cB lB bB
                  refine onH 13 (oi := ?_) (by kernel_rfl) ?_ ?_ (fun K hK => ?_); rotate_left; (simp only [gA, gB, gC]; exact rfl); rfl
                  go_wp2_with (fail)
                  refine (flip_any B _ 2 wN HU.out.s (by omega) (by omega) (by omega)).mono ?_
                  rintro e wM ⟨⟨bk', rfl⟩, hst, hmt⟩
                  replace HU := Lib.hid (HU.out.mutB hmt hst)
                  refine hK.out _ _ True.intro (fun hHeldN => ?_)
                  clear hK K hHeld
                  have hHeld := hHeldN
                  clear hHeldN
                  try simp only [Act.put, pB, pC, pD]
                  clear hst hmt
                  have ff0 := frozen_of HU.out.h (i := 0)
                  have cc0 := cell_of HU.out.h (i := 0) rfl
                  refine onH 15 (oi := ?_) (by kernel_rfl) ?_ ?_ (fun K hK => ?_); rotate_left; (simp only [gA, gB, gC]; exact rfl); rfl
                  go_wp2_with (fail)
                  replace HU := Lib.hid (HU.out.put 0 (.int .i64 x) (set3_0 HU.out.h))
                  refine hK.out _ _ True.intro (fun hHeldN => ?_)
                  clear hK K hHeld
                  have hHeld := hHeldN
                  clear hHeldN
                  try simp only [Act.put, pB, pC, pD]
                  clear ff0 cc0
                  refine tkH (by assumption) 16 (oi := ?_) (v := ?_) ?_ ?_ ?_ ?_ ?_ ?_ ?_ ?_; rotate_left 2; (simp only [gA, gB, gC]; exact rfl); kernel_rfl; kernel_rfl; kernel_rfl; exact fun _ _ _ h => h; rfl; (intro w' hSw; (try dsimp only at hSw); go_simp; with_reducible rfl); simp only [Act.put, pB, pC, pD]
                  have ff0 := frozen_of HU.out.h (i := 1)
                  have cc0 := cell_of HU.out.h (i := 1) rfl
                  refine onH 17 (oi := ?_) (by kernel_rfl) ?_ ?_ (fun K hK => ?_); rotate_left; (simp only [gA, gB, gC]; exact rfl); rfl
                  go_wp2_with (fail)
                  replace HU := Lib.hid (HU.out.put 1 (.int .i64 y) (set3_1 HU.out.h))
                  refine hK.out _ _ True.intro (fun hHeldN => ?_)
                  clear hK K hHeld
                  have hHeld := hHeldN
                  clear hHeldN
                  try simp only [Act.put, pB, pC, pD]
                  clear ff0 cc0
                  refine tkH (by assumption) 18 (oi := ?_) (v := ?_) ?_ ?_ ?_ ?_ ?_ ?_ ?_ ?_; rotate_left 2; (simp only [gA, gB, gC]; exact rfl); kernel_rfl; kernel_rfl; kernel_rfl; exact fun _ _ _ h => h; rfl; (intro w' hSw; (try dsimp only at hSw); go_simp; with_reducible rfl); simp only [Act.put, pB, pC, pD]
                  have ff0 := frozen_of HU.out.h (i := 2)
                  have cc0 := cell_of HU.out.h (i := 2) rfl
                  refine onH 19 (oi := ?_) (by kernel_rfl) ?_ ?_ (fun K hK => ?_); rotate_left; (simp only [gA, gB, gC]; exact rfl); rfl
                  go_wp2_with (fail)
                  replace HU := Lib.hid (HU.out.put 2 (.bool bk') (set3_2 HU.out.h))
                  refine hK.out _ _ True.intro (fun hHeldN => ?_)
                  clear hK K hHeld hHeldN ff0 cc0
                  try simp only [Act.put, pB, pC, pD]
                  refine wpAnyH_done (by kernel_rfl) ?_ _
                  generalize (((wM.setCell ⟨g, 0, none⟩ (.int .i64 x)).setCell ⟨g, 1, none⟩ (.int .i64 y)).setCell ⟨g, 2, none⟩ (.bool bk')) = wF at *
                  have hV0 := cell_of HU.out.h (i := 0) rfl
                  have hV1 := cell_of HU.out.h (i := 1) rfl
                  have hV2 := cell_of HU.out.h (i := 2) rfl
                  have hr0 := cell_of HU.out.r (i := 0) rfl
                  have hz0 := frozen_of HU.out.r (i := 0)
                  have hr1 := cell_of HU.out.r (i := 1) rfl
                  have hz1 := frozen_of HU.out.r (i := 1)
                  have hr2 := cell_of HU.out.r (i := 2) rfl
                  have hz2 := frozen_of HU.out.r (i := 2)
                  go_wp2_with (fail)
                  obtain ⟨⟨e0, e1, e2⟩, hsF, hmF⟩ := HU.out.fin (K := k + 6) (by omega) (by omega) rfl
                  exact bodyPost_ret (v := .agg #[.int .i64 x, .int .i64 y, .bool bk']) (by simp [results, Try.results7, go_sem, e0, e1, e2]) rfl ⟨⟨x, y, bk'⟩, rfl, hx, hsF, hmF⟩
                exact AllReadyH.nil
              exact AllReadyH.nil
            refine coH 10 (oi := ?_) ?_ ?_ (fun K hK => ?_) ?_; rotate_left; (simp only [gA, gB, gC]; exact rfl); rfl
            · go_wp2_with (fail)
              have hb : Below W15.heap.size W15 (W15.alloc (.cells #[.int .i64 s, .int .i64 1, .int .i64 (-1), .int .i64 9] 3)) := (Below.refl _ _).alloc (Nat.le_refl _) _
              have cB : ∀ i, i < 4 → ∃ z, (W15.alloc (.cells #[.int .i64 s, .int .i64 1, .int .i64 (-1), .int .i64 9] 3)).cell? ⟨W15.heap.size, i, none⟩ = some (.int .i64 z) ∧ (fun _ => True) z := cells_lit W15 [s, 1, -1, 9] 3 (fun _ => True) (by simp)
              have lB : W15.heap.size < (W15.alloc (.cells #[.int .i64 s, .int .i64 1, .int .i64 (-1), .int .i64 9] 3)).heap.size := by simp
              have bB : W15.heap.size ≠ B := by have := HU.out.s.lt; omega
              replace HU := Lib.hid (HU.out.mutB (Mut.alloc (Mut.refl (· = B) W15) (o := (.cells #[.int .i64 s, .int .i64 1, .int .i64 (-1), .int .i64 9] 3))) (HU.out.s.alloc _))
              replace cA : ∀ i, i < 4 → ∃ z, (W15.alloc (.cells #[.int .i64 s, .int .i64 1, .int .i64 (-1), .int .i64 9] 3)).cell? ⟨qA, i, none⟩ = some (.int .i64 z) ∧ sm z := fun i hi => by obtain ⟨z, h1, h2⟩ := cA i hi; exact ⟨z, cellk hb lA h1, h2⟩
              replace lA := Nat.lt_of_lt_of_le lA hb.size
              refine hK.out _ _ True.intro (fun hHeldN => ?_)
              clear hK K hHeld
              have hHeld := hHeldN
              clear hHeldN
              try simp only [Act.put, pB, pC, pD]
              clear hb
              generalize (W15.alloc (.cells #[.int .i64 s, .int .i64 1, .int .i64 (-1), .int .i64 9] 3)) = W19 at *
              obtain ⟨qB, hg⟩ : ∃ g, g = W15.heap.size := ⟨_, rfl⟩
              rw [← hg] at cB lB bB ⊢
              clear hg
              refine wpAnyH_ready (rs := [6]) (by kernel_rfl) (by simp) ?_
              refine coH 6 (oi := ?_) ?_ ?_ (fun K hK => ?_) ?_; rotate_left; (simp only [gA, gB, gC]; exact rfl); rfl
              · go_wp2_with (fail)
                refine (pick_any B _ qA 4 4 sm W19.drew (HU.out.s.kept (S := fun _ => False) (Mut.refl _ _).drew (fun _ _ h => h)) (by omega) (by omega) (by omega) bA lA cA).mono ?_
                rintro e wN ⟨⟨x, rfl, hx⟩, hst, hmt⟩
                replace hmt : Mut (· = B) W19 wN := ⟨hmt.os, hmt.tape, hmt.output, hmt.size, hmt.block⟩
                replace HU := Lib.hid (HU.out.mutB hmt hst)
                replace cB : ∀ i, i < 4 → ∃ z, wN.cell? ⟨qB, i, none⟩ = some (.int .i64 z) ∧ (fun _ => True) z := fun i hi => by obtain ⟨z, h1, h2⟩ := cB i hi; exact ⟨z, (hmt.cell (p := ⟨qB, i, none⟩) lB bB).trans h1, h2⟩
                replace lB := Nat.lt_of_lt_of_le lB hmt.size
                refine hK.out _ _ True.intro (fun hHeldN => ?_)
                clear hK K hHeld
                have hHeld := hHeldN
                clear hHeldN
                try simp only [Act.put, pB, pC, pD]
                clear hst hmt cA lA bA
                refine tkH (by assumption) 14 (oi := ?_) (v := ?_) ?_ ?_ ?_ ?_ ?_ ?_ ?_ ?_; rotate_left 2; (simp only [gA, gB, gC]; exact rfl); kernel_rfl; kernel_rfl; kernel_rfl; exact fun _ _ _ h => h; rfl; (intro w' hSw; (try dsimp only at hSw); go_simp; with_reducible rfl); simp only [Act.put, pB, pC, pD]
                refine wpAnyH_ready (rs := [11]) (by kernel_rfl) (by simp) ?_
                refine coH 11 (oi := ?_) ?_ ?_ (fun K hK => ?_) ?_; rotate_left; (simp only [gA, gB, gC]; exact rfl); rfl
                · go_wp2_with (fail)
                  refine (pick_any B _ qB 4 4 (fun _ => True) wN HU.out.s (by omega) (by omega) (by omega) bB lB cB).mono ?_
                  rintro e wN ⟨⟨y, rfl, hy⟩, hst, hmt⟩
                  replace HU := Lib.hid (HU.out.mutB hmt hst)
                  refine hK.out _ _ True.intro (fun hHeldN => ?_)
                  clear hK K hHeld
                  have hHeld := hHeldN
                  clear hHeldN
                  try simp only [Act.put, pB, pC, pD]
                  clear hst hmt cB lB bB
                  refine onH 13 (oi := ?_) (by kernel_rfl) ?_ ?_ (fun K hK => ?_); rotate_left; (simp only [gA, gB, gC]; exact rfl); rfl
                  go_wp2_with (fail)
                  refine (flip_any B _ 2 wN HU.out.s (by omega) (by omega) (by omega)).mono ?_
                  rintro e wM ⟨⟨bk', rfl⟩, hst, hmt⟩
                  replace HU := Lib.hid (HU.out.mutB hmt hst)
                  refine hK.out _ _ True.intro (fun hHeldN => ?_)
                  clear hK K hHeld
                  have hHeld := hHeldN
                  clear hHeldN
                  try simp only [Act.put, pB, pC, pD]
                  clear hst hmt
                  have ff0 := frozen_of HU.out.h (i := 0)
                  have cc0 := cell_of HU.out.h (i := 0) rfl
                  refine onH 15 (oi := ?_) (by kernel_rfl) ?_ ?_ (fun K hK => ?_); rotate_left; (simp only [gA, gB, gC]; exact rfl); rfl
                  go_wp2_with (fail)
                  replace HU := Lib.hid (HU.out.put 0 (.int .i64 x) (set3_0 HU.out.h))
                  refine hK.out _ _ True.intro (fun hHeldN => ?_)
                  clear hK K hHeld
                  have hHeld := hHeldN
                  clear hHeldN
                  try simp only [Act.put, pB, pC, pD]
                  clear ff0 cc0
                  refine tkH (by assumption) 16 (oi := ?_) (v := ?_) ?_ ?_ ?_ ?_ ?_ ?_ ?_ ?_; rotate_left 2; (simp only [gA, gB, gC]; exact rfl); kernel_rfl; kernel_rfl; kernel_rfl; exact fun _ _ _ h => h; rfl; (intro w' hSw; (try dsimp only at hSw); go_simp; with_reducible rfl); simp only [Act.put, pB, pC, pD]
                  have ff0 := frozen_of HU.out.h (i := 1)
                  have cc0 := cell_of HU.out.h (i := 1) rfl
                  refine onH 17 (oi := ?_) (by kernel_rfl) ?_ ?_ (fun K hK => ?_); rotate_left; (simp only [gA, gB, gC]; exact rfl); rfl
                  go_wp2_with (fail)
                  replace HU := Lib.hid (HU.out.put 1 (.int .i64 y) (set3_1 HU.out.h))
                  refine hK.out _ _ True.intro (fun hHeldN => ?_)
                  clear hK K hHeld
                  have hHeld := hHeldN
                  clear hHeldN
                  try simp only [Act.put, pB, pC, pD]
                  clear ff0 cc0
                  refine tkH (by assumption) 18 (oi := ?_) (v := ?_) ?_ ?_ ?_ ?_ ?_ ?_ ?_ ?_; rotate_left 2; (simp only [gA, gB, gC]; exact rfl); kernel_rfl; kernel_rfl; kernel_rfl; exact fun _ _ _ h => h; rfl; (intro w' hSw; (try dsimp only at hSw); go_simp; with_reducible rfl); simp only [Act.put, pB, pC, pD]
                  have ff0 := frozen_of HU.out.h (i := 2)
                  have cc0 := cell_of HU.out.h (i := 2) rfl
                  refine onH 19 (oi := ?_) (by kernel_rfl) ?_ ?_ (fun K hK => ?_); rotate_left; (simp only [gA, gB, gC]; exact rfl); rfl
                  go_wp2_with (fail)
                  replace HU := Lib.hid (HU.out.put 2 (.bool bk') (set3_2 HU.out.h))
                  refine hK.out _ _ True.intro (fun hHeldN => ?_)
                  clear hK K hHeld hHeldN ff0 cc0
                  try simp only [Act.put, pB, pC, pD]
                  refine wpAnyH_done (by kernel_rfl) ?_ _
                  generalize (((wM.setCell ⟨g, 0, none⟩ (.int .i64 x)).setCell ⟨g, 1, none⟩ (.int .i64 y)).setCell ⟨g, 2, none⟩ (.bool bk')) = wF at *
                  have hV0 := cell_of HU.out.h (i := 0) rfl
                  have hV1 := cell_of HU.out.h (i := 1) rfl
                  have hV2 := cell_of HU.out.h (i := 2) rfl
                  have hr0 := cell_of HU.out.r (i := 0) rfl
                  have hz0 := frozen_of HU.out.r (i := 0)
                  have hr1 := cell_of HU.out.r (i := 1) rfl
                  have hz1 := frozen_of HU.out.r (i := 1)
                  have hr2 := cell_of HU.out.r (i := 2) rfl
                  have hz2 := frozen_of HU.out.r (i := 2)
                  go_wp2_with (fail)
                  obtain ⟨⟨e0, e1, e2⟩, hsF, hmF⟩ := HU.out.fin (K := k + 6) (by omega) (by omega) rfl
                  exact bodyPost_ret (v := .agg #[.int .i64 x, .int .i64 y, .bool bk']) (by simp [results, Try.results7, go_sem, e0, e1, e2]) rfl ⟨⟨x, y, bk'⟩, rfl, hx, hsF, hmF⟩
                exact AllReadyH.nil
              exact AllReadyH.nil
            exact AllReadyH.nil
          refine coH 10 (oi := ?_) ?_ ?_ (fun K hK => ?_) ?_; rotate_left; (simp only [gA, gB, gC]; exact rfl); rfl
          · go_wp2_with (fail)
            have hb : Below wY.heap.size wY (wY.alloc (.cells #[.int .i64 s, .int .i64 1, .int .i64 (-1), .int .i64 9] 3)) := (Below.refl _ _).alloc (Nat.le_refl _) _
            have cB : ∀ i, i < 4 → ∃ z, (wY.alloc (.cells #[.int .i64 s, .int .i64 1, .int .i64 (-1), .int .i64 9] 3)).cell? ⟨wY.heap.size, i, none⟩ = some (.int .i64 z) ∧ (fun _ => True) z := cells_lit wY [s, 1, -1, 9] 3 (fun _ => True) (by simp)
            have lB : wY.heap.size < (wY.alloc (.cells #[.int .i64 s, .int .i64 1, .int .i64 (-1), .int .i64 9] 3)).heap.size := by simp
            have bB : wY.heap.size ≠ B := by have := HU.out.s.lt; omega
            replace HU := Lib.hid (HU.out.mutB (Mut.alloc (Mut.refl (· = B) wY) (o := (.cells #[.int .i64 s, .int .i64 1, .int .i64 (-1), .int .i64 9] 3))) (HU.out.s.alloc _))
            refine hK.out _ _ True.intro (fun hHeldN => ?_)
            clear hK K hHeld
            have hHeld := hHeldN
            clear hHeldN
            try simp only [Act.put, pB, pC, pD]
            clear hb
            generalize (wY.alloc (.cells #[.int .i64 s, .int .i64 1, .int .i64 (-1), .int .i64 9] 3)) = W22 at *
            obtain ⟨qB, hg⟩ : ∃ g, g = wY.heap.size := ⟨_, rfl⟩
            rw [← hg] at cB lB bB ⊢
            clear hg
            refine wpAnyH_ready (rs := [5]) (by kernel_rfl) (by simp) ?_
            refine coH 5 (oi := ?_) ?_ ?_ (fun K hK => ?_) ?_; rotate_left; (simp only [gA, gB, gC]; exact rfl); rfl
            · go_wp2_with (fail)
              have hb : Below W22.heap.size W22 (W22.alloc (.cells #[.int .i64 p, .int .i64 (-1), .int .i64 (m : Int), .int .i64 0] 3)) := (Below.refl _ _).alloc (Nat.le_refl _) _
              have cA : ∀ i, i < 4 → ∃ z, (W22.alloc (.cells #[.int .i64 p, .int .i64 (-1), .int .i64 (m : Int), .int .i64 0] 3)).cell? ⟨W22.heap.size, i, none⟩ = some (.int .i64 z) ∧ sm z := cells_lit W22 [p, -1, (m : Int), 0] 3 sm (by intro z hz; simp only [List.mem_cons, List.not_mem_nil, or_false] at hz; unfold sm at *; omega)
              have lA : W22.heap.size < (W22.alloc (.cells #[.int .i64 p, .int .i64 (-1), .int .i64 (m : Int), .int .i64 0] 3)).heap.size := by simp
              have bA : W22.heap.size ≠ B := by have := HU.out.s.lt; omega
              replace HU := Lib.hid (HU.out.mutB (Mut.alloc (Mut.refl (· = B) W22) (o := (.cells #[.int .i64 p, .int .i64 (-1), .int .i64 (m : Int), .int .i64 0] 3))) (HU.out.s.alloc _))
              replace cB : ∀ i, i < 4 → ∃ z, (W22.alloc (.cells #[.int .i64 p, .int .i64 (-1), .int .i64 (m : Int), .int .i64 0] 3)).cell? ⟨qB, i, none⟩ = some (.int .i64 z) ∧ (fun _ => True) z := fun i hi => by obtain ⟨z, h1, h2⟩ := cB i hi; exact ⟨z, cellk hb lB h1, h2⟩
              replace lB := Nat.lt_of_lt_of_le lB hb.size
              refine hK.out _ _ True.intro (fun hHeldN => ?_)
              clear hK K hHeld
              have hHeld := hHeldN
              clear hHeldN
              try simp only [Act.put, pB, pC, pD]
              clear hb
              generalize (W22.alloc (.cells #[.int .i64 p, .int .i64 (-1), .int .i64 (m : Int), .int .i64 0] 3)) = W23 at *
              obtain ⟨qA, hg⟩ : ∃ g, g = W22.heap.size := ⟨_, rfl⟩
              rw [← hg] at cA lA bA ⊢
              clear hg
              refine wpAnyH_ready (rs := [6]) (by kernel_rfl) (by simp) ?_
              refine coH 6 (oi := ?_) ?_ ?_ (fun K hK => ?_) ?_; rotate_left; (simp only [gA, gB, gC]; exact rfl); rfl
              · go_wp2_with (fail)
                refine (pick_any B _ qA 4 4 sm W23.drew (HU.out.s.kept (S := fun _ => False) (Mut.refl _ _).drew (fun _ _ h => h)) (by omega) (by omega) (by omega) bA lA cA).mono ?_
                rintro e wN ⟨⟨x, rfl, hx⟩, hst, hmt⟩
                replace hmt : Mut (· = B) W23 wN := ⟨hmt.os, hmt.tape, hmt.output, hmt.size, hmt.block⟩
                replace HU := Lib.hid (HU.out.mutB hmt hst)
                replace cB : ∀ i, i < 4 → ∃ z, wN.cell? ⟨qB, i, none⟩ = some (.int .i64 z) ∧ (fun _ => True) z := fun i hi => by obtain ⟨z, h1, h2⟩ := cB i hi; exact ⟨z, (hmt.cell (p := ⟨qB, i, none⟩) lB bB).trans h1, h2⟩
                replace lB := Nat.lt_of_lt_of_le lB hmt.size
                refine hK.out _ _ True.intro (fun hHeldN => ?_)
                clear hK K hHeld
                have hHeld := hHeldN
                clear hHeldN
                try simp only [Act.put, pB, pC, pD]
                clear hst hmt cA lA bA
                refine tkH (by assumption) 14 (oi := ?_) (v := ?_) ?_ ?_ ?_ ?_ ?_ ?_ ?_ ?_; rotate_left 2; (simp only [gA, gB, gC]; exact rfl); kernel_rfl; kernel_rfl; kernel_rfl; exact fun _ _ _ h => h; rfl; (intro w' hSw; (try dsimp only at hSw); go_simp; with_reducible rfl); simp only [Act.put, pB, pC, pD]
                refine wpAnyH_ready (rs := [11]) (by kernel_rfl) (by simp) ?_
                refine coH 11 (oi := ?_) ?_ ?_ (fun K hK => ?_) ?_; rotate_left; (simp only [gA, gB, gC]; exact rfl); rfl
                · go_wp2_with (fail)
                  refine (pick_any B _ qB 4 4 (fun _ => True) wN HU.out.s (by omega) (by omega) (by omega) bB lB cB).mono ?_
                  rintro e wN ⟨⟨y, rfl, hy⟩, hst, hmt⟩
                  replace HU := Lib.hid (HU.out.mutB hmt hst)
                  refine hK.out _ _ True.intro (fun hHeldN => ?_)
                  clear hK K hHeld
                  have hHeld := hHeldN
                  clear hHeldN
                  try simp only [Act.put, pB, pC, pD]
                  clear hst hmt cB lB bB
                  refine onH 13 (oi := ?_) (by kernel_rfl) ?_ ?_ (fun K hK => ?_); rotate_left; (simp only [gA, gB, gC]; exact rfl); rfl
                  go_wp2_with (fail)
                  refine (flip_any B _ 2 wN HU.out.s (by omega) (by omega) (by omega)).mono ?_
                  rintro e wM ⟨⟨bk', rfl⟩, hst, hmt⟩
                  replace HU := Lib.hid (HU.out.mutB hmt hst)
                  refine hK.out _ _ True.intro (fun hHeldN => ?_)
                  clear hK K hHeld
                  have hHeld := hHeldN
                  clear hHeldN
                  try simp only [Act.put, pB, pC, pD]
                  clear hst hmt
                  have ff0 := frozen_of HU.out.h (i := 0)
                  have cc0 := cell_of HU.out.h (i := 0) rfl
                  refine onH 15 (oi := ?_) (by kernel_rfl) ?_ ?_ (fun K hK => ?_); rotate_left; (simp only [gA, gB, gC]; exact rfl); rfl
                  go_wp2_with (fail)
                  replace HU := Lib.hid (HU.out.put 0 (.int .i64 x) (set3_0 HU.out.h))
                  refine hK.out _ _ True.intro (fun hHeldN => ?_)
                  clear hK K hHeld
                  have hHeld := hHeldN
                  clear hHeldN
                  try simp only [Act.put, pB, pC, pD]
                  clear ff0 cc0
                  refine tkH (by assumption) 16 (oi := ?_) (v := ?_) ?_ ?_ ?_ ?_ ?_ ?_ ?_ ?_; rotate_left 2; (simp only [gA, gB, gC]; exact rfl); kernel_rfl; kernel_rfl; kernel_rfl; exact fun _ _ _ h => h; rfl; (intro w' hSw; (try dsimp only at hSw); go_simp; with_reducible rfl); simp only [Act.put, pB, pC, pD]
                  have ff0 := frozen_of HU.out.h (i := 1)
                  have cc0 := cell_of HU.out.h (i := 1) rfl
                  refine onH 17 (oi := ?_) (by kernel_rfl) ?_ ?_ (fun K hK => ?_); rotate_left; (simp only [gA, gB, gC]; exact rfl); rfl
                  go_wp2_with (fail)
                  replace HU := Lib.hid (HU.out.put 1 (.int .i64 y) (set3_1 HU.out.h))
                  refine hK.out _ _ True.intro (fun hHeldN => ?_)
                  clear hK K hHeld
                  have hHeld := hHeldN
                  clear hHeldN
                  try simp only [Act.put, pB, pC, pD]
                  clear ff0 cc0
                  refine tkH (by assumption) 18 (oi := ?_) (v := ?_) ?_ ?_ ?_ ?_ ?_ ?_ ?_ ?_; rotate_left 2; (simp only [gA, gB, gC]; exact rfl); kernel_rfl; kernel_rfl; kernel_rfl; exact fun _ _ _ h => h; rfl; (intro w' hSw; (try dsimp only at hSw); go_simp; with_reducible rfl); simp only [Act.put, pB, pC, pD]
                  have ff0 := frozen_of HU.out.h (i := 2)
                  have cc0 := cell_of HU.out.h (i := 2) rfl
                  refine onH 19 (oi := ?_) (by kernel_rfl) ?_ ?_ (fun K hK => ?_); rotate_left; (simp only [gA, gB, gC]; exact rfl); rfl
                  go_wp2_with (fail)
                  replace HU := Lib.hid (HU.out.put 2 (.bool bk') (set3_2 HU.out.h))
                  refine hK.out _ _ True.intro (fun hHeldN => ?_)
                  clear hK K hHeld hHeldN ff0 cc0
                  try simp only [Act.put, pB, pC, pD]
                  refine wpAnyH_done (by kernel_rfl) ?_ _
                  generalize (((wM.setCell ⟨g, 0, none⟩ (.int .i64 x)).setCell ⟨g, 1, none⟩ (.int .i64 y)).setCell ⟨g, 2, none⟩ (.bool bk')) = wF at *
                  have hV0 := cell_of HU.out.h (i := 0) rfl
                  have hV1 := cell_of HU.out.h (i := 1) rfl
                  have hV2 := cell_of HU.out.h (i := 2) rfl
                  have hr0 := cell_of HU.out.r (i := 0) rfl
                  have hz0 := frozen_of HU.out.r (i := 0)
                  have hr1 := cell_of HU.out.r (i := 1) rfl
                  have hz1 := frozen_of HU.out.r (i := 1)
                  have hr2 := cell_of HU.out.r (i := 2) rfl
                  have hz2 := frozen_of HU.out.r (i := 2)
                  go_wp2_with (fail)
                  obtain ⟨⟨e0, e1, e2⟩, hsF, hmF⟩ := HU.out.fin (K := k + 6) (by omega) (by omega) rfl
                  exact bodyPost_ret (v := .agg #[.int .i64 x, .int .i64 y, .bool bk']) (by simp [results, Try.results7, go_sem, e0, e1, e2]) rfl ⟨⟨x, y, bk'⟩, rfl, hx, hsF, hmF⟩
                exact AllReadyH.nil
              exact AllReadyH.nil
            exact AllReadyH.nil
          exact AllReadyH.nil
        exact AllReadyH.nil
      refine coH 9 (oi := ?_) ?_ ?_ (fun K hK => ?_) ?_; rotate_left; (simp only [gA, gB, gC]; exact rfl); rfl
      · have hc0 := cell_of HU.out.h (i := 1) rfl
        go_wp2_with (fail)
        refine hK.out _ _ True.intro (fun hHeldN => ?_)
        clear hK K hHeld
        have hHeld := hHeldN
        clear hHeldN
        try simp only [Act.put, pB, pC, pD]
        clear hc0
        refine wpAnyH_ready (rs := [2, 10]) (by kernel_rfl) (by simp) ?_
        refine coH 2 (oi := ?_) ?_ ?_ (fun K hK => ?_) ?_; rotate_left; (simp only [gA, gB, gC]; exact rfl); rfl
        · have hc0 := cell_of HU.out.h (i := 0) rfl
          go_wp2_with (fail)
          refine hK.out _ _ True.intro (fun hHeldN => ?_)
          clear hK K hHeld
          have hHeld := hHeldN
          clear hHeldN
          try simp only [Act.put, pB, pC, pD]
          clear hc0
          refine wpAnyH_ready (rs := [5, 10]) (by kernel_rfl) (by simp) ?_
          refine coH 5 (oi := ?_) ?_ ?_ (fun K hK => ?_) ?_; rotate_left; (simp only [gA, gB, gC]; exact rfl); rfl
          · go_wp2_with (fail)
            have hb : Below wY.heap.size wY (wY.alloc (.cells #[.int .i64 p, .int .i64 (-1), .int .i64 (m : Int), .int .i64 0] 3)) := (Below.refl _ _).alloc (Nat.le_refl _) _
            have cA : ∀ i, i < 4 → ∃ z, (wY.alloc (.cells #[.int .i64 p, .int .i64 (-1), .int .i64 (m : Int), .int .i64 0] 3)).cell? ⟨wY.heap.size, i, none⟩ = some (.int .i64 z) ∧ sm z := cells_lit wY [p, -1, (m : Int), 0] 3 sm (by intro z hz; simp only [List.mem_cons, List.not_mem_nil, or_false] at hz; unfold sm at *; omega)
            have lA : wY.heap.size < (wY.alloc (.cells #[.int .i64 p, .int .i64 (-1), .int .i64 (m : Int), .int .i64 0] 3)).heap.size := by simp
            have bA : wY.heap.size ≠ B := by have := HU.out.s.lt; omega
            replace HU := Lib.hid (HU.out.mutB (Mut.alloc (Mut.refl (· = B) wY) (o := (.cells #[.int .i64 p, .int .i64 (-1), .int .i64 (m : Int), .int .i64 0] 3))) (HU.out.s.alloc _))
            refine hK.out _ _ True.intro (fun hHeldN => ?_)
            clear hK K hHeld
            have hHeld := hHeldN
            clear hHeldN
            try simp only [Act.put, pB, pC, pD]
            clear hb
            generalize (wY.alloc (.cells #[.int .i64 p, .int .i64 (-1), .int .i64 (m : Int), .int .i64 0] 3)) = W28 at *
            obtain ⟨qA, hg⟩ : ∃ g, g = wY.heap.size := ⟨_, rfl⟩
            rw [← hg] at cA lA bA ⊢
            clear hg
            refine wpAnyH_ready (rs := [6, 10]) (by kernel_rfl) (by simp) ?_
            refine coH 6 (oi := ?_) ?_ ?_ (fun K hK => ?_) ?_; rotate_left; (simp only [gA, gB, gC]; exact rfl); rfl
            · go_wp2_with (fail)
              refine (pick_any B _ qA 4 4 sm W28.drew (HU.out.s.kept (S := fun _ => False) (Mut.refl _ _).drew (fun _ _ h => h)) (by omega) (by omega) (by omega) bA lA cA).mono ?_
              rintro e wN ⟨⟨x, rfl, hx⟩, hst, hmt⟩
              replace hmt : Mut (· = B) W28 wN := ⟨hmt.os, hmt.tape, hmt.output, hmt.size, hmt.block⟩
              replace HU := Lib.hid (HU.out.mutB hmt hst)
              refine hK.out _ _ True.intro (fun hHeldN => ?_)
              clear hK K hHeld
              have hHeld := hHeldN
              clear hHeldN
              try simp only [Act.put, pB, pC, pD]
              clear hst hmt cA lA bA
              refine tkH (by assumption) 14 (oi := ?_) (v := ?_) ?_ ?_ ?_ ?_ ?_ ?_ ?_ ?_; rotate_left 2; (simp only [gA, gB, gC]; exact rfl); kernel_rfl; kernel_rfl; kernel_rfl; exact fun _ _ _ h => h; rfl; (intro w' hSw; (try dsimp only at hSw); go_simp; with_reducible rfl); simp only [Act.put, pB, pC, pD]
              refine wpAnyH_ready (rs := [10]) (by kernel_rfl) (by simp) ?_
              refine coH 10 (oi := ?_) ?_ ?_ (fun K hK => ?_) ?_; rotate_left; (simp only [gA, gB, gC]; exact rfl); rfl
              · go_wp2_with (fail)
                have hb : Below wN.heap.size wN (wN.alloc (.cells #[.int .i64 s, .int .i64 1, .int .i64 (-1), .int .i64 9] 3)) := (Below.refl _ _).alloc (Nat.le_refl _) _
                have cB : ∀ i, i < 4 → ∃ z, (wN.alloc (.cells #[.int .i64 s, .int .i64 1, .int .i64 (-1), .int .i64 9] 3)).cell? ⟨wN.heap.size, i, none⟩ = some (.int .i64 z) ∧ (fun _ => True) z := cells_lit wN [s, 1, -1, 9] 3 (fun _ => True) (by simp)
                have lB : wN.heap.size < (wN.alloc (.cells #[.int .i64 s, .int .i64 1, .int .i64 (-1), .int .i64 9] 3)).heap.size := by simp
                have bB : wN.heap.size ≠ B := by have := HU.out.s.lt; omega
                replace HU := Lib.hid (HU.out.mutB (Mut.alloc (Mut.refl (· = B) wN) (o := (.cells #[.int .i64 s, .int .i64 1, .int .i64 (-1), .int .i64 9] 3))) (HU.out.s.alloc _))
                refine hK.out _ _ True.intro (fun hHeldN => ?_)
                clear hK K hHeld
                have hHeld := hHeldN
                clear hHeldN
                try simp only [Act.put, pB, pC, pD]
                clear hb
                generalize (wN.alloc (.cells #[.int .i64 s, .int .i64 1, .int .i64 (-1), .int .i64 9] 3)) = W30 at *
                obtain ⟨qB, hg⟩ : ∃ g, g = wN.heap.size := ⟨_, rfl⟩
                rw [← hg] at cB lB bB ⊢
                clear hg
                refine wpAnyH_ready (rs := [11]) (by kernel_rfl) (by simp) ?_
                refine coH 11 (oi := ?_) ?_ ?_ (fun K hK => ?_) ?_; rotate_left; (simp only [gA, gB, gC]; exact rfl); rfl
                · go_wp2_with (fail)
                  refine (pick_any B _ qB 4 4 (fun _ => True) W30 HU.out.s (by omega) (by omega) (by omega) bB lB cB).mono ?_
                  rintro e wN ⟨⟨y, rfl, hy⟩, hst, hmt⟩
                  replace HU := Lib.hid (HU.out.mutB hmt hst)
                  refine hK.out _ _ True.intro (fun hHeldN => ?_)
                  clear hK K hHeld
                  have hHeld := hHeldN
                  clear hHeldN
                  try simp only [Act.put, pB, pC, pD]
                  clear hst hmt cB lB bB
                  refine onH 13 (oi := ?_) (by kernel_rfl) ?_ ?_ (fun K hK => ?_); rotate_left; (simp only [gA, gB, gC]; exact rfl); rfl
                  go_wp2_with (fail)
                  refine (flip_any B _ 2 wN HU.out.s (by omega) (by omega) (by omega)).mono ?_
                  rintro e wM ⟨⟨bk', rfl⟩, hst, hmt⟩
                  replace HU := Lib.hid (HU.out.mutB hmt hst)
                  refine hK.out _ _ True.intro (fun hHeldN => ?_)
                  clear hK K hHeld
                  have hHeld := hHeldN
                  clear hHeldN
                  try simp only [Act.put, pB, pC, pD]
                  clear hst hmt
                  have ff0 := frozen_of HU.out.h (i := 0)
                  have cc0 := cell_of HU.out.h (i := 0) rfl
                  refine onH 15 (oi := ?_) (by kernel_rfl) ?_ ?_ (fun K hK => ?_); rotate_left; (simp only [gA, gB, gC]; exact rfl); rfl
                  go_wp2_with (fail)
                  replace HU := Lib.hid (HU.out.put 0 (.int .i64 x) (set3_0 HU.out.h))
                  refine hK.out _ _ True.intro (fun hHeldN => ?_)
                  clear hK K hHeld
                  have hHeld := hHeldN
                  clear hHeldN
                  try simp only [Act.put, pB, pC, pD]
                  clear ff0 cc0
                  refine tkH (by assumption) 16 (oi := ?_) (v := ?_) ?_ ?_ ?_ ?_ ?_ ?_ ?_ ?_; rotate_left 2; (simp only [gA, gB, gC]; exact rfl); kernel_rfl; kernel_rfl; kernel_rfl; exact fun _ _ _ h => h; rfl; (intro w' hSw; (try dsimp only at hSw); go_simp; with_reducible rfl); simp only [Act.put, pB, pC, pD]
                  have ff0 := frozen_of HU.out.h (i := 1)
                  have cc0 := cell_of HU.out.h (i := 1) rfl
                  refine onH 17 (oi := ?_) (by kernel_rfl) ?_ ?_ (fun K hK => ?_); rotate_left; (simp only [gA, gB, gC]; exact rfl); rfl
                  go_wp2_with (fail)
                  replace HU := Lib.hid (HU.out.put 1 (.int .i64 y) (set3_1 HU.out.h))
                  refine hK.out _ _ True.intro (fun hHeldN => ?_)
                  clear hK K hHeld
                  have hHeld := hHeldN
                  clear hHeldN
                  try simp only [Act.put, pB, pC, pD]
                  clear ff0 cc0
                  refine tkH (by assumption) 18 (oi := ?_) (v := ?_) ?_ ?_ ?_ ?_ ?_ ?_ ?_ ?_; rotate_left 2; (simp only [gA, gB, gC]; exact rfl); kernel_rfl; kernel_rfl; kernel_rfl; exact fun _ _ _ h => h; rfl; (intro w' hSw; (try dsimp only at hSw); go_simp; with_reducible rfl); simp only [Act.put, pB, pC, pD]
                  have ff0 := frozen_of HU.out.h (i := 2)
                  have cc0 := cell_of HU.out.h (i := 2) rfl
                  refine onH 19 (oi := ?_) (by kernel_rfl) ?_ ?_ (fun K hK => ?_); rotate_left; (simp only [gA, gB, gC]; exact rfl); rfl
                  go_wp2_with (fail)
                  replace HU := Lib.hid (HU.out.put 2 (.bool bk') (set3_2 HU.out.h))
                  refine hK.out _ _ True.intro (fun hHeldN => ?_)
                  clear hK K hHeld hHeldN ff0 cc0
                  try simp only [Act.put, pB, pC, pD]
                  refine wpAnyH_done (by kernel_rfl) ?_ _
                  generalize (((wM.setCell ⟨g, 0, none⟩ (.int .i64 x)).setCell ⟨g, 1, none⟩ (.int .i64 y)).setCell ⟨g, 2, none⟩ (.bool bk')) = wF at *
                  have hV0 := cell_of HU.out.h (i := 0) rfl
                  have hV1 := cell_of HU.out.h (i := 1) rfl
                  have hV2 := cell_of HU.out.h (i := 2) rfl
                  have hr0 := cell_of HU.out.r (i := 0) rfl
                  have hz0 := frozen_of HU.out.r (i := 0)
                  have hr1 := cell_of HU.out.r (i := 1) rfl
                  have hz1 := frozen_of HU.out.r (i := 1)
                  have hr2 := cell_of HU.out.r (i := 2) rfl
                  have hz2 := frozen_of HU.out.r (i := 2)
                  go_wp2_with (fail)
                  obtain ⟨⟨e0, e1, e2⟩, hsF, hmF⟩ := HU.out.fin (K := k + 6) (by omega) (by omega) rfl
                  exact bodyPost_ret (v := .agg #[.int .i64 x, .int .i64 y, .bool bk']) (by simp [results, Try.results7, go_sem, e0, e1, e2]) rfl ⟨⟨x, y, bk'⟩, rfl, hx, hsF, hmF⟩
                exact AllReadyH.nil
              exact AllReadyH.nil
            refine coH 10 (oi := ?_) ?_ ?_ (fun K hK => ?_) ?_; rotate_left; (simp only [gA, gB, gC]; exact rfl); rfl
            · go_wp2_with (fail)
              have hb : Below W28.heap.size W28 (W28.alloc (.cells #[.int .i64 s, .int .i64 1, .int .i64 (-1), .int .i64 9] 3)) := (Below.refl _ _).alloc (Nat.le_refl _) _
              have cB : ∀ i, i < 4 → ∃ z, (W28.alloc (.cells #[.int .i64 s, .int .i64 1, .int .i64 (-1), .int .i64 9] 3)).cell? ⟨W28.heap.size, i, none⟩ = some (.int .i64 z) ∧ (fun _ => True) z := cells_lit W28 [s, 1, -1, 9] 3 (fun _ => True) (by simp)
              have lB : W28.heap.size < (W28.alloc (.cells #[.int .i64 s, .int .i64 1, .int .i64 (-1), .int .i64 9] 3)).heap.size := by simp
              have bB : W28.heap.size ≠ B := by have := HU.out.s.lt; omega
              replace HU := Lib.hid (HU.out.mutB (Mut.alloc (Mut.refl (· = B) W28) (o := (.cells #[.int .i64 s, .int .i64 1, .int .i64 (-1), .int .i64 9] 3))) (HU.out.s.alloc _))
              replace cA : ∀ i, i < 4 → ∃ z, (W28.alloc (.cells #[.int .i64 s, .int .i64 1, .int .i64 (-1), .int .i64 9] 3)).cell? ⟨qA, i, none⟩ = some (.int .i64 z) ∧ sm z := fun i hi => by obtain ⟨z, h1, h2⟩ := cA i hi; exact ⟨z, cellk hb lA h1, h2⟩
              replace lA := Nat.lt_of_lt_of_le lA hb.size
              refine hK.out _ _ True.intro (fun hHeldN => ?_)
              clear hK K hHeld
              have hHeld := hHeldN
              clear hHeldN
              try simp only [Act.put, pB, pC, pD]
              clear hb
              generalize (W28.alloc (.cells #[.int .i64 s, .int .i64 1, .int .i64 (-1), .int .i64 9] 3)) = W32 at *
              obtain ⟨qB, hg⟩ : ∃ g, g = W28.heap.size := ⟨_, rfl⟩
              rw [← hg] at cB lB bB ⊢
              clear hg
              refine wpAnyH_ready (rs := [6]) (by kernel_rfl) (by simp) ?_
              refine coH 6 (oi := ?_) ?_ ?_ (fun K hK => ?_) ?_; rotate_left; (simp only [gA, gB, gC]; exact rfl); rfl
              · go_wp2_with (fail)
                refine (pick_any B _ qA 4 4 sm W32.drew (HU.out.s.kept (S := fun _ => False) (Mut.refl _ _).drew (fun _ _ h => h)) (by omega) (by omega) (by omega) bA lA cA).mono ?_
                rintro e wN ⟨⟨x, rfl, hx⟩, hst, hmt⟩
                replace hmt : Mut (· = B) W32 wN := ⟨hmt.os, hmt.tape, hmt.output, hmt.size, hmt.block⟩
                replace HU := Lib.hid (HU.out.mutB hmt hst)
                replace cB : ∀ i, i < 4 → ∃ z, wN.cell? ⟨qB, i, none⟩ = some (.int .i64 z) ∧ (fun _ => True) z := fun i hi => by obtain ⟨z, h1, h2⟩ := cB i hi; exact ⟨z, (hmt.cell (p := ⟨qB, i, none⟩) lB bB).trans h1, h2⟩
                replace lB := Nat.lt_of_lt_of_le lB hmt.size
                refine hK.out _ _ True.intro (fun hHeldN => ?_)
                clear hK K hHeld
                have hHeld := hHeldN
                clear hHeldN
                try simp only [Act.put, pB, pC, pD]
                clear hst hmt cA lA bA
                refine tkH (by assumption) 14 (oi := ?_) (v := ?_) ?_ ?_ ?_ ?_ ?_ ?_ ?_ ?_; rotate_left 2; (simp only [gA, gB, gC]; exact rfl); kernel_rfl; kernel_rfl; kernel_rfl; exact fun _ _ _ h => h; rfl; (intro w' hSw; (try dsimp only at hSw); go_simp; with_reducible rfl); simp only [Act.put, pB, pC, pD]
                refine wpAnyH_ready (rs := [11]) (by kernel_rfl) (by simp) ?_
                refine coH 11 (oi := ?_) ?_ ?_ (fun K hK => ?_) ?_; rotate_left; (simp only [gA, gB, gC]; exact rfl); rfl
                · go_wp2_with (fail)
                  refine (pick_any B _ qB 4 4 (fun _ => True) wN HU.out.s (by omega) (by omega) (by omega) bB lB cB).mono ?_
                  rintro e wN ⟨⟨y, rfl, hy⟩, hst, hmt⟩
                  replace HU := Lib.hid (HU.out.mutB hmt hst)
                  refine hK.out _ _ True.intro (fun hHeldN => ?_)
                  clear hK K hHeld
                  have hHeld := hHeldN
                  clear hHeldN
                  try simp only [Act.put, pB, pC, pD]
                  clear hst hmt cB lB bB
                  refine onH 13 (oi := ?_) (by kernel_rfl) ?_ ?_ (fun K hK => ?_); rotate_left; (simp only [gA, gB, gC]; exact rfl); rfl
                  go_wp2_with (fail)
                  refine (flip_any B _ 2 wN HU.out.s (by omega) (by omega) (by omega)).mono ?_
                  rintro e wM ⟨⟨bk', rfl⟩, hst, hmt⟩
                  replace HU := Lib.hid (HU.out.mutB hmt hst)
                  refine hK.out _ _ True.intro (fun hHeldN => ?_)
                  clear hK K hHeld
                  have hHeld := hHeldN
                  clear hHeldN
                  try simp only [Act.put, pB, pC, pD]
                  clear hst hmt
                  have ff0 := frozen_of HU.out.h (i := 0)
                  have cc0 := cell_of HU.out.h (i := 0) rfl
                  refine onH 15 (oi := ?_) (by kernel_rfl) ?_ ?_ (fun K hK => ?_); rotate_left; (simp only [gA, gB, gC]; exact rfl); rfl
                  go_wp2_with (fail)
                  replace HU := Lib.hid (HU.out.put 0 (.int .i64 x) (set3_0 HU.out.h))
                  refine hK.out _ _ True.intro (fun hHeldN => ?_)
                  clear hK K hHeld
                  have hHeld := hHeldN
                  clear hHeldN
                  try simp only [Act.put, pB, pC, pD]
                  clear ff0 cc0
                  refine tkH (by assumption) 16 (oi := ?_) (v := ?_) ?_ ?_ ?_ ?_ ?_ ?_ ?_ ?_; rotate_left 2; (simp only [gA, gB, gC]; exact rfl); kernel_rfl; kernel_rfl; kernel_rfl; exact fun _ _ _ h => h; rfl; (intro w' hSw; (try dsimp only at hSw); go_simp; with_reducible rfl); simp only [Act.put, pB, pC, pD]
                  have ff0 := frozen_of HU.out.h (i := 1)
                  have cc0 := cell_of HU.out.h (i := 1) rfl
                  refine onH 17 (oi := ?_) (by kernel_rfl) ?_ ?_ (fun K hK => ?_); rotate_left; (simp only [gA, gB, gC]; exact rfl); rfl
                  go_wp2_with (fail)
                  replace HU := Lib.hid (HU.out.put 1 (.int .i64 y) (set3_1 HU.out.h))
                  refine hK.out _ _ True.intro (fun hHeldN => ?_)
                  clear hK K hHeld
                  have hHeld := hHeldN
                  clear hHeldN
                  try simp only [Act.put, pB, pC, pD]
                  clear ff0 cc0
                  refine tkH (by assumption) 18 (oi := ?_) (v := ?_) ?_ ?_ ?_ ?_ ?_ ?_ ?_ ?_; rotate_left 2; (simp only [gA, gB, gC]; exact rfl); kernel_rfl; kernel_rfl; kernel_rfl; exact fun _ _ _ h => h; rfl; (intro w' hSw; (try dsimp only at hSw); go_simp; with_reducible rfl); simp only [Act.put, pB, pC, pD]
                  have ff0 := frozen_of HU.out.h (i := 2)
                  have cc0 := cell_of HU.out.h (i := 2) rfl
                  refine onH 19 (oi := ?_) (by kernel_rfl) ?_ ?_ (fun K hK => ?_); rotate_left; (simp only [gA, gB, gC]; exact rfl); rfl
                  go_wp2_with (fail)
                  replace HU := Lib.hid (HU.out.put 2 (.bool bk') (set3_2 HU.out.h))
                  refine hK.out _ _ True.intro (fun hHeldN => ?_)
                  clear hK K hHeld hHeldN ff0 cc0
                  try simp only [Act.put, pB, pC, pD]
                  refine wpAnyH_done (by kernel_rfl) ?_ _
                  generalize (((wM.setCell ⟨g, 0, none⟩ (.int .i64 x)).setCell ⟨g, 1, none⟩ (.int .i64 y)).setCell ⟨g, 2, none⟩ (.bool bk')) = wF at *
                  have hV0 := cell_of HU.out.h (i := 0) rfl
                  have hV1 := cell_of HU.out.h (i := 1) rfl
                  have hV2 := cell_of HU.out.h (i := 2) rfl
                  have hr0 := cell_of HU.out.r (i := 0) rfl
                  have hz0 := frozen_of HU.out.r (i := 0)
                  have hr1 := cell_of HU.out.r (i := 1) rfl
                  have hz1 := frozen_of HU.out.r (i := 1)
                  have hr2 := cell_of HU.out.r (i := 2) rfl
                  have hz2 := frozen_of HU.out.r (i := 2)
                  go_wp2_with (fail)
                  obtain ⟨⟨e0, e1, e2⟩, hsF, hmF⟩ := HU.out.fin (K := k + 6) (by omega) (by omega) rfl
                  exact bodyPost_ret (v := .agg #[.int .i64 x, .int .i64 y, .bool bk']) (by simp [results, Try.results7, go_sem, e0, e1, e2]) rfl ⟨⟨x, y, bk'⟩, rfl, hx, hsF, hmF⟩
                exact AllReadyH.nil
              exact AllReadyH.nil
            exact AllReadyH.nil
          refine coH 10 (oi := ?_) ?_ ?_ (fun K hK => ?_) ?_; rotate_left; (simp only [gA, gB, gC]; exact rfl); rfl
          · go_wp2_with (fail)
            have hb : Below wY.heap.size wY (wY.alloc (.cells #[.int .i64 s, .int .i64 1, .int .i64 (-1), .int .i64 9] 3)) := (Below.refl _ _).alloc (Nat.le_refl _) _
            have cB : ∀ i, i < 4 → ∃ z, (wY.alloc (.cells #[.int .i64 s, .int .i64 1, .int .i64 (-1), .int .i64 9] 3)).cell? ⟨wY.heap.size, i, none⟩ = some (.int .i64 z) ∧ (fun _ => True) z := cells_lit wY [s, 1, -1, 9] 3 (fun _ => True) (by simp)
            have lB : wY.heap.size < (wY.alloc (.cells #[.int .i64 s, .int .i64 1, .int .i64 (-1), .int .i64 9] 3)).heap.size := by simp
            have bB : wY.heap.size ≠ B := by have := HU.out.s.lt; omega
            replace HU := Lib.hid (HU.out.mutB (Mut.alloc (Mut.refl (· = B) wY) (o := (.cells #[.int .i64 s, .int .i64 1, .int .i64 (-1), .int .i64 9] 3))) (HU.out.s.alloc _))
            refine hK.out _ _ True.intro (fun hHeldN => ?_)
            clear hK K hHeld
            have hHeld := hHeldN
            clear hHeldN
            try simp only [Act.put, pB, pC, pD]
            clear hb
            generalize (wY.alloc (.cells #[.int .i64 s, .int .i64 1, .int .i64 (-1), .int .i64 9] 3)) = W35 at *
            obtain ⟨qB, hg⟩ : ∃ g, g = wY.heap.size := ⟨_, rfl⟩
            rw [← hg] at cB lB bB ⊢
            clear hg
            refine wpAnyH_ready (rs := [5]) (by kernel_rfl) (by simp) ?_
            refine coH 5 (oi := ?_) ?_ ?_ (fun K hK => ?_) ?_; rotate_left; (simp only [gA, gB, gC]; exact rfl); rfl
            · go_wp2_with (fail)
              have hb : Below W35.heap.size W35 (W35.alloc (.cells #[.int .i64 p, .int .i64 (-1), .int .i64 (m : Int), .int .i64 0] 3)) := (Below.refl _ _).alloc (Nat.le_refl _) _
              have cA : ∀ i, i < 4 → ∃ z, (W35.alloc (.cells #[.int .i64 p, .int .i64 (-1), .int .i64 (m : Int), .int .i64 0] 3)).cell? ⟨W35.heap.size, i, none⟩ = some (.int .i64 z) ∧ sm z := cells_lit W35 [p, -1, (m : Int), 0] 3 sm (by intro z hz; simp only [List.mem_cons, List.not_mem_nil, or_false] at hz; unfold sm at *; omega)
              have lA : W35.heap.size < (W35.alloc (.cells #[.int .i64 p, .int .i64 (-1), .int .i64 (m : Int), .int .i64 0] 3)).heap.size := by simp
              have bA : W35.heap.size ≠ B := by have := HU.out.s.lt; omega
              replace HU := Lib.hid (HU.out.mutB (Mut.alloc (Mut.refl (· = B) W35) (o := (.cells #[.int .i64 p, .int .i64 (-1), .int .i64 (m : Int), .int .i64 0] 3))) (HU.out.s.alloc _))
              replace cB : ∀ i, i < 4 → ∃ z, (W35.alloc (.cells #[.int .i64 p, .int .i64 (-1), .int .i64 (m : Int), .int .i64 0] 3)).cell? ⟨qB, i, none⟩ = some (.int .i64 z) ∧ (fun _ => True) z := fun i hi => by obtain ⟨z, h1, h2⟩ := cB i hi; exact ⟨z, cellk hb lB h1, h2⟩
              replace lB := Nat.lt_of_lt_of_le lB hb.size
              refine hK.out _ _ True.intro (fun hHeldN => ?_)
              clear hK K hHeld
              have hHeld := hHeldN
              clear hHeldN
              try simp only [Act.put, pB, pC, pD]
              clear hb
              generalize (W35.alloc (.cells #[.int .i64 p, .int .i64 (-1), .int .i64 (m : Int), .int .i64 0] 3)) = W36 at *
              obtain ⟨qA, hg⟩ : ∃ g, g = W35.heap.size := ⟨_, rfl⟩
              rw [← hg] at cA lA bA ⊢
              clear hg
              refine wpAnyH_ready (rs := [6]) (by kernel_rfl) (by simp) ?_
              refine coH 6 (oi := ?_) ?_ ?_ (fun K hK => ?_) ?_; rotate_left; (simp only [gA, gB, gC]; exact rfl); rfl
              · go_wp2_with (fail)
                refine (pick_any B _ qA 4 4 sm W36.drew (HU.out.s.kept (S := fun _ => False) (Mut.refl _ _).drew (fun _ _ h => h)) (by omega) (by omega) (by omega) bA lA cA).mono ?_
                rintro e wN ⟨⟨x, rfl, hx⟩, hst, hmt⟩
                replace hmt : Mut (· = B) W36 wN := ⟨hmt.os, hmt.tape, hmt.output, hmt.size, hmt.block⟩
                replace HU := Lib.hid (HU.out.mutB hmt hst)
                replace cB : ∀ i, i < 4 → ∃ z, wN.cell? ⟨qB, i, none⟩ = some (.int .i64 z) ∧ (fun _ => True) z := fun i hi => by obtain ⟨z, h1, h2⟩ := cB i hi; exact ⟨z, (hmt.cell (p := ⟨qB, i, none⟩) lB bB).trans h1, h2⟩
                replace lB := Nat.lt_of_lt_of_le lB hmt.size
                refine hK.out _ _ True.intro (fun hHeldN => ?_)
                clear hK K hHeld
                have hHeld := hHeldN
                clear hHeldN
                try simp only [Act.put, pB, pC, pD]
                clear hst hmt cA lA bA
                refine tkH (by assumption) 14 (oi := ?_) (v := ?_) ?_ ?_ ?_ ?_ ?_ ?_ ?_ ?_; rotate_left 2; (simp only [gA, gB, gC]; exact rfl); kernel_rfl; kernel_rfl; kernel_rfl; exact fun _ _ _ h => h; rfl; (intro w' hSw; (try dsimp only at hSw); go_simp; with_reducible rfl); simp only [Act.put, pB, pC, pD]
                refine wpAnyH_ready (rs := [11]) (by kernel_rfl) (by simp) ?_
                refine coH 11 (oi := ?_) ?_ ?_ (fun K hK => ?_) ?_; rotate_left; (simp only [gA, gB, gC]; exact rfl); rfl
                · go_wp2_with (fail)
                  refine (pick_any B _ qB 4 4 (fun _ => True) wN HU.out.s (by omega) (by omega) (by omega) bB lB cB).mono ?_
                  rintro e wN ⟨⟨y, rfl, hy⟩, hst, hmt⟩
                  replace HU := Lib.hid (HU.out.mutB hmt hst)
                  refine hK.out _ _ True.intro (fun hHeldN => ?_)
                  clear hK K hHeld
                  have hHeld := hHeldN
                  clear hHeldN
                  try simp only [Act.put, pB, pC, pD]
                  clear hst hmt cB lB bB
                  refine onH 13 (oi := ?_) (by kernel_rfl) ?_ ?_ (fun K hK => ?_); rotate_left; (simp only [gA, gB, gC]; exact rfl); rfl
                  go_wp2_with (fail)
                  refine (flip_any B _ 2 wN HU.out.s (by omega) (by omega) (by omega)).mono ?_
                  rintro e wM ⟨⟨bk', rfl⟩, hst, hmt⟩
                  replace HU := Lib.hid (HU.out.mutB hmt hst)
                  refine hK.out _ _ True.intro (fun hHeldN => ?_)
                  clear hK K hHeld
                  have hHeld := hHeldN
                  clear hHeldN
                  try simp only [Act.put, pB, pC, pD]
                  clear hst hmt
                  have ff0 := frozen_of HU.out.h (i := 0)
                  have cc0 := cell_of HU.out.h (i := 0) rfl
                  refine onH 15 (oi := ?_) (by kernel_rfl) ?_ ?_ (fun K hK => ?_); rotate_left; (simp only [gA, gB, gC]; exact rfl); rfl
                  go_wp2_with (fail)
                  replace HU := Lib.hid (HU.out.put 0 (.int .i64 x) (set3_0 HU.out.h))
                  refine hK.out _ _ True.intro (fun hHeldN => ?_)
                  clear hK K hHeld
                  have hHeld := hHeldN
                  clear hHeldN
                  try simp only [Act.put, pB, pC, pD]
                  clear ff0 cc0
                  refine tkH (by assumption) 16 (oi := ?_) (v := ?_) ?_ ?_ ?_ ?_ ?_ ?_ ?_ ?_; rotate_left 2; (simp only [gA, gB, gC]; exact rfl); kernel_rfl; kernel_rfl; kernel_rfl; exact fun _ _ _ h => h; rfl; (intro w' hSw; (try dsimp only at hSw); go_simp; with_reducible rfl); simp only [Act.put, pB, pC, pD]
                  have ff0 := frozen_of HU.out.h (i := 1)
                  have cc0 := cell_of HU.out.h (i := 1) rfl
                  refine onH 17 (oi := ?_) (by kernel_rfl) ?_ ?_ (fun K hK => ?_); rotate_left; (simp only [gA, gB, gC]; exact rfl); rfl
                  go_wp2_with (fail)
                  replace HU := Lib.hid (HU.out.put 1 (.int .i64 y) (set3_1 HU.out.h))
                  refine hK.out _ _ True.intro (fun hHeldN => ?_)
                  clear hK K hHeld
                  have hHeld := hHeldN
                  clear hHeldN
                  try simp only [Act.put, pB, pC, pD]
                  clear ff0 cc0
                  refine tkH (by assumption) 18 (oi := ?_) (v := ?_) ?_ ?_ ?_ ?_ ?_ ?_ ?_ ?_; rotate_left 2; (simp only [gA, gB, gC]; exact rfl); kernel_rfl; kernel_rfl; kernel_rfl; exact fun _ _ _ h => h; rfl; (intro w' hSw; (try dsimp only at hSw); go_simp; with_reducible rfl); simp only [Act.put, pB, pC, pD]
                  have ff0 := frozen_of HU.out.h (i := 2)
                  have cc0 := cell_of HU.out.h (i := 2) rfl
                  refine onH 19 (oi := ?_) (by kernel_rfl) ?_ ?_ (fun K hK => ?_); rotate_left; (simp only [gA, gB, gC]; exact rfl); rfl
                  go_wp2_with (fail)
                  replace HU := Lib.hid (HU.out.put 2 (.bool bk') (set3_2 HU.out.h))
                  refine hK.out _ _ True.intro (fun hHeldN => ?_)
                  clear hK K hHeld hHeldN ff0 cc0
                  try simp only [Act.put, pB, pC, pD]
                  refine wpAnyH_done (by kernel_rfl) ?_ _
                  generalize (((wM.setCell ⟨g, 0, none⟩ (.int .i64 x)).setCell ⟨g, 1, none⟩ (.int .i64 y)).setCell ⟨g, 2, none⟩ (.bool bk')) = wF at *
                  have hV0 := cell_of HU.out.h (i := 0) rfl
                  have hV1 := cell_of HU.out.h (i := 1) rfl
                  have hV2 := cell_of HU.out.h (i := 2) rfl
                  have hr0 := cell_of HU.out.r (i := 0) rfl
                  have hz0 := frozen_of HU.out.r (i := 0)
                  have hr1 := cell_of HU.out.r (i := 1) rfl
                  have hz1 := frozen_of HU.out.r (i := 1)
                  have hr2 := cell_of HU.out.r (i := 2) rfl
                  have hz2 := frozen_of HU.out.r (i := 2)
                  go_wp2_with (fail)
                  obtain ⟨⟨e0, e1, e2⟩, hsF, hmF⟩ := HU.out.fin (K := k + 6) (by omega) (by omega) rfl
                  exact bodyPost_ret (v := .agg #[.int .i64 x, .int .i64 y, .bool bk']) (by simp [results, Try.results7, go_sem, e0, e1, e2]) rfl ⟨⟨x, y, bk'⟩, rfl, hx, hsF, hmF⟩
                exact AllReadyH.nil
              exact AllReadyH.nil
            exact AllReadyH.nil
          exact AllReadyH.nil
        refine coH 10 (oi := ?_) ?_ ?_ (fun K hK => ?_) ?_; rotate_left; (simp only [gA, gB, gC]; exact rfl); rfl
        · go_wp2_with (fail)
          have hb : Below wY.heap.size wY (wY.alloc (.cells #[.int .i64 s, .int .i64 1, .int .i64 (-1), .int .i64 9] 3)) := (Below.refl _ _).alloc (Nat.le_refl _) _
          have cB : ∀ i, i < 4 → ∃ z, (wY.alloc (.cells #[.int .i64 s, .int .i64 1, .int .i64 (-1), .int .i64 9] 3)).cell? ⟨wY.heap.size, i, none⟩ = some (.int .i64 z) ∧ (fun _ => True) z := cells_lit wY [s, 1, -1, 9] 3 (fun _ => True) (by simp)
          have lB : wY.heap.size < (wY.alloc (.cells #[.int .i64 s, .int .i64 1, .int .i64 (-1), .int .i64 9] 3)).heap.size := by simp
          have bB : wY.heap.size ≠ B := by have := HU.out.s.lt; omega
          replace HU := Lib.hid (HU.out.mutB (Mut.alloc (Mut.refl (· = B) wY) (o := (.cells #[.int .i64 s, .int .i64 1, .int .i64 (-1), .int .i64 9] 3))) (HU.out.s.alloc _))
          refine hK.out _ _ True.intro (fun hHeldN => ?_)
          clear hK K hHeld
          have hHeld := hHeldN
          clear hHeldN
          try simp only [Act.put, pB, pC, pD]
          clear hb
          generalize (wY.alloc (.cells #[.int .i64 s, .int .i64 1, .int .i64 (-1), .int .i64 9] 3)) = W39 at *
          obtain ⟨qB, hg⟩ : ∃ g, g = wY.heap.size := ⟨_, rfl⟩
          rw [← hg] at cB lB bB ⊢
          clear hg
          refine wpAnyH_ready (rs := [2]) (by kernel_rfl) (by simp) ?_
          refine coH 2 (oi := ?_) ?_ ?_ (fun K hK => ?_) ?_; rotate_left; (simp only [gA, gB, gC]; exact rfl); rfl
          · have hc0 := cell_of HU.out.h (i := 0) rfl
            go_wp2_with (fail)
            refine hK.out _ _ True.intro (fun hHeldN => ?_)
            clear hK K hHeld
            have hHeld := hHeldN
            clear hHeldN
            try simp only [Act.put, pB, pC, pD]
            clear hc0
            refine wpAnyH_ready (rs := [5]) (by kernel_rfl) (by simp) ?_
            refine coH 5 (oi := ?_) ?_ ?_ (fun K hK => ?_) ?_; rotate_left; (simp only [gA, gB, gC]; exact rfl); rfl
            · go_wp2_with (fail)
              have hb : Below W39.heap.size W39 (W39.alloc (.cells #[.int .i64 p, .int .i64 (-1), .int .i64 (m : Int), .int .i64 0] 3)) := (Below.refl _ _).alloc (Nat.le_refl _) _
              have cA : ∀ i, i < 4 → ∃ z, (W39.alloc (.cells #[.int .i64 p, .int .i64 (-1), .int .i64 (m : Int), .int .i64 0] 3)).cell? ⟨W39.heap.size, i, none⟩ = some (.int .i64 z) ∧ sm z := cells_lit W39 [p, -1, (m : Int), 0] 3 sm (by intro z hz; simp only [List.mem_cons, List.not_mem_nil, or_false] at hz; unfold sm at *; omega)
              have lA : W39.heap.size < (W39.alloc (.cells #[.int .i64 p, .int .i64 (-1), .int .i64 (m : Int), .int .i64 0] 3)).heap.size := by simp
              have bA : W39.heap.size ≠ B := by have := HU.out.s.lt; omega
              replace HU := Lib.hid (HU.out.mutB (Mut.alloc (Mut.refl (· = B) W39) (o := (.cells #[.int .i64 p, .int .i64 (-1), .int .i64 (m : Int), .int .i64 0] 3))) (HU.out.s.alloc _))
              replace cB : ∀ i, i < 4 → ∃ z, (W39.alloc (.cells #[.int .i64 p, .int .i64 (-1), .int .i64 (m : Int), .int .i64 0] 3)).cell? ⟨qB, i, none⟩ = some (.int .i64 z) ∧ (fun _ => True) z := fun i hi => by obtain ⟨z, h1, h2⟩ := cB i hi; exact ⟨z, cellk hb lB h1, h2⟩
              replace lB := Nat.lt_of_lt_of_le lB hb.size
              refine hK.out _ _ True.intro (fun hHeldN => ?_)
              clear hK K hHeld
              have hHeld := hHeldN
              clear hHeldN
              try simp only [Act.put, pB, pC, pD]
              clear hb
              generalize (W39.alloc (.cells #[.int .i64 p, .int .i64 (-1), .int .i64 (m : Int), .int .i64 0] 3)) = W41 at *
              obtain ⟨qA, hg⟩ : ∃ g, g = W39.heap.size := ⟨_, rfl⟩
              rw [← hg] at cA lA bA ⊢
              clear hg
              refine wpAnyH_ready (rs := [6]) (by kernel_rfl) (by simp) ?_
              refine coH 6 (oi := ?_) ?_ ?_ (fun K hK => ?_) ?_; rotate_left; (simp only [gA, gB, gC]; exact rfl); rfl
              · go_wp2_with (fail)
                refine (pick_any B _ qA 4 4 sm W41.drew (HU.out.s.kept (S := fun _ => False) (Mut.refl _ _).drew (fun _ _ h => h)) (by omega) (by omega) (by omega) bA lA cA).mono ?_
                rintro e wN ⟨⟨x, rfl, hx⟩, hst, hmt⟩
                replace hmt : Mut (· = B) W41 wN := ⟨hmt.os, hmt.tape, hmt.output, hmt.size, hmt.block⟩
                replace HU := Lib.hid (HU.out.mutB hmt hst)
                replace cB : ∀ i, i < 4 → ∃ z, wN.cell? ⟨qB, i, none⟩ = some (.int .i64 z) ∧ (fun _ => True) z := fun i hi => by obtain ⟨z, h1, h2⟩ := cB i hi; exact ⟨z, (hmt.cell (p := ⟨qB, i, none⟩) lB bB).trans h1, h2⟩
                replace lB := Nat.lt_of_lt_of_le lB hmt.size
                refine hK.out _ _ True.intro (fun hHeldN => ?_)
                clear hK K hHeld
                have hHeld := hHeldN
                clear hHeldN
                try simp only [Act.put, pB, pC, pD]
                clear hst hmt cA lA bA
                refine tkH (by assumption) 14 (oi := ?_) (v := ?_) ?_ ?_ ?_ ?_ ?_ ?_ ?_ ?_; rotate_left 2; (simp only [gA, gB, gC]; exact rfl); kernel_rfl; kernel_rfl; kernel_rfl; exact fun _ _ _ h => h; rfl; (intro w' hSw; (try dsimp only at hSw); go_simp; with_reducible rfl); simp only [Act.put, pB, pC, pD]
                refine wpAnyH_ready (rs := [11]) (by kernel_rfl) (by simp) ?_
                refine coH 11 (oi := ?_) ?_ ?_ (fun K hK => ?_) ?_; rotate_left; (simp only [gA, gB, gC]; exact rfl); rfl
                · go_wp2_with (fail)
                  refine (pick_any B _ qB 4 4 (fun _ => True) wN HU.out.s (by omega) (by omega) (by omega) bB lB cB).mono ?_
                  rintro e wN ⟨⟨y, rfl, hy⟩, hst, hmt⟩
                  replace HU := Lib.hid (HU.out.mutB hmt hst)
                  refine hK.out _ _ True.intro (fun hHeldN => ?_)
                  clear hK K hHeld
                  have hHeld := hHeldN
                  clear hHeldN
                  try simp only [Act.put, pB, pC, pD]
                  clear hst hmt cB lB bB
                  refine onH 13 (oi := ?_) (by kernel_rfl) ?_ ?_ (fun K hK => ?_); rotate_left; (simp only [gA, gB, gC]; exact rfl); rfl
                  go_wp2_with (fail)
                  refine (flip_any B _ 2 wN HU.out.s (by omega) (by omega) (by omega)).mono ?_
                  rintro e wM ⟨⟨bk', rfl⟩, hst, hmt⟩
                  replace HU := Lib.hid (HU.out.mutB hmt hst)
                  refine hK.out _ _ True.intro (fun hHeldN => ?_)
                  clear hK K hHeld
                  have hHeld := hHeldN
                  clear hHeldN
                  try simp only [Act.put, pB, pC, pD]
                  clear hst hmt
                  have ff0 := frozen_of HU.out.h (i := 0)
                  have cc0 := cell_of HU.out.h (i := 0) rfl
                  refine onH 15 (oi := ?_) (by kernel_rfl) ?_ ?_ (fun K hK => ?_); rotate_left; (simp only [gA, gB, gC]; exact rfl); rfl
                  go_wp2_with (fail)
                  replace HU := Lib.hid (HU.out.put 0 (.int .i64 x) (set3_0 HU.out.h))
                  refine hK.out _ _ True.intro (fun hHeldN => ?_)
                  clear hK K hHeld
                  have hHeld := hHeldN
                  clear hHeldN
                  try simp only [Act.put, pB, pC, pD]
                  clear ff0 cc0
                  refine tkH (by assumption) 16 (oi := ?_) (v := ?_) ?_ ?_ ?_ ?_ ?_ ?_ ?_ ?_; rotate_left 2; (simp only [gA, gB, gC]; exact rfl); kernel_rfl; kernel_rfl; kernel_rfl; exact fun _ _ _ h => h; rfl; (intro w' hSw; (try dsimp only at hSw); go_simp; with_reducible rfl); simp only [Act.put, pB, pC, pD]
                  have ff0 := frozen_of HU.out.h (i := 1)
                  have cc0 := cell_of HU.out.h (i := 1) rfl
                  refine onH 17 (oi := ?_) (by kernel_rfl) ?_ ?_ (fun K hK => ?_); rotate_left; (simp only [gA, gB, gC]; exact rfl); rfl
                  go_wp2_with (fail)
                  replace HU := Lib.hid (HU.out.put 1 (.int .i64 y) (set3_1 HU.out.h))
                  refine hK.out _ _ True.intro (fun hHeldN => ?_)
                  clear hK K hHeld
                  have hHeld := hHeldN
                  clear hHeldN
                  try simp only [Act.put, pB, pC, pD]
                  clear ff0 cc0
                  refine tkH (by assumption) 18 (oi := ?_) (v := ?_) ?_ ?_ ?_ ?_ ?_ ?_ ?_ ?_; rotate_left 2; (simp only [gA, gB, gC]; exact rfl); kernel_rfl; kernel_rfl; kernel_rfl; exact fun _ _ _ h => h; rfl; (intro w' hSw; (try dsimp only at hSw); go_simp; with_reducible rfl); simp only [Act.put, pB, pC, pD]
                  have ff0 := frozen_of HU.out.h (i := 2)
                  have cc0 := cell_of HU.out.h (i := 2) rfl
                  refine onH 19 (oi := ?_) (by kernel_rfl) ?_ ?_ (fun K hK => ?_); rotate_left; (simp only [gA, gB, gC]; exact rfl); rfl
                  go_wp2_with (fail)
                  replace HU := Lib.hid (HU.out.put 2 (.bool bk') (set3_2 HU.out.h))
                  refine hK.out _ _ True.intro (fun hHeldN => ?_)
                  clear hK K hHeld hHeldN ff0 cc0
                  try simp only [Act.put, pB, pC, pD]
                  refine wpAnyH_done (by kernel_rfl) ?_ _
                  generalize (((wM.setCell ⟨g, 0, none⟩ (.int .i64 x)).setCell ⟨g, 1, none⟩ (.int .i64 y)).setCell ⟨g, 2, none⟩ (.bool bk')) = wF at *
                  have hV0 := cell_of HU.out.h (i := 0) rfl
                  have hV1 := cell_of HU.out.h (i := 1) rfl
                  have hV2 := cell_of HU.out.h (i := 2) rfl
                  have hr0 := cell_of HU.out.r (i := 0) rfl
                  have hz0 := frozen_of HU.out.r (i := 0)
                  have hr1 := cell_of HU.out.r (i := 1) rfl
                  have hz1 := frozen_of HU.out.r (i := 1)
                  have hr2 := cell_of HU.out.r (i := 2) rfl
                  have hz2 := frozen_of HU.out.r (i := 2)
                  go_wp2_with (fail)
                  obtain ⟨⟨e0, e1, e2⟩, hsF, hmF⟩ := HU.out.fin (K := k + 6) (by omega) (by omega) rfl
                  exact bodyPost_ret (v := .agg #[.int .i64 x, .int .i64 y, .bool bk']) (by simp [results, Try.results7, go_sem, e0, e1, e2]) rfl ⟨⟨x, y, bk'⟩, rfl, hx, hsF, hmF⟩
                exact AllReadyH.nil
              exact AllReadyH.nil
            exact AllReadyH.nil
          exact AllReadyH.nil
        exact AllReadyH.nil
      exact AllReadyH.nil
end Go.Proofs.Ytapihgmokgkaaaa

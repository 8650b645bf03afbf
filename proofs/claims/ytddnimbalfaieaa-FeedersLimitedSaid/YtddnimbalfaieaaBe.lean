/- Drawn beads and areas; the law's own last test. -/
import Derived.Test.YtddnimbalfaieaaBd
set_option linter.unusedSimpArgs false
set_option linter.unusedVariables false
namespace Go.Proofs.Ytddnimbalfaieaa
open Go.RowKit
theorem AllI.three (x y z : Int) : AllI [.int .i64 x, .int .i64 y, .int .i64 z] := fun u hu => by
  simp only [List.mem_cons, List.not_mem_nil, or_false] at hu
  rcases hu with rfl | rfl | rfl
  · exact ⟨x, rfl⟩
  · exact ⟨y, rfl⟩
  · exact ⟨z, rfl⟩
theorem beads_of_all {w : World} {base m c : Nat} {a : Option Addr} {xs : List Value} (h : w.ownsRow base 61 3 (.slice a m c) m xs) (hx : AllI xs) : ∃ L W H, BeadsR w a m L W H := by
  refine ⟨fun i => intOf (xs.getD (i * 3) undef), fun i => intOf (xs.getD (i * 3 + 1) undef), fun i => intOf (xs.getD (i * 3 + 2) undef), ?_⟩
  by_cases hm : m = 0
  · exact .inl hm
  · obtain ⟨g, cap', hv, _, hlt⟩ := h.form (by omega)
    cases hv
    refine .inr ⟨g, 0, rfl, hlt, fun i hi => ⟨?_, ?_, ?_⟩⟩
    · rw [Nat.zero_add, h.cellAt (i * 3) (by omega)]
      exact hx.at (by rw [h.1]; omega)
    · rw [Nat.zero_add, h.cellAt (i * 3 + 1) (by omega)]
      exact hx.at (by rw [h.1]; omega)
    · rw [Nat.zero_add, h.cellAt (i * 3 + 2) (by omega)]
      exact hx.at (by rw [h.1]; omega)
/-- A drawn list of beads. -/
def BeadsE (w : World) (B k most : Nat) (e : Ending) (w' : World) : Prop := ∃ a n c L W H, e = .returned (.slice a n c) ∧ n ≤ most ∧ n ≤ c ∧ BeadsR w' a n L W H ∧ (∀ x, a = some x → B < x.block) ∧ Strm w' B k ∧ Mut (· = B) w w'
set_option maxRecDepth 100000 in
set_option maxHeartbeats 8000000 in
theorem beadList_any (B k : Nat) (w : World) (hs : Strm w B k) (hk : k + 100 ≤ 1000000) :
    Calls Try.prog 5 #[.pointer (some ⟨B, 0, none⟩)] w (BeadsE w B (k + 40) 6) := by
  obtain ⟨i0, hi0, hz0, hz1, hz2⟩ := info_parts info_rep
  have hl := hs.lt
  go_enter Try.func5, Try.ntmps5
  go_wp2_with (fail)
  refine (range_any B k 0 6 w hs (by omega) (by omega) (by omega) (by omega)).mono ?_
  rintro e w1 ⟨⟨r, rfl, hr0, hr1⟩, hst1, hm1'⟩
  obtain ⟨cn, rfl⟩ := Int.eq_ofNat_of_zero_le (show 0 ≤ r by omega)
  have hc8 : cn ≤ 6 := by omega
  have HD0 : Hid (DI w w1 B (k + 1) 61 3 none 0 0 []) := Lib.hid ⟨World.ownsRow_nil _ _ _ _, AllI.nil, hst1, hm1', hl⟩
  clear hst1 hm1' hr0 hr1 hs
  go_wp2_with (fail)
  go_loopw [3, 7] (fun v i wr => ∃ (t : Nat) (a : Option Addr) (c : Nat) (xs : List Value), v = .slice a t c ∧ i = .int .i64 t ∧ t ≤ cn ∧ DI w wr B (k + 1 + 3 * t) 61 3 a t c xs) (fun _ i _ => cn - (intOf i).toNat)
  case atStart => exact ⟨0, none, 0, [], rfl, rfl, by omega, HD0.out⟩
  case round =>
    clear HD0
    obtain ⟨t, a, c, xs, rfl, rfl, ht, hd⟩ := hrel
    have HD := Lib.hid hd
    have hsz := hd.size
    clear hd
    by_cases hlt : t < cn
    · go_wp2_with (fail)
      refine (pick_atV B _ [0, 1, 10, 999, 5000] 5 (fun _ => True) wr _ rfl HD.out.s (by omega) rfl (by omega) (by omega) (by simp)).mono ?_
      rintro e w2 ⟨⟨x, rfl, _⟩, hst, hmt⟩
      have HD2 := Lib.hid (HD.out.next hmt hst)
      have hsz2 := hmt.size
      clear hst hmt HD
      go_wp2_with (fail)
      refine (pick_atV B _ [1, 3, 400, 450] 4 (fun _ => True) w2 _ rfl HD2.out.s (by omega) rfl (by omega) (by omega) (by simp)).mono ?_
      rintro e w3 ⟨⟨y, rfl, _⟩, hst, hmt⟩
      have HD3 := Lib.hid (HD2.out.next hmt hst)
      have hsz3 := hmt.size
      clear hst hmt HD2
      go_wp2_with (fail)
      refine (pick_atV B _ [1, 2, 200] 3 (fun _ => True) w3 _ rfl HD3.out.s (by omega) rfl (by omega) (by omega) (by simp)).mono ?_
      rintro e w4 ⟨⟨z, rfl, _⟩, hst, hmt⟩
      have HD4 := Lib.hid (HD3.out.next hmt hst)
      have hsz4 := hmt.size
      clear hst hmt HD3
      go_wp2_with (at_builtin; refine wpList_append_lies _ rfl _ _ 26 rfl w.heap.size 61 i0 (.agg #[.int .i64 0, .int .i64 0, .int .i64 0]) 3 24 Try.underlying26 hi0 hz0 hz1 hz2 rfl (by decide) _ _ _ rfl (ownsRow_below HD4.out.o ((Below.refl _ w4).alloc (Nat.le_refl _) _)) ⟨w4.heap.size, 0, none⟩ 1 1 [.int .i64 x, .int .i64 y, .int .i64 z] rfl rfl (World.news_of_block (cs := #[.int .i64 x, .int .i64 y, .int .i64 z]) (t := 61) (fr := (0, 0)) (heap_alloc_new w4 (.cells #[.int .i64 x, .int .i64 y, .int .i64 z] 61))) (by simp [Value.oneCell']) (by omega) (by unfold maxLen; omega) (by omega) (by simp; omega) (w4.heap.size + 1) (by simp) ?_; intro g5 c5 w5 hown5 hgrow5 _ hlt5; have HO5 := Lib.hid hown5; have HB5 := Lib.hid (Below.grown (B := w.heap.size) (Below.alloc (B := w.heap.size) (Below.refl _ w4) (by omega) (.cells #[.int .i64 x, .int .i64 y, .int .i64 z] 61)) hgrow5 (by simp; omega) (fun b hb => ((HD4.out.o).lt b hb).1)); clear hown5 hgrow5)
      have HD5 := Lib.hid (HD4.out.grown HB5.out HO5.out (AllI.three x y z))
      clear HD4 HB5 HO5
      go_wp2_with (fail)
      go_roundw
      case rel => exact ⟨t + 1, _, c5, _, rfl, by go_num, by omega, by rw [show k + 1 + 3 * (t + 1) = k + 1 + 3 * t + 1 + 1 + 1 by omega]; exact HD5.out⟩
      case measure => simp [intOf] <;> omega
    · obtain rfl : t = cn := by omega
      have hcap := own_capB HD.out.o
      by_cases h0 : t = 0
      · subst h0
        obtain ⟨L, W, H, hL⟩ := beads_of_all HD.out.o HD.out.x
        have HL := Lib.hid hL
        clear hL
        go_wp2_with (fail)
        go_ret
        exact ⟨a, 0, c, L, W, H, rfl, by omega, hcap, HL.out, HD.out.far, HD.out.s.more (by omega) (by omega), HD.out.m⟩
      have h0' : (0 : Int) < (t : Int) := by omega
      go_wp2_with (fail)
      refine (flip_any B _ 20 wr HD.out.s (by omega) (by omega) (by omega)).mono ?_
      rintro e w2 ⟨⟨f, rfl⟩, hst, hmt⟩
      have HD2 := Lib.hid (HD.out.next hmt hst)
      clear hst hmt HD
      rcases f with _ | _
      · obtain ⟨L, W, H, hL⟩ := beads_of_all HD2.out.o HD2.out.x
        have HL := Lib.hid hL
        clear hL
        go_wp2_with (fail)
        go_ret
        exact ⟨a, t, c, L, W, H, rfl, by omega, hcap, HL.out, HD2.out.far, HD2.out.s.more (by omega) (by omega), HD2.out.m⟩
      · obtain ⟨g, cap', hv, hgb, hgl⟩ := HD2.out.o.form (by omega)
        cases hv
        go_wp2_with (fail)
        refine (next_any B _ t w2 HD2.out.s (by omega) (by omega) (by omega)).mono ?_
        rintro e w3 ⟨⟨q, rfl, hq0, hq1⟩, hst, hmt⟩
        obtain ⟨q, rfl⟩ := Int.eq_ofNat_of_zero_le hq0
        have HD3 := Lib.hid (HD2.out.next hmt hst)
        clear hst hmt HD2
        go_wp2_with (fail)
        refine (oddV_any B _ 0 10000000 w3 HD3.out.s (by omega) (by omega) (by omega) (by omega)).mono ?_
        rintro e w4 ⟨⟨x, rfl, _⟩, hst, hmt⟩
        have HD4 := Lib.hid (HD3.out.next hmt hst)
        clear hst hmt HD3
        go_wp2_with (fail)
        refine (oddV_any B _ 1 5000 w4 HD4.out.s (by omega) (by omega) (by omega) (by omega)).mono ?_
        rintro e w5 ⟨⟨y, rfl, _⟩, hst, hmt⟩
        have HD5 := Lib.hid (HD4.out.next hmt hst)
        clear hst hmt HD4
        go_wp2_with (fail)
        refine (oddV_any B _ 1 5000 w5 HD5.out.s (by omega) (by omega) (by omega) (by omega)).mono ?_
        rintro e w6 ⟨⟨z, rfl, _⟩, hst, hmt⟩
        have HD6 := Lib.hid (HD5.out.next hmt hst)
        clear hst hmt HD5
        have hq : q < t := by omega
        have c0 := HD6.out.o.cellAt (q * 3) (by omega)
        have c1 := HD6.out.o.cellAt (q * 3 + 1) (by omega)
        have c2 := HD6.out.o.cellAt (q * 3 + 2) (by omega)
        have hlen := HD6.out.o.1
        obtain ⟨u0, hu0⟩ : ∃ u, xs[q * 3]? = some u := ⟨_, List.getElem?_eq_getElem (by omega)⟩
        obtain ⟨u1, hu1⟩ : ∃ u, xs[q * 3 + 1]? = some u := ⟨_, List.getElem?_eq_getElem (by omega)⟩
        obtain ⟨u2, hu2⟩ : ∃ u, xs[q * 3 + 2]? = some u := ⟨_, List.getElem?_eq_getElem (by omega)⟩
        rw [hu0] at c0
        rw [hu1] at c1
        rw [hu2] at c2
        have f0 := HD6.out.o.frozenAt (q * 3)
        have f1 := HD6.out.o.frozenAt (q * 3 + 1)
        have f2 := HD6.out.o.frozenAt (q * 3 + 2)
        have b1 : (q : Int) < (t : Int) := by omega
        have hs6 := HD6.out.size
        have hg6 := (HD6.out.o.lt g rfl).2
        clear hu0 hu1 hu2 hlen
        go_wp2_with (fail)
        have HD7 := Lib.hid (((HD6.out.set (q * 3) x).set (q * 3 + 1) y).set (q * 3 + 2) z)
        obtain ⟨L, W, H, hL⟩ := beads_of_all HD7.out.o HD7.out.x
        go_ret
        exact ⟨some ⟨g, 0, none⟩, t, c, L, W, H, rfl, by omega, hcap, hL, HD7.out.far, HD7.out.s.more (by omega) (by omega), HD7.out.m⟩
theorem beads_of_pat {w : World} {g n : Nat} {x y z : Int} (h : Pat w g n n x y z) : BeadsR w (some ⟨g, 0, none⟩) n (fun _ => x) (fun _ => y) (fun _ => z) := by
  obtain ⟨cur, h1, h2, h3⟩ := h
  refine .inr ⟨g, 0, rfl, lt_of_heap h1, fun i hi => ?_⟩
  obtain ⟨a, b, c⟩ := h3 i hi
  rw [Nat.zero_add]
  exact ⟨cell_of h1 a, cell_of h1 b, cell_of h1 c⟩
set_option maxRecDepth 100000 in
set_option maxHeartbeats 4000000 in
theorem manyBeads_any (B k : Nat) (w : World) (hs : Strm w B k) (hk : k + 100 ≤ 1000000) :
    Calls Try.prog 8 #[.pointer (some ⟨B, 0, none⟩)] w fun e w' => ∃ a n c L W H, e = .returned (.slice a n c) ∧ 100 < n ∧ n ≤ 5000 ∧ n ≤ c ∧ BeadsR w' a n L W H ∧ Mut (· = B) w w' := by
  have hl := hs.lt
  have HS := Lib.hid hs
  clear hs
  go_enter Try.func8, Try.ntmps8
  go_wp2_with (fail)
  have BX : Below w.heap.size w (w.alloc (.cells #[.int .i64 10000000, .int .i64 5000, .int .i64 5000] 61)) := (by repeat (first | exact Below.refl _ _ | assumption | refine Below.drew ?_ | refine bdrewN ?_ _ | refine Below.setCell ?_ (by first | omega | (simp <;> omega)) _ | refine Below.alloc ?_ (by first | omega | (simp <;> omega)) _))
  have H8 := Lib.hid (heap_alloc_new w (.cells #[.int .i64 10000000, .int .i64 5000, .int .i64 5000] 61))
  have HSW := Lib.hid (HS.out.alloc (.cells #[.int .i64 10000000, .int .i64 5000, .int .i64 5000] 61))
  have hsz : (w.alloc (.cells #[.int .i64 10000000, .int .i64 5000, .int .i64 5000] 61)).heap.size = w.heap.size + 1 := by simp
  have HB0 := Lib.hid BX
  clear BX HS
  generalize (w.alloc (.cells #[.int .i64 10000000, .int .i64 5000, .int .i64 5000] 61)) = w1 at *
  obtain ⟨g, hg⟩ : ∃ g, g = w.heap.size := ⟨_, rfl⟩
  rw [← hg] at H8 hsz ⊢
  have HG := Lib.hid hg
  clear hg
  refine (pick_atV B k [4000, 4001] 2 (fun z => z = 4000 ∨ z = 4001) w1 _ hsz HSW.out (by omega) rfl (by omega) (by omega) (by simp)).mono ?_
  rintro e w2 ⟨⟨z, rfl, hz⟩, hst, hmt⟩
  obtain ⟨n, rfl⟩ := Int.eq_ofNat_of_zero_le (show 0 ≤ z by omega)
  have hn : n = 4000 ∨ n = 4001 := by omega
  have HN := Lib.hid hn
  have hgB : ¬ g = B := by have := HG.out; omega
  have hg1 : g < w1.heap.size := by have := HG.out; omega
  have c0 := (hmt.cell (p := ⟨g, 0, none⟩) hg1 hgB).trans (cell_of H8.out (i := 0) rfl)
  have c1 := (hmt.cell (p := ⟨g, 1, none⟩) hg1 hgB).trans (cell_of H8.out (i := 1) rfl)
  have c2 := (hmt.cell (p := ⟨g, 2, none⟩) hg1 hgB).trans (cell_of H8.out (i := 2) rfl)
  have HM2 := Lib.hid (Mut.trans (mutV_of_bel HB0.out) hmt)
  clear hz hn hst hmt hgB hg1
  go_wp2_with (fail)
  refine (repeat_any g n 10000000 5000 5000 w2 HN.out c0 c1 c2).mono ?_
  rintro e w3 ⟨g3, rfl, hp, _, hb3⟩
  have HP := Lib.hid (beads_of_pat hp)
  have HM3 := Lib.hid (Mut.trans HM2.out (mutV_of_bel hb3))
  clear hp hb3
  go_wp2_with (fail)
  go_ret
  exact ⟨some ⟨g3, 0, none⟩, n, n, _, _, _, rfl, by have := HN.out; omega, by have := HN.out; omega, Nat.le_refl _, HP.out, HM3.out⟩
theorem anArea_any (B k : Nat) (w : World) (hs : Strm w B k) (hk : k + 1 ≤ 1000000) :
    Calls Try.prog 6 #[.pointer (some ⟨B, 0, none⟩)] w (StrmPost w B k 1 (IntE fun _ => True)) := by
  go_enter Try.func6, Try.ntmps6
  go_wp2_with (fail)
  refine (pick_atV B k [1, 7, 40, 1000, 2405282, 0, 100000000, 100000001] 8 (fun _ => True) w _ rfl hs hk rfl (by omega) (by omega) (by simp)).mono ?_
  rintro e w1 ⟨⟨z, rfl, _⟩, hst, hmt⟩
  go_wp2_with (fail)
  go_ret
  exact ⟨⟨_, rfl, trivial⟩, hst, hmt⟩
theorem bead_one {w : World} {g : Nat} {x y z : Int} (h0 : w.cell? ⟨g, 0, none⟩ = some (.int .i64 x)) (h1 : w.cell? ⟨g, 1, none⟩ = some (.int .i64 y)) (h2 : w.cell? ⟨g, 2, none⟩ = some (.int .i64 z)) : BeadsR w (some ⟨g, 0, none⟩) 1 (fun _ => x) (fun _ => y) (fun _ => z) :=
  .inr ⟨g, 0, rfl, cell_lt h0, fun i hi => by obtain rfl : i = 0 := by omega
                                              exact ⟨h0, h1, h2⟩⟩
theorem fv_one : fvE 1 (fun _ => 10) (fun _ => 3) (fun _ => 2) = 0 ∧ fvV 1 (fun _ => 10) (fun _ => 3) (fun _ => 2) = 60 := by
  have hb : bdE 1 (fun _ => 10) (fun _ => 3) (fun _ => 2) = 0 := by
    unfold bdE
    rw [if_neg (by omega), bdsOk_yes (fun j _ => by decide)]
    rfl
  have hf : fvE 1 (fun _ => 10) (fun _ => 3) (fun _ => 2) = 0 := by
    unfold fvE
    rw [if_pos hb]
    rfl
  exact ⟨hf, by unfold fvV; rw [if_pos hf]; rfl⟩
set_option maxHeartbeats 1000000 in
theorem flowed_any (w : World) : Calls Try.prog 16 #[] w fun e w' => e = .returned (.bool true) ∧ Below w.heap.size w w' := by
  go_enter Try.func16, Try.ntmps16
  go_wp2_with (fail)
  have BX : Below w.heap.size w (w.alloc (.cells #[.int .i64 10, .int .i64 3, .int .i64 2] 61)) := (by repeat (first | exact Below.refl _ _ | assumption | refine Below.drew ?_ | refine bdrewN ?_ _ | refine Below.setCell ?_ (by first | omega | (simp <;> omega)) _ | refine Below.alloc ?_ (by first | omega | (simp <;> omega)) _))
  have H8 := Lib.hid (heap_alloc_new w (.cells #[.int .i64 10, .int .i64 3, .int .i64 2] 61))
  have HB0 := Lib.hid BX
  clear BX
  generalize (w.alloc (.cells #[.int .i64 10, .int .i64 3, .int .i64 2] 61)) = w1 at *
  refine (Volume_any _ 1 1 (fun _ => 10) (fun _ => 3) (fun _ => 2) w1 (by omega) (bead_one (cell_of H8.out (i := 0) rfl) (cell_of H8.out (i := 1) rfl) (cell_of H8.out (i := 2) rfl))).mono ?_
  rintro e w2 ⟨rfl, hb2⟩
  have B2 := Lib.hid (HB0.out.trans (hb2.mono HB0.out.size))
  clear hb2
  rw [fv_one.1, fv_one.2]
  go_wp2_with (fail)
  go_ret
  exact ⟨rfl, B2.out⟩
end Go.Proofs.Ytddnimbalfaieaa

/- The law BeadsFed. -/
import Derived.Test.YtddnimbalfaieaaBe
set_option linter.unusedSimpArgs false
set_option linter.unusedVariables false
namespace Go.Proofs.Ytddnimbalfaieaa
open Go.RowKit
theorem own_mutB {w : World} {base : Nat} {e : TypeId} {size : Nat} {v : Value} {n : Nat} {xs : List Value} (h : w.ownsRow base e size v n xs) {b : Nat} (o : Nat) (u : Value) (hb : v.ownBlock ≠ some b) : (w.setCell ⟨b, o, none⟩ u).ownsRow base e size v n xs := by
  obtain ⟨h1, h2⟩ := h
  refine ⟨h1, ?_⟩
  rcases h2 with h2 | ⟨g, cap, cur, hv, hg, hh, r⟩
  · exact .inl h2
  · exact .inr ⟨g, cap, cur, hv, hg, (Below.heap_setCell _ _ _ _ (by show g ≠ b; intro e; subst e; exact hb (by rw [hv]; rfl))).trans hh, r⟩
set_option maxRecDepth 100000 in
set_option maxHeartbeats 16000000 in
theorem beadsFed_walk (a0 : Option Addr) (len0 cap0 : Nat) (z0 : List Int) (w : World) (w0 : IsRow .i64 w a0 len0 cap0 z0) :
    Calls Try.prog 3 #[.slice a0 len0 cap0] w fun e w' => e = .returned (.bool true) ∧ Below w.heap.size w w' := by
  have HS0 := Lib.hid (Strm.start w0)
  go_enter Try.func3, Try.ntmps3
  go_wp2_with (fail)
  have HM0 : Hid (Mut (· = w.heap.size) w (w.alloc (.cells #[.slice a0 len0 cap0, .int .i64 0] 25))) := Lib.hid ((Mut.refl _ w).alloc _)
  have hl0 : w.heap.size < (w.alloc (.cells #[.slice a0 len0 cap0, .int .i64 0] 25)).heap.size := by simp
  generalize (w.alloc (.cells #[.slice a0 len0 cap0, .int .i64 0] 25)) = ws at *
  obtain ⟨B, hBw⟩ : ∃ B, B = w.heap.size := ⟨_, rfl⟩
  rw [← hBw] at HS0 HM0 hl0 ⊢
  have HBW := Lib.hid hBw
  clear hBw
  refine (beadList_any B 0 _ HS0.out (by omega)).mono ?_
  rintro e w1 ⟨a, n, c, L, W, H, rfl, hn6, hcn, hp, hfa, hst, hmt⟩
  have HP := Lib.hid hp
  have HFA := Lib.hid hfa
  have HS := Lib.hid hst
  have HM := Lib.hid (HM0.out.trans (hmt.mono fun _ _ h => h))
  clear hp hfa hst hmt HS0 HM0
  go_wp2_with (fail)
  refine (anArea_any B _ w1 HS.out (by omega)).mono ?_
  rintro e w2 ⟨⟨x, rfl, _⟩, hst, hmt⟩
  replace HP := Lib.hid (HP.out.mut hmt HFA.out)
  replace HS := Lib.hid hst
  replace HM := Lib.hid (HM.out.trans (hmt.mono fun _ _ h => h))
  clear hst hmt
  go_wp2_with (fail)
  refine (flip_any B _ 40 w2 HS.out (by omega) (by omega) (by omega)).mono ?_
  rintro e w3 ⟨⟨f, rfl⟩, hst, hmt⟩
  replace HP := Lib.hid (HP.out.mut hmt HFA.out)
  replace HS := Lib.hid hst
  replace HM := Lib.hid (HM.out.trans (hmt.mono fun _ _ h => h))
  clear hst hmt
  rcases f with _ | _
  · have BW : Hid (Below B w w3) := Lib.hid (HM.out.toBelow B (by rw [HBW.out]; exact Nat.le_refl _) (fun k hk e => by omega))
    have hn : n ≤ 5000 := by omega
    have h100 : n ≤ 100 := by omega
    have h101 : ¬ (100 : Int) < (n : Int) := by omega
    rw [HBW.out] at BW
    clear HM HS HFA hl0 hn6
    rw [HBW.out]
    clear HBW
    go_wp2_with (fail)
    refine (checkBeads_any a n c L W H _ hn HP.out).mono ?_
    rintro e v1 ⟨rfl, hb⟩
    replace BW := Lib.hid (BW.out.trans (hb.mono BW.out.size))
    replace HP := Lib.hid (HP.out.kept hb)
    clear hb
    go_wp2_with (fail)
    refine (beadsFault_any a n c L W H _ hn HP.out).mono ?_
    rintro e v2 ⟨rfl, hb⟩
    replace BW := Lib.hid (BW.out.trans (hb.mono BW.out.size))
    replace HP := Lib.hid (HP.out.kept hb)
    clear hb
    have t1 : (bdE n L W H != bdE n L W H) = false := by simp
    go_wp2_with (fail)
    clear t1
    refine (Volume_any a n c L W H _ hn HP.out).mono ?_
    rintro e v3 ⟨rfl, hb⟩
    replace BW := Lib.hid (BW.out.trans (hb.mono BW.out.size))
    replace HP := Lib.hid (HP.out.kept hb)
    clear hb
    go_wp2_with (fail)
    refine (fedFault_any a n c L W H _ hn HP.out).mono ?_
    rintro e v4 ⟨rfl, hb⟩
    replace BW := Lib.hid (BW.out.trans (hb.mono BW.out.size))
    replace HP := Lib.hid (HP.out.kept hb)
    clear hb
    by_cases hf : fvE n L W H = 0
    · have HF := Lib.hid hf
      rw [hf, fvV_ok hf]
      have OKV : Hid (BdOk n L W H) := Lib.hid (bdE_ok (fvE_ok hf).1).2
      clear hf
      have t2 : (volZ L W H n != volZ L W H n) = false := by simp
      go_wp2_with (fail)
      refine (volumeFed_any a n c L W H _ hn HP.out OKV.out).mono ?_
      rintro e v5 ⟨rfl, hb⟩
      replace BW := Lib.hid (BW.out.trans (hb.mono BW.out.size))
      replace HP := Lib.hid (HP.out.kept hb)
      clear hb
      go_wp2_with (fail)
      clear t2 HF OKV
      by_cases hz : arE n L W H x = 0
      · have HZ := Lib.hid hz
        have OK := Lib.hid (arE_ok hz)
        have HNR := Lib.hid (show nrN n L W H x = ndN n L W H x ∧ nrD n L W H x = ndD n L W H x from ⟨if_pos hz, if_pos hz⟩)
        clear hz
        refine (Need_any a n c L W H x _ hn HP.out).mono ?_
        rintro e v6 ⟨rfl, hb⟩
        replace BW := Lib.hid (BW.out.trans (hb.mono BW.out.size))
        replace HP := Lib.hid (HP.out.kept hb)
        clear hb
        rw [HZ.out, HNR.out.1, HNR.out.2]
        obtain ⟨y, hy⟩ : ∃ y, ndN n L W H x = y := ⟨_, rfl⟩
        obtain ⟨z, hz⟩ : ∃ z, ndD n L W H x = z := ⟨_, rfl⟩
        rw [hy, hz]
        have HY := Lib.hid hy
        have HZZ := Lib.hid hz
        clear hy hz HNR
        go_wp2_with (fail)
        have H9 := Lib.hid (heap_alloc_new v6 (.cells #[.int .i64 y, .int .i64 z] 36))
        replace BW := Lib.hid (BW.out.alloc BW.out.size (.cells #[.int .i64 y, .int .i64 z] 36))
        replace HP := Lib.hid (HP.out.kept ((Below.refl _ v6).alloc (Nat.le_refl _) (.cells #[.int .i64 y, .int .i64 z] 36)))
        generalize (v6.alloc (.cells #[.int .i64 y, .int .i64 z] 36)) = v7 at *
        obtain ⟨q9, hq⟩ : ∃ q, q = v6.heap.size := ⟨_, rfl⟩
        rw [← hq] at H9
        try rw [← hq]
        clear hq
        refine (Positions_any a n c L W H x _ h100 HP.out).mono ?_
        rintro e v8 ⟨h1, _, hb⟩
        replace BW := Lib.hid (BW.out.trans (hb.mono BW.out.size))
        replace HP := Lib.hid (HP.out.kept hb)
        replace H9 := Lib.hid (heap_keep hb H9.out)
        obtain ⟨ap, cp, rfl, hop⟩ := h1 HZ.out
        have HIP := Lib.hid (ints_of_own hop)
        clear h1 hop
        clear hb
        go_wp2_with (fail)
        refine (Amounts_any a n c L W H x _ h100 HP.out).mono ?_
        rintro e v9 ⟨h1, _, hb⟩
        replace BW := Lib.hid (BW.out.trans (hb.mono BW.out.size))
        replace HP := Lib.hid (HP.out.kept hb)
        replace H9 := Lib.hid (heap_keep hb H9.out)
        replace HIP := Lib.hid (HIP.out.kept hb)
        obtain ⟨aa, ca, rfl, hoa⟩ := h1 HZ.out
        have HIA := Lib.hid (ints_of_own hoa)
        clear h1 hoa
        clear hb
        go_wp2_with (fail)
        refine (areaFault_any a n c L W H x _ hn HP.out).mono ?_
        rintro e v10 ⟨rfl, hb⟩
        replace BW := Lib.hid (BW.out.trans (hb.mono BW.out.size))
        replace HP := Lib.hid (HP.out.kept hb)
        replace H9 := Lib.hid (heap_keep hb H9.out)
        replace HIP := Lib.hid (HIP.out.kept hb)
        replace HIA := Lib.hid (HIA.out.kept hb)
        rw [HZ.out]
        clear hb
        go_wp2_with (fail)
        have HLT := Lib.hid (lt_of_heap H9.out)
        have HWB := Lib.hid BW.out.size
        have H16 := Lib.hid (heap_alloc_new v10 (.cells #[.int .i64 0, .int .i64 0] 36))
        have hb := (Below.refl _ v10).alloc (Nat.le_refl _) (.cells #[.int .i64 0, .int .i64 0] 36)
        replace BW := Lib.hid (BW.out.alloc BW.out.size (.cells #[.int .i64 0, .int .i64 0] 36))
        replace HP := Lib.hid (HP.out.kept hb)
        replace H9 := Lib.hid (heap_keep hb H9.out)
        have BQ := Lib.hid hb
        clear hb
        generalize (v10.alloc (.cells #[.int .i64 0, .int .i64 0] 36)) = v11 at *
        obtain ⟨q16, hq⟩ : ∃ q, q = v10.heap.size := ⟨_, rfl⟩
        rw [← hq] at H16 HLT HWB BQ
        try rw [← hq]
        have HQE := Lib.hid hq
        have HQ := Lib.hid (show q16 ≤ v11.heap.size from Nat.le_of_lt (lt_of_heap H16.out))
        replace BQ := Lib.hid (show Below q16 v10 v11 from BQ.out)
        clear hq
        go_wp2_with (fail)
        refine (needOf_any a n c L W H x _ hn HP.out OK.out.1.2 OK.out.2.1).mono ?_
        rintro e v12 ⟨rfl, hb⟩
        replace BW := Lib.hid (BW.out.trans (hb.mono BW.out.size))
        replace HP := Lib.hid (HP.out.kept hb)
        replace H9 := Lib.hid (heap_keep hb H9.out)
        replace H16 := Lib.hid (heap_keep hb H16.out)
        replace BQ := Lib.hid (BQ.out.trans (hb.mono (show q16 ≤ _ by have h1 := BQ.out.size; have h2 := HQE.out; omega)))
        rw [HY.out, HZZ.out]
        clear hb
        have HL12 := Lib.hid (lt_of_heap H16.out)
        go_wp2_with (fail)
        refine (positionsOf_any a n c L W H x _ h100 HP.out OK.out.1.2 OK.out.2.1 hcn).mono ?_
        rintro e v13 ⟨ap2, cp2, rfl, hop, hb⟩
        replace BW := Lib.hid (BW.out.trans (hb.mono BW.out.size))
        replace HP := Lib.hid (HP.out.kept hb)
        replace H9 := Lib.hid (heap_keep hb H9.out)
        replace H16 := Lib.hid (heap_keep hb H16.out)
        replace BQ := Lib.hid (BQ.out.trans (hb.mono (show q16 ≤ _ by have h1 := BQ.out.size; have h2 := HQE.out; omega)))
        have HOP := Lib.hid hop
        have L12 := Lib.hid (show q16 < v12.heap.size from HL12.out)
        clear hop
        clear hb
        have HL13 := Lib.hid (lt_of_heap H16.out)
        go_wp2_with (fail)
        refine (amountsOf_any a n c L W H x _ h100 HP.out HZ.out hcn).mono ?_
        rintro e v14 ⟨aa2, ca2, rfl, hoa, hb⟩
        replace BW := Lib.hid (BW.out.trans (hb.mono BW.out.size))
        replace H9 := Lib.hid (heap_keep hb H9.out)
        replace H16 := Lib.hid (heap_keep hb H16.out)
        replace BQ := Lib.hid (BQ.out.trans (hb.mono (show q16 ≤ _ by have h1 := BQ.out.size; have h2 := HQE.out; omega)))
        replace HOP := Lib.hid (ownsRow_below HOP.out hb)
        have HOA := Lib.hid hoa
        clear hoa
        clear hb
        have d0 := cell_of H16.out (i := 0) rfl
        have d1 := cell_of H16.out (i := 1) rfl
        have f0 := frozen_of H16.out (i := 0)
        have f1 := frozen_of H16.out (i := 1)
        have g0 := cell_of H9.out (i := 0) rfl
        have g1 := cell_of H9.out (i := 1) rfl
        have hne1 : ¬ q9 = q16 := Nat.ne_of_lt HLT.out
        have hne2 : ¬ q16 = q9 := fun h => hne1 h.symm
        have hs := set2V_1 (u := .int .i64 z) (set2V_0 (u := .int .i64 y) H16.out)
        have S0 := Lib.hid (cell_of hs (i := 0) rfl)
        have S1 := Lib.hid (cell_of hs (i := 1) rfl)
        have G0 := Lib.hid ((sc_other (w := v14.setCell ⟨q16, 0, none⟩ (.int .i64 y)) (v := .int .i64 z) (ne_block (i := 1) (j := 0) hne2)).trans ((sc_other (w := v14) (v := .int .i64 y) (ne_block (i := 0) (j := 0) hne2)).trans g0))
        have G1 := Lib.hid ((sc_other (w := v14.setCell ⟨q16, 0, none⟩ (.int .i64 y)) (v := .int .i64 z) (ne_block (i := 1) (j := 1) hne2)).trans ((sc_other (w := v14) (v := .int .i64 y) (ne_block (i := 0) (j := 1) hne2)).trans g1))
        have BW9 := Lib.hid ((Below.setCell (p := ⟨q16, 0, none⟩) BW.out HWB.out (.int .i64 y)).setCell (p := ⟨q16, 1, none⟩) HWB.out (.int .i64 z))
        have BQ9 := Lib.hid ((Below.setCell (p := ⟨q16, 0, none⟩) BQ.out (Nat.le_refl _) (.int .i64 y)).setCell (p := ⟨q16, 1, none⟩) (Nat.le_refl _) (.int .i64 z))
        have OP9 := Lib.hid (ints_of_own (own_mutB (own_mutB HOP.out (b := q16) 0 (.int .i64 y) (fun e => by have := (HOP.out.lt q16 e).1; have h2 := HL12.out; omega)) (b := q16) 1 (.int .i64 z) (fun e => by have := (HOP.out.lt q16 e).1; have h2 := HL12.out; omega)))
        have OA9 := Lib.hid (ints_of_own (own_mutB (own_mutB HOA.out (b := q16) 0 (.int .i64 y) (fun e => by have := (HOA.out.lt q16 e).1; have h2 := HL13.out; omega)) (b := q16) 1 (.int .i64 z) (fun e => by have := (HOA.out.lt q16 e).1; have h2 := HL13.out; omega)))
        clear hs HP H9 H16 HOP HOA BW BQ HLT
        go_wp2_with (fail)
        clear d0 d1 f0 f1 g0 g1
        generalize ((v14.setCell ⟨q16, 0, none⟩ (.int .i64 y)).setCell ⟨q16, 1, none⟩ (.int .i64 z)) = v15 at *
        replace HIP := Lib.hid (HIP.out.kept (w' := v15) (HQE.out ▸ BQ9.out))
        replace HIA := Lib.hid (HIA.out.kept (w' := v15) (HQE.out ▸ BQ9.out))
        have BW := BW9
        clear BW9
        refine (equalV_any ap ap2 n cp cp2 (posF L W H x) (posF L W H x) _ (by omega) HIP.out OP9.out (fun i _ => rfl)).mono ?_
        rintro e v16 ⟨rfl, hb⟩
        replace BW := Lib.hid (BW.out.trans (hb.mono BW.out.size))
        replace HIA := Lib.hid (HIA.out.kept hb)
        replace OA9 := Lib.hid (OA9.out.kept hb)
        clear hb
        go_wp2_with (fail)
        refine (equalV_any aa aa2 n ca ca2 (amtF L W H x) (amtF L W H x) _ (by omega) HIA.out OA9.out (fun i _ => rfl)).mono ?_
        rintro e v17 ⟨rfl, hb⟩
        replace BW := Lib.hid (BW.out.trans (hb.mono BW.out.size))
        clear hb
        go_wp2_with (fail)
        refine (flowed_any _).mono ?_
        rintro e v18 ⟨rfl, hb⟩
        replace BW := Lib.hid (BW.out.trans (hb.mono BW.out.size))
        clear hb
        go_wp2_with (fail)
        go_ret
        exact ⟨rfl, BW.out⟩
      · have HZ := Lib.hid hz
        have HNR := Lib.hid (show nrN n L W H x = 0 ∧ nrD n L W H x = 0 from ⟨if_neg hz, if_neg hz⟩)
        have hz1 : (arE n L W H x == 0) = false := by simpa using hz
        have hz2 : (arE n L W H x == arE n L W H x) = true := by simp
        clear hz
        refine (Need_any a n c L W H x _ hn HP.out).mono ?_
        rintro e v6 ⟨rfl, hb⟩
        replace BW := Lib.hid (BW.out.trans (hb.mono BW.out.size))
        replace HP := Lib.hid (HP.out.kept hb)
        clear hb
        rw [HNR.out.1, HNR.out.2]
        clear HNR
        go_wp2_with (fail)
        have H9 := Lib.hid (heap_alloc_new v6 (.cells #[.int .i64 0, .int .i64 0] 36))
        replace BW := Lib.hid (BW.out.alloc BW.out.size (.cells #[.int .i64 0, .int .i64 0] 36))
        replace HP := Lib.hid (HP.out.kept ((Below.refl _ v6).alloc (Nat.le_refl _) (.cells #[.int .i64 0, .int .i64 0] 36)))
        generalize (v6.alloc (.cells #[.int .i64 0, .int .i64 0] 36)) = v7 at *
        obtain ⟨q9, hq⟩ : ∃ q, q = v6.heap.size := ⟨_, rfl⟩
        rw [← hq] at H9
        try rw [← hq]
        clear hq
        refine (Positions_any a n c L W H x _ h100 HP.out).mono ?_
        rintro e v8 ⟨_, h2, hb⟩
        replace BW := Lib.hid (BW.out.trans (hb.mono BW.out.size))
        replace HP := Lib.hid (HP.out.kept hb)
        replace H9 := Lib.hid (heap_keep hb H9.out)
        obtain rfl := h2 HZ.out
        clear h2
        clear hb
        go_wp2_with (fail)
        refine (Amounts_any a n c L W H x _ h100 HP.out).mono ?_
        rintro e v9 ⟨_, h2, hb⟩
        replace BW := Lib.hid (BW.out.trans (hb.mono BW.out.size))
        replace HP := Lib.hid (HP.out.kept hb)
        replace H9 := Lib.hid (heap_keep hb H9.out)
        obtain rfl := h2 HZ.out
        clear h2
        clear hb
        go_wp2_with (fail)
        refine (areaFault_any a n c L W H x _ hn HP.out).mono ?_
        rintro e v10 ⟨rfl, hb⟩
        replace BW := Lib.hid (BW.out.trans (hb.mono BW.out.size))
        replace HP := Lib.hid (HP.out.kept hb)
        replace H9 := Lib.hid (heap_keep hb H9.out)
        clear hb
        have g0 := cell_of H9.out (i := 0) rfl
        have g1 := cell_of H9.out (i := 1) rfl
        have l9 := lt_of_heap H9.out
        have hb9 := (Below.refl _ v10).alloc (Nat.le_refl _) (.cells #[.int .i64 0, .int .i64 0] 36)
        replace BW := Lib.hid (BW.out.trans (hb9.mono BW.out.size))
        clear hb9 H9 HP
        go_wp2_with (fail)
        refine (equalV_any none none 0 0 0 (fun _ => 0) (fun _ => 0) _ (by omega) (.inl rfl) (.inl rfl) (fun i h => by omega)).mono ?_
        rintro e v16 ⟨rfl, hb⟩
        replace BW := Lib.hid (BW.out.trans (hb.mono BW.out.size))
        clear hb
        go_wp2_with (fail)
        refine (equalV_any none none 0 0 0 (fun _ => 0) (fun _ => 0) _ (by omega) (.inl rfl) (.inl rfl) (fun i h => by omega)).mono ?_
        rintro e v17 ⟨rfl, hb⟩
        replace BW := Lib.hid (BW.out.trans (hb.mono BW.out.size))
        clear hb
        go_wp2_with (fail)
        refine (flowed_any _).mono ?_
        rintro e v18 ⟨rfl, hb⟩
        replace BW := Lib.hid (BW.out.trans (hb.mono BW.out.size))
        clear hb
        go_wp2_with (fail)
        go_ret
        exact ⟨rfl, BW.out⟩
    · have HF := Lib.hid hf
      rw [fvV_no hf]
      have t2 : (fvE n L W H == 0) = false := by simpa using hf
      have t3 : (fvE n L W H != 0) = true := by simpa using hf
      have t4 : (fvE n L W H != fvE n L W H) = false := by simp
      clear hf
      go_wp2_with (fail)
      clear t2 t3 t4 HF
      by_cases hz : arE n L W H x = 0
      · have HZ := Lib.hid hz
        have OK := Lib.hid (arE_ok hz)
        have HNR := Lib.hid (show nrN n L W H x = ndN n L W H x ∧ nrD n L W H x = ndD n L W H x from ⟨if_pos hz, if_pos hz⟩)
        clear hz
        refine (Need_any a n c L W H x _ hn HP.out).mono ?_
        rintro e v6 ⟨rfl, hb⟩
        replace BW := Lib.hid (BW.out.trans (hb.mono BW.out.size))
        replace HP := Lib.hid (HP.out.kept hb)
        clear hb
        rw [HZ.out, HNR.out.1, HNR.out.2]
        obtain ⟨y, hy⟩ : ∃ y, ndN n L W H x = y := ⟨_, rfl⟩
        obtain ⟨z, hz⟩ : ∃ z, ndD n L W H x = z := ⟨_, rfl⟩
        rw [hy, hz]
        have HY := Lib.hid hy
        have HZZ := Lib.hid hz
        clear hy hz HNR
        go_wp2_with (fail)
        have H9 := Lib.hid (heap_alloc_new v6 (.cells #[.int .i64 y, .int .i64 z] 36))
        replace BW := Lib.hid (BW.out.alloc BW.out.size (.cells #[.int .i64 y, .int .i64 z] 36))
        replace HP := Lib.hid (HP.out.kept ((Below.refl _ v6).alloc (Nat.le_refl _) (.cells #[.int .i64 y, .int .i64 z] 36)))
        generalize (v6.alloc (.cells #[.int .i64 y, .int .i64 z] 36)) = v7 at *
        obtain ⟨q9, hq⟩ : ∃ q, q = v6.heap.size := ⟨_, rfl⟩
        rw [← hq] at H9
        try rw [← hq]
        clear hq
        refine (Positions_any a n c L W H x _ h100 HP.out).mono ?_
        rintro e v8 ⟨h1, _, hb⟩
        replace BW := Lib.hid (BW.out.trans (hb.mono BW.out.size))
        replace HP := Lib.hid (HP.out.kept hb)
        replace H9 := Lib.hid (heap_keep hb H9.out)
        obtain ⟨ap, cp, rfl, hop⟩ := h1 HZ.out
        have HIP := Lib.hid (ints_of_own hop)
        clear h1 hop
        clear hb
        go_wp2_with (fail)
        refine (Amounts_any a n c L W H x _ h100 HP.out).mono ?_
        rintro e v9 ⟨h1, _, hb⟩
        replace BW := Lib.hid (BW.out.trans (hb.mono BW.out.size))
        replace HP := Lib.hid (HP.out.kept hb)
        replace H9 := Lib.hid (heap_keep hb H9.out)
        replace HIP := Lib.hid (HIP.out.kept hb)
        obtain ⟨aa, ca, rfl, hoa⟩ := h1 HZ.out
        have HIA := Lib.hid (ints_of_own hoa)
        clear h1 hoa
        clear hb
        go_wp2_with (fail)
        refine (areaFault_any a n c L W H x _ hn HP.out).mono ?_
        rintro e v10 ⟨rfl, hb⟩
        replace BW := Lib.hid (BW.out.trans (hb.mono BW.out.size))
        replace HP := Lib.hid (HP.out.kept hb)
        replace H9 := Lib.hid (heap_keep hb H9.out)
        replace HIP := Lib.hid (HIP.out.kept hb)
        replace HIA := Lib.hid (HIA.out.kept hb)
        rw [HZ.out]
        clear hb
        go_wp2_with (fail)
        have HLT := Lib.hid (lt_of_heap H9.out)
        have HWB := Lib.hid BW.out.size
        have H16 := Lib.hid (heap_alloc_new v10 (.cells #[.int .i64 0, .int .i64 0] 36))
        have hb := (Below.refl _ v10).alloc (Nat.le_refl _) (.cells #[.int .i64 0, .int .i64 0] 36)
        replace BW := Lib.hid (BW.out.alloc BW.out.size (.cells #[.int .i64 0, .int .i64 0] 36))
        replace HP := Lib.hid (HP.out.kept hb)
        replace H9 := Lib.hid (heap_keep hb H9.out)
        have BQ := Lib.hid hb
        clear hb
        generalize (v10.alloc (.cells #[.int .i64 0, .int .i64 0] 36)) = v11 at *
        obtain ⟨q16, hq⟩ : ∃ q, q = v10.heap.size := ⟨_, rfl⟩
        rw [← hq] at H16 HLT HWB BQ
        try rw [← hq]
        have HQE := Lib.hid hq
        have HQ := Lib.hid (show q16 ≤ v11.heap.size from Nat.le_of_lt (lt_of_heap H16.out))
        replace BQ := Lib.hid (show Below q16 v10 v11 from BQ.out)
        clear hq
        go_wp2_with (fail)
        refine (needOf_any a n c L W H x _ hn HP.out OK.out.1.2 OK.out.2.1).mono ?_
        rintro e v12 ⟨rfl, hb⟩
        replace BW := Lib.hid (BW.out.trans (hb.mono BW.out.size))
        replace HP := Lib.hid (HP.out.kept hb)
        replace H9 := Lib.hid (heap_keep hb H9.out)
        replace H16 := Lib.hid (heap_keep hb H16.out)
        replace BQ := Lib.hid (BQ.out.trans (hb.mono (show q16 ≤ _ by have h1 := BQ.out.size; have h2 := HQE.out; omega)))
        rw [HY.out, HZZ.out]
        clear hb
        have HL12 := Lib.hid (lt_of_heap H16.out)
        go_wp2_with (fail)
        refine (positionsOf_any a n c L W H x _ h100 HP.out OK.out.1.2 OK.out.2.1 hcn).mono ?_
        rintro e v13 ⟨ap2, cp2, rfl, hop, hb⟩
        replace BW := Lib.hid (BW.out.trans (hb.mono BW.out.size))
        replace HP := Lib.hid (HP.out.kept hb)
        replace H9 := Lib.hid (heap_keep hb H9.out)
        replace H16 := Lib.hid (heap_keep hb H16.out)
        replace BQ := Lib.hid (BQ.out.trans (hb.mono (show q16 ≤ _ by have h1 := BQ.out.size; have h2 := HQE.out; omega)))
        have HOP := Lib.hid hop
        have L12 := Lib.hid (show q16 < v12.heap.size from HL12.out)
        clear hop
        clear hb
        have HL13 := Lib.hid (lt_of_heap H16.out)
        go_wp2_with (fail)
        refine (amountsOf_any a n c L W H x _ h100 HP.out HZ.out hcn).mono ?_
        rintro e v14 ⟨aa2, ca2, rfl, hoa, hb⟩
        replace BW := Lib.hid (BW.out.trans (hb.mono BW.out.size))
        replace H9 := Lib.hid (heap_keep hb H9.out)
        replace H16 := Lib.hid (heap_keep hb H16.out)
        replace BQ := Lib.hid (BQ.out.trans (hb.mono (show q16 ≤ _ by have h1 := BQ.out.size; have h2 := HQE.out; omega)))
        replace HOP := Lib.hid (ownsRow_below HOP.out hb)
        have HOA := Lib.hid hoa
        clear hoa
        clear hb
        have d0 := cell_of H16.out (i := 0) rfl
        have d1 := cell_of H16.out (i := 1) rfl
        have f0 := frozen_of H16.out (i := 0)
        have f1 := frozen_of H16.out (i := 1)
        have g0 := cell_of H9.out (i := 0) rfl
        have g1 := cell_of H9.out (i := 1) rfl
        have hne1 : ¬ q9 = q16 := Nat.ne_of_lt HLT.out
        have hne2 : ¬ q16 = q9 := fun h => hne1 h.symm
        have hs := set2V_1 (u := .int .i64 z) (set2V_0 (u := .int .i64 y) H16.out)
        have S0 := Lib.hid (cell_of hs (i := 0) rfl)
        have S1 := Lib.hid (cell_of hs (i := 1) rfl)
        have G0 := Lib.hid ((sc_other (w := v14.setCell ⟨q16, 0, none⟩ (.int .i64 y)) (v := .int .i64 z) (ne_block (i := 1) (j := 0) hne2)).trans ((sc_other (w := v14) (v := .int .i64 y) (ne_block (i := 0) (j := 0) hne2)).trans g0))
        have G1 := Lib.hid ((sc_other (w := v14.setCell ⟨q16, 0, none⟩ (.int .i64 y)) (v := .int .i64 z) (ne_block (i := 1) (j := 1) hne2)).trans ((sc_other (w := v14) (v := .int .i64 y) (ne_block (i := 0) (j := 1) hne2)).trans g1))
        have BW9 := Lib.hid ((Below.setCell (p := ⟨q16, 0, none⟩) BW.out HWB.out (.int .i64 y)).setCell (p := ⟨q16, 1, none⟩) HWB.out (.int .i64 z))
        have BQ9 := Lib.hid ((Below.setCell (p := ⟨q16, 0, none⟩) BQ.out (Nat.le_refl _) (.int .i64 y)).setCell (p := ⟨q16, 1, none⟩) (Nat.le_refl _) (.int .i64 z))
        have OP9 := Lib.hid (ints_of_own (own_mutB (own_mutB HOP.out (b := q16) 0 (.int .i64 y) (fun e => by have := (HOP.out.lt q16 e).1; have h2 := HL12.out; omega)) (b := q16) 1 (.int .i64 z) (fun e => by have := (HOP.out.lt q16 e).1; have h2 := HL12.out; omega)))
        have OA9 := Lib.hid (ints_of_own (own_mutB (own_mutB HOA.out (b := q16) 0 (.int .i64 y) (fun e => by have := (HOA.out.lt q16 e).1; have h2 := HL13.out; omega)) (b := q16) 1 (.int .i64 z) (fun e => by have := (HOA.out.lt q16 e).1; have h2 := HL13.out; omega)))
        clear hs HP H9 H16 HOP HOA BW BQ HLT
        go_wp2_with (fail)
        clear d0 d1 f0 f1 g0 g1
        generalize ((v14.setCell ⟨q16, 0, none⟩ (.int .i64 y)).setCell ⟨q16, 1, none⟩ (.int .i64 z)) = v15 at *
        replace HIP := Lib.hid (HIP.out.kept (w' := v15) (HQE.out ▸ BQ9.out))
        replace HIA := Lib.hid (HIA.out.kept (w' := v15) (HQE.out ▸ BQ9.out))
        have BW := BW9
        clear BW9
        refine (equalV_any ap ap2 n cp cp2 (posF L W H x) (posF L W H x) _ (by omega) HIP.out OP9.out (fun i _ => rfl)).mono ?_
        rintro e v16 ⟨rfl, hb⟩
        replace BW := Lib.hid (BW.out.trans (hb.mono BW.out.size))
        replace HIA := Lib.hid (HIA.out.kept hb)
        replace OA9 := Lib.hid (OA9.out.kept hb)
        clear hb
        go_wp2_with (fail)
        refine (equalV_any aa aa2 n ca ca2 (amtF L W H x) (amtF L W H x) _ (by omega) HIA.out OA9.out (fun i _ => rfl)).mono ?_
        rintro e v17 ⟨rfl, hb⟩
        replace BW := Lib.hid (BW.out.trans (hb.mono BW.out.size))
        clear hb
        go_wp2_with (fail)
        refine (flowed_any _).mono ?_
        rintro e v18 ⟨rfl, hb⟩
        replace BW := Lib.hid (BW.out.trans (hb.mono BW.out.size))
        clear hb
        go_wp2_with (fail)
        go_ret
        exact ⟨rfl, BW.out⟩
      · have HZ := Lib.hid hz
        have HNR := Lib.hid (show nrN n L W H x = 0 ∧ nrD n L W H x = 0 from ⟨if_neg hz, if_neg hz⟩)
        have hz1 : (arE n L W H x == 0) = false := by simpa using hz
        have hz2 : (arE n L W H x == arE n L W H x) = true := by simp
        clear hz
        refine (Need_any a n c L W H x _ hn HP.out).mono ?_
        rintro e v6 ⟨rfl, hb⟩
        replace BW := Lib.hid (BW.out.trans (hb.mono BW.out.size))
        replace HP := Lib.hid (HP.out.kept hb)
        clear hb
        rw [HNR.out.1, HNR.out.2]
        clear HNR
        go_wp2_with (fail)
        have H9 := Lib.hid (heap_alloc_new v6 (.cells #[.int .i64 0, .int .i64 0] 36))
        replace BW := Lib.hid (BW.out.alloc BW.out.size (.cells #[.int .i64 0, .int .i64 0] 36))
        replace HP := Lib.hid (HP.out.kept ((Below.refl _ v6).alloc (Nat.le_refl _) (.cells #[.int .i64 0, .int .i64 0] 36)))
        generalize (v6.alloc (.cells #[.int .i64 0, .int .i64 0] 36)) = v7 at *
        obtain ⟨q9, hq⟩ : ∃ q, q = v6.heap.size := ⟨_, rfl⟩
        rw [← hq] at H9
        try rw [← hq]
        clear hq
        refine (Positions_any a n c L W H x _ h100 HP.out).mono ?_
        rintro e v8 ⟨_, h2, hb⟩
        replace BW := Lib.hid (BW.out.trans (hb.mono BW.out.size))
        replace HP := Lib.hid (HP.out.kept hb)
        replace H9 := Lib.hid (heap_keep hb H9.out)
        obtain rfl := h2 HZ.out
        clear h2
        clear hb
        go_wp2_with (fail)
        refine (Amounts_any a n c L W H x _ h100 HP.out).mono ?_
        rintro e v9 ⟨_, h2, hb⟩
        replace BW := Lib.hid (BW.out.trans (hb.mono BW.out.size))
        replace HP := Lib.hid (HP.out.kept hb)
        replace H9 := Lib.hid (heap_keep hb H9.out)
        obtain rfl := h2 HZ.out
        clear h2
        clear hb
        go_wp2_with (fail)
        refine (areaFault_any a n c L W H x _ hn HP.out).mono ?_
        rintro e v10 ⟨rfl, hb⟩
        replace BW := Lib.hid (BW.out.trans (hb.mono BW.out.size))
        replace HP := Lib.hid (HP.out.kept hb)
        replace H9 := Lib.hid (heap_keep hb H9.out)
        clear hb
        have g0 := cell_of H9.out (i := 0) rfl
        have g1 := cell_of H9.out (i := 1) rfl
        have l9 := lt_of_heap H9.out
        have hb9 := (Below.refl _ v10).alloc (Nat.le_refl _) (.cells #[.int .i64 0, .int .i64 0] 36)
        replace BW := Lib.hid (BW.out.trans (hb9.mono BW.out.size))
        clear hb9 H9 HP
        go_wp2_with (fail)
        refine (equalV_any none none 0 0 0 (fun _ => 0) (fun _ => 0) _ (by omega) (.inl rfl) (.inl rfl) (fun i h => by omega)).mono ?_
        rintro e v16 ⟨rfl, hb⟩
        replace BW := Lib.hid (BW.out.trans (hb.mono BW.out.size))
        clear hb
        go_wp2_with (fail)
        refine (equalV_any none none 0 0 0 (fun _ => 0) (fun _ => 0) _ (by omega) (.inl rfl) (.inl rfl) (fun i h => by omega)).mono ?_
        rintro e v17 ⟨rfl, hb⟩
        replace BW := Lib.hid (BW.out.trans (hb.mono BW.out.size))
        clear hb
        go_wp2_with (fail)
        refine (flowed_any _).mono ?_
        rintro e v18 ⟨rfl, hb⟩
        replace BW := Lib.hid (BW.out.trans (hb.mono BW.out.size))
        clear hb
        go_wp2_with (fail)
        go_ret
        exact ⟨rfl, BW.out⟩

  · go_wp2_with (fail)
    refine (manyBeads_any B _ w3 HS.out (by omega)).mono ?_
    clear HP hn6 hcn
    rintro e w4 ⟨a, n, c, L, W, H, rfl, hn1, hn, hcn, hp, hmt⟩
    have HP := Lib.hid hp
    replace HM := Lib.hid (HM.out.trans (hmt.mono fun _ _ h => h))
    have BW : Hid (Below B w w4) := Lib.hid (HM.out.toBelow B (by rw [HBW.out]; exact Nat.le_refl _) (fun k hk e => by omega))
    have h101 : (100 : Int) < (n : Int) := by omega
    rw [HBW.out] at BW
    clear hp hmt HM HS HFA hl0
    rw [HBW.out]
    clear HBW
    go_wp2_with (fail)
    refine (checkBeads_any a n c L W H _ hn HP.out).mono ?_
    rintro e v1 ⟨rfl, hb⟩
    replace BW := Lib.hid (BW.out.trans (hb.mono BW.out.size))
    replace HP := Lib.hid (HP.out.kept hb)
    clear hb
    go_wp2_with (fail)
    refine (beadsFault_any a n c L W H _ hn HP.out).mono ?_
    rintro e v2 ⟨rfl, hb⟩
    replace BW := Lib.hid (BW.out.trans (hb.mono BW.out.size))
    replace HP := Lib.hid (HP.out.kept hb)
    clear hb
    have t1 : (bdE n L W H != bdE n L W H) = false := by simp
    go_wp2_with (fail)
    clear t1
    refine (Volume_any a n c L W H _ hn HP.out).mono ?_
    rintro e v3 ⟨rfl, hb⟩
    replace BW := Lib.hid (BW.out.trans (hb.mono BW.out.size))
    replace HP := Lib.hid (HP.out.kept hb)
    clear hb
    go_wp2_with (fail)
    refine (fedFault_any a n c L W H _ hn HP.out).mono ?_
    rintro e v4 ⟨rfl, hb⟩
    replace BW := Lib.hid (BW.out.trans (hb.mono BW.out.size))
    replace HP := Lib.hid (HP.out.kept hb)
    clear hb
    by_cases hf : fvE n L W H = 0
    · have HF := Lib.hid hf
      rw [hf, fvV_ok hf]
      have OKV : Hid (BdOk n L W H) := Lib.hid (bdE_ok (fvE_ok hf).1).2
      clear hf
      have t2 : (volZ L W H n != volZ L W H n) = false := by simp
      go_wp2_with (fail)
      refine (volumeFed_any a n c L W H _ hn HP.out OKV.out).mono ?_
      rintro e v5 ⟨rfl, hb⟩
      replace BW := Lib.hid (BW.out.trans (hb.mono BW.out.size))
      replace HP := Lib.hid (HP.out.kept hb)
      clear hb
      go_wp2_with (fail)
      clear t2 HF OKV
      by_cases hz : arE n L W H x = 0
      · have HZ := Lib.hid hz
        have OK := Lib.hid (arE_ok hz)
        have HNR := Lib.hid (show nrN n L W H x = ndN n L W H x ∧ nrD n L W H x = ndD n L W H x from ⟨if_pos hz, if_pos hz⟩)
        clear hz
        refine (Need_any a n c L W H x _ hn HP.out).mono ?_
        rintro e v6 ⟨rfl, hb⟩
        replace BW := Lib.hid (BW.out.trans (hb.mono BW.out.size))
        replace HP := Lib.hid (HP.out.kept hb)
        clear hb
        rw [HZ.out, HNR.out.1, HNR.out.2]
        obtain ⟨y, hy⟩ : ∃ y, ndN n L W H x = y := ⟨_, rfl⟩
        obtain ⟨z, hz⟩ : ∃ z, ndD n L W H x = z := ⟨_, rfl⟩
        rw [hy, hz]
        have HY := Lib.hid hy
        have HZZ := Lib.hid hz
        clear hy hz HNR
        go_wp2_with (fail)
        replace BW := Lib.hid (BW.out.alloc BW.out.size (.cells #[.int .i64 y, .int .i64 z] 36))
        replace HP := Lib.hid (HP.out.kept ((Below.refl _ v6).alloc (Nat.le_refl _) (.cells #[.int .i64 y, .int .i64 z] 36)))
        refine (areaFault_any a n c L W H x _ hn HP.out).mono ?_
        rintro e v7 ⟨rfl, hb⟩
        replace BW := Lib.hid (BW.out.trans (hb.mono BW.out.size))
        replace HP := Lib.hid (HP.out.kept hb)
        rw [HZ.out]
        clear hb
        go_wp2_with (fail)
        refine (flowed_any _).mono ?_
        rintro e v8 ⟨rfl, hb⟩
        replace BW := Lib.hid (BW.out.trans (hb.mono BW.out.size))
        clear hb
        go_wp2_with (fail)
        go_ret
        exact ⟨rfl, BW.out⟩
      · have HZ := Lib.hid hz
        have HNR := Lib.hid (show nrN n L W H x = 0 ∧ nrD n L W H x = 0 from ⟨if_neg hz, if_neg hz⟩)
        have hz1 : (arE n L W H x == 0) = false := by simpa using hz
        have hz2 : (arE n L W H x == arE n L W H x) = true := by simp
        clear hz
        refine (Need_any a n c L W H x _ hn HP.out).mono ?_
        rintro e v6 ⟨rfl, hb⟩
        replace BW := Lib.hid (BW.out.trans (hb.mono BW.out.size))
        replace HP := Lib.hid (HP.out.kept hb)
        clear hb
        rw [HNR.out.1, HNR.out.2]
        clear HNR
        go_wp2_with (fail)
        replace BW := Lib.hid (BW.out.alloc BW.out.size (.cells #[.int .i64 0, .int .i64 0] 36))
        replace HP := Lib.hid (HP.out.kept ((Below.refl _ v6).alloc (Nat.le_refl _) (.cells #[.int .i64 0, .int .i64 0] 36)))
        refine (areaFault_any a n c L W H x _ hn HP.out).mono ?_
        rintro e v7 ⟨rfl, hb⟩
        replace BW := Lib.hid (BW.out.trans (hb.mono BW.out.size))
        replace HP := Lib.hid (HP.out.kept hb)
        clear hb
        go_wp2_with (fail)
        refine (flowed_any _).mono ?_
        rintro e v8 ⟨rfl, hb⟩
        replace BW := Lib.hid (BW.out.trans (hb.mono BW.out.size))
        clear hb
        go_wp2_with (fail)
        go_ret
        exact ⟨rfl, BW.out⟩
    · have HF := Lib.hid hf
      rw [fvV_no hf]
      have t2 : (fvE n L W H == 0) = false := by simpa using hf
      have t3 : (fvE n L W H != 0) = true := by simpa using hf
      have t4 : (fvE n L W H != fvE n L W H) = false := by simp
      clear hf
      go_wp2_with (fail)
      clear t2 t3 t4 HF
      by_cases hz : arE n L W H x = 0
      · have HZ := Lib.hid hz
        have OK := Lib.hid (arE_ok hz)
        have HNR := Lib.hid (show nrN n L W H x = ndN n L W H x ∧ nrD n L W H x = ndD n L W H x from ⟨if_pos hz, if_pos hz⟩)
        clear hz
        refine (Need_any a n c L W H x _ hn HP.out).mono ?_
        rintro e v6 ⟨rfl, hb⟩
        replace BW := Lib.hid (BW.out.trans (hb.mono BW.out.size))
        replace HP := Lib.hid (HP.out.kept hb)
        clear hb
        rw [HZ.out, HNR.out.1, HNR.out.2]
        obtain ⟨y, hy⟩ : ∃ y, ndN n L W H x = y := ⟨_, rfl⟩
        obtain ⟨z, hz⟩ : ∃ z, ndD n L W H x = z := ⟨_, rfl⟩
        rw [hy, hz]
        have HY := Lib.hid hy
        have HZZ := Lib.hid hz
        clear hy hz HNR
        go_wp2_with (fail)
        replace BW := Lib.hid (BW.out.alloc BW.out.size (.cells #[.int .i64 y, .int .i64 z] 36))
        replace HP := Lib.hid (HP.out.kept ((Below.refl _ v6).alloc (Nat.le_refl _) (.cells #[.int .i64 y, .int .i64 z] 36)))
        refine (areaFault_any a n c L W H x _ hn HP.out).mono ?_
        rintro e v7 ⟨rfl, hb⟩
        replace BW := Lib.hid (BW.out.trans (hb.mono BW.out.size))
        replace HP := Lib.hid (HP.out.kept hb)
        rw [HZ.out]
        clear hb
        go_wp2_with (fail)
        refine (flowed_any _).mono ?_
        rintro e v8 ⟨rfl, hb⟩
        replace BW := Lib.hid (BW.out.trans (hb.mono BW.out.size))
        clear hb
        go_wp2_with (fail)
        go_ret
        exact ⟨rfl, BW.out⟩
      · have HZ := Lib.hid hz
        have HNR := Lib.hid (show nrN n L W H x = 0 ∧ nrD n L W H x = 0 from ⟨if_neg hz, if_neg hz⟩)
        have hz1 : (arE n L W H x == 0) = false := by simpa using hz
        have hz2 : (arE n L W H x == arE n L W H x) = true := by simp
        clear hz
        refine (Need_any a n c L W H x _ hn HP.out).mono ?_
        rintro e v6 ⟨rfl, hb⟩
        replace BW := Lib.hid (BW.out.trans (hb.mono BW.out.size))
        replace HP := Lib.hid (HP.out.kept hb)
        clear hb
        rw [HNR.out.1, HNR.out.2]
        clear HNR
        go_wp2_with (fail)
        replace BW := Lib.hid (BW.out.alloc BW.out.size (.cells #[.int .i64 0, .int .i64 0] 36))
        replace HP := Lib.hid (HP.out.kept ((Below.refl _ v6).alloc (Nat.le_refl _) (.cells #[.int .i64 0, .int .i64 0] 36)))
        refine (areaFault_any a n c L W H x _ hn HP.out).mono ?_
        rintro e v7 ⟨rfl, hb⟩
        replace BW := Lib.hid (BW.out.trans (hb.mono BW.out.size))
        replace HP := Lib.hid (HP.out.kept hb)
        clear hb
        go_wp2_with (fail)
        refine (flowed_any _).mono ?_
        rintro e v8 ⟨rfl, hb⟩
        replace BW := Lib.hid (BW.out.trans (hb.mono BW.out.size))
        clear hb
        go_wp2_with (fail)
        go_ret
        exact ⟨rfl, BW.out⟩

end Go.Proofs.Ytddnimbalfaieaa

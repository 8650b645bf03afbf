/- The law ProgramsRun. -/
import Derived.Test.YtgmpmaiddombeaaGv
import Derived.Deep.Cut
import Derived.Deep.CutRange
set_option linter.unusedSimpArgs false
set_option linter.unusedVariables false
namespace Go.Proofs.Ytgmpmaiddombeaa
open Go.RowKit
theorem masR_mut {w w' : World} {C : Nat → Prop} {n : Nat} {a : Option Addr} {M : Nat → Ma} (h : MasR w a n M) (hm : Mut C w w') (hb : ∀ x, a = some x → ¬ C x.block) : MasR w' a n M := by
  rcases h with h | ⟨b, off, rfl, h1, h2⟩
  · exact .inl h
  · have hne := hb _ rfl
    exact .inr ⟨b, off, rfl, Nat.lt_of_lt_of_le h1 hm.size, fun i hi => by
      obtain ⟨p0, p1, p2, p3, p4, p5, p6, p7⟩ := h2 i hi
      exact ⟨(hm.cell (p := ⟨b, off + i * 8, none⟩) h1 hne).trans p0, (hm.cell (p := ⟨b, off + i * 8 + 1, none⟩) h1 hne).trans p1, (hm.cell (p := ⟨b, off + i * 8 + 2, none⟩) h1 hne).trans p2, (hm.cell (p := ⟨b, off + i * 8 + 3, none⟩) h1 hne).trans p3, (hm.cell (p := ⟨b, off + i * 8 + 4, none⟩) h1 hne).trans p4, (hm.cell (p := ⟨b, off + i * 8 + 5, none⟩) h1 hne).trans p5, (hm.cell (p := ⟨b, off + i * 8 + 6, none⟩) h1 hne).trans p6, (hm.cell (p := ⟨b, off + i * 8 + 7, none⟩) h1 hne).trans p7⟩⟩
theorem masR_mut2 {w w' : World} {C : Nat → Prop} {n : Nat} {a : Option Addr} {M : Nat → Ma} (h : MasR w a n M) (hm : Mut C w w') (hb : 0 < n → ∀ x, a = some x → ¬ C x.block) : MasR w' a n M := by
  rcases Nat.eq_zero_or_pos n with h0 | h0
  · exact .inl h0
  · exact masR_mut h hm (hb h0)
theorem masR_blk {w : World} {n : Nat} {a : Option Addr} {M : Nat → Ma} (h : MasR w a n M) (h0 : 0 < n) : ∀ x, a = some x → x.block < w.heap.size := by
  rcases h with h | ⟨b, off, rfl, h1, _⟩
  · omega
  · intro x hx; cases hx; exact h1
set_option maxRecDepth 100000 in
set_option maxHeartbeats 32000000 in
theorem programsRun_walk (a0 : Option Addr) (len0 cap0 : Nat) (z0 : List Int) (w : World) (w0 : IsRow .i64 w a0 len0 cap0 z0) :
    Calls Try.prog 3 #[.slice a0 len0 cap0] w fun e w' => e = .returned (.bool true) ∧ Below w.heap.size w w' := by
  have HS0 := Lib.hid (Strm.start w0)
  go_enter Try.func3, Try.ntmps3
  go_wp2_with (fail)
  have HM0 : Hid (Mut (· = w.heap.size) w (w.alloc (.cells #[.slice a0 len0 cap0, .int .i64 0] 25))) := Lib.hid ((Mut.refl _ w).alloc _)
  generalize (w.alloc (.cells #[.slice a0 len0 cap0, .int .i64 0] 25)) = ws at *
  obtain ⟨B, hBw⟩ : ∃ B, B = w.heap.size := ⟨_, rfl⟩
  rw [← hBw] at HS0 HM0 ⊢
  have HBW := Lib.hid hBw
  clear hBw
  refine (stepList_any B 0 12 ws HS0.out (by omega) (by omega)).mono ?_
  rintro e w1 ⟨a, n, c, S, rfl, hn, hnc, hp, hf, hst, hmt⟩
  have HP := Lib.hid hp
  have HF := Lib.hid hf
  have HS := Lib.hid hst
  have HM := Lib.hid (HM0.out.trans (hmt.mono fun _ _ h => h))
  clear hp hf hst hmt HS0 HM0
  go_wp2_with (fail)
  refine (stepList_any B _ 4 w1 HS.out (by omega) (by omega)).mono ?_
  rintro e w2 ⟨a2, n2, c2, T, rfl, hn2, hnc2, hp2, hf2, hst, hmt⟩
  have HP2 := Lib.hid hp2
  have HF2 := Lib.hid hf2
  replace HP := Lib.hid (HP.out.mut hmt HF.out)
  replace HS := Lib.hid hst
  replace HM := Lib.hid (HM.out.trans (hmt.mono fun _ _ h => h))
  clear hp2 hf2 hst hmt
  go_upto_region 3 with (fail)
  obtain ⟨E, hE⟩ : ∃ E, stepsE n S = E := ⟨_, rfl⟩
  have HE := Lib.hid hE
  clear hE
  go_cut [31] from 25 to 30 (fun v wx => ∃ fb, v = .bool fb ∧ (fb = true → E = 0) ∧ StepsR wx a n S ∧ StepsR wx a2 n2 T ∧ Strm wx B (0 + 200 + 200 + 1) ∧ Mut (· = B) w wx)
  case first =>
    go_wp2_with (fail)
    refine (stepsFault_any a n c S w2 (by omega) HP.out).mono ?_
    rintro e w3 ⟨rfl, hb⟩
    replace HP := Lib.hid (HP.out.kept hb)
    replace HP2 := Lib.hid (HP2.out.kept hb)
    replace HS := Lib.hid (StrmG.below HS.out hb)
    replace HM := Lib.hid (HM.out.below hb)
    clear hb
    rw [HE.out]
    by_cases hz : E = 0
    · subst hz
      go_wp2_with (fail)
      refine (flip_any B _ 2 w3 HS.out (by omega) (by omega) (by omega)).mono ?_
      rintro e w4 ⟨⟨f, rfl⟩, hst, hmt⟩
      replace HP := Lib.hid (HP.out.mut hmt HF.out)
      replace HP2 := Lib.hid (HP2.out.mut hmt HF2.out)
      replace HS := Lib.hid hst
      replace HM := Lib.hid (HM.out.trans (hmt.mono fun _ _ h => h))
      clear hst hmt
      go_wp2_with (fail)
      go_meet
      exact ⟨f, rfl, (by simp), HP.out, HP2.out, HS.out, HM.out⟩
    · have hz' : (E == 0) = false := by simpa using hz
      go_wp2_with (fail)
      go_meet
      exact ⟨false, rfl, (fun h => by cases h), HP.out, HP2.out, HS.out.more (by omega) (by omega), HM.out⟩
  case rest =>
    obtain ⟨fb, rfl, hfb, hp, hp2, hst, hmt⟩ := hcut
    replace HP := Lib.hid hp
    replace HP2 := Lib.hid hp2
    replace HS := Lib.hid hst
    replace HM := Lib.hid hmt
    have HFB := Lib.hid hfb
    clear hp hp2 hst hmt hfb
    go_upto_if 31 with (fail)
    go_cut [5, 6] from 32 to 53 (fun v _ wx => ∃ a2 n2 c2 T, v = .slice a2 n2 c2 ∧ n2 ≤ 20 ∧ n2 ≤ c2 ∧ StepsR wx a2 n2 T ∧ StepsR wx a n S ∧ Mut (· = B) w wx)
    case first =>
      rcases fb with _ | _
      · go_wp2_with (fail)
        go_meet
        exact ⟨a2, n2, c2, T, rfl, by omega, hnc2, HP2.out, HP.out, HM.out⟩
      · have HOK := Lib.hid (fun i hi => sok (stepsE_zero (HE.out.trans (HFB.out rfl)) i hi))
        go_wp2_with (fail)
        refine (absoluteOf_any a n c S wc (by omega) HOK.out HP.out).mono ?_
        rintro e w5 ⟨ao, no, co, T', rfl, hno, hnco, hpo, hb, -, -, hbo⟩
        have HPO := Lib.hid hpo
        have hBc := HS.out.lt
        have HBO := Lib.hid (fun (h : 0 < no) (x : Addr) (hx : ao = some x) => (show ¬ x.block = B by have := hbo h x hx; omega))
        clear hbo
        replace HP := Lib.hid (HP.out.kept hb)
        replace HS := Lib.hid (StrmG.below HS.out hb)
        replace HM := Lib.hid (HM.out.below hb)
        clear hpo hb HP2
        by_cases h0 : 0 < no
        · have h0' : (0 : Int) < (no : Int) := by omega
          go_wp2_with (fail)
          refine (flip_any B _ 3 w5 HS.out (by omega) (by omega) (by omega)).mono ?_
          rintro e w6 ⟨⟨f, rfl⟩, hst, hmt⟩
          have HPO6 := Lib.hid (HPO.out.mutC hmt HBO.out)
          replace HP := Lib.hid (HP.out.mut hmt HF.out)
          replace HS := Lib.hid hst
          replace HM := Lib.hid (HM.out.trans (hmt.mono fun _ _ h => h))
          clear hst hmt HPO
          rcases f with _ | _
          · go_wp2_with (fail)
            go_meet
            exact ⟨ao, no, co, T', rfl, by omega, hnco, HPO6.out, HP.out, HM.out⟩
          · go_wp2_with (fail)
            refine (next_any B _ no w6 HS.out (by omega) (by omega) (by omega)).mono ?_
            rintro e w7 ⟨⟨r, rfl, hr0, hr1⟩, hst, hmt⟩
            obtain ⟨i, rfl⟩ := Int.eq_ofNat_of_zero_le hr0
            have HPO7 := Lib.hid (HPO6.out.mutC hmt HBO.out)
            replace HP := Lib.hid (HP.out.mut hmt HF.out)
            replace HS := Lib.hid hst
            replace HM := Lib.hid (HM.out.trans (hmt.mono fun _ _ h => h))
            have hi : i < no := by omega
            clear hst hmt HPO6 hr0 hr1
            rcases HPO7.out with h | ⟨b, off, rfl, hbl, -⟩
            · omega
            go_wp2_with (fail)
            refine (clone_any b off no co T' w7 hbl HPO7.out h0 (by omega)).mono ?_
            rintro e w8 ⟨g, cg, rfl, hown, hb⟩
            have HOW := Lib.hid hown
            have HBA := Lib.hid HP.out.blk
            have HMS := Lib.hid HM.out.size
            replace HP := Lib.hid (HP.out.kept hb)
            have HM8 := Lib.hid (HM.out.below hb)
            have hg7 := (hown.lt g rfl).1
            clear hown hb HPO7
            obtain ⟨mm, hmm⟩ : ∃ mm, no = i + 1 + mm := ⟨no - (i + 1), by omega⟩
            subst hmm
            have hw1 : IntKind.i64.wrap ((i : Int) + 1) = (i : Int) + 1 := i64w (by omega)
            go_wp2_with (fail)
            refine (delete_any w7.heap.size g mm cg i (fun _ => True) _ w8 HOW.out (sV_int T' _) (by omega)).mono ?_
            rintro e w9 ⟨xs, rfl, hown, hall, hm9⟩
            rw [show i + 1 + mm - 1 = i + mm by omega] at hown
            try rw [show i + 1 + mm - 1 = i + mm by omega]
            have HOW9 := Lib.hid hown
            obtain ⟨T9, hT9⟩ := steps_of_int hown hall
            have HT9 := Lib.hid hT9
            have hgw : w.heap.size ≤ g := by have := HMS.out; omega
            have HP9 := Lib.hid (HP.out.mutC hm9 (fun h x hx e => by have := HBA.out h x hx; omega))
            have HM9 := Lib.hid (HM8.out.after hm9 (fun x hx h => by omega))
            clear hown hall hm9 hT9
            go_wp2_with (fail)
            go_meet
            exact ⟨_, _, cg, T9, rfl, by omega, own_cap HOW9.out, HT9.out, HP9.out, HM9.out⟩
        · have h0' : ¬ (0 : Int) < (no : Int) := by omega
          go_wp2_with (fail)
          go_meet
          exact ⟨ao, no, co, T', rfl, by omega, hnco, HPO.out, HP.out, HM.out⟩
    case rest =>
      obtain ⟨a2, n2, c2, T, rfl, hn2, hnc2, hp2, hp, hmt⟩ := hcut
      replace HP2 := Lib.hid hp2
      replace HP := Lib.hid hp
      have BW : Hid (Below B w wc) := Lib.hid (hmt.toBelow B (by rw [HBW.out]; exact Nat.le_refl _) (fun k hk e => by omega))
      rw [HBW.out] at BW
      try rw [HBW.out]
      clear hp hp2 hmt HBW HM HS HF HF2 HFB
      go_wp2_with (fail)
      refine (runP_any a n c S _ (by omega) HP.out).mono ?_
      rintro e y1 ⟨ax, cx, rfl, hx, hb⟩
      replace BW := Lib.hid (BW.out.trans (hb.mono BW.out.size))
      replace HP := Lib.hid (HP.out.kept hb)
      replace HP2 := Lib.hid (HP2.out.kept hb)
      have HX := Lib.hid hx
      clear hx
      clear hb
      rw [HE.out]
      go_wp2_with (fail)
      refine (last_any a n c S _ (by omega) HP.out).mono ?_
      rintro e y2 ⟨rfl, hb⟩
      replace BW := Lib.hid (BW.out.trans (hb.mono BW.out.size))
      replace HP := Lib.hid (HP.out.kept hb)
      replace HP2 := Lib.hid (HP2.out.kept hb)
      replace HX := Lib.hid (HX.out.kept hb)
      clear hb
      rw [HE.out]
      obtain ⟨ml, hml⟩ : ∃ ml, lastM n S = ml := ⟨_, rfl⟩
      have HML := Lib.hid hml
      rw [hml]
      clear hml
      go_wp2_with (fail)
      have hb : Below y2.heap.size y2 (y2.alloc (.cells #[.int .i64 ml.x, .int .i64 ml.y, .int .i64 ml.z, .int .i64 ml.s, .int .i64 ml.h, .int .i64 ml.t, .int .i64 ml.f, .bool ml.r] 42)) := (Below.refl _ _).alloc (Nat.le_refl _) _
      have YL := Lib.hid (heap_alloc_new y2 (.cells #[.int .i64 ml.x, .int .i64 ml.y, .int .i64 ml.z, .int .i64 ml.s, .int .i64 ml.h, .int .i64 ml.t, .int .i64 ml.f, .bool ml.r] 42))
      replace BW := Lib.hid (BW.out.trans (hb.mono BW.out.size))
      replace HP := Lib.hid (HP.out.kept hb)
      replace HP2 := Lib.hid (HP2.out.kept hb)
      replace HX := Lib.hid (HX.out.kept hb)
      generalize (y2.alloc (.cells #[.int .i64 ml.x, .int .i64 ml.y, .int .i64 ml.z, .int .i64 ml.s, .int .i64 ml.h, .int .i64 ml.t, .int .i64 ml.f, .bool ml.r] 42)) = v1 at *
      obtain ⟨p9, hp9⟩ : ∃ p, y2.heap.size = p := ⟨_, rfl⟩
      rw [hp9] at YL
      try rw [hp9]
      clear hp9 hb
      refine (same_any a n c S a2 n2 c2 T _ (by omega) (by omega) HP.out HP2.out).mono ?_
      rintro e v2 ⟨rfl, hb⟩
      replace BW := Lib.hid (BW.out.trans (hb.mono BW.out.size))
      replace HP := Lib.hid (HP.out.kept hb)
      replace HP2 := Lib.hid (HP2.out.kept hb)
      replace HX := Lib.hid (HX.out.kept hb)
      replace YL := Lib.hid (heap_keep hb YL.out)
      clear hb
      obtain ⟨E2, hE2⟩ : ∃ E2, sameE n S n2 T = E2 := ⟨_, rfl⟩
      have HE2 := Lib.hid hE2
      obtain ⟨ok, hok⟩ : ∃ ok, sameB n S n2 T = ok := ⟨_, rfl⟩
      have HOKB := Lib.hid hok
      rw [hE2, hok]
      clear hE2 hok
      go_wp2_with (fail)
      refine (stepsFault_any a n c S _ (by omega) HP.out).mono ?_
      rintro e y3 ⟨rfl, hb⟩
      replace BW := Lib.hid (BW.out.trans (hb.mono BW.out.size))
      replace HP := Lib.hid (HP.out.kept hb)
      replace HP2 := Lib.hid (HP2.out.kept hb)
      replace HX := Lib.hid (HX.out.kept hb)
      replace YL := Lib.hid (heap_keep hb YL.out)
      clear hb
      rw [HE.out]
      go_wp2_with (fail)
      refine (stepsFault_any a n c S _ (by omega) HP.out).mono ?_
      rintro e y4 ⟨rfl, hb⟩
      replace BW := Lib.hid (BW.out.trans (hb.mono BW.out.size))
      replace HP := Lib.hid (HP.out.kept hb)
      replace HP2 := Lib.hid (HP2.out.kept hb)
      replace HX := Lib.hid (HX.out.kept hb)
      replace YL := Lib.hid (heap_keep hb YL.out)
      clear hb
      rw [HE.out]
      go_wp2_with (fail)
      refine (stepsFault_any a2 n2 c2 T _ (by omega) HP2.out).mono ?_
      rintro e y5 ⟨rfl, hb⟩
      replace BW := Lib.hid (BW.out.trans (hb.mono BW.out.size))
      replace HP := Lib.hid (HP.out.kept hb)
      replace HP2 := Lib.hid (HP2.out.kept hb)
      replace HX := Lib.hid (HX.out.kept hb)
      replace YL := Lib.hid (heap_keep hb YL.out)
      clear hb
      have HEE := Lib.hid (show (if E = 0 then stepsE n2 T else E) = E2 by rw [← HE2.out]; unfold sameE; rw [HE.out])
      obtain ⟨E3, hE3⟩ : ∃ E3, stepsE n2 T = E3 := ⟨_, rfl⟩
      have HE3 := Lib.hid hE3
      rw [hE3] at HEE ⊢
      clear hE3
      go_wp2_with (fail)
      refine (errs2_any _ _ _ _ rfl).mono ?_
      rintro e v3 ⟨rfl, hv3⟩
      have hb : Below y5.heap.size y5 v3 := hv3 ▸ (Below.refl _ _).alloc (Nat.le_refl _) _
      replace BW := Lib.hid (BW.out.trans (hb.mono BW.out.size))
      replace HP := Lib.hid (HP.out.kept hb)
      replace HP2 := Lib.hid (HP2.out.kept hb)
      replace HX := Lib.hid (HX.out.kept hb)
      replace YL := Lib.hid (heap_keep hb YL.out)
      rw [HEE.out]
      clear hb hv3
      go_upto_region 14 with (fail)
      have hb : Below v3.heap.size v3 (v3.alloc (.cells #[.int .i64 0, .int .i64 0, .int .i64 0, .int .i64 0, .int .i64 0, .int .i64 0, .int .i64 0, .bool false] 42)) := (Below.refl _ _).alloc (Nat.le_refl _) _
      have YZ : Hid ((v3.alloc (.cells #[.int .i64 0, .int .i64 0, .int .i64 0, .int .i64 0, .int .i64 0, .int .i64 0, .int .i64 0, .bool false] 42)).heap[v3.heap.size]? = some (.cells #[.int .i64 m00.x, .int .i64 m00.y, .int .i64 m00.z, .int .i64 m00.s, .int .i64 m00.h, .int .i64 m00.t, .int .i64 m00.f, .bool m00.r] 42 (0, 0))) := Lib.hid (heap_alloc_new v3 (.cells #[.int .i64 0, .int .i64 0, .int .i64 0, .int .i64 0, .int .i64 0, .int .i64 0, .int .i64 0, .bool false] 42))
      have hvq0 := BW.out.size
      have HPB := Lib.hid HP.out.blk
      have HP2B := Lib.hid HP2.out.blk
      have HXB := Lib.hid (masR_blk HX.out)
      have hpq := lt_of_heap YL.out
      replace BW := Lib.hid (BW.out.trans (hb.mono BW.out.size))
      replace HP := Lib.hid (HP.out.kept hb)
      replace HP2 := Lib.hid (HP2.out.kept hb)
      replace HX := Lib.hid (HX.out.kept hb)
      replace YL := Lib.hid (heap_keep hb YL.out)
      generalize (v3.alloc (.cells #[.int .i64 0, .int .i64 0, .int .i64 0, .int .i64 0, .int .i64 0, .int .i64 0, .int .i64 0, .bool false] 42)) = v4 at *
      obtain ⟨q9, hq9⟩ : ∃ q, v3.heap.size = q := ⟨_, rfl⟩
      rw [hq9] at YZ hvq0 HPB HP2B HXB hpq
      try rw [hq9]
      clear hq9 hb
      go_upto_if 80 with (fail)
      go_cut [15] from 81 to 84 (fun v wx => ∃ ax2 cx2, v = .slice ax2 (runN n S) cx2 ∧ MasR wx ax2 (runN n S) (fun i => run S (i + 1)) ∧ wx.heap[q9]? = some (.cells #[.int .i64 ml.x, .int .i64 ml.y, .int .i64 ml.z, .int .i64 ml.s, .int .i64 ml.h, .int .i64 ml.t, .int .i64 ml.f, .bool ml.r] 42 (0, 0)) ∧ Mut (· = q9) v4 wx)
      case first =>
        by_cases hz : E = 0
        · have HOK := Lib.hid (fun i hi => sok (stepsE_zero (HE.out.trans hz) i hi))
          have HRN := Lib.hid (show runN n S = n by unfold runN; rw [if_pos (HE.out.trans hz)])
          have HLM := Lib.hid (show run S n = ml by rw [← HML.out]; unfold lastM; rw [if_pos (HE.out.trans hz)])
          subst hz
          go_wp2_with (fail)
          refine (runsOf_any a n c S _ (by omega) hnc HOK.out HP.out).mono ?_
          rintro e v5 ⟨ax2, cx2, rfl, hx2, hb, hnew⟩
          have hq4 := lt_of_heap YZ.out
          have HNW := Lib.hid hnew
          clear hnew
          have HX2 := Lib.hid hx2
          have HP5 := Lib.hid (HP.out.kept hb)
          have YZ5 := Lib.hid (heap_keep hb YZ.out)
          have B5 := Lib.hid hb
          clear hb hx2
          go_wp2_with (fail)
          refine (lastOf_any a n c S _ (by omega) HOK.out HP5.out).mono ?_
          rintro e v6 ⟨rfl, hb⟩
          rw [HLM.out]
          have HX6 := Lib.hid (HX2.out.kept hb)
          have YZ6 := Lib.hid (heap_keep hb YZ5.out)
          have B6 := Lib.hid (B5.out.trans (hb.mono B5.out.size))
          clear hb
          have e0 : v6.cell? ⟨q9, 0, none⟩ = some (.int .i64 m00.x) := cell_of YZ6.out (i := 0) rfl
          have e1 : v6.cell? ⟨q9, 1, none⟩ = some (.int .i64 m00.y) := cell_of YZ6.out (i := 1) rfl
          have e2 : v6.cell? ⟨q9, 2, none⟩ = some (.int .i64 m00.z) := cell_of YZ6.out (i := 2) rfl
          have e3 : v6.cell? ⟨q9, 3, none⟩ = some (.int .i64 m00.s) := cell_of YZ6.out (i := 3) rfl
          have e4 : v6.cell? ⟨q9, 4, none⟩ = some (.int .i64 m00.h) := cell_of YZ6.out (i := 4) rfl
          have e5 : v6.cell? ⟨q9, 5, none⟩ = some (.int .i64 m00.t) := cell_of YZ6.out (i := 5) rfl
          have e6 : v6.cell? ⟨q9, 6, none⟩ = some (.int .i64 m00.f) := cell_of YZ6.out (i := 6) rfl
          have e7 : v6.cell? ⟨q9, 7, none⟩ = some (.bool m00.r) := cell_of YZ6.out (i := 7) rfl
          have gq := fun i => frozen_of (i := i) YZ6.out
          go_wp2_with (fail)
          obtain ⟨hx7, hm7⟩ := storeMa (W := ((((((((v6.setCell ⟨q9, 0, none⟩ (.int .i64 ml.x)).setCell ⟨q9, 1, none⟩ (.int .i64 ml.y)).setCell ⟨q9, 2, none⟩ (.int .i64 ml.z)).setCell ⟨q9, 3, none⟩ (.int .i64 ml.s)).setCell ⟨q9, 4, none⟩ (.int .i64 ml.h)).setCell ⟨q9, 5, none⟩ (.int .i64 ml.t)).setCell ⟨q9, 6, none⟩ (.int .i64 ml.f)).setCell ⟨q9, 7, none⟩ (.bool ml.r))) YZ6.out (m2 := ml) rfl
          generalize ((((((((v6.setCell ⟨q9, 0, none⟩ (.int .i64 ml.x)).setCell ⟨q9, 1, none⟩ (.int .i64 ml.y)).setCell ⟨q9, 2, none⟩ (.int .i64 ml.z)).setCell ⟨q9, 3, none⟩ (.int .i64 ml.s)).setCell ⟨q9, 4, none⟩ (.int .i64 ml.h)).setCell ⟨q9, 5, none⟩ (.int .i64 ml.t)).setCell ⟨q9, 6, none⟩ (.int .i64 ml.f)).setCell ⟨q9, 7, none⟩ (.bool ml.r)) = v7 at *
          have HX7 := Lib.hid (masR_mut HX6.out hm7 (fun x hx e => by have := HNW.out x hx; omega))
          have HM7 := Lib.hid (show Mut (· = q9) v4 v7 from ((Mut.refl _ v4).below B6.out).after hm7 (fun b _ h => h))
          go_meet
          exact ⟨ax2, cx2, by rw [HRN.out], by rw [HRN.out]; exact HX7.out, hx7, HM7.out⟩
        · have hz' : (E == 0) = false := by simpa using hz
          have HRN := Lib.hid (show runN n S = 0 by unfold runN; rw [if_neg (by rw [HE.out]; exact hz)])
          have HLM := Lib.hid (show m00 = ml by rw [← HML.out]; unfold lastM; rw [if_neg (by rw [HE.out]; exact hz)])
          go_wp2_with (fail)
          go_meet
          exact ⟨none, 0, by rw [HRN.out], by rw [HRN.out]; exact .inl rfl, by rw [← HLM.out]; exact YZ.out, Mut.refl _ _⟩
      case rest =>
        obtain ⟨ax2, cx2, rfl, hx2, hy2, hm2⟩ := hcut
        have HX2 := Lib.hid hx2
        replace YZ := Lib.hid hy2
        replace HP := Lib.hid (HP.out.mutC hm2 (fun h x hx e => by have := HPB.out h x hx; omega))
        replace HP2 := Lib.hid (HP2.out.mutC hm2 (fun h x hx e => by have := HP2B.out h x hx; omega))
        replace HX := Lib.hid (masR_mut2 HX.out hm2 (fun h x hx e => by have := HXB.out h x hx; omega))
        replace YL := Lib.hid (heap_mut YL.out hm2 (by omega))
        replace BW := Lib.hid (BW.out.trans (hm2.toBelow w.heap.size BW.out.size (fun b hb h => by omega)))
        clear hx2 hy2 hm2 HPB HP2B HXB
        obtain ⟨v8, hv8⟩ : ∃ v, wc = v := ⟨_, rfl⟩
        rw [hv8] at HX2 YZ HP HP2 HX YL BW ⊢
        clear hv8
        go_upto_region 16 with (fail)
        go_cut [17] from 85 to 91 (fun v wx => v = .bool ok ∧ Below v8.heap.size v8 wx)
        case first =>
          by_cases hz : E2 = 0
          · have hE0 : stepsE n S = 0 := by
              have h := HE2.out
              unfold sameE at h
              by_cases h0 : stepsE n S = 0
              · exact h0
              · rw [if_neg h0] at h; omega
            have hT0 : stepsE n2 T = 0 := by
              have h := HE2.out
              unfold sameE at h
              rw [if_pos hE0] at h; omega
            have HOK1 := Lib.hid (fun i hi => sok (stepsE_zero hE0 i hi))
            have HOK2 := Lib.hid (fun i hi => sok (stepsE_zero hT0 i hi))
            have HR := Lib.hid (show decide (syL S n = syL T n2) = ok by rw [← HOKB.out]; unfold sameB; rw [if_pos (by rw [HE2.out]; exact hz)])
            clear hE0 hT0
            subst hz
            go_wp2_with (fail)
            refine (sameSteps_any a n c S a2 n2 c2 T _ (by omega) (by omega) hnc hnc2 HOK1.out HOK2.out HP.out HP2.out).mono ?_
            rintro e v9 ⟨rfl, hb⟩
            rw [HR.out]
            have HB := Lib.hid hb
            clear hb
            go_wp2_with (fail)
            go_meet
            exact ⟨rfl, HB.out⟩
          · have hz' : (E2 == 0) = false := by simpa using hz
            have HR := Lib.hid (show ok = false by rw [← HOKB.out]; unfold sameB; rw [if_neg (by rw [HE2.out]; exact hz)])
            go_wp2_with (fail)
            go_meet
            exact ⟨by rw [HR.out], Below.refl _ _⟩
        case rest =>
          obtain ⟨rfl, hb⟩ := hcut
          replace BW := Lib.hid (BW.out.trans (hb.mono BW.out.size))
          replace HP := Lib.hid (HP.out.kept hb)
          replace HP2 := Lib.hid (HP2.out.kept hb)
          replace HX := Lib.hid (HX.out.kept hb)
          replace HX2 := Lib.hid (HX2.out.kept hb)
          replace YL := Lib.hid (heap_keep hb YL.out)
          replace YZ := Lib.hid (heap_keep hb YZ.out)
          clear hb
          have z1 : (E == E) = true := by simp
          have z2 : (E2 == E2) = true := by simp
          have z3 : (ok == ok) = true := by simp
          have hr18 : runN n S ≤ 5000 := by unfold runN; split <;> omega
          go_wp2_with (fail)
          refine (checkSteps_any a n c S _ (by omega) HP.out).mono ?_
          rintro e v10 ⟨rfl, hb⟩
          rw [HE.out]
          replace BW := Lib.hid (BW.out.trans (hb.mono BW.out.size))
          replace HP := Lib.hid (HP.out.kept hb)
          replace HP2 := Lib.hid (HP2.out.kept hb)
          replace HX := Lib.hid (HX.out.kept hb)
          replace HX2 := Lib.hid (HX2.out.kept hb)
          replace YL := Lib.hid (heap_keep hb YL.out)
          replace YZ := Lib.hid (heap_keep hb YZ.out)
          clear hb
          go_wp2_with (fail)
          refine (equalM_any ax ax2 (runN n S) cx cx2 _ _ hr18 HX.out HX2.out).mono ?_
          rintro e v11 ⟨rfl, hb⟩
          replace BW := Lib.hid (BW.out.trans (hb.mono BW.out.size))
          replace HP := Lib.hid (HP.out.kept hb)
          replace HP2 := Lib.hid (HP2.out.kept hb)
          replace HX := Lib.hid (HX.out.kept hb)
          replace HX2 := Lib.hid (HX2.out.kept hb)
          replace YL := Lib.hid (heap_keep hb YL.out)
          replace YZ := Lib.hid (heap_keep hb YZ.out)
          clear hb
          have d0 : v11.cell? ⟨p9, 0, none⟩ = some (.int .i64 ml.x) := cell_of YL.out (i := 0) rfl
          have d1 : v11.cell? ⟨p9, 1, none⟩ = some (.int .i64 ml.y) := cell_of YL.out (i := 1) rfl
          have d2 : v11.cell? ⟨p9, 2, none⟩ = some (.int .i64 ml.z) := cell_of YL.out (i := 2) rfl
          have d3 : v11.cell? ⟨p9, 3, none⟩ = some (.int .i64 ml.s) := cell_of YL.out (i := 3) rfl
          have d4 : v11.cell? ⟨p9, 4, none⟩ = some (.int .i64 ml.h) := cell_of YL.out (i := 4) rfl
          have d5 : v11.cell? ⟨p9, 5, none⟩ = some (.int .i64 ml.t) := cell_of YL.out (i := 5) rfl
          have d6 : v11.cell? ⟨p9, 6, none⟩ = some (.int .i64 ml.f) := cell_of YL.out (i := 6) rfl
          have d7 : v11.cell? ⟨p9, 7, none⟩ = some (.bool ml.r) := cell_of YL.out (i := 7) rfl
          have e0 : v11.cell? ⟨q9, 0, none⟩ = some (.int .i64 ml.x) := cell_of YZ.out (i := 0) rfl
          have e1 : v11.cell? ⟨q9, 1, none⟩ = some (.int .i64 ml.y) := cell_of YZ.out (i := 1) rfl
          have e2 : v11.cell? ⟨q9, 2, none⟩ = some (.int .i64 ml.z) := cell_of YZ.out (i := 2) rfl
          have e3 : v11.cell? ⟨q9, 3, none⟩ = some (.int .i64 ml.s) := cell_of YZ.out (i := 3) rfl
          have e4 : v11.cell? ⟨q9, 4, none⟩ = some (.int .i64 ml.h) := cell_of YZ.out (i := 4) rfl
          have e5 : v11.cell? ⟨q9, 5, none⟩ = some (.int .i64 ml.t) := cell_of YZ.out (i := 5) rfl
          have e6 : v11.cell? ⟨q9, 6, none⟩ = some (.int .i64 ml.f) := cell_of YZ.out (i := 6) rfl
          have e7 : v11.cell? ⟨q9, 7, none⟩ = some (.bool ml.r) := cell_of YZ.out (i := 7) rfl
          have hE := fun wx => eql_ma ml ml wx
          have hv : decide (ml = ml) = true := by simp
          rw [hv] at hE
          have hG := gd_ma
          clear hv
          go_wp2_with (fail)
          refine (coded_any _).mono ?_
          rintro e v12 ⟨rfl, hb⟩
          replace BW := Lib.hid (BW.out.trans (hb.mono BW.out.size))
          clear hb
          go_wp2_with (fail)
          go_ret
          exact ⟨rfl, BW.out⟩
end Go.Proofs.Ytgmpmaiddombeaa

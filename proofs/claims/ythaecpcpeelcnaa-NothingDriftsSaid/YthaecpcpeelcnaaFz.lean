/- The law NothingDrifts. -/
import Derived.Test.YthaecpcpeelcnaaFy
import Derived.Test.YthaecpcpeelcnaaBe
import Derived.Test.YthaecpcpeelcnaaZv
import Derived.Deep.Cut
import Derived.BigQuiet
import Derived.Deep.QuietTactic
set_option linter.unusedSimpArgs false
set_option linter.unusedVariables false
namespace Go.Proofs.Ythaecpcpeelcnaa
open Go.RowKit
set_option maxRecDepth 100000 in
set_option maxHeartbeats 32000000 in
theorem nothingDrifts_walk (a0 : Option Addr) (len0 cap0 : Nat) (z0 : List Int) (w : World) (w0 : IsRow .i64 w a0 len0 cap0 z0) :
    Calls Try.prog 4 #[.slice a0 len0 cap0] w fun e w' => e = .returned (.bool true) ∧ Below w.heap.size w w' := by
  have HS0 := Lib.hid (Strm.start w0)
  go_enter Try.func4, Try.ntmps4
  go_wp2_with (fail)
  have HM0 : Hid (Mut (· = w.heap.size) w (w.alloc (.cells #[.slice a0 len0 cap0, .int .i64 0] 25))) := Lib.hid ((Mut.refl _ w).alloc _)
  generalize (w.alloc (.cells #[.slice a0 len0 cap0, .int .i64 0] 25)) = ws at *
  obtain ⟨B, hBw⟩ : ∃ B, B = w.heap.size := ⟨_, rfl⟩
  rw [← hBw] at HS0 HM0 ⊢
  have HBW := Lib.hid hBw
  clear hBw
  refine (beadList_any B 0 _ HS0.out (by omega)).mono ?_
  rintro e w1 ⟨a, n, c, L, W', H, rfl, hn6, hcn, hp, hfa, hst, hmt⟩
  have HP := Lib.hid hp
  have HFA := Lib.hid hfa
  have HS := Lib.hid hst
  have HM := Lib.hid (HM0.out.trans (hmt.mono fun _ _ h => h))
  clear hp hfa hst hmt HS0 HM0
  go_wp2_with (fail)
  refine (pick_atV B _ [1, 7, 40, 2405282] 4 (fun x => 1 ≤ x ∧ x ≤ 2405282) w1 _ rfl HS.out (by omega) rfl (by omega) (by omega) (by simp)).mono ?_
  rintro e w2 ⟨⟨x, rfl, hx⟩, hst, hmt⟩
  replace HP := Lib.hid (HP.out.mut hmt HFA.out)
  replace HS := Lib.hid hst
  replace HM := Lib.hid (HM.out.trans (hmt.mono fun _ _ h => h))
  clear hst hmt
  have HBl := Lib.hid (HM.out.toBelow B (by rw [HBW.out]; exact Nat.le_refl _) (fun k hk e => by omega))
  go_wp2_with (fail)
  refine (beadsFault_any a n c L W' H _ (by omega) HP.out).mono ?_
  rintro e w3 ⟨rfl, hb⟩
  replace HP := Lib.hid (HP.out.kept hb)
  replace HS := Lib.hid (StrmV.below HS.out hb)
  replace HM := Lib.hid (HM.out.below hb)
  clear hb HBl
  by_cases hz : bdE n L W' H = 0
  · have OK : Hid (BdOk n L W' H) := Lib.hid (bdE_ok hz).2
    have hv6 := volZ_bnd (bdE_ok hz).2 n (Nat.le_refl _)
    have HA0 := Lib.hid (show arE n L W' H x = 0 by
      have hxx : inB x 1 100000000 = true := inB_yes.2 ⟨hx.1, by omega⟩
      unfold arE; rw [if_pos hz, if_pos hxx]
      unfold fvE; rw [if_pos hz, if_neg (by omega)])
    have hz' : (bdE n L W' H != 0) = false := by simp [hz]
    have HX := Lib.hid hx
    have HZ0 := Lib.hid hz
    clear hz hv6 hx
    go_wp2_with (fail)
    refine (Positions_any a n c L W' H x _ (by omega) HP.out).mono ?_
    rintro e w4 ⟨h1, -, hb⟩
    obtain ⟨ap, cp, rfl, hown⟩ := h1 HA0.out
    have HOp := Lib.hid hown
    have hps : ∀ b, (Value.slice ap n cp).ownBlock = some b → w3.heap.size ≤ b := fun b hb => (hown.lt b hb).1
    have HPS := Lib.hid (fun b hb (e : b = B) => show False by have := hps b hb; have := HS.out.lt; omega)
    replace HP := Lib.hid (HP.out.kept hb)
    replace HS := Lib.hid (StrmV.below HS.out hb)
    replace HM := Lib.hid (HM.out.below hb)
    clear hb h1 hown hps
    go_wp2_with (fail)
    refine (Amounts_any a n c L W' H x _ (by omega) HP.out).mono ?_
    rintro e w5 ⟨h1, -, hb⟩
    obtain ⟨aa, ca, rfl, hown⟩ := h1 HA0.out
    have HOa := Lib.hid hown
    have hps : ∀ b, (Value.slice aa n ca).ownBlock = some b → w4.heap.size ≤ b := fun b hb => (hown.lt b hb).1
    have HAS := Lib.hid (fun b hb (e : b = B) => show False by have := hps b hb; have := HS.out.lt; omega)
    replace HOp := Lib.hid (ownsRow_below HOp.out hb)
    replace HP := Lib.hid (HP.out.kept hb)
    replace HS := Lib.hid (StrmV.below HS.out hb)
    replace HM := Lib.hid (HM.out.below hb)
    clear hb h1 hown hps
    go_wp2_with (fail)
    refine (beadPlaces_any B _ n w5 HS.out (by omega) hn6).mono ?_
    rintro e w6 ⟨aq, m, cq, V, rfl, hm6, hcm, hv, -, -, hmt⟩
    replace HP := Lib.hid (HP.out.mut hmt HFA.out)
    replace HOp := Lib.hid (own_mutV HOp.out hmt HPS.out)
    replace HOa := Lib.hid (own_mutV HOa.out hmt HAS.out)
    have HV := Lib.hid hv
    have BW := Lib.hid ((HM.out.trans (hmt.mono fun _ _ h => h)).toBelow B (by rw [HBW.out]; exact Nat.le_refl _) (fun k hk e => by omega))
    rw [HBW.out] at BW
    try rw [HBW.out]
    clear hv hmt HBW HM HS HFA HPS HAS
    have enn : ((n : Int) != (n : Int)) = false := by simp
    go_wp2_with (fail)
    go_loopw [11, 70] (fun sv iv wr => ∃ k : Nat, k ≤ n ∧ iv = .int .i64 k ∧ sv = .int .i64 (posZ L W' H x k) ∧ Below w6.heap.size w6 wr) (fun _ iv _ => n - (intOf iv).toNat)
    case atStart => exact ⟨0, by omega, rfl, by rw [posZ_0 (by have := HX.out; omega)], Below.refl _ _⟩
    case round =>
      obtain ⟨k, hk, rfl, rfl, hbel⟩ := hrel
      have HB := Lib.hid hbel
      clear hbel
      by_cases hlt : k < n
      · have HPr := Lib.hid (HP.out.kept HB.out)
        have HOpr := Lib.hid (ownsRow_below HOp.out HB.out)
        have HOar := Lib.hid (ownsRow_below HOa.out HB.out)
        obtain ⟨gp, cap', hvv, -, hgp⟩ := HOpr.out.form (by omega)
        cases hvv
        obtain ⟨ga, cap', hvv, -, hga⟩ := HOar.out.form (by omega)
        cases hvv
        have p0 : wr.cell? ⟨gp, k, none⟩ = some (.int .i64 (posZ L W' H x (k + 1))) := (HOpr.out.cellAt k (by omega)).trans (vs_get _ _ _ hlt)
        rcases id HPr.out with h0 | ⟨b, off, rfl, hbb, -⟩
        · omega
        have hkc : k + 1 ≤ c := by omega
        go_wp2_with (fail)
        refine (Volume_any (some ⟨b, off, none⟩) (k + 1) c L W' H wr (by omega) (HPr.out.less hlt)).mono ?_
        rintro e w8 ⟨rfl, hb⟩
        have HB8 := Lib.hid (HB.out.trans (hb.mono HB.out.size))
        have a0 : w8.cell? ⟨ga, k, none⟩ = some (.int .i64 (amtF L W' H x k)) := ((ownsRow_below HOar.out hb).cellAt k (by omega)).trans (vs_get _ _ _ hlt)
        have hga8 : ga < w8.heap.size := by have := hb.size; omega
        have OKk := (OK.out.less hlt : BdOk (k + 1) L W' H)
        have hvb := volZ_bnd OKk (k + 1) (Nat.le_refl _)
        have hbd : bdE (k + 1) L W' H = 0 := by
          unfold bdE; rw [if_neg (by omega), if_pos (bdsOk_yes (fun i hi => by
            obtain ⟨q1, q2, q3⟩ := OKk i hi
            unfold bdOk; rw [Bool.and_eq_true, Bool.and_eq_true]; exact ⟨inB_yes.2 q1, inB_yes.2 q2, inB_yes.2 q3⟩))]
        have hfe : fvE (k + 1) L W' H = 0 := by unfold fvE; rw [if_pos hbd, if_neg (by omega)]
        rw [fvV_ok hfe, hfe]
        have hx := HX.out
        have hn1 := rnd_near (v := volZ L W' H (k + 1)) hvb.1 (show 0 < x by omega)
        have hpb := pos_small OK.out (show 0 < x by omega) hn6 (show k ≤ n by omega)
        have hpc := pos_small OK.out (show 0 < x by omega) hn6 (show k + 1 ≤ n by omega)
        have hap := amt_pos OK.out (show 0 < x by omega) hlt
        have hsum : posZ L W' H x k + amtF L W' H x k = posZ L W' H x (k + 1) := by unfold amtF amtZ; omega
        rw [show rndZ (volZ L W' H (k + 1)) x = posZ L W' H x (k + 1) from rfl] at hn1
        have hap2 : 0 ≤ amtF L W' H x k := hap
        obtain ⟨am, ham⟩ : ∃ y, amtF L W' H x k = y := ⟨_, rfl⟩
        obtain ⟨p, hpp⟩ : ∃ y, posZ L W' H x k = y := ⟨_, rfl⟩
        have HPk := Lib.hid (show posZ L W' H x (k + 1) = posZ L W' H x (k + 1) from rfl)
        obtain ⟨nn, hnn⟩ : ∃ y, posZ L W' H x (k + 1) = y := ⟨_, rfl⟩
        obtain ⟨v, hvv⟩ : ∃ y, volZ L W' H (k + 1) = y := ⟨_, rfl⟩
        rw [hnn, hvv] at hn1
        rw [ham] at a0 hap2 hsum
        rw [hpp] at hpb hsum
        rw [hnn] at hpc hsum p0
        rw [hvv] at hvb
        rw [hpp, hnn, hvv]
        have HNN := Lib.hid hnn
        obtain ⟨u, hu⟩ : ∃ u, nn * x = u := ⟨_, rfl⟩
        rw [hu] at hn1
        have hkl : k + 1 ≤ 6 := by omega
        have hu1 : -5000000000000000 ≤ u ∧ u ≤ 5000000000000000 := by omega
        have e1 : IntKind.i64.wrap (nn * x) = u := by rw [hu]; exact i64w (by omega)
        have e2 : IntKind.i64.wrap (p + am) = nn := by rw [hsum]; exact i64w (by omega)
        have t1 : ¬ (2 * (u - v) > x) := by omega
        have t2 : ¬ (-(2 * (u - v)) ≥ x) := by omega
        have t3 : ¬ (am < 0) := by omega
        clear hnn hvv ham hpp hu hfe hbd hap HPk hn1
        go_wp2_with (fail)
        go_roundw
        case rel => exact ⟨k + 1, by omega, by go_num, by rw [HNN.out], HB8.out⟩
        case measure => simp [intOf] <;> omega
      · obtain rfl : n = k := by omega
        have HP9 := Lib.hid (HP.out.kept HB.out)
        have HV9 := Lib.hid (HV.out.kept HB.out)
        replace BW := Lib.hid (BW.out.trans (HB.out.mono BW.out.size))
        obtain ⟨P, hPP⟩ : ∃ y, posZ L W' H x n = y := ⟨_, rfl⟩
        have HPP := Lib.hid hPP
        have hPb := pos_small OK.out (show 0 < x by have := HX.out; omega) hn6 (Nat.le_refl n)
        rw [hPP] at hPb ⊢
        clear hPP
        have HPb := Lib.hid hPb
        clear hPb HB HOp HOa HP HV
        go_wp2_with (fail)
        refine (backFault_any a n c 800 aq m cq V wr (by omega) (by omega) HV9.out).mono ?_
        rintro e w9 ⟨rfl, hb⟩
        replace HP9 := Lib.hid (HP9.out.kept hb)
        replace HV9 := Lib.hid (HV9.out.kept hb)
        replace BW := Lib.hid (BW.out.trans (hb.mono BW.out.size))
        clear hb
        by_cases hz2 : bkE 800 V n m = 0
        · have hz3 : (bkE 800 V n m != 0) = false := by simp [hz2]
          have HR0 := Lib.hid (show rtE n L W' H x 800 V m = 0 by unfold rtE; rw [if_pos HA0.out, hz2])
          have HFL := Lib.hid (rtL_full (back := 800) (A := amtF L W' H x) (bkE_ok hz2).2)
          clear hz2
          go_wp2_with (fail)
          refine (Retracted_any a n c L W' H x 800 aq m cq V w9 (by omega) HP9.out (by omega) hcm HV9.out).mono ?_
          rintro e w10 ⟨h1, -, hb⟩
          obtain ⟨ar, kk, cr, rfl, hkk, hown⟩ := h1 HR0.out
          have HSM := Lib.hid (rtL_sum 800 V m L W' H x (show 0 < x by have := HX.out; omega) n)
          have HME := Lib.hid (fun y (hy : y ∈ rtL 800 V m (amtF L W' H x) n) => show -2000000000000000 ≤ y ∧ y ≤ 2000000000000000 by
            have hx := HX.out
            rcases rtL_mem hy with h | h | ⟨i, hi, h⟩
            · omega
            · omega
            · have q1 := amt_pos OK.out (show 0 < x by omega) hi
              have q2 := pos_small OK.out (show 0 < x by omega) hn6 (show i + 1 ≤ n by omega)
              have q3 := pos_small OK.out (show 0 < x by omega) hn6 (show i ≤ n by omega)
              unfold amtF amtZ at h
              unfold amtZ at q1
              omega)
          rw [HFL.out] at hkk
          obtain ⟨l, hl⟩ : ∃ l, rtL 800 V m (amtF L W' H x) n = l := ⟨_, rfl⟩
          rw [hl] at HSM HME HFL hown
          rw [HPP.out] at HSM
          have HO := Lib.hid hown
          have HKK := Lib.hid hkk
          have BW2 := Lib.hid (BW.out.trans (hb.mono BW.out.size))
          have hkn : ((kk : Int) != (n : Int) + 2 * (m : Int)) = false := by rw [hkk]; simp
          have hk18 : kk ≤ 18 := by omega
          clear hb h1 hown hl hkk BW
          go_wp2_with (fail)
          go_loopw [11, 148] (fun sv iv wr => ∃ k : Nat, k ≤ kk ∧ iv = .int .i64 k ∧ sv = .int .i64 (P - sumL (l.take k)) ∧ w10 = wr) (fun _ iv _ => kk - (intOf iv).toNat)
          case atStart => exact ⟨0, by omega, rfl, (by rw [List.take_zero]; simp [sumL]), (by first | rfl | trivial)⟩
          case round =>
            obtain ⟨k, hk, rfl, rfl, rfl⟩ := hrel
            by_cases hlt : k < kk
            · obtain ⟨gr, cap', hvv, -, hgr⟩ := HO.out.form (by omega)
              cases hvv
              have hll : k < l.length := by rw [HFL.out, ← HKK.out]; exact hlt
              have r0 : w10.cell? ⟨gr, k, none⟩ = some (.int .i64 (l.getD k 0)) := by
                refine (HO.out.cellAt k (by omega)).trans ?_
                simp [IV, List.getD, hll]
              have hsn := sumL_snoc l k hll
              have hb1 := sumL_bnd (by omega) l HME.out k
              have hb2 := sumL_bnd (by omega) l HME.out (k + 1)
              have hPb := HPb.out
              obtain ⟨y, hy⟩ : ∃ y, l.getD k 0 = y := ⟨_, rfl⟩
              obtain ⟨s, hs⟩ : ∃ y, sumL (l.take k) = y := ⟨_, rfl⟩
              obtain ⟨s2, hs2⟩ : ∃ y, sumL (l.take (k + 1)) = y := ⟨_, rfl⟩
              rw [hy] at hsn r0
              rw [hs] at hsn hb1
              rw [hs2] at hsn hb2
              rw [hs]
              have HS2 := Lib.hid hs2
              have e3 : IntKind.i64.wrap (P - s - y) = P - s2 := by rw [show P - s - y = P - s2 by omega]; exact i64w (by omega)
              have e4 : P - s - y = P - s2 := by omega
              have hs2b : -100000000000000000 ≤ P - s2 ∧ P - s2 ≤ 100000000000000000 := by omega
              clear hsn hy hs hs2 hb1 hb2 hPb e4
              go_wp2_with (fail)
              go_roundw
              case rel => exact ⟨k + 1, by omega, by go_num, by rw [HS2.out], (by first | rfl | trivial)⟩
              case measure => simp [intOf] <;> omega
            · obtain rfl : kk = k := by omega
              have HT := Lib.hid (show P - sumL (l.take kk) = 0 by rw [List.take_of_length_le (by rw [HFL.out, ← HKK.out]; exact Nat.le_refl _), HSM.out]; omega)
              rw [HT.out]
              go_wp2_with (fail)
              refine (ready_any w10).mono ?_
              rintro e w99 ⟨rfl, hb⟩
              have BWE := Lib.hid (BW2.out.trans (hb.mono BW2.out.size))
              clear hb
              go_wp2_with (fail)
              go_ret
              exact ⟨rfl, BWE.out⟩
        · have hz3 : (bkE 800 V n m != 0) = true := by simpa using hz2
          go_wp2_with (fail)
          refine (ready_any w9).mono ?_
          rintro e w99 ⟨rfl, hb⟩
          have BWE := Lib.hid (BW.out.trans (hb.mono BW.out.size))
          clear hb
          go_wp2_with (fail)
          go_ret
          exact ⟨rfl, BWE.out⟩
  · have hz' : (bdE n L W' H != 0) = true := by simpa using hz
    have BW := Lib.hid (HM.out.toBelow B (by rw [HBW.out]; exact Nat.le_refl _) (fun k hk e => by omega))
    rw [HBW.out] at BW
    go_wp2_with (fail)
    refine (ready_any w3).mono ?_
    rintro e w99 ⟨rfl, hb⟩
    have BWE := Lib.hid (BW.out.trans (hb.mono BW.out.size))
    clear hb
    go_wp2_with (fail)
    go_ret
    exact ⟨rfl, BWE.out⟩
end Go.Proofs.Ythaecpcpeelcnaa

/- The law SpeedsPlanned. -/
import Derived.Test.YteodekmncgmjeaaVu
set_option linter.unusedSimpArgs false
set_option linter.unusedVariables false
namespace Go.Proofs.Yteodekmncgmjeaa
open Go.RowKit
theorem movE_ne {n : Nat} {L M : Nat → Int} {k : Nat} {C : Nat → Int} {c : Int} {m : Nat} (h : movE n L M k C c ≠ 0) : spdE n L M k C c m = movE n L M k C c := by unfold spdE; rw [if_neg h]
set_option maxRecDepth 100000 in
set_option maxHeartbeats 16000000 in
theorem speedsPlanned_walk (a0 : Option Addr) (len0 cap0 : Nat) (z0 : List Int) (w : World) (w0 : IsRow .i64 w a0 len0 cap0 z0) :
    Calls Try.prog 3 #[.slice a0 len0 cap0] w fun e w' => e = .returned (.bool true) ∧ Below w.heap.size w w' := by
  have HS0 := Lib.hid (Strm.start w0)
  go_enter Try.func3, Try.ntmps3
  go_wp2_with (fail)
  have HM0 : Hid (Mut (· = w.heap.size) w (w.alloc (.cells #[.slice a0 len0 cap0, .int .i64 0] 25))) := Lib.hid ((Mut.refl _ w).alloc _)
  have hl0 : w.heap.size < (w.alloc (.cells #[.slice a0 len0 cap0, .int .i64 0] 25)).heap.size := by simp
  generalize (w.alloc (.cells #[.slice a0 len0 cap0, .int .i64 0] 25)) = ws at *
  obtain ⟨B, hBw⟩ : ∃ B, B = w.heap.size := ⟨_, rfl⟩
  rw [← hBw] at HS0 HM0 hl0 ⊢
  have HBW := Lib.hid hBw
  clear hBw
  refine (legList_any B 0 8 _ HS0.out (by omega) (by omega) (by omega)).mono ?_
  rintro e w1 ⟨a, n, cl, L, M, rfl, hn8, hp, hfa, hst, hmt⟩
  have HP := Lib.hid hp
  have HFA := Lib.hid hfa
  have HS := Lib.hid hst
  have HM := Lib.hid (HM0.out.trans (hmt.mono fun _ _ h => h))
  clear hp hfa hst hmt HS0 HM0
  go_wp2_with (fail)
  refine (cornerList_any B _ n w1 HS.out (by omega) hn8).mono ?_
  rintro e w2 ⟨ac, m, cc, C, rfl, hm9, hc, hfc, hst, hmt⟩
  replace HP := Lib.hid (HP.out.mut hmt HFA.out)
  have HC := Lib.hid hc
  have HFC := Lib.hid hfc
  replace HS := Lib.hid hst
  replace HM := Lib.hid (HM.out.trans (hmt.mono fun _ _ h => h))
  clear hc hfc hst hmt
  go_wp2_with (fail)
  refine (aChange_any B _ w2 HS.out (by omega)).mono ?_
  rintro e w3 ⟨⟨c, rfl, _⟩, hst, hmt⟩
  replace HP := Lib.hid (HP.out.mut hmt HFA.out)
  replace HC := Lib.hid (HC.out.mut hmt HFC.out)
  replace HS := Lib.hid hst
  replace HM := Lib.hid (HM.out.trans (hmt.mono fun _ _ h => h))
  clear hst hmt
  go_wp2_with (fail)
  refine (speedList_any B _ a n cl L M ac m cc C c w3 HS.out (by omega) hn8 hm9 HP.out HC.out).mono ?_
  rintro e w4 ⟨av, k, cv, V, rfl, hk10, hv, hst, hmt⟩
  replace HP := Lib.hid (HP.out.mut hmt HFA.out)
  replace HC := Lib.hid (HC.out.mut hmt HFC.out)
  have HV := Lib.hid hv
  replace HM := Lib.hid (HM.out.trans (hmt.mono fun _ _ h => h))
  clear hst hmt hv HFA HFC HS hl0
  have hn : n ≤ 100 := by omega
  have hm : m ≤ 100 := by omega
  have hk : k ≤ 100 := by omega
  have hw1 : IntKind.i64.wrap ((n : Int) + 1) = (n : Int) + 1 := i64w (by omega)
  have hnz : ((0 : Int) == 0) = true := rfl
  go_wp2_with (fail)
  by_cases hz : movE n L M m C c = 0
  · skip
    refine (Speeds_any a n cl L M ac m cc C c w4 hn hm HP.out HC.out).mono ?_
    rintro e w5 ⟨hsp, _, hb⟩
    obtain ⟨g, cap, rfl, hbl⟩ := hsp hz
    replace HP := Lib.hid (HP.out.kept hb)
    replace HC := Lib.hid (HC.out.kept hb)
    replace HV := Lib.hid (HV.out.kept hb)
    replace HM := Lib.hid (HM.out.below hb)
    have HA := Lib.hid hbl.ints
    have OK := Lib.hid (mok hz)
    have HZ := Lib.hid hz
    clear hb hsp hbl hz
    go_wp2_with (fail)
    by_cases hkn : k = n + 1
    · skip
      subst hkn
      have hsE : spdE n L M m C c (n + 1) = 0 := by unfold spdE; rw [if_pos HZ.out, if_pos rfl]
      refine (Kept_any a n cl L M ac m cc C av (n + 1) cv V c w5 hn hm hk HP.out HC.out HV.out).mono ?_
      rw [hsE, show keptA n L M C c V 0 = keptB n L M C c V from if_pos rfl]
      rintro e w6 ⟨rfl, hb⟩
      replace HP := Lib.hid (HP.out.kept hb)
      replace HC := Lib.hid (HC.out.kept hb)
      replace HV := Lib.hid (HV.out.kept hb)
      replace HA := Lib.hid (HA.out.kept hb)
      replace HM := Lib.hid (HM.out.below hb)
      clear hb
      rcases hkp : keptB n L M C c V with _ | _
      · have HKP := Lib.hid hkp
        have HSA := Lib.hid (show slwE n L M C c V 0 = 16 by rw [slwE, if_pos rfl, hkp]; rfl)
        clear hkp
        go_wp2_with (fail)
        refine (Slow_any a n cl L M ac m cc C av (n + 1) cv V c w6 hn hm hk HP.out HC.out HV.out).mono ?_
        rw [hsE, HSA.out]
        rintro e w7 ⟨_, hsl, hb⟩
        obtain rfl := hsl (by omega)
        replace HP := Lib.hid (HP.out.kept hb)
        replace HC := Lib.hid (HC.out.kept hb)
        replace HV := Lib.hid (HV.out.kept hb)
        replace HA := Lib.hid (HA.out.kept hb)
        replace HM := Lib.hid (HM.out.below hb)
        clear hb hsl
        go_wp2_with (fail)
        refine (lawFault_any a n cl L M ac m cc C c w7 hn hm HP.out HC.out).mono ?_
        rw [HZ.out]
        rintro e w8 ⟨rfl, hb⟩
        replace HP := Lib.hid (HP.out.kept hb)
        replace HC := Lib.hid (HC.out.kept hb)
        replace HV := Lib.hid (HV.out.kept hb)
        replace HA := Lib.hid (HA.out.kept hb)
        replace HM := Lib.hid (HM.out.below hb)
        clear hb hsE
        have hk' : (((n + 1 : Nat) : Int) != (n : Int) + 1) = false := by simp
        go_wp2_with (go_at_call 13; refine (when_any _ _ _).mono ?_; rintro e w' ⟨rfl, rfl⟩)
        clear hk'
        refine (errs2_any w8.heap.size 0 0 w8 rfl).mono ?_
        rintro e wz ⟨rfl, rfl⟩
        have hb : Below w8.heap.size w8 (w8.alloc (.cells #[.int .i64 0, .int .i64 0] 31)) := (by repeat (first | exact Below.refl _ _ | assumption | refine Below.drew ?_ | refine bdrewN ?_ _ | refine Below.setCell ?_ (by first | omega | (simp <;> omega)) _ | refine Below.alloc ?_ (by first | omega | (simp <;> omega)) _))
        replace HP := Lib.hid (HP.out.kept hb)
        replace HC := Lib.hid (HC.out.kept hb)
        replace HV := Lib.hid (HV.out.kept hb)
        replace HA := Lib.hid (HA.out.kept hb)
        replace HM := Lib.hid (HM.out.below hb)
        clear hb
        generalize (w8.alloc (.cells #[.int .i64 0, .int .i64 0] 31)) = we at *
        rw [show fstE 0 0 = 0 from rfl]
        go_wp2_with (fail)
        refine (speedsOf_any a n cl L M ac m cc C c we hn HP.out HC.out OK.out).mono ?_
        rintro e wd ⟨gw, rfl, hown, hb⟩
        replace HP := Lib.hid (HP.out.kept hb)
        replace HC := Lib.hid (HC.out.kept hb)
        replace HV := Lib.hid (HV.out.kept hb)
        replace HA := Lib.hid (HA.out.kept hb)
        replace HM := Lib.hid (HM.out.below hb)
        have HW := Lib.hid (blk_of_own hown).ints
        clear hb hown
        go_wp2_with (fail)
        refine (keptOf_any a n cl L M ac m cc C av cv V c wd hn HP.out HC.out HV.out OK.out).mono ?_
        rw [HKP.out]
        rintro e wk ⟨rfl, hb⟩
        replace HP := Lib.hid (HP.out.kept hb)
        replace HC := Lib.hid (HC.out.kept hb)
        replace HV := Lib.hid (HV.out.kept hb)
        replace HA := Lib.hid (HA.out.kept hb)
        replace HW := Lib.hid (HW.out.kept hb)
        replace HM := Lib.hid (HM.out.below hb)
        clear hb
        go_wp2_with (go_at_call 13; refine (when_any _ _ _).mono ?_; rintro e w' ⟨rfl, rfl⟩)
        refine (checkLegs_any a n cl L M wk hn HP.out).mono ?_
        rintro e wf ⟨rfl, hb⟩
        replace HP := Lib.hid (HP.out.kept hb)
        replace HC := Lib.hid (HC.out.kept hb)
        replace HV := Lib.hid (HV.out.kept hb)
        replace HA := Lib.hid (HA.out.kept hb)
        replace HW := Lib.hid (HW.out.kept hb)
        replace HM := Lib.hid (HM.out.below hb)
        clear hb
        go_wp2_with (fail)
        refine (legsFault_any a n cl L M wf hn HP.out).mono ?_
        rintro e wg ⟨rfl, hb⟩
        replace HP := Lib.hid (HP.out.kept hb)
        replace HC := Lib.hid (HC.out.kept hb)
        replace HV := Lib.hid (HV.out.kept hb)
        replace HA := Lib.hid (HA.out.kept hb)
        replace HW := Lib.hid (HW.out.kept hb)
        replace HM := Lib.hid (HM.out.below hb)
        clear hb
        have hle : (legE n L M == legE n L M) = true := by simp
        go_wp2_with (fail)
        clear hle
        refine (equalV_any _ _ (n + 1) _ _ (spZ n L M C c) (spZ n L M C c) wg (by omega) HA.out HW.out (fun i h => rfl)).mono ?_
        rintro e wh ⟨rfl, hb⟩
        replace HP := Lib.hid (HP.out.kept hb)
        replace HC := Lib.hid (HC.out.kept hb)
        replace HV := Lib.hid (HV.out.kept hb)
        replace HA := Lib.hid (HA.out.kept hb)
        replace HW := Lib.hid (HW.out.kept hb)
        replace HM := Lib.hid (HM.out.below hb)
        clear hb
        go_wp2_with (fail)
        refine (equalV_any none none 0 0 0 (fun _ => 0) (fun _ => 0) wh (by omega) (.inl rfl) (.inl rfl) (fun i h => by omega)).mono ?_
        rintro e wi ⟨rfl, hb⟩
        replace HP := Lib.hid (HP.out.kept hb)
        replace HC := Lib.hid (HC.out.kept hb)
        replace HV := Lib.hid (HV.out.kept hb)
        replace HA := Lib.hid (HA.out.kept hb)
        replace HW := Lib.hid (HW.out.kept hb)
        replace HM := Lib.hid (HM.out.below hb)
        clear hb
        go_wp2_with (fail)
        refine (moved_any wi).mono ?_
        rintro e wj ⟨rfl, hb⟩
        replace HM := Lib.hid (HM.out.below hb)
        clear hb
        go_wp2_with (fail)
        go_ret
        exact ⟨rfl, HM.out.toBelow _ (Nat.le_refl _) (fun x hx e => by have := HBW.out; omega)⟩
      · have HKP := Lib.hid hkp
        have HSA := Lib.hid (show slwE n L M C c V 0 = 0 by rw [slwE, if_pos rfl, hkp]; rfl)
        clear hkp
        go_wp2_with (fail)
        refine (Slow_any a n cl L M ac m cc C av (n + 1) cv V c w6 hn hm hk HP.out HC.out HV.out).mono ?_
        rw [hsE, HSA.out]
        rintro e w7 ⟨hsl, _, hb⟩
        obtain ⟨ao, q, co, rfl, hq, hown⟩ := hsl rfl
        replace HP := Lib.hid (HP.out.kept hb)
        replace HC := Lib.hid (HC.out.kept hb)
        replace HV := Lib.hid (HV.out.kept hb)
        replace HA := Lib.hid (HA.out.kept hb)
        replace HM := Lib.hid (HM.out.below hb)
        have HL1 := Lib.hid (ints_of_iv hq hown)
        have HQ := Lib.hid hq
        clear hb hsl hown hq
        go_wp2_with (fail)
        refine (lawFault_any a n cl L M ac m cc C c w7 hn hm HP.out HC.out).mono ?_
        rw [HZ.out]
        rintro e w8 ⟨rfl, hb⟩
        replace HP := Lib.hid (HP.out.kept hb)
        replace HC := Lib.hid (HC.out.kept hb)
        replace HV := Lib.hid (HV.out.kept hb)
        replace HA := Lib.hid (HA.out.kept hb)
        replace HL1 := Lib.hid (HL1.out.kept hb)
        replace HM := Lib.hid (HM.out.below hb)
        clear hb hsE
        have hk' : (((n + 1 : Nat) : Int) != (n : Int) + 1) = false := by simp
        go_wp2_with (go_at_call 13; refine (when_any _ _ _).mono ?_; rintro e w' ⟨rfl, rfl⟩)
        clear hk'
        refine (errs2_any w8.heap.size 0 0 w8 rfl).mono ?_
        rintro e wz ⟨rfl, rfl⟩
        have hb : Below w8.heap.size w8 (w8.alloc (.cells #[.int .i64 0, .int .i64 0] 31)) := (by repeat (first | exact Below.refl _ _ | assumption | refine Below.drew ?_ | refine bdrewN ?_ _ | refine Below.setCell ?_ (by first | omega | (simp <;> omega)) _ | refine Below.alloc ?_ (by first | omega | (simp <;> omega)) _))
        replace HP := Lib.hid (HP.out.kept hb)
        replace HC := Lib.hid (HC.out.kept hb)
        replace HV := Lib.hid (HV.out.kept hb)
        replace HA := Lib.hid (HA.out.kept hb)
        replace HL1 := Lib.hid (HL1.out.kept hb)
        replace HM := Lib.hid (HM.out.below hb)
        clear hb
        generalize (w8.alloc (.cells #[.int .i64 0, .int .i64 0] 31)) = we at *
        rw [show fstE 0 0 = 0 from rfl]
        go_wp2_with (fail)
        refine (speedsOf_any a n cl L M ac m cc C c we hn HP.out HC.out OK.out).mono ?_
        rintro e wd ⟨gw, rfl, hown, hb⟩
        replace HP := Lib.hid (HP.out.kept hb)
        replace HC := Lib.hid (HC.out.kept hb)
        replace HV := Lib.hid (HV.out.kept hb)
        replace HA := Lib.hid (HA.out.kept hb)
        replace HM := Lib.hid (HM.out.below hb)
        replace HL1 := Lib.hid (HL1.out.kept hb)
        have HW := Lib.hid (blk_of_own hown).ints
        clear hb hown
        go_wp2_with (fail)
        refine (keptOf_any a n cl L M ac m cc C av cv V c wd hn HP.out HC.out HV.out OK.out).mono ?_
        rw [HKP.out]
        rintro e wk ⟨rfl, hb⟩
        replace HP := Lib.hid (HP.out.kept hb)
        replace HC := Lib.hid (HC.out.kept hb)
        replace HV := Lib.hid (HV.out.kept hb)
        replace HA := Lib.hid (HA.out.kept hb)
        replace HW := Lib.hid (HW.out.kept hb)
        replace HL1 := Lib.hid (HL1.out.kept hb)
        replace HM := Lib.hid (HM.out.below hb)
        clear hb
        go_wp2_with (go_at_call 13; refine (when_any _ _ _).mono ?_; rintro e w' ⟨rfl, rfl⟩)
        refine (slowOf_any a n cl L M ac m cc C av cv V c wk hn HP.out HC.out HV.out OK.out).mono ?_
        rintro e wl ⟨ao2, q2, co2, rfl, hq2, hown2, hb⟩
        replace HP := Lib.hid (HP.out.kept hb)
        replace HC := Lib.hid (HC.out.kept hb)
        replace HV := Lib.hid (HV.out.kept hb)
        replace HA := Lib.hid (HA.out.kept hb)
        replace HW := Lib.hid (HW.out.kept hb)
        replace HL1 := Lib.hid (HL1.out.kept hb)
        replace HM := Lib.hid (HM.out.below hb)
        have HL2 := Lib.hid (ints_of_iv hq2 hown2)
        obtain rfl : q2 = q := by rw [hq2, HQ.out]
        have hq3 : q2 ≤ n + 1 := by rw [hq2]; exact slowL_len _ _ _
        clear hb hown2 hq2
        go_wp2_with (fail)
        refine (checkLegs_any a n cl L M wl hn HP.out).mono ?_
        rintro e wf ⟨rfl, hb⟩
        replace HP := Lib.hid (HP.out.kept hb)
        replace HC := Lib.hid (HC.out.kept hb)
        replace HV := Lib.hid (HV.out.kept hb)
        replace HA := Lib.hid (HA.out.kept hb)
        replace HW := Lib.hid (HW.out.kept hb)
        replace HL1 := Lib.hid (HL1.out.kept hb)
        replace HL2 := Lib.hid (HL2.out.kept hb)
        replace HM := Lib.hid (HM.out.below hb)
        clear hb
        go_wp2_with (fail)
        refine (legsFault_any a n cl L M wf hn HP.out).mono ?_
        rintro e wg ⟨rfl, hb⟩
        replace HP := Lib.hid (HP.out.kept hb)
        replace HC := Lib.hid (HC.out.kept hb)
        replace HV := Lib.hid (HV.out.kept hb)
        replace HA := Lib.hid (HA.out.kept hb)
        replace HW := Lib.hid (HW.out.kept hb)
        replace HL1 := Lib.hid (HL1.out.kept hb)
        replace HL2 := Lib.hid (HL2.out.kept hb)
        replace HM := Lib.hid (HM.out.below hb)
        clear hb
        have hle : (legE n L M == legE n L M) = true := by simp
        go_wp2_with (fail)
        clear hle
        refine (equalV_any _ _ (n + 1) _ _ (spZ n L M C c) (spZ n L M C c) wg (by omega) HA.out HW.out (fun i h => rfl)).mono ?_
        rintro e wh ⟨rfl, hb⟩
        replace HP := Lib.hid (HP.out.kept hb)
        replace HC := Lib.hid (HC.out.kept hb)
        replace HV := Lib.hid (HV.out.kept hb)
        replace HA := Lib.hid (HA.out.kept hb)
        replace HW := Lib.hid (HW.out.kept hb)
        replace HL1 := Lib.hid (HL1.out.kept hb)
        replace HL2 := Lib.hid (HL2.out.kept hb)
        replace HM := Lib.hid (HM.out.below hb)
        clear hb
        go_wp2_with (fail)
        refine (equalV_any _ _ q2 _ _ (fun i => (slowL V (spZ n L M C c) (n + 1)).getD i 0) (fun i => (slowL V (spZ n L M C c) (n + 1)).getD i 0) wh (by omega) HL1.out HL2.out (fun i h => rfl)).mono ?_
        rintro e wi ⟨rfl, hb⟩
        replace HP := Lib.hid (HP.out.kept hb)
        replace HC := Lib.hid (HC.out.kept hb)
        replace HV := Lib.hid (HV.out.kept hb)
        replace HA := Lib.hid (HA.out.kept hb)
        replace HW := Lib.hid (HW.out.kept hb)
        replace HL1 := Lib.hid (HL1.out.kept hb)
        replace HL2 := Lib.hid (HL2.out.kept hb)
        replace HM := Lib.hid (HM.out.below hb)
        clear hb
        go_wp2_with (fail)
        refine (moved_any wi).mono ?_
        rintro e wj ⟨rfl, hb⟩
        replace HM := Lib.hid (HM.out.below hb)
        clear hb
        go_wp2_with (fail)
        go_ret
        exact ⟨rfl, HM.out.toBelow _ (Nat.le_refl _) (fun x hx e => by have := HBW.out; omega)⟩
    · skip
      have hsE : spdE n L M m C c k = 3 := by unfold spdE; rw [if_pos HZ.out, if_neg hkn]
      have HKA := Lib.hid (show keptA n L M C c V 3 = false by rw [keptA, if_neg (by omega)])
      have HSA := Lib.hid (show slwE n L M C c V 3 = 3 by rw [slwE, if_neg (by omega)])
      refine (Kept_any a n cl L M ac m cc C av k cv V c w5 hn hm hk HP.out HC.out HV.out).mono ?_
      rw [hsE, HKA.out]
      rintro e w6 ⟨rfl, hb⟩
      replace HP := Lib.hid (HP.out.kept hb)
      replace HC := Lib.hid (HC.out.kept hb)
      replace HV := Lib.hid (HV.out.kept hb)
      replace HA := Lib.hid (HA.out.kept hb)
      replace HM := Lib.hid (HM.out.below hb)
      clear hb
      go_wp2_with (fail)
      refine (Slow_any a n cl L M ac m cc C av k cv V c w6 hn hm hk HP.out HC.out HV.out).mono ?_
      rw [hsE, HSA.out]
      rintro e w7 ⟨_, hsl, hb⟩
      obtain rfl := hsl (by omega)
      replace HP := Lib.hid (HP.out.kept hb)
      replace HC := Lib.hid (HC.out.kept hb)
      replace HV := Lib.hid (HV.out.kept hb)
      replace HA := Lib.hid (HA.out.kept hb)
      replace HM := Lib.hid (HM.out.below hb)
      clear hb hsl
      go_wp2_with (fail)
      refine (lawFault_any a n cl L M ac m cc C c w7 hn hm HP.out HC.out).mono ?_
      rw [HZ.out]
      rintro e w8 ⟨rfl, hb⟩
      replace HP := Lib.hid (HP.out.kept hb)
      replace HC := Lib.hid (HC.out.kept hb)
      replace HV := Lib.hid (HV.out.kept hb)
      replace HA := Lib.hid (HA.out.kept hb)
      replace HM := Lib.hid (HM.out.below hb)
      clear hb hsE
      have hk' : ((k : Int) != (n : Int) + 1) = true := by simp; omega
      go_wp2_with (go_at_call 13; refine (when_any _ _ _).mono ?_; rintro e w' ⟨rfl, rfl⟩)
      clear hk'
      refine (errs2_any w8.heap.size 0 3 w8 rfl).mono ?_
      rintro e wz ⟨rfl, rfl⟩
      have hb : Below w8.heap.size w8 (w8.alloc (.cells #[.int .i64 0, .int .i64 3] 31)) := (by repeat (first | exact Below.refl _ _ | assumption | refine Below.drew ?_ | refine bdrewN ?_ _ | refine Below.setCell ?_ (by first | omega | (simp <;> omega)) _ | refine Below.alloc ?_ (by first | omega | (simp <;> omega)) _))
      replace HP := Lib.hid (HP.out.kept hb)
      replace HC := Lib.hid (HC.out.kept hb)
      replace HV := Lib.hid (HV.out.kept hb)
      replace HA := Lib.hid (HA.out.kept hb)
      replace HM := Lib.hid (HM.out.below hb)
      clear hb
      generalize (w8.alloc (.cells #[.int .i64 0, .int .i64 3] 31)) = we at *
      rw [show fstE 0 3 = 3 from rfl]
      go_wp2_with (fail)
      refine (speedsOf_any a n cl L M ac m cc C c we hn HP.out HC.out OK.out).mono ?_
      rintro e wd ⟨gw, rfl, hown, hb⟩
      replace HP := Lib.hid (HP.out.kept hb)
      replace HC := Lib.hid (HC.out.kept hb)
      replace HV := Lib.hid (HV.out.kept hb)
      replace HA := Lib.hid (HA.out.kept hb)
      replace HM := Lib.hid (HM.out.below hb)
      have HW := Lib.hid (blk_of_own hown).ints
      clear hb hown
      go_wp2_with (fail)
      refine (checkLegs_any a n cl L M wd hn HP.out).mono ?_
      rintro e wf ⟨rfl, hb⟩
      replace HP := Lib.hid (HP.out.kept hb)
      replace HC := Lib.hid (HC.out.kept hb)
      replace HV := Lib.hid (HV.out.kept hb)
      replace HA := Lib.hid (HA.out.kept hb)
      replace HW := Lib.hid (HW.out.kept hb)
      replace HM := Lib.hid (HM.out.below hb)
      clear hb
      go_wp2_with (fail)
      refine (legsFault_any a n cl L M wf hn HP.out).mono ?_
      rintro e wg ⟨rfl, hb⟩
      replace HP := Lib.hid (HP.out.kept hb)
      replace HC := Lib.hid (HC.out.kept hb)
      replace HV := Lib.hid (HV.out.kept hb)
      replace HA := Lib.hid (HA.out.kept hb)
      replace HW := Lib.hid (HW.out.kept hb)
      replace HM := Lib.hid (HM.out.below hb)
      clear hb
      have hle : (legE n L M == legE n L M) = true := by simp
      go_wp2_with (fail)
      clear hle
      refine (equalV_any _ _ (n + 1) _ _ (spZ n L M C c) (spZ n L M C c) wg (by omega) HA.out HW.out (fun i h => rfl)).mono ?_
      rintro e wh ⟨rfl, hb⟩
      replace HP := Lib.hid (HP.out.kept hb)
      replace HC := Lib.hid (HC.out.kept hb)
      replace HV := Lib.hid (HV.out.kept hb)
      replace HA := Lib.hid (HA.out.kept hb)
      replace HW := Lib.hid (HW.out.kept hb)
      replace HM := Lib.hid (HM.out.below hb)
      clear hb
      go_wp2_with (fail)
      refine (equalV_any none none 0 0 0 (fun _ => 0) (fun _ => 0) wh (by omega) (.inl rfl) (.inl rfl) (fun i h => by omega)).mono ?_
      rintro e wi ⟨rfl, hb⟩
      replace HP := Lib.hid (HP.out.kept hb)
      replace HC := Lib.hid (HC.out.kept hb)
      replace HV := Lib.hid (HV.out.kept hb)
      replace HA := Lib.hid (HA.out.kept hb)
      replace HW := Lib.hid (HW.out.kept hb)
      replace HM := Lib.hid (HM.out.below hb)
      clear hb
      go_wp2_with (fail)
      refine (moved_any wi).mono ?_
      rintro e wj ⟨rfl, hb⟩
      replace HM := Lib.hid (HM.out.below hb)
      clear hb
      go_wp2_with (fail)
      go_ret
      exact ⟨rfl, HM.out.toBelow _ (Nat.le_refl _) (fun x hx e => by have := HBW.out; omega)⟩
  · skip
    refine (Speeds_any a n cl L M ac m cc C c w4 hn hm HP.out HC.out).mono ?_
    rintro e w5 ⟨_, hsp, hb⟩
    obtain rfl := hsp hz
    replace HP := Lib.hid (HP.out.kept hb)
    replace HC := Lib.hid (HC.out.kept hb)
    replace HV := Lib.hid (HV.out.kept hb)
    replace HM := Lib.hid (HM.out.below hb)
    clear hb hsp
    have HSE := Lib.hid (movE_ne (m := k) hz)
    have HKA := Lib.hid (show keptA n L M C c V (movE n L M m C c) = false by rw [keptA, if_neg hz])
    have HSA := Lib.hid (show slwE n L M C c V (movE n L M m C c) = movE n L M m C c by rw [slwE, if_neg hz])
    obtain ⟨x, hx⟩ : ∃ x, movE n L M m C c = x := ⟨_, rfl⟩
    have HX := Lib.hid hx
    rw [hx]
    go_wp2_with (fail)
    refine (Kept_any a n cl L M ac m cc C av k cv V c w5 hn hm hk HP.out HC.out HV.out).mono ?_
    rw [HSE.out, HKA.out, hx]
    rintro e w6 ⟨rfl, hb⟩
    replace HP := Lib.hid (HP.out.kept hb)
    replace HC := Lib.hid (HC.out.kept hb)
    replace HV := Lib.hid (HV.out.kept hb)
    replace HM := Lib.hid (HM.out.below hb)
    clear hb
    go_wp2_with (fail)
    refine (Slow_any a n cl L M ac m cc C av k cv V c w6 hn hm hk HP.out HC.out HV.out).mono ?_
    rw [HSE.out, HSA.out, hx]
    rw [hx] at hz
    rintro e w7 ⟨_, hsl, hb⟩
    obtain rfl := hsl hz
    replace HP := Lib.hid (HP.out.kept hb)
    replace HC := Lib.hid (HC.out.kept hb)
    replace HV := Lib.hid (HV.out.kept hb)
    replace HM := Lib.hid (HM.out.below hb)
    clear hb hsl
    go_wp2_with (fail)
    refine (lawFault_any a n cl L M ac m cc C c w7 hn hm HP.out HC.out).mono ?_
    rw [hx]
    rintro e w8 ⟨rfl, hb⟩
    replace HP := Lib.hid (HP.out.kept hb)
    replace HC := Lib.hid (HC.out.kept hb)
    replace HV := Lib.hid (HV.out.kept hb)
    replace HM := Lib.hid (HM.out.below hb)
    clear hb hx
    have hxz : (x == 0) = false := by simpa using hz
    have hxx : (x == x) = true := by simp
    by_cases hkn : k = n + 1
    · have hk' : ((k : Int) != (n : Int) + 1) = false := by simp; omega
      go_wp2_with (go_at_call 13; refine (when_any _ _ _).mono ?_; rintro e w' ⟨rfl, rfl⟩)
      clear hk'
      have hfe : fstE x 0 = x := by unfold fstE; rw [if_neg hz]
      refine (errs2_any w8.heap.size x 0 w8 rfl).mono ?_
      rintro e wz ⟨rfl, rfl⟩
      have hb : Below w8.heap.size w8 (w8.alloc (.cells #[.int .i64 x, .int .i64 0] 31)) := (by repeat (first | exact Below.refl _ _ | assumption | refine Below.drew ?_ | refine bdrewN ?_ _ | refine Below.setCell ?_ (by first | omega | (simp <;> omega)) _ | refine Below.alloc ?_ (by first | omega | (simp <;> omega)) _))
      replace HP := Lib.hid (HP.out.kept hb)
      replace HC := Lib.hid (HC.out.kept hb)
      replace HV := Lib.hid (HV.out.kept hb)
      replace HM := Lib.hid (HM.out.below hb)
      clear hb
      generalize (w8.alloc (.cells #[.int .i64 x, .int .i64 0] 31)) = we at *
      rw [hfe]
      clear hfe
      go_wp2_with (fail)
      refine (checkLegs_any a n cl L M we hn HP.out).mono ?_
      rintro e wf ⟨rfl, hb⟩
      replace HP := Lib.hid (HP.out.kept hb)
      replace HC := Lib.hid (HC.out.kept hb)
      replace HV := Lib.hid (HV.out.kept hb)
      replace HM := Lib.hid (HM.out.below hb)
      clear hb
      go_wp2_with (fail)
      refine (legsFault_any a n cl L M wf hn HP.out).mono ?_
      rintro e wg ⟨rfl, hb⟩
      replace HP := Lib.hid (HP.out.kept hb)
      replace HC := Lib.hid (HC.out.kept hb)
      replace HV := Lib.hid (HV.out.kept hb)
      replace HM := Lib.hid (HM.out.below hb)
      clear hb
      have hle : (legE n L M == legE n L M) = true := by simp
      go_wp2_with (fail)
      clear hle
      refine (equalV_any none none 0 0 0 (fun _ => 0) (fun _ => 0) wg (by omega) (.inl rfl) (.inl rfl) (fun i h => by omega)).mono ?_
      rintro e wh ⟨rfl, hb⟩
      replace HP := Lib.hid (HP.out.kept hb)
      replace HC := Lib.hid (HC.out.kept hb)
      replace HV := Lib.hid (HV.out.kept hb)
      replace HM := Lib.hid (HM.out.below hb)
      clear hb
      go_wp2_with (fail)
      refine (equalV_any none none 0 0 0 (fun _ => 0) (fun _ => 0) wh (by omega) (.inl rfl) (.inl rfl) (fun i h => by omega)).mono ?_
      rintro e wi ⟨rfl, hb⟩
      replace HP := Lib.hid (HP.out.kept hb)
      replace HC := Lib.hid (HC.out.kept hb)
      replace HV := Lib.hid (HV.out.kept hb)
      replace HM := Lib.hid (HM.out.below hb)
      clear hb
      go_wp2_with (fail)
      refine (moved_any wi).mono ?_
      rintro e wj ⟨rfl, hb⟩
      replace HM := Lib.hid (HM.out.below hb)
      clear hb
      go_wp2_with (fail)
      go_ret
      exact ⟨rfl, HM.out.toBelow _ (Nat.le_refl _) (fun x hx e => by have := HBW.out; omega)⟩
    · have hk' : ((k : Int) != (n : Int) + 1) = true := by simp; omega
      go_wp2_with (go_at_call 13; refine (when_any _ _ _).mono ?_; rintro e w' ⟨rfl, rfl⟩)
      clear hk'
      have hfe : fstE x 3 = x := by unfold fstE; rw [if_neg hz]
      refine (errs2_any w8.heap.size x 3 w8 rfl).mono ?_
      rintro e wz ⟨rfl, rfl⟩
      have hb : Below w8.heap.size w8 (w8.alloc (.cells #[.int .i64 x, .int .i64 3] 31)) := (by repeat (first | exact Below.refl _ _ | assumption | refine Below.drew ?_ | refine bdrewN ?_ _ | refine Below.setCell ?_ (by first | omega | (simp <;> omega)) _ | refine Below.alloc ?_ (by first | omega | (simp <;> omega)) _))
      replace HP := Lib.hid (HP.out.kept hb)
      replace HC := Lib.hid (HC.out.kept hb)
      replace HV := Lib.hid (HV.out.kept hb)
      replace HM := Lib.hid (HM.out.below hb)
      clear hb
      generalize (w8.alloc (.cells #[.int .i64 x, .int .i64 3] 31)) = we at *
      rw [hfe]
      clear hfe
      go_wp2_with (fail)
      refine (checkLegs_any a n cl L M we hn HP.out).mono ?_
      rintro e wf ⟨rfl, hb⟩
      replace HP := Lib.hid (HP.out.kept hb)
      replace HC := Lib.hid (HC.out.kept hb)
      replace HV := Lib.hid (HV.out.kept hb)
      replace HM := Lib.hid (HM.out.below hb)
      clear hb
      go_wp2_with (fail)
      refine (legsFault_any a n cl L M wf hn HP.out).mono ?_
      rintro e wg ⟨rfl, hb⟩
      replace HP := Lib.hid (HP.out.kept hb)
      replace HC := Lib.hid (HC.out.kept hb)
      replace HV := Lib.hid (HV.out.kept hb)
      replace HM := Lib.hid (HM.out.below hb)
      clear hb
      have hle : (legE n L M == legE n L M) = true := by simp
      go_wp2_with (fail)
      clear hle
      refine (equalV_any none none 0 0 0 (fun _ => 0) (fun _ => 0) wg (by omega) (.inl rfl) (.inl rfl) (fun i h => by omega)).mono ?_
      rintro e wh ⟨rfl, hb⟩
      replace HP := Lib.hid (HP.out.kept hb)
      replace HC := Lib.hid (HC.out.kept hb)
      replace HV := Lib.hid (HV.out.kept hb)
      replace HM := Lib.hid (HM.out.below hb)
      clear hb
      go_wp2_with (fail)
      refine (equalV_any none none 0 0 0 (fun _ => 0) (fun _ => 0) wh (by omega) (.inl rfl) (.inl rfl) (fun i h => by omega)).mono ?_
      rintro e wi ⟨rfl, hb⟩
      replace HP := Lib.hid (HP.out.kept hb)
      replace HC := Lib.hid (HC.out.kept hb)
      replace HV := Lib.hid (HV.out.kept hb)
      replace HM := Lib.hid (HM.out.below hb)
      clear hb
      go_wp2_with (fail)
      refine (moved_any wi).mono ?_
      rintro e wj ⟨rfl, hb⟩
      replace HM := Lib.hid (HM.out.below hb)
      clear hb
      go_wp2_with (fail)
      go_ret
      exact ⟨rfl, HM.out.toBelow _ (Nat.le_refl _) (fun x hx e => by have := HBW.out; omega)⟩
end Go.Proofs.Yteodekmncgmjeaa

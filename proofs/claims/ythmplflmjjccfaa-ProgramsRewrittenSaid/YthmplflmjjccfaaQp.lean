/- The law ProgramsRewritten. -/
import Derived.Test.YthmplflmjjccfaaQo
import Derived.Test.YthmplflmjjccfaaQl
import Derived.Test.YthmplflmjjccfaaQj
import Derived.Deep.Cut
import Derived.Deep.CutRange
set_option linter.unusedSimpArgs false
set_option linter.unusedVariables false
namespace Go.Proofs.Ythmplflmjjccfaa
open Go.RowKit
/-- A list of steps that was made, with its error. -/
def MadeV (w : World) (a : Option Addr) (n : Nat) (E : Int) (l : List St) : Prop := n ≤ l.length ∧ ∃ T, StepsR w a n T ∧ (E = 0 → n = l.length ∧ T = lf l) ∧ (E ≠ 0 → n = 0)
theorem MadeV.mk {w : World} {a : Option Addr} {n : Nat} {E : Int} {l : List St} {T : Nat → St} (h1 : n ≤ l.length) (h2 : StepsR w a n T) (h3 : E = 0 → n = l.length ∧ T = lf l) (h4 : E ≠ 0 → n = 0) : MadeV w a n E l := ⟨h1, T, h2, h3, h4⟩
theorem MadeV.kept {w w' : World} {a : Option Addr} {n : Nat} {E : Int} {l : List St} (h : MadeV w a n E l) (hb : Below w.heap.size w w') : MadeV w' a n E l := by
  obtain ⟨h1, T, h2, h3, h4⟩ := h
  exact ⟨h1, T, h2.kept hb, h3, h4⟩
theorem made_none {w : World} {E : Int} (l : List St) (h : E ≠ 0) : MadeV w none 0 E l := ⟨Nat.zero_le _, fun _ => s00, .inl rfl, fun e => absurd e h, fun _ => rfl⟩
theorem MadeV.turn {w : World} {a : Option Addr} {n : Nat} {E F : Int} {l : List St} (h : MadeV w a n E l) (he : E = F) : MadeV w a n F l := he ▸ h
/-- Two lists of the same steps. -/
def Two (w : World) (a b : Option Addr) (n : Nat) : Prop := ∃ U, StepsR w a n U ∧ StepsR w b n U
theorem Two.kept {w w' : World} {a b : Option Addr} {n : Nat} (h : Two w a b n) (hb : Below w.heap.size w w') : Two w' a b n := by
  obtain ⟨U, h1, h2⟩ := h
  exact ⟨U, h1.kept hb, h2.kept hb⟩
theorem made_eq {w : World} {a b : Option Addr} {n m : Nat} {E : Int} {l l' : List St} (h : MadeV w a n E l) (k : MadeV w b m E l') (hl : E = 0 → l = l') : n = m ∧ Two w a b n := by
  obtain ⟨h1, T, h2, h3, h4⟩ := h
  obtain ⟨k1, U, k2, k3, k4⟩ := k
  by_cases he : E = 0
  · obtain ⟨e1, rfl⟩ := h3 he
    obtain ⟨e2, rfl⟩ := k3 he
    have := hl he
    subst this
    obtain rfl : n = m := by omega
    exact ⟨rfl, _, h2, k2⟩
  · have e1 := h4 he
    have e2 := k4 he
    subst e1 e2
    exact ⟨rfl, T, h2, .inl rfl⟩
theorem shortL_len (l : List St) : (shortL l).length ≤ l.length := by
  suffices ∀ (l p : List St), (l.foldl shL p).length ≤ p.length + l.length from by have h := this l []; unfold shortL; simpa using h
  intro l
  induction l with
  | nil => intro p; simp
  | cons s l ih => intro p; have := ih (shL p s); have := sh_len p s; simp only [List.foldl_cons, List.length_cons]; omega
theorem shortO_len (n : Nat) (S : Nat → St) : (shortO n S).length ≤ n := by
  unfold shortO
  split
  · exact Nat.le_trans (shortL_len _) (absL_len S n)
  · simp
theorem shortP_len (n : Nat) (S : Nat → St) : (shortP n S).length ≤ n := by
  unfold shortP
  split
  · exact shortO_len n S
  · simp
set_option maxRecDepth 100000 in
set_option maxHeartbeats 4000000 in
/-- Short of programs that are wrong. -/
theorem short_err (a : Option Addr) (n c : Nat) (S : Nat → St) (w : World) (hn : n ≤ 4000) (hz : stepsE n S ≠ 0) (hp : StepsR w a n S) :
    Calls Try.prog 7 #[.slice a n c] w (MadeS w (oneE n S (absE n S)) (shortP n S)) := by
  have HP := Lib.hid hp
  have HZ := Lib.hid hz
  have HE := Lib.hid (show oneE n S (absE n S) = stepsE n S by unfold oneE; rw [if_neg hz])
  clear hp hz
  go_enter Try.func7, Try.ntmps7
  go_wp2_with (fail)
  refine (Absolute_any a n c S w (by omega) HP.out).mono ?_
  rintro e w1 ⟨ao, no, co, T, rfl, -, -, -, -, -, hb⟩
  rw [HE.out]
  have hz' : (stepsE n S != 0) = true := by simpa using HZ.out
  have B1 := Lib.hid hb
  clear hb
  go_wp2_with (fail)
  exact bodyPost_ret (v := .tuple #[.slice none 0 0, .int .i64 (stepsE n S)]) (by simp [results, Try.results7, go_sem]) rfl ⟨none, 0, 0, fun _ => s00, by rw [HE.out], Nat.zero_le _, Nat.le_refl _, .inl rfl, fun h => absurd (HE.out.symm.trans h) HZ.out, fun _ => rfl, B1.out⟩
theorem Short_any (a : Option Addr) (n c : Nat) (S : Nat → St) (w : World) (hn : n ≤ 4000) (hp : StepsR w a n S) :
    Calls Try.prog 7 #[.slice a n c] w (MadeS w (oneE n S (absE n S)) (shortP n S)) := by
  by_cases hz : stepsE n S = 0
  · exact short_any a n c S w hn (fun i hi => sok (stepsE_zero hz i hi)) hp
  · exact short_err a n c S w hn hz hp
theorem absoluteOf_made (a : Option Addr) (n c : Nat) (S : Nat → St) (w : World) (hn : n ≤ 5000) (hok : ∀ i, i < n → SOk (S i)) (hp : StepsR w a n S) :
    Calls Try.prog 11 #[.slice a n c] w (MadeS w (absE n S) (absL S n)) := by
  refine (absoluteOf_any a n c S w hn hok hp).mono ?_
  rintro e w' ⟨ao, no, co, T, rfl, h1, h2, h3, h4, h5, h6, -⟩
  refine ⟨ao, no, co, T, rfl, ?_, h2, h3, h5, h6, h4⟩
  by_cases hz : absE n S = 0
  · exact Nat.le_of_eq (h5 hz).1
  · rw [h6 hz]; exact Nat.zero_le _
set_option maxRecDepth 100000 in
set_option maxHeartbeats 32000000 in
theorem programsRewritten_walk (a0 : Option Addr) (len0 cap0 : Nat) (z0 : List Int) (w : World) (w0 : IsRow .i64 w a0 len0 cap0 z0) :
    Calls Try.prog 3 #[.slice a0 len0 cap0] w fun e w' => e = .returned (.bool true) ∧ Below w.heap.size w w' := by
  have HS0 := Lib.hid (Strm.start w0)
  go_enter Try.func3, Try.ntmps3
  go_wp2_with (fail)
  have HM0 : Hid (Mut (· = w.heap.size) w (w.alloc (.cells #[.slice a0 len0 cap0, .int .i64 0] 25))) := Lib.hid ((Mut.refl _ w).alloc _)
  generalize (w.alloc (.cells #[.slice a0 len0 cap0, .int .i64 0] 25)) = ws at *
  obtain ⟨B, hBw⟩ : ∃ B, B = w.heap.size := ⟨_, rfl⟩
  rw [← hBw] at HS0 HM0 ⊢
  have HBW := Lib.hid hBw
  clear hBw
  refine (stepList_any B 0 14 ws HS0.out (by omega) (by omega)).mono ?_
  rintro e w1 ⟨a, n, c, S, rfl, hn, hnc, hp, hf, hst, hmt⟩
  have HP := Lib.hid hp
  have HF := Lib.hid hf
  have HS := Lib.hid hst
  have HM := Lib.hid (HM0.out.trans (hmt.mono fun _ _ h => h))
  clear hp hf hst hmt HS0 HM0
  go_wp2_with (fail)
  refine (stepList_any B _ 4 w1 HS.out (by omega) (by omega)).mono ?_
  rintro e w2 ⟨b, m, d, T, rfl, hm, hmd, hq, -, -, hmt⟩
  have HQ := Lib.hid hq
  replace HP := Lib.hid (HP.out.mut hmt HF.out)
  have BW := Lib.hid ((HM.out.trans (hmt.mono fun _ _ h => h)).toBelow B (by rw [HBW.out]; exact Nat.le_refl _) (fun k hk e => by omega))
  rw [HBW.out] at BW
  try rw [HBW.out]
  clear hq hmt HBW HM HS HF
  obtain ⟨E, hE⟩ : ∃ E, stepsE n S = E := ⟨_, rfl⟩
  have HE := Lib.hid hE
  clear hE
  obtain ⟨EA, hEA⟩ : ∃ X, oneE n S (absE n S) = X := ⟨_, rfl⟩
  have HEA := Lib.hid hEA
  clear hEA
  obtain ⟨ER, hER⟩ : ∃ X, oneE n S (relE n S) = X := ⟨_, rfl⟩
  have HER := Lib.hid hER
  clear hER
  obtain ⟨EJ, hEJ⟩ : ∃ X, joinE n S m T = X := ⟨_, rfl⟩
  have HEJ := Lib.hid hEJ
  clear hEJ
  go_wp2_with (fail)
  refine (Absolute_any a n c S _ (by omega) HP.out).mono ?_
  rintro e y1 ⟨ax, nx, cx, Tx, rfl, hlx, hcx, hs, he1, he2, hb⟩
  have Hx := Lib.hid (MadeV.mk hlx hs he1 he2)
  clear hs he1 he2
  replace BW := Lib.hid (BW.out.trans (hb.mono BW.out.size))
  replace HP := Lib.hid (HP.out.kept hb)
  replace HQ := Lib.hid (HQ.out.kept hb)
  clear hb
  rw [HEA.out] at Hx ⊢
  go_wp2_with (fail)
  refine (Relative_any a n c S _ (by omega) HP.out).mono ?_
  rintro e y2 ⟨ay, ny, cy, Ty, rfl, hly, hcy, hs, he1, he2, hb⟩
  have Hy := Lib.hid (MadeV.mk hly hs he1 he2)
  clear hs he1 he2
  replace BW := Lib.hid (BW.out.trans (hb.mono BW.out.size))
  replace HP := Lib.hid (HP.out.kept hb)
  replace HQ := Lib.hid (HQ.out.kept hb)
  replace Hx := Lib.hid (Hx.out.kept hb)
  clear hb
  rw [HER.out] at Hy ⊢
  go_wp2_with (fail)
  refine (Short_any a n c S _ (by omega) HP.out).mono ?_
  rintro e y3 ⟨az, nz, cz, Tz, rfl, hlz, hcz, hs, he1, he2, hb⟩
  have Hz := Lib.hid (MadeV.mk hlz hs he1 he2)
  clear hs he1 he2
  replace BW := Lib.hid (BW.out.trans (hb.mono BW.out.size))
  replace HP := Lib.hid (HP.out.kept hb)
  replace HQ := Lib.hid (HQ.out.kept hb)
  replace Hx := Lib.hid (Hx.out.kept hb)
  replace Hy := Lib.hid (Hy.out.kept hb)
  clear hb
  rw [HEA.out] at Hz ⊢
  go_wp2_with (fail)
  refine (Joined_any a b n c m d S T _ (by omega) (by omega) HP.out HQ.out).mono ?_
  rintro e y4 ⟨aj, nj, cj, Tj, rfl, hlj, hcj, hs, he1, he2, hb⟩
  have Hj := Lib.hid (MadeV.mk hlj hs he1 he2)
  clear hs he1 he2
  replace BW := Lib.hid (BW.out.trans (hb.mono BW.out.size))
  replace HP := Lib.hid (HP.out.kept hb)
  replace HQ := Lib.hid (HQ.out.kept hb)
  replace Hx := Lib.hid (Hx.out.kept hb)
  replace Hy := Lib.hid (Hy.out.kept hb)
  replace Hz := Lib.hid (Hz.out.kept hb)
  clear hb
  rw [HEJ.out] at Hj ⊢
  go_wp2_with (fail)
  refine (stepsFault_any a n c S _ (by omega) HP.out).mono ?_
  rintro e y5 ⟨rfl, hb⟩
  replace BW := Lib.hid (BW.out.trans (hb.mono BW.out.size))
  replace HP := Lib.hid (HP.out.kept hb)
  replace HQ := Lib.hid (HQ.out.kept hb)
  replace Hx := Lib.hid (Hx.out.kept hb)
  replace Hy := Lib.hid (Hy.out.kept hb)
  replace Hz := Lib.hid (Hz.out.kept hb)
  replace Hj := Lib.hid (Hj.out.kept hb)
  clear hb
  rw [HE.out]
  go_wp2_with (fail)
  refine (stepsFault_any b m d T _ (by omega) HQ.out).mono ?_
  rintro e y6 ⟨rfl, hb⟩
  replace BW := Lib.hid (BW.out.trans (hb.mono BW.out.size))
  replace HP := Lib.hid (HP.out.kept hb)
  replace HQ := Lib.hid (HQ.out.kept hb)
  replace Hx := Lib.hid (Hx.out.kept hb)
  replace Hy := Lib.hid (Hy.out.kept hb)
  replace Hz := Lib.hid (Hz.out.kept hb)
  replace Hj := Lib.hid (Hj.out.kept hb)
  clear hb
  have HEE := Lib.hid (show (if E = 0 then stepsE m T else E) = EJ by rw [← HEJ.out]; unfold joinE; rw [HE.out])
  obtain ⟨E3, hE3⟩ : ∃ E3, stepsE m T = E3 := ⟨_, rfl⟩
  have HE3 := Lib.hid hE3
  rw [hE3] at HEE ⊢
  clear hE3
  go_wp2_with (fail)
  refine (errs2_any _ _ _ _ rfl).mono ?_
  rintro e v3 ⟨rfl, hv3⟩
  have hb : Below y6.heap.size y6 v3 := hv3 ▸ (Below.refl _ _).alloc (Nat.le_refl _) _
  rw [HEE.out]
  clear hv3
  replace BW := Lib.hid (BW.out.trans (hb.mono BW.out.size))
  replace HP := Lib.hid (HP.out.kept hb)
  replace HQ := Lib.hid (HQ.out.kept hb)
  replace Hx := Lib.hid (Hx.out.kept hb)
  replace Hy := Lib.hid (Hy.out.kept hb)
  replace Hz := Lib.hid (Hz.out.kept hb)
  replace Hj := Lib.hid (Hj.out.kept hb)
  clear hb
  go_upto_if 62 with (fail)
  go_cut [15, 16, 17, 19, 20, 21] from 63 to 77 (fun o t th wx wy wz wv => o = .int .i64 EA ∧ t = .int .i64 ER ∧ th = .int .i64 EA ∧ Below v3.heap.size v3 wv ∧ (∃ ax' nx' cx', wx = .slice ax' nx' cx' ∧ MadeV wv ax' nx' EA (absL S n)) ∧ (∃ ay' ny' cy', wy = .slice ay' ny' cy' ∧ MadeV wv ay' ny' ER (relOut (toldL plR m00 S n))) ∧ ∃ az' nz' cz', wz = .slice az' nz' cz' ∧ MadeV wv az' nz' EA (shortP n S))
  case first =>
    by_cases hz : E = 0
    · have hz0 := HE.out.trans hz
      have HOK := Lib.hid (fun i hi => sok (stepsE_zero hz0 i hi))
      have GA := Lib.hid (show absE n S = EA by rw [← HEA.out]; unfold oneE; rw [if_pos hz0])
      have GR := Lib.hid (show relE n S = ER by rw [← HER.out]; unfold oneE; rw [if_pos hz0])
      have GS := Lib.hid (show shortO n S = shortP n S by unfold shortP; rw [if_pos hz0])
      subst hz
      clear hz0
      have BV := Lib.hid (Below.refl v3.heap.size v3)
      go_wp2_with (fail)
      refine (absoluteOf_made a n c S _ (by omega) HOK.out HP.out).mono ?_
      rintro e y7 ⟨au, nu, cu, Tu, rfl, hlu, hcu, hs, he1, he2, hb⟩
      have Hu := Lib.hid (MadeV.mk hlu hs he1 he2)
      clear hs he1 he2
      replace BV := Lib.hid (BV.out.trans (hb.mono BV.out.size))
      replace HP := Lib.hid (HP.out.kept hb)
      clear hb
      rw [GA.out] at Hu ⊢
      go_wp2_with (fail)
      refine (relativeOf_any a n c S _ (by omega) HOK.out HP.out).mono ?_
      rintro e y8 ⟨av, nv, cv, Tv, rfl, hlv, hcv, hs, he1, he2, hb⟩
      have Hv := Lib.hid (MadeV.mk hlv hs he1 he2)
      clear hs he1 he2
      replace BV := Lib.hid (BV.out.trans (hb.mono BV.out.size))
      replace HP := Lib.hid (HP.out.kept hb)
      replace Hu := Lib.hid (Hu.out.kept hb)
      clear hb
      rw [GR.out] at Hv ⊢
      go_wp2_with (fail)
      refine (shortOf_any a n c S _ (by omega) HOK.out HP.out).mono ?_
      rintro e y9 ⟨ar, nr, cr, Tr, rfl, hlr, hcr, hs, he1, he2, hb⟩
      have Hr := Lib.hid (MadeV.mk hlr hs he1 he2)
      clear hs he1 he2
      replace BV := Lib.hid (BV.out.trans (hb.mono BV.out.size))
      replace HP := Lib.hid (HP.out.kept hb)
      replace Hu := Lib.hid (Hu.out.kept hb)
      replace Hv := Lib.hid (Hv.out.kept hb)
      clear hb
      rw [GA.out, GS.out] at Hr
      rw [GA.out]
      go_wp2_with (fail)
      go_meet
      exact ⟨rfl, rfl, rfl, BV.out, ⟨_, _, _, rfl, Hu.out⟩, ⟨_, _, _, rfl, Hv.out⟩, _, _, _, rfl, Hr.out⟩
    · have hz' : (E == 0) = false := by simpa using hz
      have HNZ := Lib.hid hz
      have hz0 : ¬ stepsE n S = 0 := fun h => hz (HE.out.symm.trans h)
      have GA : E = EA := by rw [← HEA.out, ← HE.out]; unfold oneE; rw [if_neg hz0]
      have GR : E = ER := by rw [← HER.out, ← HE.out]; unfold oneE; rw [if_neg hz0]
      have NA := Lib.hid (GA ▸ HNZ.out)
      have NR := Lib.hid (GR ▸ HNZ.out)
      have GA := Lib.hid GA
      have GR := Lib.hid GR
      clear hz hz0
      go_wp2_with (fail)
      go_meet
      exact ⟨by rw [GA.out], by rw [GR.out], by rw [GA.out], Below.refl _ _, ⟨_, _, _, rfl, made_none _ NA.out⟩, ⟨_, _, _, rfl, made_none _ NR.out⟩, _, _, _, rfl, made_none _ NA.out⟩
  case rest =>
    obtain ⟨rfl, rfl, rfl, hb, ⟨au, nu, cu, rfl, hu⟩, ⟨av, nv, cv, rfl, hv⟩, ar, nr, cr, rfl, hr⟩ := hcut
    have Hu := Lib.hid hu
    have Hv := Lib.hid hv
    have Hr := Lib.hid hr
    clear hu hv hr
    replace BW := Lib.hid (BW.out.trans (hb.mono BW.out.size))
    replace HP := Lib.hid (HP.out.kept hb)
    replace HQ := Lib.hid (HQ.out.kept hb)
    replace Hx := Lib.hid (Hx.out.kept hb)
    replace Hy := Lib.hid (Hy.out.kept hb)
    replace Hz := Lib.hid (Hz.out.kept hb)
    replace Hj := Lib.hid (Hj.out.kept hb)
    clear hb
    go_upto_if 79 with (fail)
    obtain ⟨v5, hv5⟩ : ∃ v, wc = v := ⟨_, rfl⟩
    rw [hv5] at HP HQ Hx Hy Hz Hj Hu Hv Hr BW ⊢
    clear hv5
    go_cut [18, 22] from 80 to 85 (fun o wj wv => o = .int .i64 EJ ∧ Below v5.heap.size v5 wv ∧ ∃ ai ni ci, wj = .slice ai ni ci ∧ MadeV wv ai ni EJ (joinL n S m T))
    case first =>
      by_cases hz : EJ = 0
      · have hz1 : stepsE n S = 0 := by
          by_cases h0 : stepsE n S = 0
          · exact h0
          · have := HEJ.out; unfold joinE at this; rw [if_neg h0] at this; omega
        have HOK := Lib.hid (fun i hi => sok (stepsE_zero hz1 i hi))
        clear hz1
        subst hz
        have BV := Lib.hid (Below.refl v5.heap.size v5)
        go_wp2_with (fail)
        refine (joinedOf_any a b n c m d S T _ (by omega) (by omega) HOK.out HP.out HQ.out).mono ?_
        rintro e y10 ⟨ai, ni, ci, Ti, rfl, hli, hci, hs, he1, he2, hb⟩
        have Hi := Lib.hid (MadeV.mk hli hs he1 he2)
        clear hs he1 he2
        replace BV := Lib.hid (BV.out.trans (hb.mono BV.out.size))
        clear hb
        go_wp2_with (fail)
        go_meet
        exact ⟨rfl, BV.out, _, _, _, rfl, Hi.out⟩
      · have hz' : (EJ == 0) = false := by simpa using hz
        have HNZ := Lib.hid hz
        clear hz
        go_wp2_with (fail)
        go_meet
        exact ⟨rfl, Below.refl _ _, _, _, _, rfl, made_none _ HNZ.out⟩
    case rest =>
      obtain ⟨rfl, hb, ai, ni, ci, rfl, hi⟩ := hcut
      have Hi := Lib.hid hi
      clear hi
      replace BW := Lib.hid (BW.out.trans (hb.mono BW.out.size))
      replace HP := Lib.hid (HP.out.kept hb)
      replace HQ := Lib.hid (HQ.out.kept hb)
      replace Hx := Lib.hid (Hx.out.kept hb)
      replace Hy := Lib.hid (Hy.out.kept hb)
      replace Hz := Lib.hid (Hz.out.kept hb)
      replace Hj := Lib.hid (Hj.out.kept hb)
      replace Hu := Lib.hid (Hu.out.kept hb)
      replace Hv := Lib.hid (Hv.out.kept hb)
      replace Hr := Lib.hid (Hr.out.kept hb)
      clear hb
      have z1 : (EA == EA) = true := by simp
      have z2 : (ER == ER) = true := by simp
      have z3 : (EJ == EJ) = true := by simp
      have lx := absL_len S n
      have ly : (relOut (toldL plR m00 S n)).length ≤ n + 1 := Nat.le_trans (relOut_len_le _) (by have := toldL_len plR m00 S n; omega)
      have lz := shortP_len n S
      have lj := joinL_len n S m T
      have hx1 := Hx.out.1
      have hy1 := Hy.out.1
      have hz1 := Hz.out.1
      have hj1 := Hj.out.1
      obtain ⟨enx, hUx⟩ := made_eq Hx.out Hu.out (fun _ => rfl)
      subst enx
      have HUx := Lib.hid hUx
      clear hUx
      obtain ⟨eny, hUy⟩ := made_eq Hy.out Hv.out (fun _ => rfl)
      subst eny
      have HUy := Lib.hid hUy
      clear hUy
      obtain ⟨enz, hUz⟩ := made_eq Hz.out Hr.out (fun _ => rfl)
      subst enz
      have HUz := Lib.hid hUz
      clear hUz
      obtain ⟨enj, hUj⟩ := made_eq Hj.out Hi.out (fun _ => rfl)
      subst enj
      have HUj := Lib.hid hUj
      clear hUj
      go_wp2_with (fail)
      obtain ⟨Ux, h1x, h2x⟩ := HUx.out
      refine (equalS_any ax au nx cx cu Ux _ (by omega) h1x h2x).mono ?_
      rintro e y11 ⟨rfl, hb⟩
      clear h1x h2x HUx
      replace BW := Lib.hid (BW.out.trans (hb.mono BW.out.size))
      replace HUy := Lib.hid (HUy.out.kept hb)
      replace HUz := Lib.hid (HUz.out.kept hb)
      replace HUj := Lib.hid (HUj.out.kept hb)
      clear hb
      go_wp2_with (fail)
      obtain ⟨Uy, h1y, h2y⟩ := HUy.out
      refine (equalS_any ay av ny cy cv Uy _ (by omega) h1y h2y).mono ?_
      rintro e y12 ⟨rfl, hb⟩
      clear h1y h2y HUy
      replace BW := Lib.hid (BW.out.trans (hb.mono BW.out.size))
      replace HUz := Lib.hid (HUz.out.kept hb)
      replace HUj := Lib.hid (HUj.out.kept hb)
      clear hb
      go_wp2_with (fail)
      obtain ⟨Uz, h1z, h2z⟩ := HUz.out
      refine (equalS_any az ar nz cz cr Uz _ (by omega) h1z h2z).mono ?_
      rintro e y13 ⟨rfl, hb⟩
      clear h1z h2z HUz
      replace BW := Lib.hid (BW.out.trans (hb.mono BW.out.size))
      replace HUj := Lib.hid (HUj.out.kept hb)
      clear hb
      go_wp2_with (fail)
      obtain ⟨Uj, h1j, h2j⟩ := HUj.out
      refine (equalS_any aj ai nj cj ci Uj _ (by omega) h1j h2j).mono ?_
      rintro e y14 ⟨rfl, hb⟩
      clear h1j h2j HUj
      replace BW := Lib.hid (BW.out.trans (hb.mono BW.out.size))
      clear hb
      go_wp2_with (fail)
      refine (coded_any _).mono ?_
      rintro e v12 ⟨rfl, hb⟩
      replace BW := Lib.hid (BW.out.trans (hb.mono BW.out.size))
      clear hb
      go_wp2_with (fail)
      go_ret
      exact ⟨rfl, BW.out⟩
end Go.Proofs.Ythmplflmjjccfaa

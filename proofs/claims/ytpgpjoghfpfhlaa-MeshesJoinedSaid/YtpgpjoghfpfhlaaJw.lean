/- The law MeshesJoined, walked. -/
import Derived.Test.YtpgpjoghfpfhlaaJx
import Derived.Test.YtpgpjoghfpfhlaaGn
import Derived.Test.YtpgpjoghfpfhlaaMeshed
set_option linter.unusedSimpArgs false
set_option linter.unusedVariables false
namespace Go.Proofs.Ytpgpjoghfpfhlaa
open Go.RowKit

set_option maxRecDepth 100000 in
set_option maxHeartbeats 16000000 in
theorem meshesJoined_walk (a0 : Option Addr) (len0 cap0 : Nat) (z0 : List Int) (w : World) (w0 : IsRow .i64 w a0 len0 cap0 z0) :
    Calls Try.prog 3 #[.slice a0 len0 cap0] w fun e w' => e = .returned (.bool true) ∧ Below w.heap.size w w' := by
  have HS0 := Lib.hid (Strm.start w0)
  go_enter Try.func3, Try.ntmps3
  go_wp2_with (fail)
  refine (amesh_any w.heap.size 0 _ HS0.out (by omega)).mono ?_
  rintro e w1 ⟨av, cv, af, cf, nv, nf, V, F, rfl, rv, rf, hnv, hnf, hst, hmt⟩
  have hs1 := hmt.size
  simp at hs1
  have HV := Lib.hid rv
  have HF := Lib.hid rf
  have HT := Lib.hid hst
  have M1 : Mut (· = w.heap.size) w w1 := ((Mut.refl _ w).alloc _).trans hmt
  have HM := Lib.hid M1
  clear rv rf hst hmt M1 HS0
  go_wp2_with (fail)
  refine (amesh_any w.heap.size 100 _ HT.out (by omega)).mono ?_
  rintro e w2 ⟨bv, dv, bf, df, mv, mf, W, G, rfl, rv, rf, hmv, hmf, hst, hmt⟩
  have hs2 := hmt.size
  replace HV := Lib.hid (HV.out.mut hmt (by omega))
  replace HF := Lib.hid (HF.out.mut hmt (by omega))
  have HW := Lib.hid rv
  have HG := Lib.hid rf
  replace HM := Lib.hid (HM.out.trans hmt)
  clear rv rf HT
  have HT := Lib.hid ((hst.alloc (.cells #[.slice av nv cv, .slice af nf cf] 29)).alloc (.cells #[.slice bv mv dv, .slice bf mf df] 29))
  have HM2 := Lib.hid (((Mut.refl (· = w.heap.size) w2).alloc (.cells #[.slice av nv cv, .slice af nf cf] 29)).alloc (.cells #[.slice bv mv dv, .slice bf mf df] 29))
  clear hst hmt
  go_wp2_with (fail)
  refine (flip_any w.heap.size 200 3 _ HT.out (by omega) (by omega) (by omega)).mono ?_
  rintro e w3 ⟨⟨z, rfl⟩, hst, hmt⟩
  have hs3 := hmt.size
  simp at hs3
  have KM : Hid (MB w3 w2.heap.size av nv cv af nf cf) := Lib.hid ((hmt.block w2.heap.size (by simp <;> omega) (by omega)).trans (by repeat (first | (refine heap_new ?_; first | rfl | (simp; done)) | rw [Below.heap_setCell _ _ _ _ (by simp <;> omega)] | rw [Below.heap_alloc _ _ _ (by simp <;> omega)])))
  have KN : Hid (MB w3 (w2.heap.size + 1) bv mv dv bf mf df) := Lib.hid ((hmt.block (w2.heap.size + 1) (by simp <;> omega) (by omega)).trans (by repeat (first | (refine heap_new ?_; first | rfl | (simp; done)) | rw [Below.heap_setCell _ _ _ _ (by simp <;> omega)] | rw [Below.heap_alloc _ _ _ (by simp <;> omega)])))
  replace HT := Lib.hid hst
  replace HM2 := Lib.hid (HM2.out.trans hmt)
  clear hst hmt
  have qM0 := KM.out.c0
  have qM1 := KM.out.c1
  have qN0 := KN.out.c0
  have qN1 := KN.out.c1
  have qNf := KN.out.fr (o := 0)
  have qNg := KN.out.fr (o := 1)
  go_upto_if 33 with (fail)
  go_cut [] from 25 to 34 (fun wx => ∃ (bv' : Option Addr) (dv' : Nat) (bf' : Option Addr) (df' mv' mf' : Nat) (W' G' : Nat → V3), MB wx w2.heap.size av nv cv af nf cf ∧ MB wx (w2.heap.size + 1) bv' mv' dv' bf' mf' df' ∧ RowX w2 w.heap.size bv' mv' W' ∧ RowX w2 w.heap.size bf' mf' G' ∧ mv' ≤ 100 ∧ mf' ≤ 100 ∧ Strm wx w.heap.size 201 ∧ Mut (· = w.heap.size) w2 wx ∧ w3.heap.size ≤ wx.heap.size)
  case first =>
    rcases z with _ | _
    · go_wp2_with (fail)
      go_meet
      exact ⟨bv, dv, bf, df, mv, mf, W, G, KM.out, KN.out, HW.out, HG.out, hmv, hmf, HT.out, HM2.out, Nat.le_refl _⟩
    · go_wp2_with (fail)
      go_meet
      exact ⟨av, cv, af, cf, nv, nf, V, F, (KM.out.other (by omega)).other (by omega), KN.out.set, HV.out, HF.out, hnv, hnf, (HT.out.setCell (a := ⟨w2.heap.size + 1, 0, none⟩) (by show _ < w2.heap.size + 1; omega) _).setCell (a := ⟨w2.heap.size + 1, 1, none⟩) (by show _ < w2.heap.size + 1; omega) _, (HM2.out.setCell (p := ⟨w2.heap.size + 1, 0, none⟩) (fun h => absurd h (by simp)) _).setCell (p := ⟨w2.heap.size + 1, 1, none⟩) (fun h => absurd h (by simp)) _, by simp [World.setCell]⟩
  case rest =>
    clear KM KN HW HG HT HM2 qM0 qM1 qN0 qN1 qNf qNg hmv hmf
    obtain ⟨bv, dv, bf, df, mv, mf, W, G, km, kn_, rw_, rg_, hmv, hmf, ht_, hm2, hsz⟩ := hcut
    have KM := Lib.hid km
    have KN := Lib.hid kn_
    have HM2 := Lib.hid hm2
    have HT := Lib.hid ht_
    have HW := Lib.hid rw_
    have HG := Lib.hid rg_
    clear km kn_ hm2 ht_ rw_ rg_
    have qM0 := KM.out.c0
    have qM1 := KM.out.c1
    go_wp2_with (fail)
    refine (faceList_any w.heap.size 201 nv cv nf cf av af _ HT.out (by omega) (by omega)).mono ?_
    rintro e w5 ⟨al, cl, n, l, rfl, ho, hz, hn, hst, hmt⟩
    have hs5 := hmt.size
    have hcap := own_cap ho
    have HL := Lib.hid (own_rowI ho)
    generalize (fun i => l.getD i 0) = L at *
    have M5 : Mut (· = w.heap.size) w2 w5 := HM2.out.trans hmt
    replace HV := Lib.hid (HV.out.mut M5 (by omega)).row3
    replace HF := Lib.hid (HF.out.mut M5 (by omega)).row3
    replace HW := Lib.hid (HW.out.mut M5 (by omega)).row3
    replace HG := Lib.hid (HG.out.mut M5 (by omega)).row3
    replace KM : Hid (MB w5 w2.heap.size av nv cv af nf cf) := Lib.hid ((hmt.block w2.heap.size KM.out.lt (by omega)).trans KM.out)
    replace KN : Hid (MB w5 (w2.heap.size + 1) bv mv dv bf mf df) := Lib.hid ((hmt.block (w2.heap.size + 1) KN.out.lt (by omega)).trans KN.out)
    replace HM := Lib.hid (HM.out.trans M5)
    have lM := KM.out.lt
    have lN := KN.out.lt
    have hw5 : w.heap.size ≤ w5.heap.size := by omega
    clear hmt hst M5 HM2 HT ho hz qM0 qM1
    obtain ⟨f1, hf1⟩ : ∃ f, fault nv V nf F = f := ⟨_, rfl⟩
    obtain ⟨f2, hf2⟩ : ∃ f, fault mv W mf G = f := ⟨_, rfl⟩
    have HF1 := Lib.hid hf1
    have HF2 := Lib.hid hf2
    clear hf1 hf2
    have qM0 := KM.out.c0
    have qM1 := KM.out.c1
    have qN0 := KN.out.c0
    have qN1 := KN.out.c1
    go_upto_region 6 with (fail)
    go_cut [7, 8] from 38 to 41 (fun s7 s8 wx => s7 = .int .i64 f1 ∧ s8 = .int .i64 f2 ∧ Below w5.heap.size w5 wx)
    case first =>
      go_region_held3 (fun w' => w'.cell? ⟨w2.heap.size, 0, none⟩ = some (.slice av nv cv) ∧ w'.cell? ⟨w2.heap.size, 1, none⟩ = some (.slice af nf cf) ∧ w'.cell? ⟨w2.heap.size + 1, 0, none⟩ = some (.slice bv mv dv) ∧ w'.cell? ⟨w2.heap.size + 1, 1, none⟩ = some (.slice bf mf df))
        (first
          | with_reducible exact ⟨qM0, qM1, qN0, qN1⟩
          | with_reducible assumption
          | with_reducible exact ⟨cellk Bx lM qM0, cellk Bx lM qM1, cellk Bx lN qN0, cellk Bx lN qN1⟩
          | go_keep)
        (first
          | (go_at_call 7; refine (meshFault_any _ _ _ _ _ _ _ _ _ (by first | with_reducible exact HV.out.kept (by repeat (first | with_reducible exact Bx | with_reducible exact Below.refl _ _ | with_reducible refine Below.drew ?_ | with_reducible refine bdrewN ?_ _)) | with_reducible exact HW.out.kept (by repeat (first | with_reducible exact Bx | with_reducible exact Below.refl _ _ | with_reducible refine Below.drew ?_ | with_reducible refine bdrewN ?_ _))) (by first | with_reducible exact HF.out.kept (by repeat (first | with_reducible exact Bx | with_reducible exact Below.refl _ _ | with_reducible refine Below.drew ?_ | with_reducible refine bdrewN ?_ _)) | with_reducible exact HG.out.kept (by repeat (first | with_reducible exact Bx | with_reducible exact Below.refl _ _ | with_reducible refine Below.drew ?_ | with_reducible refine bdrewN ?_ _))) (by omega) (by omega)).mono ?_; rintro e wx ⟨rfl, hbx⟩; have Bx' : Below w5.heap.size w5 wx := Below.trans (by repeat (first | with_reducible exact Bx | with_reducible exact Below.refl _ _ | with_reducible refine Below.drew ?_ | with_reducible refine bdrewN ?_ _)) (hbx.mono (Below.size (B := w5.heap.size) (by repeat (first | with_reducible exact Bx | with_reducible exact Below.refl _ _ | with_reducible refine Below.drew ?_ | with_reducible refine bdrewN ?_ _)))); have Bx := Bx'; clear hbx Bx'))
      all_goals (go_wp2_with (fail))
      all_goals go_meet
      all_goals exact ⟨congrArg (Value.int .i64) HF1.out, congrArg (Value.int .i64) HF2.out, Bx⟩
    case rest =>
      obtain ⟨rfl, rfl, hb⟩ := hcut
      clear qM0 qM1 qN0 qN1
      have HB := Lib.hid hb
      replace KM := Lib.hid (KM.out.kept hb)
      replace KN := Lib.hid (KN.out.kept hb)
      replace HV := Lib.hid (HV.out.kept hb)
      replace HF := Lib.hid (HF.out.kept hb)
      replace HW := Lib.hid (HW.out.kept hb)
      replace HG := Lib.hid (HG.out.kept hb)
      replace HL := Lib.hid (HL.out.kept hb)
      clear hb
      obtain ⟨fb, hfb⟩ : ∃ f, fault (nv + mv) (jV nv V W) (nf + mf) (jF nv nf F G) = f := ⟨_, rfl⟩
      obtain ⟨Ej, hEj⟩ : ∃ E, orE f1 (orE f2 fb) = E := ⟨_, rfl⟩
      obtain ⟨pn, hpn⟩ : ∃ k, cnt (useB (chF F L) n) nv = k := ⟨_, rfl⟩
      obtain ⟨pv, hpv⟩ : ∃ k, keepV (useB (chF F L) n) V nv = k := ⟨_, rfl⟩
      obtain ⟨pf, hpf⟩ : ∃ k, (fun i => rnf (place (useB (chF F L) n)) (chF F L i)) = k := ⟨_, rfl⟩
      obtain ⟨ff, hff⟩ : ∃ k, (if n = 0 then (8 : Int) else first (pErr nf L) n) = k := ⟨_, rfl⟩
      obtain ⟨fp, hfp⟩ : ∃ k, fault pn pv n pf = k := ⟨_, rfl⟩
      obtain ⟨Ep, hEp⟩ : ∃ k, orE f1 (orE ff fp) = k := ⟨_, rfl⟩
      obtain ⟨tn, htn⟩ : ∃ k, cnt (useB (wF V nv F) nf) nv = k := ⟨_, rfl⟩
      obtain ⟨tv, htv⟩ : ∃ k, keepV (useB (wF V nv F) nf) V nv = k := ⟨_, rfl⟩
      obtain ⟨tf, htf⟩ : ∃ k, (fun i => rnf (place (useB (wF V nv F) nf)) (wF V nv F i)) = k := ⟨_, rfl⟩
      obtain ⟨ft, hft⟩ : ∃ k, fault tn tv nf tf = k := ⟨_, rfl⟩
      obtain ⟨Ew, hEw⟩ : ∃ k, orE f1 ft = k := ⟨_, rfl⟩
      have htn' : tn ≤ 100 := by rw [← htn]; have := cnt_le (useB (wF V nv F) nf) nv; omega
      have hpn' : pn ≤ 100 := by rw [← hpn]; have := cnt_le (useB (chF F L) n) nv; omega
      have QJ := Lib.hid (show orE (fault nv V nf F) (orE (fault mv W mf G) (fault (nv + mv) (jV nv V W) (nf + mf) (jF nv nf F G))) = Ej by rw [HF1.out, HF2.out, hfb]; exact hEj)
      have QP := Lib.hid (show orE (fault nv V nf F) (if n = 0 then 8 else orE (first (pErr nf L) n) (fault pn pv n pf)) = Ep by
        rw [HF1.out, hfp, ← hEp, ← hff]
        by_cases h0 : n = 0
        · simp [h0, orE]
        · simp [h0])
      have QW := Lib.hid (show orE (fault nv V nf F) (fault tn tv nf tf) = Ew by rw [HF1.out, hft]; exact hEw)
      have H_fb := Lib.hid hfb
      have H_Ej := Lib.hid hEj
      have H_pn := Lib.hid hpn
      have H_pv := Lib.hid hpv
      have H_pf := Lib.hid hpf
      have H_ff := Lib.hid hff
      have H_fp := Lib.hid hfp
      have H_Ep := Lib.hid hEp
      have H_tn := Lib.hid htn
      have H_tv := Lib.hid htv
      have H_tf := Lib.hid htf
      have H_ft := Lib.hid hft
      have H_Ew := Lib.hid hEw
      clear hfb hEj hpn hpv hpf hff hfp hEp htn htv htf hft hEw
      have qM0 := KM.out.c0
      have qM1 := KM.out.c1
      have qN0 := KN.out.c0
      have qN1 := KN.out.c1
      go_wp2_with (fail)
      clear qM0 qM1 qN0 qN1
      refine (joined_any av af bv bf nv cv nf cf mv dv mf df V F W G _ (HV.out.kept (by repeat (first | exact Below.refl _ _ | assumption | refine Below.drew ?_ | refine bdrewN ?_ _ | refine Below.setCell ?_ (by first | omega | (simp <;> omega)) _ | refine Below.alloc ?_ (by first | omega | (simp <;> omega)) _))) (HF.out.kept (by repeat (first | exact Below.refl _ _ | assumption | refine Below.drew ?_ | refine bdrewN ?_ _ | refine Below.setCell ?_ (by first | omega | (simp <;> omega)) _ | refine Below.alloc ?_ (by first | omega | (simp <;> omega)) _))) (HW.out.kept (by repeat (first | exact Below.refl _ _ | assumption | refine Below.drew ?_ | refine bdrewN ?_ _ | refine Below.setCell ?_ (by first | omega | (simp <;> omega)) _ | refine Below.alloc ?_ (by first | omega | (simp <;> omega)) _))) (HG.out.kept (by repeat (first | exact Below.refl _ _ | assumption | refine Below.drew ?_ | refine bdrewN ?_ _ | refine Below.setCell ?_ (by first | omega | (simp <;> omega)) _ | refine Below.alloc ?_ (by first | omega | (simp <;> omega)) _))) (by omega) (by omega) (by omega) (by omega) Ej QJ.out).mono ?_
      rintro e w6 ⟨a1, c1, a2, c2, rfl, rv, rf, hb⟩
      have Bw6 : Below wc.heap.size wc w6 := hb
      replace KM := Lib.hid (KM.out.kept Bw6)
      replace KN := Lib.hid (KN.out.kept Bw6)
      replace HV := Lib.hid (HV.out.kept Bw6)
      replace HF := Lib.hid (HF.out.kept Bw6)
      replace HW := Lib.hid (HW.out.kept Bw6)
      replace HG := Lib.hid (HG.out.kept Bw6)
      replace HL := Lib.hid (HL.out.kept Bw6)
      replace HB := Lib.hid (HB.out.trans (Bw6.mono HB.out.size))
      clear Bw6
      have RA1 := Lib.hid rv.row3
      clear rv
      have RA2 := Lib.hid rf.row3
      clear rf
      have qM0 := KM.out.c0
      have qM1 := KM.out.c1
      have xM := KM.out.lt
      go_wp2_with (fail)
      clear qM0 qM1
      refine (part_any av af nv cv nf cf V F al n cl L _ (HV.out.kept (by repeat (first | exact Below.refl _ _ | assumption | refine Below.drew ?_ | refine bdrewN ?_ _ | refine Below.setCell ?_ (by first | omega | (simp <;> omega)) _ | refine Below.alloc ?_ (by first | omega | (simp <;> omega)) _))) (HF.out.kept (by repeat (first | exact Below.refl _ _ | assumption | refine Below.drew ?_ | refine bdrewN ?_ _ | refine Below.setCell ?_ (by first | omega | (simp <;> omega)) _ | refine Below.alloc ?_ (by first | omega | (simp <;> omega)) _))) (by omega) (by omega) (HL.out.kept (by repeat (first | exact Below.refl _ _ | assumption | refine Below.drew ?_ | refine bdrewN ?_ _ | refine Below.setCell ?_ (by first | omega | (simp <;> omega)) _ | refine Below.alloc ?_ (by first | omega | (simp <;> omega)) _))) (by omega) pn pv pf Ep H_pn.out H_pv.out H_pf.out QP.out).mono ?_
      rintro e w7 ⟨b1, d1, b2, d2, rfl, rv, rf, hb⟩
      have Bw7 : Below w6.heap.size w6 w7 := Below.trans (by repeat (first | exact Below.refl _ _ | assumption | refine Below.drew ?_ | refine bdrewN ?_ _ | refine Below.setCell ?_ (by first | omega | (simp <;> omega)) _ | refine Below.alloc ?_ (by first | omega | (simp <;> omega)) _)) (hb.mono (by simp <;> omega))
      have KA : Hid (MB w7 (w6.heap.size) a1 (zr Ej (nv + mv)) c1 a2 (zr Ej (nf + mf)) c2) := Lib.hid (heap_keep hb (by repeat (first | (refine heap_new ?_; first | rfl | (simp; done)) | rw [Below.heap_setCell _ _ _ _ (by simp <;> omega)] | rw [Below.heap_alloc _ _ _ (by simp <;> omega)])))
      replace KM := Lib.hid (KM.out.kept Bw7)
      replace KN := Lib.hid (KN.out.kept Bw7)
      replace HV := Lib.hid (HV.out.kept Bw7)
      replace HF := Lib.hid (HF.out.kept Bw7)
      replace HW := Lib.hid (HW.out.kept Bw7)
      replace HG := Lib.hid (HG.out.kept Bw7)
      replace HL := Lib.hid (HL.out.kept Bw7)
      replace RA1 := Lib.hid (RA1.out.kept Bw7)
      replace RA2 := Lib.hid (RA2.out.kept Bw7)
      replace HB := Lib.hid (HB.out.trans (Bw7.mono HB.out.size))
      clear hb Bw7
      clear xM
      have RB1 := Lib.hid rv.row3
      clear rv
      have RB2 := Lib.hid rf.row3
      clear rf
      have qM0 := KM.out.c0
      have qM1 := KM.out.c1
      have xM := KM.out.lt
      go_wp2_with (fail)
      clear qM0 qM1
      refine (welded_any av af nv cv nf cf V F _ (HV.out.kept (by repeat (first | exact Below.refl _ _ | assumption | refine Below.drew ?_ | refine bdrewN ?_ _ | refine Below.setCell ?_ (by first | omega | (simp <;> omega)) _ | refine Below.alloc ?_ (by first | omega | (simp <;> omega)) _))) (HF.out.kept (by repeat (first | exact Below.refl _ _ | assumption | refine Below.drew ?_ | refine bdrewN ?_ _ | refine Below.setCell ?_ (by first | omega | (simp <;> omega)) _ | refine Below.alloc ?_ (by first | omega | (simp <;> omega)) _))) (by omega) (by omega) tn tv tf Ew H_tn.out H_tv.out H_tf.out QW.out).mono ?_
      rintro e w8 ⟨g1, e1, g2, e2, rfl, rv, rf, hb⟩
      have Bw8 : Below w7.heap.size w7 w8 := Below.trans (by repeat (first | exact Below.refl _ _ | assumption | refine Below.drew ?_ | refine bdrewN ?_ _ | refine Below.setCell ?_ (by first | omega | (simp <;> omega)) _ | refine Below.alloc ?_ (by first | omega | (simp <;> omega)) _)) (hb.mono (by simp <;> omega))
      have KB : Hid (MB w8 (w7.heap.size) b1 (zr Ep pn) d1 b2 (zr Ep n) d2) := Lib.hid (heap_keep hb (by repeat (first | (refine heap_new ?_; first | rfl | (simp; done)) | rw [Below.heap_setCell _ _ _ _ (by simp <;> omega)] | rw [Below.heap_alloc _ _ _ (by simp <;> omega)])))
      replace KM := Lib.hid (KM.out.kept Bw8)
      replace KN := Lib.hid (KN.out.kept Bw8)
      replace KA := Lib.hid (KA.out.kept Bw8)
      replace HV := Lib.hid (HV.out.kept Bw8)
      replace HF := Lib.hid (HF.out.kept Bw8)
      replace HW := Lib.hid (HW.out.kept Bw8)
      replace HG := Lib.hid (HG.out.kept Bw8)
      replace HL := Lib.hid (HL.out.kept Bw8)
      replace RA1 := Lib.hid (RA1.out.kept Bw8)
      replace RA2 := Lib.hid (RA2.out.kept Bw8)
      replace RB1 := Lib.hid (RB1.out.kept Bw8)
      replace RB2 := Lib.hid (RB2.out.kept Bw8)
      replace HB := Lib.hid (HB.out.trans (Bw8.mono HB.out.size))
      clear hb Bw8
      clear xM
      have RC1 := Lib.hid rv.row3
      clear rv
      have RC2 := Lib.hid rf.row3
      clear rf
      go_wp2_with (fail)
      refine (or2B _ f1 f2 (w8.alloc (.cells #[.slice g1 (zr Ew tn) e1, .slice g2 (zr Ew nf) e2] 29)) (by simp)).mono ?_
      rintro e w9 ⟨rfl, hb⟩
      have Bw9 : Below w8.heap.size w8 w9 := Below.trans (by repeat (first | exact Below.refl _ _ | assumption | refine Below.drew ?_ | refine bdrewN ?_ _ | refine Below.setCell ?_ (by first | omega | (simp <;> omega)) _ | refine Below.alloc ?_ (by first | omega | (simp <;> omega)) _)) (hb.mono (by simp <;> omega))
      have KC : Hid (MB w9 (w8.heap.size) g1 (zr Ew tn) e1 g2 (zr Ew nf) e2) := Lib.hid (heap_keep hb (by repeat (first | (refine heap_new ?_; first | rfl | (simp; done)) | rw [Below.heap_setCell _ _ _ _ (by simp <;> omega)] | rw [Below.heap_alloc _ _ _ (by simp <;> omega)])))
      replace KM := Lib.hid (KM.out.kept Bw9)
      replace KN := Lib.hid (KN.out.kept Bw9)
      replace KA := Lib.hid (KA.out.kept Bw9)
      replace KB := Lib.hid (KB.out.kept Bw9)
      replace HV := Lib.hid (HV.out.kept Bw9)
      replace HF := Lib.hid (HF.out.kept Bw9)
      replace HW := Lib.hid (HW.out.kept Bw9)
      replace HG := Lib.hid (HG.out.kept Bw9)
      replace HL := Lib.hid (HL.out.kept Bw9)
      replace RA1 := Lib.hid (RA1.out.kept Bw9)
      replace RA2 := Lib.hid (RA2.out.kept Bw9)
      replace RB1 := Lib.hid (RB1.out.kept Bw9)
      replace RB2 := Lib.hid (RB2.out.kept Bw9)
      replace RC1 := Lib.hid (RC1.out.kept Bw9)
      replace RC2 := Lib.hid (RC2.out.kept Bw9)
      replace HB := Lib.hid (HB.out.trans (Bw9.mono HB.out.size))
      clear hb Bw9
      generalize hO : orE f1 f2 = O at *
      have H_O := Lib.hid hO
      clear hO
      go_upto_if 66 with (fail)
      have HQ : Hid (Below w9.heap.size w9 (((w9.alloc (JB none 0 0 none 0 0)).alloc (JB none 0 0 none 0 0)).alloc (JB none 0 0 none 0 0))) := Lib.hid (by repeat (first | exact Below.refl _ _ | assumption | refine Below.drew ?_ | refine bdrewN ?_ _ | refine Below.setCell ?_ (by first | omega | (simp <;> omega)) _ | refine Below.alloc ?_ (by first | omega | (simp <;> omega)) _))
      have KX : Hid (MB (((w9.alloc (JB none 0 0 none 0 0)).alloc (JB none 0 0 none 0 0)).alloc (JB none 0 0 none 0 0)) w9.heap.size none 0 0 none 0 0) := Lib.hid (by unfold MB; exact (by repeat (first | (refine heap_new ?_; first | rfl | (simp; done)) | rw [Below.heap_setCell _ _ _ _ (by simp <;> omega)] | rw [Below.heap_alloc _ _ _ (by simp <;> omega)])))
      have KY : Hid (MB (((w9.alloc (JB none 0 0 none 0 0)).alloc (JB none 0 0 none 0 0)).alloc (JB none 0 0 none 0 0)) (w9.heap.size + 1) none 0 0 none 0 0) := Lib.hid (by unfold MB; exact (by repeat (first | (refine heap_new ?_; first | rfl | (simp; done)) | rw [Below.heap_setCell _ _ _ _ (by simp <;> omega)] | rw [Below.heap_alloc _ _ _ (by simp <;> omega)])))
      have KZ : Hid (MB (((w9.alloc (JB none 0 0 none 0 0)).alloc (JB none 0 0 none 0 0)).alloc (JB none 0 0 none 0 0)) (w9.heap.size + 1 + 1) none 0 0 none 0 0) := Lib.hid (by unfold MB; exact (by repeat (first | (refine heap_new ?_; first | rfl | (simp; done)) | rw [Below.heap_setCell _ _ _ _ (by simp <;> omega)] | rw [Below.heap_alloc _ _ _ (by simp <;> omega)])))
      have hq : (((w9.alloc (JB none 0 0 none 0 0)).alloc (JB none 0 0 none 0 0)).alloc (JB none 0 0 none 0 0)).heap.size = w9.heap.size + 1 + 1 + 1 := by simp
      change Code.wp _ _ _ _ (((w9.alloc (JB none 0 0 none 0 0)).alloc (JB none 0 0 none 0 0)).alloc (JB none 0 0 none 0 0))
      generalize (((w9.alloc (JB none 0 0 none 0 0)).alloc (JB none 0 0 none 0 0)).alloc (JB none 0 0 none 0 0)) = wq at *
      have lM9 := KM.out.lt
      have lN9 := KN.out.lt
      have lA9 := KA.out.lt
      have lB9 := KB.out.lt
      have lC9 := KC.out.lt
      go_cut [15] from 65 to 72 (fun s15 wx => s15 = .int .i64 Ej ∧ MH wx wq.heap.size (w9.heap.size) Ej (nv + mv) (jV nv V W) (nf + mf) (jF nv nf F G) ∧ MB wx (w9.heap.size + 1) none 0 0 none 0 0 ∧ MB wx (w9.heap.size + 1 + 1) none 0 0 none 0 0 ∧ Below w9.heap.size w9 wx ∧ wq.heap.size ≤ wx.heap.size)
      case first =>
        by_cases h : O = 0
        · subst h
          obtain ⟨z1, z2⟩ := orE_0 H_O.out
          have R1 := Lib.hid (HF2.out.trans z2)
          have R2 : Hid (fault (nv + mv) (jV nv V W) (nf + mf) (jF nv nf F G) = Ej) := Lib.hid (H_fb.out.trans (by have := H_Ej.out; rw [z1, z2, orE_z, orE_z] at this; exact this))
          clear z1 z2
          have qM0 := (KM.out.keptP HQ.out lM9).c0
          have qM1 := (KM.out.keptP HQ.out lM9).c1
          have qN0 := (KN.out.keptP HQ.out lN9).c0
          have qN1 := (KN.out.keptP HQ.out lN9).c1
          go_wp2_with (fail)
          refine (joinedM_any av af bv bf nv cv nf cf mv dv mf df V F W G _ (HV.out.kept HQ.out) (HF.out.kept HQ.out) (HW.out.kept HQ.out) (HG.out.kept HQ.out) (by omega) (by omega) (by omega) (by omega) R1.out Ej R2.out).mono ?_
          rintro e wx ⟨a3, c3, a4, c4, rfl, rv, rf, hb⟩
          have hbs := hb.size
          have kx := KX.out.kept hb
          have ky := KY.out.kept hb
          have kz := KZ.out.kept hb
          have bb := HQ.out.trans (hb.mono HQ.out.size)
          have qX0 := kx.c0
          have qX1 := kx.c1
          have qXf := kx.fr (o := 0)
          have qXg := kx.fr (o := 1)
          clear qM0 qM1 qN0 qN1
          go_wp2_with (fail)
          go_meet
          exact ⟨rfl, MH.put kx rv rf (by omega) (by omega) (by omega), (ky.other (by omega)).other (by omega), (kz.other (by omega)).other (by omega), Below.setCell (Below.setCell bb (p := ⟨w9.heap.size, 0, none⟩) (by show _ ≤ w9.heap.size; omega) _) (p := ⟨w9.heap.size, 1, none⟩) (by show _ ≤ w9.heap.size; omega) _, by simp [World.setCell]; omega⟩
        · have e : (O == 0) = false := by simpa using h
          go_wp2_with (fail)
          go_meet
          have eE : O = Ej := by rw [← H_Ej.out, ← H_O.out]; exact (orE_ne (by rw [H_O.out]; exact h) _).symm
          exact ⟨congrArg (Value.int .i64) eE, KX.out.noMesh (by rw [← eE]; exact h), KY.out, KZ.out, HQ.out, Nat.le_refl _⟩
      case rest =>
        obtain ⟨rfl, hx, hy, hz, hp, hsq⟩ := hcut
        have HX := Lib.hid hx
        clear KX KY KZ
        have KY := Lib.hid hy
        have KZ := Lib.hid hz
        have HP := Lib.hid hp
        clear hx hy hz hp HQ
        go_upto_if 74 with (fail)
        go_cut [16] from 73 to 85 (fun s16 wx => s16 = .int .i64 Ep ∧ MH wx wq.heap.size (w9.heap.size) Ej (nv + mv) (jV nv V W) (nf + mf) (jF nv nf F G) ∧ MH wx wq.heap.size (w9.heap.size + 1) Ep pn pv n pf ∧ MB wx (w9.heap.size + 1 + 1) none 0 0 none 0 0 ∧ Below w9.heap.size w9 wx ∧ wq.heap.size ≤ wx.heap.size)
        case first =>
          by_cases h : f1 = 0
          · subst h
            have qM0 := (KM.out.keptP HP.out lM9).c0
            have qM1 := (KM.out.keptP HP.out lM9).c1
            go_wp2_with (fail)
            refine (facesFault_any av af nv cv nf cf al n cl L _ (HL.out.kept HP.out) (by omega) (by omega) hcap).mono ?_
            rintro e wy ⟨rfl, hb⟩
            rw [H_ff.out]
            have hbs := hb.size
            have hxy := HX.out.kept hb
            have kyy := KY.out.kept hb
            have kzy := KZ.out.kept hb
            have hpy := HP.out.trans (hb.mono HP.out.size)
            have HXy := Lib.hid hxy
            have KYy := Lib.hid kyy
            have KZy := Lib.hid kzy
            have HPy := Lib.hid hpy
            clear hb hxy kyy kzy hpy qM0 qM1
            by_cases h2 : ff = 0
            · subst h2
              have hn0 : n ≠ 0 := fun e => by have := H_ff.out; rw [if_pos e] at this; omega
              have hfi : first (pErr nf L) n = 0 := by have := H_ff.out; rwa [if_neg hn0] at this
              have R2 : Hid (fault pn pv n pf = Ep) := Lib.hid (H_fp.out.trans (by have := H_Ep.out; rw [orE_z, orE_z] at this; exact this))
              have qM0 := (KM.out.keptP HPy.out lM9).c0
              have qM1 := (KM.out.keptP HPy.out lM9).c1
              go_wp2_with (fail)
              refine (partM_any av af nv cv nf cf V F al n cl L _ (HV.out.kept HPy.out) (HF.out.kept HPy.out) (by omega) (by omega) (HL.out.kept HPy.out) (by omega) HF1.out (pErr_none hfi) pn pv pf Ep H_pn.out H_pv.out H_pf.out R2.out).mono ?_
              rintro e wx ⟨b3, d3, b4, d4, rfl, rv, rf, hb⟩
              have hbs2 := hb.size
              have hx := HXy.out.kept hb
              have ky := KYy.out.kept hb
              have kz := KZy.out.kept hb
              have bb := HPy.out.trans (hb.mono HPy.out.size)
              have qY0 := ky.c0
              have qY1 := ky.c1
              have qYf := ky.fr (o := 0)
              have qYg := ky.fr (o := 1)
              clear qM0 qM1
              go_wp2_with (fail)
              go_meet
              exact ⟨rfl, (hx.other (by omega) (by omega)).other (by omega) (by omega), MH.put ky rv rf (by omega) (by omega) (by omega), (kz.other (by omega)).other (by omega), Below.setCell (Below.setCell bb (p := ⟨w9.heap.size + 1, 0, none⟩) (by show _ ≤ w9.heap.size + 1; omega) _) (p := ⟨w9.heap.size + 1, 1, none⟩) (by show _ ≤ w9.heap.size + 1; omega) _, by simp [World.setCell]; omega⟩
            · have e2 : (ff == 0) = false := by simpa using h2
              go_wp2_with (fail)
              go_meet
              have eE : ff = Ep := by rw [← H_Ep.out, orE_z]; exact (orE_ne1 h2 _).symm
              exact ⟨congrArg (Value.int .i64) eE, HXy.out, KYy.out.noMesh (by rw [← eE]; exact h2), KZy.out, HPy.out, by omega⟩
          · have e : (f1 == 0) = false := by simpa using h
            go_wp2_with (fail)
            go_meet
            have eE : f1 = Ep := by rw [← H_Ep.out]; exact (orE_ne1 h _).symm
            exact ⟨congrArg (Value.int .i64) eE, HX.out, KY.out.noMesh (by rw [← eE]; exact h), KZ.out, HP.out, hsq⟩
        case rest =>
          obtain ⟨rfl, hx, hy, hz, hp, hsq2⟩ := hcut
          clear HX KY KZ HP
          have HX := Lib.hid hx
          have HY := Lib.hid hy
          have KZ := Lib.hid hz
          have HP := Lib.hid hp
          clear hx hy hz hp hsq
          go_upto_if 87 with (fail)
          go_cut [17] from 86 to 92 (fun s17 wx => s17 = .int .i64 Ew ∧ MH wx wq.heap.size (w9.heap.size) Ej (nv + mv) (jV nv V W) (nf + mf) (jF nv nf F G) ∧ MH wx wq.heap.size (w9.heap.size + 1) Ep pn pv n pf ∧ MH wx wq.heap.size (w9.heap.size + 1 + 1) Ew tn tv nf tf ∧ Below w9.heap.size w9 wx ∧ wq.heap.size ≤ wx.heap.size)
          case first =>
            by_cases h : f1 = 0
            · subst h
              have R2 : Hid (fault tn tv nf tf = Ew) := Lib.hid (H_ft.out.trans (by have := H_Ew.out; rw [orE_z] at this; exact this))
              have qM0 := (KM.out.keptP HP.out lM9).c0
              have qM1 := (KM.out.keptP HP.out lM9).c1
              go_wp2_with (fail)
              refine (weldedM_any av af nv cv nf cf V F _ (HV.out.kept HP.out) (HF.out.kept HP.out) (by omega) (by omega) HF1.out tn tv tf Ew H_tn.out H_tv.out H_tf.out R2.out).mono ?_
              rintro e wx ⟨g3, e3, g4, e4, rfl, rv, rf, hb⟩
              have hbs2 := hb.size
              have hx := HX.out.kept hb
              have hy := HY.out.kept hb
              have kz := KZ.out.kept hb
              have bb := HP.out.trans (hb.mono HP.out.size)
              have qZ0 := kz.c0
              have qZ1 := kz.c1
              have qZf := kz.fr (o := 0)
              have qZg := kz.fr (o := 1)
              clear qM0 qM1
              go_wp2_with (fail)
              go_meet
              exact ⟨rfl, (hx.other (by omega) (by omega)).other (by omega) (by omega), (hy.other (by omega) (by omega)).other (by omega) (by omega), MH.put kz rv rf (by omega) (by omega) (by omega), Below.setCell (Below.setCell bb (p := ⟨w9.heap.size + 1 + 1, 0, none⟩) (by show _ ≤ w9.heap.size + 1 + 1; omega) _) (p := ⟨w9.heap.size + 1 + 1, 1, none⟩) (by show _ ≤ w9.heap.size + 1 + 1; omega) _, by simp [World.setCell]; omega⟩
            · have e : (f1 == 0) = false := by simpa using h
              go_wp2_with (fail)
              go_meet
              have eE : f1 = Ew := by rw [← H_Ew.out]; exact (orE_ne1 h _).symm
              exact ⟨congrArg (Value.int .i64) eE, HX.out, HY.out, KZ.out.noMesh (by rw [← eE]; exact h), HP.out, hsq2⟩
          case rest =>
            obtain ⟨rfl, hx, hy, hz, hp, hsq3⟩ := hcut
            clear HX HY KZ HP
            obtain ⟨x1, y1, x2, y2, kx, rx1, rx2⟩ := hx
            obtain ⟨x3, y3, x4, y4, ky, rx3, rx4⟩ := hy
            obtain ⟨x5, y5, x6, y6, kz, rx5, rx6⟩ := hz
            have KX := Lib.hid kx
            have KY := Lib.hid ky
            have KZ := Lib.hid kz
            have RX1 := Lib.hid rx1.row3
            have RX2 := Lib.hid rx2.row3
            have RY1 := Lib.hid rx3.row3
            have RY2 := Lib.hid rx4.row3
            have RZ1 := Lib.hid rx5.row3
            have RZ2 := Lib.hid rx6.row3
            replace KA := Lib.hid (KA.out.keptP hp lA9)
            replace KB := Lib.hid (KB.out.keptP hp lB9)
            replace KC := Lib.hid (KC.out.keptP hp lC9)
            replace RA1 := Lib.hid (RA1.out.kept hp)
            replace RA2 := Lib.hid (RA2.out.kept hp)
            replace RB1 := Lib.hid (RB1.out.kept hp)
            replace RB2 := Lib.hid (RB2.out.kept hp)
            replace RC1 := Lib.hid (RC1.out.kept hp)
            replace RC2 := Lib.hid (RC2.out.kept hp)
            replace HB := Lib.hid (HB.out.trans (hp.mono HB.out.size))
            clear hp kx ky kz rx1 rx2 rx3 rx4 rx5 rx6 KM KN HV HF HW HG HL lM9 lN9 lA9 lB9 lC9 QJ QP QW HF1 HF2 H_ff H_O H_Ep H_Ew H_pn H_pv H_pf H_tn H_tv H_tf H_fp H_ft
            have qA0 := KA.out.c0
            have qA1 := KA.out.c1
            have qX0 := KX.out.c0
            have qX1 := KX.out.c1
            go_wp2_with (fail)
            clear qA0 qA1 qX0 qX1
            refine (sameMesh_any a1 x1 a2 x2 _ c1 y1 _ c2 y2 (jV nv V W) (jF nv nf F G) _ RA1.out RX1.out RA2.out RX2.out (by have := zr_le Ej (nv + mv); omega) (by have := zr_le Ej (nf + mf); omega)).mono ?_
            rintro e w21 ⟨rfl, hb⟩
            have Bw21 : Below wc.heap.size wc w21 := hb
            replace KA := Lib.hid (KA.out.kept Bw21)
            replace KB := Lib.hid (KB.out.kept Bw21)
            replace KC := Lib.hid (KC.out.kept Bw21)
            replace KX := Lib.hid (KX.out.kept Bw21)
            replace KY := Lib.hid (KY.out.kept Bw21)
            replace KZ := Lib.hid (KZ.out.kept Bw21)
            replace RA1 := Lib.hid (RA1.out.kept Bw21)
            replace RA2 := Lib.hid (RA2.out.kept Bw21)
            replace RB1 := Lib.hid (RB1.out.kept Bw21)
            replace RB2 := Lib.hid (RB2.out.kept Bw21)
            replace RC1 := Lib.hid (RC1.out.kept Bw21)
            replace RC2 := Lib.hid (RC2.out.kept Bw21)
            replace RX1 := Lib.hid (RX1.out.kept Bw21)
            replace RX2 := Lib.hid (RX2.out.kept Bw21)
            replace RY1 := Lib.hid (RY1.out.kept Bw21)
            replace RY2 := Lib.hid (RY2.out.kept Bw21)
            replace RZ1 := Lib.hid (RZ1.out.kept Bw21)
            replace RZ2 := Lib.hid (RZ2.out.kept Bw21)
            replace HB := Lib.hid (HB.out.trans (Bw21.mono HB.out.size))
            clear Bw21
            have qB0 := KB.out.c0
            have qB1 := KB.out.c1
            have qY0 := KY.out.c0
            have qY1 := KY.out.c1
            go_wp2_with (fail)
            clear qB0 qB1 qY0 qY1
            refine (sameMesh_any b1 x3 b2 x4 _ d1 y3 _ d2 y4 pv pf _ RB1.out RY1.out RB2.out RY2.out (by have := zr_le Ep (pn); omega) (by have := zr_le Ep (n); omega)).mono ?_
            rintro e w22 ⟨rfl, hb⟩
            have Bw22 : Below w21.heap.size w21 w22 := hb
            replace KA := Lib.hid (KA.out.kept Bw22)
            replace KB := Lib.hid (KB.out.kept Bw22)
            replace KC := Lib.hid (KC.out.kept Bw22)
            replace KX := Lib.hid (KX.out.kept Bw22)
            replace KY := Lib.hid (KY.out.kept Bw22)
            replace KZ := Lib.hid (KZ.out.kept Bw22)
            replace RA1 := Lib.hid (RA1.out.kept Bw22)
            replace RA2 := Lib.hid (RA2.out.kept Bw22)
            replace RB1 := Lib.hid (RB1.out.kept Bw22)
            replace RB2 := Lib.hid (RB2.out.kept Bw22)
            replace RC1 := Lib.hid (RC1.out.kept Bw22)
            replace RC2 := Lib.hid (RC2.out.kept Bw22)
            replace RX1 := Lib.hid (RX1.out.kept Bw22)
            replace RX2 := Lib.hid (RX2.out.kept Bw22)
            replace RY1 := Lib.hid (RY1.out.kept Bw22)
            replace RY2 := Lib.hid (RY2.out.kept Bw22)
            replace RZ1 := Lib.hid (RZ1.out.kept Bw22)
            replace RZ2 := Lib.hid (RZ2.out.kept Bw22)
            replace HB := Lib.hid (HB.out.trans (Bw22.mono HB.out.size))
            clear Bw22
            have qC0 := KC.out.c0
            have qC1 := KC.out.c1
            have qZ0 := KZ.out.c0
            have qZ1 := KZ.out.c1
            go_wp2_with (fail)
            clear qC0 qC1 qZ0 qZ1
            refine (sameMesh_any g1 x5 g2 x6 _ e1 y5 _ e2 y6 tv tf _ RC1.out RZ1.out RC2.out RZ2.out (by have := zr_le Ew (tn); omega) (by have := zr_le Ew (nf); omega)).mono ?_
            rintro e w23 ⟨rfl, hb⟩
            have Bw23 : Below w22.heap.size w22 w23 := hb
            replace KA := Lib.hid (KA.out.kept Bw23)
            replace KB := Lib.hid (KB.out.kept Bw23)
            replace KC := Lib.hid (KC.out.kept Bw23)
            replace KX := Lib.hid (KX.out.kept Bw23)
            replace KY := Lib.hid (KY.out.kept Bw23)
            replace KZ := Lib.hid (KZ.out.kept Bw23)
            replace RA1 := Lib.hid (RA1.out.kept Bw23)
            replace RA2 := Lib.hid (RA2.out.kept Bw23)
            replace RB1 := Lib.hid (RB1.out.kept Bw23)
            replace RB2 := Lib.hid (RB2.out.kept Bw23)
            replace RC1 := Lib.hid (RC1.out.kept Bw23)
            replace RC2 := Lib.hid (RC2.out.kept Bw23)
            replace RX1 := Lib.hid (RX1.out.kept Bw23)
            replace RX2 := Lib.hid (RX2.out.kept Bw23)
            replace RY1 := Lib.hid (RY1.out.kept Bw23)
            replace RY2 := Lib.hid (RY2.out.kept Bw23)
            replace RZ1 := Lib.hid (RZ1.out.kept Bw23)
            replace RZ2 := Lib.hid (RZ2.out.kept Bw23)
            replace HB := Lib.hid (HB.out.trans (Bw23.mono HB.out.size))
            clear Bw23
            clear KB KC KY KZ RB1 RB2 RC1 RC2 RY1 RY2 RZ1 RZ2
            by_cases hE : Ej = 0
            · subst hE
              obtain ⟨_, z3⟩ := orE_0 H_Ej.out
              obtain ⟨_, z4⟩ := orE_0 z3
              have HZ := Lib.hid (H_fb.out.trans z4)
              clear z3 z4
              simp only [zr_z] at KA KX RA1 RA2 RX1 RX2
              obtain ⟨sn, hsn⟩ : ∃ k, cnt (useB (wF (jV nv V W) (nv + mv) (jF nv nf F G)) (nf + mf)) (nv + mv) = k := ⟨_, rfl⟩
              obtain ⟨sv, hsv⟩ : ∃ k, keepV (useB (wF (jV nv V W) (nv + mv) (jF nv nf F G)) (nf + mf)) (jV nv V W) (nv + mv) = k := ⟨_, rfl⟩
              obtain ⟨sf, hsf⟩ : ∃ k, (fun i => rnf (place (useB (wF (jV nv V W) (nv + mv) (jF nv nf F G)) (nf + mf))) (wF (jV nv V W) (nv + mv) (jF nv nf F G) i)) = k := ⟨_, rfl⟩
              obtain ⟨Es, hEs⟩ : ∃ k, fault sn sv (nf + mf) sf = k := ⟨_, rfl⟩
              have hsn' : sn ≤ 200 := by rw [← hsn]; have := cnt_le (useB (wF (jV nv V W) (nv + mv) (jF nv nf F G)) (nf + mf)) (nv + mv); omega
              have H_sn := Lib.hid hsn
              have H_sv := Lib.hid hsv
              have H_sf := Lib.hid hsf
              have H_Es := Lib.hid hEs
              clear hsn hsv hsf hEs
              have qA0 := KA.out.c0
              have qA1 := KA.out.c1
              go_wp2_with (fail)
              clear qA0 qA1
              refine (welded_any a1 a2 (nv + mv) c1 (nf + mf) c2 (jV nv V W) (jF nv nf F G) _ RA1.out RA2.out (by omega) (by omega) sn sv sf Es H_sn.out H_sv.out H_sf.out (by rw [HZ.out, orE_z]; exact H_Es.out)).mono ?_
              rintro e w24 ⟨u1, s1, u2, s2, rfl, rv, rf, hb⟩
              have Bw24 : Below w23.heap.size w23 w24 := hb
              replace KA := Lib.hid (KA.out.kept Bw24)
              replace KX := Lib.hid (KX.out.kept Bw24)
              replace RA1 := Lib.hid (RA1.out.kept Bw24)
              replace RA2 := Lib.hid (RA2.out.kept Bw24)
              replace RX1 := Lib.hid (RX1.out.kept Bw24)
              replace RX2 := Lib.hid (RX2.out.kept Bw24)
              replace HB := Lib.hid (HB.out.trans (Bw24.mono HB.out.size))
              clear Bw24
              have RD1 := Lib.hid rv.row3
              clear rv
              have RD2 := Lib.hid rf.row3
              clear rf
              have qX0 := KX.out.c0
              have qX1 := KX.out.c1
              have xX := KX.out.lt
              go_wp2_with (fail)
              clear qX0 qX1
              refine (weldedM_any x1 x2 (nv + mv) y1 (nf + mf) y2 (jV nv V W) (jF nv nf F G) _ (RX1.out.kept (by repeat (first | exact Below.refl _ _ | assumption | refine Below.drew ?_ | refine bdrewN ?_ _ | refine Below.setCell ?_ (by first | omega | (simp <;> omega)) _ | refine Below.alloc ?_ (by first | omega | (simp <;> omega)) _))) (RX2.out.kept (by repeat (first | exact Below.refl _ _ | assumption | refine Below.drew ?_ | refine bdrewN ?_ _ | refine Below.setCell ?_ (by first | omega | (simp <;> omega)) _ | refine Below.alloc ?_ (by first | omega | (simp <;> omega)) _))) (by omega) (by omega) HZ.out sn sv sf Es H_sn.out H_sv.out H_sf.out H_Es.out).mono ?_
              rintro e w25 ⟨u3, s3, u4, s4, rfl, rv, rf, hb⟩
              have Bw25 : Below w24.heap.size w24 w25 := Below.trans (by repeat (first | exact Below.refl _ _ | assumption | refine Below.drew ?_ | refine bdrewN ?_ _ | refine Below.setCell ?_ (by first | omega | (simp <;> omega)) _ | refine Below.alloc ?_ (by first | omega | (simp <;> omega)) _)) (hb.mono (by simp <;> omega))
              have KD : Hid (MB w25 (w24.heap.size) u1 (zr Es sn) s1 u2 (zr Es (nf + mf)) s2) := Lib.hid (heap_keep hb (by repeat (first | (refine heap_new ?_; first | rfl | (simp; done)) | rw [Below.heap_setCell _ _ _ _ (by simp <;> omega)] | rw [Below.heap_alloc _ _ _ (by simp <;> omega)])))
              replace KA := Lib.hid (KA.out.kept Bw25)
              replace KX := Lib.hid (KX.out.kept Bw25)
              replace RA1 := Lib.hid (RA1.out.kept Bw25)
              replace RA2 := Lib.hid (RA2.out.kept Bw25)
              replace RX1 := Lib.hid (RX1.out.kept Bw25)
              replace RX2 := Lib.hid (RX2.out.kept Bw25)
              replace RD1 := Lib.hid (RD1.out.kept Bw25)
              replace RD2 := Lib.hid (RD2.out.kept Bw25)
              replace HB := Lib.hid (HB.out.trans (Bw25.mono HB.out.size))
              clear hb Bw25
              clear xX
              have RE1 := Lib.hid rv.row3
              clear rv
              have RE2 := Lib.hid rf.row3
              clear rf
              have qD0 := KD.out.c0
              have qD1 := KD.out.c1
              have xD := KD.out.lt
              go_wp2_with (fail)
              clear qD0 qD1
              refine (sameMesh_any u1 u3 u2 u4 _ s1 s3 _ s2 s4 sv sf _ (RD1.out.kept (by repeat (first | exact Below.refl _ _ | assumption | refine Below.drew ?_ | refine bdrewN ?_ _ | refine Below.setCell ?_ (by first | omega | (simp <;> omega)) _ | refine Below.alloc ?_ (by first | omega | (simp <;> omega)) _))) (RE1.out.kept (by repeat (first | exact Below.refl _ _ | assumption | refine Below.drew ?_ | refine bdrewN ?_ _ | refine Below.setCell ?_ (by first | omega | (simp <;> omega)) _ | refine Below.alloc ?_ (by first | omega | (simp <;> omega)) _))) (RD2.out.kept (by repeat (first | exact Below.refl _ _ | assumption | refine Below.drew ?_ | refine bdrewN ?_ _ | refine Below.setCell ?_ (by first | omega | (simp <;> omega)) _ | refine Below.alloc ?_ (by first | omega | (simp <;> omega)) _))) (RE2.out.kept (by repeat (first | exact Below.refl _ _ | assumption | refine Below.drew ?_ | refine bdrewN ?_ _ | refine Below.setCell ?_ (by first | omega | (simp <;> omega)) _ | refine Below.alloc ?_ (by first | omega | (simp <;> omega)) _))) (by have := zr_le Es (sn); omega) (by have := zr_le Es (nf + mf); omega)).mono ?_
              rintro e w26 ⟨rfl, hb⟩
              have Bw26 : Below w25.heap.size w25 w26 := Below.trans (by repeat (first | exact Below.refl _ _ | assumption | refine Below.drew ?_ | refine bdrewN ?_ _ | refine Below.setCell ?_ (by first | omega | (simp <;> omega)) _ | refine Below.alloc ?_ (by first | omega | (simp <;> omega)) _)) (hb.mono (by simp <;> omega))
              have KE : Hid (MB w26 (w25.heap.size) u3 (zr Es sn) s3 u4 (zr Es (nf + mf)) s4) := Lib.hid (heap_keep hb (by repeat (first | (refine heap_new ?_; first | rfl | (simp; done)) | rw [Below.heap_setCell _ _ _ _ (by simp <;> omega)] | rw [Below.heap_alloc _ _ _ (by simp <;> omega)])))
              replace KA := Lib.hid (KA.out.kept Bw26)
              replace KX := Lib.hid (KX.out.kept Bw26)
              replace KD := Lib.hid (KD.out.kept Bw26)
              replace RA1 := Lib.hid (RA1.out.kept Bw26)
              replace RA2 := Lib.hid (RA2.out.kept Bw26)
              replace RX1 := Lib.hid (RX1.out.kept Bw26)
              replace RX2 := Lib.hid (RX2.out.kept Bw26)
              replace RD1 := Lib.hid (RD1.out.kept Bw26)
              replace RD2 := Lib.hid (RD2.out.kept Bw26)
              replace RE1 := Lib.hid (RE1.out.kept Bw26)
              replace RE2 := Lib.hid (RE2.out.kept Bw26)
              replace HB := Lib.hid (HB.out.trans (Bw26.mono HB.out.size))
              clear hb Bw26
              clear xD
              go_wp2_with (fail)
              refine (meshed_any _).mono ?_
              rintro e w27 ⟨rfl, hb⟩
              have Bw27 : Below w26.heap.size w26 w27 := hb
              replace HB := Lib.hid (HB.out.trans (Bw27.mono HB.out.size))
              clear Bw27
              have R := Lib.hid ((HM.out.toBelow w.heap.size (Nat.le_refl _) (fun k hk => by omega)).trans (HB.out.mono hw5))
              go_wp2
              go_ret
              exact ⟨rfl, R.out⟩
            · have e : (Ej != 0) = true := by simpa using hE
              go_wp2_with (fail)
              refine (meshed_any _).mono ?_
              rintro e w24 ⟨rfl, hb⟩
              have Bw24 : Below w23.heap.size w23 w24 := hb
              replace HB := Lib.hid (HB.out.trans (Bw24.mono HB.out.size))
              clear Bw24
              have R := Lib.hid ((HM.out.toBelow w.heap.size (Nat.le_refl _) (fun k hk => by omega)).trans (HB.out.mono hw5))
              go_wp2
              go_ret
              exact ⟨rfl, R.out⟩
end Go.Proofs.Ytpgpjoghfpfhlaa

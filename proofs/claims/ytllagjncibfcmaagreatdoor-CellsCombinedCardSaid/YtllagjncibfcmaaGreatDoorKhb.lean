/- Both of two cells. -/
import Derived.Test.YtllagjncibfcmaaGreatDoorKj
set_option linter.unusedSimpArgs false
set_option linter.unusedVariables false
namespace Go.Proofs.YtllagjncibfcmaaGreatDoor
open Go.RowKit

set_option maxRecDepth 100000 in
set_option maxHeartbeats 16000000 in
theorem twoBoth_any (s x y : Int) (a : Option Addr) (n c : Nat) (R : Nat → List UInt8) (s' x' y' : Int) (a' : Option Addr) (n' c' : Nat) (R' : Nat → List UInt8) (w : World) (cx cy dx dy : Int) (m m' : Nat) (hv1 : VC s x y n R cx cy m) (hv2 : VC s' x' y' n' R' dx dy m') (P : Int → Int → Bool) (hPQ : ∀ p q, P p q = (covB cx cy n R p q && covB dx dy n' R' p q)) (hPI : ∀ p q, P p q = true → covB cx cy n R p q = true) (hr : RowS w a n R) (hr' : RowS w a' n' R') (hl : ∀ i, i < n → (R i).length ≤ 1000000) (hn : n ≤ 1000000) (hl' : ∀ i, i < n' → (R' i).length ≤ 1000000) (hn' : n' ≤ 1000000) (h0 : combE s x y n R s' x' y' n' R' = 0) :
    Calls Tryz.prog 10 #[.agg #[.int .i64 s, .int .i64 x, .int .i64 y, .slice a n c], .agg #[.int .i64 s', .int .i64 x', .int .i64 y', .slice a' n' c']] w (CellsRes P s w) := by
  have HE := Lib.hid h0
  have HPQ := Lib.hid hPQ
  have HPI := Lib.hid hPI
  have HRa := Lib.hid hr
  have HRb := Lib.hid hr'
  have HLa := Lib.hid hl
  have HLb := Lib.hid hl'
  have HV1 := Lib.hid hv1
  have HV2 := Lib.hid hv2
  clear hr hr' h0 hl hl' hv1 hv2 hPQ hPI
  go_enter Tryz.func10, Tryz.ntmps10
  go_wp2_with (fail)
  have HW : Hid (Below w.heap.size w (((w.alloc (.cells #[.int .i64 s, .int .i64 x, .int .i64 y, .slice a n c] 28)).alloc (.cells #[.int .i64 s', .int .i64 x', .int .i64 y', .slice a' n' c'] 28)).alloc (.cells #[.int .i64 0, .int .i64 0, .int .i64 0, .slice none 0 0] 28))) := Lib.hid (by repeat (first | exact Below.refl _ _ | assumption | refine Below.drew ?_ | refine bdrewN ?_ _ | refine Below.setCell ?_ (by first | omega | (simp <;> omega)) _ | refine Below.alloc ?_ (by first | omega | (simp <;> omega)) _))
  have HA : Hid ((((w.alloc (.cells #[.int .i64 s, .int .i64 x, .int .i64 y, .slice a n c] 28)).alloc (.cells #[.int .i64 s', .int .i64 x', .int .i64 y', .slice a' n' c'] 28)).alloc (.cells #[.int .i64 0, .int .i64 0, .int .i64 0, .slice none 0 0] 28)).heap[w.heap.size]? = some (.cells #[.int .i64 s, .int .i64 x, .int .i64 y, .slice a n c] 28 (0, 0))) := Lib.hid (by repeat (first | (refine heap_new ?_; first | rfl | (simp; done)) | rw [Below.heap_alloc _ _ _ (by simp <;> omega)]))
  have HB : Hid ((((w.alloc (.cells #[.int .i64 s, .int .i64 x, .int .i64 y, .slice a n c] 28)).alloc (.cells #[.int .i64 s', .int .i64 x', .int .i64 y', .slice a' n' c'] 28)).alloc (.cells #[.int .i64 0, .int .i64 0, .int .i64 0, .slice none 0 0] 28)).heap[w.heap.size + 1]? = some (.cells #[.int .i64 s', .int .i64 x', .int .i64 y', .slice a' n' c'] 28 (0, 0))) := Lib.hid (by repeat (first | (refine heap_new ?_; first | rfl | (simp; done)) | rw [Below.heap_alloc _ _ _ (by simp <;> omega)]))
  have HZ : Hid ((((w.alloc (.cells #[.int .i64 s, .int .i64 x, .int .i64 y, .slice a n c] 28)).alloc (.cells #[.int .i64 s', .int .i64 x', .int .i64 y', .slice a' n' c'] 28)).alloc (.cells #[.int .i64 0, .int .i64 0, .int .i64 0, .slice none 0 0] 28)).heap[w.heap.size + 1 + 1]? = some (.cells #[.int .i64 0, .int .i64 0, .int .i64 0, .slice none 0 0] 28 (0, 0))) := Lib.hid (by repeat (first | (refine heap_new ?_; first | rfl | (simp; done)) | rw [Below.heap_alloc _ _ _ (by simp <;> omega)]))
  generalize (((w.alloc (.cells #[.int .i64 s, .int .i64 x, .int .i64 y, .slice a n c] 28)).alloc (.cells #[.int .i64 s', .int .i64 x', .int .i64 y', .slice a' n' c'] 28)).alloc (.cells #[.int .i64 0, .int .i64 0, .int .i64 0, .slice none 0 0] 28)) = v0 at *
  refine (checkBoth_any s x y a n c R s' x' y' a' n' c' R' _ (HRa.out.kept HW.out) HLa.out hn (HRb.out.kept HW.out) HLb.out hn').mono ?_
  rintro e w0 ⟨rfl, hb⟩
  rw [HE.out]
  replace HA := Lib.hid (heap_keep hb HA.out)
  replace HB := Lib.hid (heap_keep hb HB.out)
  replace HZ := Lib.hid (heap_keep hb HZ.out)
  have HW0 := Lib.hid (HW.out.trans (hb.mono HW.out.size))
  have HR1 := Lib.hid (HRa.out.kept HW0.out)
  have HR2 := Lib.hid (HRb.out.kept HW0.out)
  clear hb
  go_upto_region 4 with (fail)
  go_cut [7, 8] from 16 to 20 (TwoE w0 cx cy n R dx dy n' R')
  case first =>
    refine wp_region_held_drew (S := (fun w' => w'.heap[w.heap.size]? = some (.cells #[.int .i64 s, .int .i64 x, .int .i64 y, .slice a n c] 28 (0, 0)) ∧ w'.heap[w.heap.size + 1]? = some (.cells #[.int .i64 s', .int .i64 x', .int .i64 y', .slice a' n' c'] 28 (0, 0)))) (by kernel_rfl) ⟨HA.out, HB.out⟩ (fun hHeld => ?_)
    refine tkH (by assumption) 0 (oi := ?_) (v := ?_) ?_ ?_ ?_ ?_ ?_ ?_ ?_ ?_; rotate_left 2; (simp only [gA, gB, gC]; exact rfl); kernel_rfl; kernel_rfl; kernel_rfl; exact fun _ _ _ h => h; rfl; (intro w' hSw; obtain ⟨hs1, hs2⟩ := hSw; have z0 := cell_of (i := 0) hs1 rfl; have z1 := cell_of (i := 1) hs1 rfl; have z2 := cell_of (i := 2) hs1 rfl; have z3 := cell_of (i := 3) hs1 rfl; clear hs1 hs2; go_simp; with_reducible rfl); simp only [Act.put, pB, pC, pD]
    refine tkH (by assumption) 2 (oi := ?_) (v := ?_) ?_ ?_ ?_ ?_ ?_ ?_ ?_ ?_; rotate_left 2; (simp only [gA, gB, gC]; exact rfl); kernel_rfl; kernel_rfl; kernel_rfl; exact fun _ _ _ h => h; rfl; (intro w' hSw; obtain ⟨hs1, hs2⟩ := hSw; have z0 := cell_of (i := 0) hs2 rfl; have z1 := cell_of (i := 1) hs2 rfl; have z2 := cell_of (i := 2) hs2 rfl; have z3 := cell_of (i := 3) hs2 rfl; clear hs1 hs2; go_simp; with_reducible rfl); simp only [Act.put, pB, pC, pD]
    clear hHeld
    have HT : Hid (Below w0.heap.size w0 w0.drew) := Lib.hid (Below.refl _ _).drew
    generalize w0.drew = d0 at *
    refine wpAnyH_ready (rs := [1, 4, 5]) (by kernel_rfl) (by simp) ?_
    refine coH 1 (oi := ?_) ?_ ?_ (fun K hK => ?_) ?_; rotate_left; (simp only [gA, gB, gC]; exact rfl); rfl
    · go_wp2_with (fail)
      refine (covers_any a c _ HV1.out (HR1.out.kept HT.out)).mono ?_
      rintro e d37x1 ⟨f37x1, rfl, hcv, hb⟩
      obtain ⟨Bf37x1, Cf37x1, rfl⟩ := hcv.isfunc
      have HN := Lib.hid hcv
      clear hcv
      go_wp2_with (fail)
      have HTn := Lib.hid (HT.out.trans (hb.mono HT.out.size))
      replace HT := HTn
      clear HTn
      have HCF := HN
      clear hb HN
      refine hK.out _ _ ⟨heap_keep HT.out HA.out, heap_keep HT.out HB.out⟩ (fun hHeld => ?_)
      clear hK K hHeld
      try simp only [Act.put, pB, pC, pD]
      refine wpAnyH_ready (rs := [3, 4, 5]) (by kernel_rfl) (by simp) ?_
      refine coH 3 (oi := ?_) ?_ ?_ (fun K hK => ?_) ?_; rotate_left; (simp only [gA, gB, gC]; exact rfl); rfl
      · go_wp2_with (fail)
        refine (covers_any a' c' _ HV2.out (HR2.out.kept HT.out)).mono ?_
        rintro e d38x3 ⟨f38x3, rfl, hcv, hb⟩
        obtain ⟨Bf38x3, Cf38x3, rfl⟩ := hcv.isfunc
        have HN := Lib.hid hcv
        clear hcv
        go_wp2_with (fail)
        have HTn := Lib.hid (HT.out.trans (hb.mono HT.out.size))
        replace HT := HTn
        clear HTn
        replace HCF := Lib.hid (HCF.out.kept hb)
        have HCG := HN
        clear hb HN
        refine hK.out _ _ ⟨heap_keep HT.out HA.out, heap_keep HT.out HB.out⟩ (fun hHeld => ?_)
        clear hK K hHeld
        try simp only [Act.put, pB, pC, pD]
        refine wpAnyH_ready (rs := [4, 5]) (by kernel_rfl) (by simp) ?_
        refine coH 4 (oi := ?_) ?_ ?_ (fun K hK => ?_) ?_; rotate_left; (simp only [gA, gB, gC]; exact rfl); rfl
        · go_wp2_with (fail)
          have hb : Below d38x3.heap.size d38x3 (d38x3.alloc (.cells #[.nilFunc] 48)) := (Below.refl _ _).alloc (Nat.le_refl _) _
          have hnew : (d38x3.alloc (.cells #[.nilFunc] 48)).heap[d38x3.heap.size]? = some (.cells #[.nilFunc] 48 (0, 0)) := heap_new rfl
          have hnw : w0.heap.size ≤ d38x3.heap.size := HT.out.size
          have hne : ∀ X o, d38x3.heap[X]? = some o → X ≠ d38x3.heap.size := fun X o h e => by have := lt_of_heap h; omega
          generalize (d38x3.alloc (.cells #[.nilFunc] 48)) = d39x4 at *
          have HTn := Lib.hid (HT.out.trans (hb.mono HT.out.size))
          replace HT := HTn
          clear HTn
          replace HCF := Lib.hid (HCF.out.kept hb)
          replace HCG := Lib.hid (HCG.out.kept hb)
          have hU := hnew
          have hUw := hnw
          clear hb hnew hnw hne
          refine hK.out _ _ ⟨heap_keep HT.out HA.out, heap_keep HT.out HB.out⟩ (fun hHeld => ?_)
          clear hK K hHeld
          try simp only [Act.put, pB, pC, pD]
          refine wpAnyH_ready (rs := [5]) (by kernel_rfl) (by simp) ?_
          refine coH 5 (oi := ?_) ?_ ?_ (fun K hK => ?_) ?_; rotate_left; (simp only [gA, gB, gC]; exact rfl); rfl
          · go_wp2_with (fail)
            have hb : Below d39x4.heap.size d39x4 (d39x4.alloc (.cells #[.nilFunc] 48)) := (Below.refl _ _).alloc (Nat.le_refl _) _
            have hnew : (d39x4.alloc (.cells #[.nilFunc] 48)).heap[d39x4.heap.size]? = some (.cells #[.nilFunc] 48 (0, 0)) := heap_new rfl
            have hnw : w0.heap.size ≤ d39x4.heap.size := HT.out.size
            have hne : ∀ X o, d39x4.heap[X]? = some o → X ≠ d39x4.heap.size := fun X o h e => by have := lt_of_heap h; omega
            generalize (d39x4.alloc (.cells #[.nilFunc] 48)) = d40x5 at *
            have HTn := Lib.hid (HT.out.trans (hb.mono HT.out.size))
            replace HT := HTn
            clear HTn
            replace HCF := Lib.hid (HCF.out.kept hb)
            replace HCG := Lib.hid (HCG.out.kept hb)
            have hUV : d38x3.heap.size ≠ d39x4.heap.size := fun e => hne _ _ hU e
            have hV := hnew
            have hVw := hnw
            replace hU := heap_keep hb hU
            clear hb hnew hnw hne
            refine hK.out _ _ ⟨heap_keep HT.out HA.out, heap_keep HT.out HB.out⟩ (fun hHeld => ?_)
            clear hK K hHeld
            try simp only [Act.put, pB, pC, pD]
            have hlU41 := lt_of_heap hU
            have hlV41 := lt_of_heap hV
            have cU41 : d40x5.cell? ⟨d38x3.heap.size, 0, none⟩ = some .nilFunc := cell_of hU rfl
            have fU41 : d40x5.frozen? ⟨d38x3.heap.size, 0, none⟩ = false := frozen_of hU
            have HU1 : Hid ((d40x5.setCell ⟨d38x3.heap.size, 0, none⟩ (.func (.func 43) #[] #[.pointer (some ⟨Bf37x1, 0, none⟩), .pointer (some ⟨Cf37x1, 0, none⟩)])).heap[d38x3.heap.size]? = some (.cells #[(.func (.func 43) #[] #[.pointer (some ⟨Bf37x1, 0, none⟩), .pointer (some ⟨Cf37x1, 0, none⟩)])] 48 (0, 0))) := Lib.hid (set1 hU)
            have HV1 : Hid ((d40x5.setCell ⟨d38x3.heap.size, 0, none⟩ (.func (.func 43) #[] #[.pointer (some ⟨Bf37x1, 0, none⟩), .pointer (some ⟨Cf37x1, 0, none⟩)])).heap[d39x4.heap.size]? = some (.cells #[.nilFunc] 48 (0, 0))) := Lib.hid ((Below.heap_setCell _ _ _ _ (Ne.symm hUV)).trans hV)
            have HF1 : Hid (CovV (d40x5.setCell ⟨d38x3.heap.size, 0, none⟩ (.func (.func 43) #[] #[.pointer (some ⟨Bf37x1, 0, none⟩), .pointer (some ⟨Cf37x1, 0, none⟩)])) (.func (.func 43) #[] #[.pointer (some ⟨Bf37x1, 0, none⟩), .pointer (some ⟨Cf37x1, 0, none⟩)]) _ _ _ _) := Lib.hid (HCF.out.set hU)
            have HG1 : Hid (CovV (d40x5.setCell ⟨d38x3.heap.size, 0, none⟩ (.func (.func 43) #[] #[.pointer (some ⟨Bf37x1, 0, none⟩), .pointer (some ⟨Cf37x1, 0, none⟩)])) (.func (.func 43) #[] #[.pointer (some ⟨Bf38x3, 0, none⟩), .pointer (some ⟨Cf38x3, 0, none⟩)]) _ _ _ _) := Lib.hid (HCG.out.set hU)
            have HT1 : Hid (Below w0.heap.size w0 (d40x5.setCell ⟨d38x3.heap.size, 0, none⟩ (.func (.func 43) #[] #[.pointer (some ⟨Bf37x1, 0, none⟩), .pointer (some ⟨Cf37x1, 0, none⟩)]))) := Lib.hid (HT.out.setCell hUw _)
            clear hU hV HT HCF HCG
            refine onH 6 (oi := ?_) (by kernel_rfl) ?_ ?_ (fun K hK => ?_); rotate_left; (simp only [gA, gB, gC]; exact rfl); rfl
            go_wp2_with (fail)
            refine hK.out _ _ ⟨heap_keep HT1.out HA.out, heap_keep HT1.out HB.out⟩ (fun hHeld => ?_)
            clear hK K hHeld
            try simp only [Act.put, pB, pC, pD]
            generalize (d40x5.setCell ⟨d38x3.heap.size, 0, none⟩ (.func (.func 43) #[] #[.pointer (some ⟨Bf37x1, 0, none⟩), .pointer (some ⟨Cf37x1, 0, none⟩)])) = e0 at *
            have hV := HV1.out
            have cV41 : e0.cell? ⟨d39x4.heap.size, 0, none⟩ = some .nilFunc := cell_of hV rfl
            have fV41 : e0.frozen? ⟨d39x4.heap.size, 0, none⟩ = false := frozen_of hV
            have HU2 : Hid ((e0.setCell ⟨d39x4.heap.size, 0, none⟩ (.func (.func 43) #[] #[.pointer (some ⟨Bf38x3, 0, none⟩), .pointer (some ⟨Cf38x3, 0, none⟩)])).heap[d38x3.heap.size]? = some (.cells #[(.func (.func 43) #[] #[.pointer (some ⟨Bf37x1, 0, none⟩), .pointer (some ⟨Cf37x1, 0, none⟩)])] 48 (0, 0))) := Lib.hid ((Below.heap_setCell _ _ _ _ hUV).trans HU1.out)
            have HV2 : Hid ((e0.setCell ⟨d39x4.heap.size, 0, none⟩ (.func (.func 43) #[] #[.pointer (some ⟨Bf38x3, 0, none⟩), .pointer (some ⟨Cf38x3, 0, none⟩)])).heap[d39x4.heap.size]? = some (.cells #[(.func (.func 43) #[] #[.pointer (some ⟨Bf38x3, 0, none⟩), .pointer (some ⟨Cf38x3, 0, none⟩)])] 48 (0, 0))) := Lib.hid (set1 hV)
            have HF2 : Hid (CovV (e0.setCell ⟨d39x4.heap.size, 0, none⟩ (.func (.func 43) #[] #[.pointer (some ⟨Bf38x3, 0, none⟩), .pointer (some ⟨Cf38x3, 0, none⟩)])) (.func (.func 43) #[] #[.pointer (some ⟨Bf37x1, 0, none⟩), .pointer (some ⟨Cf37x1, 0, none⟩)]) _ _ _ _) := Lib.hid (HF1.out.set hV)
            have HG2 : Hid (CovV (e0.setCell ⟨d39x4.heap.size, 0, none⟩ (.func (.func 43) #[] #[.pointer (some ⟨Bf38x3, 0, none⟩), .pointer (some ⟨Cf38x3, 0, none⟩)])) (.func (.func 43) #[] #[.pointer (some ⟨Bf38x3, 0, none⟩), .pointer (some ⟨Cf38x3, 0, none⟩)]) _ _ _ _) := Lib.hid (HG1.out.set hV)
            have HT2 : Hid (Below w0.heap.size w0 (e0.setCell ⟨d39x4.heap.size, 0, none⟩ (.func (.func 43) #[] #[.pointer (some ⟨Bf38x3, 0, none⟩), .pointer (some ⟨Cf38x3, 0, none⟩)]))) := Lib.hid (HT1.out.setCell hVw _)
            clear hV HT1 HF1 HG1 HU1 HV1
            refine onH 7 (oi := ?_) (by kernel_rfl) ?_ ?_ (fun K hK => ?_); rotate_left; (simp only [gA, gB, gC]; exact rfl); rfl
            go_wp2_with (fail)
            refine hK.out _ _ ⟨heap_keep HT2.out HA.out, heap_keep HT2.out HB.out⟩ (fun hHeld => ?_)
            clear hK K hHeld
            try simp only [Act.put, pB, pC, pD]
            refine wpAnyH_done (by kernel_rfl) ?_ _
            go_wp2_with (fail)
            go_meet
            exact ⟨_, _, rfl, rfl, ⟨_, _, HU2.out, HV2.out, HF2.out, HG2.out⟩, HT2.out⟩
          exact AllReadyH.nil
        refine coH 5 (oi := ?_) ?_ ?_ (fun K hK => ?_) ?_; rotate_left; (simp only [gA, gB, gC]; exact rfl); rfl
        · go_wp2_with (fail)
          have hb : Below d38x3.heap.size d38x3 (d38x3.alloc (.cells #[.nilFunc] 48)) := (Below.refl _ _).alloc (Nat.le_refl _) _
          have hnew : (d38x3.alloc (.cells #[.nilFunc] 48)).heap[d38x3.heap.size]? = some (.cells #[.nilFunc] 48 (0, 0)) := heap_new rfl
          have hnw : w0.heap.size ≤ d38x3.heap.size := HT.out.size
          have hne : ∀ X o, d38x3.heap[X]? = some o → X ≠ d38x3.heap.size := fun X o h e => by have := lt_of_heap h; omega
          generalize (d38x3.alloc (.cells #[.nilFunc] 48)) = d39x5 at *
          have HTn := Lib.hid (HT.out.trans (hb.mono HT.out.size))
          replace HT := HTn
          clear HTn
          replace HCF := Lib.hid (HCF.out.kept hb)
          replace HCG := Lib.hid (HCG.out.kept hb)
          have hV := hnew
          have hVw := hnw
          clear hb hnew hnw hne
          refine hK.out _ _ ⟨heap_keep HT.out HA.out, heap_keep HT.out HB.out⟩ (fun hHeld => ?_)
          clear hK K hHeld
          try simp only [Act.put, pB, pC, pD]
          refine wpAnyH_ready (rs := [4]) (by kernel_rfl) (by simp) ?_
          refine coH 4 (oi := ?_) ?_ ?_ (fun K hK => ?_) ?_; rotate_left; (simp only [gA, gB, gC]; exact rfl); rfl
          · go_wp2_with (fail)
            have hb : Below d39x5.heap.size d39x5 (d39x5.alloc (.cells #[.nilFunc] 48)) := (Below.refl _ _).alloc (Nat.le_refl _) _
            have hnew : (d39x5.alloc (.cells #[.nilFunc] 48)).heap[d39x5.heap.size]? = some (.cells #[.nilFunc] 48 (0, 0)) := heap_new rfl
            have hnw : w0.heap.size ≤ d39x5.heap.size := HT.out.size
            have hne : ∀ X o, d39x5.heap[X]? = some o → X ≠ d39x5.heap.size := fun X o h e => by have := lt_of_heap h; omega
            generalize (d39x5.alloc (.cells #[.nilFunc] 48)) = d42x4 at *
            have HTn := Lib.hid (HT.out.trans (hb.mono HT.out.size))
            replace HT := HTn
            clear HTn
            replace HCF := Lib.hid (HCF.out.kept hb)
            replace HCG := Lib.hid (HCG.out.kept hb)
            have hUV : d39x5.heap.size ≠ d38x3.heap.size := fun e => hne _ _ hV e.symm
            have hU := hnew
            have hUw := hnw
            replace hV := heap_keep hb hV
            clear hb hnew hnw hne
            refine hK.out _ _ ⟨heap_keep HT.out HA.out, heap_keep HT.out HB.out⟩ (fun hHeld => ?_)
            clear hK K hHeld
            try simp only [Act.put, pB, pC, pD]
            have hlU43 := lt_of_heap hU
            have hlV43 := lt_of_heap hV
            have cU43 : d42x4.cell? ⟨d39x5.heap.size, 0, none⟩ = some .nilFunc := cell_of hU rfl
            have fU43 : d42x4.frozen? ⟨d39x5.heap.size, 0, none⟩ = false := frozen_of hU
            have HU1 : Hid ((d42x4.setCell ⟨d39x5.heap.size, 0, none⟩ (.func (.func 43) #[] #[.pointer (some ⟨Bf37x1, 0, none⟩), .pointer (some ⟨Cf37x1, 0, none⟩)])).heap[d39x5.heap.size]? = some (.cells #[(.func (.func 43) #[] #[.pointer (some ⟨Bf37x1, 0, none⟩), .pointer (some ⟨Cf37x1, 0, none⟩)])] 48 (0, 0))) := Lib.hid (set1 hU)
            have HV1 : Hid ((d42x4.setCell ⟨d39x5.heap.size, 0, none⟩ (.func (.func 43) #[] #[.pointer (some ⟨Bf37x1, 0, none⟩), .pointer (some ⟨Cf37x1, 0, none⟩)])).heap[d38x3.heap.size]? = some (.cells #[.nilFunc] 48 (0, 0))) := Lib.hid ((Below.heap_setCell _ _ _ _ (Ne.symm hUV)).trans hV)
            have HF1 : Hid (CovV (d42x4.setCell ⟨d39x5.heap.size, 0, none⟩ (.func (.func 43) #[] #[.pointer (some ⟨Bf37x1, 0, none⟩), .pointer (some ⟨Cf37x1, 0, none⟩)])) (.func (.func 43) #[] #[.pointer (some ⟨Bf37x1, 0, none⟩), .pointer (some ⟨Cf37x1, 0, none⟩)]) _ _ _ _) := Lib.hid (HCF.out.set hU)
            have HG1 : Hid (CovV (d42x4.setCell ⟨d39x5.heap.size, 0, none⟩ (.func (.func 43) #[] #[.pointer (some ⟨Bf37x1, 0, none⟩), .pointer (some ⟨Cf37x1, 0, none⟩)])) (.func (.func 43) #[] #[.pointer (some ⟨Bf38x3, 0, none⟩), .pointer (some ⟨Cf38x3, 0, none⟩)]) _ _ _ _) := Lib.hid (HCG.out.set hU)
            have HT1 : Hid (Below w0.heap.size w0 (d42x4.setCell ⟨d39x5.heap.size, 0, none⟩ (.func (.func 43) #[] #[.pointer (some ⟨Bf37x1, 0, none⟩), .pointer (some ⟨Cf37x1, 0, none⟩)]))) := Lib.hid (HT.out.setCell hUw _)
            clear hU hV HT HCF HCG
            refine onH 6 (oi := ?_) (by kernel_rfl) ?_ ?_ (fun K hK => ?_); rotate_left; (simp only [gA, gB, gC]; exact rfl); rfl
            go_wp2_with (fail)
            refine hK.out _ _ ⟨heap_keep HT1.out HA.out, heap_keep HT1.out HB.out⟩ (fun hHeld => ?_)
            clear hK K hHeld
            try simp only [Act.put, pB, pC, pD]
            generalize (d42x4.setCell ⟨d39x5.heap.size, 0, none⟩ (.func (.func 43) #[] #[.pointer (some ⟨Bf37x1, 0, none⟩), .pointer (some ⟨Cf37x1, 0, none⟩)])) = e0 at *
            have hV := HV1.out
            have cV43 : e0.cell? ⟨d38x3.heap.size, 0, none⟩ = some .nilFunc := cell_of hV rfl
            have fV43 : e0.frozen? ⟨d38x3.heap.size, 0, none⟩ = false := frozen_of hV
            have HU2 : Hid ((e0.setCell ⟨d38x3.heap.size, 0, none⟩ (.func (.func 43) #[] #[.pointer (some ⟨Bf38x3, 0, none⟩), .pointer (some ⟨Cf38x3, 0, none⟩)])).heap[d39x5.heap.size]? = some (.cells #[(.func (.func 43) #[] #[.pointer (some ⟨Bf37x1, 0, none⟩), .pointer (some ⟨Cf37x1, 0, none⟩)])] 48 (0, 0))) := Lib.hid ((Below.heap_setCell _ _ _ _ hUV).trans HU1.out)
            have HV2 : Hid ((e0.setCell ⟨d38x3.heap.size, 0, none⟩ (.func (.func 43) #[] #[.pointer (some ⟨Bf38x3, 0, none⟩), .pointer (some ⟨Cf38x3, 0, none⟩)])).heap[d38x3.heap.size]? = some (.cells #[(.func (.func 43) #[] #[.pointer (some ⟨Bf38x3, 0, none⟩), .pointer (some ⟨Cf38x3, 0, none⟩)])] 48 (0, 0))) := Lib.hid (set1 hV)
            have HF2 : Hid (CovV (e0.setCell ⟨d38x3.heap.size, 0, none⟩ (.func (.func 43) #[] #[.pointer (some ⟨Bf38x3, 0, none⟩), .pointer (some ⟨Cf38x3, 0, none⟩)])) (.func (.func 43) #[] #[.pointer (some ⟨Bf37x1, 0, none⟩), .pointer (some ⟨Cf37x1, 0, none⟩)]) _ _ _ _) := Lib.hid (HF1.out.set hV)
            have HG2 : Hid (CovV (e0.setCell ⟨d38x3.heap.size, 0, none⟩ (.func (.func 43) #[] #[.pointer (some ⟨Bf38x3, 0, none⟩), .pointer (some ⟨Cf38x3, 0, none⟩)])) (.func (.func 43) #[] #[.pointer (some ⟨Bf38x3, 0, none⟩), .pointer (some ⟨Cf38x3, 0, none⟩)]) _ _ _ _) := Lib.hid (HG1.out.set hV)
            have HT2 : Hid (Below w0.heap.size w0 (e0.setCell ⟨d38x3.heap.size, 0, none⟩ (.func (.func 43) #[] #[.pointer (some ⟨Bf38x3, 0, none⟩), .pointer (some ⟨Cf38x3, 0, none⟩)]))) := Lib.hid (HT1.out.setCell hVw _)
            clear hV HT1 HF1 HG1 HU1 HV1
            refine onH 7 (oi := ?_) (by kernel_rfl) ?_ ?_ (fun K hK => ?_); rotate_left; (simp only [gA, gB, gC]; exact rfl); rfl
            go_wp2_with (fail)
            refine hK.out _ _ ⟨heap_keep HT2.out HA.out, heap_keep HT2.out HB.out⟩ (fun hHeld => ?_)
            clear hK K hHeld
            try simp only [Act.put, pB, pC, pD]
            refine wpAnyH_done (by kernel_rfl) ?_ _
            go_wp2_with (fail)
            go_meet
            exact ⟨_, _, rfl, rfl, ⟨_, _, HU2.out, HV2.out, HF2.out, HG2.out⟩, HT2.out⟩
          exact AllReadyH.nil
        exact AllReadyH.nil
      refine coH 4 (oi := ?_) ?_ ?_ (fun K hK => ?_) ?_; rotate_left; (simp only [gA, gB, gC]; exact rfl); rfl
      · go_wp2_with (fail)
        have hb : Below d37x1.heap.size d37x1 (d37x1.alloc (.cells #[.nilFunc] 48)) := (Below.refl _ _).alloc (Nat.le_refl _) _
        have hnew : (d37x1.alloc (.cells #[.nilFunc] 48)).heap[d37x1.heap.size]? = some (.cells #[.nilFunc] 48 (0, 0)) := heap_new rfl
        have hnw : w0.heap.size ≤ d37x1.heap.size := HT.out.size
        have hne : ∀ X o, d37x1.heap[X]? = some o → X ≠ d37x1.heap.size := fun X o h e => by have := lt_of_heap h; omega
        generalize (d37x1.alloc (.cells #[.nilFunc] 48)) = d38x4 at *
        have HTn := Lib.hid (HT.out.trans (hb.mono HT.out.size))
        replace HT := HTn
        clear HTn
        replace HCF := Lib.hid (HCF.out.kept hb)
        have hU := hnew
        have hUw := hnw
        clear hb hnew hnw hne
        refine hK.out _ _ ⟨heap_keep HT.out HA.out, heap_keep HT.out HB.out⟩ (fun hHeld => ?_)
        clear hK K hHeld
        try simp only [Act.put, pB, pC, pD]
        refine wpAnyH_ready (rs := [3, 5]) (by kernel_rfl) (by simp) ?_
        refine coH 3 (oi := ?_) ?_ ?_ (fun K hK => ?_) ?_; rotate_left; (simp only [gA, gB, gC]; exact rfl); rfl
        · go_wp2_with (fail)
          refine (covers_any a' c' _ HV2.out (HR2.out.kept HT.out)).mono ?_
          rintro e d44x3 ⟨f44x3, rfl, hcv, hb⟩
          obtain ⟨Bf44x3, Cf44x3, rfl⟩ := hcv.isfunc
          have HN := Lib.hid hcv
          clear hcv
          go_wp2_with (fail)
          have HTn := Lib.hid (HT.out.trans (hb.mono HT.out.size))
          replace HT := HTn
          clear HTn
          replace HCF := Lib.hid (HCF.out.kept hb)
          have HCG := HN
          replace hU := heap_keep hb hU
          clear hb HN
          refine hK.out _ _ ⟨heap_keep HT.out HA.out, heap_keep HT.out HB.out⟩ (fun hHeld => ?_)
          clear hK K hHeld
          try simp only [Act.put, pB, pC, pD]
          refine wpAnyH_ready (rs := [5]) (by kernel_rfl) (by simp) ?_
          refine coH 5 (oi := ?_) ?_ ?_ (fun K hK => ?_) ?_; rotate_left; (simp only [gA, gB, gC]; exact rfl); rfl
          · go_wp2_with (fail)
            have hb : Below d44x3.heap.size d44x3 (d44x3.alloc (.cells #[.nilFunc] 48)) := (Below.refl _ _).alloc (Nat.le_refl _) _
            have hnew : (d44x3.alloc (.cells #[.nilFunc] 48)).heap[d44x3.heap.size]? = some (.cells #[.nilFunc] 48 (0, 0)) := heap_new rfl
            have hnw : w0.heap.size ≤ d44x3.heap.size := HT.out.size
            have hne : ∀ X o, d44x3.heap[X]? = some o → X ≠ d44x3.heap.size := fun X o h e => by have := lt_of_heap h; omega
            generalize (d44x3.alloc (.cells #[.nilFunc] 48)) = d45x5 at *
            have HTn := Lib.hid (HT.out.trans (hb.mono HT.out.size))
            replace HT := HTn
            clear HTn
            replace HCF := Lib.hid (HCF.out.kept hb)
            replace HCG := Lib.hid (HCG.out.kept hb)
            have hUV : d37x1.heap.size ≠ d44x3.heap.size := fun e => hne _ _ hU e
            have hV := hnew
            have hVw := hnw
            replace hU := heap_keep hb hU
            clear hb hnew hnw hne
            refine hK.out _ _ ⟨heap_keep HT.out HA.out, heap_keep HT.out HB.out⟩ (fun hHeld => ?_)
            clear hK K hHeld
            try simp only [Act.put, pB, pC, pD]
            have hlU46 := lt_of_heap hU
            have hlV46 := lt_of_heap hV
            have cU46 : d45x5.cell? ⟨d37x1.heap.size, 0, none⟩ = some .nilFunc := cell_of hU rfl
            have fU46 : d45x5.frozen? ⟨d37x1.heap.size, 0, none⟩ = false := frozen_of hU
            have HU1 : Hid ((d45x5.setCell ⟨d37x1.heap.size, 0, none⟩ (.func (.func 43) #[] #[.pointer (some ⟨Bf37x1, 0, none⟩), .pointer (some ⟨Cf37x1, 0, none⟩)])).heap[d37x1.heap.size]? = some (.cells #[(.func (.func 43) #[] #[.pointer (some ⟨Bf37x1, 0, none⟩), .pointer (some ⟨Cf37x1, 0, none⟩)])] 48 (0, 0))) := Lib.hid (set1 hU)
            have HV1 : Hid ((d45x5.setCell ⟨d37x1.heap.size, 0, none⟩ (.func (.func 43) #[] #[.pointer (some ⟨Bf37x1, 0, none⟩), .pointer (some ⟨Cf37x1, 0, none⟩)])).heap[d44x3.heap.size]? = some (.cells #[.nilFunc] 48 (0, 0))) := Lib.hid ((Below.heap_setCell _ _ _ _ (Ne.symm hUV)).trans hV)
            have HF1 : Hid (CovV (d45x5.setCell ⟨d37x1.heap.size, 0, none⟩ (.func (.func 43) #[] #[.pointer (some ⟨Bf37x1, 0, none⟩), .pointer (some ⟨Cf37x1, 0, none⟩)])) (.func (.func 43) #[] #[.pointer (some ⟨Bf37x1, 0, none⟩), .pointer (some ⟨Cf37x1, 0, none⟩)]) _ _ _ _) := Lib.hid (HCF.out.set hU)
            have HG1 : Hid (CovV (d45x5.setCell ⟨d37x1.heap.size, 0, none⟩ (.func (.func 43) #[] #[.pointer (some ⟨Bf37x1, 0, none⟩), .pointer (some ⟨Cf37x1, 0, none⟩)])) (.func (.func 43) #[] #[.pointer (some ⟨Bf44x3, 0, none⟩), .pointer (some ⟨Cf44x3, 0, none⟩)]) _ _ _ _) := Lib.hid (HCG.out.set hU)
            have HT1 : Hid (Below w0.heap.size w0 (d45x5.setCell ⟨d37x1.heap.size, 0, none⟩ (.func (.func 43) #[] #[.pointer (some ⟨Bf37x1, 0, none⟩), .pointer (some ⟨Cf37x1, 0, none⟩)]))) := Lib.hid (HT.out.setCell hUw _)
            clear hU hV HT HCF HCG
            refine onH 6 (oi := ?_) (by kernel_rfl) ?_ ?_ (fun K hK => ?_); rotate_left; (simp only [gA, gB, gC]; exact rfl); rfl
            go_wp2_with (fail)
            refine hK.out _ _ ⟨heap_keep HT1.out HA.out, heap_keep HT1.out HB.out⟩ (fun hHeld => ?_)
            clear hK K hHeld
            try simp only [Act.put, pB, pC, pD]
            generalize (d45x5.setCell ⟨d37x1.heap.size, 0, none⟩ (.func (.func 43) #[] #[.pointer (some ⟨Bf37x1, 0, none⟩), .pointer (some ⟨Cf37x1, 0, none⟩)])) = e0 at *
            have hV := HV1.out
            have cV46 : e0.cell? ⟨d44x3.heap.size, 0, none⟩ = some .nilFunc := cell_of hV rfl
            have fV46 : e0.frozen? ⟨d44x3.heap.size, 0, none⟩ = false := frozen_of hV
            have HU2 : Hid ((e0.setCell ⟨d44x3.heap.size, 0, none⟩ (.func (.func 43) #[] #[.pointer (some ⟨Bf44x3, 0, none⟩), .pointer (some ⟨Cf44x3, 0, none⟩)])).heap[d37x1.heap.size]? = some (.cells #[(.func (.func 43) #[] #[.pointer (some ⟨Bf37x1, 0, none⟩), .pointer (some ⟨Cf37x1, 0, none⟩)])] 48 (0, 0))) := Lib.hid ((Below.heap_setCell _ _ _ _ hUV).trans HU1.out)
            have HV2 : Hid ((e0.setCell ⟨d44x3.heap.size, 0, none⟩ (.func (.func 43) #[] #[.pointer (some ⟨Bf44x3, 0, none⟩), .pointer (some ⟨Cf44x3, 0, none⟩)])).heap[d44x3.heap.size]? = some (.cells #[(.func (.func 43) #[] #[.pointer (some ⟨Bf44x3, 0, none⟩), .pointer (some ⟨Cf44x3, 0, none⟩)])] 48 (0, 0))) := Lib.hid (set1 hV)
            have HF2 : Hid (CovV (e0.setCell ⟨d44x3.heap.size, 0, none⟩ (.func (.func 43) #[] #[.pointer (some ⟨Bf44x3, 0, none⟩), .pointer (some ⟨Cf44x3, 0, none⟩)])) (.func (.func 43) #[] #[.pointer (some ⟨Bf37x1, 0, none⟩), .pointer (some ⟨Cf37x1, 0, none⟩)]) _ _ _ _) := Lib.hid (HF1.out.set hV)
            have HG2 : Hid (CovV (e0.setCell ⟨d44x3.heap.size, 0, none⟩ (.func (.func 43) #[] #[.pointer (some ⟨Bf44x3, 0, none⟩), .pointer (some ⟨Cf44x3, 0, none⟩)])) (.func (.func 43) #[] #[.pointer (some ⟨Bf44x3, 0, none⟩), .pointer (some ⟨Cf44x3, 0, none⟩)]) _ _ _ _) := Lib.hid (HG1.out.set hV)
            have HT2 : Hid (Below w0.heap.size w0 (e0.setCell ⟨d44x3.heap.size, 0, none⟩ (.func (.func 43) #[] #[.pointer (some ⟨Bf44x3, 0, none⟩), .pointer (some ⟨Cf44x3, 0, none⟩)]))) := Lib.hid (HT1.out.setCell hVw _)
            clear hV HT1 HF1 HG1 HU1 HV1
            refine onH 7 (oi := ?_) (by kernel_rfl) ?_ ?_ (fun K hK => ?_); rotate_left; (simp only [gA, gB, gC]; exact rfl); rfl
            go_wp2_with (fail)
            refine hK.out _ _ ⟨heap_keep HT2.out HA.out, heap_keep HT2.out HB.out⟩ (fun hHeld => ?_)
            clear hK K hHeld
            try simp only [Act.put, pB, pC, pD]
            refine wpAnyH_done (by kernel_rfl) ?_ _
            go_wp2_with (fail)
            go_meet
            exact ⟨_, _, rfl, rfl, ⟨_, _, HU2.out, HV2.out, HF2.out, HG2.out⟩, HT2.out⟩
          exact AllReadyH.nil
        refine coH 5 (oi := ?_) ?_ ?_ (fun K hK => ?_) ?_; rotate_left; (simp only [gA, gB, gC]; exact rfl); rfl
        · go_wp2_with (fail)
          have hb : Below d38x4.heap.size d38x4 (d38x4.alloc (.cells #[.nilFunc] 48)) := (Below.refl _ _).alloc (Nat.le_refl _) _
          have hnew : (d38x4.alloc (.cells #[.nilFunc] 48)).heap[d38x4.heap.size]? = some (.cells #[.nilFunc] 48 (0, 0)) := heap_new rfl
          have hnw : w0.heap.size ≤ d38x4.heap.size := HT.out.size
          have hne : ∀ X o, d38x4.heap[X]? = some o → X ≠ d38x4.heap.size := fun X o h e => by have := lt_of_heap h; omega
          generalize (d38x4.alloc (.cells #[.nilFunc] 48)) = d44x5 at *
          have HTn := Lib.hid (HT.out.trans (hb.mono HT.out.size))
          replace HT := HTn
          clear HTn
          replace HCF := Lib.hid (HCF.out.kept hb)
          have hUV : d37x1.heap.size ≠ d38x4.heap.size := fun e => hne _ _ hU e
          have hV := hnew
          have hVw := hnw
          replace hU := heap_keep hb hU
          clear hb hnew hnw hne
          refine hK.out _ _ ⟨heap_keep HT.out HA.out, heap_keep HT.out HB.out⟩ (fun hHeld => ?_)
          clear hK K hHeld
          try simp only [Act.put, pB, pC, pD]
          refine wpAnyH_ready (rs := [3]) (by kernel_rfl) (by simp) ?_
          refine coH 3 (oi := ?_) ?_ ?_ (fun K hK => ?_) ?_; rotate_left; (simp only [gA, gB, gC]; exact rfl); rfl
          · go_wp2_with (fail)
            refine (covers_any a' c' _ HV2.out (HR2.out.kept HT.out)).mono ?_
            rintro e d47x3 ⟨f47x3, rfl, hcv, hb⟩
            obtain ⟨Bf47x3, Cf47x3, rfl⟩ := hcv.isfunc
            have HN := Lib.hid hcv
            clear hcv
            go_wp2_with (fail)
            have HTn := Lib.hid (HT.out.trans (hb.mono HT.out.size))
            replace HT := HTn
            clear HTn
            replace HCF := Lib.hid (HCF.out.kept hb)
            have HCG := HN
            replace hU := heap_keep hb hU
            replace hV := heap_keep hb hV
            clear hb HN
            refine hK.out _ _ ⟨heap_keep HT.out HA.out, heap_keep HT.out HB.out⟩ (fun hHeld => ?_)
            clear hK K hHeld
            try simp only [Act.put, pB, pC, pD]
            have hlU48 := lt_of_heap hU
            have hlV48 := lt_of_heap hV
            have cU48 : d47x3.cell? ⟨d37x1.heap.size, 0, none⟩ = some .nilFunc := cell_of hU rfl
            have fU48 : d47x3.frozen? ⟨d37x1.heap.size, 0, none⟩ = false := frozen_of hU
            have HU1 : Hid ((d47x3.setCell ⟨d37x1.heap.size, 0, none⟩ (.func (.func 43) #[] #[.pointer (some ⟨Bf37x1, 0, none⟩), .pointer (some ⟨Cf37x1, 0, none⟩)])).heap[d37x1.heap.size]? = some (.cells #[(.func (.func 43) #[] #[.pointer (some ⟨Bf37x1, 0, none⟩), .pointer (some ⟨Cf37x1, 0, none⟩)])] 48 (0, 0))) := Lib.hid (set1 hU)
            have HV1 : Hid ((d47x3.setCell ⟨d37x1.heap.size, 0, none⟩ (.func (.func 43) #[] #[.pointer (some ⟨Bf37x1, 0, none⟩), .pointer (some ⟨Cf37x1, 0, none⟩)])).heap[d38x4.heap.size]? = some (.cells #[.nilFunc] 48 (0, 0))) := Lib.hid ((Below.heap_setCell _ _ _ _ (Ne.symm hUV)).trans hV)
            have HF1 : Hid (CovV (d47x3.setCell ⟨d37x1.heap.size, 0, none⟩ (.func (.func 43) #[] #[.pointer (some ⟨Bf37x1, 0, none⟩), .pointer (some ⟨Cf37x1, 0, none⟩)])) (.func (.func 43) #[] #[.pointer (some ⟨Bf37x1, 0, none⟩), .pointer (some ⟨Cf37x1, 0, none⟩)]) _ _ _ _) := Lib.hid (HCF.out.set hU)
            have HG1 : Hid (CovV (d47x3.setCell ⟨d37x1.heap.size, 0, none⟩ (.func (.func 43) #[] #[.pointer (some ⟨Bf37x1, 0, none⟩), .pointer (some ⟨Cf37x1, 0, none⟩)])) (.func (.func 43) #[] #[.pointer (some ⟨Bf47x3, 0, none⟩), .pointer (some ⟨Cf47x3, 0, none⟩)]) _ _ _ _) := Lib.hid (HCG.out.set hU)
            have HT1 : Hid (Below w0.heap.size w0 (d47x3.setCell ⟨d37x1.heap.size, 0, none⟩ (.func (.func 43) #[] #[.pointer (some ⟨Bf37x1, 0, none⟩), .pointer (some ⟨Cf37x1, 0, none⟩)]))) := Lib.hid (HT.out.setCell hUw _)
            clear hU hV HT HCF HCG
            refine onH 6 (oi := ?_) (by kernel_rfl) ?_ ?_ (fun K hK => ?_); rotate_left; (simp only [gA, gB, gC]; exact rfl); rfl
            go_wp2_with (fail)
            refine hK.out _ _ ⟨heap_keep HT1.out HA.out, heap_keep HT1.out HB.out⟩ (fun hHeld => ?_)
            clear hK K hHeld
            try simp only [Act.put, pB, pC, pD]
            generalize (d47x3.setCell ⟨d37x1.heap.size, 0, none⟩ (.func (.func 43) #[] #[.pointer (some ⟨Bf37x1, 0, none⟩), .pointer (some ⟨Cf37x1, 0, none⟩)])) = e0 at *
            have hV := HV1.out
            have cV48 : e0.cell? ⟨d38x4.heap.size, 0, none⟩ = some .nilFunc := cell_of hV rfl
            have fV48 : e0.frozen? ⟨d38x4.heap.size, 0, none⟩ = false := frozen_of hV
            have HU2 : Hid ((e0.setCell ⟨d38x4.heap.size, 0, none⟩ (.func (.func 43) #[] #[.pointer (some ⟨Bf47x3, 0, none⟩), .pointer (some ⟨Cf47x3, 0, none⟩)])).heap[d37x1.heap.size]? = some (.cells #[(.func (.func 43) #[] #[.pointer (some ⟨Bf37x1, 0, none⟩), .pointer (some ⟨Cf37x1, 0, none⟩)])] 48 (0, 0))) := Lib.hid ((Below.heap_setCell _ _ _ _ hUV).trans HU1.out)
            have HV2 : Hid ((e0.setCell ⟨d38x4.heap.size, 0, none⟩ (.func (.func 43) #[] #[.pointer (some ⟨Bf47x3, 0, none⟩), .pointer (some ⟨Cf47x3, 0, none⟩)])).heap[d38x4.heap.size]? = some (.cells #[(.func (.func 43) #[] #[.pointer (some ⟨Bf47x3, 0, none⟩), .pointer (some ⟨Cf47x3, 0, none⟩)])] 48 (0, 0))) := Lib.hid (set1 hV)
            have HF2 : Hid (CovV (e0.setCell ⟨d38x4.heap.size, 0, none⟩ (.func (.func 43) #[] #[.pointer (some ⟨Bf47x3, 0, none⟩), .pointer (some ⟨Cf47x3, 0, none⟩)])) (.func (.func 43) #[] #[.pointer (some ⟨Bf37x1, 0, none⟩), .pointer (some ⟨Cf37x1, 0, none⟩)]) _ _ _ _) := Lib.hid (HF1.out.set hV)
            have HG2 : Hid (CovV (e0.setCell ⟨d38x4.heap.size, 0, none⟩ (.func (.func 43) #[] #[.pointer (some ⟨Bf47x3, 0, none⟩), .pointer (some ⟨Cf47x3, 0, none⟩)])) (.func (.func 43) #[] #[.pointer (some ⟨Bf47x3, 0, none⟩), .pointer (some ⟨Cf47x3, 0, none⟩)]) _ _ _ _) := Lib.hid (HG1.out.set hV)
            have HT2 : Hid (Below w0.heap.size w0 (e0.setCell ⟨d38x4.heap.size, 0, none⟩ (.func (.func 43) #[] #[.pointer (some ⟨Bf47x3, 0, none⟩), .pointer (some ⟨Cf47x3, 0, none⟩)]))) := Lib.hid (HT1.out.setCell hVw _)
            clear hV HT1 HF1 HG1 HU1 HV1
            refine onH 7 (oi := ?_) (by kernel_rfl) ?_ ?_ (fun K hK => ?_); rotate_left; (simp only [gA, gB, gC]; exact rfl); rfl
            go_wp2_with (fail)
            refine hK.out _ _ ⟨heap_keep HT2.out HA.out, heap_keep HT2.out HB.out⟩ (fun hHeld => ?_)
            clear hK K hHeld
            try simp only [Act.put, pB, pC, pD]
            refine wpAnyH_done (by kernel_rfl) ?_ _
            go_wp2_with (fail)
            go_meet
            exact ⟨_, _, rfl, rfl, ⟨_, _, HU2.out, HV2.out, HF2.out, HG2.out⟩, HT2.out⟩
          exact AllReadyH.nil
        exact AllReadyH.nil
      refine coH 5 (oi := ?_) ?_ ?_ (fun K hK => ?_) ?_; rotate_left; (simp only [gA, gB, gC]; exact rfl); rfl
      · go_wp2_with (fail)
        have hb : Below d37x1.heap.size d37x1 (d37x1.alloc (.cells #[.nilFunc] 48)) := (Below.refl _ _).alloc (Nat.le_refl _) _
        have hnew : (d37x1.alloc (.cells #[.nilFunc] 48)).heap[d37x1.heap.size]? = some (.cells #[.nilFunc] 48 (0, 0)) := heap_new rfl
        have hnw : w0.heap.size ≤ d37x1.heap.size := HT.out.size
        have hne : ∀ X o, d37x1.heap[X]? = some o → X ≠ d37x1.heap.size := fun X o h e => by have := lt_of_heap h; omega
        generalize (d37x1.alloc (.cells #[.nilFunc] 48)) = d38x5 at *
        have HTn := Lib.hid (HT.out.trans (hb.mono HT.out.size))
        replace HT := HTn
        clear HTn
        replace HCF := Lib.hid (HCF.out.kept hb)
        have hV := hnew
        have hVw := hnw
        clear hb hnew hnw hne
        refine hK.out _ _ ⟨heap_keep HT.out HA.out, heap_keep HT.out HB.out⟩ (fun hHeld => ?_)
        clear hK K hHeld
        try simp only [Act.put, pB, pC, pD]
        refine wpAnyH_ready (rs := [3, 4]) (by kernel_rfl) (by simp) ?_
        refine coH 3 (oi := ?_) ?_ ?_ (fun K hK => ?_) ?_; rotate_left; (simp only [gA, gB, gC]; exact rfl); rfl
        · go_wp2_with (fail)
          refine (covers_any a' c' _ HV2.out (HR2.out.kept HT.out)).mono ?_
          rintro e d49x3 ⟨f49x3, rfl, hcv, hb⟩
          obtain ⟨Bf49x3, Cf49x3, rfl⟩ := hcv.isfunc
          have HN := Lib.hid hcv
          clear hcv
          go_wp2_with (fail)
          have HTn := Lib.hid (HT.out.trans (hb.mono HT.out.size))
          replace HT := HTn
          clear HTn
          replace HCF := Lib.hid (HCF.out.kept hb)
          have HCG := HN
          replace hV := heap_keep hb hV
          clear hb HN
          refine hK.out _ _ ⟨heap_keep HT.out HA.out, heap_keep HT.out HB.out⟩ (fun hHeld => ?_)
          clear hK K hHeld
          try simp only [Act.put, pB, pC, pD]
          refine wpAnyH_ready (rs := [4]) (by kernel_rfl) (by simp) ?_
          refine coH 4 (oi := ?_) ?_ ?_ (fun K hK => ?_) ?_; rotate_left; (simp only [gA, gB, gC]; exact rfl); rfl
          · go_wp2_with (fail)
            have hb : Below d49x3.heap.size d49x3 (d49x3.alloc (.cells #[.nilFunc] 48)) := (Below.refl _ _).alloc (Nat.le_refl _) _
            have hnew : (d49x3.alloc (.cells #[.nilFunc] 48)).heap[d49x3.heap.size]? = some (.cells #[.nilFunc] 48 (0, 0)) := heap_new rfl
            have hnw : w0.heap.size ≤ d49x3.heap.size := HT.out.size
            have hne : ∀ X o, d49x3.heap[X]? = some o → X ≠ d49x3.heap.size := fun X o h e => by have := lt_of_heap h; omega
            generalize (d49x3.alloc (.cells #[.nilFunc] 48)) = d50x4 at *
            have HTn := Lib.hid (HT.out.trans (hb.mono HT.out.size))
            replace HT := HTn
            clear HTn
            replace HCF := Lib.hid (HCF.out.kept hb)
            replace HCG := Lib.hid (HCG.out.kept hb)
            have hUV : d49x3.heap.size ≠ d37x1.heap.size := fun e => hne _ _ hV e.symm
            have hU := hnew
            have hUw := hnw
            replace hV := heap_keep hb hV
            clear hb hnew hnw hne
            refine hK.out _ _ ⟨heap_keep HT.out HA.out, heap_keep HT.out HB.out⟩ (fun hHeld => ?_)
            clear hK K hHeld
            try simp only [Act.put, pB, pC, pD]
            have hlU51 := lt_of_heap hU
            have hlV51 := lt_of_heap hV
            have cU51 : d50x4.cell? ⟨d49x3.heap.size, 0, none⟩ = some .nilFunc := cell_of hU rfl
            have fU51 : d50x4.frozen? ⟨d49x3.heap.size, 0, none⟩ = false := frozen_of hU
            have HU1 : Hid ((d50x4.setCell ⟨d49x3.heap.size, 0, none⟩ (.func (.func 43) #[] #[.pointer (some ⟨Bf37x1, 0, none⟩), .pointer (some ⟨Cf37x1, 0, none⟩)])).heap[d49x3.heap.size]? = some (.cells #[(.func (.func 43) #[] #[.pointer (some ⟨Bf37x1, 0, none⟩), .pointer (some ⟨Cf37x1, 0, none⟩)])] 48 (0, 0))) := Lib.hid (set1 hU)
            have HV1 : Hid ((d50x4.setCell ⟨d49x3.heap.size, 0, none⟩ (.func (.func 43) #[] #[.pointer (some ⟨Bf37x1, 0, none⟩), .pointer (some ⟨Cf37x1, 0, none⟩)])).heap[d37x1.heap.size]? = some (.cells #[.nilFunc] 48 (0, 0))) := Lib.hid ((Below.heap_setCell _ _ _ _ (Ne.symm hUV)).trans hV)
            have HF1 : Hid (CovV (d50x4.setCell ⟨d49x3.heap.size, 0, none⟩ (.func (.func 43) #[] #[.pointer (some ⟨Bf37x1, 0, none⟩), .pointer (some ⟨Cf37x1, 0, none⟩)])) (.func (.func 43) #[] #[.pointer (some ⟨Bf37x1, 0, none⟩), .pointer (some ⟨Cf37x1, 0, none⟩)]) _ _ _ _) := Lib.hid (HCF.out.set hU)
            have HG1 : Hid (CovV (d50x4.setCell ⟨d49x3.heap.size, 0, none⟩ (.func (.func 43) #[] #[.pointer (some ⟨Bf37x1, 0, none⟩), .pointer (some ⟨Cf37x1, 0, none⟩)])) (.func (.func 43) #[] #[.pointer (some ⟨Bf49x3, 0, none⟩), .pointer (some ⟨Cf49x3, 0, none⟩)]) _ _ _ _) := Lib.hid (HCG.out.set hU)
            have HT1 : Hid (Below w0.heap.size w0 (d50x4.setCell ⟨d49x3.heap.size, 0, none⟩ (.func (.func 43) #[] #[.pointer (some ⟨Bf37x1, 0, none⟩), .pointer (some ⟨Cf37x1, 0, none⟩)]))) := Lib.hid (HT.out.setCell hUw _)
            clear hU hV HT HCF HCG
            refine onH 6 (oi := ?_) (by kernel_rfl) ?_ ?_ (fun K hK => ?_); rotate_left; (simp only [gA, gB, gC]; exact rfl); rfl
            go_wp2_with (fail)
            refine hK.out _ _ ⟨heap_keep HT1.out HA.out, heap_keep HT1.out HB.out⟩ (fun hHeld => ?_)
            clear hK K hHeld
            try simp only [Act.put, pB, pC, pD]
            generalize (d50x4.setCell ⟨d49x3.heap.size, 0, none⟩ (.func (.func 43) #[] #[.pointer (some ⟨Bf37x1, 0, none⟩), .pointer (some ⟨Cf37x1, 0, none⟩)])) = e0 at *
            have hV := HV1.out
            have cV51 : e0.cell? ⟨d37x1.heap.size, 0, none⟩ = some .nilFunc := cell_of hV rfl
            have fV51 : e0.frozen? ⟨d37x1.heap.size, 0, none⟩ = false := frozen_of hV
            have HU2 : Hid ((e0.setCell ⟨d37x1.heap.size, 0, none⟩ (.func (.func 43) #[] #[.pointer (some ⟨Bf49x3, 0, none⟩), .pointer (some ⟨Cf49x3, 0, none⟩)])).heap[d49x3.heap.size]? = some (.cells #[(.func (.func 43) #[] #[.pointer (some ⟨Bf37x1, 0, none⟩), .pointer (some ⟨Cf37x1, 0, none⟩)])] 48 (0, 0))) := Lib.hid ((Below.heap_setCell _ _ _ _ hUV).trans HU1.out)
            have HV2 : Hid ((e0.setCell ⟨d37x1.heap.size, 0, none⟩ (.func (.func 43) #[] #[.pointer (some ⟨Bf49x3, 0, none⟩), .pointer (some ⟨Cf49x3, 0, none⟩)])).heap[d37x1.heap.size]? = some (.cells #[(.func (.func 43) #[] #[.pointer (some ⟨Bf49x3, 0, none⟩), .pointer (some ⟨Cf49x3, 0, none⟩)])] 48 (0, 0))) := Lib.hid (set1 hV)
            have HF2 : Hid (CovV (e0.setCell ⟨d37x1.heap.size, 0, none⟩ (.func (.func 43) #[] #[.pointer (some ⟨Bf49x3, 0, none⟩), .pointer (some ⟨Cf49x3, 0, none⟩)])) (.func (.func 43) #[] #[.pointer (some ⟨Bf37x1, 0, none⟩), .pointer (some ⟨Cf37x1, 0, none⟩)]) _ _ _ _) := Lib.hid (HF1.out.set hV)
            have HG2 : Hid (CovV (e0.setCell ⟨d37x1.heap.size, 0, none⟩ (.func (.func 43) #[] #[.pointer (some ⟨Bf49x3, 0, none⟩), .pointer (some ⟨Cf49x3, 0, none⟩)])) (.func (.func 43) #[] #[.pointer (some ⟨Bf49x3, 0, none⟩), .pointer (some ⟨Cf49x3, 0, none⟩)]) _ _ _ _) := Lib.hid (HG1.out.set hV)
            have HT2 : Hid (Below w0.heap.size w0 (e0.setCell ⟨d37x1.heap.size, 0, none⟩ (.func (.func 43) #[] #[.pointer (some ⟨Bf49x3, 0, none⟩), .pointer (some ⟨Cf49x3, 0, none⟩)]))) := Lib.hid (HT1.out.setCell hVw _)
            clear hV HT1 HF1 HG1 HU1 HV1
            refine onH 7 (oi := ?_) (by kernel_rfl) ?_ ?_ (fun K hK => ?_); rotate_left; (simp only [gA, gB, gC]; exact rfl); rfl
            go_wp2_with (fail)
            refine hK.out _ _ ⟨heap_keep HT2.out HA.out, heap_keep HT2.out HB.out⟩ (fun hHeld => ?_)
            clear hK K hHeld
            try simp only [Act.put, pB, pC, pD]
            refine wpAnyH_done (by kernel_rfl) ?_ _
            go_wp2_with (fail)
            go_meet
            exact ⟨_, _, rfl, rfl, ⟨_, _, HU2.out, HV2.out, HF2.out, HG2.out⟩, HT2.out⟩
          exact AllReadyH.nil
        refine coH 4 (oi := ?_) ?_ ?_ (fun K hK => ?_) ?_; rotate_left; (simp only [gA, gB, gC]; exact rfl); rfl
        · go_wp2_with (fail)
          have hb : Below d38x5.heap.size d38x5 (d38x5.alloc (.cells #[.nilFunc] 48)) := (Below.refl _ _).alloc (Nat.le_refl _) _
          have hnew : (d38x5.alloc (.cells #[.nilFunc] 48)).heap[d38x5.heap.size]? = some (.cells #[.nilFunc] 48 (0, 0)) := heap_new rfl
          have hnw : w0.heap.size ≤ d38x5.heap.size := HT.out.size
          have hne : ∀ X o, d38x5.heap[X]? = some o → X ≠ d38x5.heap.size := fun X o h e => by have := lt_of_heap h; omega
          generalize (d38x5.alloc (.cells #[.nilFunc] 48)) = d49x4 at *
          have HTn := Lib.hid (HT.out.trans (hb.mono HT.out.size))
          replace HT := HTn
          clear HTn
          replace HCF := Lib.hid (HCF.out.kept hb)
          have hUV : d38x5.heap.size ≠ d37x1.heap.size := fun e => hne _ _ hV e.symm
          have hU := hnew
          have hUw := hnw
          replace hV := heap_keep hb hV
          clear hb hnew hnw hne
          refine hK.out _ _ ⟨heap_keep HT.out HA.out, heap_keep HT.out HB.out⟩ (fun hHeld => ?_)
          clear hK K hHeld
          try simp only [Act.put, pB, pC, pD]
          refine wpAnyH_ready (rs := [3]) (by kernel_rfl) (by simp) ?_
          refine coH 3 (oi := ?_) ?_ ?_ (fun K hK => ?_) ?_; rotate_left; (simp only [gA, gB, gC]; exact rfl); rfl
          · go_wp2_with (fail)
            refine (covers_any a' c' _ HV2.out (HR2.out.kept HT.out)).mono ?_
            rintro e d52x3 ⟨f52x3, rfl, hcv, hb⟩
            obtain ⟨Bf52x3, Cf52x3, rfl⟩ := hcv.isfunc
            have HN := Lib.hid hcv
            clear hcv
            go_wp2_with (fail)
            have HTn := Lib.hid (HT.out.trans (hb.mono HT.out.size))
            replace HT := HTn
            clear HTn
            replace HCF := Lib.hid (HCF.out.kept hb)
            have HCG := HN
            replace hU := heap_keep hb hU
            replace hV := heap_keep hb hV
            clear hb HN
            refine hK.out _ _ ⟨heap_keep HT.out HA.out, heap_keep HT.out HB.out⟩ (fun hHeld => ?_)
            clear hK K hHeld
            try simp only [Act.put, pB, pC, pD]
            have hlU53 := lt_of_heap hU
            have hlV53 := lt_of_heap hV
            have cU53 : d52x3.cell? ⟨d38x5.heap.size, 0, none⟩ = some .nilFunc := cell_of hU rfl
            have fU53 : d52x3.frozen? ⟨d38x5.heap.size, 0, none⟩ = false := frozen_of hU
            have HU1 : Hid ((d52x3.setCell ⟨d38x5.heap.size, 0, none⟩ (.func (.func 43) #[] #[.pointer (some ⟨Bf37x1, 0, none⟩), .pointer (some ⟨Cf37x1, 0, none⟩)])).heap[d38x5.heap.size]? = some (.cells #[(.func (.func 43) #[] #[.pointer (some ⟨Bf37x1, 0, none⟩), .pointer (some ⟨Cf37x1, 0, none⟩)])] 48 (0, 0))) := Lib.hid (set1 hU)
            have HV1 : Hid ((d52x3.setCell ⟨d38x5.heap.size, 0, none⟩ (.func (.func 43) #[] #[.pointer (some ⟨Bf37x1, 0, none⟩), .pointer (some ⟨Cf37x1, 0, none⟩)])).heap[d37x1.heap.size]? = some (.cells #[.nilFunc] 48 (0, 0))) := Lib.hid ((Below.heap_setCell _ _ _ _ (Ne.symm hUV)).trans hV)
            have HF1 : Hid (CovV (d52x3.setCell ⟨d38x5.heap.size, 0, none⟩ (.func (.func 43) #[] #[.pointer (some ⟨Bf37x1, 0, none⟩), .pointer (some ⟨Cf37x1, 0, none⟩)])) (.func (.func 43) #[] #[.pointer (some ⟨Bf37x1, 0, none⟩), .pointer (some ⟨Cf37x1, 0, none⟩)]) _ _ _ _) := Lib.hid (HCF.out.set hU)
            have HG1 : Hid (CovV (d52x3.setCell ⟨d38x5.heap.size, 0, none⟩ (.func (.func 43) #[] #[.pointer (some ⟨Bf37x1, 0, none⟩), .pointer (some ⟨Cf37x1, 0, none⟩)])) (.func (.func 43) #[] #[.pointer (some ⟨Bf52x3, 0, none⟩), .pointer (some ⟨Cf52x3, 0, none⟩)]) _ _ _ _) := Lib.hid (HCG.out.set hU)
            have HT1 : Hid (Below w0.heap.size w0 (d52x3.setCell ⟨d38x5.heap.size, 0, none⟩ (.func (.func 43) #[] #[.pointer (some ⟨Bf37x1, 0, none⟩), .pointer (some ⟨Cf37x1, 0, none⟩)]))) := Lib.hid (HT.out.setCell hUw _)
            clear hU hV HT HCF HCG
            refine onH 6 (oi := ?_) (by kernel_rfl) ?_ ?_ (fun K hK => ?_); rotate_left; (simp only [gA, gB, gC]; exact rfl); rfl
            go_wp2_with (fail)
            refine hK.out _ _ ⟨heap_keep HT1.out HA.out, heap_keep HT1.out HB.out⟩ (fun hHeld => ?_)
            clear hK K hHeld
            try simp only [Act.put, pB, pC, pD]
            generalize (d52x3.setCell ⟨d38x5.heap.size, 0, none⟩ (.func (.func 43) #[] #[.pointer (some ⟨Bf37x1, 0, none⟩), .pointer (some ⟨Cf37x1, 0, none⟩)])) = e0 at *
            have hV := HV1.out
            have cV53 : e0.cell? ⟨d37x1.heap.size, 0, none⟩ = some .nilFunc := cell_of hV rfl
            have fV53 : e0.frozen? ⟨d37x1.heap.size, 0, none⟩ = false := frozen_of hV
            have HU2 : Hid ((e0.setCell ⟨d37x1.heap.size, 0, none⟩ (.func (.func 43) #[] #[.pointer (some ⟨Bf52x3, 0, none⟩), .pointer (some ⟨Cf52x3, 0, none⟩)])).heap[d38x5.heap.size]? = some (.cells #[(.func (.func 43) #[] #[.pointer (some ⟨Bf37x1, 0, none⟩), .pointer (some ⟨Cf37x1, 0, none⟩)])] 48 (0, 0))) := Lib.hid ((Below.heap_setCell _ _ _ _ hUV).trans HU1.out)
            have HV2 : Hid ((e0.setCell ⟨d37x1.heap.size, 0, none⟩ (.func (.func 43) #[] #[.pointer (some ⟨Bf52x3, 0, none⟩), .pointer (some ⟨Cf52x3, 0, none⟩)])).heap[d37x1.heap.size]? = some (.cells #[(.func (.func 43) #[] #[.pointer (some ⟨Bf52x3, 0, none⟩), .pointer (some ⟨Cf52x3, 0, none⟩)])] 48 (0, 0))) := Lib.hid (set1 hV)
            have HF2 : Hid (CovV (e0.setCell ⟨d37x1.heap.size, 0, none⟩ (.func (.func 43) #[] #[.pointer (some ⟨Bf52x3, 0, none⟩), .pointer (some ⟨Cf52x3, 0, none⟩)])) (.func (.func 43) #[] #[.pointer (some ⟨Bf37x1, 0, none⟩), .pointer (some ⟨Cf37x1, 0, none⟩)]) _ _ _ _) := Lib.hid (HF1.out.set hV)
            have HG2 : Hid (CovV (e0.setCell ⟨d37x1.heap.size, 0, none⟩ (.func (.func 43) #[] #[.pointer (some ⟨Bf52x3, 0, none⟩), .pointer (some ⟨Cf52x3, 0, none⟩)])) (.func (.func 43) #[] #[.pointer (some ⟨Bf52x3, 0, none⟩), .pointer (some ⟨Cf52x3, 0, none⟩)]) _ _ _ _) := Lib.hid (HG1.out.set hV)
            have HT2 : Hid (Below w0.heap.size w0 (e0.setCell ⟨d37x1.heap.size, 0, none⟩ (.func (.func 43) #[] #[.pointer (some ⟨Bf52x3, 0, none⟩), .pointer (some ⟨Cf52x3, 0, none⟩)]))) := Lib.hid (HT1.out.setCell hVw _)
            clear hV HT1 HF1 HG1 HU1 HV1
            refine onH 7 (oi := ?_) (by kernel_rfl) ?_ ?_ (fun K hK => ?_); rotate_left; (simp only [gA, gB, gC]; exact rfl); rfl
            go_wp2_with (fail)
            refine hK.out _ _ ⟨heap_keep HT2.out HA.out, heap_keep HT2.out HB.out⟩ (fun hHeld => ?_)
            clear hK K hHeld
            try simp only [Act.put, pB, pC, pD]
            refine wpAnyH_done (by kernel_rfl) ?_ _
            go_wp2_with (fail)
            go_meet
            exact ⟨_, _, rfl, rfl, ⟨_, _, HU2.out, HV2.out, HF2.out, HG2.out⟩, HT2.out⟩
          exact AllReadyH.nil
        exact AllReadyH.nil
      exact AllReadyH.nil
    refine coH 4 (oi := ?_) ?_ ?_ (fun K hK => ?_) ?_; rotate_left; (simp only [gA, gB, gC]; exact rfl); rfl
    · go_wp2_with (fail)
      have hb : Below d0.heap.size d0 (d0.alloc (.cells #[.nilFunc] 48)) := (Below.refl _ _).alloc (Nat.le_refl _) _
      have hnew : (d0.alloc (.cells #[.nilFunc] 48)).heap[d0.heap.size]? = some (.cells #[.nilFunc] 48 (0, 0)) := heap_new rfl
      have hnw : w0.heap.size ≤ d0.heap.size := HT.out.size
      have hne : ∀ X o, d0.heap[X]? = some o → X ≠ d0.heap.size := fun X o h e => by have := lt_of_heap h; omega
      generalize (d0.alloc (.cells #[.nilFunc] 48)) = d37x4 at *
      have HTn := Lib.hid (HT.out.trans (hb.mono HT.out.size))
      replace HT := HTn
      clear HTn
      have hU := hnew
      have hUw := hnw
      clear hb hnew hnw hne
      refine hK.out _ _ ⟨heap_keep HT.out HA.out, heap_keep HT.out HB.out⟩ (fun hHeld => ?_)
      clear hK K hHeld
      try simp only [Act.put, pB, pC, pD]
      refine wpAnyH_ready (rs := [1, 5]) (by kernel_rfl) (by simp) ?_
      refine coH 1 (oi := ?_) ?_ ?_ (fun K hK => ?_) ?_; rotate_left; (simp only [gA, gB, gC]; exact rfl); rfl
      · go_wp2_with (fail)
        refine (covers_any a c _ HV1.out (HR1.out.kept HT.out)).mono ?_
        rintro e d54x1 ⟨f54x1, rfl, hcv, hb⟩
        obtain ⟨Bf54x1, Cf54x1, rfl⟩ := hcv.isfunc
        have HN := Lib.hid hcv
        clear hcv
        go_wp2_with (fail)
        have HTn := Lib.hid (HT.out.trans (hb.mono HT.out.size))
        replace HT := HTn
        clear HTn
        have HCF := HN
        replace hU := heap_keep hb hU
        clear hb HN
        refine hK.out _ _ ⟨heap_keep HT.out HA.out, heap_keep HT.out HB.out⟩ (fun hHeld => ?_)
        clear hK K hHeld
        try simp only [Act.put, pB, pC, pD]
        refine wpAnyH_ready (rs := [3, 5]) (by kernel_rfl) (by simp) ?_
        refine coH 3 (oi := ?_) ?_ ?_ (fun K hK => ?_) ?_; rotate_left; (simp only [gA, gB, gC]; exact rfl); rfl
        · go_wp2_with (fail)
          refine (covers_any a' c' _ HV2.out (HR2.out.kept HT.out)).mono ?_
          rintro e d55x3 ⟨f55x3, rfl, hcv, hb⟩
          obtain ⟨Bf55x3, Cf55x3, rfl⟩ := hcv.isfunc
          have HN := Lib.hid hcv
          clear hcv
          go_wp2_with (fail)
          have HTn := Lib.hid (HT.out.trans (hb.mono HT.out.size))
          replace HT := HTn
          clear HTn
          replace HCF := Lib.hid (HCF.out.kept hb)
          have HCG := HN
          replace hU := heap_keep hb hU
          clear hb HN
          refine hK.out _ _ ⟨heap_keep HT.out HA.out, heap_keep HT.out HB.out⟩ (fun hHeld => ?_)
          clear hK K hHeld
          try simp only [Act.put, pB, pC, pD]
          refine wpAnyH_ready (rs := [5]) (by kernel_rfl) (by simp) ?_
          refine coH 5 (oi := ?_) ?_ ?_ (fun K hK => ?_) ?_; rotate_left; (simp only [gA, gB, gC]; exact rfl); rfl
          · go_wp2_with (fail)
            have hb : Below d55x3.heap.size d55x3 (d55x3.alloc (.cells #[.nilFunc] 48)) := (Below.refl _ _).alloc (Nat.le_refl _) _
            have hnew : (d55x3.alloc (.cells #[.nilFunc] 48)).heap[d55x3.heap.size]? = some (.cells #[.nilFunc] 48 (0, 0)) := heap_new rfl
            have hnw : w0.heap.size ≤ d55x3.heap.size := HT.out.size
            have hne : ∀ X o, d55x3.heap[X]? = some o → X ≠ d55x3.heap.size := fun X o h e => by have := lt_of_heap h; omega
            generalize (d55x3.alloc (.cells #[.nilFunc] 48)) = d56x5 at *
            have HTn := Lib.hid (HT.out.trans (hb.mono HT.out.size))
            replace HT := HTn
            clear HTn
            replace HCF := Lib.hid (HCF.out.kept hb)
            replace HCG := Lib.hid (HCG.out.kept hb)
            have hUV : d0.heap.size ≠ d55x3.heap.size := fun e => hne _ _ hU e
            have hV := hnew
            have hVw := hnw
            replace hU := heap_keep hb hU
            clear hb hnew hnw hne
            refine hK.out _ _ ⟨heap_keep HT.out HA.out, heap_keep HT.out HB.out⟩ (fun hHeld => ?_)
            clear hK K hHeld
            try simp only [Act.put, pB, pC, pD]
            have hlU57 := lt_of_heap hU
            have hlV57 := lt_of_heap hV
            have cU57 : d56x5.cell? ⟨d0.heap.size, 0, none⟩ = some .nilFunc := cell_of hU rfl
            have fU57 : d56x5.frozen? ⟨d0.heap.size, 0, none⟩ = false := frozen_of hU
            have HU1 : Hid ((d56x5.setCell ⟨d0.heap.size, 0, none⟩ (.func (.func 43) #[] #[.pointer (some ⟨Bf54x1, 0, none⟩), .pointer (some ⟨Cf54x1, 0, none⟩)])).heap[d0.heap.size]? = some (.cells #[(.func (.func 43) #[] #[.pointer (some ⟨Bf54x1, 0, none⟩), .pointer (some ⟨Cf54x1, 0, none⟩)])] 48 (0, 0))) := Lib.hid (set1 hU)
            have HV1 : Hid ((d56x5.setCell ⟨d0.heap.size, 0, none⟩ (.func (.func 43) #[] #[.pointer (some ⟨Bf54x1, 0, none⟩), .pointer (some ⟨Cf54x1, 0, none⟩)])).heap[d55x3.heap.size]? = some (.cells #[.nilFunc] 48 (0, 0))) := Lib.hid ((Below.heap_setCell _ _ _ _ (Ne.symm hUV)).trans hV)
            have HF1 : Hid (CovV (d56x5.setCell ⟨d0.heap.size, 0, none⟩ (.func (.func 43) #[] #[.pointer (some ⟨Bf54x1, 0, none⟩), .pointer (some ⟨Cf54x1, 0, none⟩)])) (.func (.func 43) #[] #[.pointer (some ⟨Bf54x1, 0, none⟩), .pointer (some ⟨Cf54x1, 0, none⟩)]) _ _ _ _) := Lib.hid (HCF.out.set hU)
            have HG1 : Hid (CovV (d56x5.setCell ⟨d0.heap.size, 0, none⟩ (.func (.func 43) #[] #[.pointer (some ⟨Bf54x1, 0, none⟩), .pointer (some ⟨Cf54x1, 0, none⟩)])) (.func (.func 43) #[] #[.pointer (some ⟨Bf55x3, 0, none⟩), .pointer (some ⟨Cf55x3, 0, none⟩)]) _ _ _ _) := Lib.hid (HCG.out.set hU)
            have HT1 : Hid (Below w0.heap.size w0 (d56x5.setCell ⟨d0.heap.size, 0, none⟩ (.func (.func 43) #[] #[.pointer (some ⟨Bf54x1, 0, none⟩), .pointer (some ⟨Cf54x1, 0, none⟩)]))) := Lib.hid (HT.out.setCell hUw _)
            clear hU hV HT HCF HCG
            refine onH 6 (oi := ?_) (by kernel_rfl) ?_ ?_ (fun K hK => ?_); rotate_left; (simp only [gA, gB, gC]; exact rfl); rfl
            go_wp2_with (fail)
            refine hK.out _ _ ⟨heap_keep HT1.out HA.out, heap_keep HT1.out HB.out⟩ (fun hHeld => ?_)
            clear hK K hHeld
            try simp only [Act.put, pB, pC, pD]
            generalize (d56x5.setCell ⟨d0.heap.size, 0, none⟩ (.func (.func 43) #[] #[.pointer (some ⟨Bf54x1, 0, none⟩), .pointer (some ⟨Cf54x1, 0, none⟩)])) = e0 at *
            have hV := HV1.out
            have cV57 : e0.cell? ⟨d55x3.heap.size, 0, none⟩ = some .nilFunc := cell_of hV rfl
            have fV57 : e0.frozen? ⟨d55x3.heap.size, 0, none⟩ = false := frozen_of hV
            have HU2 : Hid ((e0.setCell ⟨d55x3.heap.size, 0, none⟩ (.func (.func 43) #[] #[.pointer (some ⟨Bf55x3, 0, none⟩), .pointer (some ⟨Cf55x3, 0, none⟩)])).heap[d0.heap.size]? = some (.cells #[(.func (.func 43) #[] #[.pointer (some ⟨Bf54x1, 0, none⟩), .pointer (some ⟨Cf54x1, 0, none⟩)])] 48 (0, 0))) := Lib.hid ((Below.heap_setCell _ _ _ _ hUV).trans HU1.out)
            have HV2 : Hid ((e0.setCell ⟨d55x3.heap.size, 0, none⟩ (.func (.func 43) #[] #[.pointer (some ⟨Bf55x3, 0, none⟩), .pointer (some ⟨Cf55x3, 0, none⟩)])).heap[d55x3.heap.size]? = some (.cells #[(.func (.func 43) #[] #[.pointer (some ⟨Bf55x3, 0, none⟩), .pointer (some ⟨Cf55x3, 0, none⟩)])] 48 (0, 0))) := Lib.hid (set1 hV)
            have HF2 : Hid (CovV (e0.setCell ⟨d55x3.heap.size, 0, none⟩ (.func (.func 43) #[] #[.pointer (some ⟨Bf55x3, 0, none⟩), .pointer (some ⟨Cf55x3, 0, none⟩)])) (.func (.func 43) #[] #[.pointer (some ⟨Bf54x1, 0, none⟩), .pointer (some ⟨Cf54x1, 0, none⟩)]) _ _ _ _) := Lib.hid (HF1.out.set hV)
            have HG2 : Hid (CovV (e0.setCell ⟨d55x3.heap.size, 0, none⟩ (.func (.func 43) #[] #[.pointer (some ⟨Bf55x3, 0, none⟩), .pointer (some ⟨Cf55x3, 0, none⟩)])) (.func (.func 43) #[] #[.pointer (some ⟨Bf55x3, 0, none⟩), .pointer (some ⟨Cf55x3, 0, none⟩)]) _ _ _ _) := Lib.hid (HG1.out.set hV)
            have HT2 : Hid (Below w0.heap.size w0 (e0.setCell ⟨d55x3.heap.size, 0, none⟩ (.func (.func 43) #[] #[.pointer (some ⟨Bf55x3, 0, none⟩), .pointer (some ⟨Cf55x3, 0, none⟩)]))) := Lib.hid (HT1.out.setCell hVw _)
            clear hV HT1 HF1 HG1 HU1 HV1
            refine onH 7 (oi := ?_) (by kernel_rfl) ?_ ?_ (fun K hK => ?_); rotate_left; (simp only [gA, gB, gC]; exact rfl); rfl
            go_wp2_with (fail)
            refine hK.out _ _ ⟨heap_keep HT2.out HA.out, heap_keep HT2.out HB.out⟩ (fun hHeld => ?_)
            clear hK K hHeld
            try simp only [Act.put, pB, pC, pD]
            refine wpAnyH_done (by kernel_rfl) ?_ _
            go_wp2_with (fail)
            go_meet
            exact ⟨_, _, rfl, rfl, ⟨_, _, HU2.out, HV2.out, HF2.out, HG2.out⟩, HT2.out⟩
          exact AllReadyH.nil
        refine coH 5 (oi := ?_) ?_ ?_ (fun K hK => ?_) ?_; rotate_left; (simp only [gA, gB, gC]; exact rfl); rfl
        · go_wp2_with (fail)
          have hb : Below d54x1.heap.size d54x1 (d54x1.alloc (.cells #[.nilFunc] 48)) := (Below.refl _ _).alloc (Nat.le_refl _) _
          have hnew : (d54x1.alloc (.cells #[.nilFunc] 48)).heap[d54x1.heap.size]? = some (.cells #[.nilFunc] 48 (0, 0)) := heap_new rfl
          have hnw : w0.heap.size ≤ d54x1.heap.size := HT.out.size
          have hne : ∀ X o, d54x1.heap[X]? = some o → X ≠ d54x1.heap.size := fun X o h e => by have := lt_of_heap h; omega
          generalize (d54x1.alloc (.cells #[.nilFunc] 48)) = d55x5 at *
          have HTn := Lib.hid (HT.out.trans (hb.mono HT.out.size))
          replace HT := HTn
          clear HTn
          replace HCF := Lib.hid (HCF.out.kept hb)
          have hUV : d0.heap.size ≠ d54x1.heap.size := fun e => hne _ _ hU e
          have hV := hnew
          have hVw := hnw
          replace hU := heap_keep hb hU
          clear hb hnew hnw hne
          refine hK.out _ _ ⟨heap_keep HT.out HA.out, heap_keep HT.out HB.out⟩ (fun hHeld => ?_)
          clear hK K hHeld
          try simp only [Act.put, pB, pC, pD]
          refine wpAnyH_ready (rs := [3]) (by kernel_rfl) (by simp) ?_
          refine coH 3 (oi := ?_) ?_ ?_ (fun K hK => ?_) ?_; rotate_left; (simp only [gA, gB, gC]; exact rfl); rfl
          · go_wp2_with (fail)
            refine (covers_any a' c' _ HV2.out (HR2.out.kept HT.out)).mono ?_
            rintro e d58x3 ⟨f58x3, rfl, hcv, hb⟩
            obtain ⟨Bf58x3, Cf58x3, rfl⟩ := hcv.isfunc
            have HN := Lib.hid hcv
            clear hcv
            go_wp2_with (fail)
            have HTn := Lib.hid (HT.out.trans (hb.mono HT.out.size))
            replace HT := HTn
            clear HTn
            replace HCF := Lib.hid (HCF.out.kept hb)
            have HCG := HN
            replace hU := heap_keep hb hU
            replace hV := heap_keep hb hV
            clear hb HN
            refine hK.out _ _ ⟨heap_keep HT.out HA.out, heap_keep HT.out HB.out⟩ (fun hHeld => ?_)
            clear hK K hHeld
            try simp only [Act.put, pB, pC, pD]
            have hlU59 := lt_of_heap hU
            have hlV59 := lt_of_heap hV
            have cU59 : d58x3.cell? ⟨d0.heap.size, 0, none⟩ = some .nilFunc := cell_of hU rfl
            have fU59 : d58x3.frozen? ⟨d0.heap.size, 0, none⟩ = false := frozen_of hU
            have HU1 : Hid ((d58x3.setCell ⟨d0.heap.size, 0, none⟩ (.func (.func 43) #[] #[.pointer (some ⟨Bf54x1, 0, none⟩), .pointer (some ⟨Cf54x1, 0, none⟩)])).heap[d0.heap.size]? = some (.cells #[(.func (.func 43) #[] #[.pointer (some ⟨Bf54x1, 0, none⟩), .pointer (some ⟨Cf54x1, 0, none⟩)])] 48 (0, 0))) := Lib.hid (set1 hU)
            have HV1 : Hid ((d58x3.setCell ⟨d0.heap.size, 0, none⟩ (.func (.func 43) #[] #[.pointer (some ⟨Bf54x1, 0, none⟩), .pointer (some ⟨Cf54x1, 0, none⟩)])).heap[d54x1.heap.size]? = some (.cells #[.nilFunc] 48 (0, 0))) := Lib.hid ((Below.heap_setCell _ _ _ _ (Ne.symm hUV)).trans hV)
            have HF1 : Hid (CovV (d58x3.setCell ⟨d0.heap.size, 0, none⟩ (.func (.func 43) #[] #[.pointer (some ⟨Bf54x1, 0, none⟩), .pointer (some ⟨Cf54x1, 0, none⟩)])) (.func (.func 43) #[] #[.pointer (some ⟨Bf54x1, 0, none⟩), .pointer (some ⟨Cf54x1, 0, none⟩)]) _ _ _ _) := Lib.hid (HCF.out.set hU)
            have HG1 : Hid (CovV (d58x3.setCell ⟨d0.heap.size, 0, none⟩ (.func (.func 43) #[] #[.pointer (some ⟨Bf54x1, 0, none⟩), .pointer (some ⟨Cf54x1, 0, none⟩)])) (.func (.func 43) #[] #[.pointer (some ⟨Bf58x3, 0, none⟩), .pointer (some ⟨Cf58x3, 0, none⟩)]) _ _ _ _) := Lib.hid (HCG.out.set hU)
            have HT1 : Hid (Below w0.heap.size w0 (d58x3.setCell ⟨d0.heap.size, 0, none⟩ (.func (.func 43) #[] #[.pointer (some ⟨Bf54x1, 0, none⟩), .pointer (some ⟨Cf54x1, 0, none⟩)]))) := Lib.hid (HT.out.setCell hUw _)
            clear hU hV HT HCF HCG
            refine onH 6 (oi := ?_) (by kernel_rfl) ?_ ?_ (fun K hK => ?_); rotate_left; (simp only [gA, gB, gC]; exact rfl); rfl
            go_wp2_with (fail)
            refine hK.out _ _ ⟨heap_keep HT1.out HA.out, heap_keep HT1.out HB.out⟩ (fun hHeld => ?_)
            clear hK K hHeld
            try simp only [Act.put, pB, pC, pD]
            generalize (d58x3.setCell ⟨d0.heap.size, 0, none⟩ (.func (.func 43) #[] #[.pointer (some ⟨Bf54x1, 0, none⟩), .pointer (some ⟨Cf54x1, 0, none⟩)])) = e0 at *
            have hV := HV1.out
            have cV59 : e0.cell? ⟨d54x1.heap.size, 0, none⟩ = some .nilFunc := cell_of hV rfl
            have fV59 : e0.frozen? ⟨d54x1.heap.size, 0, none⟩ = false := frozen_of hV
            have HU2 : Hid ((e0.setCell ⟨d54x1.heap.size, 0, none⟩ (.func (.func 43) #[] #[.pointer (some ⟨Bf58x3, 0, none⟩), .pointer (some ⟨Cf58x3, 0, none⟩)])).heap[d0.heap.size]? = some (.cells #[(.func (.func 43) #[] #[.pointer (some ⟨Bf54x1, 0, none⟩), .pointer (some ⟨Cf54x1, 0, none⟩)])] 48 (0, 0))) := Lib.hid ((Below.heap_setCell _ _ _ _ hUV).trans HU1.out)
            have HV2 : Hid ((e0.setCell ⟨d54x1.heap.size, 0, none⟩ (.func (.func 43) #[] #[.pointer (some ⟨Bf58x3, 0, none⟩), .pointer (some ⟨Cf58x3, 0, none⟩)])).heap[d54x1.heap.size]? = some (.cells #[(.func (.func 43) #[] #[.pointer (some ⟨Bf58x3, 0, none⟩), .pointer (some ⟨Cf58x3, 0, none⟩)])] 48 (0, 0))) := Lib.hid (set1 hV)
            have HF2 : Hid (CovV (e0.setCell ⟨d54x1.heap.size, 0, none⟩ (.func (.func 43) #[] #[.pointer (some ⟨Bf58x3, 0, none⟩), .pointer (some ⟨Cf58x3, 0, none⟩)])) (.func (.func 43) #[] #[.pointer (some ⟨Bf54x1, 0, none⟩), .pointer (some ⟨Cf54x1, 0, none⟩)]) _ _ _ _) := Lib.hid (HF1.out.set hV)
            have HG2 : Hid (CovV (e0.setCell ⟨d54x1.heap.size, 0, none⟩ (.func (.func 43) #[] #[.pointer (some ⟨Bf58x3, 0, none⟩), .pointer (some ⟨Cf58x3, 0, none⟩)])) (.func (.func 43) #[] #[.pointer (some ⟨Bf58x3, 0, none⟩), .pointer (some ⟨Cf58x3, 0, none⟩)]) _ _ _ _) := Lib.hid (HG1.out.set hV)
            have HT2 : Hid (Below w0.heap.size w0 (e0.setCell ⟨d54x1.heap.size, 0, none⟩ (.func (.func 43) #[] #[.pointer (some ⟨Bf58x3, 0, none⟩), .pointer (some ⟨Cf58x3, 0, none⟩)]))) := Lib.hid (HT1.out.setCell hVw _)
            clear hV HT1 HF1 HG1 HU1 HV1
            refine onH 7 (oi := ?_) (by kernel_rfl) ?_ ?_ (fun K hK => ?_); rotate_left; (simp only [gA, gB, gC]; exact rfl); rfl
            go_wp2_with (fail)
            refine hK.out _ _ ⟨heap_keep HT2.out HA.out, heap_keep HT2.out HB.out⟩ (fun hHeld => ?_)
            clear hK K hHeld
            try simp only [Act.put, pB, pC, pD]
            refine wpAnyH_done (by kernel_rfl) ?_ _
            go_wp2_with (fail)
            go_meet
            exact ⟨_, _, rfl, rfl, ⟨_, _, HU2.out, HV2.out, HF2.out, HG2.out⟩, HT2.out⟩
          exact AllReadyH.nil
        exact AllReadyH.nil
      refine coH 5 (oi := ?_) ?_ ?_ (fun K hK => ?_) ?_; rotate_left; (simp only [gA, gB, gC]; exact rfl); rfl
      · go_wp2_with (fail)
        have hb : Below d37x4.heap.size d37x4 (d37x4.alloc (.cells #[.nilFunc] 48)) := (Below.refl _ _).alloc (Nat.le_refl _) _
        have hnew : (d37x4.alloc (.cells #[.nilFunc] 48)).heap[d37x4.heap.size]? = some (.cells #[.nilFunc] 48 (0, 0)) := heap_new rfl
        have hnw : w0.heap.size ≤ d37x4.heap.size := HT.out.size
        have hne : ∀ X o, d37x4.heap[X]? = some o → X ≠ d37x4.heap.size := fun X o h e => by have := lt_of_heap h; omega
        generalize (d37x4.alloc (.cells #[.nilFunc] 48)) = d54x5 at *
        have HTn := Lib.hid (HT.out.trans (hb.mono HT.out.size))
        replace HT := HTn
        clear HTn
        have hUV : d0.heap.size ≠ d37x4.heap.size := fun e => hne _ _ hU e
        have hV := hnew
        have hVw := hnw
        replace hU := heap_keep hb hU
        clear hb hnew hnw hne
        refine hK.out _ _ ⟨heap_keep HT.out HA.out, heap_keep HT.out HB.out⟩ (fun hHeld => ?_)
        clear hK K hHeld
        try simp only [Act.put, pB, pC, pD]
        refine wpAnyH_ready (rs := [1]) (by kernel_rfl) (by simp) ?_
        refine coH 1 (oi := ?_) ?_ ?_ (fun K hK => ?_) ?_; rotate_left; (simp only [gA, gB, gC]; exact rfl); rfl
        · go_wp2_with (fail)
          refine (covers_any a c _ HV1.out (HR1.out.kept HT.out)).mono ?_
          rintro e d60x1 ⟨f60x1, rfl, hcv, hb⟩
          obtain ⟨Bf60x1, Cf60x1, rfl⟩ := hcv.isfunc
          have HN := Lib.hid hcv
          clear hcv
          go_wp2_with (fail)
          have HTn := Lib.hid (HT.out.trans (hb.mono HT.out.size))
          replace HT := HTn
          clear HTn
          have HCF := HN
          replace hU := heap_keep hb hU
          replace hV := heap_keep hb hV
          clear hb HN
          refine hK.out _ _ ⟨heap_keep HT.out HA.out, heap_keep HT.out HB.out⟩ (fun hHeld => ?_)
          clear hK K hHeld
          try simp only [Act.put, pB, pC, pD]
          refine wpAnyH_ready (rs := [3]) (by kernel_rfl) (by simp) ?_
          refine coH 3 (oi := ?_) ?_ ?_ (fun K hK => ?_) ?_; rotate_left; (simp only [gA, gB, gC]; exact rfl); rfl
          · go_wp2_with (fail)
            refine (covers_any a' c' _ HV2.out (HR2.out.kept HT.out)).mono ?_
            rintro e d61x3 ⟨f61x3, rfl, hcv, hb⟩
            obtain ⟨Bf61x3, Cf61x3, rfl⟩ := hcv.isfunc
            have HN := Lib.hid hcv
            clear hcv
            go_wp2_with (fail)
            have HTn := Lib.hid (HT.out.trans (hb.mono HT.out.size))
            replace HT := HTn
            clear HTn
            replace HCF := Lib.hid (HCF.out.kept hb)
            have HCG := HN
            replace hU := heap_keep hb hU
            replace hV := heap_keep hb hV
            clear hb HN
            refine hK.out _ _ ⟨heap_keep HT.out HA.out, heap_keep HT.out HB.out⟩ (fun hHeld => ?_)
            clear hK K hHeld
            try simp only [Act.put, pB, pC, pD]
            have hlU62 := lt_of_heap hU
            have hlV62 := lt_of_heap hV
            have cU62 : d61x3.cell? ⟨d0.heap.size, 0, none⟩ = some .nilFunc := cell_of hU rfl
            have fU62 : d61x3.frozen? ⟨d0.heap.size, 0, none⟩ = false := frozen_of hU
            have HU1 : Hid ((d61x3.setCell ⟨d0.heap.size, 0, none⟩ (.func (.func 43) #[] #[.pointer (some ⟨Bf60x1, 0, none⟩), .pointer (some ⟨Cf60x1, 0, none⟩)])).heap[d0.heap.size]? = some (.cells #[(.func (.func 43) #[] #[.pointer (some ⟨Bf60x1, 0, none⟩), .pointer (some ⟨Cf60x1, 0, none⟩)])] 48 (0, 0))) := Lib.hid (set1 hU)
            have HV1 : Hid ((d61x3.setCell ⟨d0.heap.size, 0, none⟩ (.func (.func 43) #[] #[.pointer (some ⟨Bf60x1, 0, none⟩), .pointer (some ⟨Cf60x1, 0, none⟩)])).heap[d37x4.heap.size]? = some (.cells #[.nilFunc] 48 (0, 0))) := Lib.hid ((Below.heap_setCell _ _ _ _ (Ne.symm hUV)).trans hV)
            have HF1 : Hid (CovV (d61x3.setCell ⟨d0.heap.size, 0, none⟩ (.func (.func 43) #[] #[.pointer (some ⟨Bf60x1, 0, none⟩), .pointer (some ⟨Cf60x1, 0, none⟩)])) (.func (.func 43) #[] #[.pointer (some ⟨Bf60x1, 0, none⟩), .pointer (some ⟨Cf60x1, 0, none⟩)]) _ _ _ _) := Lib.hid (HCF.out.set hU)
            have HG1 : Hid (CovV (d61x3.setCell ⟨d0.heap.size, 0, none⟩ (.func (.func 43) #[] #[.pointer (some ⟨Bf60x1, 0, none⟩), .pointer (some ⟨Cf60x1, 0, none⟩)])) (.func (.func 43) #[] #[.pointer (some ⟨Bf61x3, 0, none⟩), .pointer (some ⟨Cf61x3, 0, none⟩)]) _ _ _ _) := Lib.hid (HCG.out.set hU)
            have HT1 : Hid (Below w0.heap.size w0 (d61x3.setCell ⟨d0.heap.size, 0, none⟩ (.func (.func 43) #[] #[.pointer (some ⟨Bf60x1, 0, none⟩), .pointer (some ⟨Cf60x1, 0, none⟩)]))) := Lib.hid (HT.out.setCell hUw _)
            clear hU hV HT HCF HCG
            refine onH 6 (oi := ?_) (by kernel_rfl) ?_ ?_ (fun K hK => ?_); rotate_left; (simp only [gA, gB, gC]; exact rfl); rfl
            go_wp2_with (fail)
            refine hK.out _ _ ⟨heap_keep HT1.out HA.out, heap_keep HT1.out HB.out⟩ (fun hHeld => ?_)
            clear hK K hHeld
            try simp only [Act.put, pB, pC, pD]
            generalize (d61x3.setCell ⟨d0.heap.size, 0, none⟩ (.func (.func 43) #[] #[.pointer (some ⟨Bf60x1, 0, none⟩), .pointer (some ⟨Cf60x1, 0, none⟩)])) = e0 at *
            have hV := HV1.out
            have cV62 : e0.cell? ⟨d37x4.heap.size, 0, none⟩ = some .nilFunc := cell_of hV rfl
            have fV62 : e0.frozen? ⟨d37x4.heap.size, 0, none⟩ = false := frozen_of hV
            have HU2 : Hid ((e0.setCell ⟨d37x4.heap.size, 0, none⟩ (.func (.func 43) #[] #[.pointer (some ⟨Bf61x3, 0, none⟩), .pointer (some ⟨Cf61x3, 0, none⟩)])).heap[d0.heap.size]? = some (.cells #[(.func (.func 43) #[] #[.pointer (some ⟨Bf60x1, 0, none⟩), .pointer (some ⟨Cf60x1, 0, none⟩)])] 48 (0, 0))) := Lib.hid ((Below.heap_setCell _ _ _ _ hUV).trans HU1.out)
            have HV2 : Hid ((e0.setCell ⟨d37x4.heap.size, 0, none⟩ (.func (.func 43) #[] #[.pointer (some ⟨Bf61x3, 0, none⟩), .pointer (some ⟨Cf61x3, 0, none⟩)])).heap[d37x4.heap.size]? = some (.cells #[(.func (.func 43) #[] #[.pointer (some ⟨Bf61x3, 0, none⟩), .pointer (some ⟨Cf61x3, 0, none⟩)])] 48 (0, 0))) := Lib.hid (set1 hV)
            have HF2 : Hid (CovV (e0.setCell ⟨d37x4.heap.size, 0, none⟩ (.func (.func 43) #[] #[.pointer (some ⟨Bf61x3, 0, none⟩), .pointer (some ⟨Cf61x3, 0, none⟩)])) (.func (.func 43) #[] #[.pointer (some ⟨Bf60x1, 0, none⟩), .pointer (some ⟨Cf60x1, 0, none⟩)]) _ _ _ _) := Lib.hid (HF1.out.set hV)
            have HG2 : Hid (CovV (e0.setCell ⟨d37x4.heap.size, 0, none⟩ (.func (.func 43) #[] #[.pointer (some ⟨Bf61x3, 0, none⟩), .pointer (some ⟨Cf61x3, 0, none⟩)])) (.func (.func 43) #[] #[.pointer (some ⟨Bf61x3, 0, none⟩), .pointer (some ⟨Cf61x3, 0, none⟩)]) _ _ _ _) := Lib.hid (HG1.out.set hV)
            have HT2 : Hid (Below w0.heap.size w0 (e0.setCell ⟨d37x4.heap.size, 0, none⟩ (.func (.func 43) #[] #[.pointer (some ⟨Bf61x3, 0, none⟩), .pointer (some ⟨Cf61x3, 0, none⟩)]))) := Lib.hid (HT1.out.setCell hVw _)
            clear hV HT1 HF1 HG1 HU1 HV1
            refine onH 7 (oi := ?_) (by kernel_rfl) ?_ ?_ (fun K hK => ?_); rotate_left; (simp only [gA, gB, gC]; exact rfl); rfl
            go_wp2_with (fail)
            refine hK.out _ _ ⟨heap_keep HT2.out HA.out, heap_keep HT2.out HB.out⟩ (fun hHeld => ?_)
            clear hK K hHeld
            try simp only [Act.put, pB, pC, pD]
            refine wpAnyH_done (by kernel_rfl) ?_ _
            go_wp2_with (fail)
            go_meet
            exact ⟨_, _, rfl, rfl, ⟨_, _, HU2.out, HV2.out, HF2.out, HG2.out⟩, HT2.out⟩
          exact AllReadyH.nil
        exact AllReadyH.nil
      exact AllReadyH.nil
    refine coH 5 (oi := ?_) ?_ ?_ (fun K hK => ?_) ?_; rotate_left; (simp only [gA, gB, gC]; exact rfl); rfl
    · go_wp2_with (fail)
      have hb : Below d0.heap.size d0 (d0.alloc (.cells #[.nilFunc] 48)) := (Below.refl _ _).alloc (Nat.le_refl _) _
      have hnew : (d0.alloc (.cells #[.nilFunc] 48)).heap[d0.heap.size]? = some (.cells #[.nilFunc] 48 (0, 0)) := heap_new rfl
      have hnw : w0.heap.size ≤ d0.heap.size := HT.out.size
      have hne : ∀ X o, d0.heap[X]? = some o → X ≠ d0.heap.size := fun X o h e => by have := lt_of_heap h; omega
      generalize (d0.alloc (.cells #[.nilFunc] 48)) = d37x5 at *
      have HTn := Lib.hid (HT.out.trans (hb.mono HT.out.size))
      replace HT := HTn
      clear HTn
      have hV := hnew
      have hVw := hnw
      clear hb hnew hnw hne
      refine hK.out _ _ ⟨heap_keep HT.out HA.out, heap_keep HT.out HB.out⟩ (fun hHeld => ?_)
      clear hK K hHeld
      try simp only [Act.put, pB, pC, pD]
      refine wpAnyH_ready (rs := [1, 4]) (by kernel_rfl) (by simp) ?_
      refine coH 1 (oi := ?_) ?_ ?_ (fun K hK => ?_) ?_; rotate_left; (simp only [gA, gB, gC]; exact rfl); rfl
      · go_wp2_with (fail)
        refine (covers_any a c _ HV1.out (HR1.out.kept HT.out)).mono ?_
        rintro e d63x1 ⟨f63x1, rfl, hcv, hb⟩
        obtain ⟨Bf63x1, Cf63x1, rfl⟩ := hcv.isfunc
        have HN := Lib.hid hcv
        clear hcv
        go_wp2_with (fail)
        have HTn := Lib.hid (HT.out.trans (hb.mono HT.out.size))
        replace HT := HTn
        clear HTn
        have HCF := HN
        replace hV := heap_keep hb hV
        clear hb HN
        refine hK.out _ _ ⟨heap_keep HT.out HA.out, heap_keep HT.out HB.out⟩ (fun hHeld => ?_)
        clear hK K hHeld
        try simp only [Act.put, pB, pC, pD]
        refine wpAnyH_ready (rs := [3, 4]) (by kernel_rfl) (by simp) ?_
        refine coH 3 (oi := ?_) ?_ ?_ (fun K hK => ?_) ?_; rotate_left; (simp only [gA, gB, gC]; exact rfl); rfl
        · go_wp2_with (fail)
          refine (covers_any a' c' _ HV2.out (HR2.out.kept HT.out)).mono ?_
          rintro e d64x3 ⟨f64x3, rfl, hcv, hb⟩
          obtain ⟨Bf64x3, Cf64x3, rfl⟩ := hcv.isfunc
          have HN := Lib.hid hcv
          clear hcv
          go_wp2_with (fail)
          have HTn := Lib.hid (HT.out.trans (hb.mono HT.out.size))
          replace HT := HTn
          clear HTn
          replace HCF := Lib.hid (HCF.out.kept hb)
          have HCG := HN
          replace hV := heap_keep hb hV
          clear hb HN
          refine hK.out _ _ ⟨heap_keep HT.out HA.out, heap_keep HT.out HB.out⟩ (fun hHeld => ?_)
          clear hK K hHeld
          try simp only [Act.put, pB, pC, pD]
          refine wpAnyH_ready (rs := [4]) (by kernel_rfl) (by simp) ?_
          refine coH 4 (oi := ?_) ?_ ?_ (fun K hK => ?_) ?_; rotate_left; (simp only [gA, gB, gC]; exact rfl); rfl
          · go_wp2_with (fail)
            have hb : Below d64x3.heap.size d64x3 (d64x3.alloc (.cells #[.nilFunc] 48)) := (Below.refl _ _).alloc (Nat.le_refl _) _
            have hnew : (d64x3.alloc (.cells #[.nilFunc] 48)).heap[d64x3.heap.size]? = some (.cells #[.nilFunc] 48 (0, 0)) := heap_new rfl
            have hnw : w0.heap.size ≤ d64x3.heap.size := HT.out.size
            have hne : ∀ X o, d64x3.heap[X]? = some o → X ≠ d64x3.heap.size := fun X o h e => by have := lt_of_heap h; omega
            generalize (d64x3.alloc (.cells #[.nilFunc] 48)) = d65x4 at *
            have HTn := Lib.hid (HT.out.trans (hb.mono HT.out.size))
            replace HT := HTn
            clear HTn
            replace HCF := Lib.hid (HCF.out.kept hb)
            replace HCG := Lib.hid (HCG.out.kept hb)
            have hUV : d64x3.heap.size ≠ d0.heap.size := fun e => hne _ _ hV e.symm
            have hU := hnew
            have hUw := hnw
            replace hV := heap_keep hb hV
            clear hb hnew hnw hne
            refine hK.out _ _ ⟨heap_keep HT.out HA.out, heap_keep HT.out HB.out⟩ (fun hHeld => ?_)
            clear hK K hHeld
            try simp only [Act.put, pB, pC, pD]
            have hlU66 := lt_of_heap hU
            have hlV66 := lt_of_heap hV
            have cU66 : d65x4.cell? ⟨d64x3.heap.size, 0, none⟩ = some .nilFunc := cell_of hU rfl
            have fU66 : d65x4.frozen? ⟨d64x3.heap.size, 0, none⟩ = false := frozen_of hU
            have HU1 : Hid ((d65x4.setCell ⟨d64x3.heap.size, 0, none⟩ (.func (.func 43) #[] #[.pointer (some ⟨Bf63x1, 0, none⟩), .pointer (some ⟨Cf63x1, 0, none⟩)])).heap[d64x3.heap.size]? = some (.cells #[(.func (.func 43) #[] #[.pointer (some ⟨Bf63x1, 0, none⟩), .pointer (some ⟨Cf63x1, 0, none⟩)])] 48 (0, 0))) := Lib.hid (set1 hU)
            have HV1 : Hid ((d65x4.setCell ⟨d64x3.heap.size, 0, none⟩ (.func (.func 43) #[] #[.pointer (some ⟨Bf63x1, 0, none⟩), .pointer (some ⟨Cf63x1, 0, none⟩)])).heap[d0.heap.size]? = some (.cells #[.nilFunc] 48 (0, 0))) := Lib.hid ((Below.heap_setCell _ _ _ _ (Ne.symm hUV)).trans hV)
            have HF1 : Hid (CovV (d65x4.setCell ⟨d64x3.heap.size, 0, none⟩ (.func (.func 43) #[] #[.pointer (some ⟨Bf63x1, 0, none⟩), .pointer (some ⟨Cf63x1, 0, none⟩)])) (.func (.func 43) #[] #[.pointer (some ⟨Bf63x1, 0, none⟩), .pointer (some ⟨Cf63x1, 0, none⟩)]) _ _ _ _) := Lib.hid (HCF.out.set hU)
            have HG1 : Hid (CovV (d65x4.setCell ⟨d64x3.heap.size, 0, none⟩ (.func (.func 43) #[] #[.pointer (some ⟨Bf63x1, 0, none⟩), .pointer (some ⟨Cf63x1, 0, none⟩)])) (.func (.func 43) #[] #[.pointer (some ⟨Bf64x3, 0, none⟩), .pointer (some ⟨Cf64x3, 0, none⟩)]) _ _ _ _) := Lib.hid (HCG.out.set hU)
            have HT1 : Hid (Below w0.heap.size w0 (d65x4.setCell ⟨d64x3.heap.size, 0, none⟩ (.func (.func 43) #[] #[.pointer (some ⟨Bf63x1, 0, none⟩), .pointer (some ⟨Cf63x1, 0, none⟩)]))) := Lib.hid (HT.out.setCell hUw _)
            clear hU hV HT HCF HCG
            refine onH 6 (oi := ?_) (by kernel_rfl) ?_ ?_ (fun K hK => ?_); rotate_left; (simp only [gA, gB, gC]; exact rfl); rfl
            go_wp2_with (fail)
            refine hK.out _ _ ⟨heap_keep HT1.out HA.out, heap_keep HT1.out HB.out⟩ (fun hHeld => ?_)
            clear hK K hHeld
            try simp only [Act.put, pB, pC, pD]
            generalize (d65x4.setCell ⟨d64x3.heap.size, 0, none⟩ (.func (.func 43) #[] #[.pointer (some ⟨Bf63x1, 0, none⟩), .pointer (some ⟨Cf63x1, 0, none⟩)])) = e0 at *
            have hV := HV1.out
            have cV66 : e0.cell? ⟨d0.heap.size, 0, none⟩ = some .nilFunc := cell_of hV rfl
            have fV66 : e0.frozen? ⟨d0.heap.size, 0, none⟩ = false := frozen_of hV
            have HU2 : Hid ((e0.setCell ⟨d0.heap.size, 0, none⟩ (.func (.func 43) #[] #[.pointer (some ⟨Bf64x3, 0, none⟩), .pointer (some ⟨Cf64x3, 0, none⟩)])).heap[d64x3.heap.size]? = some (.cells #[(.func (.func 43) #[] #[.pointer (some ⟨Bf63x1, 0, none⟩), .pointer (some ⟨Cf63x1, 0, none⟩)])] 48 (0, 0))) := Lib.hid ((Below.heap_setCell _ _ _ _ hUV).trans HU1.out)
            have HV2 : Hid ((e0.setCell ⟨d0.heap.size, 0, none⟩ (.func (.func 43) #[] #[.pointer (some ⟨Bf64x3, 0, none⟩), .pointer (some ⟨Cf64x3, 0, none⟩)])).heap[d0.heap.size]? = some (.cells #[(.func (.func 43) #[] #[.pointer (some ⟨Bf64x3, 0, none⟩), .pointer (some ⟨Cf64x3, 0, none⟩)])] 48 (0, 0))) := Lib.hid (set1 hV)
            have HF2 : Hid (CovV (e0.setCell ⟨d0.heap.size, 0, none⟩ (.func (.func 43) #[] #[.pointer (some ⟨Bf64x3, 0, none⟩), .pointer (some ⟨Cf64x3, 0, none⟩)])) (.func (.func 43) #[] #[.pointer (some ⟨Bf63x1, 0, none⟩), .pointer (some ⟨Cf63x1, 0, none⟩)]) _ _ _ _) := Lib.hid (HF1.out.set hV)
            have HG2 : Hid (CovV (e0.setCell ⟨d0.heap.size, 0, none⟩ (.func (.func 43) #[] #[.pointer (some ⟨Bf64x3, 0, none⟩), .pointer (some ⟨Cf64x3, 0, none⟩)])) (.func (.func 43) #[] #[.pointer (some ⟨Bf64x3, 0, none⟩), .pointer (some ⟨Cf64x3, 0, none⟩)]) _ _ _ _) := Lib.hid (HG1.out.set hV)
            have HT2 : Hid (Below w0.heap.size w0 (e0.setCell ⟨d0.heap.size, 0, none⟩ (.func (.func 43) #[] #[.pointer (some ⟨Bf64x3, 0, none⟩), .pointer (some ⟨Cf64x3, 0, none⟩)]))) := Lib.hid (HT1.out.setCell hVw _)
            clear hV HT1 HF1 HG1 HU1 HV1
            refine onH 7 (oi := ?_) (by kernel_rfl) ?_ ?_ (fun K hK => ?_); rotate_left; (simp only [gA, gB, gC]; exact rfl); rfl
            go_wp2_with (fail)
            refine hK.out _ _ ⟨heap_keep HT2.out HA.out, heap_keep HT2.out HB.out⟩ (fun hHeld => ?_)
            clear hK K hHeld
            try simp only [Act.put, pB, pC, pD]
            refine wpAnyH_done (by kernel_rfl) ?_ _
            go_wp2_with (fail)
            go_meet
            exact ⟨_, _, rfl, rfl, ⟨_, _, HU2.out, HV2.out, HF2.out, HG2.out⟩, HT2.out⟩
          exact AllReadyH.nil
        refine coH 4 (oi := ?_) ?_ ?_ (fun K hK => ?_) ?_; rotate_left; (simp only [gA, gB, gC]; exact rfl); rfl
        · go_wp2_with (fail)
          have hb : Below d63x1.heap.size d63x1 (d63x1.alloc (.cells #[.nilFunc] 48)) := (Below.refl _ _).alloc (Nat.le_refl _) _
          have hnew : (d63x1.alloc (.cells #[.nilFunc] 48)).heap[d63x1.heap.size]? = some (.cells #[.nilFunc] 48 (0, 0)) := heap_new rfl
          have hnw : w0.heap.size ≤ d63x1.heap.size := HT.out.size
          have hne : ∀ X o, d63x1.heap[X]? = some o → X ≠ d63x1.heap.size := fun X o h e => by have := lt_of_heap h; omega
          generalize (d63x1.alloc (.cells #[.nilFunc] 48)) = d64x4 at *
          have HTn := Lib.hid (HT.out.trans (hb.mono HT.out.size))
          replace HT := HTn
          clear HTn
          replace HCF := Lib.hid (HCF.out.kept hb)
          have hUV : d63x1.heap.size ≠ d0.heap.size := fun e => hne _ _ hV e.symm
          have hU := hnew
          have hUw := hnw
          replace hV := heap_keep hb hV
          clear hb hnew hnw hne
          refine hK.out _ _ ⟨heap_keep HT.out HA.out, heap_keep HT.out HB.out⟩ (fun hHeld => ?_)
          clear hK K hHeld
          try simp only [Act.put, pB, pC, pD]
          refine wpAnyH_ready (rs := [3]) (by kernel_rfl) (by simp) ?_
          refine coH 3 (oi := ?_) ?_ ?_ (fun K hK => ?_) ?_; rotate_left; (simp only [gA, gB, gC]; exact rfl); rfl
          · go_wp2_with (fail)
            refine (covers_any a' c' _ HV2.out (HR2.out.kept HT.out)).mono ?_
            rintro e d67x3 ⟨f67x3, rfl, hcv, hb⟩
            obtain ⟨Bf67x3, Cf67x3, rfl⟩ := hcv.isfunc
            have HN := Lib.hid hcv
            clear hcv
            go_wp2_with (fail)
            have HTn := Lib.hid (HT.out.trans (hb.mono HT.out.size))
            replace HT := HTn
            clear HTn
            replace HCF := Lib.hid (HCF.out.kept hb)
            have HCG := HN
            replace hU := heap_keep hb hU
            replace hV := heap_keep hb hV
            clear hb HN
            refine hK.out _ _ ⟨heap_keep HT.out HA.out, heap_keep HT.out HB.out⟩ (fun hHeld => ?_)
            clear hK K hHeld
            try simp only [Act.put, pB, pC, pD]
            have hlU68 := lt_of_heap hU
            have hlV68 := lt_of_heap hV
            have cU68 : d67x3.cell? ⟨d63x1.heap.size, 0, none⟩ = some .nilFunc := cell_of hU rfl
            have fU68 : d67x3.frozen? ⟨d63x1.heap.size, 0, none⟩ = false := frozen_of hU
            have HU1 : Hid ((d67x3.setCell ⟨d63x1.heap.size, 0, none⟩ (.func (.func 43) #[] #[.pointer (some ⟨Bf63x1, 0, none⟩), .pointer (some ⟨Cf63x1, 0, none⟩)])).heap[d63x1.heap.size]? = some (.cells #[(.func (.func 43) #[] #[.pointer (some ⟨Bf63x1, 0, none⟩), .pointer (some ⟨Cf63x1, 0, none⟩)])] 48 (0, 0))) := Lib.hid (set1 hU)
            have HV1 : Hid ((d67x3.setCell ⟨d63x1.heap.size, 0, none⟩ (.func (.func 43) #[] #[.pointer (some ⟨Bf63x1, 0, none⟩), .pointer (some ⟨Cf63x1, 0, none⟩)])).heap[d0.heap.size]? = some (.cells #[.nilFunc] 48 (0, 0))) := Lib.hid ((Below.heap_setCell _ _ _ _ (Ne.symm hUV)).trans hV)
            have HF1 : Hid (CovV (d67x3.setCell ⟨d63x1.heap.size, 0, none⟩ (.func (.func 43) #[] #[.pointer (some ⟨Bf63x1, 0, none⟩), .pointer (some ⟨Cf63x1, 0, none⟩)])) (.func (.func 43) #[] #[.pointer (some ⟨Bf63x1, 0, none⟩), .pointer (some ⟨Cf63x1, 0, none⟩)]) _ _ _ _) := Lib.hid (HCF.out.set hU)
            have HG1 : Hid (CovV (d67x3.setCell ⟨d63x1.heap.size, 0, none⟩ (.func (.func 43) #[] #[.pointer (some ⟨Bf63x1, 0, none⟩), .pointer (some ⟨Cf63x1, 0, none⟩)])) (.func (.func 43) #[] #[.pointer (some ⟨Bf67x3, 0, none⟩), .pointer (some ⟨Cf67x3, 0, none⟩)]) _ _ _ _) := Lib.hid (HCG.out.set hU)
            have HT1 : Hid (Below w0.heap.size w0 (d67x3.setCell ⟨d63x1.heap.size, 0, none⟩ (.func (.func 43) #[] #[.pointer (some ⟨Bf63x1, 0, none⟩), .pointer (some ⟨Cf63x1, 0, none⟩)]))) := Lib.hid (HT.out.setCell hUw _)
            clear hU hV HT HCF HCG
            refine onH 6 (oi := ?_) (by kernel_rfl) ?_ ?_ (fun K hK => ?_); rotate_left; (simp only [gA, gB, gC]; exact rfl); rfl
            go_wp2_with (fail)
            refine hK.out _ _ ⟨heap_keep HT1.out HA.out, heap_keep HT1.out HB.out⟩ (fun hHeld => ?_)
            clear hK K hHeld
            try simp only [Act.put, pB, pC, pD]
            generalize (d67x3.setCell ⟨d63x1.heap.size, 0, none⟩ (.func (.func 43) #[] #[.pointer (some ⟨Bf63x1, 0, none⟩), .pointer (some ⟨Cf63x1, 0, none⟩)])) = e0 at *
            have hV := HV1.out
            have cV68 : e0.cell? ⟨d0.heap.size, 0, none⟩ = some .nilFunc := cell_of hV rfl
            have fV68 : e0.frozen? ⟨d0.heap.size, 0, none⟩ = false := frozen_of hV
            have HU2 : Hid ((e0.setCell ⟨d0.heap.size, 0, none⟩ (.func (.func 43) #[] #[.pointer (some ⟨Bf67x3, 0, none⟩), .pointer (some ⟨Cf67x3, 0, none⟩)])).heap[d63x1.heap.size]? = some (.cells #[(.func (.func 43) #[] #[.pointer (some ⟨Bf63x1, 0, none⟩), .pointer (some ⟨Cf63x1, 0, none⟩)])] 48 (0, 0))) := Lib.hid ((Below.heap_setCell _ _ _ _ hUV).trans HU1.out)
            have HV2 : Hid ((e0.setCell ⟨d0.heap.size, 0, none⟩ (.func (.func 43) #[] #[.pointer (some ⟨Bf67x3, 0, none⟩), .pointer (some ⟨Cf67x3, 0, none⟩)])).heap[d0.heap.size]? = some (.cells #[(.func (.func 43) #[] #[.pointer (some ⟨Bf67x3, 0, none⟩), .pointer (some ⟨Cf67x3, 0, none⟩)])] 48 (0, 0))) := Lib.hid (set1 hV)
            have HF2 : Hid (CovV (e0.setCell ⟨d0.heap.size, 0, none⟩ (.func (.func 43) #[] #[.pointer (some ⟨Bf67x3, 0, none⟩), .pointer (some ⟨Cf67x3, 0, none⟩)])) (.func (.func 43) #[] #[.pointer (some ⟨Bf63x1, 0, none⟩), .pointer (some ⟨Cf63x1, 0, none⟩)]) _ _ _ _) := Lib.hid (HF1.out.set hV)
            have HG2 : Hid (CovV (e0.setCell ⟨d0.heap.size, 0, none⟩ (.func (.func 43) #[] #[.pointer (some ⟨Bf67x3, 0, none⟩), .pointer (some ⟨Cf67x3, 0, none⟩)])) (.func (.func 43) #[] #[.pointer (some ⟨Bf67x3, 0, none⟩), .pointer (some ⟨Cf67x3, 0, none⟩)]) _ _ _ _) := Lib.hid (HG1.out.set hV)
            have HT2 : Hid (Below w0.heap.size w0 (e0.setCell ⟨d0.heap.size, 0, none⟩ (.func (.func 43) #[] #[.pointer (some ⟨Bf67x3, 0, none⟩), .pointer (some ⟨Cf67x3, 0, none⟩)]))) := Lib.hid (HT1.out.setCell hVw _)
            clear hV HT1 HF1 HG1 HU1 HV1
            refine onH 7 (oi := ?_) (by kernel_rfl) ?_ ?_ (fun K hK => ?_); rotate_left; (simp only [gA, gB, gC]; exact rfl); rfl
            go_wp2_with (fail)
            refine hK.out _ _ ⟨heap_keep HT2.out HA.out, heap_keep HT2.out HB.out⟩ (fun hHeld => ?_)
            clear hK K hHeld
            try simp only [Act.put, pB, pC, pD]
            refine wpAnyH_done (by kernel_rfl) ?_ _
            go_wp2_with (fail)
            go_meet
            exact ⟨_, _, rfl, rfl, ⟨_, _, HU2.out, HV2.out, HF2.out, HG2.out⟩, HT2.out⟩
          exact AllReadyH.nil
        exact AllReadyH.nil
      refine coH 4 (oi := ?_) ?_ ?_ (fun K hK => ?_) ?_; rotate_left; (simp only [gA, gB, gC]; exact rfl); rfl
      · go_wp2_with (fail)
        have hb : Below d37x5.heap.size d37x5 (d37x5.alloc (.cells #[.nilFunc] 48)) := (Below.refl _ _).alloc (Nat.le_refl _) _
        have hnew : (d37x5.alloc (.cells #[.nilFunc] 48)).heap[d37x5.heap.size]? = some (.cells #[.nilFunc] 48 (0, 0)) := heap_new rfl
        have hnw : w0.heap.size ≤ d37x5.heap.size := HT.out.size
        have hne : ∀ X o, d37x5.heap[X]? = some o → X ≠ d37x5.heap.size := fun X o h e => by have := lt_of_heap h; omega
        generalize (d37x5.alloc (.cells #[.nilFunc] 48)) = d63x4 at *
        have HTn := Lib.hid (HT.out.trans (hb.mono HT.out.size))
        replace HT := HTn
        clear HTn
        have hUV : d37x5.heap.size ≠ d0.heap.size := fun e => hne _ _ hV e.symm
        have hU := hnew
        have hUw := hnw
        replace hV := heap_keep hb hV
        clear hb hnew hnw hne
        refine hK.out _ _ ⟨heap_keep HT.out HA.out, heap_keep HT.out HB.out⟩ (fun hHeld => ?_)
        clear hK K hHeld
        try simp only [Act.put, pB, pC, pD]
        refine wpAnyH_ready (rs := [1]) (by kernel_rfl) (by simp) ?_
        refine coH 1 (oi := ?_) ?_ ?_ (fun K hK => ?_) ?_; rotate_left; (simp only [gA, gB, gC]; exact rfl); rfl
        · go_wp2_with (fail)
          refine (covers_any a c _ HV1.out (HR1.out.kept HT.out)).mono ?_
          rintro e d69x1 ⟨f69x1, rfl, hcv, hb⟩
          obtain ⟨Bf69x1, Cf69x1, rfl⟩ := hcv.isfunc
          have HN := Lib.hid hcv
          clear hcv
          go_wp2_with (fail)
          have HTn := Lib.hid (HT.out.trans (hb.mono HT.out.size))
          replace HT := HTn
          clear HTn
          have HCF := HN
          replace hU := heap_keep hb hU
          replace hV := heap_keep hb hV
          clear hb HN
          refine hK.out _ _ ⟨heap_keep HT.out HA.out, heap_keep HT.out HB.out⟩ (fun hHeld => ?_)
          clear hK K hHeld
          try simp only [Act.put, pB, pC, pD]
          refine wpAnyH_ready (rs := [3]) (by kernel_rfl) (by simp) ?_
          refine coH 3 (oi := ?_) ?_ ?_ (fun K hK => ?_) ?_; rotate_left; (simp only [gA, gB, gC]; exact rfl); rfl
          · go_wp2_with (fail)
            refine (covers_any a' c' _ HV2.out (HR2.out.kept HT.out)).mono ?_
            rintro e d70x3 ⟨f70x3, rfl, hcv, hb⟩
            obtain ⟨Bf70x3, Cf70x3, rfl⟩ := hcv.isfunc
            have HN := Lib.hid hcv
            clear hcv
            go_wp2_with (fail)
            have HTn := Lib.hid (HT.out.trans (hb.mono HT.out.size))
            replace HT := HTn
            clear HTn
            replace HCF := Lib.hid (HCF.out.kept hb)
            have HCG := HN
            replace hU := heap_keep hb hU
            replace hV := heap_keep hb hV
            clear hb HN
            refine hK.out _ _ ⟨heap_keep HT.out HA.out, heap_keep HT.out HB.out⟩ (fun hHeld => ?_)
            clear hK K hHeld
            try simp only [Act.put, pB, pC, pD]
            have hlU71 := lt_of_heap hU
            have hlV71 := lt_of_heap hV
            have cU71 : d70x3.cell? ⟨d37x5.heap.size, 0, none⟩ = some .nilFunc := cell_of hU rfl
            have fU71 : d70x3.frozen? ⟨d37x5.heap.size, 0, none⟩ = false := frozen_of hU
            have HU1 : Hid ((d70x3.setCell ⟨d37x5.heap.size, 0, none⟩ (.func (.func 43) #[] #[.pointer (some ⟨Bf69x1, 0, none⟩), .pointer (some ⟨Cf69x1, 0, none⟩)])).heap[d37x5.heap.size]? = some (.cells #[(.func (.func 43) #[] #[.pointer (some ⟨Bf69x1, 0, none⟩), .pointer (some ⟨Cf69x1, 0, none⟩)])] 48 (0, 0))) := Lib.hid (set1 hU)
            have HV1 : Hid ((d70x3.setCell ⟨d37x5.heap.size, 0, none⟩ (.func (.func 43) #[] #[.pointer (some ⟨Bf69x1, 0, none⟩), .pointer (some ⟨Cf69x1, 0, none⟩)])).heap[d0.heap.size]? = some (.cells #[.nilFunc] 48 (0, 0))) := Lib.hid ((Below.heap_setCell _ _ _ _ (Ne.symm hUV)).trans hV)
            have HF1 : Hid (CovV (d70x3.setCell ⟨d37x5.heap.size, 0, none⟩ (.func (.func 43) #[] #[.pointer (some ⟨Bf69x1, 0, none⟩), .pointer (some ⟨Cf69x1, 0, none⟩)])) (.func (.func 43) #[] #[.pointer (some ⟨Bf69x1, 0, none⟩), .pointer (some ⟨Cf69x1, 0, none⟩)]) _ _ _ _) := Lib.hid (HCF.out.set hU)
            have HG1 : Hid (CovV (d70x3.setCell ⟨d37x5.heap.size, 0, none⟩ (.func (.func 43) #[] #[.pointer (some ⟨Bf69x1, 0, none⟩), .pointer (some ⟨Cf69x1, 0, none⟩)])) (.func (.func 43) #[] #[.pointer (some ⟨Bf70x3, 0, none⟩), .pointer (some ⟨Cf70x3, 0, none⟩)]) _ _ _ _) := Lib.hid (HCG.out.set hU)
            have HT1 : Hid (Below w0.heap.size w0 (d70x3.setCell ⟨d37x5.heap.size, 0, none⟩ (.func (.func 43) #[] #[.pointer (some ⟨Bf69x1, 0, none⟩), .pointer (some ⟨Cf69x1, 0, none⟩)]))) := Lib.hid (HT.out.setCell hUw _)
            clear hU hV HT HCF HCG
            refine onH 6 (oi := ?_) (by kernel_rfl) ?_ ?_ (fun K hK => ?_); rotate_left; (simp only [gA, gB, gC]; exact rfl); rfl
            go_wp2_with (fail)
            refine hK.out _ _ ⟨heap_keep HT1.out HA.out, heap_keep HT1.out HB.out⟩ (fun hHeld => ?_)
            clear hK K hHeld
            try simp only [Act.put, pB, pC, pD]
            generalize (d70x3.setCell ⟨d37x5.heap.size, 0, none⟩ (.func (.func 43) #[] #[.pointer (some ⟨Bf69x1, 0, none⟩), .pointer (some ⟨Cf69x1, 0, none⟩)])) = e0 at *
            have hV := HV1.out
            have cV71 : e0.cell? ⟨d0.heap.size, 0, none⟩ = some .nilFunc := cell_of hV rfl
            have fV71 : e0.frozen? ⟨d0.heap.size, 0, none⟩ = false := frozen_of hV
            have HU2 : Hid ((e0.setCell ⟨d0.heap.size, 0, none⟩ (.func (.func 43) #[] #[.pointer (some ⟨Bf70x3, 0, none⟩), .pointer (some ⟨Cf70x3, 0, none⟩)])).heap[d37x5.heap.size]? = some (.cells #[(.func (.func 43) #[] #[.pointer (some ⟨Bf69x1, 0, none⟩), .pointer (some ⟨Cf69x1, 0, none⟩)])] 48 (0, 0))) := Lib.hid ((Below.heap_setCell _ _ _ _ hUV).trans HU1.out)
            have HV2 : Hid ((e0.setCell ⟨d0.heap.size, 0, none⟩ (.func (.func 43) #[] #[.pointer (some ⟨Bf70x3, 0, none⟩), .pointer (some ⟨Cf70x3, 0, none⟩)])).heap[d0.heap.size]? = some (.cells #[(.func (.func 43) #[] #[.pointer (some ⟨Bf70x3, 0, none⟩), .pointer (some ⟨Cf70x3, 0, none⟩)])] 48 (0, 0))) := Lib.hid (set1 hV)
            have HF2 : Hid (CovV (e0.setCell ⟨d0.heap.size, 0, none⟩ (.func (.func 43) #[] #[.pointer (some ⟨Bf70x3, 0, none⟩), .pointer (some ⟨Cf70x3, 0, none⟩)])) (.func (.func 43) #[] #[.pointer (some ⟨Bf69x1, 0, none⟩), .pointer (some ⟨Cf69x1, 0, none⟩)]) _ _ _ _) := Lib.hid (HF1.out.set hV)
            have HG2 : Hid (CovV (e0.setCell ⟨d0.heap.size, 0, none⟩ (.func (.func 43) #[] #[.pointer (some ⟨Bf70x3, 0, none⟩), .pointer (some ⟨Cf70x3, 0, none⟩)])) (.func (.func 43) #[] #[.pointer (some ⟨Bf70x3, 0, none⟩), .pointer (some ⟨Cf70x3, 0, none⟩)]) _ _ _ _) := Lib.hid (HG1.out.set hV)
            have HT2 : Hid (Below w0.heap.size w0 (e0.setCell ⟨d0.heap.size, 0, none⟩ (.func (.func 43) #[] #[.pointer (some ⟨Bf70x3, 0, none⟩), .pointer (some ⟨Cf70x3, 0, none⟩)]))) := Lib.hid (HT1.out.setCell hVw _)
            clear hV HT1 HF1 HG1 HU1 HV1
            refine onH 7 (oi := ?_) (by kernel_rfl) ?_ ?_ (fun K hK => ?_); rotate_left; (simp only [gA, gB, gC]; exact rfl); rfl
            go_wp2_with (fail)
            refine hK.out _ _ ⟨heap_keep HT2.out HA.out, heap_keep HT2.out HB.out⟩ (fun hHeld => ?_)
            clear hK K hHeld
            try simp only [Act.put, pB, pC, pD]
            refine wpAnyH_done (by kernel_rfl) ?_ _
            go_wp2_with (fail)
            go_meet
            exact ⟨_, _, rfl, rfl, ⟨_, _, HU2.out, HV2.out, HF2.out, HG2.out⟩, HT2.out⟩
          exact AllReadyH.nil
        exact AllReadyH.nil
      exact AllReadyH.nil
    exact AllReadyH.nil
  case rest =>
    obtain ⟨U, V, rfl, rfl, hpair, hbx⟩ := hcut
    have hHA := heap_keep hbx HA.out
    have hHB := heap_keep hbx HB.out
    have hHZ := heap_keep hbx HZ.out
    have HWx := Lib.hid (HW0.out.trans (hbx.mono HW0.out.size))
    replace HR1 := Lib.hid (HR1.out.kept hbx)
    replace HR2 := Lib.hid (HR2.out.kept hbx)
    clear HA HB HZ HW HW0 hbx
    have HA := Lib.hid hHA
    have HB := Lib.hid hHB
    have HZ := Lib.hid hHZ
    clear hHA hHB hHZ
    go_wp2_with (fail)
    have hlz := lt_of_heap HZ.out
    refine wp_region_held_drew (S := (fun w' => w'.heap[w.heap.size]? = some (.cells #[.int .i64 s, .int .i64 x, .int .i64 y, .slice a n c] 28 (0, 0)) ∧ w'.heap[w.heap.size + 1]? = some (.cells #[.int .i64 s', .int .i64 x', .int .i64 y', .slice a' n' c'] 28 (0, 0)))) (by kernel_rfl) ⟨HA.out, HB.out⟩ (fun hHeld => ?_)
    refine tkH (by assumption) 0 (oi := ?_) (v := ?_) ?_ ?_ ?_ ?_ ?_ ?_ ?_ ?_; rotate_left 2; (simp only [gA, gB, gC]; exact rfl); kernel_rfl; kernel_rfl; kernel_rfl; exact fun _ _ _ h => h; rfl; (intro w' hSw; go_simp; with_reducible rfl); simp only [Act.put, pB, pC, pD]
    refine tkH (by assumption) 1 (oi := ?_) (v := ?_) ?_ ?_ ?_ ?_ ?_ ?_ ?_ ?_; rotate_left 2; (simp only [gA, gB, gC]; exact rfl); kernel_rfl; kernel_rfl; kernel_rfl; exact fun _ _ _ h => h; rfl; (intro w' hSw; obtain ⟨hs1, hs2⟩ := hSw; have z0 := cell_of (i := 0) hs1 rfl; have z1 := cell_of (i := 1) hs1 rfl; have z2 := cell_of (i := 2) hs1 rfl; have z3 := cell_of (i := 3) hs1 rfl; clear hs1 hs2; go_simp; with_reducible rfl); simp only [Act.put, pB, pC, pD]
    refine tkH (by assumption) 2 (oi := ?_) (v := ?_) ?_ ?_ ?_ ?_ ?_ ?_ ?_ ?_; rotate_left 2; (simp only [gA, gB, gC]; exact rfl); kernel_rfl; kernel_rfl; kernel_rfl; exact fun _ _ _ h => h; rfl; (intro w' hSw; obtain ⟨hs1, hs2⟩ := hSw; have z0 := cell_of (i := 0) hs1 rfl; have z1 := cell_of (i := 1) hs1 rfl; have z2 := cell_of (i := 2) hs1 rfl; have z3 := cell_of (i := 3) hs1 rfl; clear hs1 hs2; go_simp; with_reducible rfl); simp only [Act.put, pB, pC, pD]
    refine tkH (by assumption) 4 (oi := ?_) (v := ?_) ?_ ?_ ?_ ?_ ?_ ?_ ?_ ?_; rotate_left 2; (simp only [gA, gB, gC]; exact rfl); kernel_rfl; kernel_rfl; kernel_rfl; exact fun _ _ _ h => h; rfl; (intro w' hSw; go_simp; with_reducible rfl); simp only [Act.put, pB, pC, pD]
    clear hHeld
    have HT : Hid (Below wc.heap.size wc wc.drew) := Lib.hid (Below.refl _ _).drew
    have HP := Lib.hid (hpair.kept (Below.refl _ _).drew)
    clear hpair
    generalize wc.drew = g0 at *
    refine onH 3 (oi := ?_) (by kernel_rfl) ?_ ?_ (fun K hK => ?_); rotate_left; (simp only [gA, gB, gC]; exact rfl); rfl
    go_wp2_with (fail)
    refine (boxOf_any a c _ HV1.out (HR1.out.kept HT.out)).mono ?_
    rintro e g1 ⟨rfl, hb⟩
    obtain ⟨o1, o2, o3, o4, o5, o6⟩ := own_box HV1.out HPI.out
    have O5 := Lib.hid o5
    have O6 := Lib.hid o6
    clear o5 o6
    replace HT := Lib.hid (HT.out.trans (hb.mono HT.out.size))
    replace HP := Lib.hid (HP.out.kept hb)
    clear hb
    go_wp2_with (fail)
    refine hK.out _ _ ⟨heap_keep HT.out HA.out, heap_keep HT.out HB.out⟩ (fun hHeld => ?_)
    clear hK K hHeld
    try simp only [Act.put, pB, pC, pD]
    refine onH 5 (oi := ?_) (by kernel_rfl) ?_ ?_ (fun K hK => ?_); rotate_left; (simp only [gA, gB, gC]; exact rfl); rfl
    go_wp2_with (fail)
    refine (drawnBoth_any U V P s _ _ _ _ _ HP.out HPQ.out o1 o2 o3 o4 HV1.out.s2 HV1.out.st O5.out O6.out).mono ?_
    rintro e g4 ⟨ez, ex, ey, ea, en, ec, eR, eE, rfl, hare, hrow, hfr, hn1, hn2, hn3, hb⟩
    have hg3 := HT.out.size
    replace HT := Lib.hid (HT.out.trans (hb.mono HT.out.size))
    replace HP := Lib.hid (HP.out.kept hb)
    clear hb
    go_wp2_with (fail)
    refine hK.out _ _ ⟨heap_keep HT.out HA.out, heap_keep HT.out HB.out⟩ (fun hHeld => ?_)
    clear hK K  
    try simp only [Act.put, pB, pC, pD]
    refine tkH (by assumption) 6 (oi := ?_) (v := ?_) ?_ ?_ ?_ ?_ ?_ ?_ ?_ ?_; rotate_left 2; (simp only [gA, gB, gC]; exact rfl); kernel_rfl; kernel_rfl; kernel_rfl; exact fun _ _ _ h => h; rfl; (intro w' hSw; go_simp; with_reducible rfl); simp only [Act.put, pB, pC, pD]
    refine tkH (by assumption) 7 (oi := ?_) (v := ?_) ?_ ?_ ?_ ?_ ?_ ?_ ?_ ?_; rotate_left 2; (simp only [gA, gB, gC]; exact rfl); kernel_rfl; kernel_rfl; kernel_rfl; exact fun _ _ _ h => h; rfl; (intro w' hSw; go_simp; with_reducible rfl); simp only [Act.put, pB, pC, pD]
    have hz := heap_keep HT.out HZ.out
    have z0 : g4.cell? ⟨w.heap.size + 1 + 1, 0, none⟩ = some (.int .i64 0) := cell_of hz rfl
    have zf0 : g4.frozen? ⟨w.heap.size + 1 + 1, 0, none⟩ = false := frozen_of hz
    have z1 : g4.cell? ⟨w.heap.size + 1 + 1, 1, none⟩ = some (.int .i64 0) := cell_of hz rfl
    have zf1 : g4.frozen? ⟨w.heap.size + 1 + 1, 1, none⟩ = false := frozen_of hz
    have z2 : g4.cell? ⟨w.heap.size + 1 + 1, 2, none⟩ = some (.int .i64 0) := cell_of hz rfl
    have zf2 : g4.frozen? ⟨w.heap.size + 1 + 1, 2, none⟩ = false := frozen_of hz
    have z3 : g4.cell? ⟨w.heap.size + 1 + 1, 3, none⟩ = some (.slice none 0 0) := cell_of hz rfl
    have zf3 : g4.frozen? ⟨w.heap.size + 1 + 1, 3, none⟩ = false := frozen_of hz
    have HA4 : Hid (((((g4.setCell ⟨w.heap.size + 1 + 1, 0, none⟩ (.int .i64 ez)).setCell ⟨w.heap.size + 1 + 1, 1, none⟩ (.int .i64 ex)).setCell ⟨w.heap.size + 1 + 1, 2, none⟩ (.int .i64 ey)).setCell ⟨w.heap.size + 1 + 1, 3, none⟩ (.slice ea en ec)).heap[w.heap.size]? = some (.cells #[.int .i64 s, .int .i64 x, .int .i64 y, .slice a n c] 28 (0, 0))) := Lib.hid ((keep4 (by omega)).trans (heap_keep HT.out HA.out))
    have HB4 : Hid (((((g4.setCell ⟨w.heap.size + 1 + 1, 0, none⟩ (.int .i64 ez)).setCell ⟨w.heap.size + 1 + 1, 1, none⟩ (.int .i64 ex)).setCell ⟨w.heap.size + 1 + 1, 2, none⟩ (.int .i64 ey)).setCell ⟨w.heap.size + 1 + 1, 3, none⟩ (.slice ea en ec)).heap[w.heap.size + 1]? = some (.cells #[.int .i64 s', .int .i64 x', .int .i64 y', .slice a' n' c'] 28 (0, 0))) := Lib.hid ((keep4 (by omega)).trans (heap_keep HT.out HB.out))
    have HWB := Lib.hid (HWx.out.trans (HT.out.mono HWx.out.size))
    have hne : ∀ b off, ea = some ⟨b, off, none⟩ → b ≠ w.heap.size + 1 + 1 := fun b off h => by have := hfr b off h; omega
    have HARE := Lib.hid hare
    have HFR := Lib.hid (fun b off h => Nat.le_trans (Nat.le_trans HWx.out.size hg3) (hfr b off h))
    have HRW : Hid (RowS ((((g4.setCell ⟨w.heap.size + 1 + 1, 0, none⟩ (.int .i64 ez)).setCell ⟨w.heap.size + 1 + 1, 1, none⟩ (.int .i64 ex)).setCell ⟨w.heap.size + 1 + 1, 2, none⟩ (.int .i64 ey)).setCell ⟨w.heap.size + 1 + 1, 3, none⟩ (.slice ea en ec)) ea en eR) := Lib.hid ((((hrow.set _ _ hne).set _ _ hne).set _ _ hne).set _ _ hne)
    have HN3 := Lib.hid hn3
    clear hz hne hrow hfr hare hn3
    refine onH 8 (oi := ?_) (by kernel_rfl) ?_ ?_ (fun K hK => ?_); rotate_left; (simp only [gA, gB, gC]; exact rfl); rfl
    go_wp2_with (fail)
    refine hK.out _ _ ⟨HA4.out, HB4.out⟩ (fun hHeld => ?_)
    clear hK K HA4 HB4
    try simp only [Act.put, pB, pC, pD]
    refine tkH (by assumption) 9 (oi := ?_) (v := ?_) ?_ ?_ ?_ ?_ ?_ ?_ ?_ ?_; rotate_left 2; (simp only [gA, gB, gC]; exact rfl); kernel_rfl; kernel_rfl; kernel_rfl; exact fun _ _ _ h => h; rfl; (intro w' hSw; go_simp; with_reducible rfl); simp only [Act.put, pB, pC, pD]
    refine wpAnyH_done (by kernel_rfl) ?_ _
    go_wp2_with (fail)
    obtain ⟨r0, r1, r2, r3⟩ := set4 (w := g4) (R := w.heap.size + 1 + 1) (x0 := (.int .i64 ez)) (x1 := (.int .i64 ex)) (x2 := (.int .i64 ey)) (x3 := (.slice ea en ec)) (is4 (is_some z0) (is_some z1) (is_some z2) (is_some z3)) rfl
    have HF : Hid (Below w.heap.size w ((((g4.setCell ⟨w.heap.size + 1 + 1, 0, none⟩ (.int .i64 ez)).setCell ⟨w.heap.size + 1 + 1, 1, none⟩ (.int .i64 ex)).setCell ⟨w.heap.size + 1 + 1, 2, none⟩ (.int .i64 ey)).setCell ⟨w.heap.size + 1 + 1, 3, none⟩ (.slice ea en ec))) := Lib.hid ((((HWB.out.setCell (by show _ ≤ w.heap.size + 1 + 1; omega) _).setCell (by show _ ≤ w.heap.size + 1 + 1; omega) _).setCell (by show _ ≤ w.heap.size + 1 + 1; omega) _).setCell (by show _ ≤ w.heap.size + 1 + 1; omega) _)
    generalize ((((g4.setCell ⟨w.heap.size + 1 + 1, 0, none⟩ (.int .i64 ez)).setCell ⟨w.heap.size + 1 + 1, 1, none⟩ (.int .i64 ex)).setCell ⟨w.heap.size + 1 + 1, 2, none⟩ (.int .i64 ey)).setCell ⟨w.heap.size + 1 + 1, 3, none⟩ (.slice ea en ec)) = WW at *
    exact bodyPost_ret (v := .tuple #[.agg #[.int .i64 ez, .int .i64 ex, .int .i64 ey, .slice ea en ec], .int .i64 eE]) (by simp [results, Tryz.results10, go_sem, r0, r1, r2, r3]) rfl ⟨ez, ex, ey, ea, en, ec, eR, eE, rfl, HARE.out, HRW.out, HFR.out, hn1, hn2, HN3.out, HF.out⟩
end Go.Proofs.YtllagjncibfcmaaGreatDoor

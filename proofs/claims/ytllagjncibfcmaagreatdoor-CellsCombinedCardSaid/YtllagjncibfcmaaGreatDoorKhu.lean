/- Union of two cells. -/
import Derived.Test.YtllagjncibfcmaaGreatDoorKj
set_option linter.unusedSimpArgs false
set_option linter.unusedVariables false
namespace Go.Proofs.YtllagjncibfcmaaGreatDoor
open Go.RowKit

set_option maxRecDepth 100000 in
set_option maxHeartbeats 16000000 in
theorem twoUnion_any (s x y : Int) (a : Option Addr) (n c : Nat) (R : Nat → List UInt8) (s' x' y' : Int) (a' : Option Addr) (n' c' : Nat) (R' : Nat → List UInt8) (w : World) (cx cy dx dy : Int) (m m' : Nat) (hv1 : VC s x y n R cx cy m) (hv2 : VC s' x' y' n' R' dx dy m') (P : Int → Int → Bool) (hPQ : ∀ p q, P p q = (covB cx cy n R p q || covB dx dy n' R' p q)) (hPI : ∀ p q, P p q = true ↔ covB cx cy n R p q = true ∨ covB dx dy n' R' p q = true) (hr : RowS w a n R) (hr' : RowS w a' n' R') (hl : ∀ i, i < n → (R i).length ≤ 1000000) (hn : n ≤ 1000000) (hl' : ∀ i, i < n' → (R' i).length ≤ 1000000) (hn' : n' ≤ 1000000) (h0 : combE s x y n R s' x' y' n' R' = 0) :
    Calls Tryz.prog 8 #[.agg #[.int .i64 s, .int .i64 x, .int .i64 y, .slice a n c], .agg #[.int .i64 s', .int .i64 x', .int .i64 y', .slice a' n' c']] w (CellsRes P s w) := by
  have HE := Lib.hid h0
  have HPQ := Lib.hid hPQ
  have HPI := Lib.hid hPI
  have HRa := Lib.hid hr
  have HRb := Lib.hid hr'
  have HLa := Lib.hid hl
  have HLb := Lib.hid hl'
  have HV1 := Lib.hid hv1
  have HV2 := Lib.hid hv2
  clear hr hr' h0 hl hl' hv1 hv2 hPQ hPI
  go_enter Tryz.func8, Tryz.ntmps8
  go_wp2_with (fail)
  have HW : Hid (Below w.heap.size w (((w.alloc (.cells #[.int .i64 s, .int .i64 x, .int .i64 y, .slice a n c] 28)).alloc (.cells #[.int .i64 s', .int .i64 x', .int .i64 y', .slice a' n' c'] 28)).alloc (.cells #[.int .i64 0, .int .i64 0, .int .i64 0, .slice none 0 0] 28))) := Lib.hid (by repeat (first | exact Below.refl _ _ | assumption | refine Below.drew ?_ | refine bdrewN ?_ _ | refine Below.setCell ?_ (by first | omega | (simp <;> omega)) _ | refine Below.alloc ?_ (by first | omega | (simp <;> omega)) _))
  have HA : Hid ((((w.alloc (.cells #[.int .i64 s, .int .i64 x, .int .i64 y, .slice a n c] 28)).alloc (.cells #[.int .i64 s', .int .i64 x', .int .i64 y', .slice a' n' c'] 28)).alloc (.cells #[.int .i64 0, .int .i64 0, .int .i64 0, .slice none 0 0] 28)).heap[w.heap.size]? = some (.cells #[.int .i64 s, .int .i64 x, .int .i64 y, .slice a n c] 28 (0, 0))) := Lib.hid (by repeat (first | (refine heap_new ?_; first | rfl | (simp; done)) | rw [Below.heap_alloc _ _ _ (by simp <;> omega)]))
  have HB : Hid ((((w.alloc (.cells #[.int .i64 s, .int .i64 x, .int .i64 y, .slice a n c] 28)).alloc (.cells #[.int .i64 s', .int .i64 x', .int .i64 y', .slice a' n' c'] 28)).alloc (.cells #[.int .i64 0, .int .i64 0, .int .i64 0, .slice none 0 0] 28)).heap[w.heap.size + 1]? = some (.cells #[.int .i64 s', .int .i64 x', .int .i64 y', .slice a' n' c'] 28 (0, 0))) := Lib.hid (by repeat (first | (refine heap_new ?_; first | rfl | (simp; done)) | rw [Below.heap_alloc _ _ _ (by simp <;> omega)]))
  have HZ : Hid ((((w.alloc (.cells #[.int .i64 s, .int .i64 x, .int .i64 y, .slice a n c] 28)).alloc (.cells #[.int .i64 s', .int .i64 x', .int .i64 y', .slice a' n' c'] 28)).alloc (.cells #[.int .i64 0, .int .i64 0, .int .i64 0, .slice none 0 0] 28)).heap[w.heap.size + 1 + 1]? = some (.cells #[.int .i64 0, .int .i64 0, .int .i64 0, .slice none 0 0] 28 (0, 0))) := Lib.hid (by repeat (first | (refine heap_new ?_; first | rfl | (simp; done)) | rw [Below.heap_alloc _ _ _ (by simp <;> omega)]))
  generalize (((w.alloc (.cells #[.int .i64 s, .int .i64 x, .int .i64 y, .slice a n c] 28)).alloc (.cells #[.int .i64 s', .int .i64 x', .int .i64 y', .slice a' n' c'] 28)).alloc (.cells #[.int .i64 0, .int .i64 0, .int .i64 0, .slice none 0 0] 28)) = v0 at *
  refine (checkBoth_any s x y a n c R s' x' y' a' n' c' R' _ (HRa.out.kept HW.out) HLa.out hn (HRb.out.kept HW.out) HLb.out hn').mono ?_
  rintro e w0 ⟨rfl, hb⟩
  rw [HE.out]
  replace HA := Lib.hid (heap_keep hb HA.out)
  replace HB := Lib.hid (heap_keep hb HB.out)
  replace HZ := Lib.hid (heap_keep hb HZ.out)
  have HW0 := Lib.hid (HW.out.trans (hb.mono HW.out.size))
  have HR1 := Lib.hid (HRa.out.kept HW0.out)
  have HR2 := Lib.hid (HRb.out.kept HW0.out)
  clear hb
  go_upto_region 4 with (fail)
  go_cut [7, 8] from 16 to 20 (TwoE w0 cx cy n R dx dy n' R')
  case first =>
    refine wp_region_held_drew (S := (fun w' => w'.heap[w.heap.size]? = some (.cells #[.int .i64 s, .int .i64 x, .int .i64 y, .slice a n c] 28 (0, 0)) ∧ w'.heap[w.heap.size + 1]? = some (.cells #[.int .i64 s', .int .i64 x', .int .i64 y', .slice a' n' c'] 28 (0, 0)))) (by kernel_rfl) ⟨HA.out, HB.out⟩ (fun hHeld => ?_)
    refine tkH (by assumption) 0 (oi := ?_) (v := ?_) ?_ ?_ ?_ ?_ ?_ ?_ ?_ ?_; rotate_left 2; (simp only [gA, gB, gC]; exact rfl); kernel_rfl; kernel_rfl; kernel_rfl; exact fun _ _ _ h => h; rfl; (intro w' hSw; obtain ⟨hs1, hs2⟩ := hSw; have z0 := cell_of (i := 0) hs1 rfl; have z1 := cell_of (i := 1) hs1 rfl; have z2 := cell_of (i := 2) hs1 rfl; have z3 := cell_of (i := 3) hs1 rfl; clear hs1 hs2; go_simp; with_reducible rfl); simp only [Act.put, pB, pC, pD]
    refine tkH (by assumption) 2 (oi := ?_) (v := ?_) ?_ ?_ ?_ ?_ ?_ ?_ ?_ ?_; rotate_left 2; (simp only [gA, gB, gC]; exact rfl); kernel_rfl; kernel_rfl; kernel_rfl; exact fun _ _ _ h => h; rfl; (intro w' hSw; obtain ⟨hs1, hs2⟩ := hSw; have z0 := cell_of (i := 0) hs2 rfl; have z1 := cell_of (i := 1) hs2 rfl; have z2 := cell_of (i := 2) hs2 rfl; have z3 := cell_of (i := 3) hs2 rfl; clear hs1 hs2; go_simp; with_reducible rfl); simp only [Act.put, pB, pC, pD]
    clear hHeld
    have HT : Hid (Below w0.heap.size w0 w0.drew) := Lib.hid (Below.refl _ _).drew
    generalize w0.drew = d0 at *
    refine wpAnyH_ready (rs := [1, 4, 5]) (by kernel_rfl) (by simp) ?_
    refine coH 1 (oi := ?_) ?_ ?_ (fun K hK => ?_) ?_; rotate_left; (simp only [gA, gB, gC]; exact rfl); rfl
    · go_wp2_with (fail)
      refine (covers_any a c _ HV1.out (HR1.out.kept HT.out)).mono ?_
      rintro e d1x1 ⟨f1x1, rfl, hcv, hb⟩
      obtain ⟨Bf1x1, Cf1x1, rfl⟩ := hcv.isfunc
      have HN := Lib.hid hcv
      clear hcv
      go_wp2_with (fail)
      have HTn := Lib.hid (HT.out.trans (hb.mono HT.out.size))
      replace HT := HTn
      clear HTn
      have HCF := HN
      clear hb HN
      refine hK.out _ _ ⟨heap_keep HT.out HA.out, heap_keep HT.out HB.out⟩ (fun hHeld => ?_)
      clear hK K hHeld
      try simp only [Act.put, pB, pC, pD]
      refine wpAnyH_ready (rs := [3, 4, 5]) (by kernel_rfl) (by simp) ?_
      refine coH 3 (oi := ?_) ?_ ?_ (fun K hK => ?_) ?_; rotate_left; (simp only [gA, gB, gC]; exact rfl); rfl
      · go_wp2_with (fail)
        refine (covers_any a' c' _ HV2.out (HR2.out.kept HT.out)).mono ?_
        rintro e d2x3 ⟨f2x3, rfl, hcv, hb⟩
        obtain ⟨Bf2x3, Cf2x3, rfl⟩ := hcv.isfunc
        have HN := Lib.hid hcv
        clear hcv
        go_wp2_with (fail)
        have HTn := Lib.hid (HT.out.trans (hb.mono HT.out.size))
        replace HT := HTn
        clear HTn
        replace HCF := Lib.hid (HCF.out.kept hb)
        have HCG := HN
        clear hb HN
        refine hK.out _ _ ⟨heap_keep HT.out HA.out, heap_keep HT.out HB.out⟩ (fun hHeld => ?_)
        clear hK K hHeld
        try simp only [Act.put, pB, pC, pD]
        refine wpAnyH_ready (rs := [4, 5]) (by kernel_rfl) (by simp) ?_
        refine coH 4 (oi := ?_) ?_ ?_ (fun K hK => ?_) ?_; rotate_left; (simp only [gA, gB, gC]; exact rfl); rfl
        · go_wp2_with (fail)
          have hb : Below d2x3.heap.size d2x3 (d2x3.alloc (.cells #[.nilFunc] 48)) := (Below.refl _ _).alloc (Nat.le_refl _) _
          have hnew : (d2x3.alloc (.cells #[.nilFunc] 48)).heap[d2x3.heap.size]? = some (.cells #[.nilFunc] 48 (0, 0)) := heap_new rfl
          have hnw : w0.heap.size ≤ d2x3.heap.size := HT.out.size
          have hne : ∀ X o, d2x3.heap[X]? = some o → X ≠ d2x3.heap.size := fun X o h e => by have := lt_of_heap h; omega
          generalize (d2x3.alloc (.cells #[.nilFunc] 48)) = d3x4 at *
          have HTn := Lib.hid (HT.out.trans (hb.mono HT.out.size))
          replace HT := HTn
          clear HTn
          replace HCF := Lib.hid (HCF.out.kept hb)
          replace HCG := Lib.hid (HCG.out.kept hb)
          have hU := hnew
          have hUw := hnw
          clear hb hnew hnw hne
          refine hK.out _ _ ⟨heap_keep HT.out HA.out, heap_keep HT.out HB.out⟩ (fun hHeld => ?_)
          clear hK K hHeld
          try simp only [Act.put, pB, pC, pD]
          refine wpAnyH_ready (rs := [5]) (by kernel_rfl) (by simp) ?_
          refine coH 5 (oi := ?_) ?_ ?_ (fun K hK => ?_) ?_; rotate_left; (simp only [gA, gB, gC]; exact rfl); rfl
          · go_wp2_with (fail)
            have hb : Below d3x4.heap.size d3x4 (d3x4.alloc (.cells #[.nilFunc] 48)) := (Below.refl _ _).alloc (Nat.le_refl _) _
            have hnew : (d3x4.alloc (.cells #[.nilFunc] 48)).heap[d3x4.heap.size]? = some (.cells #[.nilFunc] 48 (0, 0)) := heap_new rfl
            have hnw : w0.heap.size ≤ d3x4.heap.size := HT.out.size
            have hne : ∀ X o, d3x4.heap[X]? = some o → X ≠ d3x4.heap.size := fun X o h e => by have := lt_of_heap h; omega
            generalize (d3x4.alloc (.cells #[.nilFunc] 48)) = d4x5 at *
            have HTn := Lib.hid (HT.out.trans (hb.mono HT.out.size))
            replace HT := HTn
            clear HTn
            replace HCF := Lib.hid (HCF.out.kept hb)
            replace HCG := Lib.hid (HCG.out.kept hb)
            have hUV : d2x3.heap.size ≠ d3x4.heap.size := fun e => hne _ _ hU e
            have hV := hnew
            have hVw := hnw
            replace hU := heap_keep hb hU
            clear hb hnew hnw hne
            refine hK.out _ _ ⟨heap_keep HT.out HA.out, heap_keep HT.out HB.out⟩ (fun hHeld => ?_)
            clear hK K hHeld
            try simp only [Act.put, pB, pC, pD]
            have hlU5 := lt_of_heap hU
            have hlV5 := lt_of_heap hV
            have cU5 : d4x5.cell? ⟨d2x3.heap.size, 0, none⟩ = some .nilFunc := cell_of hU rfl
            have fU5 : d4x5.frozen? ⟨d2x3.heap.size, 0, none⟩ = false := frozen_of hU
            have HU1 : Hid ((d4x5.setCell ⟨d2x3.heap.size, 0, none⟩ (.func (.func 43) #[] #[.pointer (some ⟨Bf1x1, 0, none⟩), .pointer (some ⟨Cf1x1, 0, none⟩)])).heap[d2x3.heap.size]? = some (.cells #[(.func (.func 43) #[] #[.pointer (some ⟨Bf1x1, 0, none⟩), .pointer (some ⟨Cf1x1, 0, none⟩)])] 48 (0, 0))) := Lib.hid (set1 hU)
            have HV1 : Hid ((d4x5.setCell ⟨d2x3.heap.size, 0, none⟩ (.func (.func 43) #[] #[.pointer (some ⟨Bf1x1, 0, none⟩), .pointer (some ⟨Cf1x1, 0, none⟩)])).heap[d3x4.heap.size]? = some (.cells #[.nilFunc] 48 (0, 0))) := Lib.hid ((Below.heap_setCell _ _ _ _ (Ne.symm hUV)).trans hV)
            have HF1 : Hid (CovV (d4x5.setCell ⟨d2x3.heap.size, 0, none⟩ (.func (.func 43) #[] #[.pointer (some ⟨Bf1x1, 0, none⟩), .pointer (some ⟨Cf1x1, 0, none⟩)])) (.func (.func 43) #[] #[.pointer (some ⟨Bf1x1, 0, none⟩), .pointer (some ⟨Cf1x1, 0, none⟩)]) _ _ _ _) := Lib.hid (HCF.out.set hU)
            have HG1 : Hid (CovV (d4x5.setCell ⟨d2x3.heap.size, 0, none⟩ (.func (.func 43) #[] #[.pointer (some ⟨Bf1x1, 0, none⟩), .pointer (some ⟨Cf1x1, 0, none⟩)])) (.func (.func 43) #[] #[.pointer (some ⟨Bf2x3, 0, none⟩), .pointer (some ⟨Cf2x3, 0, none⟩)]) _ _ _ _) := Lib.hid (HCG.out.set hU)
            have HT1 : Hid (Below w0.heap.size w0 (d4x5.setCell ⟨d2x3.heap.size, 0, none⟩ (.func (.func 43) #[] #[.pointer (some ⟨Bf1x1, 0, none⟩), .pointer (some ⟨Cf1x1, 0, none⟩)]))) := Lib.hid (HT.out.setCell hUw _)
            clear hU hV HT HCF HCG
            refine onH 6 (oi := ?_) (by kernel_rfl) ?_ ?_ (fun K hK => ?_); rotate_left; (simp only [gA, gB, gC]; exact rfl); rfl
            go_wp2_with (fail)
            refine hK.out _ _ ⟨heap_keep HT1.out HA.out, heap_keep HT1.out HB.out⟩ (fun hHeld => ?_)
            clear hK K hHeld
            try simp only [Act.put, pB, pC, pD]
            generalize (d4x5.setCell ⟨d2x3.heap.size, 0, none⟩ (.func (.func 43) #[] #[.pointer (some ⟨Bf1x1, 0, none⟩), .pointer (some ⟨Cf1x1, 0, none⟩)])) = e0 at *
            have hV := HV1.out
            have cV5 : e0.cell? ⟨d3x4.heap.size, 0, none⟩ = some .nilFunc := cell_of hV rfl
            have fV5 : e0.frozen? ⟨d3x4.heap.size, 0, none⟩ = false := frozen_of hV
            have HU2 : Hid ((e0.setCell ⟨d3x4.heap.size, 0, none⟩ (.func (.func 43) #[] #[.pointer (some ⟨Bf2x3, 0, none⟩), .pointer (some ⟨Cf2x3, 0, none⟩)])).heap[d2x3.heap.size]? = some (.cells #[(.func (.func 43) #[] #[.pointer (some ⟨Bf1x1, 0, none⟩), .pointer (some ⟨Cf1x1, 0, none⟩)])] 48 (0, 0))) := Lib.hid ((Below.heap_setCell _ _ _ _ hUV).trans HU1.out)
            have HV2 : Hid ((e0.setCell ⟨d3x4.heap.size, 0, none⟩ (.func (.func 43) #[] #[.pointer (some ⟨Bf2x3, 0, none⟩), .pointer (some ⟨Cf2x3, 0, none⟩)])).heap[d3x4.heap.size]? = some (.cells #[(.func (.func 43) #[] #[.pointer (some ⟨Bf2x3, 0, none⟩), .pointer (some ⟨Cf2x3, 0, none⟩)])] 48 (0, 0))) := Lib.hid (set1 hV)
            have HF2 : Hid (CovV (e0.setCell ⟨d3x4.heap.size, 0, none⟩ (.func (.func 43) #[] #[.pointer (some ⟨Bf2x3, 0, none⟩), .pointer (some ⟨Cf2x3, 0, none⟩)])) (.func (.func 43) #[] #[.pointer (some ⟨Bf1x1, 0, none⟩), .pointer (some ⟨Cf1x1, 0, none⟩)]) _ _ _ _) := Lib.hid (HF1.out.set hV)
            have HG2 : Hid (CovV (e0.setCell ⟨d3x4.heap.size, 0, none⟩ (.func (.func 43) #[] #[.pointer (some ⟨Bf2x3, 0, none⟩), .pointer (some ⟨Cf2x3, 0, none⟩)])) (.func (.func 43) #[] #[.pointer (some ⟨Bf2x3, 0, none⟩), .pointer (some ⟨Cf2x3, 0, none⟩)]) _ _ _ _) := Lib.hid (HG1.out.set hV)
            have HT2 : Hid (Below w0.heap.size w0 (e0.setCell ⟨d3x4.heap.size, 0, none⟩ (.func (.func 43) #[] #[.pointer (some ⟨Bf2x3, 0, none⟩), .pointer (some ⟨Cf2x3, 0, none⟩)]))) := Lib.hid (HT1.out.setCell hVw _)
            clear hV HT1 HF1 HG1 HU1 HV1
            refine onH 7 (oi := ?_) (by kernel_rfl) ?_ ?_ (fun K hK => ?_); rotate_left; (simp only [gA, gB, gC]; exact rfl); rfl
            go_wp2_with (fail)
            refine hK.out _ _ ⟨heap_keep HT2.out HA.out, heap_keep HT2.out HB.out⟩ (fun hHeld => ?_)
            clear hK K hHeld
            try simp only [Act.put, pB, pC, pD]
            refine wpAnyH_done (by kernel_rfl) ?_ _
            go_wp2_with (fail)
            go_meet
            exact ⟨_, _, rfl, rfl, ⟨_, _, HU2.out, HV2.out, HF2.out, HG2.out⟩, HT2.out⟩
          exact AllReadyH.nil
        refine coH 5 (oi := ?_) ?_ ?_ (fun K hK => ?_) ?_; rotate_left; (simp only [gA, gB, gC]; exact rfl); rfl
        · go_wp2_with (fail)
          have hb : Below d2x3.heap.size d2x3 (d2x3.alloc (.cells #[.nilFunc] 48)) := (Below.refl _ _).alloc (Nat.le_refl _) _
          have hnew : (d2x3.alloc (.cells #[.nilFunc] 48)).heap[d2x3.heap.size]? = some (.cells #[.nilFunc] 48 (0, 0)) := heap_new rfl
          have hnw : w0.heap.size ≤ d2x3.heap.size := HT.out.size
          have hne : ∀ X o, d2x3.heap[X]? = some o → X ≠ d2x3.heap.size := fun X o h e => by have := lt_of_heap h; omega
          generalize (d2x3.alloc (.cells #[.nilFunc] 48)) = d3x5 at *
          have HTn := Lib.hid (HT.out.trans (hb.mono HT.out.size))
          replace HT := HTn
          clear HTn
          replace HCF := Lib.hid (HCF.out.kept hb)
          replace HCG := Lib.hid (HCG.out.kept hb)
          have hV := hnew
          have hVw := hnw
          clear hb hnew hnw hne
          refine hK.out _ _ ⟨heap_keep HT.out HA.out, heap_keep HT.out HB.out⟩ (fun hHeld => ?_)
          clear hK K hHeld
          try simp only [Act.put, pB, pC, pD]
          refine wpAnyH_ready (rs := [4]) (by kernel_rfl) (by simp) ?_
          refine coH 4 (oi := ?_) ?_ ?_ (fun K hK => ?_) ?_; rotate_left; (simp only [gA, gB, gC]; exact rfl); rfl
          · go_wp2_with (fail)
            have hb : Below d3x5.heap.size d3x5 (d3x5.alloc (.cells #[.nilFunc] 48)) := (Below.refl _ _).alloc (Nat.le_refl _) _
            have hnew : (d3x5.alloc (.cells #[.nilFunc] 48)).heap[d3x5.heap.size]? = some (.cells #[.nilFunc] 48 (0, 0)) := heap_new rfl
            have hnw : w0.heap.size ≤ d3x5.heap.size := HT.out.size
            have hne : ∀ X o, d3x5.heap[X]? = some o → X ≠ d3x5.heap.size := fun X o h e => by have := lt_of_heap h; omega
            generalize (d3x5.alloc (.cells #[.nilFunc] 48)) = d6x4 at *
            have HTn := Lib.hid (HT.out.trans (hb.mono HT.out.size))
            replace HT := HTn
            clear HTn
            replace HCF := Lib.hid (HCF.out.kept hb)
            replace HCG := Lib.hid (HCG.out.kept hb)
            have hUV : d3x5.heap.size ≠ d2x3.heap.size := fun e => hne _ _ hV e.symm
            have hU := hnew
            have hUw := hnw
            replace hV := heap_keep hb hV
            clear hb hnew hnw hne
            refine hK.out _ _ ⟨heap_keep HT.out HA.out, heap_keep HT.out HB.out⟩ (fun hHeld => ?_)
            clear hK K hHeld
            try simp only [Act.put, pB, pC, pD]
            have hlU7 := lt_of_heap hU
            have hlV7 := lt_of_heap hV
            have cU7 : d6x4.cell? ⟨d3x5.heap.size, 0, none⟩ = some .nilFunc := cell_of hU rfl
            have fU7 : d6x4.frozen? ⟨d3x5.heap.size, 0, none⟩ = false := frozen_of hU
            have HU1 : Hid ((d6x4.setCell ⟨d3x5.heap.size, 0, none⟩ (.func (.func 43) #[] #[.pointer (some ⟨Bf1x1, 0, none⟩), .pointer (some ⟨Cf1x1, 0, none⟩)])).heap[d3x5.heap.size]? = some (.cells #[(.func (.func 43) #[] #[.pointer (some ⟨Bf1x1, 0, none⟩), .pointer (some ⟨Cf1x1, 0, none⟩)])] 48 (0, 0))) := Lib.hid (set1 hU)
            have HV1 : Hid ((d6x4.setCell ⟨d3x5.heap.size, 0, none⟩ (.func (.func 43) #[] #[.pointer (some ⟨Bf1x1, 0, none⟩), .pointer (some ⟨Cf1x1, 0, none⟩)])).heap[d2x3.heap.size]? = some (.cells #[.nilFunc] 48 (0, 0))) := Lib.hid ((Below.heap_setCell _ _ _ _ (Ne.symm hUV)).trans hV)
            have HF1 : Hid (CovV (d6x4.setCell ⟨d3x5.heap.size, 0, none⟩ (.func (.func 43) #[] #[.pointer (some ⟨Bf1x1, 0, none⟩), .pointer (some ⟨Cf1x1, 0, none⟩)])) (.func (.func 43) #[] #[.pointer (some ⟨Bf1x1, 0, none⟩), .pointer (some ⟨Cf1x1, 0, none⟩)]) _ _ _ _) := Lib.hid (HCF.out.set hU)
            have HG1 : Hid (CovV (d6x4.setCell ⟨d3x5.heap.size, 0, none⟩ (.func (.func 43) #[] #[.pointer (some ⟨Bf1x1, 0, none⟩), .pointer (some ⟨Cf1x1, 0, none⟩)])) (.func (.func 43) #[] #[.pointer (some ⟨Bf2x3, 0, none⟩), .pointer (some ⟨Cf2x3, 0, none⟩)]) _ _ _ _) := Lib.hid (HCG.out.set hU)
            have HT1 : Hid (Below w0.heap.size w0 (d6x4.setCell ⟨d3x5.heap.size, 0, none⟩ (.func (.func 43) #[] #[.pointer (some ⟨Bf1x1, 0, none⟩), .pointer (some ⟨Cf1x1, 0, none⟩)]))) := Lib.hid (HT.out.setCell hUw _)
            clear hU hV HT HCF HCG
            refine onH 6 (oi := ?_) (by kernel_rfl) ?_ ?_ (fun K hK => ?_); rotate_left; (simp only [gA, gB, gC]; exact rfl); rfl
            go_wp2_with (fail)
            refine hK.out _ _ ⟨heap_keep HT1.out HA.out, heap_keep HT1.out HB.out⟩ (fun hHeld => ?_)
            clear hK K hHeld
            try simp only [Act.put, pB, pC, pD]
            generalize (d6x4.setCell ⟨d3x5.heap.size, 0, none⟩ (.func (.func 43) #[] #[.pointer (some ⟨Bf1x1, 0, none⟩), .pointer (some ⟨Cf1x1, 0, none⟩)])) = e0 at *
            have hV := HV1.out
            have cV7 : e0.cell? ⟨d2x3.heap.size, 0, none⟩ = some .nilFunc := cell_of hV rfl
            have fV7 : e0.frozen? ⟨d2x3.heap.size, 0, none⟩ = false := frozen_of hV
            have HU2 : Hid ((e0.setCell ⟨d2x3.heap.size, 0, none⟩ (.func (.func 43) #[] #[.pointer (some ⟨Bf2x3, 0, none⟩), .pointer (some ⟨Cf2x3, 0, none⟩)])).heap[d3x5.heap.size]? = some (.cells #[(.func (.func 43) #[] #[.pointer (some ⟨Bf1x1, 0, none⟩), .pointer (some ⟨Cf1x1, 0, none⟩)])] 48 (0, 0))) := Lib.hid ((Below.heap_setCell _ _ _ _ hUV).trans HU1.out)
            have HV2 : Hid ((e0.setCell ⟨d2x3.heap.size, 0, none⟩ (.func (.func 43) #[] #[.pointer (some ⟨Bf2x3, 0, none⟩), .pointer (some ⟨Cf2x3, 0, none⟩)])).heap[d2x3.heap.size]? = some (.cells #[(.func (.func 43) #[] #[.pointer (some ⟨Bf2x3, 0, none⟩), .pointer (some ⟨Cf2x3, 0, none⟩)])] 48 (0, 0))) := Lib.hid (set1 hV)
            have HF2 : Hid (CovV (e0.setCell ⟨d2x3.heap.size, 0, none⟩ (.func (.func 43) #[] #[.pointer (some ⟨Bf2x3, 0, none⟩), .pointer (some ⟨Cf2x3, 0, none⟩)])) (.func (.func 43) #[] #[.pointer (some ⟨Bf1x1, 0, none⟩), .pointer (some ⟨Cf1x1, 0, none⟩)]) _ _ _ _) := Lib.hid (HF1.out.set hV)
            have HG2 : Hid (CovV (e0.setCell ⟨d2x3.heap.size, 0, none⟩ (.func (.func 43) #[] #[.pointer (some ⟨Bf2x3, 0, none⟩), .pointer (some ⟨Cf2x3, 0, none⟩)])) (.func (.func 43) #[] #[.pointer (some ⟨Bf2x3, 0, none⟩), .pointer (some ⟨Cf2x3, 0, none⟩)]) _ _ _ _) := Lib.hid (HG1.out.set hV)
            have HT2 : Hid (Below w0.heap.size w0 (e0.setCell ⟨d2x3.heap.size, 0, none⟩ (.func (.func 43) #[] #[.pointer (some ⟨Bf2x3, 0, none⟩), .pointer (some ⟨Cf2x3, 0, none⟩)]))) := Lib.hid (HT1.out.setCell hVw _)
            clear hV HT1 HF1 HG1 HU1 HV1
            refine onH 7 (oi := ?_) (by kernel_rfl) ?_ ?_ (fun K hK => ?_); rotate_left; (simp only [gA, gB, gC]; exact rfl); rfl
            go_wp2_with (fail)
            refine hK.out _ _ ⟨heap_keep HT2.out HA.out, heap_keep HT2.out HB.out⟩ (fun hHeld => ?_)
            clear hK K hHeld
            try simp only [Act.put, pB, pC, pD]
            refine wpAnyH_done (by kernel_rfl) ?_ _
            go_wp2_with (fail)
            go_meet
            exact ⟨_, _, rfl, rfl, ⟨_, _, HU2.out, HV2.out, HF2.out, HG2.out⟩, HT2.out⟩
          exact AllReadyH.nil
        exact AllReadyH.nil
      refine coH 4 (oi := ?_) ?_ ?_ (fun K hK => ?_) ?_; rotate_left; (simp only [gA, gB, gC]; exact rfl); rfl
      · go_wp2_with (fail)
        have hb : Below d1x1.heap.size d1x1 (d1x1.alloc (.cells #[.nilFunc] 48)) := (Below.refl _ _).alloc (Nat.le_refl _) _
        have hnew : (d1x1.alloc (.cells #[.nilFunc] 48)).heap[d1x1.heap.size]? = some (.cells #[.nilFunc] 48 (0, 0)) := heap_new rfl
        have hnw : w0.heap.size ≤ d1x1.heap.size := HT.out.size
        have hne : ∀ X o, d1x1.heap[X]? = some o → X ≠ d1x1.heap.size := fun X o h e => by have := lt_of_heap h; omega
        generalize (d1x1.alloc (.cells #[.nilFunc] 48)) = d2x4 at *
        have HTn := Lib.hid (HT.out.trans (hb.mono HT.out.size))
        replace HT := HTn
        clear HTn
        replace HCF := Lib.hid (HCF.out.kept hb)
        have hU := hnew
        have hUw := hnw
        clear hb hnew hnw hne
        refine hK.out _ _ ⟨heap_keep HT.out HA.out, heap_keep HT.out HB.out⟩ (fun hHeld => ?_)
        clear hK K hHeld
        try simp only [Act.put, pB, pC, pD]
        refine wpAnyH_ready (rs := [3, 5]) (by kernel_rfl) (by simp) ?_
        refine coH 3 (oi := ?_) ?_ ?_ (fun K hK => ?_) ?_; rotate_left; (simp only [gA, gB, gC]; exact rfl); rfl
        · go_wp2_with (fail)
          refine (covers_any a' c' _ HV2.out (HR2.out.kept HT.out)).mono ?_
          rintro e d8x3 ⟨f8x3, rfl, hcv, hb⟩
          obtain ⟨Bf8x3, Cf8x3, rfl⟩ := hcv.isfunc
          have HN := Lib.hid hcv
          clear hcv
          go_wp2_with (fail)
          have HTn := Lib.hid (HT.out.trans (hb.mono HT.out.size))
          replace HT := HTn
          clear HTn
          replace HCF := Lib.hid (HCF.out.kept hb)
          have HCG := HN
          replace hU := heap_keep hb hU
          clear hb HN
          refine hK.out _ _ ⟨heap_keep HT.out HA.out, heap_keep HT.out HB.out⟩ (fun hHeld => ?_)
          clear hK K hHeld
          try simp only [Act.put, pB, pC, pD]
          refine wpAnyH_ready (rs := [5]) (by kernel_rfl) (by simp) ?_
          refine coH 5 (oi := ?_) ?_ ?_ (fun K hK => ?_) ?_; rotate_left; (simp only [gA, gB, gC]; exact rfl); rfl
          · go_wp2_with (fail)
            have hb : Below d8x3.heap.size d8x3 (d8x3.alloc (.cells #[.nilFunc] 48)) := (Below.refl _ _).alloc (Nat.le_refl _) _
            have hnew : (d8x3.alloc (.cells #[.nilFunc] 48)).heap[d8x3.heap.size]? = some (.cells #[.nilFunc] 48 (0, 0)) := heap_new rfl
            have hnw : w0.heap.size ≤ d8x3.heap.size := HT.out.size
            have hne : ∀ X o, d8x3.heap[X]? = some o → X ≠ d8x3.heap.size := fun X o h e => by have := lt_of_heap h; omega
            generalize (d8x3.alloc (.cells #[.nilFunc] 48)) = d9x5 at *
            have HTn := Lib.hid (HT.out.trans (hb.mono HT.out.size))
            replace HT := HTn
            clear HTn
            replace HCF := Lib.hid (HCF.out.kept hb)
            replace HCG := Lib.hid (HCG.out.kept hb)
            have hUV : d1x1.heap.size ≠ d8x3.heap.size := fun e => hne _ _ hU e
            have hV := hnew
            have hVw := hnw
            replace hU := heap_keep hb hU
            clear hb hnew hnw hne
            refine hK.out _ _ ⟨heap_keep HT.out HA.out, heap_keep HT.out HB.out⟩ (fun hHeld => ?_)
            clear hK K hHeld
            try simp only [Act.put, pB, pC, pD]
            have hlU10 := lt_of_heap hU
            have hlV10 := lt_of_heap hV
            have cU10 : d9x5.cell? ⟨d1x1.heap.size, 0, none⟩ = some .nilFunc := cell_of hU rfl
            have fU10 : d9x5.frozen? ⟨d1x1.heap.size, 0, none⟩ = false := frozen_of hU
            have HU1 : Hid ((d9x5.setCell ⟨d1x1.heap.size, 0, none⟩ (.func (.func 43) #[] #[.pointer (some ⟨Bf1x1, 0, none⟩), .pointer (some ⟨Cf1x1, 0, none⟩)])).heap[d1x1.heap.size]? = some (.cells #[(.func (.func 43) #[] #[.pointer (some ⟨Bf1x1, 0, none⟩), .pointer (some ⟨Cf1x1, 0, none⟩)])] 48 (0, 0))) := Lib.hid (set1 hU)
            have HV1 : Hid ((d9x5.setCell ⟨d1x1.heap.size, 0, none⟩ (.func (.func 43) #[] #[.pointer (some ⟨Bf1x1, 0, none⟩), .pointer (some ⟨Cf1x1, 0, none⟩)])).heap[d8x3.heap.size]? = some (.cells #[.nilFunc] 48 (0, 0))) := Lib.hid ((Below.heap_setCell _ _ _ _ (Ne.symm hUV)).trans hV)
            have HF1 : Hid (CovV (d9x5.setCell ⟨d1x1.heap.size, 0, none⟩ (.func (.func 43) #[] #[.pointer (some ⟨Bf1x1, 0, none⟩), .pointer (some ⟨Cf1x1, 0, none⟩)])) (.func (.func 43) #[] #[.pointer (some ⟨Bf1x1, 0, none⟩), .pointer (some ⟨Cf1x1, 0, none⟩)]) _ _ _ _) := Lib.hid (HCF.out.set hU)
            have HG1 : Hid (CovV (d9x5.setCell ⟨d1x1.heap.size, 0, none⟩ (.func (.func 43) #[] #[.pointer (some ⟨Bf1x1, 0, none⟩), .pointer (some ⟨Cf1x1, 0, none⟩)])) (.func (.func 43) #[] #[.pointer (some ⟨Bf8x3, 0, none⟩), .pointer (some ⟨Cf8x3, 0, none⟩)]) _ _ _ _) := Lib.hid (HCG.out.set hU)
            have HT1 : Hid (Below w0.heap.size w0 (d9x5.setCell ⟨d1x1.heap.size, 0, none⟩ (.func (.func 43) #[] #[.pointer (some ⟨Bf1x1, 0, none⟩), .pointer (some ⟨Cf1x1, 0, none⟩)]))) := Lib.hid (HT.out.setCell hUw _)
            clear hU hV HT HCF HCG
            refine onH 6 (oi := ?_) (by kernel_rfl) ?_ ?_ (fun K hK => ?_); rotate_left; (simp only [gA, gB, gC]; exact rfl); rfl
            go_wp2_with (fail)
            refine hK.out _ _ ⟨heap_keep HT1.out HA.out, heap_keep HT1.out HB.out⟩ (fun hHeld => ?_)
            clear hK K hHeld
            try simp only [Act.put, pB, pC, pD]
            generalize (d9x5.setCell ⟨d1x1.heap.size, 0, none⟩ (.func (.func 43) #[] #[.pointer (some ⟨Bf1x1, 0, none⟩), .pointer (some ⟨Cf1x1, 0, none⟩)])) = e0 at *
            have hV := HV1.out
            have cV10 : e0.cell? ⟨d8x3.heap.size, 0, none⟩ = some .nilFunc := cell_of hV rfl
            have fV10 : e0.frozen? ⟨d8x3.heap.size, 0, none⟩ = false := frozen_of hV
            have HU2 : Hid ((e0.setCell ⟨d8x3.heap.size, 0, none⟩ (.func (.func 43) #[] #[.pointer (some ⟨Bf8x3, 0, none⟩), .pointer (some ⟨Cf8x3, 0, none⟩)])).heap[d1x1.heap.size]? = some (.cells #[(.func (.func 43) #[] #[.pointer (some ⟨Bf1x1, 0, none⟩), .pointer (some ⟨Cf1x1, 0, none⟩)])] 48 (0, 0))) := Lib.hid ((Below.heap_setCell _ _ _ _ hUV).trans HU1.out)
            have HV2 : Hid ((e0.setCell ⟨d8x3.heap.size, 0, none⟩ (.func (.func 43) #[] #[.pointer (some ⟨Bf8x3, 0, none⟩), .pointer (some ⟨Cf8x3, 0, none⟩)])).heap[d8x3.heap.size]? = some (.cells #[(.func (.func 43) #[] #[.pointer (some ⟨Bf8x3, 0, none⟩), .pointer (some ⟨Cf8x3, 0, none⟩)])] 48 (0, 0))) := Lib.hid (set1 hV)
            have HF2 : Hid (CovV (e0.setCell ⟨d8x3.heap.size, 0, none⟩ (.func (.func 43) #[] #[.pointer (some ⟨Bf8x3, 0, none⟩), .pointer (some ⟨Cf8x3, 0, none⟩)])) (.func (.func 43) #[] #[.pointer (some ⟨Bf1x1, 0, none⟩), .pointer (some ⟨Cf1x1, 0, none⟩)]) _ _ _ _) := Lib.hid (HF1.out.set hV)
            have HG2 : Hid (CovV (e0.setCell ⟨d8x3.heap.size, 0, none⟩ (.func (.func 43) #[] #[.pointer (some ⟨Bf8x3, 0, none⟩), .pointer (some ⟨Cf8x3, 0, none⟩)])) (.func (.func 43) #[] #[.pointer (some ⟨Bf8x3, 0, none⟩), .pointer (some ⟨Cf8x3, 0, none⟩)]) _ _ _ _) := Lib.hid (HG1.out.set hV)
            have HT2 : Hid (Below w0.heap.size w0 (e0.setCell ⟨d8x3.heap.size, 0, none⟩ (.func (.func 43) #[] #[.pointer (some ⟨Bf8x3, 0, none⟩), .pointer (some ⟨Cf8x3, 0, none⟩)]))) := Lib.hid (HT1.out.setCell hVw _)
            clear hV HT1 HF1 HG1 HU1 HV1
            refine onH 7 (oi := ?_) (by kernel_rfl) ?_ ?_ (fun K hK => ?_); rotate_left; (simp only [gA, gB, gC]; exact rfl); rfl
            go_wp2_with (fail)
            refine hK.out _ _ ⟨heap_keep HT2.out HA.out, heap_keep HT2.out HB.out⟩ (fun hHeld => ?_)
            clear hK K hHeld
            try simp only [Act.put, pB, pC, pD]
            refine wpAnyH_done (by kernel_rfl) ?_ _
            go_wp2_with (fail)
            go_meet
            exact ⟨_, _, rfl, rfl, ⟨_, _, HU2.out, HV2.out, HF2.out, HG2.out⟩, HT2.out⟩
          exact AllReadyH.nil
        refine coH 5 (oi := ?_) ?_ ?_ (fun K hK => ?_) ?_; rotate_left; (simp only [gA, gB, gC]; exact rfl); rfl
        · go_wp2_with (fail)
          have hb : Below d2x4.heap.size d2x4 (d2x4.alloc (.cells #[.nilFunc] 48)) := (Below.refl _ _).alloc (Nat.le_refl _) _
          have hnew : (d2x4.alloc (.cells #[.nilFunc] 48)).heap[d2x4.heap.size]? = some (.cells #[.nilFunc] 48 (0, 0)) := heap_new rfl
          have hnw : w0.heap.size ≤ d2x4.heap.size := HT.out.size
          have hne : ∀ X o, d2x4.heap[X]? = some o → X ≠ d2x4.heap.size := fun X o h e => by have := lt_of_heap h; omega
          generalize (d2x4.alloc (.cells #[.nilFunc] 48)) = d8x5 at *
          have HTn := Lib.hid (HT.out.trans (hb.mono HT.out.size))
          replace HT := HTn
          clear HTn
          replace HCF := Lib.hid (HCF.out.kept hb)
          have hUV : d1x1.heap.size ≠ d2x4.heap.size := fun e => hne _ _ hU e
          have hV := hnew
          have hVw := hnw
          replace hU := heap_keep hb hU
          clear hb hnew hnw hne
          refine hK.out _ _ ⟨heap_keep HT.out HA.out, heap_keep HT.out HB.out⟩ (fun hHeld => ?_)
          clear hK K hHeld
          try simp only [Act.put, pB, pC, pD]
          refine wpAnyH_ready (rs := [3]) (by kernel_rfl) (by simp) ?_
          refine coH 3 (oi := ?_) ?_ ?_ (fun K hK => ?_) ?_; rotate_left; (simp only [gA, gB, gC]; exact rfl); rfl
          · go_wp2_with (fail)
            refine (covers_any a' c' _ HV2.out (HR2.out.kept HT.out)).mono ?_
            rintro e d11x3 ⟨f11x3, rfl, hcv, hb⟩
            obtain ⟨Bf11x3, Cf11x3, rfl⟩ := hcv.isfunc
            have HN := Lib.hid hcv
            clear hcv
            go_wp2_with (fail)
            have HTn := Lib.hid (HT.out.trans (hb.mono HT.out.size))
            replace HT := HTn
            clear HTn
            replace HCF := Lib.hid (HCF.out.kept hb)
            have HCG := HN
            replace hU := heap_keep hb hU
            replace hV := heap_keep hb hV
            clear hb HN
            refine hK.out _ _ ⟨heap_keep HT.out HA.out, heap_keep HT.out HB.out⟩ (fun hHeld => ?_)
            clear hK K hHeld
            try simp only [Act.put, pB, pC, pD]
            have hlU12 := lt_of_heap hU
            have hlV12 := lt_of_heap hV
            have cU12 : d11x3.cell? ⟨d1x1.heap.size, 0, none⟩ = some .nilFunc := cell_of hU rfl
            have fU12 : d11x3.frozen? ⟨d1x1.heap.size, 0, none⟩ = false := frozen_of hU
            have HU1 : Hid ((d11x3.setCell ⟨d1x1.heap.size, 0, none⟩ (.func (.func 43) #[] #[.pointer (some ⟨Bf1x1, 0, none⟩), .pointer (some ⟨Cf1x1, 0, none⟩)])).heap[d1x1.heap.size]? = some (.cells #[(.func (.func 43) #[] #[.pointer (some ⟨Bf1x1, 0, none⟩), .pointer (some ⟨Cf1x1, 0, none⟩)])] 48 (0, 0))) := Lib.hid (set1 hU)
            have HV1 : Hid ((d11x3.setCell ⟨d1x1.heap.size, 0, none⟩ (.func (.func 43) #[] #[.pointer (some ⟨Bf1x1, 0, none⟩), .pointer (some ⟨Cf1x1, 0, none⟩)])).heap[d2x4.heap.size]? = some (.cells #[.nilFunc] 48 (0, 0))) := Lib.hid ((Below.heap_setCell _ _ _ _ (Ne.symm hUV)).trans hV)
            have HF1 : Hid (CovV (d11x3.setCell ⟨d1x1.heap.size, 0, none⟩ (.func (.func 43) #[] #[.pointer (some ⟨Bf1x1, 0, none⟩), .pointer (some ⟨Cf1x1, 0, none⟩)])) (.func (.func 43) #[] #[.pointer (some ⟨Bf1x1, 0, none⟩), .pointer (some ⟨Cf1x1, 0, none⟩)]) _ _ _ _) := Lib.hid (HCF.out.set hU)
            have HG1 : Hid (CovV (d11x3.setCell ⟨d1x1.heap.size, 0, none⟩ (.func (.func 43) #[] #[.pointer (some ⟨Bf1x1, 0, none⟩), .pointer (some ⟨Cf1x1, 0, none⟩)])) (.func (.func 43) #[] #[.pointer (some ⟨Bf11x3, 0, none⟩), .pointer (some ⟨Cf11x3, 0, none⟩)]) _ _ _ _) := Lib.hid (HCG.out.set hU)
            have HT1 : Hid (Below w0.heap.size w0 (d11x3.setCell ⟨d1x1.heap.size, 0, none⟩ (.func (.func 43) #[] #[.pointer (some ⟨Bf1x1, 0, none⟩), .pointer (some ⟨Cf1x1, 0, none⟩)]))) := Lib.hid (HT.out.setCell hUw _)
            clear hU hV HT HCF HCG
            refine onH 6 (oi := ?_) (by kernel_rfl) ?_ ?_ (fun K hK => ?_); rotate_left; (simp only [gA, gB, gC]; exact rfl); rfl
            go_wp2_with (fail)
            refine hK.out _ _ ⟨heap_keep HT1.out HA.out, heap_keep HT1.out HB.out⟩ (fun hHeld => ?_)
            clear hK K hHeld
            try simp only [Act.put, pB, pC, pD]
            generalize (d11x3.setCell ⟨d1x1.heap.size, 0, none⟩ (.func (.func 43) #[] #[.pointer (some ⟨Bf1x1, 0, none⟩), .pointer (some ⟨Cf1x1, 0, none⟩)])) = e0 at *
            have hV := HV1.out
            have cV12 : e0.cell? ⟨d2x4.heap.size, 0, none⟩ = some .nilFunc := cell_of hV rfl
            have fV12 : e0.frozen? ⟨d2x4.heap.size, 0, none⟩ = false := frozen_of hV
            have HU2 : Hid ((e0.setCell ⟨d2x4.heap.size, 0, none⟩ (.func (.func 43) #[] #[.pointer (some ⟨Bf11x3, 0, none⟩), .pointer (some ⟨Cf11x3, 0, none⟩)])).heap[d1x1.heap.size]? = some (.cells #[(.func (.func 43) #[] #[.pointer (some ⟨Bf1x1, 0, none⟩), .pointer (some ⟨Cf1x1, 0, none⟩)])] 48 (0, 0))) := Lib.hid ((Below.heap_setCell _ _ _ _ hUV).trans HU1.out)
            have HV2 : Hid ((e0.setCell ⟨d2x4.heap.size, 0, none⟩ (.func (.func 43) #[] #[.pointer (some ⟨Bf11x3, 0, none⟩), .pointer (some ⟨Cf11x3, 0, none⟩)])).heap[d2x4.heap.size]? = some (.cells #[(.func (.func 43) #[] #[.pointer (some ⟨Bf11x3, 0, none⟩), .pointer (some ⟨Cf11x3, 0, none⟩)])] 48 (0, 0))) := Lib.hid (set1 hV)
            have HF2 : Hid (CovV (e0.setCell ⟨d2x4.heap.size, 0, none⟩ (.func (.func 43) #[] #[.pointer (some ⟨Bf11x3, 0, none⟩), .pointer (some ⟨Cf11x3, 0, none⟩)])) (.func (.func 43) #[] #[.pointer (some ⟨Bf1x1, 0, none⟩), .pointer (some ⟨Cf1x1, 0, none⟩)]) _ _ _ _) := Lib.hid (HF1.out.set hV)
            have HG2 : Hid (CovV (e0.setCell ⟨d2x4.heap.size, 0, none⟩ (.func (.func 43) #[] #[.pointer (some ⟨Bf11x3, 0, none⟩), .pointer (some ⟨Cf11x3, 0, none⟩)])) (.func (.func 43) #[] #[.pointer (some ⟨Bf11x3, 0, none⟩), .pointer (some ⟨Cf11x3, 0, none⟩)]) _ _ _ _) := Lib.hid (HG1.out.set hV)
            have HT2 : Hid (Below w0.heap.size w0 (e0.setCell ⟨d2x4.heap.size, 0, none⟩ (.func (.func 43) #[] #[.pointer (some ⟨Bf11x3, 0, none⟩), .pointer (some ⟨Cf11x3, 0, none⟩)]))) := Lib.hid (HT1.out.setCell hVw _)
            clear hV HT1 HF1 HG1 HU1 HV1
            refine onH 7 (oi := ?_) (by kernel_rfl) ?_ ?_ (fun K hK => ?_); rotate_left; (simp only [gA, gB, gC]; exact rfl); rfl
            go_wp2_with (fail)
            refine hK.out _ _ ⟨heap_keep HT2.out HA.out, heap_keep HT2.out HB.out⟩ (fun hHeld => ?_)
            clear hK K hHeld
            try simp only [Act.put, pB, pC, pD]
            refine wpAnyH_done (by kernel_rfl) ?_ _
            go_wp2_with (fail)
            go_meet
            exact ⟨_, _, rfl, rfl, ⟨_, _, HU2.out, HV2.out, HF2.out, HG2.out⟩, HT2.out⟩
          exact AllReadyH.nil
        exact AllReadyH.nil
      refine coH 5 (oi := ?_) ?_ ?_ (fun K hK => ?_) ?_; rotate_left; (simp only [gA, gB, gC]; exact rfl); rfl
      · go_wp2_with (fail)
        have hb : Below d1x1.heap.size d1x1 (d1x1.alloc (.cells #[.nilFunc] 48)) := (Below.refl _ _).alloc (Nat.le_refl _) _
        have hnew : (d1x1.alloc (.cells #[.nilFunc] 48)).heap[d1x1.heap.size]? = some (.cells #[.nilFunc] 48 (0, 0)) := heap_new rfl
        have hnw : w0.heap.size ≤ d1x1.heap.size := HT.out.size
        have hne : ∀ X o, d1x1.heap[X]? = some o → X ≠ d1x1.heap.size := fun X o h e => by have := lt_of_heap h; omega
        generalize (d1x1.alloc (.cells #[.nilFunc] 48)) = d2x5 at *
        have HTn := Lib.hid (HT.out.trans (hb.mono HT.out.size))
        replace HT := HTn
        clear HTn
        replace HCF := Lib.hid (HCF.out.kept hb)
        have hV := hnew
        have hVw := hnw
        clear hb hnew hnw hne
        refine hK.out _ _ ⟨heap_keep HT.out HA.out, heap_keep HT.out HB.out⟩ (fun hHeld => ?_)
        clear hK K hHeld
        try simp only [Act.put, pB, pC, pD]
        refine wpAnyH_ready (rs := [3, 4]) (by kernel_rfl) (by simp) ?_
        refine coH 3 (oi := ?_) ?_ ?_ (fun K hK => ?_) ?_; rotate_left; (simp only [gA, gB, gC]; exact rfl); rfl
        · go_wp2_with (fail)
          refine (covers_any a' c' _ HV2.out (HR2.out.kept HT.out)).mono ?_
          rintro e d13x3 ⟨f13x3, rfl, hcv, hb⟩
          obtain ⟨Bf13x3, Cf13x3, rfl⟩ := hcv.isfunc
          have HN := Lib.hid hcv
          clear hcv
          go_wp2_with (fail)
          have HTn := Lib.hid (HT.out.trans (hb.mono HT.out.size))
          replace HT := HTn
          clear HTn
          replace HCF := Lib.hid (HCF.out.kept hb)
          have HCG := HN
          replace hV := heap_keep hb hV
          clear hb HN
          refine hK.out _ _ ⟨heap_keep HT.out HA.out, heap_keep HT.out HB.out⟩ (fun hHeld => ?_)
          clear hK K hHeld
          try simp only [Act.put, pB, pC, pD]
          refine wpAnyH_ready (rs := [4]) (by kernel_rfl) (by simp) ?_
          refine coH 4 (oi := ?_) ?_ ?_ (fun K hK => ?_) ?_; rotate_left; (simp only [gA, gB, gC]; exact rfl); rfl
          · go_wp2_with (fail)
            have hb : Below d13x3.heap.size d13x3 (d13x3.alloc (.cells #[.nilFunc] 48)) := (Below.refl _ _).alloc (Nat.le_refl _) _
            have hnew : (d13x3.alloc (.cells #[.nilFunc] 48)).heap[d13x3.heap.size]? = some (.cells #[.nilFunc] 48 (0, 0)) := heap_new rfl
            have hnw : w0.heap.size ≤ d13x3.heap.size := HT.out.size
            have hne : ∀ X o, d13x3.heap[X]? = some o → X ≠ d13x3.heap.size := fun X o h e => by have := lt_of_heap h; omega
            generalize (d13x3.alloc (.cells #[.nilFunc] 48)) = d14x4 at *
            have HTn := Lib.hid (HT.out.trans (hb.mono HT.out.size))
            replace HT := HTn
            clear HTn
            replace HCF := Lib.hid (HCF.out.kept hb)
            replace HCG := Lib.hid (HCG.out.kept hb)
            have hUV : d13x3.heap.size ≠ d1x1.heap.size := fun e => hne _ _ hV e.symm
            have hU := hnew
            have hUw := hnw
            replace hV := heap_keep hb hV
            clear hb hnew hnw hne
            refine hK.out _ _ ⟨heap_keep HT.out HA.out, heap_keep HT.out HB.out⟩ (fun hHeld => ?_)
            clear hK K hHeld
            try simp only [Act.put, pB, pC, pD]
            have hlU15 := lt_of_heap hU
            have hlV15 := lt_of_heap hV
            have cU15 : d14x4.cell? ⟨d13x3.heap.size, 0, none⟩ = some .nilFunc := cell_of hU rfl
            have fU15 : d14x4.frozen? ⟨d13x3.heap.size, 0, none⟩ = false := frozen_of hU
            have HU1 : Hid ((d14x4.setCell ⟨d13x3.heap.size, 0, none⟩ (.func (.func 43) #[] #[.pointer (some ⟨Bf1x1, 0, none⟩), .pointer (some ⟨Cf1x1, 0, none⟩)])).heap[d13x3.heap.size]? = some (.cells #[(.func (.func 43) #[] #[.pointer (some ⟨Bf1x1, 0, none⟩), .pointer (some ⟨Cf1x1, 0, none⟩)])] 48 (0, 0))) := Lib.hid (set1 hU)
            have HV1 : Hid ((d14x4.setCell ⟨d13x3.heap.size, 0, none⟩ (.func (.func 43) #[] #[.pointer (some ⟨Bf1x1, 0, none⟩), .pointer (some ⟨Cf1x1, 0, none⟩)])).heap[d1x1.heap.size]? = some (.cells #[.nilFunc] 48 (0, 0))) := Lib.hid ((Below.heap_setCell _ _ _ _ (Ne.symm hUV)).trans hV)
            have HF1 : Hid (CovV (d14x4.setCell ⟨d13x3.heap.size, 0, none⟩ (.func (.func 43) #[] #[.pointer (some ⟨Bf1x1, 0, none⟩), .pointer (some ⟨Cf1x1, 0, none⟩)])) (.func (.func 43) #[] #[.pointer (some ⟨Bf1x1, 0, none⟩), .pointer (some ⟨Cf1x1, 0, none⟩)]) _ _ _ _) := Lib.hid (HCF.out.set hU)
            have HG1 : Hid (CovV (d14x4.setCell ⟨d13x3.heap.size, 0, none⟩ (.func (.func 43) #[] #[.pointer (some ⟨Bf1x1, 0, none⟩), .pointer (some ⟨Cf1x1, 0, none⟩)])) (.func (.func 43) #[] #[.pointer (some ⟨Bf13x3, 0, none⟩), .pointer (some ⟨Cf13x3, 0, none⟩)]) _ _ _ _) := Lib.hid (HCG.out.set hU)
            have HT1 : Hid (Below w0.heap.size w0 (d14x4.setCell ⟨d13x3.heap.size, 0, none⟩ (.func (.func 43) #[] #[.pointer (some ⟨Bf1x1, 0, none⟩), .pointer (some ⟨Cf1x1, 0, none⟩)]))) := Lib.hid (HT.out.setCell hUw _)
            clear hU hV HT HCF HCG
            refine onH 6 (oi := ?_) (by kernel_rfl) ?_ ?_ (fun K hK => ?_); rotate_left; (simp only [gA, gB, gC]; exact rfl); rfl
            go_wp2_with (fail)
            refine hK.out _ _ ⟨heap_keep HT1.out HA.out, heap_keep HT1.out HB.out⟩ (fun hHeld => ?_)
            clear hK K hHeld
            try simp only [Act.put, pB, pC, pD]
            generalize (d14x4.setCell ⟨d13x3.heap.size, 0, none⟩ (.func (.func 43) #[] #[.pointer (some ⟨Bf1x1, 0, none⟩), .pointer (some ⟨Cf1x1, 0, none⟩)])) = e0 at *
            have hV := HV1.out
            have cV15 : e0.cell? ⟨d1x1.heap.size, 0, none⟩ = some .nilFunc := cell_of hV rfl
            have fV15 : e0.frozen? ⟨d1x1.heap.size, 0, none⟩ = false := frozen_of hV
            have HU2 : Hid ((e0.setCell ⟨d1x1.heap.size, 0, none⟩ (.func (.func 43) #[] #[.pointer (some ⟨Bf13x3, 0, none⟩), .pointer (some ⟨Cf13x3, 0, none⟩)])).heap[d13x3.heap.size]? = some (.cells #[(.func (.func 43) #[] #[.pointer (some ⟨Bf1x1, 0, none⟩), .pointer (some ⟨Cf1x1, 0, none⟩)])] 48 (0, 0))) := Lib.hid ((Below.heap_setCell _ _ _ _ hUV).trans HU1.out)
            have HV2 : Hid ((e0.setCell ⟨d1x1.heap.size, 0, none⟩ (.func (.func 43) #[] #[.pointer (some ⟨Bf13x3, 0, none⟩), .pointer (some ⟨Cf13x3, 0, none⟩)])).heap[d1x1.heap.size]? = some (.cells #[(.func (.func 43) #[] #[.pointer (some ⟨Bf13x3, 0, none⟩), .pointer (some ⟨Cf13x3, 0, none⟩)])] 48 (0, 0))) := Lib.hid (set1 hV)
            have HF2 : Hid (CovV (e0.setCell ⟨d1x1.heap.size, 0, none⟩ (.func (.func 43) #[] #[.pointer (some ⟨Bf13x3, 0, none⟩), .pointer (some ⟨Cf13x3, 0, none⟩)])) (.func (.func 43) #[] #[.pointer (some ⟨Bf1x1, 0, none⟩), .pointer (some ⟨Cf1x1, 0, none⟩)]) _ _ _ _) := Lib.hid (HF1.out.set hV)
            have HG2 : Hid (CovV (e0.setCell ⟨d1x1.heap.size, 0, none⟩ (.func (.func 43) #[] #[.pointer (some ⟨Bf13x3, 0, none⟩), .pointer (some ⟨Cf13x3, 0, none⟩)])) (.func (.func 43) #[] #[.pointer (some ⟨Bf13x3, 0, none⟩), .pointer (some ⟨Cf13x3, 0, none⟩)]) _ _ _ _) := Lib.hid (HG1.out.set hV)
            have HT2 : Hid (Below w0.heap.size w0 (e0.setCell ⟨d1x1.heap.size, 0, none⟩ (.func (.func 43) #[] #[.pointer (some ⟨Bf13x3, 0, none⟩), .pointer (some ⟨Cf13x3, 0, none⟩)]))) := Lib.hid (HT1.out.setCell hVw _)
            clear hV HT1 HF1 HG1 HU1 HV1
            refine onH 7 (oi := ?_) (by kernel_rfl) ?_ ?_ (fun K hK => ?_); rotate_left; (simp only [gA, gB, gC]; exact rfl); rfl
            go_wp2_with (fail)
            refine hK.out _ _ ⟨heap_keep HT2.out HA.out, heap_keep HT2.out HB.out⟩ (fun hHeld => ?_)
            clear hK K hHeld
            try simp only [Act.put, pB, pC, pD]
            refine wpAnyH_done (by kernel_rfl) ?_ _
            go_wp2_with (fail)
            go_meet
            exact ⟨_, _, rfl, rfl, ⟨_, _, HU2.out, HV2.out, HF2.out, HG2.out⟩, HT2.out⟩
          exact AllReadyH.nil
        refine coH 4 (oi := ?_) ?_ ?_ (fun K hK => ?_) ?_; rotate_left; (simp only [gA, gB, gC]; exact rfl); rfl
        · go_wp2_with (fail)
          have hb : Below d2x5.heap.size d2x5 (d2x5.alloc (.cells #[.nilFunc] 48)) := (Below.refl _ _).alloc (Nat.le_refl _) _
          have hnew : (d2x5.alloc (.cells #[.nilFunc] 48)).heap[d2x5.heap.size]? = some (.cells #[.nilFunc] 48 (0, 0)) := heap_new rfl
          have hnw : w0.heap.size ≤ d2x5.heap.size := HT.out.size
          have hne : ∀ X o, d2x5.heap[X]? = some o → X ≠ d2x5.heap.size := fun X o h e => by have := lt_of_heap h; omega
          generalize (d2x5.alloc (.cells #[.nilFunc] 48)) = d13x4 at *
          have HTn := Lib.hid (HT.out.trans (hb.mono HT.out.size))
          replace HT := HTn
          clear HTn
          replace HCF := Lib.hid (HCF.out.kept hb)
          have hUV : d2x5.heap.size ≠ d1x1.heap.size := fun e => hne _ _ hV e.symm
          have hU := hnew
          have hUw := hnw
          replace hV := heap_keep hb hV
          clear hb hnew hnw hne
          refine hK.out _ _ ⟨heap_keep HT.out HA.out, heap_keep HT.out HB.out⟩ (fun hHeld => ?_)
          clear hK K hHeld
          try simp only [Act.put, pB, pC, pD]
          refine wpAnyH_ready (rs := [3]) (by kernel_rfl) (by simp) ?_
          refine coH 3 (oi := ?_) ?_ ?_ (fun K hK => ?_) ?_; rotate_left; (simp only [gA, gB, gC]; exact rfl); rfl
          · go_wp2_with (fail)
            refine (covers_any a' c' _ HV2.out (HR2.out.kept HT.out)).mono ?_
            rintro e d16x3 ⟨f16x3, rfl, hcv, hb⟩
            obtain ⟨Bf16x3, Cf16x3, rfl⟩ := hcv.isfunc
            have HN := Lib.hid hcv
            clear hcv
            go_wp2_with (fail)
            have HTn := Lib.hid (HT.out.trans (hb.mono HT.out.size))
            replace HT := HTn
            clear HTn
            replace HCF := Lib.hid (HCF.out.kept hb)
            have HCG := HN
            replace hU := heap_keep hb hU
            replace hV := heap_keep hb hV
            clear hb HN
            refine hK.out _ _ ⟨heap_keep HT.out HA.out, heap_keep HT.out HB.out⟩ (fun hHeld => ?_)
            clear hK K hHeld
            try simp only [Act.put, pB, pC, pD]
            have hlU17 := lt_of_heap hU
            have hlV17 := lt_of_heap hV
            have cU17 : d16x3.cell? ⟨d2x5.heap.size, 0, none⟩ = some .nilFunc := cell_of hU rfl
            have fU17 : d16x3.frozen? ⟨d2x5.heap.size, 0, none⟩ = false := frozen_of hU
            have HU1 : Hid ((d16x3.setCell ⟨d2x5.heap.size, 0, none⟩ (.func (.func 43) #[] #[.pointer (some ⟨Bf1x1, 0, none⟩), .pointer (some ⟨Cf1x1, 0, none⟩)])).heap[d2x5.heap.size]? = some (.cells #[(.func (.func 43) #[] #[.pointer (some ⟨Bf1x1, 0, none⟩), .pointer (some ⟨Cf1x1, 0, none⟩)])] 48 (0, 0))) := Lib.hid (set1 hU)
            have HV1 : Hid ((d16x3.setCell ⟨d2x5.heap.size, 0, none⟩ (.func (.func 43) #[] #[.pointer (some ⟨Bf1x1, 0, none⟩), .pointer (some ⟨Cf1x1, 0, none⟩)])).heap[d1x1.heap.size]? = some (.cells #[.nilFunc] 48 (0, 0))) := Lib.hid ((Below.heap_setCell _ _ _ _ (Ne.symm hUV)).trans hV)
            have HF1 : Hid (CovV (d16x3.setCell ⟨d2x5.heap.size, 0, none⟩ (.func (.func 43) #[] #[.pointer (some ⟨Bf1x1, 0, none⟩), .pointer (some ⟨Cf1x1, 0, none⟩)])) (.func (.func 43) #[] #[.pointer (some ⟨Bf1x1, 0, none⟩), .pointer (some ⟨Cf1x1, 0, none⟩)]) _ _ _ _) := Lib.hid (HCF.out.set hU)
            have HG1 : Hid (CovV (d16x3.setCell ⟨d2x5.heap.size, 0, none⟩ (.func (.func 43) #[] #[.pointer (some ⟨Bf1x1, 0, none⟩), .pointer (some ⟨Cf1x1, 0, none⟩)])) (.func (.func 43) #[] #[.pointer (some ⟨Bf16x3, 0, none⟩), .pointer (some ⟨Cf16x3, 0, none⟩)]) _ _ _ _) := Lib.hid (HCG.out.set hU)
            have HT1 : Hid (Below w0.heap.size w0 (d16x3.setCell ⟨d2x5.heap.size, 0, none⟩ (.func (.func 43) #[] #[.pointer (some ⟨Bf1x1, 0, none⟩), .pointer (some ⟨Cf1x1, 0, none⟩)]))) := Lib.hid (HT.out.setCell hUw _)
            clear hU hV HT HCF HCG
            refine onH 6 (oi := ?_) (by kernel_rfl) ?_ ?_ (fun K hK => ?_); rotate_left; (simp only [gA, gB, gC]; exact rfl); rfl
            go_wp2_with (fail)
            refine hK.out _ _ ⟨heap_keep HT1.out HA.out, heap_keep HT1.out HB.out⟩ (fun hHeld => ?_)
            clear hK K hHeld
            try simp only [Act.put, pB, pC, pD]
            generalize (d16x3.setCell ⟨d2x5.heap.size, 0, none⟩ (.func (.func 43) #[] #[.pointer (some ⟨Bf1x1, 0, none⟩), .pointer (some ⟨Cf1x1, 0, none⟩)])) = e0 at *
            have hV := HV1.out
            have cV17 : e0.cell? ⟨d1x1.heap.size, 0, none⟩ = some .nilFunc := cell_of hV rfl
            have fV17 : e0.frozen? ⟨d1x1.heap.size, 0, none⟩ = false := frozen_of hV
            have HU2 : Hid ((e0.setCell ⟨d1x1.heap.size, 0, none⟩ (.func (.func 43) #[] #[.pointer (some ⟨Bf16x3, 0, none⟩), .pointer (some ⟨Cf16x3, 0, none⟩)])).heap[d2x5.heap.size]? = some (.cells #[(.func (.func 43) #[] #[.pointer (some ⟨Bf1x1, 0, none⟩), .pointer (some ⟨Cf1x1, 0, none⟩)])] 48 (0, 0))) := Lib.hid ((Below.heap_setCell _ _ _ _ hUV).trans HU1.out)
            have HV2 : Hid ((e0.setCell ⟨d1x1.heap.size, 0, none⟩ (.func (.func 43) #[] #[.pointer (some ⟨Bf16x3, 0, none⟩), .pointer (some ⟨Cf16x3, 0, none⟩)])).heap[d1x1.heap.size]? = some (.cells #[(.func (.func 43) #[] #[.pointer (some ⟨Bf16x3, 0, none⟩), .pointer (some ⟨Cf16x3, 0, none⟩)])] 48 (0, 0))) := Lib.hid (set1 hV)
            have HF2 : Hid (CovV (e0.setCell ⟨d1x1.heap.size, 0, none⟩ (.func (.func 43) #[] #[.pointer (some ⟨Bf16x3, 0, none⟩), .pointer (some ⟨Cf16x3, 0, none⟩)])) (.func (.func 43) #[] #[.pointer (some ⟨Bf1x1, 0, none⟩), .pointer (some ⟨Cf1x1, 0, none⟩)]) _ _ _ _) := Lib.hid (HF1.out.set hV)
            have HG2 : Hid (CovV (e0.setCell ⟨d1x1.heap.size, 0, none⟩ (.func (.func 43) #[] #[.pointer (some ⟨Bf16x3, 0, none⟩), .pointer (some ⟨Cf16x3, 0, none⟩)])) (.func (.func 43) #[] #[.pointer (some ⟨Bf16x3, 0, none⟩), .pointer (some ⟨Cf16x3, 0, none⟩)]) _ _ _ _) := Lib.hid (HG1.out.set hV)
            have HT2 : Hid (Below w0.heap.size w0 (e0.setCell ⟨d1x1.heap.size, 0, none⟩ (.func (.func 43) #[] #[.pointer (some ⟨Bf16x3, 0, none⟩), .pointer (some ⟨Cf16x3, 0, none⟩)]))) := Lib.hid (HT1.out.setCell hVw _)
            clear hV HT1 HF1 HG1 HU1 HV1
            refine onH 7 (oi := ?_) (by kernel_rfl) ?_ ?_ (fun K hK => ?_); rotate_left; (simp only [gA, gB, gC]; exact rfl); rfl
            go_wp2_with (fail)
            refine hK.out _ _ ⟨heap_keep HT2.out HA.out, heap_keep HT2.out HB.out⟩ (fun hHeld => ?_)
            clear hK K hHeld
            try simp only [Act.put, pB, pC, pD]
            refine wpAnyH_done (by kernel_rfl) ?_ _
            go_wp2_with (fail)
            go_meet
            exact ⟨_, _, rfl, rfl, ⟨_, _, HU2.out, HV2.out, HF2.out, HG2.out⟩, HT2.out⟩
          exact AllReadyH.nil
        exact AllReadyH.nil
      exact AllReadyH.nil
    refine coH 4 (oi := ?_) ?_ ?_ (fun K hK => ?_) ?_; rotate_left; (simp only [gA, gB, gC]; exact rfl); rfl
    · go_wp2_with (fail)
      have hb : Below d0.heap.size d0 (d0.alloc (.cells #[.nilFunc] 48)) := (Below.refl _ _).alloc (Nat.le_refl _) _
      have hnew : (d0.alloc (.cells #[.nilFunc] 48)).heap[d0.heap.size]? = some (.cells #[.nilFunc] 48 (0, 0)) := heap_new rfl
      have hnw : w0.heap.size ≤ d0.heap.size := HT.out.size
      have hne : ∀ X o, d0.heap[X]? = some o → X ≠ d0.heap.size := fun X o h e => by have := lt_of_heap h; omega
      generalize (d0.alloc (.cells #[.nilFunc] 48)) = d1x4 at *
      have HTn := Lib.hid (HT.out.trans (hb.mono HT.out.size))
      replace HT := HTn
      clear HTn
      have hU := hnew
      have hUw := hnw
      clear hb hnew hnw hne
      refine hK.out _ _ ⟨heap_keep HT.out HA.out, heap_keep HT.out HB.out⟩ (fun hHeld => ?_)
      clear hK K hHeld
      try simp only [Act.put, pB, pC, pD]
      refine wpAnyH_ready (rs := [1, 5]) (by kernel_rfl) (by simp) ?_
      refine coH 1 (oi := ?_) ?_ ?_ (fun K hK => ?_) ?_; rotate_left; (simp only [gA, gB, gC]; exact rfl); rfl
      · go_wp2_with (fail)
        refine (covers_any a c _ HV1.out (HR1.out.kept HT.out)).mono ?_
        rintro e d18x1 ⟨f18x1, rfl, hcv, hb⟩
        obtain ⟨Bf18x1, Cf18x1, rfl⟩ := hcv.isfunc
        have HN := Lib.hid hcv
        clear hcv
        go_wp2_with (fail)
        have HTn := Lib.hid (HT.out.trans (hb.mono HT.out.size))
        replace HT := HTn
        clear HTn
        have HCF := HN
        replace hU := heap_keep hb hU
        clear hb HN
        refine hK.out _ _ ⟨heap_keep HT.out HA.out, heap_keep HT.out HB.out⟩ (fun hHeld => ?_)
        clear hK K hHeld
        try simp only [Act.put, pB, pC, pD]
        refine wpAnyH_ready (rs := [3, 5]) (by kernel_rfl) (by simp) ?_
        refine coH 3 (oi := ?_) ?_ ?_ (fun K hK => ?_) ?_; rotate_left; (simp only [gA, gB, gC]; exact rfl); rfl
        · go_wp2_with (fail)
          refine (covers_any a' c' _ HV2.out (HR2.out.kept HT.out)).mono ?_
          rintro e d19x3 ⟨f19x3, rfl, hcv, hb⟩
          obtain ⟨Bf19x3, Cf19x3, rfl⟩ := hcv.isfunc
          have HN := Lib.hid hcv
          clear hcv
          go_wp2_with (fail)
          have HTn := Lib.hid (HT.out.trans (hb.mono HT.out.size))
          replace HT := HTn
          clear HTn
          replace HCF := Lib.hid (HCF.out.kept hb)
          have HCG := HN
          replace hU := heap_keep hb hU
          clear hb HN
          refine hK.out _ _ ⟨heap_keep HT.out HA.out, heap_keep HT.out HB.out⟩ (fun hHeld => ?_)
          clear hK K hHeld
          try simp only [Act.put, pB, pC, pD]
          refine wpAnyH_ready (rs := [5]) (by kernel_rfl) (by simp) ?_
          refine coH 5 (oi := ?_) ?_ ?_ (fun K hK => ?_) ?_; rotate_left; (simp only [gA, gB, gC]; exact rfl); rfl
          · go_wp2_with (fail)
            have hb : Below d19x3.heap.size d19x3 (d19x3.alloc (.cells #[.nilFunc] 48)) := (Below.refl _ _).alloc (Nat.le_refl _) _
            have hnew : (d19x3.alloc (.cells #[.nilFunc] 48)).heap[d19x3.heap.size]? = some (.cells #[.nilFunc] 48 (0, 0)) := heap_new rfl
            have hnw : w0.heap.size ≤ d19x3.heap.size := HT.out.size
            have hne : ∀ X o, d19x3.heap[X]? = some o → X ≠ d19x3.heap.size := fun X o h e => by have := lt_of_heap h; omega
            generalize (d19x3.alloc (.cells #[.nilFunc] 48)) = d20x5 at *
            have HTn := Lib.hid (HT.out.trans (hb.mono HT.out.size))
            replace HT := HTn
            clear HTn
            replace HCF := Lib.hid (HCF.out.kept hb)
            replace HCG := Lib.hid (HCG.out.kept hb)
            have hUV : d0.heap.size ≠ d19x3.heap.size := fun e => hne _ _ hU e
            have hV := hnew
            have hVw := hnw
            replace hU := heap_keep hb hU
            clear hb hnew hnw hne
            refine hK.out _ _ ⟨heap_keep HT.out HA.out, heap_keep HT.out HB.out⟩ (fun hHeld => ?_)
            clear hK K hHeld
            try simp only [Act.put, pB, pC, pD]
            have hlU21 := lt_of_heap hU
            have hlV21 := lt_of_heap hV
            have cU21 : d20x5.cell? ⟨d0.heap.size, 0, none⟩ = some .nilFunc := cell_of hU rfl
            have fU21 : d20x5.frozen? ⟨d0.heap.size, 0, none⟩ = false := frozen_of hU
            have HU1 : Hid ((d20x5.setCell ⟨d0.heap.size, 0, none⟩ (.func (.func 43) #[] #[.pointer (some ⟨Bf18x1, 0, none⟩), .pointer (some ⟨Cf18x1, 0, none⟩)])).heap[d0.heap.size]? = some (.cells #[(.func (.func 43) #[] #[.pointer (some ⟨Bf18x1, 0, none⟩), .pointer (some ⟨Cf18x1, 0, none⟩)])] 48 (0, 0))) := Lib.hid (set1 hU)
            have HV1 : Hid ((d20x5.setCell ⟨d0.heap.size, 0, none⟩ (.func (.func 43) #[] #[.pointer (some ⟨Bf18x1, 0, none⟩), .pointer (some ⟨Cf18x1, 0, none⟩)])).heap[d19x3.heap.size]? = some (.cells #[.nilFunc] 48 (0, 0))) := Lib.hid ((Below.heap_setCell _ _ _ _ (Ne.symm hUV)).trans hV)
            have HF1 : Hid (CovV (d20x5.setCell ⟨d0.heap.size, 0, none⟩ (.func (.func 43) #[] #[.pointer (some ⟨Bf18x1, 0, none⟩), .pointer (some ⟨Cf18x1, 0, none⟩)])) (.func (.func 43) #[] #[.pointer (some ⟨Bf18x1, 0, none⟩), .pointer (some ⟨Cf18x1, 0, none⟩)]) _ _ _ _) := Lib.hid (HCF.out.set hU)
            have HG1 : Hid (CovV (d20x5.setCell ⟨d0.heap.size, 0, none⟩ (.func (.func 43) #[] #[.pointer (some ⟨Bf18x1, 0, none⟩), .pointer (some ⟨Cf18x1, 0, none⟩)])) (.func (.func 43) #[] #[.pointer (some ⟨Bf19x3, 0, none⟩), .pointer (some ⟨Cf19x3, 0, none⟩)]) _ _ _ _) := Lib.hid (HCG.out.set hU)
            have HT1 : Hid (Below w0.heap.size w0 (d20x5.setCell ⟨d0.heap.size, 0, none⟩ (.func (.func 43) #[] #[.pointer (some ⟨Bf18x1, 0, none⟩), .pointer (some ⟨Cf18x1, 0, none⟩)]))) := Lib.hid (HT.out.setCell hUw _)
            clear hU hV HT HCF HCG
            refine onH 6 (oi := ?_) (by kernel_rfl) ?_ ?_ (fun K hK => ?_); rotate_left; (simp only [gA, gB, gC]; exact rfl); rfl
            go_wp2_with (fail)
            refine hK.out _ _ ⟨heap_keep HT1.out HA.out, heap_keep HT1.out HB.out⟩ (fun hHeld => ?_)
            clear hK K hHeld
            try simp only [Act.put, pB, pC, pD]
            generalize (d20x5.setCell ⟨d0.heap.size, 0, none⟩ (.func (.func 43) #[] #[.pointer (some ⟨Bf18x1, 0, none⟩), .pointer (some ⟨Cf18x1, 0, none⟩)])) = e0 at *
            have hV := HV1.out
            have cV21 : e0.cell? ⟨d19x3.heap.size, 0, none⟩ = some .nilFunc := cell_of hV rfl
            have fV21 : e0.frozen? ⟨d19x3.heap.size, 0, none⟩ = false := frozen_of hV
            have HU2 : Hid ((e0.setCell ⟨d19x3.heap.size, 0, none⟩ (.func (.func 43) #[] #[.pointer (some ⟨Bf19x3, 0, none⟩), .pointer (some ⟨Cf19x3, 0, none⟩)])).heap[d0.heap.size]? = some (.cells #[(.func (.func 43) #[] #[.pointer (some ⟨Bf18x1, 0, none⟩), .pointer (some ⟨Cf18x1, 0, none⟩)])] 48 (0, 0))) := Lib.hid ((Below.heap_setCell _ _ _ _ hUV).trans HU1.out)
            have HV2 : Hid ((e0.setCell ⟨d19x3.heap.size, 0, none⟩ (.func (.func 43) #[] #[.pointer (some ⟨Bf19x3, 0, none⟩), .pointer (some ⟨Cf19x3, 0, none⟩)])).heap[d19x3.heap.size]? = some (.cells #[(.func (.func 43) #[] #[.pointer (some ⟨Bf19x3, 0, none⟩), .pointer (some ⟨Cf19x3, 0, none⟩)])] 48 (0, 0))) := Lib.hid (set1 hV)
            have HF2 : Hid (CovV (e0.setCell ⟨d19x3.heap.size, 0, none⟩ (.func (.func 43) #[] #[.pointer (some ⟨Bf19x3, 0, none⟩), .pointer (some ⟨Cf19x3, 0, none⟩)])) (.func (.func 43) #[] #[.pointer (some ⟨Bf18x1, 0, none⟩), .pointer (some ⟨Cf18x1, 0, none⟩)]) _ _ _ _) := Lib.hid (HF1.out.set hV)
            have HG2 : Hid (CovV (e0.setCell ⟨d19x3.heap.size, 0, none⟩ (.func (.func 43) #[] #[.pointer (some ⟨Bf19x3, 0, none⟩), .pointer (some ⟨Cf19x3, 0, none⟩)])) (.func (.func 43) #[] #[.pointer (some ⟨Bf19x3, 0, none⟩), .pointer (some ⟨Cf19x3, 0, none⟩)]) _ _ _ _) := Lib.hid (HG1.out.set hV)
            have HT2 : Hid (Below w0.heap.size w0 (e0.setCell ⟨d19x3.heap.size, 0, none⟩ (.func (.func 43) #[] #[.pointer (some ⟨Bf19x3, 0, none⟩), .pointer (some ⟨Cf19x3, 0, none⟩)]))) := Lib.hid (HT1.out.setCell hVw _)
            clear hV HT1 HF1 HG1 HU1 HV1
            refine onH 7 (oi := ?_) (by kernel_rfl) ?_ ?_ (fun K hK => ?_); rotate_left; (simp only [gA, gB, gC]; exact rfl); rfl
            go_wp2_with (fail)
            refine hK.out _ _ ⟨heap_keep HT2.out HA.out, heap_keep HT2.out HB.out⟩ (fun hHeld => ?_)
            clear hK K hHeld
            try simp only [Act.put, pB, pC, pD]
            refine wpAnyH_done (by kernel_rfl) ?_ _
            go_wp2_with (fail)
            go_meet
            exact ⟨_, _, rfl, rfl, ⟨_, _, HU2.out, HV2.out, HF2.out, HG2.out⟩, HT2.out⟩
          exact AllReadyH.nil
        refine coH 5 (oi := ?_) ?_ ?_ (fun K hK => ?_) ?_; rotate_left; (simp only [gA, gB, gC]; exact rfl); rfl
        · go_wp2_with (fail)
          have hb : Below d18x1.heap.size d18x1 (d18x1.alloc (.cells #[.nilFunc] 48)) := (Below.refl _ _).alloc (Nat.le_refl _) _
          have hnew : (d18x1.alloc (.cells #[.nilFunc] 48)).heap[d18x1.heap.size]? = some (.cells #[.nilFunc] 48 (0, 0)) := heap_new rfl
          have hnw : w0.heap.size ≤ d18x1.heap.size := HT.out.size
          have hne : ∀ X o, d18x1.heap[X]? = some o → X ≠ d18x1.heap.size := fun X o h e => by have := lt_of_heap h; omega
          generalize (d18x1.alloc (.cells #[.nilFunc] 48)) = d19x5 at *
          have HTn := Lib.hid (HT.out.trans (hb.mono HT.out.size))
          replace HT := HTn
          clear HTn
          replace HCF := Lib.hid (HCF.out.kept hb)
          have hUV : d0.heap.size ≠ d18x1.heap.size := fun e => hne _ _ hU e
          have hV := hnew
          have hVw := hnw
          replace hU := heap_keep hb hU
          clear hb hnew hnw hne
          refine hK.out _ _ ⟨heap_keep HT.out HA.out, heap_keep HT.out HB.out⟩ (fun hHeld => ?_)
          clear hK K hHeld
          try simp only [Act.put, pB, pC, pD]
          refine wpAnyH_ready (rs := [3]) (by kernel_rfl) (by simp) ?_
          refine coH 3 (oi := ?_) ?_ ?_ (fun K hK => ?_) ?_; rotate_left; (simp only [gA, gB, gC]; exact rfl); rfl
          · go_wp2_with (fail)
            refine (covers_any a' c' _ HV2.out (HR2.out.kept HT.out)).mono ?_
            rintro e d22x3 ⟨f22x3, rfl, hcv, hb⟩
            obtain ⟨Bf22x3, Cf22x3, rfl⟩ := hcv.isfunc
            have HN := Lib.hid hcv
            clear hcv
            go_wp2_with (fail)
            have HTn := Lib.hid (HT.out.trans (hb.mono HT.out.size))
            replace HT := HTn
            clear HTn
            replace HCF := Lib.hid (HCF.out.kept hb)
            have HCG := HN
            replace hU := heap_keep hb hU
            replace hV := heap_keep hb hV
            clear hb HN
            refine hK.out _ _ ⟨heap_keep HT.out HA.out, heap_keep HT.out HB.out⟩ (fun hHeld => ?_)
            clear hK K hHeld
            try simp only [Act.put, pB, pC, pD]
            have hlU23 := lt_of_heap hU
            have hlV23 := lt_of_heap hV
            have cU23 : d22x3.cell? ⟨d0.heap.size, 0, none⟩ = some .nilFunc := cell_of hU rfl
            have fU23 : d22x3.frozen? ⟨d0.heap.size, 0, none⟩ = false := frozen_of hU
            have HU1 : Hid ((d22x3.setCell ⟨d0.heap.size, 0, none⟩ (.func (.func 43) #[] #[.pointer (some ⟨Bf18x1, 0, none⟩), .pointer (some ⟨Cf18x1, 0, none⟩)])).heap[d0.heap.size]? = some (.cells #[(.func (.func 43) #[] #[.pointer (some ⟨Bf18x1, 0, none⟩), .pointer (some ⟨Cf18x1, 0, none⟩)])] 48 (0, 0))) := Lib.hid (set1 hU)
            have HV1 : Hid ((d22x3.setCell ⟨d0.heap.size, 0, none⟩ (.func (.func 43) #[] #[.pointer (some ⟨Bf18x1, 0, none⟩), .pointer (some ⟨Cf18x1, 0, none⟩)])).heap[d18x1.heap.size]? = some (.cells #[.nilFunc] 48 (0, 0))) := Lib.hid ((Below.heap_setCell _ _ _ _ (Ne.symm hUV)).trans hV)
            have HF1 : Hid (CovV (d22x3.setCell ⟨d0.heap.size, 0, none⟩ (.func (.func 43) #[] #[.pointer (some ⟨Bf18x1, 0, none⟩), .pointer (some ⟨Cf18x1, 0, none⟩)])) (.func (.func 43) #[] #[.pointer (some ⟨Bf18x1, 0, none⟩), .pointer (some ⟨Cf18x1, 0, none⟩)]) _ _ _ _) := Lib.hid (HCF.out.set hU)
            have HG1 : Hid (CovV (d22x3.setCell ⟨d0.heap.size, 0, none⟩ (.func (.func 43) #[] #[.pointer (some ⟨Bf18x1, 0, none⟩), .pointer (some ⟨Cf18x1, 0, none⟩)])) (.func (.func 43) #[] #[.pointer (some ⟨Bf22x3, 0, none⟩), .pointer (some ⟨Cf22x3, 0, none⟩)]) _ _ _ _) := Lib.hid (HCG.out.set hU)
            have HT1 : Hid (Below w0.heap.size w0 (d22x3.setCell ⟨d0.heap.size, 0, none⟩ (.func (.func 43) #[] #[.pointer (some ⟨Bf18x1, 0, none⟩), .pointer (some ⟨Cf18x1, 0, none⟩)]))) := Lib.hid (HT.out.setCell hUw _)
            clear hU hV HT HCF HCG
            refine onH 6 (oi := ?_) (by kernel_rfl) ?_ ?_ (fun K hK => ?_); rotate_left; (simp only [gA, gB, gC]; exact rfl); rfl
            go_wp2_with (fail)
            refine hK.out _ _ ⟨heap_keep HT1.out HA.out, heap_keep HT1.out HB.out⟩ (fun hHeld => ?_)
            clear hK K hHeld
            try simp only [Act.put, pB, pC, pD]
            generalize (d22x3.setCell ⟨d0.heap.size, 0, none⟩ (.func (.func 43) #[] #[.pointer (some ⟨Bf18x1, 0, none⟩), .pointer (some ⟨Cf18x1, 0, none⟩)])) = e0 at *
            have hV := HV1.out
            have cV23 : e0.cell? ⟨d18x1.heap.size, 0, none⟩ = some .nilFunc := cell_of hV rfl
            have fV23 : e0.frozen? ⟨d18x1.heap.size, 0, none⟩ = false := frozen_of hV
            have HU2 : Hid ((e0.setCell ⟨d18x1.heap.size, 0, none⟩ (.func (.func 43) #[] #[.pointer (some ⟨Bf22x3, 0, none⟩), .pointer (some ⟨Cf22x3, 0, none⟩)])).heap[d0.heap.size]? = some (.cells #[(.func (.func 43) #[] #[.pointer (some ⟨Bf18x1, 0, none⟩), .pointer (some ⟨Cf18x1, 0, none⟩)])] 48 (0, 0))) := Lib.hid ((Below.heap_setCell _ _ _ _ hUV).trans HU1.out)
            have HV2 : Hid ((e0.setCell ⟨d18x1.heap.size, 0, none⟩ (.func (.func 43) #[] #[.pointer (some ⟨Bf22x3, 0, none⟩), .pointer (some ⟨Cf22x3, 0, none⟩)])).heap[d18x1.heap.size]? = some (.cells #[(.func (.func 43) #[] #[.pointer (some ⟨Bf22x3, 0, none⟩), .pointer (some ⟨Cf22x3, 0, none⟩)])] 48 (0, 0))) := Lib.hid (set1 hV)
            have HF2 : Hid (CovV (e0.setCell ⟨d18x1.heap.size, 0, none⟩ (.func (.func 43) #[] #[.pointer (some ⟨Bf22x3, 0, none⟩), .pointer (some ⟨Cf22x3, 0, none⟩)])) (.func (.func 43) #[] #[.pointer (some ⟨Bf18x1, 0, none⟩), .pointer (some ⟨Cf18x1, 0, none⟩)]) _ _ _ _) := Lib.hid (HF1.out.set hV)
            have HG2 : Hid (CovV (e0.setCell ⟨d18x1.heap.size, 0, none⟩ (.func (.func 43) #[] #[.pointer (some ⟨Bf22x3, 0, none⟩), .pointer (some ⟨Cf22x3, 0, none⟩)])) (.func (.func 43) #[] #[.pointer (some ⟨Bf22x3, 0, none⟩), .pointer (some ⟨Cf22x3, 0, none⟩)]) _ _ _ _) := Lib.hid (HG1.out.set hV)
            have HT2 : Hid (Below w0.heap.size w0 (e0.setCell ⟨d18x1.heap.size, 0, none⟩ (.func (.func 43) #[] #[.pointer (some ⟨Bf22x3, 0, none⟩), .pointer (some ⟨Cf22x3, 0, none⟩)]))) := Lib.hid (HT1.out.setCell hVw _)
            clear hV HT1 HF1 HG1 HU1 HV1
            refine onH 7 (oi := ?_) (by kernel_rfl) ?_ ?_ (fun K hK => ?_); rotate_left; (simp only [gA, gB, gC]; exact rfl); rfl
            go_wp2_with (fail)
            refine hK.out _ _ ⟨heap_keep HT2.out HA.out, heap_keep HT2.out HB.out⟩ (fun hHeld => ?_)
            clear hK K hHeld
            try simp only [Act.put, pB, pC, pD]
            refine wpAnyH_done (by kernel_rfl) ?_ _
            go_wp2_with (fail)
            go_meet
            exact ⟨_, _, rfl, rfl, ⟨_, _, HU2.out, HV2.out, HF2.out, HG2.out⟩, HT2.out⟩
          exact AllReadyH.nil
        exact AllReadyH.nil
      refine coH 5 (oi := ?_) ?_ ?_ (fun K hK => ?_) ?_; rotate_left; (simp only [gA, gB, gC]; exact rfl); rfl
      · go_wp2_with (fail)
        have hb : Below d1x4.heap.size d1x4 (d1x4.alloc (.cells #[.nilFunc] 48)) := (Below.refl _ _).alloc (Nat.le_refl _) _
        have hnew : (d1x4.alloc (.cells #[.nilFunc] 48)).heap[d1x4.heap.size]? = some (.cells #[.nilFunc] 48 (0, 0)) := heap_new rfl
        have hnw : w0.heap.size ≤ d1x4.heap.size := HT.out.size
        have hne : ∀ X o, d1x4.heap[X]? = some o → X ≠ d1x4.heap.size := fun X o h e => by have := lt_of_heap h; omega
        generalize (d1x4.alloc (.cells #[.nilFunc] 48)) = d18x5 at *
        have HTn := Lib.hid (HT.out.trans (hb.mono HT.out.size))
        replace HT := HTn
        clear HTn
        have hUV : d0.heap.size ≠ d1x4.heap.size := fun e => hne _ _ hU e
        have hV := hnew
        have hVw := hnw
        replace hU := heap_keep hb hU
        clear hb hnew hnw hne
        refine hK.out _ _ ⟨heap_keep HT.out HA.out, heap_keep HT.out HB.out⟩ (fun hHeld => ?_)
        clear hK K hHeld
        try simp only [Act.put, pB, pC, pD]
        refine wpAnyH_ready (rs := [1]) (by kernel_rfl) (by simp) ?_
        refine coH 1 (oi := ?_) ?_ ?_ (fun K hK => ?_) ?_; rotate_left; (simp only [gA, gB, gC]; exact rfl); rfl
        · go_wp2_with (fail)
          refine (covers_any a c _ HV1.out (HR1.out.kept HT.out)).mono ?_
          rintro e d24x1 ⟨f24x1, rfl, hcv, hb⟩
          obtain ⟨Bf24x1, Cf24x1, rfl⟩ := hcv.isfunc
          have HN := Lib.hid hcv
          clear hcv
          go_wp2_with (fail)
          have HTn := Lib.hid (HT.out.trans (hb.mono HT.out.size))
          replace HT := HTn
          clear HTn
          have HCF := HN
          replace hU := heap_keep hb hU
          replace hV := heap_keep hb hV
          clear hb HN
          refine hK.out _ _ ⟨heap_keep HT.out HA.out, heap_keep HT.out HB.out⟩ (fun hHeld => ?_)
          clear hK K hHeld
          try simp only [Act.put, pB, pC, pD]
          refine wpAnyH_ready (rs := [3]) (by kernel_rfl) (by simp) ?_
          refine coH 3 (oi := ?_) ?_ ?_ (fun K hK => ?_) ?_; rotate_left; (simp only [gA, gB, gC]; exact rfl); rfl
          · go_wp2_with (fail)
            refine (covers_any a' c' _ HV2.out (HR2.out.kept HT.out)).mono ?_
            rintro e d25x3 ⟨f25x3, rfl, hcv, hb⟩
            obtain ⟨Bf25x3, Cf25x3, rfl⟩ := hcv.isfunc
            have HN := Lib.hid hcv
            clear hcv
            go_wp2_with (fail)
            have HTn := Lib.hid (HT.out.trans (hb.mono HT.out.size))
            replace HT := HTn
            clear HTn
            replace HCF := Lib.hid (HCF.out.kept hb)
            have HCG := HN
            replace hU := heap_keep hb hU
            replace hV := heap_keep hb hV
            clear hb HN
            refine hK.out _ _ ⟨heap_keep HT.out HA.out, heap_keep HT.out HB.out⟩ (fun hHeld => ?_)
            clear hK K hHeld
            try simp only [Act.put, pB, pC, pD]
            have hlU26 := lt_of_heap hU
            have hlV26 := lt_of_heap hV
            have cU26 : d25x3.cell? ⟨d0.heap.size, 0, none⟩ = some .nilFunc := cell_of hU rfl
            have fU26 : d25x3.frozen? ⟨d0.heap.size, 0, none⟩ = false := frozen_of hU
            have HU1 : Hid ((d25x3.setCell ⟨d0.heap.size, 0, none⟩ (.func (.func 43) #[] #[.pointer (some ⟨Bf24x1, 0, none⟩), .pointer (some ⟨Cf24x1, 0, none⟩)])).heap[d0.heap.size]? = some (.cells #[(.func (.func 43) #[] #[.pointer (some ⟨Bf24x1, 0, none⟩), .pointer (some ⟨Cf24x1, 0, none⟩)])] 48 (0, 0))) := Lib.hid (set1 hU)
            have HV1 : Hid ((d25x3.setCell ⟨d0.heap.size, 0, none⟩ (.func (.func 43) #[] #[.pointer (some ⟨Bf24x1, 0, none⟩), .pointer (some ⟨Cf24x1, 0, none⟩)])).heap[d1x4.heap.size]? = some (.cells #[.nilFunc] 48 (0, 0))) := Lib.hid ((Below.heap_setCell _ _ _ _ (Ne.symm hUV)).trans hV)
            have HF1 : Hid (CovV (d25x3.setCell ⟨d0.heap.size, 0, none⟩ (.func (.func 43) #[] #[.pointer (some ⟨Bf24x1, 0, none⟩), .pointer (some ⟨Cf24x1, 0, none⟩)])) (.func (.func 43) #[] #[.pointer (some ⟨Bf24x1, 0, none⟩), .pointer (some ⟨Cf24x1, 0, none⟩)]) _ _ _ _) := Lib.hid (HCF.out.set hU)
            have HG1 : Hid (CovV (d25x3.setCell ⟨d0.heap.size, 0, none⟩ (.func (.func 43) #[] #[.pointer (some ⟨Bf24x1, 0, none⟩), .pointer (some ⟨Cf24x1, 0, none⟩)])) (.func (.func 43) #[] #[.pointer (some ⟨Bf25x3, 0, none⟩), .pointer (some ⟨Cf25x3, 0, none⟩)]) _ _ _ _) := Lib.hid (HCG.out.set hU)
            have HT1 : Hid (Below w0.heap.size w0 (d25x3.setCell ⟨d0.heap.size, 0, none⟩ (.func (.func 43) #[] #[.pointer (some ⟨Bf24x1, 0, none⟩), .pointer (some ⟨Cf24x1, 0, none⟩)]))) := Lib.hid (HT.out.setCell hUw _)
            clear hU hV HT HCF HCG
            refine onH 6 (oi := ?_) (by kernel_rfl) ?_ ?_ (fun K hK => ?_); rotate_left; (simp only [gA, gB, gC]; exact rfl); rfl
            go_wp2_with (fail)
            refine hK.out _ _ ⟨heap_keep HT1.out HA.out, heap_keep HT1.out HB.out⟩ (fun hHeld => ?_)
            clear hK K hHeld
            try simp only [Act.put, pB, pC, pD]
            generalize (d25x3.setCell ⟨d0.heap.size, 0, none⟩ (.func (.func 43) #[] #[.pointer (some ⟨Bf24x1, 0, none⟩), .pointer (some ⟨Cf24x1, 0, none⟩)])) = e0 at *
            have hV := HV1.out
            have cV26 : e0.cell? ⟨d1x4.heap.size, 0, none⟩ = some .nilFunc := cell_of hV rfl
            have fV26 : e0.frozen? ⟨d1x4.heap.size, 0, none⟩ = false := frozen_of hV
            have HU2 : Hid ((e0.setCell ⟨d1x4.heap.size, 0, none⟩ (.func (.func 43) #[] #[.pointer (some ⟨Bf25x3, 0, none⟩), .pointer (some ⟨Cf25x3, 0, none⟩)])).heap[d0.heap.size]? = some (.cells #[(.func (.func 43) #[] #[.pointer (some ⟨Bf24x1, 0, none⟩), .pointer (some ⟨Cf24x1, 0, none⟩)])] 48 (0, 0))) := Lib.hid ((Below.heap_setCell _ _ _ _ hUV).trans HU1.out)
            have HV2 : Hid ((e0.setCell ⟨d1x4.heap.size, 0, none⟩ (.func (.func 43) #[] #[.pointer (some ⟨Bf25x3, 0, none⟩), .pointer (some ⟨Cf25x3, 0, none⟩)])).heap[d1x4.heap.size]? = some (.cells #[(.func (.func 43) #[] #[.pointer (some ⟨Bf25x3, 0, none⟩), .pointer (some ⟨Cf25x3, 0, none⟩)])] 48 (0, 0))) := Lib.hid (set1 hV)
            have HF2 : Hid (CovV (e0.setCell ⟨d1x4.heap.size, 0, none⟩ (.func (.func 43) #[] #[.pointer (some ⟨Bf25x3, 0, none⟩), .pointer (some ⟨Cf25x3, 0, none⟩)])) (.func (.func 43) #[] #[.pointer (some ⟨Bf24x1, 0, none⟩), .pointer (some ⟨Cf24x1, 0, none⟩)]) _ _ _ _) := Lib.hid (HF1.out.set hV)
            have HG2 : Hid (CovV (e0.setCell ⟨d1x4.heap.size, 0, none⟩ (.func (.func 43) #[] #[.pointer (some ⟨Bf25x3, 0, none⟩), .pointer (some ⟨Cf25x3, 0, none⟩)])) (.func (.func 43) #[] #[.pointer (some ⟨Bf25x3, 0, none⟩), .pointer (some ⟨Cf25x3, 0, none⟩)]) _ _ _ _) := Lib.hid (HG1.out.set hV)
            have HT2 : Hid (Below w0.heap.size w0 (e0.setCell ⟨d1x4.heap.size, 0, none⟩ (.func (.func 43) #[] #[.pointer (some ⟨Bf25x3, 0, none⟩), .pointer (some ⟨Cf25x3, 0, none⟩)]))) := Lib.hid (HT1.out.setCell hVw _)
            clear hV HT1 HF1 HG1 HU1 HV1
            refine onH 7 (oi := ?_) (by kernel_rfl) ?_ ?_ (fun K hK => ?_); rotate_left; (simp only [gA, gB, gC]; exact rfl); rfl
            go_wp2_with (fail)
            refine hK.out _ _ ⟨heap_keep HT2.out HA.out, heap_keep HT2.out HB.out⟩ (fun hHeld => ?_)
            clear hK K hHeld
            try simp only [Act.put, pB, pC, pD]
            refine wpAnyH_done (by kernel_rfl) ?_ _
            go_wp2_with (fail)
            go_meet
            exact ⟨_, _, rfl, rfl, ⟨_, _, HU2.out, HV2.out, HF2.out, HG2.out⟩, HT2.out⟩
          exact AllReadyH.nil
        exact AllReadyH.nil
      exact AllReadyH.nil
    refine coH 5 (oi := ?_) ?_ ?_ (fun K hK => ?_) ?_; rotate_left; (simp only [gA, gB, gC]; exact rfl); rfl
    · go_wp2_with (fail)
      have hb : Below d0.heap.size d0 (d0.alloc (.cells #[.nilFunc] 48)) := (Below.refl _ _).alloc (Nat.le_refl _) _
      have hnew : (d0.alloc (.cells #[.nilFunc] 48)).heap[d0.heap.size]? = some (.cells #[.nilFunc] 48 (0, 0)) := heap_new rfl
      have hnw : w0.heap.size ≤ d0.heap.size := HT.out.size
      have hne : ∀ X o, d0.heap[X]? = some o → X ≠ d0.heap.size := fun X o h e => by have := lt_of_heap h; omega
      generalize (d0.alloc (.cells #[.nilFunc] 48)) = d1x5 at *
      have HTn := Lib.hid (HT.out.trans (hb.mono HT.out.size))
      replace HT := HTn
      clear HTn
      have hV := hnew
      have hVw := hnw
      clear hb hnew hnw hne
      refine hK.out _ _ ⟨heap_keep HT.out HA.out, heap_keep HT.out HB.out⟩ (fun hHeld => ?_)
      clear hK K hHeld
      try simp only [Act.put, pB, pC, pD]
      refine wpAnyH_ready (rs := [1, 4]) (by kernel_rfl) (by simp) ?_
      refine coH 1 (oi := ?_) ?_ ?_ (fun K hK => ?_) ?_; rotate_left; (simp only [gA, gB, gC]; exact rfl); rfl
      · go_wp2_with (fail)
        refine (covers_any a c _ HV1.out (HR1.out.kept HT.out)).mono ?_
        rintro e d27x1 ⟨f27x1, rfl, hcv, hb⟩
        obtain ⟨Bf27x1, Cf27x1, rfl⟩ := hcv.isfunc
        have HN := Lib.hid hcv
        clear hcv
        go_wp2_with (fail)
        have HTn := Lib.hid (HT.out.trans (hb.mono HT.out.size))
        replace HT := HTn
        clear HTn
        have HCF := HN
        replace hV := heap_keep hb hV
        clear hb HN
        refine hK.out _ _ ⟨heap_keep HT.out HA.out, heap_keep HT.out HB.out⟩ (fun hHeld => ?_)
        clear hK K hHeld
        try simp only [Act.put, pB, pC, pD]
        refine wpAnyH_ready (rs := [3, 4]) (by kernel_rfl) (by simp) ?_
        refine coH 3 (oi := ?_) ?_ ?_ (fun K hK => ?_) ?_; rotate_left; (simp only [gA, gB, gC]; exact rfl); rfl
        · go_wp2_with (fail)
          refine (covers_any a' c' _ HV2.out (HR2.out.kept HT.out)).mono ?_
          rintro e d28x3 ⟨f28x3, rfl, hcv, hb⟩
          obtain ⟨Bf28x3, Cf28x3, rfl⟩ := hcv.isfunc
          have HN := Lib.hid hcv
          clear hcv
          go_wp2_with (fail)
          have HTn := Lib.hid (HT.out.trans (hb.mono HT.out.size))
          replace HT := HTn
          clear HTn
          replace HCF := Lib.hid (HCF.out.kept hb)
          have HCG := HN
          replace hV := heap_keep hb hV
          clear hb HN
          refine hK.out _ _ ⟨heap_keep HT.out HA.out, heap_keep HT.out HB.out⟩ (fun hHeld => ?_)
          clear hK K hHeld
          try simp only [Act.put, pB, pC, pD]
          refine wpAnyH_ready (rs := [4]) (by kernel_rfl) (by simp) ?_
          refine coH 4 (oi := ?_) ?_ ?_ (fun K hK => ?_) ?_; rotate_left; (simp only [gA, gB, gC]; exact rfl); rfl
          · go_wp2_with (fail)
            have hb : Below d28x3.heap.size d28x3 (d28x3.alloc (.cells #[.nilFunc] 48)) := (Below.refl _ _).alloc (Nat.le_refl _) _
            have hnew : (d28x3.alloc (.cells #[.nilFunc] 48)).heap[d28x3.heap.size]? = some (.cells #[.nilFunc] 48 (0, 0)) := heap_new rfl
            have hnw : w0.heap.size ≤ d28x3.heap.size := HT.out.size
            have hne : ∀ X o, d28x3.heap[X]? = some o → X ≠ d28x3.heap.size := fun X o h e => by have := lt_of_heap h; omega
            generalize (d28x3.alloc (.cells #[.nilFunc] 48)) = d29x4 at *
            have HTn := Lib.hid (HT.out.trans (hb.mono HT.out.size))
            replace HT := HTn
            clear HTn
            replace HCF := Lib.hid (HCF.out.kept hb)
            replace HCG := Lib.hid (HCG.out.kept hb)
            have hUV : d28x3.heap.size ≠ d0.heap.size := fun e => hne _ _ hV e.symm
            have hU := hnew
            have hUw := hnw
            replace hV := heap_keep hb hV
            clear hb hnew hnw hne
            refine hK.out _ _ ⟨heap_keep HT.out HA.out, heap_keep HT.out HB.out⟩ (fun hHeld => ?_)
            clear hK K hHeld
            try simp only [Act.put, pB, pC, pD]
            have hlU30 := lt_of_heap hU
            have hlV30 := lt_of_heap hV
            have cU30 : d29x4.cell? ⟨d28x3.heap.size, 0, none⟩ = some .nilFunc := cell_of hU rfl
            have fU30 : d29x4.frozen? ⟨d28x3.heap.size, 0, none⟩ = false := frozen_of hU
            have HU1 : Hid ((d29x4.setCell ⟨d28x3.heap.size, 0, none⟩ (.func (.func 43) #[] #[.pointer (some ⟨Bf27x1, 0, none⟩), .pointer (some ⟨Cf27x1, 0, none⟩)])).heap[d28x3.heap.size]? = some (.cells #[(.func (.func 43) #[] #[.pointer (some ⟨Bf27x1, 0, none⟩), .pointer (some ⟨Cf27x1, 0, none⟩)])] 48 (0, 0))) := Lib.hid (set1 hU)
            have HV1 : Hid ((d29x4.setCell ⟨d28x3.heap.size, 0, none⟩ (.func (.func 43) #[] #[.pointer (some ⟨Bf27x1, 0, none⟩), .pointer (some ⟨Cf27x1, 0, none⟩)])).heap[d0.heap.size]? = some (.cells #[.nilFunc] 48 (0, 0))) := Lib.hid ((Below.heap_setCell _ _ _ _ (Ne.symm hUV)).trans hV)
            have HF1 : Hid (CovV (d29x4.setCell ⟨d28x3.heap.size, 0, none⟩ (.func (.func 43) #[] #[.pointer (some ⟨Bf27x1, 0, none⟩), .pointer (some ⟨Cf27x1, 0, none⟩)])) (.func (.func 43) #[] #[.pointer (some ⟨Bf27x1, 0, none⟩), .pointer (some ⟨Cf27x1, 0, none⟩)]) _ _ _ _) := Lib.hid (HCF.out.set hU)
            have HG1 : Hid (CovV (d29x4.setCell ⟨d28x3.heap.size, 0, none⟩ (.func (.func 43) #[] #[.pointer (some ⟨Bf27x1, 0, none⟩), .pointer (some ⟨Cf27x1, 0, none⟩)])) (.func (.func 43) #[] #[.pointer (some ⟨Bf28x3, 0, none⟩), .pointer (some ⟨Cf28x3, 0, none⟩)]) _ _ _ _) := Lib.hid (HCG.out.set hU)
            have HT1 : Hid (Below w0.heap.size w0 (d29x4.setCell ⟨d28x3.heap.size, 0, none⟩ (.func (.func 43) #[] #[.pointer (some ⟨Bf27x1, 0, none⟩), .pointer (some ⟨Cf27x1, 0, none⟩)]))) := Lib.hid (HT.out.setCell hUw _)
            clear hU hV HT HCF HCG
            refine onH 6 (oi := ?_) (by kernel_rfl) ?_ ?_ (fun K hK => ?_); rotate_left; (simp only [gA, gB, gC]; exact rfl); rfl
            go_wp2_with (fail)
            refine hK.out _ _ ⟨heap_keep HT1.out HA.out, heap_keep HT1.out HB.out⟩ (fun hHeld => ?_)
            clear hK K hHeld
            try simp only [Act.put, pB, pC, pD]
            generalize (d29x4.setCell ⟨d28x3.heap.size, 0, none⟩ (.func (.func 43) #[] #[.pointer (some ⟨Bf27x1, 0, none⟩), .pointer (some ⟨Cf27x1, 0, none⟩)])) = e0 at *
            have hV := HV1.out
            have cV30 : e0.cell? ⟨d0.heap.size, 0, none⟩ = some .nilFunc := cell_of hV rfl
            have fV30 : e0.frozen? ⟨d0.heap.size, 0, none⟩ = false := frozen_of hV
            have HU2 : Hid ((e0.setCell ⟨d0.heap.size, 0, none⟩ (.func (.func 43) #[] #[.pointer (some ⟨Bf28x3, 0, none⟩), .pointer (some ⟨Cf28x3, 0, none⟩)])).heap[d28x3.heap.size]? = some (.cells #[(.func (.func 43) #[] #[.pointer (some ⟨Bf27x1, 0, none⟩), .pointer (some ⟨Cf27x1, 0, none⟩)])] 48 (0, 0))) := Lib.hid ((Below.heap_setCell _ _ _ _ hUV).trans HU1.out)
            have HV2 : Hid ((e0.setCell ⟨d0.heap.size, 0, none⟩ (.func (.func 43) #[] #[.pointer (some ⟨Bf28x3, 0, none⟩), .pointer (some ⟨Cf28x3, 0, none⟩)])).heap[d0.heap.size]? = some (.cells #[(.func (.func 43) #[] #[.pointer (some ⟨Bf28x3, 0, none⟩), .pointer (some ⟨Cf28x3, 0, none⟩)])] 48 (0, 0))) := Lib.hid (set1 hV)
            have HF2 : Hid (CovV (e0.setCell ⟨d0.heap.size, 0, none⟩ (.func (.func 43) #[] #[.pointer (some ⟨Bf28x3, 0, none⟩), .pointer (some ⟨Cf28x3, 0, none⟩)])) (.func (.func 43) #[] #[.pointer (some ⟨Bf27x1, 0, none⟩), .pointer (some ⟨Cf27x1, 0, none⟩)]) _ _ _ _) := Lib.hid (HF1.out.set hV)
            have HG2 : Hid (CovV (e0.setCell ⟨d0.heap.size, 0, none⟩ (.func (.func 43) #[] #[.pointer (some ⟨Bf28x3, 0, none⟩), .pointer (some ⟨Cf28x3, 0, none⟩)])) (.func (.func 43) #[] #[.pointer (some ⟨Bf28x3, 0, none⟩), .pointer (some ⟨Cf28x3, 0, none⟩)]) _ _ _ _) := Lib.hid (HG1.out.set hV)
            have HT2 : Hid (Below w0.heap.size w0 (e0.setCell ⟨d0.heap.size, 0, none⟩ (.func (.func 43) #[] #[.pointer (some ⟨Bf28x3, 0, none⟩), .pointer (some ⟨Cf28x3, 0, none⟩)]))) := Lib.hid (HT1.out.setCell hVw _)
            clear hV HT1 HF1 HG1 HU1 HV1
            refine onH 7 (oi := ?_) (by kernel_rfl) ?_ ?_ (fun K hK => ?_); rotate_left; (simp only [gA, gB, gC]; exact rfl); rfl
            go_wp2_with (fail)
            refine hK.out _ _ ⟨heap_keep HT2.out HA.out, heap_keep HT2.out HB.out⟩ (fun hHeld => ?_)
            clear hK K hHeld
            try simp only [Act.put, pB, pC, pD]
            refine wpAnyH_done (by kernel_rfl) ?_ _
            go_wp2_with (fail)
            go_meet
            exact ⟨_, _, rfl, rfl, ⟨_, _, HU2.out, HV2.out, HF2.out, HG2.out⟩, HT2.out⟩
          exact AllReadyH.nil
        refine coH 4 (oi := ?_) ?_ ?_ (fun K hK => ?_) ?_; rotate_left; (simp only [gA, gB, gC]; exact rfl); rfl
        · go_wp2_with (fail)
          have hb : Below d27x1.heap.size d27x1 (d27x1.alloc (.cells #[.nilFunc] 48)) := (Below.refl _ _).alloc (Nat.le_refl _) _
          have hnew : (d27x1.alloc (.cells #[.nilFunc] 48)).heap[d27x1.heap.size]? = some (.cells #[.nilFunc] 48 (0, 0)) := heap_new rfl
          have hnw : w0.heap.size ≤ d27x1.heap.size := HT.out.size
          have hne : ∀ X o, d27x1.heap[X]? = some o → X ≠ d27x1.heap.size := fun X o h e => by have := lt_of_heap h; omega
          generalize (d27x1.alloc (.cells #[.nilFunc] 48)) = d28x4 at *
          have HTn := Lib.hid (HT.out.trans (hb.mono HT.out.size))
          replace HT := HTn
          clear HTn
          replace HCF := Lib.hid (HCF.out.kept hb)
          have hUV : d27x1.heap.size ≠ d0.heap.size := fun e => hne _ _ hV e.symm
          have hU := hnew
          have hUw := hnw
          replace hV := heap_keep hb hV
          clear hb hnew hnw hne
          refine hK.out _ _ ⟨heap_keep HT.out HA.out, heap_keep HT.out HB.out⟩ (fun hHeld => ?_)
          clear hK K hHeld
          try simp only [Act.put, pB, pC, pD]
          refine wpAnyH_ready (rs := [3]) (by kernel_rfl) (by simp) ?_
          refine coH 3 (oi := ?_) ?_ ?_ (fun K hK => ?_) ?_; rotate_left; (simp only [gA, gB, gC]; exact rfl); rfl
          · go_wp2_with (fail)
            refine (covers_any a' c' _ HV2.out (HR2.out.kept HT.out)).mono ?_
            rintro e d31x3 ⟨f31x3, rfl, hcv, hb⟩
            obtain ⟨Bf31x3, Cf31x3, rfl⟩ := hcv.isfunc
            have HN := Lib.hid hcv
            clear hcv
            go_wp2_with (fail)
            have HTn := Lib.hid (HT.out.trans (hb.mono HT.out.size))
            replace HT := HTn
            clear HTn
            replace HCF := Lib.hid (HCF.out.kept hb)
            have HCG := HN
            replace hU := heap_keep hb hU
            replace hV := heap_keep hb hV
            clear hb HN
            refine hK.out _ _ ⟨heap_keep HT.out HA.out, heap_keep HT.out HB.out⟩ (fun hHeld => ?_)
            clear hK K hHeld
            try simp only [Act.put, pB, pC, pD]
            have hlU32 := lt_of_heap hU
            have hlV32 := lt_of_heap hV
            have cU32 : d31x3.cell? ⟨d27x1.heap.size, 0, none⟩ = some .nilFunc := cell_of hU rfl
            have fU32 : d31x3.frozen? ⟨d27x1.heap.size, 0, none⟩ = false := frozen_of hU
            have HU1 : Hid ((d31x3.setCell ⟨d27x1.heap.size, 0, none⟩ (.func (.func 43) #[] #[.pointer (some ⟨Bf27x1, 0, none⟩), .pointer (some ⟨Cf27x1, 0, none⟩)])).heap[d27x1.heap.size]? = some (.cells #[(.func (.func 43) #[] #[.pointer (some ⟨Bf27x1, 0, none⟩), .pointer (some ⟨Cf27x1, 0, none⟩)])] 48 (0, 0))) := Lib.hid (set1 hU)
            have HV1 : Hid ((d31x3.setCell ⟨d27x1.heap.size, 0, none⟩ (.func (.func 43) #[] #[.pointer (some ⟨Bf27x1, 0, none⟩), .pointer (some ⟨Cf27x1, 0, none⟩)])).heap[d0.heap.size]? = some (.cells #[.nilFunc] 48 (0, 0))) := Lib.hid ((Below.heap_setCell _ _ _ _ (Ne.symm hUV)).trans hV)
            have HF1 : Hid (CovV (d31x3.setCell ⟨d27x1.heap.size, 0, none⟩ (.func (.func 43) #[] #[.pointer (some ⟨Bf27x1, 0, none⟩), .pointer (some ⟨Cf27x1, 0, none⟩)])) (.func (.func 43) #[] #[.pointer (some ⟨Bf27x1, 0, none⟩), .pointer (some ⟨Cf27x1, 0, none⟩)]) _ _ _ _) := Lib.hid (HCF.out.set hU)
            have HG1 : Hid (CovV (d31x3.setCell ⟨d27x1.heap.size, 0, none⟩ (.func (.func 43) #[] #[.pointer (some ⟨Bf27x1, 0, none⟩), .pointer (some ⟨Cf27x1, 0, none⟩)])) (.func (.func 43) #[] #[.pointer (some ⟨Bf31x3, 0, none⟩), .pointer (some ⟨Cf31x3, 0, none⟩)]) _ _ _ _) := Lib.hid (HCG.out.set hU)
            have HT1 : Hid (Below w0.heap.size w0 (d31x3.setCell ⟨d27x1.heap.size, 0, none⟩ (.func (.func 43) #[] #[.pointer (some ⟨Bf27x1, 0, none⟩), .pointer (some ⟨Cf27x1, 0, none⟩)]))) := Lib.hid (HT.out.setCell hUw _)
            clear hU hV HT HCF HCG
            refine onH 6 (oi := ?_) (by kernel_rfl) ?_ ?_ (fun K hK => ?_); rotate_left; (simp only [gA, gB, gC]; exact rfl); rfl
            go_wp2_with (fail)
            refine hK.out _ _ ⟨heap_keep HT1.out HA.out, heap_keep HT1.out HB.out⟩ (fun hHeld => ?_)
            clear hK K hHeld
            try simp only [Act.put, pB, pC, pD]
            generalize (d31x3.setCell ⟨d27x1.heap.size, 0, none⟩ (.func (.func 43) #[] #[.pointer (some ⟨Bf27x1, 0, none⟩), .pointer (some ⟨Cf27x1, 0, none⟩)])) = e0 at *
            have hV := HV1.out
            have cV32 : e0.cell? ⟨d0.heap.size, 0, none⟩ = some .nilFunc := cell_of hV rfl
            have fV32 : e0.frozen? ⟨d0.heap.size, 0, none⟩ = false := frozen_of hV
            have HU2 : Hid ((e0.setCell ⟨d0.heap.size, 0, none⟩ (.func (.func 43) #[] #[.pointer (some ⟨Bf31x3, 0, none⟩), .pointer (some ⟨Cf31x3, 0, none⟩)])).heap[d27x1.heap.size]? = some (.cells #[(.func (.func 43) #[] #[.pointer (some ⟨Bf27x1, 0, none⟩), .pointer (some ⟨Cf27x1, 0, none⟩)])] 48 (0, 0))) := Lib.hid ((Below.heap_setCell _ _ _ _ hUV).trans HU1.out)
            have HV2 : Hid ((e0.setCell ⟨d0.heap.size, 0, none⟩ (.func (.func 43) #[] #[.pointer (some ⟨Bf31x3, 0, none⟩), .pointer (some ⟨Cf31x3, 0, none⟩)])).heap[d0.heap.size]? = some (.cells #[(.func (.func 43) #[] #[.pointer (some ⟨Bf31x3, 0, none⟩), .pointer (some ⟨Cf31x3, 0, none⟩)])] 48 (0, 0))) := Lib.hid (set1 hV)
            have HF2 : Hid (CovV (e0.setCell ⟨d0.heap.size, 0, none⟩ (.func (.func 43) #[] #[.pointer (some ⟨Bf31x3, 0, none⟩), .pointer (some ⟨Cf31x3, 0, none⟩)])) (.func (.func 43) #[] #[.pointer (some ⟨Bf27x1, 0, none⟩), .pointer (some ⟨Cf27x1, 0, none⟩)]) _ _ _ _) := Lib.hid (HF1.out.set hV)
            have HG2 : Hid (CovV (e0.setCell ⟨d0.heap.size, 0, none⟩ (.func (.func 43) #[] #[.pointer (some ⟨Bf31x3, 0, none⟩), .pointer (some ⟨Cf31x3, 0, none⟩)])) (.func (.func 43) #[] #[.pointer (some ⟨Bf31x3, 0, none⟩), .pointer (some ⟨Cf31x3, 0, none⟩)]) _ _ _ _) := Lib.hid (HG1.out.set hV)
            have HT2 : Hid (Below w0.heap.size w0 (e0.setCell ⟨d0.heap.size, 0, none⟩ (.func (.func 43) #[] #[.pointer (some ⟨Bf31x3, 0, none⟩), .pointer (some ⟨Cf31x3, 0, none⟩)]))) := Lib.hid (HT1.out.setCell hVw _)
            clear hV HT1 HF1 HG1 HU1 HV1
            refine onH 7 (oi := ?_) (by kernel_rfl) ?_ ?_ (fun K hK => ?_); rotate_left; (simp only [gA, gB, gC]; exact rfl); rfl
            go_wp2_with (fail)
            refine hK.out _ _ ⟨heap_keep HT2.out HA.out, heap_keep HT2.out HB.out⟩ (fun hHeld => ?_)
            clear hK K hHeld
            try simp only [Act.put, pB, pC, pD]
            refine wpAnyH_done (by kernel_rfl) ?_ _
            go_wp2_with (fail)
            go_meet
            exact ⟨_, _, rfl, rfl, ⟨_, _, HU2.out, HV2.out, HF2.out, HG2.out⟩, HT2.out⟩
          exact AllReadyH.nil
        exact AllReadyH.nil
      refine coH 4 (oi := ?_) ?_ ?_ (fun K hK => ?_) ?_; rotate_left; (simp only [gA, gB, gC]; exact rfl); rfl
      · go_wp2_with (fail)
        have hb : Below d1x5.heap.size d1x5 (d1x5.alloc (.cells #[.nilFunc] 48)) := (Below.refl _ _).alloc (Nat.le_refl _) _
        have hnew : (d1x5.alloc (.cells #[.nilFunc] 48)).heap[d1x5.heap.size]? = some (.cells #[.nilFunc] 48 (0, 0)) := heap_new rfl
        have hnw : w0.heap.size ≤ d1x5.heap.size := HT.out.size
        have hne : ∀ X o, d1x5.heap[X]? = some o → X ≠ d1x5.heap.size := fun X o h e => by have := lt_of_heap h; omega
        generalize (d1x5.alloc (.cells #[.nilFunc] 48)) = d27x4 at *
        have HTn := Lib.hid (HT.out.trans (hb.mono HT.out.size))
        replace HT := HTn
        clear HTn
        have hUV : d1x5.heap.size ≠ d0.heap.size := fun e => hne _ _ hV e.symm
        have hU := hnew
        have hUw := hnw
        replace hV := heap_keep hb hV
        clear hb hnew hnw hne
        refine hK.out _ _ ⟨heap_keep HT.out HA.out, heap_keep HT.out HB.out⟩ (fun hHeld => ?_)
        clear hK K hHeld
        try simp only [Act.put, pB, pC, pD]
        refine wpAnyH_ready (rs := [1]) (by kernel_rfl) (by simp) ?_
        refine coH 1 (oi := ?_) ?_ ?_ (fun K hK => ?_) ?_; rotate_left; (simp only [gA, gB, gC]; exact rfl); rfl
        · go_wp2_with (fail)
          refine (covers_any a c _ HV1.out (HR1.out.kept HT.out)).mono ?_
          rintro e d33x1 ⟨f33x1, rfl, hcv, hb⟩
          obtain ⟨Bf33x1, Cf33x1, rfl⟩ := hcv.isfunc
          have HN := Lib.hid hcv
          clear hcv
          go_wp2_with (fail)
          have HTn := Lib.hid (HT.out.trans (hb.mono HT.out.size))
          replace HT := HTn
          clear HTn
          have HCF := HN
          replace hU := heap_keep hb hU
          replace hV := heap_keep hb hV
          clear hb HN
          refine hK.out _ _ ⟨heap_keep HT.out HA.out, heap_keep HT.out HB.out⟩ (fun hHeld => ?_)
          clear hK K hHeld
          try simp only [Act.put, pB, pC, pD]
          refine wpAnyH_ready (rs := [3]) (by kernel_rfl) (by simp) ?_
          refine coH 3 (oi := ?_) ?_ ?_ (fun K hK => ?_) ?_; rotate_left; (simp only [gA, gB, gC]; exact rfl); rfl
          · go_wp2_with (fail)
            refine (covers_any a' c' _ HV2.out (HR2.out.kept HT.out)).mono ?_
            rintro e d34x3 ⟨f34x3, rfl, hcv, hb⟩
            obtain ⟨Bf34x3, Cf34x3, rfl⟩ := hcv.isfunc
            have HN := Lib.hid hcv
            clear hcv
            go_wp2_with (fail)
            have HTn := Lib.hid (HT.out.trans (hb.mono HT.out.size))
            replace HT := HTn
            clear HTn
            replace HCF := Lib.hid (HCF.out.kept hb)
            have HCG := HN
            replace hU := heap_keep hb hU
            replace hV := heap_keep hb hV
            clear hb HN
            refine hK.out _ _ ⟨heap_keep HT.out HA.out, heap_keep HT.out HB.out⟩ (fun hHeld => ?_)
            clear hK K hHeld
            try simp only [Act.put, pB, pC, pD]
            have hlU35 := lt_of_heap hU
            have hlV35 := lt_of_heap hV
            have cU35 : d34x3.cell? ⟨d1x5.heap.size, 0, none⟩ = some .nilFunc := cell_of hU rfl
            have fU35 : d34x3.frozen? ⟨d1x5.heap.size, 0, none⟩ = false := frozen_of hU
            have HU1 : Hid ((d34x3.setCell ⟨d1x5.heap.size, 0, none⟩ (.func (.func 43) #[] #[.pointer (some ⟨Bf33x1, 0, none⟩), .pointer (some ⟨Cf33x1, 0, none⟩)])).heap[d1x5.heap.size]? = some (.cells #[(.func (.func 43) #[] #[.pointer (some ⟨Bf33x1, 0, none⟩), .pointer (some ⟨Cf33x1, 0, none⟩)])] 48 (0, 0))) := Lib.hid (set1 hU)
            have HV1 : Hid ((d34x3.setCell ⟨d1x5.heap.size, 0, none⟩ (.func (.func 43) #[] #[.pointer (some ⟨Bf33x1, 0, none⟩), .pointer (some ⟨Cf33x1, 0, none⟩)])).heap[d0.heap.size]? = some (.cells #[.nilFunc] 48 (0, 0))) := Lib.hid ((Below.heap_setCell _ _ _ _ (Ne.symm hUV)).trans hV)
            have HF1 : Hid (CovV (d34x3.setCell ⟨d1x5.heap.size, 0, none⟩ (.func (.func 43) #[] #[.pointer (some ⟨Bf33x1, 0, none⟩), .pointer (some ⟨Cf33x1, 0, none⟩)])) (.func (.func 43) #[] #[.pointer (some ⟨Bf33x1, 0, none⟩), .pointer (some ⟨Cf33x1, 0, none⟩)]) _ _ _ _) := Lib.hid (HCF.out.set hU)
            have HG1 : Hid (CovV (d34x3.setCell ⟨d1x5.heap.size, 0, none⟩ (.func (.func 43) #[] #[.pointer (some ⟨Bf33x1, 0, none⟩), .pointer (some ⟨Cf33x1, 0, none⟩)])) (.func (.func 43) #[] #[.pointer (some ⟨Bf34x3, 0, none⟩), .pointer (some ⟨Cf34x3, 0, none⟩)]) _ _ _ _) := Lib.hid (HCG.out.set hU)
            have HT1 : Hid (Below w0.heap.size w0 (d34x3.setCell ⟨d1x5.heap.size, 0, none⟩ (.func (.func 43) #[] #[.pointer (some ⟨Bf33x1, 0, none⟩), .pointer (some ⟨Cf33x1, 0, none⟩)]))) := Lib.hid (HT.out.setCell hUw _)
            clear hU hV HT HCF HCG
            refine onH 6 (oi := ?_) (by kernel_rfl) ?_ ?_ (fun K hK => ?_); rotate_left; (simp only [gA, gB, gC]; exact rfl); rfl
            go_wp2_with (fail)
            refine hK.out _ _ ⟨heap_keep HT1.out HA.out, heap_keep HT1.out HB.out⟩ (fun hHeld => ?_)
            clear hK K hHeld
            try simp only [Act.put, pB, pC, pD]
            generalize (d34x3.setCell ⟨d1x5.heap.size, 0, none⟩ (.func (.func 43) #[] #[.pointer (some ⟨Bf33x1, 0, none⟩), .pointer (some ⟨Cf33x1, 0, none⟩)])) = e0 at *
            have hV := HV1.out
            have cV35 : e0.cell? ⟨d0.heap.size, 0, none⟩ = some .nilFunc := cell_of hV rfl
            have fV35 : e0.frozen? ⟨d0.heap.size, 0, none⟩ = false := frozen_of hV
            have HU2 : Hid ((e0.setCell ⟨d0.heap.size, 0, none⟩ (.func (.func 43) #[] #[.pointer (some ⟨Bf34x3, 0, none⟩), .pointer (some ⟨Cf34x3, 0, none⟩)])).heap[d1x5.heap.size]? = some (.cells #[(.func (.func 43) #[] #[.pointer (some ⟨Bf33x1, 0, none⟩), .pointer (some ⟨Cf33x1, 0, none⟩)])] 48 (0, 0))) := Lib.hid ((Below.heap_setCell _ _ _ _ hUV).trans HU1.out)
            have HV2 : Hid ((e0.setCell ⟨d0.heap.size, 0, none⟩ (.func (.func 43) #[] #[.pointer (some ⟨Bf34x3, 0, none⟩), .pointer (some ⟨Cf34x3, 0, none⟩)])).heap[d0.heap.size]? = some (.cells #[(.func (.func 43) #[] #[.pointer (some ⟨Bf34x3, 0, none⟩), .pointer (some ⟨Cf34x3, 0, none⟩)])] 48 (0, 0))) := Lib.hid (set1 hV)
            have HF2 : Hid (CovV (e0.setCell ⟨d0.heap.size, 0, none⟩ (.func (.func 43) #[] #[.pointer (some ⟨Bf34x3, 0, none⟩), .pointer (some ⟨Cf34x3, 0, none⟩)])) (.func (.func 43) #[] #[.pointer (some ⟨Bf33x1, 0, none⟩), .pointer (some ⟨Cf33x1, 0, none⟩)]) _ _ _ _) := Lib.hid (HF1.out.set hV)
            have HG2 : Hid (CovV (e0.setCell ⟨d0.heap.size, 0, none⟩ (.func (.func 43) #[] #[.pointer (some ⟨Bf34x3, 0, none⟩), .pointer (some ⟨Cf34x3, 0, none⟩)])) (.func (.func 43) #[] #[.pointer (some ⟨Bf34x3, 0, none⟩), .pointer (some ⟨Cf34x3, 0, none⟩)]) _ _ _ _) := Lib.hid (HG1.out.set hV)
            have HT2 : Hid (Below w0.heap.size w0 (e0.setCell ⟨d0.heap.size, 0, none⟩ (.func (.func 43) #[] #[.pointer (some ⟨Bf34x3, 0, none⟩), .pointer (some ⟨Cf34x3, 0, none⟩)]))) := Lib.hid (HT1.out.setCell hVw _)
            clear hV HT1 HF1 HG1 HU1 HV1
            refine onH 7 (oi := ?_) (by kernel_rfl) ?_ ?_ (fun K hK => ?_); rotate_left; (simp only [gA, gB, gC]; exact rfl); rfl
            go_wp2_with (fail)
            refine hK.out _ _ ⟨heap_keep HT2.out HA.out, heap_keep HT2.out HB.out⟩ (fun hHeld => ?_)
            clear hK K hHeld
            try simp only [Act.put, pB, pC, pD]
            refine wpAnyH_done (by kernel_rfl) ?_ _
            go_wp2_with (fail)
            go_meet
            exact ⟨_, _, rfl, rfl, ⟨_, _, HU2.out, HV2.out, HF2.out, HG2.out⟩, HT2.out⟩
          exact AllReadyH.nil
        exact AllReadyH.nil
      exact AllReadyH.nil
    exact AllReadyH.nil
  case rest =>
    obtain ⟨U, V, rfl, rfl, hpair, hbx⟩ := hcut
    have hHA := heap_keep hbx HA.out
    have hHB := heap_keep hbx HB.out
    have hHZ := heap_keep hbx HZ.out
    have HWx := Lib.hid (HW0.out.trans (hbx.mono HW0.out.size))
    replace HR1 := Lib.hid (HR1.out.kept hbx)
    replace HR2 := Lib.hid (HR2.out.kept hbx)
    clear HA HB HZ HW HW0 hbx
    have HA := Lib.hid hHA
    have HB := Lib.hid hHB
    have HZ := Lib.hid hHZ
    clear hHA hHB hHZ
    go_wp2_with (fail)
    have hlz := lt_of_heap HZ.out
    refine wp_region_held_drew (S := (fun w' => w'.heap[w.heap.size]? = some (.cells #[.int .i64 s, .int .i64 x, .int .i64 y, .slice a n c] 28 (0, 0)) ∧ w'.heap[w.heap.size + 1]? = some (.cells #[.int .i64 s', .int .i64 x', .int .i64 y', .slice a' n' c'] 28 (0, 0)))) (by kernel_rfl) ⟨HA.out, HB.out⟩ (fun hHeld => ?_)
    refine tkH (by assumption) 0 (oi := ?_) (v := ?_) ?_ ?_ ?_ ?_ ?_ ?_ ?_ ?_; rotate_left 2; (simp only [gA, gB, gC]; exact rfl); kernel_rfl; kernel_rfl; kernel_rfl; exact fun _ _ _ h => h; rfl; (intro w' hSw; go_simp; with_reducible rfl); simp only [Act.put, pB, pC, pD]
    refine tkH (by assumption) 1 (oi := ?_) (v := ?_) ?_ ?_ ?_ ?_ ?_ ?_ ?_ ?_; rotate_left 2; (simp only [gA, gB, gC]; exact rfl); kernel_rfl; kernel_rfl; kernel_rfl; exact fun _ _ _ h => h; rfl; (intro w' hSw; obtain ⟨hs1, hs2⟩ := hSw; have z0 := cell_of (i := 0) hs1 rfl; have z1 := cell_of (i := 1) hs1 rfl; have z2 := cell_of (i := 2) hs1 rfl; have z3 := cell_of (i := 3) hs1 rfl; clear hs1 hs2; go_simp; with_reducible rfl); simp only [Act.put, pB, pC, pD]
    refine tkH (by assumption) 2 (oi := ?_) (v := ?_) ?_ ?_ ?_ ?_ ?_ ?_ ?_ ?_; rotate_left 2; (simp only [gA, gB, gC]; exact rfl); kernel_rfl; kernel_rfl; kernel_rfl; exact fun _ _ _ h => h; rfl; (intro w' hSw; obtain ⟨hs1, hs2⟩ := hSw; have z0 := cell_of (i := 0) hs1 rfl; have z1 := cell_of (i := 1) hs1 rfl; have z2 := cell_of (i := 2) hs1 rfl; have z3 := cell_of (i := 3) hs1 rfl; clear hs1 hs2; go_simp; with_reducible rfl); simp only [Act.put, pB, pC, pD]
    refine tkH (by assumption) 4 (oi := ?_) (v := ?_) ?_ ?_ ?_ ?_ ?_ ?_ ?_ ?_; rotate_left 2; (simp only [gA, gB, gC]; exact rfl); kernel_rfl; kernel_rfl; kernel_rfl; exact fun _ _ _ h => h; rfl; (intro w' hSw; obtain ⟨hs1, hs2⟩ := hSw; have z0 := cell_of (i := 0) hs2 rfl; have z1 := cell_of (i := 1) hs2 rfl; have z2 := cell_of (i := 2) hs2 rfl; have z3 := cell_of (i := 3) hs2 rfl; clear hs1 hs2; go_simp; with_reducible rfl); simp only [Act.put, pB, pC, pD]
    refine tkH (by assumption) 7 (oi := ?_) (v := ?_) ?_ ?_ ?_ ?_ ?_ ?_ ?_ ?_; rotate_left 2; (simp only [gA, gB, gC]; exact rfl); kernel_rfl; kernel_rfl; kernel_rfl; exact fun _ _ _ h => h; rfl; (intro w' hSw; go_simp; with_reducible rfl); simp only [Act.put, pB, pC, pD]
    clear hHeld
    have HT : Hid (Below wc.heap.size wc wc.drew) := Lib.hid (Below.refl _ _).drew
    have HP := Lib.hid (hpair.kept (Below.refl _ _).drew)
    clear hpair
    generalize wc.drew = g0 at *
    refine onH 3 (oi := ?_) (by kernel_rfl) ?_ ?_ (fun K hK => ?_); rotate_left; (simp only [gA, gB, gC]; exact rfl); rfl
    go_wp2_with (fail)
    refine (boxOf_any a c _ HV1.out (HR1.out.kept HT.out)).mono ?_
    rintro e g1 ⟨rfl, hb⟩
    replace HT := Lib.hid (HT.out.trans (hb.mono HT.out.size))
    replace HP := Lib.hid (HP.out.kept hb)
    clear hb
    go_wp2_with (fail)
    refine hK.out _ _ ⟨heap_keep HT.out HA.out, heap_keep HT.out HB.out⟩ (fun hHeld => ?_)
    clear hK K hHeld
    try simp only [Act.put, pB, pC, pD]
    refine onH 5 (oi := ?_) (by kernel_rfl) ?_ ?_ (fun K hK => ?_); rotate_left; (simp only [gA, gB, gC]; exact rfl); rfl
    go_wp2_with (fail)
    refine (boxOf_any a' c' _ HV2.out (HR2.out.kept HT.out)).mono ?_
    rintro e g2 ⟨rfl, hb⟩
    replace HT := Lib.hid (HT.out.trans (hb.mono HT.out.size))
    replace HP := Lib.hid (HP.out.kept hb)
    clear hb
    go_wp2_with (fail)
    refine hK.out _ _ ⟨heap_keep HT.out HA.out, heap_keep HT.out HB.out⟩ (fun hHeld => ?_)
    clear hK K hHeld
    try simp only [Act.put, pB, pC, pD]
    refine onH 6 (oi := ?_) (by kernel_rfl) ?_ ?_ (fun K hK => ?_); rotate_left; (simp only [gA, gB, gC]; exact rfl); rfl
    go_wp2_with (fail)
    refine (joined_all _ _ _ _ _ _ _ _ _ HV1.out.box HV2.out.box).mono ?_
    rintro e g3 ⟨L, B, Rt, H, rfl, hj, hb⟩
    obtain ⟨o1, o2, o3, o4, o5, o6⟩ := join_box HV1.out HV2.out hj HPI.out
    have O5 := Lib.hid o5
    have O6 := Lib.hid o6
    clear o5 o6 hj
    replace HT := Lib.hid (HT.out.trans (hb.mono HT.out.size))
    replace HP := Lib.hid (HP.out.kept hb)
    clear hb
    go_wp2_with (fail)
    refine hK.out _ _ ⟨heap_keep HT.out HA.out, heap_keep HT.out HB.out⟩ (fun hHeld => ?_)
    clear hK K hHeld
    try simp only [Act.put, pB, pC, pD]
    refine onH 8 (oi := ?_) (by kernel_rfl) ?_ ?_ (fun K hK => ?_); rotate_left; (simp only [gA, gB, gC]; exact rfl); rfl
    go_wp2_with (fail)
    refine (drawnUnion_any U V P s L B Rt H _ HP.out HPQ.out o1 o2 o3 o4 HV1.out.s2 HV1.out.st O5.out O6.out).mono ?_
    rintro e g4 ⟨ez, ex, ey, ea, en, ec, eR, eE, rfl, hare, hrow, hfr, hn1, hn2, hn3, hb⟩
    have hg3 := HT.out.size
    replace HT := Lib.hid (HT.out.trans (hb.mono HT.out.size))
    replace HP := Lib.hid (HP.out.kept hb)
    clear hb
    go_wp2_with (fail)
    refine hK.out _ _ ⟨heap_keep HT.out HA.out, heap_keep HT.out HB.out⟩ (fun hHeld => ?_)
    clear hK K  
    try simp only [Act.put, pB, pC, pD]
    refine tkH (by assumption) 9 (oi := ?_) (v := ?_) ?_ ?_ ?_ ?_ ?_ ?_ ?_ ?_; rotate_left 2; (simp only [gA, gB, gC]; exact rfl); kernel_rfl; kernel_rfl; kernel_rfl; exact fun _ _ _ h => h; rfl; (intro w' hSw; go_simp; with_reducible rfl); simp only [Act.put, pB, pC, pD]
    refine tkH (by assumption) 10 (oi := ?_) (v := ?_) ?_ ?_ ?_ ?_ ?_ ?_ ?_ ?_; rotate_left 2; (simp only [gA, gB, gC]; exact rfl); kernel_rfl; kernel_rfl; kernel_rfl; exact fun _ _ _ h => h; rfl; (intro w' hSw; go_simp; with_reducible rfl); simp only [Act.put, pB, pC, pD]
    have hz := heap_keep HT.out HZ.out
    have z0 : g4.cell? ⟨w.heap.size + 1 + 1, 0, none⟩ = some (.int .i64 0) := cell_of hz rfl
    have zf0 : g4.frozen? ⟨w.heap.size + 1 + 1, 0, none⟩ = false := frozen_of hz
    have z1 : g4.cell? ⟨w.heap.size + 1 + 1, 1, none⟩ = some (.int .i64 0) := cell_of hz rfl
    have zf1 : g4.frozen? ⟨w.heap.size + 1 + 1, 1, none⟩ = false := frozen_of hz
    have z2 : g4.cell? ⟨w.heap.size + 1 + 1, 2, none⟩ = some (.int .i64 0) := cell_of hz rfl
    have zf2 : g4.frozen? ⟨w.heap.size + 1 + 1, 2, none⟩ = false := frozen_of hz
    have z3 : g4.cell? ⟨w.heap.size + 1 + 1, 3, none⟩ = some (.slice none 0 0) := cell_of hz rfl
    have zf3 : g4.frozen? ⟨w.heap.size + 1 + 1, 3, none⟩ = false := frozen_of hz
    have HA4 : Hid (((((g4.setCell ⟨w.heap.size + 1 + 1, 0, none⟩ (.int .i64 ez)).setCell ⟨w.heap.size + 1 + 1, 1, none⟩ (.int .i64 ex)).setCell ⟨w.heap.size + 1 + 1, 2, none⟩ (.int .i64 ey)).setCell ⟨w.heap.size + 1 + 1, 3, none⟩ (.slice ea en ec)).heap[w.heap.size]? = some (.cells #[.int .i64 s, .int .i64 x, .int .i64 y, .slice a n c] 28 (0, 0))) := Lib.hid ((keep4 (by omega)).trans (heap_keep HT.out HA.out))
    have HB4 : Hid (((((g4.setCell ⟨w.heap.size + 1 + 1, 0, none⟩ (.int .i64 ez)).setCell ⟨w.heap.size + 1 + 1, 1, none⟩ (.int .i64 ex)).setCell ⟨w.heap.size + 1 + 1, 2, none⟩ (.int .i64 ey)).setCell ⟨w.heap.size + 1 + 1, 3, none⟩ (.slice ea en ec)).heap[w.heap.size + 1]? = some (.cells #[.int .i64 s', .int .i64 x', .int .i64 y', .slice a' n' c'] 28 (0, 0))) := Lib.hid ((keep4 (by omega)).trans (heap_keep HT.out HB.out))
    have HWB := Lib.hid (HWx.out.trans (HT.out.mono HWx.out.size))
    have hne : ∀ b off, ea = some ⟨b, off, none⟩ → b ≠ w.heap.size + 1 + 1 := fun b off h => by have := hfr b off h; omega
    have HARE := Lib.hid hare
    have HFR := Lib.hid (fun b off h => Nat.le_trans (Nat.le_trans HWx.out.size hg3) (hfr b off h))
    have HRW : Hid (RowS ((((g4.setCell ⟨w.heap.size + 1 + 1, 0, none⟩ (.int .i64 ez)).setCell ⟨w.heap.size + 1 + 1, 1, none⟩ (.int .i64 ex)).setCell ⟨w.heap.size + 1 + 1, 2, none⟩ (.int .i64 ey)).setCell ⟨w.heap.size + 1 + 1, 3, none⟩ (.slice ea en ec)) ea en eR) := Lib.hid ((((hrow.set _ _ hne).set _ _ hne).set _ _ hne).set _ _ hne)
    have HN3 := Lib.hid hn3
    clear hz hne hrow hfr hare hn3
    refine onH 11 (oi := ?_) (by kernel_rfl) ?_ ?_ (fun K hK => ?_); rotate_left; (simp only [gA, gB, gC]; exact rfl); rfl
    go_wp2_with (fail)
    refine hK.out _ _ ⟨HA4.out, HB4.out⟩ (fun hHeld => ?_)
    clear hK K HA4 HB4
    try simp only [Act.put, pB, pC, pD]
    refine tkH (by assumption) 12 (oi := ?_) (v := ?_) ?_ ?_ ?_ ?_ ?_ ?_ ?_ ?_; rotate_left 2; (simp only [gA, gB, gC]; exact rfl); kernel_rfl; kernel_rfl; kernel_rfl; exact fun _ _ _ h => h; rfl; (intro w' hSw; go_simp; with_reducible rfl); simp only [Act.put, pB, pC, pD]
    refine wpAnyH_done (by kernel_rfl) ?_ _
    go_wp2_with (fail)
    obtain ⟨r0, r1, r2, r3⟩ := set4 (w := g4) (R := w.heap.size + 1 + 1) (x0 := (.int .i64 ez)) (x1 := (.int .i64 ex)) (x2 := (.int .i64 ey)) (x3 := (.slice ea en ec)) (is4 (is_some z0) (is_some z1) (is_some z2) (is_some z3)) rfl
    have HF : Hid (Below w.heap.size w ((((g4.setCell ⟨w.heap.size + 1 + 1, 0, none⟩ (.int .i64 ez)).setCell ⟨w.heap.size + 1 + 1, 1, none⟩ (.int .i64 ex)).setCell ⟨w.heap.size + 1 + 1, 2, none⟩ (.int .i64 ey)).setCell ⟨w.heap.size + 1 + 1, 3, none⟩ (.slice ea en ec))) := Lib.hid ((((HWB.out.setCell (by show _ ≤ w.heap.size + 1 + 1; omega) _).setCell (by show _ ≤ w.heap.size + 1 + 1; omega) _).setCell (by show _ ≤ w.heap.size + 1 + 1; omega) _).setCell (by show _ ≤ w.heap.size + 1 + 1; omega) _)
    generalize ((((g4.setCell ⟨w.heap.size + 1 + 1, 0, none⟩ (.int .i64 ez)).setCell ⟨w.heap.size + 1 + 1, 1, none⟩ (.int .i64 ex)).setCell ⟨w.heap.size + 1 + 1, 2, none⟩ (.int .i64 ey)).setCell ⟨w.heap.size + 1 + 1, 3, none⟩ (.slice ea en ec)) = WW at *
    exact bodyPost_ret (v := .tuple #[.agg #[.int .i64 ez, .int .i64 ex, .int .i64 ey, .slice ea en ec], .int .i64 eE]) (by simp [results, Tryz.results8, go_sem, r0, r1, r2, r3]) rfl ⟨ez, ex, ey, ea, en, ec, eR, eE, rfl, HARE.out, HRW.out, HFR.out, hn1, hn2, HN3.out, HF.out⟩
end Go.Proofs.YtllagjncibfcmaaGreatDoor

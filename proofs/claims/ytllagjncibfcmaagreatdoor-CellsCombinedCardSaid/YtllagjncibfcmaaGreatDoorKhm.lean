/- Minus of two cells. -/
import Derived.Test.YtllagjncibfcmaaGreatDoorKj
set_option linter.unusedSimpArgs false
set_option linter.unusedVariables false
namespace Go.Proofs.YtllagjncibfcmaaGreatDoor
open Go.RowKit

set_option maxRecDepth 100000 in
set_option maxHeartbeats 16000000 in
theorem twoMinus_any (s x y : Int) (a : Option Addr) (n c : Nat) (R : Nat → List UInt8) (s' x' y' : Int) (a' : Option Addr) (n' c' : Nat) (R' : Nat → List UInt8) (w : World) (cx cy dx dy : Int) (m m' : Nat) (hv1 : VC s x y n R cx cy m) (hv2 : VC s' x' y' n' R' dx dy m') (P : Int → Int → Bool) (hPQ : ∀ p q, P p q = (covB cx cy n R p q && !covB dx dy n' R' p q)) (hPI : ∀ p q, P p q = true → covB cx cy n R p q = true) (hr : RowS w a n R) (hr' : RowS w a' n' R') (hl : ∀ i, i < n → (R i).length ≤ 1000000) (hn : n ≤ 1000000) (hl' : ∀ i, i < n' → (R' i).length ≤ 1000000) (hn' : n' ≤ 1000000) (h0 : combE s x y n R s' x' y' n' R' = 0) :
    Calls Tryz.prog 12 #[.agg #[.int .i64 s, .int .i64 x, .int .i64 y, .slice a n c], .agg #[.int .i64 s', .int .i64 x', .int .i64 y', .slice a' n' c']] w (CellsRes P s w) := by
  have HE := Lib.hid h0
  have HPQ := Lib.hid hPQ
  have HPI := Lib.hid hPI
  have HRa := Lib.hid hr
  have HRb := Lib.hid hr'
  have HLa := Lib.hid hl
  have HLb := Lib.hid hl'
  have HV1 := Lib.hid hv1
  have HV2 := Lib.hid hv2
  clear hr hr' h0 hl hl' hv1 hv2 hPQ hPI
  go_enter Tryz.func12, Tryz.ntmps12
  go_wp2_with (fail)
  have HW : Hid (Below w.heap.size w (((w.alloc (.cells #[.int .i64 s, .int .i64 x, .int .i64 y, .slice a n c] 28)).alloc (.cells #[.int .i64 s', .int .i64 x', .int .i64 y', .slice a' n' c'] 28)).alloc (.cells #[.int .i64 0, .int .i64 0, .int .i64 0, .slice none 0 0] 28))) := Lib.hid (by repeat (first | exact Below.refl _ _ | assumption | refine Below.drew ?_ | refine bdrewN ?_ _ | refine Below.setCell ?_ (by first | omega | (simp <;> omega)) _ | refine Below.alloc ?_ (by first | omega | (simp <;> omega)) _))
  have HA : Hid ((((w.alloc (.cells #[.int .i64 s, .int .i64 x, .int .i64 y, .slice a n c] 28)).alloc (.cells #[.int .i64 s', .int .i64 x', .int .i64 y', .slice a' n' c'] 28)).alloc (.cells #[.int .i64 0, .int .i64 0, .int .i64 0, .slice none 0 0] 28)).heap[w.heap.size]? = some (.cells #[.int .i64 s, .int .i64 x, .int .i64 y, .slice a n c] 28 (0, 0))) := Lib.hid (by repeat (first | (refine heap_new ?_; first | rfl | (simp; done)) | rw [Below.heap_alloc _ _ _ (by simp <;> omega)]))
  have HB : Hid ((((w.alloc (.cells #[.int .i64 s, .int .i64 x, .int .i64 y, .slice a n c] 28)).alloc (.cells #[.int .i64 s', .int .i64 x', .int .i64 y', .slice a' n' c'] 28)).alloc (.cells #[.int .i64 0, .int .i64 0, .int .i64 0, .slice none 0 0] 28)).heap[w.heap.size + 1]? = some (.cells #[.int .i64 s', .int .i64 x', .int .i64 y', .slice a' n' c'] 28 (0, 0))) := Lib.hid (by repeat (first | (refine heap_new ?_; first | rfl | (simp; done)) | rw [Below.heap_alloc _ _ _ (by simp <;> omega)]))
  have HZ : Hid ((((w.alloc (.cells #[.int .i64 s, .int .i64 x, .int .i64 y, .slice a n c] 28)).alloc (.cells #[.int .i64 s', .int .i64 x', .int .i64 y', .slice a' n' c'] 28)).alloc (.cells #[.int .i64 0, .int .i64 0, .int .i64 0, .slice none 0 0] 28)).heap[w.heap.size + 1 + 1]? = some (.cells #[.int .i64 0, .int .i64 0, .int .i64 0, .slice none 0 0] 28 (0, 0))) := Lib.hid (by repeat (first | (refine heap_new ?_; first | rfl | (simp; done)) | rw [Below.heap_alloc _ _ _ (by simp <;> omega)]))
  generalize (((w.alloc (.cells #[.int .i64 s, .int .i64 x, .int .i64 y, .slice a n c] 28)).alloc (.cells #[.int .i64 s', .int .i64 x', .int .i64 y', .slice a' n' c'] 28)).alloc (.cells #[.int .i64 0, .int .i64 0, .int .i64 0, .slice none 0 0] 28)) = v0 at *
  refine (checkBoth_any s x y a n c R s' x' y' a' n' c' R' _ (HRa.out.kept HW.out) HLa.out hn (HRb.out.kept HW.out) HLb.out hn').mono ?_
  rintro e w0 ⟨rfl, hb⟩
  rw [HE.out]
  replace HA := Lib.hid (heap_keep hb HA.out)
  replace HB := Lib.hid (heap_keep hb HB.out)
  replace HZ := Lib.hid (heap_keep hb HZ.out)
  have HW0 := Lib.hid (HW.out.trans (hb.mono HW.out.size))
  have HR1 := Lib.hid (HRa.out.kept HW0.out)
  have HR2 := Lib.hid (HRb.out.kept HW0.out)
  clear hb
  go_upto_region 4 with (fail)
  go_cut [7, 8] from 16 to 20 (TwoE w0 cx cy n R dx dy n' R')
  case first =>
    refine wp_region_held_drew (S := (fun w' => w'.heap[w.heap.size]? = some (.cells #[.int .i64 s, .int .i64 x, .int .i64 y, .slice a n c] 28 (0, 0)) ∧ w'.heap[w.heap.size + 1]? = some (.cells #[.int .i64 s', .int .i64 x', .int .i64 y', .slice a' n' c'] 28 (0, 0)))) (by kernel_rfl) ⟨HA.out, HB.out⟩ (fun hHeld => ?_)
    refine tkH (by assumption) 0 (oi := ?_) (v := ?_) ?_ ?_ ?_ ?_ ?_ ?_ ?_ ?_; rotate_left 2; (simp only [gA, gB, gC]; exact rfl); kernel_rfl; kernel_rfl; kernel_rfl; exact fun _ _ _ h => h; rfl; (intro w' hSw; obtain ⟨hs1, hs2⟩ := hSw; have z0 := cell_of (i := 0) hs1 rfl; have z1 := cell_of (i := 1) hs1 rfl; have z2 := cell_of (i := 2) hs1 rfl; have z3 := cell_of (i := 3) hs1 rfl; clear hs1 hs2; go_simp; with_reducible rfl); simp only [Act.put, pB, pC, pD]
    refine tkH (by assumption) 2 (oi := ?_) (v := ?_) ?_ ?_ ?_ ?_ ?_ ?_ ?_ ?_; rotate_left 2; (simp only [gA, gB, gC]; exact rfl); kernel_rfl; kernel_rfl; kernel_rfl; exact fun _ _ _ h => h; rfl; (intro w' hSw; obtain ⟨hs1, hs2⟩ := hSw; have z0 := cell_of (i := 0) hs2 rfl; have z1 := cell_of (i := 1) hs2 rfl; have z2 := cell_of (i := 2) hs2 rfl; have z3 := cell_of (i := 3) hs2 rfl; clear hs1 hs2; go_simp; with_reducible rfl); simp only [Act.put, pB, pC, pD]
    clear hHeld
    have HT : Hid (Below w0.heap.size w0 w0.drew) := Lib.hid (Below.refl _ _).drew
    generalize w0.drew = d0 at *
    refine wpAnyH_ready (rs := [1, 4, 5]) (by kernel_rfl) (by simp) ?_
    refine coH 1 (oi := ?_) ?_ ?_ (fun K hK => ?_) ?_; rotate_left; (simp only [gA, gB, gC]; exact rfl); rfl
    · go_wp2_with (fail)
      refine (covers_any a c _ HV1.out (HR1.out.kept HT.out)).mono ?_
      rintro e d73x1 ⟨f73x1, rfl, hcv, hb⟩
      obtain ⟨Bf73x1, Cf73x1, rfl⟩ := hcv.isfunc
      have HN := Lib.hid hcv
      clear hcv
      go_wp2_with (fail)
      have HTn := Lib.hid (HT.out.trans (hb.mono HT.out.size))
      replace HT := HTn
      clear HTn
      have HCF := HN
      clear hb HN
      refine hK.out _ _ ⟨heap_keep HT.out HA.out, heap_keep HT.out HB.out⟩ (fun hHeld => ?_)
      clear hK K hHeld
      try simp only [Act.put, pB, pC, pD]
      refine wpAnyH_ready (rs := [3, 4, 5]) (by kernel_rfl) (by simp) ?_
      refine coH 3 (oi := ?_) ?_ ?_ (fun K hK => ?_) ?_; rotate_left; (simp only [gA, gB, gC]; exact rfl); rfl
      · go_wp2_with (fail)
        refine (covers_any a' c' _ HV2.out (HR2.out.kept HT.out)).mono ?_
        rintro e d74x3 ⟨f74x3, rfl, hcv, hb⟩
        obtain ⟨Bf74x3, Cf74x3, rfl⟩ := hcv.isfunc
        have HN := Lib.hid hcv
        clear hcv
        go_wp2_with (fail)
        have HTn := Lib.hid (HT.out.trans (hb.mono HT.out.size))
        replace HT := HTn
        clear HTn
        replace HCF := Lib.hid (HCF.out.kept hb)
        have HCG := HN
        clear hb HN
        refine hK.out _ _ ⟨heap_keep HT.out HA.out, heap_keep HT.out HB.out⟩ (fun hHeld => ?_)
        clear hK K hHeld
        try simp only [Act.put, pB, pC, pD]
        refine wpAnyH_ready (rs := [4, 5]) (by kernel_rfl) (by simp) ?_
        refine coH 4 (oi := ?_) ?_ ?_ (fun K hK => ?_) ?_; rotate_left; (simp only [gA, gB, gC]; exact rfl); rfl
        · go_wp2_with (fail)
          have hb : Below d74x3.heap.size d74x3 (d74x3.alloc (.cells #[.nilFunc] 48)) := (Below.refl _ _).alloc (Nat.le_refl _) _
          have hnew : (d74x3.alloc (.cells #[.nilFunc] 48)).heap[d74x3.heap.size]? = some (.cells #[.nilFunc] 48 (0, 0)) := heap_new rfl
          have hnw : w0.heap.size ≤ d74x3.heap.size := HT.out.size
          have hne : ∀ X o, d74x3.heap[X]? = some o → X ≠ d74x3.heap.size := fun X o h e => by have := lt_of_heap h; omega
          generalize (d74x3.alloc (.cells #[.nilFunc] 48)) = d75x4 at *
          have HTn := Lib.hid (HT.out.trans (hb.mono HT.out.size))
          replace HT := HTn
          clear HTn
          replace HCF := Lib.hid (HCF.out.kept hb)
          replace HCG := Lib.hid (HCG.out.kept hb)
          have hU := hnew
          have hUw := hnw
          clear hb hnew hnw hne
          refine hK.out _ _ ⟨heap_keep HT.out HA.out, heap_keep HT.out HB.out⟩ (fun hHeld => ?_)
          clear hK K hHeld
          try simp only [Act.put, pB, pC, pD]
          refine wpAnyH_ready (rs := [5]) (by kernel_rfl) (by simp) ?_
          refine coH 5 (oi := ?_) ?_ ?_ (fun K hK => ?_) ?_; rotate_left; (simp only [gA, gB, gC]; exact rfl); rfl
          · go_wp2_with (fail)
            have hb : Below d75x4.heap.size d75x4 (d75x4.alloc (.cells #[.nilFunc] 48)) := (Below.refl _ _).alloc (Nat.le_refl _) _
            have hnew : (d75x4.alloc (.cells #[.nilFunc] 48)).heap[d75x4.heap.size]? = some (.cells #[.nilFunc] 48 (0, 0)) := heap_new rfl
            have hnw : w0.heap.size ≤ d75x4.heap.size := HT.out.size
            have hne : ∀ X o, d75x4.heap[X]? = some o → X ≠ d75x4.heap.size := fun X o h e => by have := lt_of_heap h; omega
            generalize (d75x4.alloc (.cells #[.nilFunc] 48)) = d76x5 at *
            have HTn := Lib.hid (HT.out.trans (hb.mono HT.out.size))
            replace HT := HTn
            clear HTn
            replace HCF := Lib.hid (HCF.out.kept hb)
            replace HCG := Lib.hid (HCG.out.kept hb)
            have hUV : d74x3.heap.size ≠ d75x4.heap.size := fun e => hne _ _ hU e
            have hV := hnew
            have hVw := hnw
            replace hU := heap_keep hb hU
            clear hb hnew hnw hne
            refine hK.out _ _ ⟨heap_keep HT.out HA.out, heap_keep HT.out HB.out⟩ (fun hHeld => ?_)
            clear hK K hHeld
            try simp only [Act.put, pB, pC, pD]
            have hlU77 := lt_of_heap hU
            have hlV77 := lt_of_heap hV
            have cU77 : d76x5.cell? ⟨d74x3.heap.size, 0, none⟩ = some .nilFunc := cell_of hU rfl
            have fU77 : d76x5.frozen? ⟨d74x3.heap.size, 0, none⟩ = false := frozen_of hU
            have HU1 : Hid ((d76x5.setCell ⟨d74x3.heap.size, 0, none⟩ (.func (.func 43) #[] #[.pointer (some ⟨Bf73x1, 0, none⟩), .pointer (some ⟨Cf73x1, 0, none⟩)])).heap[d74x3.heap.size]? = some (.cells #[(.func (.func 43) #[] #[.pointer (some ⟨Bf73x1, 0, none⟩), .pointer (some ⟨Cf73x1, 0, none⟩)])] 48 (0, 0))) := Lib.hid (set1 hU)
            have HV1 : Hid ((d76x5.setCell ⟨d74x3.heap.size, 0, none⟩ (.func (.func 43) #[] #[.pointer (some ⟨Bf73x1, 0, none⟩), .pointer (some ⟨Cf73x1, 0, none⟩)])).heap[d75x4.heap.size]? = some (.cells #[.nilFunc] 48 (0, 0))) := Lib.hid ((Below.heap_setCell _ _ _ _ (Ne.symm hUV)).trans hV)
            have HF1 : Hid (CovV (d76x5.setCell ⟨d74x3.heap.size, 0, none⟩ (.func (.func 43) #[] #[.pointer (some ⟨Bf73x1, 0, none⟩), .pointer (some ⟨Cf73x1, 0, none⟩)])) (.func (.func 43) #[] #[.pointer (some ⟨Bf73x1, 0, none⟩), .pointer (some ⟨Cf73x1, 0, none⟩)]) _ _ _ _) := Lib.hid (HCF.out.set hU)
            have HG1 : Hid (CovV (d76x5.setCell ⟨d74x3.heap.size, 0, none⟩ (.func (.func 43) #[] #[.pointer (some ⟨Bf73x1, 0, none⟩), .pointer (some ⟨Cf73x1, 0, none⟩)])) (.func (.func 43) #[] #[.pointer (some ⟨Bf74x3, 0, none⟩), .pointer (some ⟨Cf74x3, 0, none⟩)]) _ _ _ _) := Lib.hid (HCG.out.set hU)
            have HT1 : Hid (Below w0.heap.size w0 (d76x5.setCell ⟨d74x3.heap.size, 0, none⟩ (.func (.func 43) #[] #[.pointer (some ⟨Bf73x1, 0, none⟩), .pointer (some ⟨Cf73x1, 0, none⟩)]))) := Lib.hid (HT.out.setCell hUw _)
            clear hU hV HT HCF HCG
            refine onH 6 (oi := ?_) (by kernel_rfl) ?_ ?_ (fun K hK => ?_); rotate_left; (simp only [gA, gB, gC]; exact rfl); rfl
            go_wp2_with (fail)
            refine hK.out _ _ ⟨heap_keep HT1.out HA.out, heap_keep HT1.out HB.out⟩ (fun hHeld => ?_)
            clear hK K hHeld
            try simp only [Act.put, pB, pC, pD]
            generalize (d76x5.setCell ⟨d74x3.heap.size, 0, none⟩ (.func (.func 43) #[] #[.pointer (some ⟨Bf73x1, 0, none⟩), .pointer (some ⟨Cf73x1, 0, none⟩)])) = e0 at *
            have hV := HV1.out
            have cV77 : e0.cell? ⟨d75x4.heap.size, 0, none⟩ = some .nilFunc := cell_of hV rfl
            have fV77 : e0.frozen? ⟨d75x4.heap.size, 0, none⟩ = false := frozen_of hV
            have HU2 : Hid ((e0.setCell ⟨d75x4.heap.size, 0, none⟩ (.func (.func 43) #[] #[.pointer (some ⟨Bf74x3, 0, none⟩), .pointer (some ⟨Cf74x3, 0, none⟩)])).heap[d74x3.heap.size]? = some (.cells #[(.func (.func 43) #[] #[.pointer (some ⟨Bf73x1, 0, none⟩), .pointer (some ⟨Cf73x1, 0, none⟩)])] 48 (0, 0))) := Lib.hid ((Below.heap_setCell _ _ _ _ hUV).trans HU1.out)
            have HV2 : Hid ((e0.setCell ⟨d75x4.heap.size, 0, none⟩ (.func (.func 43) #[] #[.pointer (some ⟨Bf74x3, 0, none⟩), .pointer (some ⟨Cf74x3, 0, none⟩)])).heap[d75x4.heap.size]? = some (.cells #[(.func (.func 43) #[] #[.pointer (some ⟨Bf74x3, 0, none⟩), .pointer (some ⟨Cf74x3, 0, none⟩)])] 48 (0, 0))) := Lib.hid (set1 hV)
            have HF2 : Hid (CovV (e0.setCell ⟨d75x4.heap.size, 0, none⟩ (.func (.func 43) #[] #[.pointer (some ⟨Bf74x3, 0, none⟩), .pointer (some ⟨Cf74x3, 0, none⟩)])) (.func (.func 43) #[] #[.pointer (some ⟨Bf73x1, 0, none⟩), .pointer (some ⟨Cf73x1, 0, none⟩)]) _ _ _ _) := Lib.hid (HF1.out.set hV)
            have HG2 : Hid (CovV (e0.setCell ⟨d75x4.heap.size, 0, none⟩ (.func (.func 43) #[] #[.pointer (some ⟨Bf74x3, 0, none⟩), .pointer (some ⟨Cf74x3, 0, none⟩)])) (.func (.func 43) #[] #[.pointer (some ⟨Bf74x3, 0, none⟩), .pointer (some ⟨Cf74x3, 0, none⟩)]) _ _ _ _) := Lib.hid (HG1.out.set hV)
            have HT2 : Hid (Below w0.heap.size w0 (e0.setCell ⟨d75x4.heap.size, 0, none⟩ (.func (.func 43) #[] #[.pointer (some ⟨Bf74x3, 0, none⟩), .pointer (some ⟨Cf74x3, 0, none⟩)]))) := Lib.hid (HT1.out.setCell hVw _)
            clear hV HT1 HF1 HG1 HU1 HV1
            refine onH 7 (oi := ?_) (by kernel_rfl) ?_ ?_ (fun K hK => ?_); rotate_left; (simp only [gA, gB, gC]; exact rfl); rfl
            go_wp2_with (fail)
            refine hK.out _ _ ⟨heap_keep HT2.out HA.out, heap_keep HT2.out HB.out⟩ (fun hHeld => ?_)
            clear hK K hHeld
            try simp only [Act.put, pB, pC, pD]
            refine wpAnyH_done (by kernel_rfl) ?_ _
            go_wp2_with (fail)
            go_meet
            exact ⟨_, _, rfl, rfl, ⟨_, _, HU2.out, HV2.out, HF2.out, HG2.out⟩, HT2.out⟩
          exact AllReadyH.nil
        refine coH 5 (oi := ?_) ?_ ?_ (fun K hK => ?_) ?_; rotate_left; (simp only [gA, gB, gC]; exact rfl); rfl
        · go_wp2_with (fail)
          have hb : Below d74x3.heap.size d74x3 (d74x3.alloc (.cells #[.nilFunc] 48)) := (Below.refl _ _).alloc (Nat.le_refl _) _
          have hnew : (d74x3.alloc (.cells #[.nilFunc] 48)).heap[d74x3.heap.size]? = some (.cells #[.nilFunc] 48 (0, 0)) := heap_new rfl
          have hnw : w0.heap.size ≤ d74x3.heap.size := HT.out.size
          have hne : ∀ X o, d74x3.heap[X]? = some o → X ≠ d74x3.heap.size := fun X o h e => by have := lt_of_heap h; omega
          generalize (d74x3.alloc (.cells #[.nilFunc] 48)) = d75x5 at *
          have HTn := Lib.hid (HT.out.trans (hb.mono HT.out.size))
          replace HT := HTn
          clear HTn
          replace HCF := Lib.hid (HCF.out.kept hb)
          replace HCG := Lib.hid (HCG.out.kept hb)
          have hV := hnew
          have hVw := hnw
          clear hb hnew hnw hne
          refine hK.out _ _ ⟨heap_keep HT.out HA.out, heap_keep HT.out HB.out⟩ (fun hHeld => ?_)
          clear hK K hHeld
          try simp only [Act.put, pB, pC, pD]
          refine wpAnyH_ready (rs := [4]) (by kernel_rfl) (by simp) ?_
          refine coH 4 (oi := ?_) ?_ ?_ (fun K hK => ?_) ?_; rotate_left; (simp only [gA, gB, gC]; exact rfl); rfl
          · go_wp2_with (fail)
            have hb : Below d75x5.heap.size d75x5 (d75x5.alloc (.cells #[.nilFunc] 48)) := (Below.refl _ _).alloc (Nat.le_refl _) _
            have hnew : (d75x5.alloc (.cells #[.nilFunc] 48)).heap[d75x5.heap.size]? = some (.cells #[.nilFunc] 48 (0, 0)) := heap_new rfl
            have hnw : w0.heap.size ≤ d75x5.heap.size := HT.out.size
            have hne : ∀ X o, d75x5.heap[X]? = some o → X ≠ d75x5.heap.size := fun X o h e => by have := lt_of_heap h; omega
            generalize (d75x5.alloc (.cells #[.nilFunc] 48)) = d78x4 at *
            have HTn := Lib.hid (HT.out.trans (hb.mono HT.out.size))
            replace HT := HTn
            clear HTn
            replace HCF := Lib.hid (HCF.out.kept hb)
            replace HCG := Lib.hid (HCG.out.kept hb)
            have hUV : d75x5.heap.size ≠ d74x3.heap.size := fun e => hne _ _ hV e.symm
            have hU := hnew
            have hUw := hnw
            replace hV := heap_keep hb hV
            clear hb hnew hnw hne
            refine hK.out _ _ ⟨heap_keep HT.out HA.out, heap_keep HT.out HB.out⟩ (fun hHeld => ?_)
            clear hK K hHeld
            try simp only [Act.put, pB, pC, pD]
            have hlU79 := lt_of_heap hU
            have hlV79 := lt_of_heap hV
            have cU79 : d78x4.cell? ⟨d75x5.heap.size, 0, none⟩ = some .nilFunc := cell_of hU rfl
            have fU79 : d78x4.frozen? ⟨d75x5.heap.size, 0, none⟩ = false := frozen_of hU
            have HU1 : Hid ((d78x4.setCell ⟨d75x5.heap.size, 0, none⟩ (.func (.func 43) #[] #[.pointer (some ⟨Bf73x1, 0, none⟩), .pointer (some ⟨Cf73x1, 0, none⟩)])).heap[d75x5.heap.size]? = some (.cells #[(.func (.func 43) #[] #[.pointer (some ⟨Bf73x1, 0, none⟩), .pointer (some ⟨Cf73x1, 0, none⟩)])] 48 (0, 0))) := Lib.hid (set1 hU)
            have HV1 : Hid ((d78x4.setCell ⟨d75x5.heap.size, 0, none⟩ (.func (.func 43) #[] #[.pointer (some ⟨Bf73x1, 0, none⟩), .pointer (some ⟨Cf73x1, 0, none⟩)])).heap[d74x3.heap.size]? = some (.cells #[.nilFunc] 48 (0, 0))) := Lib.hid ((Below.heap_setCell _ _ _ _ (Ne.symm hUV)).trans hV)
            have HF1 : Hid (CovV (d78x4.setCell ⟨d75x5.heap.size, 0, none⟩ (.func (.func 43) #[] #[.pointer (some ⟨Bf73x1, 0, none⟩), .pointer (some ⟨Cf73x1, 0, none⟩)])) (.func (.func 43) #[] #[.pointer (some ⟨Bf73x1, 0, none⟩), .pointer (some ⟨Cf73x1, 0, none⟩)]) _ _ _ _) := Lib.hid (HCF.out.set hU)
            have HG1 : Hid (CovV (d78x4.setCell ⟨d75x5.heap.size, 0, none⟩ (.func (.func 43) #[] #[.pointer (some ⟨Bf73x1, 0, none⟩), .pointer (some ⟨Cf73x1, 0, none⟩)])) (.func (.func 43) #[] #[.pointer (some ⟨Bf74x3, 0, none⟩), .pointer (some ⟨Cf74x3, 0, none⟩)]) _ _ _ _) := Lib.hid (HCG.out.set hU)
            have HT1 : Hid (Below w0.heap.size w0 (d78x4.setCell ⟨d75x5.heap.size, 0, none⟩ (.func (.func 43) #[] #[.pointer (some ⟨Bf73x1, 0, none⟩), .pointer (some ⟨Cf73x1, 0, none⟩)]))) := Lib.hid (HT.out.setCell hUw _)
            clear hU hV HT HCF HCG
            refine onH 6 (oi := ?_) (by kernel_rfl) ?_ ?_ (fun K hK => ?_); rotate_left; (simp only [gA, gB, gC]; exact rfl); rfl
            go_wp2_with (fail)
            refine hK.out _ _ ⟨heap_keep HT1.out HA.out, heap_keep HT1.out HB.out⟩ (fun hHeld => ?_)
            clear hK K hHeld
            try simp only [Act.put, pB, pC, pD]
            generalize (d78x4.setCell ⟨d75x5.heap.size, 0, none⟩ (.func (.func 43) #[] #[.pointer (some ⟨Bf73x1, 0, none⟩), .pointer (some ⟨Cf73x1, 0, none⟩)])) = e0 at *
            have hV := HV1.out
            have cV79 : e0.cell? ⟨d74x3.heap.size, 0, none⟩ = some .nilFunc := cell_of hV rfl
            have fV79 : e0.frozen? ⟨d74x3.heap.size, 0, none⟩ = false := frozen_of hV
            have HU2 : Hid ((e0.setCell ⟨d74x3.heap.size, 0, none⟩ (.func (.func 43) #[] #[.pointer (some ⟨Bf74x3, 0, none⟩), .pointer (some ⟨Cf74x3, 0, none⟩)])).heap[d75x5.heap.size]? = some (.cells #[(.func (.func 43) #[] #[.pointer (some ⟨Bf73x1, 0, none⟩), .pointer (some ⟨Cf73x1, 0, none⟩)])] 48 (0, 0))) := Lib.hid ((Below.heap_setCell _ _ _ _ hUV).trans HU1.out)
            have HV2 : Hid ((e0.setCell ⟨d74x3.heap.size, 0, none⟩ (.func (.func 43) #[] #[.pointer (some ⟨Bf74x3, 0, none⟩), .pointer (some ⟨Cf74x3, 0, none⟩)])).heap[d74x3.heap.size]? = some (.cells #[(.func (.func 43) #[] #[.pointer (some ⟨Bf74x3, 0, none⟩), .pointer (some ⟨Cf74x3, 0, none⟩)])] 48 (0, 0))) := Lib.hid (set1 hV)
            have HF2 : Hid (CovV (e0.setCell ⟨d74x3.heap.size, 0, none⟩ (.func (.func 43) #[] #[.pointer (some ⟨Bf74x3, 0, none⟩), .pointer (some ⟨Cf74x3, 0, none⟩)])) (.func (.func 43) #[] #[.pointer (some ⟨Bf73x1, 0, none⟩), .pointer (some ⟨Cf73x1, 0, none⟩)]) _ _ _ _) := Lib.hid (HF1.out.set hV)
            have HG2 : Hid (CovV (e0.setCell ⟨d74x3.heap.size, 0, none⟩ (.func (.func 43) #[] #[.pointer (some ⟨Bf74x3, 0, none⟩), .pointer (some ⟨Cf74x3, 0, none⟩)])) (.func (.func 43) #[] #[.pointer (some ⟨Bf74x3, 0, none⟩), .pointer (some ⟨Cf74x3, 0, none⟩)]) _ _ _ _) := Lib.hid (HG1.out.set hV)
            have HT2 : Hid (Below w0.heap.size w0 (e0.setCell ⟨d74x3.heap.size, 0, none⟩ (.func (.func 43) #[] #[.pointer (some ⟨Bf74x3, 0, none⟩), .pointer (some ⟨Cf74x3, 0, none⟩)]))) := Lib.hid (HT1.out.setCell hVw _)
            clear hV HT1 HF1 HG1 HU1 HV1
            refine onH 7 (oi := ?_) (by kernel_rfl) ?_ ?_ (fun K hK => ?_); rotate_left; (simp only [gA, gB, gC]; exact rfl); rfl
            go_wp2_with (fail)
            refine hK.out _ _ ⟨heap_keep HT2.out HA.out, heap_keep HT2.out HB.out⟩ (fun hHeld => ?_)
            clear hK K hHeld
            try simp only [Act.put, pB, pC, pD]
            refine wpAnyH_done (by kernel_rfl) ?_ _
            go_wp2_with (fail)
            go_meet
            exact ⟨_, _, rfl, rfl, ⟨_, _, HU2.out, HV2.out, HF2.out, HG2.out⟩, HT2.out⟩
          exact AllReadyH.nil
        exact AllReadyH.nil
      refine coH 4 (oi := ?_) ?_ ?_ (fun K hK => ?_) ?_; rotate_left; (simp only [gA, gB, gC]; exact rfl); rfl
      · go_wp2_with (fail)
        have hb : Below d73x1.heap.size d73x1 (d73x1.alloc (.cells #[.nilFunc] 48)) := (Below.refl _ _).alloc (Nat.le_refl _) _
        have hnew : (d73x1.alloc (.cells #[.nilFunc] 48)).heap[d73x1.heap.size]? = some (.cells #[.nilFunc] 48 (0, 0)) := heap_new rfl
        have hnw : w0.heap.size ≤ d73x1.heap.size := HT.out.size
        have hne : ∀ X o, d73x1.heap[X]? = some o → X ≠ d73x1.heap.size := fun X o h e => by have := lt_of_heap h; omega
        generalize (d73x1.alloc (.cells #[.nilFunc] 48)) = d74x4 at *
        have HTn := Lib.hid (HT.out.trans (hb.mono HT.out.size))
        replace HT := HTn
        clear HTn
        replace HCF := Lib.hid (HCF.out.kept hb)
        have hU := hnew
        have hUw := hnw
        clear hb hnew hnw hne
        refine hK.out _ _ ⟨heap_keep HT.out HA.out, heap_keep HT.out HB.out⟩ (fun hHeld => ?_)
        clear hK K hHeld
        try simp only [Act.put, pB, pC, pD]
        refine wpAnyH_ready (rs := [3, 5]) (by kernel_rfl) (by simp) ?_
        refine coH 3 (oi := ?_) ?_ ?_ (fun K hK => ?_) ?_; rotate_left; (simp only [gA, gB, gC]; exact rfl); rfl
        · go_wp2_with (fail)
          refine (covers_any a' c' _ HV2.out (HR2.out.kept HT.out)).mono ?_
          rintro e d80x3 ⟨f80x3, rfl, hcv, hb⟩
          obtain ⟨Bf80x3, Cf80x3, rfl⟩ := hcv.isfunc
          have HN := Lib.hid hcv
          clear hcv
          go_wp2_with (fail)
          have HTn := Lib.hid (HT.out.trans (hb.mono HT.out.size))
          replace HT := HTn
          clear HTn
          replace HCF := Lib.hid (HCF.out.kept hb)
          have HCG := HN
          replace hU := heap_keep hb hU
          clear hb HN
          refine hK.out _ _ ⟨heap_keep HT.out HA.out, heap_keep HT.out HB.out⟩ (fun hHeld => ?_)
          clear hK K hHeld
          try simp only [Act.put, pB, pC, pD]
          refine wpAnyH_ready (rs := [5]) (by kernel_rfl) (by simp) ?_
          refine coH 5 (oi := ?_) ?_ ?_ (fun K hK => ?_) ?_; rotate_left; (simp only [gA, gB, gC]; exact rfl); rfl
          · go_wp2_with (fail)
            have hb : Below d80x3.heap.size d80x3 (d80x3.alloc (.cells #[.nilFunc] 48)) := (Below.refl _ _).alloc (Nat.le_refl _) _
            have hnew : (d80x3.alloc (.cells #[.nilFunc] 48)).heap[d80x3.heap.size]? = some (.cells #[.nilFunc] 48 (0, 0)) := heap_new rfl
            have hnw : w0.heap.size ≤ d80x3.heap.size := HT.out.size
            have hne : ∀ X o, d80x3.heap[X]? = some o → X ≠ d80x3.heap.size := fun X o h e => by have := lt_of_heap h; omega
            generalize (d80x3.alloc (.cells #[.nilFunc] 48)) = d81x5 at *
            have HTn := Lib.hid (HT.out.trans (hb.mono HT.out.size))
            replace HT := HTn
            clear HTn
            replace HCF := Lib.hid (HCF.out.kept hb)
            replace HCG := Lib.hid (HCG.out.kept hb)
            have hUV : d73x1.heap.size ≠ d80x3.heap.size := fun e => hne _ _ hU e
            have hV := hnew
            have hVw := hnw
            replace hU := heap_keep hb hU
            clear hb hnew hnw hne
            refine hK.out _ _ ⟨heap_keep HT.out HA.out, heap_keep HT.out HB.out⟩ (fun hHeld => ?_)
            clear hK K hHeld
            try simp only [Act.put, pB, pC, pD]
            have hlU82 := lt_of_heap hU
            have hlV82 := lt_of_heap hV
            have cU82 : d81x5.cell? ⟨d73x1.heap.size, 0, none⟩ = some .nilFunc := cell_of hU rfl
            have fU82 : d81x5.frozen? ⟨d73x1.heap.size, 0, none⟩ = false := frozen_of hU
            have HU1 : Hid ((d81x5.setCell ⟨d73x1.heap.size, 0, none⟩ (.func (.func 43) #[] #[.pointer (some ⟨Bf73x1, 0, none⟩), .pointer (some ⟨Cf73x1, 0, none⟩)])).heap[d73x1.heap.size]? = some (.cells #[(.func (.func 43) #[] #[.pointer (some ⟨Bf73x1, 0, none⟩), .pointer (some ⟨Cf73x1, 0, none⟩)])] 48 (0, 0))) := Lib.hid (set1 hU)
            have HV1 : Hid ((d81x5.setCell ⟨d73x1.heap.size, 0, none⟩ (.func (.func 43) #[] #[.pointer (some ⟨Bf73x1, 0, none⟩), .pointer (some ⟨Cf73x1, 0, none⟩)])).heap[d80x3.heap.size]? = some (.cells #[.nilFunc] 48 (0, 0))) := Lib.hid ((Below.heap_setCell _ _ _ _ (Ne.symm hUV)).trans hV)
            have HF1 : Hid (CovV (d81x5.setCell ⟨d73x1.heap.size, 0, none⟩ (.func (.func 43) #[] #[.pointer (some ⟨Bf73x1, 0, none⟩), .pointer (some ⟨Cf73x1, 0, none⟩)])) (.func (.func 43) #[] #[.pointer (some ⟨Bf73x1, 0, none⟩), .pointer (some ⟨Cf73x1, 0, none⟩)]) _ _ _ _) := Lib.hid (HCF.out.set hU)
            have HG1 : Hid (CovV (d81x5.setCell ⟨d73x1.heap.size, 0, none⟩ (.func (.func 43) #[] #[.pointer (some ⟨Bf73x1, 0, none⟩), .pointer (some ⟨Cf73x1, 0, none⟩)])) (.func (.func 43) #[] #[.pointer (some ⟨Bf80x3, 0, none⟩), .pointer (some ⟨Cf80x3, 0, none⟩)]) _ _ _ _) := Lib.hid (HCG.out.set hU)
            have HT1 : Hid (Below w0.heap.size w0 (d81x5.setCell ⟨d73x1.heap.size, 0, none⟩ (.func (.func 43) #[] #[.pointer (some ⟨Bf73x1, 0, none⟩), .pointer (some ⟨Cf73x1, 0, none⟩)]))) := Lib.hid (HT.out.setCell hUw _)
            clear hU hV HT HCF HCG
            refine onH 6 (oi := ?_) (by kernel_rfl) ?_ ?_ (fun K hK => ?_); rotate_left; (simp only [gA, gB, gC]; exact rfl); rfl
            go_wp2_with (fail)
            refine hK.out _ _ ⟨heap_keep HT1.out HA.out, heap_keep HT1.out HB.out⟩ (fun hHeld => ?_)
            clear hK K hHeld
            try simp only [Act.put, pB, pC, pD]
            generalize (d81x5.setCell ⟨d73x1.heap.size, 0, none⟩ (.func (.func 43) #[] #[.pointer (some ⟨Bf73x1, 0, none⟩), .pointer (some ⟨Cf73x1, 0, none⟩)])) = e0 at *
            have hV := HV1.out
            have cV82 : e0.cell? ⟨d80x3.heap.size, 0, none⟩ = some .nilFunc := cell_of hV rfl
            have fV82 : e0.frozen? ⟨d80x3.heap.size, 0, none⟩ = false := frozen_of hV
            have HU2 : Hid ((e0.setCell ⟨d80x3.heap.size, 0, none⟩ (.func (.func 43) #[] #[.pointer (some ⟨Bf80x3, 0, none⟩), .pointer (some ⟨Cf80x3, 0, none⟩)])).heap[d73x1.heap.size]? = some (.cells #[(.func (.func 43) #[] #[.pointer (some ⟨Bf73x1, 0, none⟩), .pointer (some ⟨Cf73x1, 0, none⟩)])] 48 (0, 0))) := Lib.hid ((Below.heap_setCell _ _ _ _ hUV).trans HU1.out)
            have HV2 : Hid ((e0.setCell ⟨d80x3.heap.size, 0, none⟩ (.func (.func 43) #[] #[.pointer (some ⟨Bf80x3, 0, none⟩), .pointer (some ⟨Cf80x3, 0, none⟩)])).heap[d80x3.heap.size]? = some (.cells #[(.func (.func 43) #[] #[.pointer (some ⟨Bf80x3, 0, none⟩), .pointer (some ⟨Cf80x3, 0, none⟩)])] 48 (0, 0))) := Lib.hid (set1 hV)
            have HF2 : Hid (CovV (e0.setCell ⟨d80x3.heap.size, 0, none⟩ (.func (.func 43) #[] #[.pointer (some ⟨Bf80x3, 0, none⟩), .pointer (some ⟨Cf80x3, 0, none⟩)])) (.func (.func 43) #[] #[.pointer (some ⟨Bf73x1, 0, none⟩), .pointer (some ⟨Cf73x1, 0, none⟩)]) _ _ _ _) := Lib.hid (HF1.out.set hV)
            have HG2 : Hid (CovV (e0.setCell ⟨d80x3.heap.size, 0, none⟩ (.func (.func 43) #[] #[.pointer (some ⟨Bf80x3, 0, none⟩), .pointer (some ⟨Cf80x3, 0, none⟩)])) (.func (.func 43) #[] #[.pointer (some ⟨Bf80x3, 0, none⟩), .pointer (some ⟨Cf80x3, 0, none⟩)]) _ _ _ _) := Lib.hid (HG1.out.set hV)
            have HT2 : Hid (Below w0.heap.size w0 (e0.setCell ⟨d80x3.heap.size, 0, none⟩ (.func (.func 43) #[] #[.pointer (some ⟨Bf80x3, 0, none⟩), .pointer (some ⟨Cf80x3, 0, none⟩)]))) := Lib.hid (HT1.out.setCell hVw _)
            clear hV HT1 HF1 HG1 HU1 HV1
            refine onH 7 (oi := ?_) (by kernel_rfl) ?_ ?_ (fun K hK => ?_); rotate_left; (simp only [gA, gB, gC]; exact rfl); rfl
            go_wp2_with (fail)
            refine hK.out _ _ ⟨heap_keep HT2.out HA.out, heap_keep HT2.out HB.out⟩ (fun hHeld => ?_)
            clear hK K hHeld
            try simp only [Act.put, pB, pC, pD]
            refine wpAnyH_done (by kernel_rfl) ?_ _
            go_wp2_with (fail)
            go_meet
            exact ⟨_, _, rfl, rfl, ⟨_, _, HU2.out, HV2.out, HF2.out, HG2.out⟩, HT2.out⟩
          exact AllReadyH.nil
        refine coH 5 (oi := ?_) ?_ ?_ (fun K hK => ?_) ?_; rotate_left; (simp only [gA, gB, gC]; exact rfl); rfl
        · go_wp2_with (fail)
          have hb : Below d74x4.heap.size d74x4 (d74x4.alloc (.cells #[.nilFunc] 48)) := (Below.refl _ _).alloc (Nat.le_refl _) _
          have hnew : (d74x4.alloc (.cells #[.nilFunc] 48)).heap[d74x4.heap.size]? = some (.cells #[.nilFunc] 48 (0, 0)) := heap_new rfl
          have hnw : w0.heap.size ≤ d74x4.heap.size := HT.out.size
          have hne : ∀ X o, d74x4.heap[X]? = some o → X ≠ d74x4.heap.size := fun X o h e => by have := lt_of_heap h; omega
          generalize (d74x4.alloc (.cells #[.nilFunc] 48)) = d80x5 at *
          have HTn := Lib.hid (HT.out.trans (hb.mono HT.out.size))
          replace HT := HTn
          clear HTn
          replace HCF := Lib.hid (HCF.out.kept hb)
          have hUV : d73x1.heap.size ≠ d74x4.heap.size := fun e => hne _ _ hU e
          have hV := hnew
          have hVw := hnw
          replace hU := heap_keep hb hU
          clear hb hnew hnw hne
          refine hK.out _ _ ⟨heap_keep HT.out HA.out, heap_keep HT.out HB.out⟩ (fun hHeld => ?_)
          clear hK K hHeld
          try simp only [Act.put, pB, pC, pD]
          refine wpAnyH_ready (rs := [3]) (by kernel_rfl) (by simp) ?_
          refine coH 3 (oi := ?_) ?_ ?_ (fun K hK => ?_) ?_; rotate_left; (simp only [gA, gB, gC]; exact rfl); rfl
          · go_wp2_with (fail)
            refine (covers_any a' c' _ HV2.out (HR2.out.kept HT.out)).mono ?_
            rintro e d83x3 ⟨f83x3, rfl, hcv, hb⟩
            obtain ⟨Bf83x3, Cf83x3, rfl⟩ := hcv.isfunc
            have HN := Lib.hid hcv
            clear hcv
            go_wp2_with (fail)
            have HTn := Lib.hid (HT.out.trans (hb.mono HT.out.size))
            replace HT := HTn
            clear HTn
            replace HCF := Lib.hid (HCF.out.kept hb)
            have HCG := HN
            replace hU := heap_keep hb hU
            replace hV := heap_keep hb hV
            clear hb HN
            refine hK.out _ _ ⟨heap_keep HT.out HA.out, heap_keep HT.out HB.out⟩ (fun hHeld => ?_)
            clear hK K hHeld
            try simp only [Act.put, pB, pC, pD]
            have hlU84 := lt_of_heap hU
            have hlV84 := lt_of_heap hV
            have cU84 : d83x3.cell? ⟨d73x1.heap.size, 0, none⟩ = some .nilFunc := cell_of hU rfl
            have fU84 : d83x3.frozen? ⟨d73x1.heap.size, 0, none⟩ = false := frozen_of hU
            have HU1 : Hid ((d83x3.setCell ⟨d73x1.heap.size, 0, none⟩ (.func (.func 43) #[] #[.pointer (some ⟨Bf73x1, 0, none⟩), .pointer (some ⟨Cf73x1, 0, none⟩)])).heap[d73x1.heap.size]? = some (.cells #[(.func (.func 43) #[] #[.pointer (some ⟨Bf73x1, 0, none⟩), .pointer (some ⟨Cf73x1, 0, none⟩)])] 48 (0, 0))) := Lib.hid (set1 hU)
            have HV1 : Hid ((d83x3.setCell ⟨d73x1.heap.size, 0, none⟩ (.func (.func 43) #[] #[.pointer (some ⟨Bf73x1, 0, none⟩), .pointer (some ⟨Cf73x1, 0, none⟩)])).heap[d74x4.heap.size]? = some (.cells #[.nilFunc] 48 (0, 0))) := Lib.hid ((Below.heap_setCell _ _ _ _ (Ne.symm hUV)).trans hV)
            have HF1 : Hid (CovV (d83x3.setCell ⟨d73x1.heap.size, 0, none⟩ (.func (.func 43) #[] #[.pointer (some ⟨Bf73x1, 0, none⟩), .pointer (some ⟨Cf73x1, 0, none⟩)])) (.func (.func 43) #[] #[.pointer (some ⟨Bf73x1, 0, none⟩), .pointer (some ⟨Cf73x1, 0, none⟩)]) _ _ _ _) := Lib.hid (HCF.out.set hU)
            have HG1 : Hid (CovV (d83x3.setCell ⟨d73x1.heap.size, 0, none⟩ (.func (.func 43) #[] #[.pointer (some ⟨Bf73x1, 0, none⟩), .pointer (some ⟨Cf73x1, 0, none⟩)])) (.func (.func 43) #[] #[.pointer (some ⟨Bf83x3, 0, none⟩), .pointer (some ⟨Cf83x3, 0, none⟩)]) _ _ _ _) := Lib.hid (HCG.out.set hU)
            have HT1 : Hid (Below w0.heap.size w0 (d83x3.setCell ⟨d73x1.heap.size, 0, none⟩ (.func (.func 43) #[] #[.pointer (some ⟨Bf73x1, 0, none⟩), .pointer (some ⟨Cf73x1, 0, none⟩)]))) := Lib.hid (HT.out.setCell hUw _)
            clear hU hV HT HCF HCG
            refine onH 6 (oi := ?_) (by kernel_rfl) ?_ ?_ (fun K hK => ?_); rotate_left; (simp only [gA, gB, gC]; exact rfl); rfl
            go_wp2_with (fail)
            refine hK.out _ _ ⟨heap_keep HT1.out HA.out, heap_keep HT1.out HB.out⟩ (fun hHeld => ?_)
            clear hK K hHeld
            try simp only [Act.put, pB, pC, pD]
            generalize (d83x3.setCell ⟨d73x1.heap.size, 0, none⟩ (.func (.func 43) #[] #[.pointer (some ⟨Bf73x1, 0, none⟩), .pointer (some ⟨Cf73x1, 0, none⟩)])) = e0 at *
            have hV := HV1.out
            have cV84 : e0.cell? ⟨d74x4.heap.size, 0, none⟩ = some .nilFunc := cell_of hV rfl
            have fV84 : e0.frozen? ⟨d74x4.heap.size, 0, none⟩ = false := frozen_of hV
            have HU2 : Hid ((e0.setCell ⟨d74x4.heap.size, 0, none⟩ (.func (.func 43) #[] #[.pointer (some ⟨Bf83x3, 0, none⟩), .pointer (some ⟨Cf83x3, 0, none⟩)])).heap[d73x1.heap.size]? = some (.cells #[(.func (.func 43) #[] #[.pointer (some ⟨Bf73x1, 0, none⟩), .pointer (some ⟨Cf73x1, 0, none⟩)])] 48 (0, 0))) := Lib.hid ((Below.heap_setCell _ _ _ _ hUV).trans HU1.out)
            have HV2 : Hid ((e0.setCell ⟨d74x4.heap.size, 0, none⟩ (.func (.func 43) #[] #[.pointer (some ⟨Bf83x3, 0, none⟩), .pointer (some ⟨Cf83x3, 0, none⟩)])).heap[d74x4.heap.size]? = some (.cells #[(.func (.func 43) #[] #[.pointer (some ⟨Bf83x3, 0, none⟩), .pointer (some ⟨Cf83x3, 0, none⟩)])] 48 (0, 0))) := Lib.hid (set1 hV)
            have HF2 : Hid (CovV (e0.setCell ⟨d74x4.heap.size, 0, none⟩ (.func (.func 43) #[] #[.pointer (some ⟨Bf83x3, 0, none⟩), .pointer (some ⟨Cf83x3, 0, none⟩)])) (.func (.func 43) #[] #[.pointer (some ⟨Bf73x1, 0, none⟩), .pointer (some ⟨Cf73x1, 0, none⟩)]) _ _ _ _) := Lib.hid (HF1.out.set hV)
            have HG2 : Hid (CovV (e0.setCell ⟨d74x4.heap.size, 0, none⟩ (.func (.func 43) #[] #[.pointer (some ⟨Bf83x3, 0, none⟩), .pointer (some ⟨Cf83x3, 0, none⟩)])) (.func (.func 43) #[] #[.pointer (some ⟨Bf83x3, 0, none⟩), .pointer (some ⟨Cf83x3, 0, none⟩)]) _ _ _ _) := Lib.hid (HG1.out.set hV)
            have HT2 : Hid (Below w0.heap.size w0 (e0.setCell ⟨d74x4.heap.size, 0, none⟩ (.func (.func 43) #[] #[.pointer (some ⟨Bf83x3, 0, none⟩), .pointer (some ⟨Cf83x3, 0, none⟩)]))) := Lib.hid (HT1.out.setCell hVw _)
            clear hV HT1 HF1 HG1 HU1 HV1
            refine onH 7 (oi := ?_) (by kernel_rfl) ?_ ?_ (fun K hK => ?_); rotate_left; (simp only [gA, gB, gC]; exact rfl); rfl
            go_wp2_with (fail)
            refine hK.out _ _ ⟨heap_keep HT2.out HA.out, heap_keep HT2.out HB.out⟩ (fun hHeld => ?_)
            clear hK K hHeld
            try simp only [Act.put, pB, pC, pD]
            refine wpAnyH_done (by kernel_rfl) ?_ _
            go_wp2_with (fail)
            go_meet
            exact ⟨_, _, rfl, rfl, ⟨_, _, HU2.out, HV2.out, HF2.out, HG2.out⟩, HT2.out⟩
          exact AllReadyH.nil
        exact AllReadyH.nil
      refine coH 5 (oi := ?_) ?_ ?_ (fun K hK => ?_) ?_; rotate_left; (simp only [gA, gB, gC]; exact rfl); rfl
      · go_wp2_with (fail)
        have hb : Below d73x1.heap.size d73x1 (d73x1.alloc (.cells #[.nilFunc] 48)) := (Below.refl _ _).alloc (Nat.le_refl _) _
        have hnew : (d73x1.alloc (.cells #[.nilFunc] 48)).heap[d73x1.heap.size]? = some (.cells #[.nilFunc] 48 (0, 0)) := heap_new rfl
        have hnw : w0.heap.size ≤ d73x1.heap.size := HT.out.size
        have hne : ∀ X o, d73x1.heap[X]? = some o → X ≠ d73x1.heap.size := fun X o h e => by have := lt_of_heap h; omega
        generalize (d73x1.alloc (.cells #[.nilFunc] 48)) = d74x5 at *
        have HTn := Lib.hid (HT.out.trans (hb.mono HT.out.size))
        replace HT := HTn
        clear HTn
        replace HCF := Lib.hid (HCF.out.kept hb)
        have hV := hnew
        have hVw := hnw
        clear hb hnew hnw hne
        refine hK.out _ _ ⟨heap_keep HT.out HA.out, heap_keep HT.out HB.out⟩ (fun hHeld => ?_)
        clear hK K hHeld
        try simp only [Act.put, pB, pC, pD]
        refine wpAnyH_ready (rs := [3, 4]) (by kernel_rfl) (by simp) ?_
        refine coH 3 (oi := ?_) ?_ ?_ (fun K hK => ?_) ?_; rotate_left; (simp only [gA, gB, gC]; exact rfl); rfl
        · go_wp2_with (fail)
          refine (covers_any a' c' _ HV2.out (HR2.out.kept HT.out)).mono ?_
          rintro e d85x3 ⟨f85x3, rfl, hcv, hb⟩
          obtain ⟨Bf85x3, Cf85x3, rfl⟩ := hcv.isfunc
          have HN := Lib.hid hcv
          clear hcv
          go_wp2_with (fail)
          have HTn := Lib.hid (HT.out.trans (hb.mono HT.out.size))
          replace HT := HTn
          clear HTn
          replace HCF := Lib.hid (HCF.out.kept hb)
          have HCG := HN
          replace hV := heap_keep hb hV
          clear hb HN
          refine hK.out _ _ ⟨heap_keep HT.out HA.out, heap_keep HT.out HB.out⟩ (fun hHeld => ?_)
          clear hK K hHeld
          try simp only [Act.put, pB, pC, pD]
          refine wpAnyH_ready (rs := [4]) (by kernel_rfl) (by simp) ?_
          refine coH 4 (oi := ?_) ?_ ?_ (fun K hK => ?_) ?_; rotate_left; (simp only [gA, gB, gC]; exact rfl); rfl
          · go_wp2_with (fail)
            have hb : Below d85x3.heap.size d85x3 (d85x3.alloc (.cells #[.nilFunc] 48)) := (Below.refl _ _).alloc (Nat.le_refl _) _
            have hnew : (d85x3.alloc (.cells #[.nilFunc] 48)).heap[d85x3.heap.size]? = some (.cells #[.nilFunc] 48 (0, 0)) := heap_new rfl
            have hnw : w0.heap.size ≤ d85x3.heap.size := HT.out.size
            have hne : ∀ X o, d85x3.heap[X]? = some o → X ≠ d85x3.heap.size := fun X o h e => by have := lt_of_heap h; omega
            generalize (d85x3.alloc (.cells #[.nilFunc] 48)) = d86x4 at *
            have HTn := Lib.hid (HT.out.trans (hb.mono HT.out.size))
            replace HT := HTn
            clear HTn
            replace HCF := Lib.hid (HCF.out.kept hb)
            replace HCG := Lib.hid (HCG.out.kept hb)
            have hUV : d85x3.heap.size ≠ d73x1.heap.size := fun e => hne _ _ hV e.symm
            have hU := hnew
            have hUw := hnw
            replace hV := heap_keep hb hV
            clear hb hnew hnw hne
            refine hK.out _ _ ⟨heap_keep HT.out HA.out, heap_keep HT.out HB.out⟩ (fun hHeld => ?_)
            clear hK K hHeld
            try simp only [Act.put, pB, pC, pD]
            have hlU87 := lt_of_heap hU
            have hlV87 := lt_of_heap hV
            have cU87 : d86x4.cell? ⟨d85x3.heap.size, 0, none⟩ = some .nilFunc := cell_of hU rfl
            have fU87 : d86x4.frozen? ⟨d85x3.heap.size, 0, none⟩ = false := frozen_of hU
            have HU1 : Hid ((d86x4.setCell ⟨d85x3.heap.size, 0, none⟩ (.func (.func 43) #[] #[.pointer (some ⟨Bf73x1, 0, none⟩), .pointer (some ⟨Cf73x1, 0, none⟩)])).heap[d85x3.heap.size]? = some (.cells #[(.func (.func 43) #[] #[.pointer (some ⟨Bf73x1, 0, none⟩), .pointer (some ⟨Cf73x1, 0, none⟩)])] 48 (0, 0))) := Lib.hid (set1 hU)
            have HV1 : Hid ((d86x4.setCell ⟨d85x3.heap.size, 0, none⟩ (.func (.func 43) #[] #[.pointer (some ⟨Bf73x1, 0, none⟩), .pointer (some ⟨Cf73x1, 0, none⟩)])).heap[d73x1.heap.size]? = some (.cells #[.nilFunc] 48 (0, 0))) := Lib.hid ((Below.heap_setCell _ _ _ _ (Ne.symm hUV)).trans hV)
            have HF1 : Hid (CovV (d86x4.setCell ⟨d85x3.heap.size, 0, none⟩ (.func (.func 43) #[] #[.pointer (some ⟨Bf73x1, 0, none⟩), .pointer (some ⟨Cf73x1, 0, none⟩)])) (.func (.func 43) #[] #[.pointer (some ⟨Bf73x1, 0, none⟩), .pointer (some ⟨Cf73x1, 0, none⟩)]) _ _ _ _) := Lib.hid (HCF.out.set hU)
            have HG1 : Hid (CovV (d86x4.setCell ⟨d85x3.heap.size, 0, none⟩ (.func (.func 43) #[] #[.pointer (some ⟨Bf73x1, 0, none⟩), .pointer (some ⟨Cf73x1, 0, none⟩)])) (.func (.func 43) #[] #[.pointer (some ⟨Bf85x3, 0, none⟩), .pointer (some ⟨Cf85x3, 0, none⟩)]) _ _ _ _) := Lib.hid (HCG.out.set hU)
            have HT1 : Hid (Below w0.heap.size w0 (d86x4.setCell ⟨d85x3.heap.size, 0, none⟩ (.func (.func 43) #[] #[.pointer (some ⟨Bf73x1, 0, none⟩), .pointer (some ⟨Cf73x1, 0, none⟩)]))) := Lib.hid (HT.out.setCell hUw _)
            clear hU hV HT HCF HCG
            refine onH 6 (oi := ?_) (by kernel_rfl) ?_ ?_ (fun K hK => ?_); rotate_left; (simp only [gA, gB, gC]; exact rfl); rfl
            go_wp2_with (fail)
            refine hK.out _ _ ⟨heap_keep HT1.out HA.out, heap_keep HT1.out HB.out⟩ (fun hHeld => ?_)
            clear hK K hHeld
            try simp only [Act.put, pB, pC, pD]
            generalize (d86x4.setCell ⟨d85x3.heap.size, 0, none⟩ (.func (.func 43) #[] #[.pointer (some ⟨Bf73x1, 0, none⟩), .pointer (some ⟨Cf73x1, 0, none⟩)])) = e0 at *
            have hV := HV1.out
            have cV87 : e0.cell? ⟨d73x1.heap.size, 0, none⟩ = some .nilFunc := cell_of hV rfl
            have fV87 : e0.frozen? ⟨d73x1.heap.size, 0, none⟩ = false := frozen_of hV
            have HU2 : Hid ((e0.setCell ⟨d73x1.heap.size, 0, none⟩ (.func (.func 43) #[] #[.pointer (some ⟨Bf85x3, 0, none⟩), .pointer (some ⟨Cf85x3, 0, none⟩)])).heap[d85x3.heap.size]? = some (.cells #[(.func (.func 43) #[] #[.pointer (some ⟨Bf73x1, 0, none⟩), .pointer (some ⟨Cf73x1, 0, none⟩)])] 48 (0, 0))) := Lib.hid ((Below.heap_setCell _ _ _ _ hUV).trans HU1.out)
            have HV2 : Hid ((e0.setCell ⟨d73x1.heap.size, 0, none⟩ (.func (.func 43) #[] #[.pointer (some ⟨Bf85x3, 0, none⟩), .pointer (some ⟨Cf85x3, 0, none⟩)])).heap[d73x1.heap.size]? = some (.cells #[(.func (.func 43) #[] #[.pointer (some ⟨Bf85x3, 0, none⟩), .pointer (some ⟨Cf85x3, 0, none⟩)])] 48 (0, 0))) := Lib.hid (set1 hV)
            have HF2 : Hid (CovV (e0.setCell ⟨d73x1.heap.size, 0, none⟩ (.func (.func 43) #[] #[.pointer (some ⟨Bf85x3, 0, none⟩), .pointer (some ⟨Cf85x3, 0, none⟩)])) (.func (.func 43) #[] #[.pointer (some ⟨Bf73x1, 0, none⟩), .pointer (some ⟨Cf73x1, 0, none⟩)]) _ _ _ _) := Lib.hid (HF1.out.set hV)
            have HG2 : Hid (CovV (e0.setCell ⟨d73x1.heap.size, 0, none⟩ (.func (.func 43) #[] #[.pointer (some ⟨Bf85x3, 0, none⟩), .pointer (some ⟨Cf85x3, 0, none⟩)])) (.func (.func 43) #[] #[.pointer (some ⟨Bf85x3, 0, none⟩), .pointer (some ⟨Cf85x3, 0, none⟩)]) _ _ _ _) := Lib.hid (HG1.out.set hV)
            have HT2 : Hid (Below w0.heap.size w0 (e0.setCell ⟨d73x1.heap.size, 0, none⟩ (.func (.func 43) #[] #[.pointer (some ⟨Bf85x3, 0, none⟩), .pointer (some ⟨Cf85x3, 0, none⟩)]))) := Lib.hid (HT1.out.setCell hVw _)
            clear hV HT1 HF1 HG1 HU1 HV1
            refine onH 7 (oi := ?_) (by kernel_rfl) ?_ ?_ (fun K hK => ?_); rotate_left; (simp only [gA, gB, gC]; exact rfl); rfl
            go_wp2_with (fail)
            refine hK.out _ _ ⟨heap_keep HT2.out HA.out, heap_keep HT2.out HB.out⟩ (fun hHeld => ?_)
            clear hK K hHeld
            try simp only [Act.put, pB, pC, pD]
            refine wpAnyH_done (by kernel_rfl) ?_ _
            go_wp2_with (fail)
            go_meet
            exact ⟨_, _, rfl, rfl, ⟨_, _, HU2.out, HV2.out, HF2.out, HG2.out⟩, HT2.out⟩
          exact AllReadyH.nil
        refine coH 4 (oi := ?_) ?_ ?_ (fun K hK => ?_) ?_; rotate_left; (simp only [gA, gB, gC]; exact rfl); rfl
        · go_wp2_with (fail)
          have hb : Below d74x5.heap.size d74x5 (d74x5.alloc (.cells #[.nilFunc] 48)) := (Below.refl _ _).alloc (Nat.le_refl _) _
          have hnew : (d74x5.alloc (.cells #[.nilFunc] 48)).heap[d74x5.heap.size]? = some (.cells #[.nilFunc] 48 (0, 0)) := heap_new rfl
          have hnw : w0.heap.size ≤ d74x5.heap.size := HT.out.size
          have hne : ∀ X o, d74x5.heap[X]? = some o → X ≠ d74x5.heap.size := fun X o h e => by have := lt_of_heap h; omega
          generalize (d74x5.alloc (.cells #[.nilFunc] 48)) = d85x4 at *
          have HTn := Lib.hid (HT.out.trans (hb.mono HT.out.size))
          replace HT := HTn
          clear HTn
          replace HCF := Lib.hid (HCF.out.kept hb)
          have hUV : d74x5.heap.size ≠ d73x1.heap.size := fun e => hne _ _ hV e.symm
          have hU := hnew
          have hUw := hnw
          replace hV := heap_keep hb hV
          clear hb hnew hnw hne
          refine hK.out _ _ ⟨heap_keep HT.out HA.out, heap_keep HT.out HB.out⟩ (fun hHeld => ?_)
          clear hK K hHeld
          try simp only [Act.put, pB, pC, pD]
          refine wpAnyH_ready (rs := [3]) (by kernel_rfl) (by simp) ?_
          refine coH 3 (oi := ?_) ?_ ?_ (fun K hK => ?_) ?_; rotate_left; (simp only [gA, gB, gC]; exact rfl); rfl
          · go_wp2_with (fail)
            refine (covers_any a' c' _ HV2.out (HR2.out.kept HT.out)).mono ?_
            rintro e d88x3 ⟨f88x3, rfl, hcv, hb⟩
            obtain ⟨Bf88x3, Cf88x3, rfl⟩ := hcv.isfunc
            have HN := Lib.hid hcv
            clear hcv
            go_wp2_with (fail)
            have HTn := Lib.hid (HT.out.trans (hb.mono HT.out.size))
            replace HT := HTn
            clear HTn
            replace HCF := Lib.hid (HCF.out.kept hb)
            have HCG := HN
            replace hU := heap_keep hb hU
            replace hV := heap_keep hb hV
            clear hb HN
            refine hK.out _ _ ⟨heap_keep HT.out HA.out, heap_keep HT.out HB.out⟩ (fun hHeld => ?_)
            clear hK K hHeld
            try simp only [Act.put, pB, pC, pD]
            have hlU89 := lt_of_heap hU
            have hlV89 := lt_of_heap hV
            have cU89 : d88x3.cell? ⟨d74x5.heap.size, 0, none⟩ = some .nilFunc := cell_of hU rfl
            have fU89 : d88x3.frozen? ⟨d74x5.heap.size, 0, none⟩ = false := frozen_of hU
            have HU1 : Hid ((d88x3.setCell ⟨d74x5.heap.size, 0, none⟩ (.func (.func 43) #[] #[.pointer (some ⟨Bf73x1, 0, none⟩), .pointer (some ⟨Cf73x1, 0, none⟩)])).heap[d74x5.heap.size]? = some (.cells #[(.func (.func 43) #[] #[.pointer (some ⟨Bf73x1, 0, none⟩), .pointer (some ⟨Cf73x1, 0, none⟩)])] 48 (0, 0))) := Lib.hid (set1 hU)
            have HV1 : Hid ((d88x3.setCell ⟨d74x5.heap.size, 0, none⟩ (.func (.func 43) #[] #[.pointer (some ⟨Bf73x1, 0, none⟩), .pointer (some ⟨Cf73x1, 0, none⟩)])).heap[d73x1.heap.size]? = some (.cells #[.nilFunc] 48 (0, 0))) := Lib.hid ((Below.heap_setCell _ _ _ _ (Ne.symm hUV)).trans hV)
            have HF1 : Hid (CovV (d88x3.setCell ⟨d74x5.heap.size, 0, none⟩ (.func (.func 43) #[] #[.pointer (some ⟨Bf73x1, 0, none⟩), .pointer (some ⟨Cf73x1, 0, none⟩)])) (.func (.func 43) #[] #[.pointer (some ⟨Bf73x1, 0, none⟩), .pointer (some ⟨Cf73x1, 0, none⟩)]) _ _ _ _) := Lib.hid (HCF.out.set hU)
            have HG1 : Hid (CovV (d88x3.setCell ⟨d74x5.heap.size, 0, none⟩ (.func (.func 43) #[] #[.pointer (some ⟨Bf73x1, 0, none⟩), .pointer (some ⟨Cf73x1, 0, none⟩)])) (.func (.func 43) #[] #[.pointer (some ⟨Bf88x3, 0, none⟩), .pointer (some ⟨Cf88x3, 0, none⟩)]) _ _ _ _) := Lib.hid (HCG.out.set hU)
            have HT1 : Hid (Below w0.heap.size w0 (d88x3.setCell ⟨d74x5.heap.size, 0, none⟩ (.func (.func 43) #[] #[.pointer (some ⟨Bf73x1, 0, none⟩), .pointer (some ⟨Cf73x1, 0, none⟩)]))) := Lib.hid (HT.out.setCell hUw _)
            clear hU hV HT HCF HCG
            refine onH 6 (oi := ?_) (by kernel_rfl) ?_ ?_ (fun K hK => ?_); rotate_left; (simp only [gA, gB, gC]; exact rfl); rfl
            go_wp2_with (fail)
            refine hK.out _ _ ⟨heap_keep HT1.out HA.out, heap_keep HT1.out HB.out⟩ (fun hHeld => ?_)
            clear hK K hHeld
            try simp only [Act.put, pB, pC, pD]
            generalize (d88x3.setCell ⟨d74x5.heap.size, 0, none⟩ (.func (.func 43) #[] #[.pointer (some ⟨Bf73x1, 0, none⟩), .pointer (some ⟨Cf73x1, 0, none⟩)])) = e0 at *
            have hV := HV1.out
            have cV89 : e0.cell? ⟨d73x1.heap.size, 0, none⟩ = some .nilFunc := cell_of hV rfl
            have fV89 : e0.frozen? ⟨d73x1.heap.size, 0, none⟩ = false := frozen_of hV
            have HU2 : Hid ((e0.setCell ⟨d73x1.heap.size, 0, none⟩ (.func (.func 43) #[] #[.pointer (some ⟨Bf88x3, 0, none⟩), .pointer (some ⟨Cf88x3, 0, none⟩)])).heap[d74x5.heap.size]? = some (.cells #[(.func (.func 43) #[] #[.pointer (some ⟨Bf73x1, 0, none⟩), .pointer (some ⟨Cf73x1, 0, none⟩)])] 48 (0, 0))) := Lib.hid ((Below.heap_setCell _ _ _ _ hUV).trans HU1.out)
            have HV2 : Hid ((e0.setCell ⟨d73x1.heap.size, 0, none⟩ (.func (.func 43) #[] #[.pointer (some ⟨Bf88x3, 0, none⟩), .pointer (some ⟨Cf88x3, 0, none⟩)])).heap[d73x1.heap.size]? = some (.cells #[(.func (.func 43) #[] #[.pointer (some ⟨Bf88x3, 0, none⟩), .pointer (some ⟨Cf88x3, 0, none⟩)])] 48 (0, 0))) := Lib.hid (set1 hV)
            have HF2 : Hid (CovV (e0.setCell ⟨d73x1.heap.size, 0, none⟩ (.func (.func 43) #[] #[.pointer (some ⟨Bf88x3, 0, none⟩), .pointer (some ⟨Cf88x3, 0, none⟩)])) (.func (.func 43) #[] #[.pointer (some ⟨Bf73x1, 0, none⟩), .pointer (some ⟨Cf73x1, 0, none⟩)]) _ _ _ _) := Lib.hid (HF1.out.set hV)
            have HG2 : Hid (CovV (e0.setCell ⟨d73x1.heap.size, 0, none⟩ (.func (.func 43) #[] #[.pointer (some ⟨Bf88x3, 0, none⟩), .pointer (some ⟨Cf88x3, 0, none⟩)])) (.func (.func 43) #[] #[.pointer (some ⟨Bf88x3, 0, none⟩), .pointer (some ⟨Cf88x3, 0, none⟩)]) _ _ _ _) := Lib.hid (HG1.out.set hV)
            have HT2 : Hid (Below w0.heap.size w0 (e0.setCell ⟨d73x1.heap.size, 0, none⟩ (.func (.func 43) #[] #[.pointer (some ⟨Bf88x3, 0, none⟩), .pointer (some ⟨Cf88x3, 0, none⟩)]))) := Lib.hid (HT1.out.setCell hVw _)
            clear hV HT1 HF1 HG1 HU1 HV1
            refine onH 7 (oi := ?_) (by kernel_rfl) ?_ ?_ (fun K hK => ?_); rotate_left; (simp only [gA, gB, gC]; exact rfl); rfl
            go_wp2_with (fail)
            refine hK.out _ _ ⟨heap_keep HT2.out HA.out, heap_keep HT2.out HB.out⟩ (fun hHeld => ?_)
            clear hK K hHeld
            try simp only [Act.put, pB, pC, pD]
            refine wpAnyH_done (by kernel_rfl) ?_ _
            go_wp2_with (fail)
            go_meet
            exact ⟨_, _, rfl, rfl, ⟨_, _, HU2.out, HV2.out, HF2.out, HG2.out⟩, HT2.out⟩
          exact AllReadyH.nil
        exact AllReadyH.nil
      exact AllReadyH.nil
    refine coH 4 (oi := ?_) ?_ ?_ (fun K hK => ?_) ?_; rotate_left; (simp only [gA, gB, gC]; exact rfl); rfl
    · go_wp2_with (fail)
      have hb : Below d0.heap.size d0 (d0.alloc (.cells #[.nilFunc] 48)) := (Below.refl _ _).alloc (Nat.le_refl _) _
      have hnew : (d0.alloc (.cells #[.nilFunc] 48)).heap[d0.heap.size]? = some (.cells #[.nilFunc] 48 (0, 0)) := heap_new rfl
      have hnw : w0.heap.size ≤ d0.heap.size := HT.out.size
      have hne : ∀ X o, d0.heap[X]? = some o → X ≠ d0.heap.size := fun X o h e => by have := lt_of_heap h; omega
      generalize (d0.alloc (.cells #[.nilFunc] 48)) = d73x4 at *
      have HTn := Lib.hid (HT.out.trans (hb.mono HT.out.size))
      replace HT := HTn
      clear HTn
      have hU := hnew
      have hUw := hnw
      clear hb hnew hnw hne
      refine hK.out _ _ ⟨heap_keep HT.out HA.out, heap_keep HT.out HB.out⟩ (fun hHeld => ?_)
      clear hK K hHeld
      try simp only [Act.put, pB, pC, pD]
      refine wpAnyH_ready (rs := [1, 5]) (by kernel_rfl) (by simp) ?_
      refine coH 1 (oi := ?_) ?_ ?_ (fun K hK => ?_) ?_; rotate_left; (simp only [gA, gB, gC]; exact rfl); rfl
      · go_wp2_with (fail)
        refine (covers_any a c _ HV1.out (HR1.out.kept HT.out)).mono ?_
        rintro e d90x1 ⟨f90x1, rfl, hcv, hb⟩
        obtain ⟨Bf90x1, Cf90x1, rfl⟩ := hcv.isfunc
        have HN := Lib.hid hcv
        clear hcv
        go_wp2_with (fail)
        have HTn := Lib.hid (HT.out.trans (hb.mono HT.out.size))
        replace HT := HTn
        clear HTn
        have HCF := HN
        replace hU := heap_keep hb hU
        clear hb HN
        refine hK.out _ _ ⟨heap_keep HT.out HA.out, heap_keep HT.out HB.out⟩ (fun hHeld => ?_)
        clear hK K hHeld
        try simp only [Act.put, pB, pC, pD]
        refine wpAnyH_ready (rs := [3, 5]) (by kernel_rfl) (by simp) ?_
        refine coH 3 (oi := ?_) ?_ ?_ (fun K hK => ?_) ?_; rotate_left; (simp only [gA, gB, gC]; exact rfl); rfl
        · go_wp2_with (fail)
          refine (covers_any a' c' _ HV2.out (HR2.out.kept HT.out)).mono ?_
          rintro e d91x3 ⟨f91x3, rfl, hcv, hb⟩
          obtain ⟨Bf91x3, Cf91x3, rfl⟩ := hcv.isfunc
          have HN := Lib.hid hcv
          clear hcv
          go_wp2_with (fail)
          have HTn := Lib.hid (HT.out.trans (hb.mono HT.out.size))
          replace HT := HTn
          clear HTn
          replace HCF := Lib.hid (HCF.out.kept hb)
          have HCG := HN
          replace hU := heap_keep hb hU
          clear hb HN
          refine hK.out _ _ ⟨heap_keep HT.out HA.out, heap_keep HT.out HB.out⟩ (fun hHeld => ?_)
          clear hK K hHeld
          try simp only [Act.put, pB, pC, pD]
          refine wpAnyH_ready (rs := [5]) (by kernel_rfl) (by simp) ?_
          refine coH 5 (oi := ?_) ?_ ?_ (fun K hK => ?_) ?_; rotate_left; (simp only [gA, gB, gC]; exact rfl); rfl
          · go_wp2_with (fail)
            have hb : Below d91x3.heap.size d91x3 (d91x3.alloc (.cells #[.nilFunc] 48)) := (Below.refl _ _).alloc (Nat.le_refl _) _
            have hnew : (d91x3.alloc (.cells #[.nilFunc] 48)).heap[d91x3.heap.size]? = some (.cells #[.nilFunc] 48 (0, 0)) := heap_new rfl
            have hnw : w0.heap.size ≤ d91x3.heap.size := HT.out.size
            have hne : ∀ X o, d91x3.heap[X]? = some o → X ≠ d91x3.heap.size := fun X o h e => by have := lt_of_heap h; omega
            generalize (d91x3.alloc (.cells #[.nilFunc] 48)) = d92x5 at *
            have HTn := Lib.hid (HT.out.trans (hb.mono HT.out.size))
            replace HT := HTn
            clear HTn
            replace HCF := Lib.hid (HCF.out.kept hb)
            replace HCG := Lib.hid (HCG.out.kept hb)
            have hUV : d0.heap.size ≠ d91x3.heap.size := fun e => hne _ _ hU e
            have hV := hnew
            have hVw := hnw
            replace hU := heap_keep hb hU
            clear hb hnew hnw hne
            refine hK.out _ _ ⟨heap_keep HT.out HA.out, heap_keep HT.out HB.out⟩ (fun hHeld => ?_)
            clear hK K hHeld
            try simp only [Act.put, pB, pC, pD]
            have hlU93 := lt_of_heap hU
            have hlV93 := lt_of_heap hV
            have cU93 : d92x5.cell? ⟨d0.heap.size, 0, none⟩ = some .nilFunc := cell_of hU rfl
            have fU93 : d92x5.frozen? ⟨d0.heap.size, 0, none⟩ = false := frozen_of hU
            have HU1 : Hid ((d92x5.setCell ⟨d0.heap.size, 0, none⟩ (.func (.func 43) #[] #[.pointer (some ⟨Bf90x1, 0, none⟩), .pointer (some ⟨Cf90x1, 0, none⟩)])).heap[d0.heap.size]? = some (.cells #[(.func (.func 43) #[] #[.pointer (some ⟨Bf90x1, 0, none⟩), .pointer (some ⟨Cf90x1, 0, none⟩)])] 48 (0, 0))) := Lib.hid (set1 hU)
            have HV1 : Hid ((d92x5.setCell ⟨d0.heap.size, 0, none⟩ (.func (.func 43) #[] #[.pointer (some ⟨Bf90x1, 0, none⟩), .pointer (some ⟨Cf90x1, 0, none⟩)])).heap[d91x3.heap.size]? = some (.cells #[.nilFunc] 48 (0, 0))) := Lib.hid ((Below.heap_setCell _ _ _ _ (Ne.symm hUV)).trans hV)
            have HF1 : Hid (CovV (d92x5.setCell ⟨d0.heap.size, 0, none⟩ (.func (.func 43) #[] #[.pointer (some ⟨Bf90x1, 0, none⟩), .pointer (some ⟨Cf90x1, 0, none⟩)])) (.func (.func 43) #[] #[.pointer (some ⟨Bf90x1, 0, none⟩), .pointer (some ⟨Cf90x1, 0, none⟩)]) _ _ _ _) := Lib.hid (HCF.out.set hU)
            have HG1 : Hid (CovV (d92x5.setCell ⟨d0.heap.size, 0, none⟩ (.func (.func 43) #[] #[.pointer (some ⟨Bf90x1, 0, none⟩), .pointer (some ⟨Cf90x1, 0, none⟩)])) (.func (.func 43) #[] #[.pointer (some ⟨Bf91x3, 0, none⟩), .pointer (some ⟨Cf91x3, 0, none⟩)]) _ _ _ _) := Lib.hid (HCG.out.set hU)
            have HT1 : Hid (Below w0.heap.size w0 (d92x5.setCell ⟨d0.heap.size, 0, none⟩ (.func (.func 43) #[] #[.pointer (some ⟨Bf90x1, 0, none⟩), .pointer (some ⟨Cf90x1, 0, none⟩)]))) := Lib.hid (HT.out.setCell hUw _)
            clear hU hV HT HCF HCG
            refine onH 6 (oi := ?_) (by kernel_rfl) ?_ ?_ (fun K hK => ?_); rotate_left; (simp only [gA, gB, gC]; exact rfl); rfl
            go_wp2_with (fail)
            refine hK.out _ _ ⟨heap_keep HT1.out HA.out, heap_keep HT1.out HB.out⟩ (fun hHeld => ?_)
            clear hK K hHeld
            try simp only [Act.put, pB, pC, pD]
            generalize (d92x5.setCell ⟨d0.heap.size, 0, none⟩ (.func (.func 43) #[] #[.pointer (some ⟨Bf90x1, 0, none⟩), .pointer (some ⟨Cf90x1, 0, none⟩)])) = e0 at *
            have hV := HV1.out
            have cV93 : e0.cell? ⟨d91x3.heap.size, 0, none⟩ = some .nilFunc := cell_of hV rfl
            have fV93 : e0.frozen? ⟨d91x3.heap.size, 0, none⟩ = false := frozen_of hV
            have HU2 : Hid ((e0.setCell ⟨d91x3.heap.size, 0, none⟩ (.func (.func 43) #[] #[.pointer (some ⟨Bf91x3, 0, none⟩), .pointer (some ⟨Cf91x3, 0, none⟩)])).heap[d0.heap.size]? = some (.cells #[(.func (.func 43) #[] #[.pointer (some ⟨Bf90x1, 0, none⟩), .pointer (some ⟨Cf90x1, 0, none⟩)])] 48 (0, 0))) := Lib.hid ((Below.heap_setCell _ _ _ _ hUV).trans HU1.out)
            have HV2 : Hid ((e0.setCell ⟨d91x3.heap.size, 0, none⟩ (.func (.func 43) #[] #[.pointer (some ⟨Bf91x3, 0, none⟩), .pointer (some ⟨Cf91x3, 0, none⟩)])).heap[d91x3.heap.size]? = some (.cells #[(.func (.func 43) #[] #[.pointer (some ⟨Bf91x3, 0, none⟩), .pointer (some ⟨Cf91x3, 0, none⟩)])] 48 (0, 0))) := Lib.hid (set1 hV)
            have HF2 : Hid (CovV (e0.setCell ⟨d91x3.heap.size, 0, none⟩ (.func (.func 43) #[] #[.pointer (some ⟨Bf91x3, 0, none⟩), .pointer (some ⟨Cf91x3, 0, none⟩)])) (.func (.func 43) #[] #[.pointer (some ⟨Bf90x1, 0, none⟩), .pointer (some ⟨Cf90x1, 0, none⟩)]) _ _ _ _) := Lib.hid (HF1.out.set hV)
            have HG2 : Hid (CovV (e0.setCell ⟨d91x3.heap.size, 0, none⟩ (.func (.func 43) #[] #[.pointer (some ⟨Bf91x3, 0, none⟩), .pointer (some ⟨Cf91x3, 0, none⟩)])) (.func (.func 43) #[] #[.pointer (some ⟨Bf91x3, 0, none⟩), .pointer (some ⟨Cf91x3, 0, none⟩)]) _ _ _ _) := Lib.hid (HG1.out.set hV)
            have HT2 : Hid (Below w0.heap.size w0 (e0.setCell ⟨d91x3.heap.size, 0, none⟩ (.func (.func 43) #[] #[.pointer (some ⟨Bf91x3, 0, none⟩), .pointer (some ⟨Cf91x3, 0, none⟩)]))) := Lib.hid (HT1.out.setCell hVw _)
            clear hV HT1 HF1 HG1 HU1 HV1
            refine onH 7 (oi := ?_) (by kernel_rfl) ?_ ?_ (fun K hK => ?_); rotate_left; (simp only [gA, gB, gC]; exact rfl); rfl
            go_wp2_with (fail)
            refine hK.out _ _ ⟨heap_keep HT2.out HA.out, heap_keep HT2.out HB.out⟩ (fun hHeld => ?_)
            clear hK K hHeld
            try simp only [Act.put, pB, pC, pD]
            refine wpAnyH_done (by kernel_rfl) ?_ _
            go_wp2_with (fail)
            go_meet
            exact ⟨_, _, rfl, rfl, ⟨_, _, HU2.out, HV2.out, HF2.out, HG2.out⟩, HT2.out⟩
          exact AllReadyH.nil
        refine coH 5 (oi := ?_) ?_ ?_ (fun K hK => ?_) ?_; rotate_left; (simp only [gA, gB, gC]; exact rfl); rfl
        · go_wp2_with (fail)
          have hb : Below d90x1.heap.size d90x1 (d90x1.alloc (.cells #[.nilFunc] 48)) := (Below.refl _ _).alloc (Nat.le_refl _) _
          have hnew : (d90x1.alloc (.cells #[.nilFunc] 48)).heap[d90x1.heap.size]? = some (.cells #[.nilFunc] 48 (0, 0)) := heap_new rfl
          have hnw : w0.heap.size ≤ d90x1.heap.size := HT.out.size
          have hne : ∀ X o, d90x1.heap[X]? = some o → X ≠ d90x1.heap.size := fun X o h e => by have := lt_of_heap h; omega
          generalize (d90x1.alloc (.cells #[.nilFunc] 48)) = d91x5 at *
          have HTn := Lib.hid (HT.out.trans (hb.mono HT.out.size))
          replace HT := HTn
          clear HTn
          replace HCF := Lib.hid (HCF.out.kept hb)
          have hUV : d0.heap.size ≠ d90x1.heap.size := fun e => hne _ _ hU e
          have hV := hnew
          have hVw := hnw
          replace hU := heap_keep hb hU
          clear hb hnew hnw hne
          refine hK.out _ _ ⟨heap_keep HT.out HA.out, heap_keep HT.out HB.out⟩ (fun hHeld => ?_)
          clear hK K hHeld
          try simp only [Act.put, pB, pC, pD]
          refine wpAnyH_ready (rs := [3]) (by kernel_rfl) (by simp) ?_
          refine coH 3 (oi := ?_) ?_ ?_ (fun K hK => ?_) ?_; rotate_left; (simp only [gA, gB, gC]; exact rfl); rfl
          · go_wp2_with (fail)
            refine (covers_any a' c' _ HV2.out (HR2.out.kept HT.out)).mono ?_
            rintro e d94x3 ⟨f94x3, rfl, hcv, hb⟩
            obtain ⟨Bf94x3, Cf94x3, rfl⟩ := hcv.isfunc
            have HN := Lib.hid hcv
            clear hcv
            go_wp2_with (fail)
            have HTn := Lib.hid (HT.out.trans (hb.mono HT.out.size))
            replace HT := HTn
            clear HTn
            replace HCF := Lib.hid (HCF.out.kept hb)
            have HCG := HN
            replace hU := heap_keep hb hU
            replace hV := heap_keep hb hV
            clear hb HN
            refine hK.out _ _ ⟨heap_keep HT.out HA.out, heap_keep HT.out HB.out⟩ (fun hHeld => ?_)
            clear hK K hHeld
            try simp only [Act.put, pB, pC, pD]
            have hlU95 := lt_of_heap hU
            have hlV95 := lt_of_heap hV
            have cU95 : d94x3.cell? ⟨d0.heap.size, 0, none⟩ = some .nilFunc := cell_of hU rfl
            have fU95 : d94x3.frozen? ⟨d0.heap.size, 0, none⟩ = false := frozen_of hU
            have HU1 : Hid ((d94x3.setCell ⟨d0.heap.size, 0, none⟩ (.func (.func 43) #[] #[.pointer (some ⟨Bf90x1, 0, none⟩), .pointer (some ⟨Cf90x1, 0, none⟩)])).heap[d0.heap.size]? = some (.cells #[(.func (.func 43) #[] #[.pointer (some ⟨Bf90x1, 0, none⟩), .pointer (some ⟨Cf90x1, 0, none⟩)])] 48 (0, 0))) := Lib.hid (set1 hU)
            have HV1 : Hid ((d94x3.setCell ⟨d0.heap.size, 0, none⟩ (.func (.func 43) #[] #[.pointer (some ⟨Bf90x1, 0, none⟩), .pointer (some ⟨Cf90x1, 0, none⟩)])).heap[d90x1.heap.size]? = some (.cells #[.nilFunc] 48 (0, 0))) := Lib.hid ((Below.heap_setCell _ _ _ _ (Ne.symm hUV)).trans hV)
            have HF1 : Hid (CovV (d94x3.setCell ⟨d0.heap.size, 0, none⟩ (.func (.func 43) #[] #[.pointer (some ⟨Bf90x1, 0, none⟩), .pointer (some ⟨Cf90x1, 0, none⟩)])) (.func (.func 43) #[] #[.pointer (some ⟨Bf90x1, 0, none⟩), .pointer (some ⟨Cf90x1, 0, none⟩)]) _ _ _ _) := Lib.hid (HCF.out.set hU)
            have HG1 : Hid (CovV (d94x3.setCell ⟨d0.heap.size, 0, none⟩ (.func (.func 43) #[] #[.pointer (some ⟨Bf90x1, 0, none⟩), .pointer (some ⟨Cf90x1, 0, none⟩)])) (.func (.func 43) #[] #[.pointer (some ⟨Bf94x3, 0, none⟩), .pointer (some ⟨Cf94x3, 0, none⟩)]) _ _ _ _) := Lib.hid (HCG.out.set hU)
            have HT1 : Hid (Below w0.heap.size w0 (d94x3.setCell ⟨d0.heap.size, 0, none⟩ (.func (.func 43) #[] #[.pointer (some ⟨Bf90x1, 0, none⟩), .pointer (some ⟨Cf90x1, 0, none⟩)]))) := Lib.hid (HT.out.setCell hUw _)
            clear hU hV HT HCF HCG
            refine onH 6 (oi := ?_) (by kernel_rfl) ?_ ?_ (fun K hK => ?_); rotate_left; (simp only [gA, gB, gC]; exact rfl); rfl
            go_wp2_with (fail)
            refine hK.out _ _ ⟨heap_keep HT1.out HA.out, heap_keep HT1.out HB.out⟩ (fun hHeld => ?_)
            clear hK K hHeld
            try simp only [Act.put, pB, pC, pD]
            generalize (d94x3.setCell ⟨d0.heap.size, 0, none⟩ (.func (.func 43) #[] #[.pointer (some ⟨Bf90x1, 0, none⟩), .pointer (some ⟨Cf90x1, 0, none⟩)])) = e0 at *
            have hV := HV1.out
            have cV95 : e0.cell? ⟨d90x1.heap.size, 0, none⟩ = some .nilFunc := cell_of hV rfl
            have fV95 : e0.frozen? ⟨d90x1.heap.size, 0, none⟩ = false := frozen_of hV
            have HU2 : Hid ((e0.setCell ⟨d90x1.heap.size, 0, none⟩ (.func (.func 43) #[] #[.pointer (some ⟨Bf94x3, 0, none⟩), .pointer (some ⟨Cf94x3, 0, none⟩)])).heap[d0.heap.size]? = some (.cells #[(.func (.func 43) #[] #[.pointer (some ⟨Bf90x1, 0, none⟩), .pointer (some ⟨Cf90x1, 0, none⟩)])] 48 (0, 0))) := Lib.hid ((Below.heap_setCell _ _ _ _ hUV).trans HU1.out)
            have HV2 : Hid ((e0.setCell ⟨d90x1.heap.size, 0, none⟩ (.func (.func 43) #[] #[.pointer (some ⟨Bf94x3, 0, none⟩), .pointer (some ⟨Cf94x3, 0, none⟩)])).heap[d90x1.heap.size]? = some (.cells #[(.func (.func 43) #[] #[.pointer (some ⟨Bf94x3, 0, none⟩), .pointer (some ⟨Cf94x3, 0, none⟩)])] 48 (0, 0))) := Lib.hid (set1 hV)
            have HF2 : Hid (CovV (e0.setCell ⟨d90x1.heap.size, 0, none⟩ (.func (.func 43) #[] #[.pointer (some ⟨Bf94x3, 0, none⟩), .pointer (some ⟨Cf94x3, 0, none⟩)])) (.func (.func 43) #[] #[.pointer (some ⟨Bf90x1, 0, none⟩), .pointer (some ⟨Cf90x1, 0, none⟩)]) _ _ _ _) := Lib.hid (HF1.out.set hV)
            have HG2 : Hid (CovV (e0.setCell ⟨d90x1.heap.size, 0, none⟩ (.func (.func 43) #[] #[.pointer (some ⟨Bf94x3, 0, none⟩), .pointer (some ⟨Cf94x3, 0, none⟩)])) (.func (.func 43) #[] #[.pointer (some ⟨Bf94x3, 0, none⟩), .pointer (some ⟨Cf94x3, 0, none⟩)]) _ _ _ _) := Lib.hid (HG1.out.set hV)
            have HT2 : Hid (Below w0.heap.size w0 (e0.setCell ⟨d90x1.heap.size, 0, none⟩ (.func (.func 43) #[] #[.pointer (some ⟨Bf94x3, 0, none⟩), .pointer (some ⟨Cf94x3, 0, none⟩)]))) := Lib.hid (HT1.out.setCell hVw _)
            clear hV HT1 HF1 HG1 HU1 HV1
            refine onH 7 (oi := ?_) (by kernel_rfl) ?_ ?_ (fun K hK => ?_); rotate_left; (simp only [gA, gB, gC]; exact rfl); rfl
            go_wp2_with (fail)
            refine hK.out _ _ ⟨heap_keep HT2.out HA.out, heap_keep HT2.out HB.out⟩ (fun hHeld => ?_)
            clear hK K hHeld
            try simp only [Act.put, pB, pC, pD]
            refine wpAnyH_done (by kernel_rfl) ?_ _
            go_wp2_with (fail)
            go_meet
            exact ⟨_, _, rfl, rfl, ⟨_, _, HU2.out, HV2.out, HF2.out, HG2.out⟩, HT2.out⟩
          exact AllReadyH.nil
        exact AllReadyH.nil
      refine coH 5 (oi := ?_) ?_ ?_ (fun K hK => ?_) ?_; rotate_left; (simp only [gA, gB, gC]; exact rfl); rfl
      · go_wp2_with (fail)
        have hb : Below d73x4.heap.size d73x4 (d73x4.alloc (.cells #[.nilFunc] 48)) := (Below.refl _ _).alloc (Nat.le_refl _) _
        have hnew : (d73x4.alloc (.cells #[.nilFunc] 48)).heap[d73x4.heap.size]? = some (.cells #[.nilFunc] 48 (0, 0)) := heap_new rfl
        have hnw : w0.heap.size ≤ d73x4.heap.size := HT.out.size
        have hne : ∀ X o, d73x4.heap[X]? = some o → X ≠ d73x4.heap.size := fun X o h e => by have := lt_of_heap h; omega
        generalize (d73x4.alloc (.cells #[.nilFunc] 48)) = d90x5 at *
        have HTn := Lib.hid (HT.out.trans (hb.mono HT.out.size))
        replace HT := HTn
        clear HTn
        have hUV : d0.heap.size ≠ d73x4.heap.size := fun e => hne _ _ hU e
        have hV := hnew
        have hVw := hnw
        replace hU := heap_keep hb hU
        clear hb hnew hnw hne
        refine hK.out _ _ ⟨heap_keep HT.out HA.out, heap_keep HT.out HB.out⟩ (fun hHeld => ?_)
        clear hK K hHeld
        try simp only [Act.put, pB, pC, pD]
        refine wpAnyH_ready (rs := [1]) (by kernel_rfl) (by simp) ?_
        refine coH 1 (oi := ?_) ?_ ?_ (fun K hK => ?_) ?_; rotate_left; (simp only [gA, gB, gC]; exact rfl); rfl
        · go_wp2_with (fail)
          refine (covers_any a c _ HV1.out (HR1.out.kept HT.out)).mono ?_
          rintro e d96x1 ⟨f96x1, rfl, hcv, hb⟩
          obtain ⟨Bf96x1, Cf96x1, rfl⟩ := hcv.isfunc
          have HN := Lib.hid hcv
          clear hcv
          go_wp2_with (fail)
          have HTn := Lib.hid (HT.out.trans (hb.mono HT.out.size))
          replace HT := HTn
          clear HTn
          have HCF := HN
          replace hU := heap_keep hb hU
          replace hV := heap_keep hb hV
          clear hb HN
          refine hK.out _ _ ⟨heap_keep HT.out HA.out, heap_keep HT.out HB.out⟩ (fun hHeld => ?_)
          clear hK K hHeld
          try simp only [Act.put, pB, pC, pD]
          refine wpAnyH_ready (rs := [3]) (by kernel_rfl) (by simp) ?_
          refine coH 3 (oi := ?_) ?_ ?_ (fun K hK => ?_) ?_; rotate_left; (simp only [gA, gB, gC]; exact rfl); rfl
          · go_wp2_with (fail)
            refine (covers_any a' c' _ HV2.out (HR2.out.kept HT.out)).mono ?_
            rintro e d97x3 ⟨f97x3, rfl, hcv, hb⟩
            obtain ⟨Bf97x3, Cf97x3, rfl⟩ := hcv.isfunc
            have HN := Lib.hid hcv
            clear hcv
            go_wp2_with (fail)
            have HTn := Lib.hid (HT.out.trans (hb.mono HT.out.size))
            replace HT := HTn
            clear HTn
            replace HCF := Lib.hid (HCF.out.kept hb)
            have HCG := HN
            replace hU := heap_keep hb hU
            replace hV := heap_keep hb hV
            clear hb HN
            refine hK.out _ _ ⟨heap_keep HT.out HA.out, heap_keep HT.out HB.out⟩ (fun hHeld => ?_)
            clear hK K hHeld
            try simp only [Act.put, pB, pC, pD]
            have hlU98 := lt_of_heap hU
            have hlV98 := lt_of_heap hV
            have cU98 : d97x3.cell? ⟨d0.heap.size, 0, none⟩ = some .nilFunc := cell_of hU rfl
            have fU98 : d97x3.frozen? ⟨d0.heap.size, 0, none⟩ = false := frozen_of hU
            have HU1 : Hid ((d97x3.setCell ⟨d0.heap.size, 0, none⟩ (.func (.func 43) #[] #[.pointer (some ⟨Bf96x1, 0, none⟩), .pointer (some ⟨Cf96x1, 0, none⟩)])).heap[d0.heap.size]? = some (.cells #[(.func (.func 43) #[] #[.pointer (some ⟨Bf96x1, 0, none⟩), .pointer (some ⟨Cf96x1, 0, none⟩)])] 48 (0, 0))) := Lib.hid (set1 hU)
            have HV1 : Hid ((d97x3.setCell ⟨d0.heap.size, 0, none⟩ (.func (.func 43) #[] #[.pointer (some ⟨Bf96x1, 0, none⟩), .pointer (some ⟨Cf96x1, 0, none⟩)])).heap[d73x4.heap.size]? = some (.cells #[.nilFunc] 48 (0, 0))) := Lib.hid ((Below.heap_setCell _ _ _ _ (Ne.symm hUV)).trans hV)
            have HF1 : Hid (CovV (d97x3.setCell ⟨d0.heap.size, 0, none⟩ (.func (.func 43) #[] #[.pointer (some ⟨Bf96x1, 0, none⟩), .pointer (some ⟨Cf96x1, 0, none⟩)])) (.func (.func 43) #[] #[.pointer (some ⟨Bf96x1, 0, none⟩), .pointer (some ⟨Cf96x1, 0, none⟩)]) _ _ _ _) := Lib.hid (HCF.out.set hU)
            have HG1 : Hid (CovV (d97x3.setCell ⟨d0.heap.size, 0, none⟩ (.func (.func 43) #[] #[.pointer (some ⟨Bf96x1, 0, none⟩), .pointer (some ⟨Cf96x1, 0, none⟩)])) (.func (.func 43) #[] #[.pointer (some ⟨Bf97x3, 0, none⟩), .pointer (some ⟨Cf97x3, 0, none⟩)]) _ _ _ _) := Lib.hid (HCG.out.set hU)
            have HT1 : Hid (Below w0.heap.size w0 (d97x3.setCell ⟨d0.heap.size, 0, none⟩ (.func (.func 43) #[] #[.pointer (some ⟨Bf96x1, 0, none⟩), .pointer (some ⟨Cf96x1, 0, none⟩)]))) := Lib.hid (HT.out.setCell hUw _)
            clear hU hV HT HCF HCG
            refine onH 6 (oi := ?_) (by kernel_rfl) ?_ ?_ (fun K hK => ?_); rotate_left; (simp only [gA, gB, gC]; exact rfl); rfl
            go_wp2_with (fail)
            refine hK.out _ _ ⟨heap_keep HT1.out HA.out, heap_keep HT1.out HB.out⟩ (fun hHeld => ?_)
            clear hK K hHeld
            try simp only [Act.put, pB, pC, pD]
            generalize (d97x3.setCell ⟨d0.heap.size, 0, none⟩ (.func (.func 43) #[] #[.pointer (some ⟨Bf96x1, 0, none⟩), .pointer (some ⟨Cf96x1, 0, none⟩)])) = e0 at *
            have hV := HV1.out
            have cV98 : e0.cell? ⟨d73x4.heap.size, 0, none⟩ = some .nilFunc := cell_of hV rfl
            have fV98 : e0.frozen? ⟨d73x4.heap.size, 0, none⟩ = false := frozen_of hV
            have HU2 : Hid ((e0.setCell ⟨d73x4.heap.size, 0, none⟩ (.func (.func 43) #[] #[.pointer (some ⟨Bf97x3, 0, none⟩), .pointer (some ⟨Cf97x3, 0, none⟩)])).heap[d0.heap.size]? = some (.cells #[(.func (.func 43) #[] #[.pointer (some ⟨Bf96x1, 0, none⟩), .pointer (some ⟨Cf96x1, 0, none⟩)])] 48 (0, 0))) := Lib.hid ((Below.heap_setCell _ _ _ _ hUV).trans HU1.out)
            have HV2 : Hid ((e0.setCell ⟨d73x4.heap.size, 0, none⟩ (.func (.func 43) #[] #[.pointer (some ⟨Bf97x3, 0, none⟩), .pointer (some ⟨Cf97x3, 0, none⟩)])).heap[d73x4.heap.size]? = some (.cells #[(.func (.func 43) #[] #[.pointer (some ⟨Bf97x3, 0, none⟩), .pointer (some ⟨Cf97x3, 0, none⟩)])] 48 (0, 0))) := Lib.hid (set1 hV)
            have HF2 : Hid (CovV (e0.setCell ⟨d73x4.heap.size, 0, none⟩ (.func (.func 43) #[] #[.pointer (some ⟨Bf97x3, 0, none⟩), .pointer (some ⟨Cf97x3, 0, none⟩)])) (.func (.func 43) #[] #[.pointer (some ⟨Bf96x1, 0, none⟩), .pointer (some ⟨Cf96x1, 0, none⟩)]) _ _ _ _) := Lib.hid (HF1.out.set hV)
            have HG2 : Hid (CovV (e0.setCell ⟨d73x4.heap.size, 0, none⟩ (.func (.func 43) #[] #[.pointer (some ⟨Bf97x3, 0, none⟩), .pointer (some ⟨Cf97x3, 0, none⟩)])) (.func (.func 43) #[] #[.pointer (some ⟨Bf97x3, 0, none⟩), .pointer (some ⟨Cf97x3, 0, none⟩)]) _ _ _ _) := Lib.hid (HG1.out.set hV)
            have HT2 : Hid (Below w0.heap.size w0 (e0.setCell ⟨d73x4.heap.size, 0, none⟩ (.func (.func 43) #[] #[.pointer (some ⟨Bf97x3, 0, none⟩), .pointer (some ⟨Cf97x3, 0, none⟩)]))) := Lib.hid (HT1.out.setCell hVw _)
            clear hV HT1 HF1 HG1 HU1 HV1
            refine onH 7 (oi := ?_) (by kernel_rfl) ?_ ?_ (fun K hK => ?_); rotate_left; (simp only [gA, gB, gC]; exact rfl); rfl
            go_wp2_with (fail)
            refine hK.out _ _ ⟨heap_keep HT2.out HA.out, heap_keep HT2.out HB.out⟩ (fun hHeld => ?_)
            clear hK K hHeld
            try simp only [Act.put, pB, pC, pD]
            refine wpAnyH_done (by kernel_rfl) ?_ _
            go_wp2_with (fail)
            go_meet
            exact ⟨_, _, rfl, rfl, ⟨_, _, HU2.out, HV2.out, HF2.out, HG2.out⟩, HT2.out⟩
          exact AllReadyH.nil
        exact AllReadyH.nil
      exact AllReadyH.nil
    refine coH 5 (oi := ?_) ?_ ?_ (fun K hK => ?_) ?_; rotate_left; (simp only [gA, gB, gC]; exact rfl); rfl
    · go_wp2_with (fail)
      have hb : Below d0.heap.size d0 (d0.alloc (.cells #[.nilFunc] 48)) := (Below.refl _ _).alloc (Nat.le_refl _) _
      have hnew : (d0.alloc (.cells #[.nilFunc] 48)).heap[d0.heap.size]? = some (.cells #[.nilFunc] 48 (0, 0)) := heap_new rfl
      have hnw : w0.heap.size ≤ d0.heap.size := HT.out.size
      have hne : ∀ X o, d0.heap[X]? = some o → X ≠ d0.heap.size := fun X o h e => by have := lt_of_heap h; omega
      generalize (d0.alloc (.cells #[.nilFunc] 48)) = d73x5 at *
      have HTn := Lib.hid (HT.out.trans (hb.mono HT.out.size))
      replace HT := HTn
      clear HTn
      have hV := hnew
      have hVw := hnw
      clear hb hnew hnw hne
      refine hK.out _ _ ⟨heap_keep HT.out HA.out, heap_keep HT.out HB.out⟩ (fun hHeld => ?_)
      clear hK K hHeld
      try simp only [Act.put, pB, pC, pD]
      refine wpAnyH_ready (rs := [1, 4]) (by kernel_rfl) (by simp) ?_
      refine coH 1 (oi := ?_) ?_ ?_ (fun K hK => ?_) ?_; rotate_left; (simp only [gA, gB, gC]; exact rfl); rfl
      · go_wp2_with (fail)
        refine (covers_any a c _ HV1.out (HR1.out.kept HT.out)).mono ?_
        rintro e d99x1 ⟨f99x1, rfl, hcv, hb⟩
        obtain ⟨Bf99x1, Cf99x1, rfl⟩ := hcv.isfunc
        have HN := Lib.hid hcv
        clear hcv
        go_wp2_with (fail)
        have HTn := Lib.hid (HT.out.trans (hb.mono HT.out.size))
        replace HT := HTn
        clear HTn
        have HCF := HN
        replace hV := heap_keep hb hV
        clear hb HN
        refine hK.out _ _ ⟨heap_keep HT.out HA.out, heap_keep HT.out HB.out⟩ (fun hHeld => ?_)
        clear hK K hHeld
        try simp only [Act.put, pB, pC, pD]
        refine wpAnyH_ready (rs := [3, 4]) (by kernel_rfl) (by simp) ?_
        refine coH 3 (oi := ?_) ?_ ?_ (fun K hK => ?_) ?_; rotate_left; (simp only [gA, gB, gC]; exact rfl); rfl
        · go_wp2_with (fail)
          refine (covers_any a' c' _ HV2.out (HR2.out.kept HT.out)).mono ?_
          rintro e d100x3 ⟨f100x3, rfl, hcv, hb⟩
          obtain ⟨Bf100x3, Cf100x3, rfl⟩ := hcv.isfunc
          have HN := Lib.hid hcv
          clear hcv
          go_wp2_with (fail)
          have HTn := Lib.hid (HT.out.trans (hb.mono HT.out.size))
          replace HT := HTn
          clear HTn
          replace HCF := Lib.hid (HCF.out.kept hb)
          have HCG := HN
          replace hV := heap_keep hb hV
          clear hb HN
          refine hK.out _ _ ⟨heap_keep HT.out HA.out, heap_keep HT.out HB.out⟩ (fun hHeld => ?_)
          clear hK K hHeld
          try simp only [Act.put, pB, pC, pD]
          refine wpAnyH_ready (rs := [4]) (by kernel_rfl) (by simp) ?_
          refine coH 4 (oi := ?_) ?_ ?_ (fun K hK => ?_) ?_; rotate_left; (simp only [gA, gB, gC]; exact rfl); rfl
          · go_wp2_with (fail)
            have hb : Below d100x3.heap.size d100x3 (d100x3.alloc (.cells #[.nilFunc] 48)) := (Below.refl _ _).alloc (Nat.le_refl _) _
            have hnew : (d100x3.alloc (.cells #[.nilFunc] 48)).heap[d100x3.heap.size]? = some (.cells #[.nilFunc] 48 (0, 0)) := heap_new rfl
            have hnw : w0.heap.size ≤ d100x3.heap.size := HT.out.size
            have hne : ∀ X o, d100x3.heap[X]? = some o → X ≠ d100x3.heap.size := fun X o h e => by have := lt_of_heap h; omega
            generalize (d100x3.alloc (.cells #[.nilFunc] 48)) = d101x4 at *
            have HTn := Lib.hid (HT.out.trans (hb.mono HT.out.size))
            replace HT := HTn
            clear HTn
            replace HCF := Lib.hid (HCF.out.kept hb)
            replace HCG := Lib.hid (HCG.out.kept hb)
            have hUV : d100x3.heap.size ≠ d0.heap.size := fun e => hne _ _ hV e.symm
            have hU := hnew
            have hUw := hnw
            replace hV := heap_keep hb hV
            clear hb hnew hnw hne
            refine hK.out _ _ ⟨heap_keep HT.out HA.out, heap_keep HT.out HB.out⟩ (fun hHeld => ?_)
            clear hK K hHeld
            try simp only [Act.put, pB, pC, pD]
            have hlU102 := lt_of_heap hU
            have hlV102 := lt_of_heap hV
            have cU102 : d101x4.cell? ⟨d100x3.heap.size, 0, none⟩ = some .nilFunc := cell_of hU rfl
            have fU102 : d101x4.frozen? ⟨d100x3.heap.size, 0, none⟩ = false := frozen_of hU
            have HU1 : Hid ((d101x4.setCell ⟨d100x3.heap.size, 0, none⟩ (.func (.func 43) #[] #[.pointer (some ⟨Bf99x1, 0, none⟩), .pointer (some ⟨Cf99x1, 0, none⟩)])).heap[d100x3.heap.size]? = some (.cells #[(.func (.func 43) #[] #[.pointer (some ⟨Bf99x1, 0, none⟩), .pointer (some ⟨Cf99x1, 0, none⟩)])] 48 (0, 0))) := Lib.hid (set1 hU)
            have HV1 : Hid ((d101x4.setCell ⟨d100x3.heap.size, 0, none⟩ (.func (.func 43) #[] #[.pointer (some ⟨Bf99x1, 0, none⟩), .pointer (some ⟨Cf99x1, 0, none⟩)])).heap[d0.heap.size]? = some (.cells #[.nilFunc] 48 (0, 0))) := Lib.hid ((Below.heap_setCell _ _ _ _ (Ne.symm hUV)).trans hV)
            have HF1 : Hid (CovV (d101x4.setCell ⟨d100x3.heap.size, 0, none⟩ (.func (.func 43) #[] #[.pointer (some ⟨Bf99x1, 0, none⟩), .pointer (some ⟨Cf99x1, 0, none⟩)])) (.func (.func 43) #[] #[.pointer (some ⟨Bf99x1, 0, none⟩), .pointer (some ⟨Cf99x1, 0, none⟩)]) _ _ _ _) := Lib.hid (HCF.out.set hU)
            have HG1 : Hid (CovV (d101x4.setCell ⟨d100x3.heap.size, 0, none⟩ (.func (.func 43) #[] #[.pointer (some ⟨Bf99x1, 0, none⟩), .pointer (some ⟨Cf99x1, 0, none⟩)])) (.func (.func 43) #[] #[.pointer (some ⟨Bf100x3, 0, none⟩), .pointer (some ⟨Cf100x3, 0, none⟩)]) _ _ _ _) := Lib.hid (HCG.out.set hU)
            have HT1 : Hid (Below w0.heap.size w0 (d101x4.setCell ⟨d100x3.heap.size, 0, none⟩ (.func (.func 43) #[] #[.pointer (some ⟨Bf99x1, 0, none⟩), .pointer (some ⟨Cf99x1, 0, none⟩)]))) := Lib.hid (HT.out.setCell hUw _)
            clear hU hV HT HCF HCG
            refine onH 6 (oi := ?_) (by kernel_rfl) ?_ ?_ (fun K hK => ?_); rotate_left; (simp only [gA, gB, gC]; exact rfl); rfl
            go_wp2_with (fail)
            refine hK.out _ _ ⟨heap_keep HT1.out HA.out, heap_keep HT1.out HB.out⟩ (fun hHeld => ?_)
            clear hK K hHeld
            try simp only [Act.put, pB, pC, pD]
            generalize (d101x4.setCell ⟨d100x3.heap.size, 0, none⟩ (.func (.func 43) #[] #[.pointer (some ⟨Bf99x1, 0, none⟩), .pointer (some ⟨Cf99x1, 0, none⟩)])) = e0 at *
            have hV := HV1.out
            have cV102 : e0.cell? ⟨d0.heap.size, 0, none⟩ = some .nilFunc := cell_of hV rfl
            have fV102 : e0.frozen? ⟨d0.heap.size, 0, none⟩ = false := frozen_of hV
            have HU2 : Hid ((e0.setCell ⟨d0.heap.size, 0, none⟩ (.func (.func 43) #[] #[.pointer (some ⟨Bf100x3, 0, none⟩), .pointer (some ⟨Cf100x3, 0, none⟩)])).heap[d100x3.heap.size]? = some (.cells #[(.func (.func 43) #[] #[.pointer (some ⟨Bf99x1, 0, none⟩), .pointer (some ⟨Cf99x1, 0, none⟩)])] 48 (0, 0))) := Lib.hid ((Below.heap_setCell _ _ _ _ hUV).trans HU1.out)
            have HV2 : Hid ((e0.setCell ⟨d0.heap.size, 0, none⟩ (.func (.func 43) #[] #[.pointer (some ⟨Bf100x3, 0, none⟩), .pointer (some ⟨Cf100x3, 0, none⟩)])).heap[d0.heap.size]? = some (.cells #[(.func (.func 43) #[] #[.pointer (some ⟨Bf100x3, 0, none⟩), .pointer (some ⟨Cf100x3, 0, none⟩)])] 48 (0, 0))) := Lib.hid (set1 hV)
            have HF2 : Hid (CovV (e0.setCell ⟨d0.heap.size, 0, none⟩ (.func (.func 43) #[] #[.pointer (some ⟨Bf100x3, 0, none⟩), .pointer (some ⟨Cf100x3, 0, none⟩)])) (.func (.func 43) #[] #[.pointer (some ⟨Bf99x1, 0, none⟩), .pointer (some ⟨Cf99x1, 0, none⟩)]) _ _ _ _) := Lib.hid (HF1.out.set hV)
            have HG2 : Hid (CovV (e0.setCell ⟨d0.heap.size, 0, none⟩ (.func (.func 43) #[] #[.pointer (some ⟨Bf100x3, 0, none⟩), .pointer (some ⟨Cf100x3, 0, none⟩)])) (.func (.func 43) #[] #[.pointer (some ⟨Bf100x3, 0, none⟩), .pointer (some ⟨Cf100x3, 0, none⟩)]) _ _ _ _) := Lib.hid (HG1.out.set hV)
            have HT2 : Hid (Below w0.heap.size w0 (e0.setCell ⟨d0.heap.size, 0, none⟩ (.func (.func 43) #[] #[.pointer (some ⟨Bf100x3, 0, none⟩), .pointer (some ⟨Cf100x3, 0, none⟩)]))) := Lib.hid (HT1.out.setCell hVw _)
            clear hV HT1 HF1 HG1 HU1 HV1
            refine onH 7 (oi := ?_) (by kernel_rfl) ?_ ?_ (fun K hK => ?_); rotate_left; (simp only [gA, gB, gC]; exact rfl); rfl
            go_wp2_with (fail)
            refine hK.out _ _ ⟨heap_keep HT2.out HA.out, heap_keep HT2.out HB.out⟩ (fun hHeld => ?_)
            clear hK K hHeld
            try simp only [Act.put, pB, pC, pD]
            refine wpAnyH_done (by kernel_rfl) ?_ _
            go_wp2_with (fail)
            go_meet
            exact ⟨_, _, rfl, rfl, ⟨_, _, HU2.out, HV2.out, HF2.out, HG2.out⟩, HT2.out⟩
          exact AllReadyH.nil
        refine coH 4 (oi := ?_) ?_ ?_ (fun K hK => ?_) ?_; rotate_left; (simp only [gA, gB, gC]; exact rfl); rfl
        · go_wp2_with (fail)
          have hb : Below d99x1.heap.size d99x1 (d99x1.alloc (.cells #[.nilFunc] 48)) := (Below.refl _ _).alloc (Nat.le_refl _) _
          have hnew : (d99x1.alloc (.cells #[.nilFunc] 48)).heap[d99x1.heap.size]? = some (.cells #[.nilFunc] 48 (0, 0)) := heap_new rfl
          have hnw : w0.heap.size ≤ d99x1.heap.size := HT.out.size
          have hne : ∀ X o, d99x1.heap[X]? = some o → X ≠ d99x1.heap.size := fun X o h e => by have := lt_of_heap h; omega
          generalize (d99x1.alloc (.cells #[.nilFunc] 48)) = d100x4 at *
          have HTn := Lib.hid (HT.out.trans (hb.mono HT.out.size))
          replace HT := HTn
          clear HTn
          replace HCF := Lib.hid (HCF.out.kept hb)
          have hUV : d99x1.heap.size ≠ d0.heap.size := fun e => hne _ _ hV e.symm
          have hU := hnew
          have hUw := hnw
          replace hV := heap_keep hb hV
          clear hb hnew hnw hne
          refine hK.out _ _ ⟨heap_keep HT.out HA.out, heap_keep HT.out HB.out⟩ (fun hHeld => ?_)
          clear hK K hHeld
          try simp only [Act.put, pB, pC, pD]
          refine wpAnyH_ready (rs := [3]) (by kernel_rfl) (by simp) ?_
          refine coH 3 (oi := ?_) ?_ ?_ (fun K hK => ?_) ?_; rotate_left; (simp only [gA, gB, gC]; exact rfl); rfl
          · go_wp2_with (fail)
            refine (covers_any a' c' _ HV2.out (HR2.out.kept HT.out)).mono ?_
            rintro e d103x3 ⟨f103x3, rfl, hcv, hb⟩
            obtain ⟨Bf103x3, Cf103x3, rfl⟩ := hcv.isfunc
            have HN := Lib.hid hcv
            clear hcv
            go_wp2_with (fail)
            have HTn := Lib.hid (HT.out.trans (hb.mono HT.out.size))
            replace HT := HTn
            clear HTn
            replace HCF := Lib.hid (HCF.out.kept hb)
            have HCG := HN
            replace hU := heap_keep hb hU
            replace hV := heap_keep hb hV
            clear hb HN
            refine hK.out _ _ ⟨heap_keep HT.out HA.out, heap_keep HT.out HB.out⟩ (fun hHeld => ?_)
            clear hK K hHeld
            try simp only [Act.put, pB, pC, pD]
            have hlU104 := lt_of_heap hU
            have hlV104 := lt_of_heap hV
            have cU104 : d103x3.cell? ⟨d99x1.heap.size, 0, none⟩ = some .nilFunc := cell_of hU rfl
            have fU104 : d103x3.frozen? ⟨d99x1.heap.size, 0, none⟩ = false := frozen_of hU
            have HU1 : Hid ((d103x3.setCell ⟨d99x1.heap.size, 0, none⟩ (.func (.func 43) #[] #[.pointer (some ⟨Bf99x1, 0, none⟩), .pointer (some ⟨Cf99x1, 0, none⟩)])).heap[d99x1.heap.size]? = some (.cells #[(.func (.func 43) #[] #[.pointer (some ⟨Bf99x1, 0, none⟩), .pointer (some ⟨Cf99x1, 0, none⟩)])] 48 (0, 0))) := Lib.hid (set1 hU)
            have HV1 : Hid ((d103x3.setCell ⟨d99x1.heap.size, 0, none⟩ (.func (.func 43) #[] #[.pointer (some ⟨Bf99x1, 0, none⟩), .pointer (some ⟨Cf99x1, 0, none⟩)])).heap[d0.heap.size]? = some (.cells #[.nilFunc] 48 (0, 0))) := Lib.hid ((Below.heap_setCell _ _ _ _ (Ne.symm hUV)).trans hV)
            have HF1 : Hid (CovV (d103x3.setCell ⟨d99x1.heap.size, 0, none⟩ (.func (.func 43) #[] #[.pointer (some ⟨Bf99x1, 0, none⟩), .pointer (some ⟨Cf99x1, 0, none⟩)])) (.func (.func 43) #[] #[.pointer (some ⟨Bf99x1, 0, none⟩), .pointer (some ⟨Cf99x1, 0, none⟩)]) _ _ _ _) := Lib.hid (HCF.out.set hU)
            have HG1 : Hid (CovV (d103x3.setCell ⟨d99x1.heap.size, 0, none⟩ (.func (.func 43) #[] #[.pointer (some ⟨Bf99x1, 0, none⟩), .pointer (some ⟨Cf99x1, 0, none⟩)])) (.func (.func 43) #[] #[.pointer (some ⟨Bf103x3, 0, none⟩), .pointer (some ⟨Cf103x3, 0, none⟩)]) _ _ _ _) := Lib.hid (HCG.out.set hU)
            have HT1 : Hid (Below w0.heap.size w0 (d103x3.setCell ⟨d99x1.heap.size, 0, none⟩ (.func (.func 43) #[] #[.pointer (some ⟨Bf99x1, 0, none⟩), .pointer (some ⟨Cf99x1, 0, none⟩)]))) := Lib.hid (HT.out.setCell hUw _)
            clear hU hV HT HCF HCG
            refine onH 6 (oi := ?_) (by kernel_rfl) ?_ ?_ (fun K hK => ?_); rotate_left; (simp only [gA, gB, gC]; exact rfl); rfl
            go_wp2_with (fail)
            refine hK.out _ _ ⟨heap_keep HT1.out HA.out, heap_keep HT1.out HB.out⟩ (fun hHeld => ?_)
            clear hK K hHeld
            try simp only [Act.put, pB, pC, pD]
            generalize (d103x3.setCell ⟨d99x1.heap.size, 0, none⟩ (.func (.func 43) #[] #[.pointer (some ⟨Bf99x1, 0, none⟩), .pointer (some ⟨Cf99x1, 0, none⟩)])) = e0 at *
            have hV := HV1.out
            have cV104 : e0.cell? ⟨d0.heap.size, 0, none⟩ = some .nilFunc := cell_of hV rfl
            have fV104 : e0.frozen? ⟨d0.heap.size, 0, none⟩ = false := frozen_of hV
            have HU2 : Hid ((e0.setCell ⟨d0.heap.size, 0, none⟩ (.func (.func 43) #[] #[.pointer (some ⟨Bf103x3, 0, none⟩), .pointer (some ⟨Cf103x3, 0, none⟩)])).heap[d99x1.heap.size]? = some (.cells #[(.func (.func 43) #[] #[.pointer (some ⟨Bf99x1, 0, none⟩), .pointer (some ⟨Cf99x1, 0, none⟩)])] 48 (0, 0))) := Lib.hid ((Below.heap_setCell _ _ _ _ hUV).trans HU1.out)
            have HV2 : Hid ((e0.setCell ⟨d0.heap.size, 0, none⟩ (.func (.func 43) #[] #[.pointer (some ⟨Bf103x3, 0, none⟩), .pointer (some ⟨Cf103x3, 0, none⟩)])).heap[d0.heap.size]? = some (.cells #[(.func (.func 43) #[] #[.pointer (some ⟨Bf103x3, 0, none⟩), .pointer (some ⟨Cf103x3, 0, none⟩)])] 48 (0, 0))) := Lib.hid (set1 hV)
            have HF2 : Hid (CovV (e0.setCell ⟨d0.heap.size, 0, none⟩ (.func (.func 43) #[] #[.pointer (some ⟨Bf103x3, 0, none⟩), .pointer (some ⟨Cf103x3, 0, none⟩)])) (.func (.func 43) #[] #[.pointer (some ⟨Bf99x1, 0, none⟩), .pointer (some ⟨Cf99x1, 0, none⟩)]) _ _ _ _) := Lib.hid (HF1.out.set hV)
            have HG2 : Hid (CovV (e0.setCell ⟨d0.heap.size, 0, none⟩ (.func (.func 43) #[] #[.pointer (some ⟨Bf103x3, 0, none⟩), .pointer (some ⟨Cf103x3, 0, none⟩)])) (.func (.func 43) #[] #[.pointer (some ⟨Bf103x3, 0, none⟩), .pointer (some ⟨Cf103x3, 0, none⟩)]) _ _ _ _) := Lib.hid (HG1.out.set hV)
            have HT2 : Hid (Below w0.heap.size w0 (e0.setCell ⟨d0.heap.size, 0, none⟩ (.func (.func 43) #[] #[.pointer (some ⟨Bf103x3, 0, none⟩), .pointer (some ⟨Cf103x3, 0, none⟩)]))) := Lib.hid (HT1.out.setCell hVw _)
            clear hV HT1 HF1 HG1 HU1 HV1
            refine onH 7 (oi := ?_) (by kernel_rfl) ?_ ?_ (fun K hK => ?_); rotate_left; (simp only [gA, gB, gC]; exact rfl); rfl
            go_wp2_with (fail)
            refine hK.out _ _ ⟨heap_keep HT2.out HA.out, heap_keep HT2.out HB.out⟩ (fun hHeld => ?_)
            clear hK K hHeld
            try simp only [Act.put, pB, pC, pD]
            refine wpAnyH_done (by kernel_rfl) ?_ _
            go_wp2_with (fail)
            go_meet
            exact ⟨_, _, rfl, rfl, ⟨_, _, HU2.out, HV2.out, HF2.out, HG2.out⟩, HT2.out⟩
          exact AllReadyH.nil
        exact AllReadyH.nil
      refine coH 4 (oi := ?_) ?_ ?_ (fun K hK => ?_) ?_; rotate_left; (simp only [gA, gB, gC]; exact rfl); rfl
      · go_wp2_with (fail)
        have hb : Below d73x5.heap.size d73x5 (d73x5.alloc (.cells #[.nilFunc] 48)) := (Below.refl _ _).alloc (Nat.le_refl _) _
        have hnew : (d73x5.alloc (.cells #[.nilFunc] 48)).heap[d73x5.heap.size]? = some (.cells #[.nilFunc] 48 (0, 0)) := heap_new rfl
        have hnw : w0.heap.size ≤ d73x5.heap.size := HT.out.size
        have hne : ∀ X o, d73x5.heap[X]? = some o → X ≠ d73x5.heap.size := fun X o h e => by have := lt_of_heap h; omega
        generalize (d73x5.alloc (.cells #[.nilFunc] 48)) = d99x4 at *
        have HTn := Lib.hid (HT.out.trans (hb.mono HT.out.size))
        replace HT := HTn
        clear HTn
        have hUV : d73x5.heap.size ≠ d0.heap.size := fun e => hne _ _ hV e.symm
        have hU := hnew
        have hUw := hnw
        replace hV := heap_keep hb hV
        clear hb hnew hnw hne
        refine hK.out _ _ ⟨heap_keep HT.out HA.out, heap_keep HT.out HB.out⟩ (fun hHeld => ?_)
        clear hK K hHeld
        try simp only [Act.put, pB, pC, pD]
        refine wpAnyH_ready (rs := [1]) (by kernel_rfl) (by simp) ?_
        refine coH 1 (oi := ?_) ?_ ?_ (fun K hK => ?_) ?_; rotate_left; (simp only [gA, gB, gC]; exact rfl); rfl
        · go_wp2_with (fail)
          refine (covers_any a c _ HV1.out (HR1.out.kept HT.out)).mono ?_
          rintro e d105x1 ⟨f105x1, rfl, hcv, hb⟩
          obtain ⟨Bf105x1, Cf105x1, rfl⟩ := hcv.isfunc
          have HN := Lib.hid hcv
          clear hcv
          go_wp2_with (fail)
          have HTn := Lib.hid (HT.out.trans (hb.mono HT.out.size))
          replace HT := HTn
          clear HTn
          have HCF := HN
          replace hU := heap_keep hb hU
          replace hV := heap_keep hb hV
          clear hb HN
          refine hK.out _ _ ⟨heap_keep HT.out HA.out, heap_keep HT.out HB.out⟩ (fun hHeld => ?_)
          clear hK K hHeld
          try simp only [Act.put, pB, pC, pD]
          refine wpAnyH_ready (rs := [3]) (by kernel_rfl) (by simp) ?_
          refine coH 3 (oi := ?_) ?_ ?_ (fun K hK => ?_) ?_; rotate_left; (simp only [gA, gB, gC]; exact rfl); rfl
          · go_wp2_with (fail)
            refine (covers_any a' c' _ HV2.out (HR2.out.kept HT.out)).mono ?_
            rintro e d106x3 ⟨f106x3, rfl, hcv, hb⟩
            obtain ⟨Bf106x3, Cf106x3, rfl⟩ := hcv.isfunc
            have HN := Lib.hid hcv
            clear hcv
            go_wp2_with (fail)
            have HTn := Lib.hid (HT.out.trans (hb.mono HT.out.size))
            replace HT := HTn
            clear HTn
            replace HCF := Lib.hid (HCF.out.kept hb)
            have HCG := HN
            replace hU := heap_keep hb hU
            replace hV := heap_keep hb hV
            clear hb HN
            refine hK.out _ _ ⟨heap_keep HT.out HA.out, heap_keep HT.out HB.out⟩ (fun hHeld => ?_)
            clear hK K hHeld
            try simp only [Act.put, pB, pC, pD]
            have hlU107 := lt_of_heap hU
            have hlV107 := lt_of_heap hV
            have cU107 : d106x3.cell? ⟨d73x5.heap.size, 0, none⟩ = some .nilFunc := cell_of hU rfl
            have fU107 : d106x3.frozen? ⟨d73x5.heap.size, 0, none⟩ = false := frozen_of hU
            have HU1 : Hid ((d106x3.setCell ⟨d73x5.heap.size, 0, none⟩ (.func (.func 43) #[] #[.pointer (some ⟨Bf105x1, 0, none⟩), .pointer (some ⟨Cf105x1, 0, none⟩)])).heap[d73x5.heap.size]? = some (.cells #[(.func (.func 43) #[] #[.pointer (some ⟨Bf105x1, 0, none⟩), .pointer (some ⟨Cf105x1, 0, none⟩)])] 48 (0, 0))) := Lib.hid (set1 hU)
            have HV1 : Hid ((d106x3.setCell ⟨d73x5.heap.size, 0, none⟩ (.func (.func 43) #[] #[.pointer (some ⟨Bf105x1, 0, none⟩), .pointer (some ⟨Cf105x1, 0, none⟩)])).heap[d0.heap.size]? = some (.cells #[.nilFunc] 48 (0, 0))) := Lib.hid ((Below.heap_setCell _ _ _ _ (Ne.symm hUV)).trans hV)
            have HF1 : Hid (CovV (d106x3.setCell ⟨d73x5.heap.size, 0, none⟩ (.func (.func 43) #[] #[.pointer (some ⟨Bf105x1, 0, none⟩), .pointer (some ⟨Cf105x1, 0, none⟩)])) (.func (.func 43) #[] #[.pointer (some ⟨Bf105x1, 0, none⟩), .pointer (some ⟨Cf105x1, 0, none⟩)]) _ _ _ _) := Lib.hid (HCF.out.set hU)
            have HG1 : Hid (CovV (d106x3.setCell ⟨d73x5.heap.size, 0, none⟩ (.func (.func 43) #[] #[.pointer (some ⟨Bf105x1, 0, none⟩), .pointer (some ⟨Cf105x1, 0, none⟩)])) (.func (.func 43) #[] #[.pointer (some ⟨Bf106x3, 0, none⟩), .pointer (some ⟨Cf106x3, 0, none⟩)]) _ _ _ _) := Lib.hid (HCG.out.set hU)
            have HT1 : Hid (Below w0.heap.size w0 (d106x3.setCell ⟨d73x5.heap.size, 0, none⟩ (.func (.func 43) #[] #[.pointer (some ⟨Bf105x1, 0, none⟩), .pointer (some ⟨Cf105x1, 0, none⟩)]))) := Lib.hid (HT.out.setCell hUw _)
            clear hU hV HT HCF HCG
            refine onH 6 (oi := ?_) (by kernel_rfl) ?_ ?_ (fun K hK => ?_); rotate_left; (simp only [gA, gB, gC]; exact rfl); rfl
            go_wp2_with (fail)
            refine hK.out _ _ ⟨heap_keep HT1.out HA.out, heap_keep HT1.out HB.out⟩ (fun hHeld => ?_)
            clear hK K hHeld
            try simp only [Act.put, pB, pC, pD]
            generalize (d106x3.setCell ⟨d73x5.heap.size, 0, none⟩ (.func (.func 43) #[] #[.pointer (some ⟨Bf105x1, 0, none⟩), .pointer (some ⟨Cf105x1, 0, none⟩)])) = e0 at *
            have hV := HV1.out
            have cV107 : e0.cell? ⟨d0.heap.size, 0, none⟩ = some .nilFunc := cell_of hV rfl
            have fV107 : e0.frozen? ⟨d0.heap.size, 0, none⟩ = false := frozen_of hV
            have HU2 : Hid ((e0.setCell ⟨d0.heap.size, 0, none⟩ (.func (.func 43) #[] #[.pointer (some ⟨Bf106x3, 0, none⟩), .pointer (some ⟨Cf106x3, 0, none⟩)])).heap[d73x5.heap.size]? = some (.cells #[(.func (.func 43) #[] #[.pointer (some ⟨Bf105x1, 0, none⟩), .pointer (some ⟨Cf105x1, 0, none⟩)])] 48 (0, 0))) := Lib.hid ((Below.heap_setCell _ _ _ _ hUV).trans HU1.out)
            have HV2 : Hid ((e0.setCell ⟨d0.heap.size, 0, none⟩ (.func (.func 43) #[] #[.pointer (some ⟨Bf106x3, 0, none⟩), .pointer (some ⟨Cf106x3, 0, none⟩)])).heap[d0.heap.size]? = some (.cells #[(.func (.func 43) #[] #[.pointer (some ⟨Bf106x3, 0, none⟩), .pointer (some ⟨Cf106x3, 0, none⟩)])] 48 (0, 0))) := Lib.hid (set1 hV)
            have HF2 : Hid (CovV (e0.setCell ⟨d0.heap.size, 0, none⟩ (.func (.func 43) #[] #[.pointer (some ⟨Bf106x3, 0, none⟩), .pointer (some ⟨Cf106x3, 0, none⟩)])) (.func (.func 43) #[] #[.pointer (some ⟨Bf105x1, 0, none⟩), .pointer (some ⟨Cf105x1, 0, none⟩)]) _ _ _ _) := Lib.hid (HF1.out.set hV)
            have HG2 : Hid (CovV (e0.setCell ⟨d0.heap.size, 0, none⟩ (.func (.func 43) #[] #[.pointer (some ⟨Bf106x3, 0, none⟩), .pointer (some ⟨Cf106x3, 0, none⟩)])) (.func (.func 43) #[] #[.pointer (some ⟨Bf106x3, 0, none⟩), .pointer (some ⟨Cf106x3, 0, none⟩)]) _ _ _ _) := Lib.hid (HG1.out.set hV)
            have HT2 : Hid (Below w0.heap.size w0 (e0.setCell ⟨d0.heap.size, 0, none⟩ (.func (.func 43) #[] #[.pointer (some ⟨Bf106x3, 0, none⟩), .pointer (some ⟨Cf106x3, 0, none⟩)]))) := Lib.hid (HT1.out.setCell hVw _)
            clear hV HT1 HF1 HG1 HU1 HV1
            refine onH 7 (oi := ?_) (by kernel_rfl) ?_ ?_ (fun K hK => ?_); rotate_left; (simp only [gA, gB, gC]; exact rfl); rfl
            go_wp2_with (fail)
            refine hK.out _ _ ⟨heap_keep HT2.out HA.out, heap_keep HT2.out HB.out⟩ (fun hHeld => ?_)
            clear hK K hHeld
            try simp only [Act.put, pB, pC, pD]
            refine wpAnyH_done (by kernel_rfl) ?_ _
            go_wp2_with (fail)
            go_meet
            exact ⟨_, _, rfl, rfl, ⟨_, _, HU2.out, HV2.out, HF2.out, HG2.out⟩, HT2.out⟩
          exact AllReadyH.nil
        exact AllReadyH.nil
      exact AllReadyH.nil
    exact AllReadyH.nil
  case rest =>
    obtain ⟨U, V, rfl, rfl, hpair, hbx⟩ := hcut
    have hHA := heap_keep hbx HA.out
    have hHB := heap_keep hbx HB.out
    have hHZ := heap_keep hbx HZ.out
    have HWx := Lib.hid (HW0.out.trans (hbx.mono HW0.out.size))
    replace HR1 := Lib.hid (HR1.out.kept hbx)
    replace HR2 := Lib.hid (HR2.out.kept hbx)
    clear HA HB HZ HW HW0 hbx
    have HA := Lib.hid hHA
    have HB := Lib.hid hHB
    have HZ := Lib.hid hHZ
    clear hHA hHB hHZ
    go_wp2_with (fail)
    have hlz := lt_of_heap HZ.out
    refine wp_region_held_drew (S := (fun w' => w'.heap[w.heap.size]? = some (.cells #[.int .i64 s, .int .i64 x, .int .i64 y, .slice a n c] 28 (0, 0)) ∧ w'.heap[w.heap.size + 1]? = some (.cells #[.int .i64 s', .int .i64 x', .int .i64 y', .slice a' n' c'] 28 (0, 0)))) (by kernel_rfl) ⟨HA.out, HB.out⟩ (fun hHeld => ?_)
    refine tkH (by assumption) 0 (oi := ?_) (v := ?_) ?_ ?_ ?_ ?_ ?_ ?_ ?_ ?_; rotate_left 2; (simp only [gA, gB, gC]; exact rfl); kernel_rfl; kernel_rfl; kernel_rfl; exact fun _ _ _ h => h; rfl; (intro w' hSw; go_simp; with_reducible rfl); simp only [Act.put, pB, pC, pD]
    refine tkH (by assumption) 1 (oi := ?_) (v := ?_) ?_ ?_ ?_ ?_ ?_ ?_ ?_ ?_; rotate_left 2; (simp only [gA, gB, gC]; exact rfl); kernel_rfl; kernel_rfl; kernel_rfl; exact fun _ _ _ h => h; rfl; (intro w' hSw; obtain ⟨hs1, hs2⟩ := hSw; have z0 := cell_of (i := 0) hs1 rfl; have z1 := cell_of (i := 1) hs1 rfl; have z2 := cell_of (i := 2) hs1 rfl; have z3 := cell_of (i := 3) hs1 rfl; clear hs1 hs2; go_simp; with_reducible rfl); simp only [Act.put, pB, pC, pD]
    refine tkH (by assumption) 2 (oi := ?_) (v := ?_) ?_ ?_ ?_ ?_ ?_ ?_ ?_ ?_; rotate_left 2; (simp only [gA, gB, gC]; exact rfl); kernel_rfl; kernel_rfl; kernel_rfl; exact fun _ _ _ h => h; rfl; (intro w' hSw; obtain ⟨hs1, hs2⟩ := hSw; have z0 := cell_of (i := 0) hs1 rfl; have z1 := cell_of (i := 1) hs1 rfl; have z2 := cell_of (i := 2) hs1 rfl; have z3 := cell_of (i := 3) hs1 rfl; clear hs1 hs2; go_simp; with_reducible rfl); simp only [Act.put, pB, pC, pD]
    refine tkH (by assumption) 4 (oi := ?_) (v := ?_) ?_ ?_ ?_ ?_ ?_ ?_ ?_ ?_; rotate_left 2; (simp only [gA, gB, gC]; exact rfl); kernel_rfl; kernel_rfl; kernel_rfl; exact fun _ _ _ h => h; rfl; (intro w' hSw; go_simp; with_reducible rfl); simp only [Act.put, pB, pC, pD]
    clear hHeld
    have HT : Hid (Below wc.heap.size wc wc.drew) := Lib.hid (Below.refl _ _).drew
    have HP := Lib.hid (hpair.kept (Below.refl _ _).drew)
    clear hpair
    generalize wc.drew = g0 at *
    refine onH 3 (oi := ?_) (by kernel_rfl) ?_ ?_ (fun K hK => ?_); rotate_left; (simp only [gA, gB, gC]; exact rfl); rfl
    go_wp2_with (fail)
    refine (boxOf_any a c _ HV1.out (HR1.out.kept HT.out)).mono ?_
    rintro e g1 ⟨rfl, hb⟩
    obtain ⟨o1, o2, o3, o4, o5, o6⟩ := own_box HV1.out HPI.out
    have O5 := Lib.hid o5
    have O6 := Lib.hid o6
    clear o5 o6
    replace HT := Lib.hid (HT.out.trans (hb.mono HT.out.size))
    replace HP := Lib.hid (HP.out.kept hb)
    clear hb
    go_wp2_with (fail)
    refine hK.out _ _ ⟨heap_keep HT.out HA.out, heap_keep HT.out HB.out⟩ (fun hHeld => ?_)
    clear hK K hHeld
    try simp only [Act.put, pB, pC, pD]
    refine onH 5 (oi := ?_) (by kernel_rfl) ?_ ?_ (fun K hK => ?_); rotate_left; (simp only [gA, gB, gC]; exact rfl); rfl
    go_wp2_with (fail)
    refine (drawnMinus_any U V P s _ _ _ _ _ HP.out HPQ.out o1 o2 o3 o4 HV1.out.s2 HV1.out.st O5.out O6.out).mono ?_
    rintro e g4 ⟨ez, ex, ey, ea, en, ec, eR, eE, rfl, hare, hrow, hfr, hn1, hn2, hn3, hb⟩
    have hg3 := HT.out.size
    replace HT := Lib.hid (HT.out.trans (hb.mono HT.out.size))
    replace HP := Lib.hid (HP.out.kept hb)
    clear hb
    go_wp2_with (fail)
    refine hK.out _ _ ⟨heap_keep HT.out HA.out, heap_keep HT.out HB.out⟩ (fun hHeld => ?_)
    clear hK K  
    try simp only [Act.put, pB, pC, pD]
    refine tkH (by assumption) 6 (oi := ?_) (v := ?_) ?_ ?_ ?_ ?_ ?_ ?_ ?_ ?_; rotate_left 2; (simp only [gA, gB, gC]; exact rfl); kernel_rfl; kernel_rfl; kernel_rfl; exact fun _ _ _ h => h; rfl; (intro w' hSw; go_simp; with_reducible rfl); simp only [Act.put, pB, pC, pD]
    refine tkH (by assumption) 7 (oi := ?_) (v := ?_) ?_ ?_ ?_ ?_ ?_ ?_ ?_ ?_; rotate_left 2; (simp only [gA, gB, gC]; exact rfl); kernel_rfl; kernel_rfl; kernel_rfl; exact fun _ _ _ h => h; rfl; (intro w' hSw; go_simp; with_reducible rfl); simp only [Act.put, pB, pC, pD]
    have hz := heap_keep HT.out HZ.out
    have z0 : g4.cell? ⟨w.heap.size + 1 + 1, 0, none⟩ = some (.int .i64 0) := cell_of hz rfl
    have zf0 : g4.frozen? ⟨w.heap.size + 1 + 1, 0, none⟩ = false := frozen_of hz
    have z1 : g4.cell? ⟨w.heap.size + 1 + 1, 1, none⟩ = some (.int .i64 0) := cell_of hz rfl
    have zf1 : g4.frozen? ⟨w.heap.size + 1 + 1, 1, none⟩ = false := frozen_of hz
    have z2 : g4.cell? ⟨w.heap.size + 1 + 1, 2, none⟩ = some (.int .i64 0) := cell_of hz rfl
    have zf2 : g4.frozen? ⟨w.heap.size + 1 + 1, 2, none⟩ = false := frozen_of hz
    have z3 : g4.cell? ⟨w.heap.size + 1 + 1, 3, none⟩ = some (.slice none 0 0) := cell_of hz rfl
    have zf3 : g4.frozen? ⟨w.heap.size + 1 + 1, 3, none⟩ = false := frozen_of hz
    have HA4 : Hid (((((g4.setCell ⟨w.heap.size + 1 + 1, 0, none⟩ (.int .i64 ez)).setCell ⟨w.heap.size + 1 + 1, 1, none⟩ (.int .i64 ex)).setCell ⟨w.heap.size + 1 + 1, 2, none⟩ (.int .i64 ey)).setCell ⟨w.heap.size + 1 + 1, 3, none⟩ (.slice ea en ec)).heap[w.heap.size]? = some (.cells #[.int .i64 s, .int .i64 x, .int .i64 y, .slice a n c] 28 (0, 0))) := Lib.hid ((keep4 (by omega)).trans (heap_keep HT.out HA.out))
    have HB4 : Hid (((((g4.setCell ⟨w.heap.size + 1 + 1, 0, none⟩ (.int .i64 ez)).setCell ⟨w.heap.size + 1 + 1, 1, none⟩ (.int .i64 ex)).setCell ⟨w.heap.size + 1 + 1, 2, none⟩ (.int .i64 ey)).setCell ⟨w.heap.size + 1 + 1, 3, none⟩ (.slice ea en ec)).heap[w.heap.size + 1]? = some (.cells #[.int .i64 s', .int .i64 x', .int .i64 y', .slice a' n' c'] 28 (0, 0))) := Lib.hid ((keep4 (by omega)).trans (heap_keep HT.out HB.out))
    have HWB := Lib.hid (HWx.out.trans (HT.out.mono HWx.out.size))
    have hne : ∀ b off, ea = some ⟨b, off, none⟩ → b ≠ w.heap.size + 1 + 1 := fun b off h => by have := hfr b off h; omega
    have HARE := Lib.hid hare
    have HFR := Lib.hid (fun b off h => Nat.le_trans (Nat.le_trans HWx.out.size hg3) (hfr b off h))
    have HRW : Hid (RowS ((((g4.setCell ⟨w.heap.size + 1 + 1, 0, none⟩ (.int .i64 ez)).setCell ⟨w.heap.size + 1 + 1, 1, none⟩ (.int .i64 ex)).setCell ⟨w.heap.size + 1 + 1, 2, none⟩ (.int .i64 ey)).setCell ⟨w.heap.size + 1 + 1, 3, none⟩ (.slice ea en ec)) ea en eR) := Lib.hid ((((hrow.set _ _ hne).set _ _ hne).set _ _ hne).set _ _ hne)
    have HN3 := Lib.hid hn3
    clear hz hne hrow hfr hare hn3
    refine onH 8 (oi := ?_) (by kernel_rfl) ?_ ?_ (fun K hK => ?_); rotate_left; (simp only [gA, gB, gC]; exact rfl); rfl
    go_wp2_with (fail)
    refine hK.out _ _ ⟨HA4.out, HB4.out⟩ (fun hHeld => ?_)
    clear hK K HA4 HB4
    try simp only [Act.put, pB, pC, pD]
    refine tkH (by assumption) 9 (oi := ?_) (v := ?_) ?_ ?_ ?_ ?_ ?_ ?_ ?_ ?_; rotate_left 2; (simp only [gA, gB, gC]; exact rfl); kernel_rfl; kernel_rfl; kernel_rfl; exact fun _ _ _ h => h; rfl; (intro w' hSw; go_simp; with_reducible rfl); simp only [Act.put, pB, pC, pD]
    refine wpAnyH_done (by kernel_rfl) ?_ _
    go_wp2_with (fail)
    obtain ⟨r0, r1, r2, r3⟩ := set4 (w := g4) (R := w.heap.size + 1 + 1) (x0 := (.int .i64 ez)) (x1 := (.int .i64 ex)) (x2 := (.int .i64 ey)) (x3 := (.slice ea en ec)) (is4 (is_some z0) (is_some z1) (is_some z2) (is_some z3)) rfl
    have HF : Hid (Below w.heap.size w ((((g4.setCell ⟨w.heap.size + 1 + 1, 0, none⟩ (.int .i64 ez)).setCell ⟨w.heap.size + 1 + 1, 1, none⟩ (.int .i64 ex)).setCell ⟨w.heap.size + 1 + 1, 2, none⟩ (.int .i64 ey)).setCell ⟨w.heap.size + 1 + 1, 3, none⟩ (.slice ea en ec))) := Lib.hid ((((HWB.out.setCell (by show _ ≤ w.heap.size + 1 + 1; omega) _).setCell (by show _ ≤ w.heap.size + 1 + 1; omega) _).setCell (by show _ ≤ w.heap.size + 1 + 1; omega) _).setCell (by show _ ≤ w.heap.size + 1 + 1; omega) _)
    generalize ((((g4.setCell ⟨w.heap.size + 1 + 1, 0, none⟩ (.int .i64 ez)).setCell ⟨w.heap.size + 1 + 1, 1, none⟩ (.int .i64 ex)).setCell ⟨w.heap.size + 1 + 1, 2, none⟩ (.int .i64 ey)).setCell ⟨w.heap.size + 1 + 1, 3, none⟩ (.slice ea en ec)) = WW at *
    exact bodyPost_ret (v := .tuple #[.agg #[.int .i64 ez, .int .i64 ex, .int .i64 ey, .slice ea en ec], .int .i64 eE]) (by simp [results, Tryz.results12, go_sem, r0, r1, r2, r3]) rfl ⟨ez, ex, ey, ea, en, ec, eR, eE, rfl, HARE.out, HRW.out, HFR.out, hn1, hn2, HN3.out, HF.out⟩
end Go.Proofs.YtllagjncibfcmaaGreatDoor

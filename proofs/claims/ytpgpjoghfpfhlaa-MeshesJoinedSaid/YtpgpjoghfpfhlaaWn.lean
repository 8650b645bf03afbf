/- The reference's welded mesh, walked. -/
import Derived.Test.YtpgpjoghfpfhlaaWm
import Derived.Deep.CutRange
set_option linter.unusedSimpArgs false
set_option linter.unusedVariables false
namespace Go.Proofs.Ytpgpjoghfpfhlaa
open Go.RowKit
theorem newcell {X wx : World} {o : Obj} (hb : Below (X.alloc o).heap.size (X.alloc o) wx) : wx.heap[X.heap.size]? = some o := heap_keep hb (heap_alloc_new X o)
theorem newcelld {X wx : World} {o : Obj} (hb : Below (X.alloc o).drew.heap.size (X.alloc o).drew wx) : wx.heap[X.heap.size]? = some o := heap_keep hb (heap_alloc_new X o)
theorem heap_keepd {X wx : World} {b : Nat} {o : Obj} (hb : Below X.drew.heap.size X.drew wx) (h : X.heap[b]? = some o) : wx.heap[b]? = some o := heap_keep hb h
theorem cellst {w w0 : World} (B : Below w.heap.size w w0) {b o g : Nat} {v x y z : Value} (hb : b < w.heap.size) (h : w.cell? ⟨b, o, none⟩ = some v) (hne : b ≠ g) : (((w0.setCell ⟨g, 0, none⟩ x).setCell ⟨g, 1, none⟩ y).setCell ⟨g, 2, none⟩ z).cell? ⟨b, o, none⟩ = some v :=
  (sc_other (ne_block hne.symm)).trans ((sc_other (ne_block hne.symm)).trans ((sc_other (ne_block hne.symm)).trans (cellk B hb h)))
theorem heapst {w : World} {g : Nat} {a b c x y z : Value} {t : TypeId} (h : w.heap[g]? = some (.cells #[a, b, c] t (0, 0))) : (((w.setCell ⟨g, 0, none⟩ x).setCell ⟨g, 1, none⟩ y).setCell ⟨g, 2, none⟩ z).heap[g]? = some (.cells #[x, y, z] t (0, 0)) :=
  heap_set (i := 2) (heap_set (i := 1) (heap_set (i := 0) h))
theorem cella {w w0 : World} (B : Below w.heap.size w w0) {b o : Nat} {v : Value} {ob : Obj} (hb : b < w.heap.size) (h : w.cell? ⟨b, o, none⟩ = some v) : (w0.alloc ob).cell? ⟨b, o, none⟩ = some v :=
  (World.cell?_alloc_old w0 _ ⟨b, o, none⟩ (Nat.ne_of_lt (Nat.lt_of_lt_of_le hb B.size))).trans (cellk B hb h)

set_option maxRecDepth 100000 in
set_option maxHeartbeats 16000000 in
theorem weldedM_any (av af : Option Addr) (nv cv nf cf : Nat) (V F : Nat → V3) (w : World) (hv : Row3 w av nv V) (hf : Row3 w af nf F) (hnv : nv ≤ 1000000) (hnf : nf ≤ 1000000) (h0 : fault nv V nf F = 0)
    (kn : Nat) (kv kf : Nat → V3) (E : Int) (hK : (cnt (useB (wF V nv F) nf) nv) = kn) (hKV : (keepV (useB (wF V nv F) nf) V nv) = kv) (hCF : (fun i => rnf (place (useB (wF V nv F) nf)) (wF V nv F i)) = kf) (hE : fault kn kv nf kf = E) :
    Calls Try.prog 15 #[.agg #[.slice av nv cv, .slice af nf cf]] w (MeshR w E kn kv nf kf) := by
  obtain ⟨i1, hi1, hy0, hy1, hy2⟩ := info_parts info_face
  have HK := Lib.hid hK
  have HKV := Lib.hid hKV
  have HCF := Lib.hid hCF
  have HEE := Lib.hid hE
  clear hK hKV hCF hE
  have HI := Lib.hid (inb_of h0)
  have HNE := Lib.hid (fun k hk => face_ne h0 (k := k) hk)
  have HV0 := Lib.hid hv
  have HF0 := Lib.hid hf
  clear hv hf h0
  go_enter Try.func15, Try.ntmps15
  go_wp2_with (fail)
  refine (cloneV_any av nv cv V _ (HV0.out.kept (by repeat (first | exact Below.refl _ _ | assumption | refine Below.drew ?_ | refine bdrewN ?_ _ | refine Below.setCell ?_ (by first | omega | (simp <;> omega)) _ | refine Below.alloc ?_ (by first | omega | (simp <;> omega)) _))) hnv).mono ?_
  rintro e w1 ⟨a1, c1, rfl, ho1, hb1⟩
  have z1 : w.heap.size + 1 + 1 ≤ w1.heap.size := by have := hb1.size; simpa using this
  have B1 : Below w.heap.size w w1 := Below.trans (by repeat (first | exact Below.refl _ _ | assumption | refine Below.drew ?_ | refine bdrewN ?_ _ | refine Below.setCell ?_ (by first | omega | (simp <;> omega)) _ | refine Below.alloc ?_ (by first | omega | (simp <;> omega)) _)) (hb1.mono (by simp <;> omega))
  have lm1 : w.heap.size < w1.heap.size := by omega
  have lr1 : w.heap.size + 1 < w1.heap.size := by omega
  have hm : w1.heap[w.heap.size]? = some (.cells #[.slice av nv cv, .slice af nf cf] 29 (0, 0)) := heap_keep hb1 (by repeat (first | (refine heap_new ?_; first | rfl | (simp; done)) | rw [Below.heap_setCell _ _ _ _ (by simp <;> omega)] | rw [Below.heap_alloc _ _ _ (by simp <;> omega)]))
  have HR := Lib.hid (show w1.heap[w.heap.size + 1]? = some (.cells #[.slice none 0 0, .slice none 0 0] 29 (0, 0)) from heap_keep hb1 (by repeat (first | (refine heap_new ?_; first | rfl | (simp; done)) | rw [Below.heap_setCell _ _ _ _ (by simp <;> omega)] | rw [Below.heap_alloc _ _ _ (by simp <;> omega)])))
  have m0 : w1.cell? ⟨w.heap.size, 0, none⟩ = some (.slice av nv cv) := cell_of hm rfl
  have m1 : w1.cell? ⟨w.heap.size, 1, none⟩ = some (.slice af nf cf) := cell_of hm rfl
  have HO1 := Lib.hid (own_base ho1 (base' := w.heap.size) (by simp <;> omega))
  have HB := Lib.hid B1
  have HV1 := Lib.hid (HV0.out.kept B1)
  have HF1 := Lib.hid (HF0.out.kept B1)
  clear hb1 B1 ho1 hm HV0 HF0
  go_wp2_with (fail)
  go_loopw [17] (fun i wr => ∃ k : Nat, k ≤ nf ∧ i = .int .i64 k ∧ (∃ a2 c2, wr.heap[w1.heap.size]? = some (.cells #[.slice a1 nv c1, .slice a2 k c2] 29 (0, 0)) ∧ wr.ownsRow w1.heap.size 52 3 (.slice a2 k c2) k (cells3 (wF V nv F) k)) ∧ Below w1.heap.size w1 wr) (fun i _ => nf - (intOf i).toNat)
  case atStart => exact ⟨0, by omega, rfl, ⟨none, 0, (by repeat (first | (refine heap_new ?_; first | rfl | (simp; done)) | rw [Below.heap_setCell _ _ _ _ (by simp <;> omega)] | rw [Below.heap_alloc _ _ _ (by simp <;> omega)])), World.ownsRow_nil _ _ _ _⟩, (by repeat (first | exact Below.refl _ _ | assumption | refine Below.drew ?_ | refine bdrewN ?_ _ | refine Below.setCell ?_ (by first | omega | (simp <;> omega)) _ | refine Below.alloc ?_ (by first | omega | (simp <;> omega)) _))⟩
  case round =>
    obtain ⟨k, hk, rfl, ⟨a2, c2, hq, hrow⟩, hbel⟩ := hrel
    have hsz := hbel.size
    have HQ := Lib.hid hq
    have HW := Lib.hid hrow
    have HBL := Lib.hid hbel
    have lq := lt_of_heap hq
    clear hq hrow hbel
    by_cases hlt : k < nf
    · rcases HF1.out with h | ⟨bf, of, rfl, hbf, hF⟩
      · omega
      obtain ⟨c0, c1', c2'⟩ := (hF.kept HBL.out hbf) k hlt
      have hbw : bf < wr.heap.size := by omega
      obtain ⟨⟨x0, x1⟩, ⟨y0, y1⟩, z0, z1'⟩ := HI.out k hlt
      obtain ⟨u1, u2, u3⟩ := HNE.out k hlt
      obtain ⟨i, hi⟩ := Int.eq_ofNat_of_zero_le x0
      obtain ⟨j, hj⟩ := Int.eq_ofNat_of_zero_le y0
      obtain ⟨l, hl⟩ := Int.eq_ofNat_of_zero_le z0
      have ilt : i < nv := by omega
      have jlt : j < nv := by omega
      have llt : l < nv := by omega
      have HE : Hid (wF V nv F k = ⟨(ixV V (V i) nv : Int), (ixV V (V j) nv : Int), (ixV V (V l) nv : Int)⟩) := Lib.hid (by simp [wF, rnf, hi, hj, hl])
      have n1 : ((ixV V (V i) nv : Int) != (ixV V (V j) nv : Int)) = true := ix_ne ilt jlt (by simpa [hi, hj] using u1)
      have n2 : ((ixV V (V j) nv : Int) != (ixV V (V l) nv : Int)) = true := ix_ne jlt llt (by simpa [hj, hl] using u2)
      have n3 : ((ixV V (V l) nv : Int) != (ixV V (V i) nv : Int)) = true := ix_ne llt ilt (by simpa [hi, hl] using u3)
      have N1 := Lib.hid n1
      have N2 := Lib.hid n2
      have N3 := Lib.hid n3
      rw [hi] at c0
      rw [hj] at c1'
      rw [hl] at c2'
      clear hF u1 u2 u3 hi hj hl x0 x1 y0 y1 z0 z1' n1 n2 n3
      have m1r := cellk HBL.out lm1 m1
      go_upto_region 6 with (fail)
      have HB3 : Hid (Below w1.heap.size w1 (wr.alloc (.cells #[.int .i64 i, .int .i64 j, .int .i64 l] 52))) := Lib.hid (HBL.out.alloc hsz _)
      have HW3 : Hid ((wr.alloc (.cells #[.int .i64 i, .int .i64 j, .int .i64 l] 52)).ownsRow w1.heap.size 52 3 (.slice a2 k c2) k (cells3 (wF V nv F) k)) := Lib.hid (HW.out.alloc _)
      have HQ3 := Lib.hid ((Below.heap_alloc wr (.cells #[.int .i64 i, .int .i64 j, .int .i64 l] 52) _ lq).trans HQ.out)
      have d0 : (wr.alloc (.cells #[.int .i64 i, .int .i64 j, .int .i64 l] 52)).cell? ⟨wr.heap.size, 0, none⟩ = some (.int .i64 i) := by simp [go_sem]
      have d1 : (wr.alloc (.cells #[.int .i64 i, .int .i64 j, .int .i64 l] 52)).cell? ⟨wr.heap.size, 1, none⟩ = some (.int .i64 j) := by simp [go_sem]
      have d2 : (wr.alloc (.cells #[.int .i64 i, .int .i64 j, .int .i64 l] 52)).cell? ⟨wr.heap.size, 2, none⟩ = some (.int .i64 l) := by simp [go_sem]
      have lq3 : w1.heap.size < (wr.alloc (.cells #[.int .i64 i, .int .i64 j, .int .i64 l] 52)).heap.size := by simp; omega
      have lf3 : wr.heap.size < (wr.alloc (.cells #[.int .i64 i, .int .i64 j, .int .i64 l] 52)).heap.size := by simp
      generalize (wr.alloc (.cells #[.int .i64 i, .int .i64 j, .int .i64 l] 52)) = w3 at *
      have lm3 : w.heap.size < w3.heap.size := by omega
      have q1 : w3.cell? ⟨w1.heap.size, 1, none⟩ = some (.slice a2 k c2) := cell_of HQ3.out rfl
      clear c0 c1' c2' m1r HQ HW HBL
      go_cut [8, 17] from 17 to 59 (fun s8 s17 wx => s17 = .int .i64 k ∧ ∃ g : Nat, s8 = .pointer (some ⟨g, 0, none⟩) ∧ wx.heap[g]? = some (.cells #[.int .i64 (ixV V (V i) nv : Int), .int .i64 (ixV V (V j) nv : Int), .int .i64 (ixV V (V l) nv : Int)] 52 (0, 0)) ∧ Below w3.heap.size w3 wx)
      case first =>
        go_region_held3 (fun w' => w'.cell? ⟨wr.heap.size, 0, none⟩ = some (.int .i64 i) ∧ w'.cell? ⟨wr.heap.size, 1, none⟩ = some (.int .i64 j) ∧ w'.cell? ⟨wr.heap.size, 2, none⟩ = some (.int .i64 l) ∧ w'.cell? ⟨w1.heap.size, 1, none⟩ = some (.slice a2 k c2))
          (first
            | with_reducible exact ⟨d0, d1, d2, q1⟩
            | with_reducible assumption
            | with_reducible exact ⟨cellk Bx lf3 d0, cellk Bx lf3 d1, cellk Bx lf3 d2, cellk Bx lq3 q1⟩
            | with_reducible exact ⟨cellst Bx lf3 d0 (by omega), cellst Bx lf3 d1 (by omega), cellst Bx lf3 d2 (by omega), cellst Bx lq3 q1 (by omega)⟩
            | with_reducible exact ⟨cella (Below.refl _ _) lf3 d0, cella (Below.refl _ _) lf3 d1, cella (Below.refl _ _) lf3 d2, cella (Below.refl _ _) lq3 q1⟩
            | with_reducible exact ⟨cella Bx lf3 d0, cella Bx lf3 d1, cella Bx lf3 d2, cella Bx lq3 q1⟩
            | go_keep)
          (first
          | (go_at_call 45; refine (wm1_any w.heap.size nv cv _ av V _ (cellk (HB3.out.trans (Below.mono (B := w3.heap.size) (by repeat (first | with_reducible exact Bx | with_reducible exact Below.refl _ _ | with_reducible refine Below.drew ?_ | with_reducible refine bdrewN ?_ _ | with_reducible refine Below.alloc ?_ (by first | omega | (simp <;> omega)) _)) HB3.out.size)) lm1 m0) (Nat.lt_of_lt_of_le lm3 (Below.size (B := w3.heap.size) (by repeat (first | with_reducible exact Bx | with_reducible exact Below.refl _ _ | with_reducible refine Below.drew ?_ | with_reducible refine bdrewN ?_ _ | with_reducible refine Below.alloc ?_ (by first | omega | (simp <;> omega)) _)))) (HV1.out.kept (HB3.out.trans (Below.mono (B := w3.heap.size) (by repeat (first | with_reducible exact Bx | with_reducible exact Below.refl _ _ | with_reducible refine Below.drew ?_ | with_reducible refine bdrewN ?_ _ | with_reducible refine Below.alloc ?_ (by first | omega | (simp <;> omega)) _)) HB3.out.size))) (by first | exact ilt | exact jlt | exact llt) hnv).mono ?_; rintro e wx ⟨rfl, hbx⟩; have Bx' : Below w3.heap.size w3 wx := Below.trans (by repeat (first | with_reducible exact Bx | with_reducible exact Below.refl _ _ | with_reducible refine Below.drew ?_ | with_reducible refine bdrewN ?_ _ | with_reducible refine Below.alloc ?_ (by first | omega | (simp <;> omega)) _)) (hbx.mono (Below.size (B := w3.heap.size) (by repeat (first | with_reducible exact Bx | with_reducible exact Below.refl _ _ | with_reducible refine Below.drew ?_ | with_reducible refine bdrewN ?_ _ | with_reducible refine Below.alloc ?_ (by first | omega | (simp <;> omega)) _)))); have Bx := Bx'; have sx := Bx.size; (first | (with_reducible (have hg := newcell hbx)) | (with_reducible (have hg := newcelld hbx)) | (with_reducible (have hg := heap_keep hbx hg)) | (with_reducible (have hg := heap_keepd hbx hg)) | skip); (first | (have g0 : wx.cell? ⟨_, 0, none⟩ = some (.int .i64 0) := cell_of hg rfl; have g1 : wx.cell? ⟨_, 1, none⟩ = some (.int .i64 0) := cell_of hg rfl; have g2 : wx.cell? ⟨_, 2, none⟩ = some (.int .i64 0) := cell_of hg rfl; have f0 : wx.frozen? ⟨_, 0, none⟩ = false := frozen_of hg; have f1 : wx.frozen? ⟨_, 1, none⟩ = false := frozen_of hg; have f2 : wx.frozen? ⟨_, 2, none⟩ = false := frozen_of hg) | skip); clear hbx Bx'))

        all_goals (go_wp2_with (fail))
        all_goals go_meet
        all_goals (first
          | with_reducible exact ⟨rfl, _, rfl, heap_alloc_new wx _, Bx.alloc Bx.size _⟩
          | with_reducible exact ⟨rfl, _, rfl, heapst hg, Below.setCell (Below.setCell (Below.setCell Bx (p := ⟨_, 0, none⟩) (by first | omega | (simp <;> omega)) _) (p := ⟨_, 1, none⟩) (by first | omega | (simp <;> omega)) _) (p := ⟨_, 2, none⟩) (by first | omega | (simp <;> omega)) _⟩
          | skip)
      case rest =>
        obtain ⟨rfl, g, rfl, hgc, hbc⟩ := hcut
        have e0 := cell_of hgc (i := 0) rfl
        have e1 := cell_of hgc (i := 1) rfl
        have e2 := cell_of hgc (i := 2) rfl
        have ff0 := frozen_of hgc (i := 0)
        have lgc := lt_of_heap hgc
        have hqc := heap_keep hbc HQ3.out
        have lqc := lt_of_heap hqc
        have HQC := Lib.hid hqc
        have HWC := Lib.hid (ownsRow_below HW3.out hbc)
        have HBC := Lib.hid (HB3.out.trans (hbc.mono HB3.out.size))
        have n1 := N1.out
        have n2 := N2.out
        have n3 := N3.out
        have oc0 : wc.cell? ⟨w1.heap.size, 0, none⟩ = some (.slice a1 nv c1) := (by simp [World.cell?, hqc]); have of0 : wc.frozen? ⟨w1.heap.size, 0, none⟩ = false := (by simp [World.frozen?, hqc]); have oc1 : wc.cell? ⟨w1.heap.size, 1, none⟩ = some (.slice a2 k c2) := (by simp [World.cell?, hqc]); have of1 : wc.frozen? ⟨w1.heap.size, 1, none⟩ = false := (by simp [World.frozen?, hqc])
        clear hgc hbc hqc d0 d1 d2 q1
        go_wp2_with (at_builtin; refine wpList_append_lies _ rfl _ _ 27 rfl w1.heap.size 52 i1 (.agg #[.int .i64 0, .int .i64 0, .int .i64 0]) 3 24 Try.underlying27 hi1 hy0 hy1 hy2 rfl (by decide) _ _ _ rfl (HWC.out.alloc _) ⟨wc.heap.size, 0, none⟩ 1 1 [.int .i64 (ixV V (V i) nv : Int), .int .i64 (ixV V (V j) nv : Int), .int .i64 (ixV V (V l) nv : Int)] rfl rfl (World.news_of_block (cs := #[.int .i64 (ixV V (V i) nv : Int), .int .i64 (ixV V (V j) nv : Int), .int .i64 (ixV V (V l) nv : Int)]) (t := 52) (fr := (0, 0)) (heap_alloc_new wc _)) (by simp [Value.oneCell']) (by omega) (by unfold maxLen; omega) (by omega) (by simp; omega) (wc.heap.size + 1) (by simp) ?_; intro g cap' w4 hown4 hgrow4 hat hlt4; have HO4 := Lib.hid hown4; have HG4 := Lib.hid hgrow4; have hq4 := grow_keep hgrow4 ((Below.heap_alloc wc _ _ lqc).trans HQC.out) (own_ne HWC.out HQC.out (by decide)); have HQ4 := Lib.hid hq4; have tc0 : w4.cell? ⟨w1.heap.size, 0, none⟩ = some (.slice a1 nv c1) := (by simp [World.cell?, hq4]); have tf0 : w4.frozen? ⟨w1.heap.size, 0, none⟩ = false := (by simp [World.frozen?, hq4]); have tc1 : w4.cell? ⟨w1.heap.size, 1, none⟩ = some (.slice a2 k c2) := (by simp [World.cell?, hq4]); have tf1 : w4.frozen? ⟨w1.heap.size, 1, none⟩ = false := (by simp [World.frozen?, hq4]); clear hown4 hgrow4 hat hq4)
        have hsc := HBC.out.size
        have M4 := Lib.hid (((HBC.out.alloc hsc _).grown HG4.out (by simp; omega) (fun b hb => (HWC.out.lt b hb).1)).setCell (p := ⟨w1.heap.size, 1, none⟩) (by show _ ≤ w1.heap.size; omega) (.slice (some ⟨g, 0, none⟩) (k + 1) cap'))
        go_roundw
        case rel => exact ⟨k + 1, by omega, by go_num, ⟨_, _, set2_1 HQ4.out, by simp only [cells3, HE.out]; exact own_set HO4.out HQ4.out (by decide)⟩, M4.out⟩
        case measure => simp [intOf]; omega
    · obtain rfl : nf = k := by omega
      have hq1 := HQ.out
      have oc0 : wr.cell? ⟨w1.heap.size, 0, none⟩ = some (.slice a1 nv c1) := (by simp [World.cell?, hq1]); have of0 : wr.frozen? ⟨w1.heap.size, 0, none⟩ = false := (by simp [World.frozen?, hq1]); have oc1 : wr.cell? ⟨w1.heap.size, 1, none⟩ = some (.slice a2 nf c2) := (by simp [World.cell?, hq1]); have of1 : wr.frozen? ⟨w1.heap.size, 1, none⟩ = false := (by simp [World.frozen?, hq1])
      have RV := Lib.hid (own_row3 (ownsRow_below HO1.out HBL.out))
      have RF := Lib.hid (own_row3 HW.out)
      have B5 := Lib.hid (HB.out.trans (HBL.out.mono HB.out.size))
      have HR5 := Lib.hid (heap_keep HBL.out HR.out)
      have hs5 : w.heap.size ≤ wr.heap.size := B5.out.size
      clear hq1 m0 m1
      go_wp2_with (fail)
      refine (used_any a1 a2 nv c1 nf c2 V (wF V nv F) wr RV.out RF.out hnv hnf (wF_inb HI.out)).mono ?_
      rintro e w2 ⟨a3, c3', a4, c4, rfl, ho2, ho3, hb2⟩
      rw [HK.out, HKV.out] at ho2
      rw [HCF.out] at ho3
      have hkn : kn ≤ 1000000 := by rw [← HK.out]; have := cnt_le (useB (wF V nv F) nf) nv; omega
      have HO2 := Lib.hid ho2
      have HO3 := Lib.hid ho3
      have HB2 := Lib.hid hb2
      have HR2 := Lib.hid (heap_keep hb2 HR5.out)
      rw [HK.out]
      clear ho2 ho3 hb2 oc0 oc1 of0 of1
      go_wp2_with (fail)
      refine (right_any a3 a4 kn c3' nf c4 kv kf _ (own_row3 HO2.out) (own_row3 HO3.out) hkn hnf).mono ?_
      rintro e w3 ⟨rfl, hb3⟩
      have hr := heap_keep hb3 HR2.out
      have hlr := lt_of_heap hr
      have rc0 : w3.cell? ⟨w.heap.size + 1, 0, none⟩ = some (.slice none 0 0) := (by simp [World.cell?, hr]); have rf0 : w3.frozen? ⟨w.heap.size + 1, 0, none⟩ = false := (by simp [World.frozen?, hr]); have rc1 : w3.cell? ⟨w.heap.size + 1, 1, none⟩ = some (.slice none 0 0) := (by simp [World.cell?, hr]); have rf1 : w3.frozen? ⟨w.heap.size + 1, 1, none⟩ = false := (by simp [World.frozen?, hr])
      have HR7 := Lib.hid hr
      rw [HEE.out]
      have R := Lib.hid (((B5.out.trans (HB2.out.mono B5.out.size)).trans (hb3.mono (Nat.le_trans B5.out.size HB2.out.size))).setCell (p := ⟨w.heap.size + 1, 0, none⟩) (by show _ ≤ w.heap.size + 1; omega) (.slice (za E a3) (zr E kn) (zr E c3')) |>.setCell (p := ⟨w.heap.size + 1, 1, none⟩) (by show _ ≤ w.heap.size + 1; omega) (.slice (za E a4) (zr E nf) (zr E c4)))
      have P1 := Lib.hid (own_set (o := 1) (u := .slice (za E a4) (zr E nf) (zr E c4)) (own_set (o := 0) (u := .slice (za E a3) (zr E kn) (zr E c3')) (ownsRow_below HO2.out hb3) HR7.out (by decide)) (set2_0 HR7.out) (by decide))
      have P2 := Lib.hid (own_set (o := 1) (u := .slice (za E a4) (zr E nf) (zr E c4)) (own_set (o := 0) (u := .slice (za E a3) (zr E kn) (zr E c3')) (ownsRow_below HO3.out hb3) HR7.out (by decide)) (set2_0 HR7.out) (by decide))
      clear hr hb3
      go_wp2
      exact bodyPost_ret (v := .tuple #[.agg #[.slice (za E a3) (zr E kn) (zr E c3'), .slice (za E a4) (zr E nf) (zr E c4)], .int .i64 E]) (by simp [results, Try.results15, go_sem, rc0, rc1]) rfl (meshR_of P1.out P2.out (by omega) (by omega) R.out)
end Go.Proofs.Ytpgpjoghfpfhlaa

/- Moved. -/
import Derived.Test.YtbkipjceglpmcaaTn
set_option linter.unusedSimpArgs false
set_option linter.unusedVariables false
namespace Go.Proofs.Ytbkipjceglpmcaa
open Go.RowKit

theorem short_still (n : Int) (w : World) : Calls Try.prog 53 #[.int .i64 n] w fun e w' => e = .returned (.int .i64 (short n)) ∧ w' = w :=
  (short_any n w).mono fun _ _ h => ⟨h.1, h.2.symm⟩

set_option maxRecDepth 100000 in
set_option maxHeartbeats 4000000 in
theorem moved_f (av af : Option Addr) (nv cv nf cf : Nat) (V F : Nat → V3) (p q r : Int) (w : World) (hv : Row3 w av nv V) (hf : Row3 w af nf F) (hnv : nv ≤ 1000000) (hnf : nf ≤ 1000000) (h0 : fault nv V nf F ≠ 0) (G K : Nat → V3) :
    Calls Try.prog 10 #[.agg #[.slice av nv cv, .slice af nf cf], .agg #[.int .i64 p, .int .i64 q, .int .i64 r]] w (MeshR w (fault nv V nf F) nv G nf K) := by
  have HV := Lib.hid hv
  have HF := Lib.hid hf
  clear hv hf
  go_enter Try.func10, Try.ntmps10
  go_wp2_with (fail)
  refine (checkMesh_any av af nv cv nf cf V F _ (HV.out.kept (by repeat (first | exact Below.refl _ _ | assumption | refine Below.drew ?_ | refine bdrewN ?_ _ | refine Below.setCell ?_ (by first | omega | (simp <;> omega)) _ | refine Below.alloc ?_ (by first | omega | (simp <;> omega)) _))) (HF.out.kept (by repeat (first | exact Below.refl _ _ | assumption | refine Below.drew ?_ | refine bdrewN ?_ _ | refine Below.setCell ?_ (by first | omega | (simp <;> omega)) _ | refine Below.alloc ?_ (by first | omega | (simp <;> omega)) _))) hnv hnf).mono ?_
  rintro e w1 ⟨rfl, hb1⟩
  have z1 : w.heap.size + 1 + 1 + 1 ≤ w1.heap.size := by have := hb1.size; simpa using this
  have B1 : Below w.heap.size w w1 := Below.trans (by repeat (first | exact Below.refl _ _ | assumption | refine Below.drew ?_ | refine bdrewN ?_ _ | refine Below.setCell ?_ (by first | omega | (simp <;> omega)) _ | refine Below.alloc ?_ (by first | omega | (simp <;> omega)) _)) (hb1.mono (by simp <;> omega))
  have lt0 : w.heap.size < w1.heap.size := by omega
  have hb_0 : w1.heap[w.heap.size]? = some (.cells #[.slice av nv cv, .slice af nf cf] 29 (0, 0)) := heap_keep hb1 (by repeat (first | (refine heap_new ?_; first | rfl | (simp; done)) | rw [Below.heap_setCell _ _ _ _ (by simp <;> omega)] | rw [Below.heap_alloc _ _ _ (by simp <;> omega)]))
  have b0c0 : w1.cell? ⟨w.heap.size, 0, none⟩ = some (.slice av nv cv) := by simp [World.cell?, hb_0]
  have b0f0 : w1.frozen? ⟨w.heap.size, 0, none⟩ = false := by simp [World.frozen?, hb_0]
  have b0c1 : w1.cell? ⟨w.heap.size, 1, none⟩ = some (.slice af nf cf) := by simp [World.cell?, hb_0]
  have b0f1 : w1.frozen? ⟨w.heap.size, 1, none⟩ = false := by simp [World.frozen?, hb_0]
  have BX0 := Lib.hid hb_0
  clear hb_0
  have lt1 : w.heap.size + 1 < w1.heap.size := by omega
  have hb_1 : w1.heap[w.heap.size + 1]? = some (.cells #[.int .i64 p, .int .i64 q, .int .i64 r] 33 (0, 0)) := heap_keep hb1 (by repeat (first | (refine heap_new ?_; first | rfl | (simp; done)) | rw [Below.heap_setCell _ _ _ _ (by simp <;> omega)] | rw [Below.heap_alloc _ _ _ (by simp <;> omega)]))
  have b1c0 : w1.cell? ⟨w.heap.size + 1, 0, none⟩ = some (.int .i64 p) := by simp [World.cell?, hb_1]
  have b1f0 : w1.frozen? ⟨w.heap.size + 1, 0, none⟩ = false := by simp [World.frozen?, hb_1]
  have b1c1 : w1.cell? ⟨w.heap.size + 1, 1, none⟩ = some (.int .i64 q) := by simp [World.cell?, hb_1]
  have b1f1 : w1.frozen? ⟨w.heap.size + 1, 1, none⟩ = false := by simp [World.frozen?, hb_1]
  have b1c2 : w1.cell? ⟨w.heap.size + 1, 2, none⟩ = some (.int .i64 r) := by simp [World.cell?, hb_1]
  have b1f2 : w1.frozen? ⟨w.heap.size + 1, 2, none⟩ = false := by simp [World.frozen?, hb_1]
  have BX1 := Lib.hid hb_1
  clear hb_1
  have lt2 : w.heap.size + 1 + 1 < w1.heap.size := by omega
  have hb_2 : w1.heap[w.heap.size + 1 + 1]? = some (.cells #[.slice none 0 0, .slice none 0 0] 29 (0, 0)) := heap_keep hb1 (by repeat (first | (refine heap_new ?_; first | rfl | (simp; done)) | rw [Below.heap_setCell _ _ _ _ (by simp <;> omega)] | rw [Below.heap_alloc _ _ _ (by simp <;> omega)]))
  have b2c0 : w1.cell? ⟨w.heap.size + 1 + 1, 0, none⟩ = some (.slice none 0 0) := by simp [World.cell?, hb_2]
  have b2f0 : w1.frozen? ⟨w.heap.size + 1 + 1, 0, none⟩ = false := by simp [World.frozen?, hb_2]
  have b2c1 : w1.cell? ⟨w.heap.size + 1 + 1, 1, none⟩ = some (.slice none 0 0) := by simp [World.cell?, hb_2]
  have b2f1 : w1.frozen? ⟨w.heap.size + 1 + 1, 1, none⟩ = false := by simp [World.frozen?, hb_2]
  have BX2 := Lib.hid hb_2
  clear hb_2
  have HB := Lib.hid B1
  clear hb1 B1
  have e0 : (fault nv V nf F != 0) = true := by simpa using h0
  go_wp2
  exact bodyPost_ret (v := .tuple #[.agg #[.slice none 0 0, .slice none 0 0], .int .i64 (fault nv V nf F)]) (by simp [results, Try.results10, go_sem, b2c0, b2c1, lt2]) rfl (meshR_no rfl (by first | assumption | decide) (by repeat (first | exact Below.refl _ _ | assumption | refine Below.drew ?_ | refine bdrewN ?_ _ | refine Below.setCell ?_ (by first | omega | (simp <;> omega)) _ | refine Below.alloc ?_ (by first | omega | (simp <;> omega)) _)))
set_option maxRecDepth 100000 in
set_option maxHeartbeats 4000000 in
theorem moved_ok (av af : Option Addr) (nv cv nf cf : Nat) (V F : Nat → V3) (p q r : Int) (w : World) (hv : Row3 w av nv V) (hf : Row3 w af nf F) (hnv : nv ≤ 1000000) (hnf : nf ≤ 1000000) (h0 : fault nv V nf F = 0) :
    Calls Try.prog 10 #[.agg #[.slice av nv cv, .slice af nf cf], .agg #[.int .i64 p, .int .i64 q, .int .i64 r]] w (MeshR w (fault nv (fun i => addv ⟨short p, short q, short r⟩ (V i)) nf F) nv (fun i => addv ⟨short p, short q, short r⟩ (V i)) nf F) := by
  have HV := Lib.hid hv
  have HF := Lib.hid hf
  clear hv hf
  go_enter Try.func10, Try.ntmps10
  go_wp2_with (fail)
  refine (checkMesh_any av af nv cv nf cf V F _ (HV.out.kept (by repeat (first | exact Below.refl _ _ | assumption | refine Below.drew ?_ | refine bdrewN ?_ _ | refine Below.setCell ?_ (by first | omega | (simp <;> omega)) _ | refine Below.alloc ?_ (by first | omega | (simp <;> omega)) _))) (HF.out.kept (by repeat (first | exact Below.refl _ _ | assumption | refine Below.drew ?_ | refine bdrewN ?_ _ | refine Below.setCell ?_ (by first | omega | (simp <;> omega)) _ | refine Below.alloc ?_ (by first | omega | (simp <;> omega)) _))) hnv hnf).mono ?_
  rintro e w1 ⟨rfl, hb1⟩
  have z1 : w.heap.size + 1 + 1 + 1 ≤ w1.heap.size := by have := hb1.size; simpa using this
  have B1 : Below w.heap.size w w1 := Below.trans (by repeat (first | exact Below.refl _ _ | assumption | refine Below.drew ?_ | refine bdrewN ?_ _ | refine Below.setCell ?_ (by first | omega | (simp <;> omega)) _ | refine Below.alloc ?_ (by first | omega | (simp <;> omega)) _)) (hb1.mono (by simp <;> omega))
  have lt0 : w.heap.size < w1.heap.size := by omega
  have hb_0 : w1.heap[w.heap.size]? = some (.cells #[.slice av nv cv, .slice af nf cf] 29 (0, 0)) := heap_keep hb1 (by repeat (first | (refine heap_new ?_; first | rfl | (simp; done)) | rw [Below.heap_setCell _ _ _ _ (by simp <;> omega)] | rw [Below.heap_alloc _ _ _ (by simp <;> omega)]))
  have b0c0 : w1.cell? ⟨w.heap.size, 0, none⟩ = some (.slice av nv cv) := by simp [World.cell?, hb_0]
  have b0f0 : w1.frozen? ⟨w.heap.size, 0, none⟩ = false := by simp [World.frozen?, hb_0]
  have b0c1 : w1.cell? ⟨w.heap.size, 1, none⟩ = some (.slice af nf cf) := by simp [World.cell?, hb_0]
  have b0f1 : w1.frozen? ⟨w.heap.size, 1, none⟩ = false := by simp [World.frozen?, hb_0]
  have BX0 := Lib.hid hb_0
  clear hb_0
  have lt1 : w.heap.size + 1 < w1.heap.size := by omega
  have hb_1 : w1.heap[w.heap.size + 1]? = some (.cells #[.int .i64 p, .int .i64 q, .int .i64 r] 33 (0, 0)) := heap_keep hb1 (by repeat (first | (refine heap_new ?_; first | rfl | (simp; done)) | rw [Below.heap_setCell _ _ _ _ (by simp <;> omega)] | rw [Below.heap_alloc _ _ _ (by simp <;> omega)]))
  have b1c0 : w1.cell? ⟨w.heap.size + 1, 0, none⟩ = some (.int .i64 p) := by simp [World.cell?, hb_1]
  have b1f0 : w1.frozen? ⟨w.heap.size + 1, 0, none⟩ = false := by simp [World.frozen?, hb_1]
  have b1c1 : w1.cell? ⟨w.heap.size + 1, 1, none⟩ = some (.int .i64 q) := by simp [World.cell?, hb_1]
  have b1f1 : w1.frozen? ⟨w.heap.size + 1, 1, none⟩ = false := by simp [World.frozen?, hb_1]
  have b1c2 : w1.cell? ⟨w.heap.size + 1, 2, none⟩ = some (.int .i64 r) := by simp [World.cell?, hb_1]
  have b1f2 : w1.frozen? ⟨w.heap.size + 1, 2, none⟩ = false := by simp [World.frozen?, hb_1]
  have BX1 := Lib.hid hb_1
  clear hb_1
  have lt2 : w.heap.size + 1 + 1 < w1.heap.size := by omega
  have hb_2 : w1.heap[w.heap.size + 1 + 1]? = some (.cells #[.slice none 0 0, .slice none 0 0] 29 (0, 0)) := heap_keep hb1 (by repeat (first | (refine heap_new ?_; first | rfl | (simp; done)) | rw [Below.heap_setCell _ _ _ _ (by simp <;> omega)] | rw [Below.heap_alloc _ _ _ (by simp <;> omega)]))
  have b2c0 : w1.cell? ⟨w.heap.size + 1 + 1, 0, none⟩ = some (.slice none 0 0) := by simp [World.cell?, hb_2]
  have b2f0 : w1.frozen? ⟨w.heap.size + 1 + 1, 0, none⟩ = false := by simp [World.frozen?, hb_2]
  have b2c1 : w1.cell? ⟨w.heap.size + 1 + 1, 1, none⟩ = some (.slice none 0 0) := by simp [World.cell?, hb_2]
  have b2f1 : w1.frozen? ⟨w.heap.size + 1 + 1, 1, none⟩ = false := by simp [World.frozen?, hb_2]
  have BX2 := Lib.hid hb_2
  clear hb_2
  have HB := Lib.hid B1
  clear hb1 B1
  have e0 : (fault nv V nf F != 0) = false := by simp [h0]
  clear h0
  go_wp2_with (fail)
  refine wp_region_still_tail 10 (by kernel_rfl) (by kernel_rfl) ?_
  simp only [List.take_succ_cons, List.take_zero, List.drop_succ_cons, List.drop_zero]
  still_step; still_step; still_call (short_still _ _)
  still_step; still_step; still_call (short_still _ _)
  still_step; still_step; still_call (short_still _ _)
  still_step
  refine wpStill_nil ?_
  change wpList _ _ _ _ _ w1.drew
  have H3 := Lib.hid (set3_heap (w := w1.drew) (u0 := .int .i64 (short p)) (u1 := .int .i64 (short q)) (u2 := .int .i64 (short r)) BX1.out)
  have HR3 := Lib.hid ((set3_other (w := w1.drew) (b := w.heap.size + 1) (c := w.heap.size + 1 + 1) (u0 := .int .i64 (short p)) (u1 := .int .i64 (short q)) (u2 := .int .i64 (short r)) (by omega)).trans BX2.out)
  have HM3 := Lib.hid ((set3_other (w := w1.drew) (b := w.heap.size + 1) (c := w.heap.size) (u0 := .int .i64 (short p)) (u1 := .int .i64 (short q)) (u2 := .int .i64 (short r)) (by omega)).trans BX0.out)
  have HB3 : Hid (Below w.heap.size w (((w1.drew.setCell ⟨w.heap.size + 1, 0, none⟩ (.int .i64 (short p))).setCell ⟨w.heap.size + 1, 1, none⟩ (.int .i64 (short q))).setCell ⟨w.heap.size + 1, 2, none⟩ (.int .i64 (short r)))) := Lib.hid (((HB.out.drew.setCell (by show _ ≤ w.heap.size + 1; omega) _).setCell (by show _ ≤ w.heap.size + 1; omega) _).setCell (by show _ ≤ w.heap.size + 1; omega) _)
  go_wp2_with (fail)
  generalize hw4 : (((w1.setCell ⟨w.heap.size + 1, 0, none⟩ (.int .i64 (short p))).setCell ⟨w.heap.size + 1, 1, none⟩ (.int .i64 (short q))).setCell ⟨w.heap.size + 1, 2, none⟩ (.int .i64 (short r))).drew = w4
  have H4 : w4.heap[w.heap.size + 1]? = some (.cells #[.int .i64 (short p), .int .i64 (short q), .int .i64 (short r)] 33 (0, 0)) := by rw [← hw4]; exact H3.out
  have HR4 : Hid (w4.heap[w.heap.size + 1 + 1]? = some (.cells #[.slice none 0 0, .slice none 0 0] 29 (0, 0))) := Lib.hid (by rw [← hw4]; exact HR3.out)
  have HB4 : Hid (Below w.heap.size w w4) := Lib.hid (by rw [← hw4]; exact HB3.out)
  clear H3 HR3 HM3 HB3 hw4 HB
  have z4 := lt_of_heap H4
  have k0 : w4.cell? ⟨w.heap.size + 1, 0, none⟩ = some (.int .i64 (short p)) := by simp [World.cell?, H4]
  have k1 : w4.cell? ⟨w.heap.size + 1, 1, none⟩ = some (.int .i64 (short q)) := by simp [World.cell?, H4]
  have k2 : w4.cell? ⟨w.heap.size + 1, 2, none⟩ = some (.int .i64 (short r)) := by simp [World.cell?, H4]
  clear H4
  refine (placed_M (w.heap.size + 1) (fun i => addv ⟨short p, short q, short r⟩ (V i)) av af nv cv nf cf V F _ (HV.out.kept HB4.out) (HF.out.kept HB4.out) hnv hnf (fun W hb k hk => movA_any (V k).x (V k).y (V k).z (short p) (short q) (short r) (w.heap.size + 1) W (cellk hb z4 k0) (cellk hb z4 k1) (cellk hb z4 k2) (by have := hb.size; omega))).mono ?_
  · rintro e w2 ⟨a2, c2, a3, c3, rfl, ho2, ho3, hb2⟩
    have HB := HB4

    have HO2 := Lib.hid ho2
    have HO3 := Lib.hid ho3
    have HB2 := Lib.hid hb2
    clear ho2 ho3 hb2
    go_wp2_with (fail)
    refine (checked_any a2 a3 nv c2 nf c3 (fun i => addv ⟨short p, short q, short r⟩ (V i)) F _ (own_row3 HO2.out) (own_row3 HO3.out) hnv hnf).mono ?_
    rintro e w3 ⟨rfl, hb3⟩
    have hr := heap_keep hb3 (heap_keep HB2.out HR4.out)
    have hlr := lt_of_heap hr
    have rc0 : w3.cell? ⟨w.heap.size + 1 + 1, 0, none⟩ = some (.slice none 0 0) := (by simp [World.cell?, hr]); have rf0 : w3.frozen? ⟨w.heap.size + 1 + 1, 0, none⟩ = false := (by simp [World.frozen?, hr]); have rc1 : w3.cell? ⟨w.heap.size + 1 + 1, 1, none⟩ = some (.slice none 0 0) := (by simp [World.cell?, hr]); have rf1 : w3.frozen? ⟨w.heap.size + 1 + 1, 1, none⟩ = false := (by simp [World.frozen?, hr])
    have HR7 := Lib.hid hr
    generalize hE : fault nv (fun i => addv ⟨short p, short q, short r⟩ (V i)) nf F = E
    have R := Lib.hid (((HB.out.trans (HB2.out.mono HB.out.size)).trans (hb3.mono (Nat.le_trans HB.out.size HB2.out.size))).setCell (p := ⟨w.heap.size + 1 + 1, 0, none⟩) (by show _ ≤ w.heap.size + 1 + 1; omega) (.slice (za E a2) (zr E nv) (zr E c2)) |>.setCell (p := ⟨w.heap.size + 1 + 1, 1, none⟩) (by show _ ≤ w.heap.size + 1 + 1; omega) (.slice (za E a3) (zr E nf) (zr E c3)))
    have P1 := Lib.hid (own_set (o := 1) (u := .slice (za E a3) (zr E nf) (zr E c3)) (own_set (o := 0) (u := .slice (za E a2) (zr E nv) (zr E c2)) (ownsRow_below HO2.out hb3) HR7.out (by decide)) (set2_0 HR7.out) (by decide))
    have P2 := Lib.hid (own_set (o := 1) (u := .slice (za E a3) (zr E nf) (zr E c3)) (own_set (o := 0) (u := .slice (za E a2) (zr E nv) (zr E c2)) (ownsRow_below HO3.out hb3) HR7.out (by decide)) (set2_0 HR7.out) (by decide))
    have HE := Lib.hid hE
    clear hE hr hb3
    have hzz : w.heap.size ≤ w4.heap.size := HB.out.size
    go_wp2
    exact bodyPost_ret (v := .tuple #[.agg #[.slice (za E a2) (zr E nv) (zr E c2), .slice (za E a3) (zr E nf) (zr E c3)], .int .i64 E]) (by simp [results, Try.results10, go_sem, rc0, rc1]) rfl (MeshR.from (meshR_of P1.out P2.out (by first | omega | (simp; omega)) (by first | omega | (simp; omega)) R.out) (Below.refl _ _) HE.out.symm)
end Go.Proofs.Ytbkipjceglpmcaa

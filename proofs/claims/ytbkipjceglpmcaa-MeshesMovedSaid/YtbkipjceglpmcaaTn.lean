/- Turned, Moved and Mirrored. -/
import Derived.Test.YtbkipjceglpmcaaMd
import Derived.StillTailTactics
import Derived.Laws.EntriesVeiled
set_option linter.unusedSimpArgs false
set_option linter.unusedVariables false
namespace Go.Proofs.Ytbkipjceglpmcaa
open Go.RowKit

theorem eq_nil (w : World) : (Go.binOp .eql 80 .nilFunc .nilFunc).run Try.prog w = Result.ok (.bool true) w := by kernel_rfl
theorem eq_q1 (w : World) : (Go.binOp .eql 80 (.func (.func 96) #[] #[]) .nilFunc).run Try.prog w = Result.ok (.bool false) w := by kernel_rfl
theorem eq_m1 (w : World) : (Go.binOp .eql 80 (.func (.func 99) #[] #[]) .nilFunc).run Try.prog w = Result.ok (.bool false) w := by kernel_rfl
theorem eq_q2 (w : World) : (Go.binOp .eql 80 (.func (.func 97) #[] #[]) .nilFunc).run Try.prog w = Result.ok (.bool false) w := by kernel_rfl
theorem eq_m2 (w : World) : (Go.binOp .eql 80 (.func (.func 100) #[] #[]) .nilFunc).run Try.prog w = Result.ok (.bool false) w := by kernel_rfl
theorem eq_q3 (w : World) : (Go.binOp .eql 80 (.func (.func 98) #[] #[]) .nilFunc).run Try.prog w = Result.ok (.bool false) w := by kernel_rfl
theorem eq_m3 (w : World) : (Go.binOp .eql 80 (.func (.func 101) #[] #[]) .nilFunc).run Try.prog w = Result.ok (.bool false) w := by kernel_rfl

set_option maxRecDepth 100000 in
set_option maxHeartbeats 4000000 in
theorem turned_f (av af : Option Addr) (nv cv nf cf : Nat) (V F : Nat → V3) (a q : Int) (w : World) (hv : Row3 w av nv V) (hf : Row3 w af nf F) (hnv : nv ≤ 1000000) (hnf : nf ≤ 1000000) (h0 : fault nv V nf F ≠ 0) (G K : Nat → V3) :
    Calls Try.prog 9 #[.agg #[.slice av nv cv, .slice af nf cf], .int .i64 a, .int .i64 q] w (MeshR w (fault nv V nf F) nv G nf K) := by
  have HV := Lib.hid hv
  have HF := Lib.hid hf
  clear hv hf
  go_enter Try.func9, Try.ntmps9
  go_wp2_with (fail)
  refine (checkMesh_any av af nv cv nf cf V F _ (HV.out.kept (by repeat (first | exact Below.refl _ _ | assumption | refine Below.drew ?_ | refine bdrewN ?_ _ | refine Below.setCell ?_ (by first | omega | (simp <;> omega)) _ | refine Below.alloc ?_ (by first | omega | (simp <;> omega)) _))) (HF.out.kept (by repeat (first | exact Below.refl _ _ | assumption | refine Below.drew ?_ | refine bdrewN ?_ _ | refine Below.setCell ?_ (by first | omega | (simp <;> omega)) _ | refine Below.alloc ?_ (by first | omega | (simp <;> omega)) _))) hnv hnf).mono ?_
  rintro e w1 ⟨rfl, hb1⟩
  have z1 : w.heap.size + 1 + 1 + 1 ≤ w1.heap.size := by have := hb1.size; simpa using this
  have B1 : Below w.heap.size w w1 := Below.trans (by repeat (first | exact Below.refl _ _ | assumption | refine Below.drew ?_ | refine bdrewN ?_ _ | refine Below.setCell ?_ (by first | omega | (simp <;> omega)) _ | refine Below.alloc ?_ (by first | omega | (simp <;> omega)) _)) (hb1.mono (by simp <;> omega))
  have lt0 : w.heap.size < w1.heap.size := by omega
  have hb_0 : w1.heap[w.heap.size]? = some (.cells #[.slice av nv cv, .slice af nf cf] 29 (0, 0)) := heap_keep hb1 (by repeat (first | (refine heap_new ?_; first | rfl | (simp; done)) | rw [Below.heap_setCell _ _ _ _ (by simp <;> omega)] | rw [Below.heap_alloc _ _ _ (by simp <;> omega)]))
  have b0c0 : w1.cell? ⟨w.heap.size, 0, none⟩ = some (.slice av nv cv) := by simp [World.cell?, hb_0]
  have b0f0 : w1.frozen? ⟨w.heap.size, 0, none⟩ = false := by simp [World.frozen?, hb_0]
  have b0c1 : w1.cell? ⟨w.heap.size, 1, none⟩ = some (.slice af nf cf) := by simp [World.cell?, hb_0]
  have b0f1 : w1.frozen? ⟨w.heap.size, 1, none⟩ = false := by simp [World.frozen?, hb_0]
  have BX0 := Lib.hid hb_0
  clear hb_0
  have lt1 : w.heap.size + 1 < w1.heap.size := by omega
  have hb_1 : w1.heap[w.heap.size + 1]? = some (.cells #[.int .i64 q] 3 (0, 0)) := heap_keep hb1 (by repeat (first | (refine heap_new ?_; first | rfl | (simp; done)) | rw [Below.heap_setCell _ _ _ _ (by simp <;> omega)] | rw [Below.heap_alloc _ _ _ (by simp <;> omega)]))
  have b1c0 : w1.cell? ⟨w.heap.size + 1, 0, none⟩ = some (.int .i64 q) := by simp [World.cell?, hb_1]
  have b1f0 : w1.frozen? ⟨w.heap.size + 1, 0, none⟩ = false := by simp [World.frozen?, hb_1]
  have BX1 := Lib.hid hb_1
  clear hb_1
  have lt2 : w.heap.size + 1 + 1 < w1.heap.size := by omega
  have hb_2 : w1.heap[w.heap.size + 1 + 1]? = some (.cells #[.slice none 0 0, .slice none 0 0] 29 (0, 0)) := heap_keep hb1 (by repeat (first | (refine heap_new ?_; first | rfl | (simp; done)) | rw [Below.heap_setCell _ _ _ _ (by simp <;> omega)] | rw [Below.heap_alloc _ _ _ (by simp <;> omega)]))
  have b2c0 : w1.cell? ⟨w.heap.size + 1 + 1, 0, none⟩ = some (.slice none 0 0) := by simp [World.cell?, hb_2]
  have b2f0 : w1.frozen? ⟨w.heap.size + 1 + 1, 0, none⟩ = false := by simp [World.frozen?, hb_2]
  have b2c1 : w1.cell? ⟨w.heap.size + 1 + 1, 1, none⟩ = some (.slice none 0 0) := by simp [World.cell?, hb_2]
  have b2f1 : w1.frozen? ⟨w.heap.size + 1 + 1, 1, none⟩ = false := by simp [World.frozen?, hb_2]
  have BX2 := Lib.hid hb_2
  clear hb_2
  have HB := Lib.hid B1
  clear hb1 B1
  have e0 : (fault nv V nf F != 0) = true := by simpa using h0
  go_wp2
  exact bodyPost_ret (v := .tuple #[.agg #[.slice none 0 0, .slice none 0 0], .int .i64 (fault nv V nf F)]) (by simp [results, Try.results9, go_sem, b2c0, b2c1, lt2]) rfl (meshR_no rfl (by first | assumption | decide) (by repeat (first | exact Below.refl _ _ | assumption | refine Below.drew ?_ | refine bdrewN ?_ _ | refine Below.setCell ?_ (by first | omega | (simp <;> omega)) _ | refine Below.alloc ?_ (by first | omega | (simp <;> omega)) _)))
set_option maxRecDepth 100000 in
set_option maxHeartbeats 4000000 in
theorem turned_x (av af : Option Addr) (nv cv nf cf : Nat) (V F : Nat → V3) (a q : Int) (w : World) (hv : Row3 w av nv V) (hf : Row3 w af nf F) (hnv : nv ≤ 1000000) (hnf : nf ≤ 1000000) (h0 : fault nv V nf F = 0) (ha : ¬ (0 ≤ a ∧ a ≤ 2)) (G K : Nat → V3) :
    Calls Try.prog 9 #[.agg #[.slice av nv cv, .slice af nf cf], .int .i64 a, .int .i64 q] w (MeshR w 4 nv G nf K) := by
  have HV := Lib.hid hv
  have HF := Lib.hid hf
  clear hv hf
  go_enter Try.func9, Try.ntmps9
  go_wp2_with (fail)
  refine (checkMesh_any av af nv cv nf cf V F _ (HV.out.kept (by repeat (first | exact Below.refl _ _ | assumption | refine Below.drew ?_ | refine bdrewN ?_ _ | refine Below.setCell ?_ (by first | omega | (simp <;> omega)) _ | refine Below.alloc ?_ (by first | omega | (simp <;> omega)) _))) (HF.out.kept (by repeat (first | exact Below.refl _ _ | assumption | refine Below.drew ?_ | refine bdrewN ?_ _ | refine Below.setCell ?_ (by first | omega | (simp <;> omega)) _ | refine Below.alloc ?_ (by first | omega | (simp <;> omega)) _))) hnv hnf).mono ?_
  rintro e w1 ⟨rfl, hb1⟩
  have z1 : w.heap.size + 1 + 1 + 1 ≤ w1.heap.size := by have := hb1.size; simpa using this
  have B1 : Below w.heap.size w w1 := Below.trans (by repeat (first | exact Below.refl _ _ | assumption | refine Below.drew ?_ | refine bdrewN ?_ _ | refine Below.setCell ?_ (by first | omega | (simp <;> omega)) _ | refine Below.alloc ?_ (by first | omega | (simp <;> omega)) _)) (hb1.mono (by simp <;> omega))
  have lt0 : w.heap.size < w1.heap.size := by omega
  have hb_0 : w1.heap[w.heap.size]? = some (.cells #[.slice av nv cv, .slice af nf cf] 29 (0, 0)) := heap_keep hb1 (by repeat (first | (refine heap_new ?_; first | rfl | (simp; done)) | rw [Below.heap_setCell _ _ _ _ (by simp <;> omega)] | rw [Below.heap_alloc _ _ _ (by simp <;> omega)]))
  have b0c0 : w1.cell? ⟨w.heap.size, 0, none⟩ = some (.slice av nv cv) := by simp [World.cell?, hb_0]
  have b0f0 : w1.frozen? ⟨w.heap.size, 0, none⟩ = false := by simp [World.frozen?, hb_0]
  have b0c1 : w1.cell? ⟨w.heap.size, 1, none⟩ = some (.slice af nf cf) := by simp [World.cell?, hb_0]
  have b0f1 : w1.frozen? ⟨w.heap.size, 1, none⟩ = false := by simp [World.frozen?, hb_0]
  have BX0 := Lib.hid hb_0
  clear hb_0
  have lt1 : w.heap.size + 1 < w1.heap.size := by omega
  have hb_1 : w1.heap[w.heap.size + 1]? = some (.cells #[.int .i64 q] 3 (0, 0)) := heap_keep hb1 (by repeat (first | (refine heap_new ?_; first | rfl | (simp; done)) | rw [Below.heap_setCell _ _ _ _ (by simp <;> omega)] | rw [Below.heap_alloc _ _ _ (by simp <;> omega)]))
  have b1c0 : w1.cell? ⟨w.heap.size + 1, 0, none⟩ = some (.int .i64 q) := by simp [World.cell?, hb_1]
  have b1f0 : w1.frozen? ⟨w.heap.size + 1, 0, none⟩ = false := by simp [World.frozen?, hb_1]
  have BX1 := Lib.hid hb_1
  clear hb_1
  have lt2 : w.heap.size + 1 + 1 < w1.heap.size := by omega
  have hb_2 : w1.heap[w.heap.size + 1 + 1]? = some (.cells #[.slice none 0 0, .slice none 0 0] 29 (0, 0)) := heap_keep hb1 (by repeat (first | (refine heap_new ?_; first | rfl | (simp; done)) | rw [Below.heap_setCell _ _ _ _ (by simp <;> omega)] | rw [Below.heap_alloc _ _ _ (by simp <;> omega)]))
  have b2c0 : w1.cell? ⟨w.heap.size + 1 + 1, 0, none⟩ = some (.slice none 0 0) := by simp [World.cell?, hb_2]
  have b2f0 : w1.frozen? ⟨w.heap.size + 1 + 1, 0, none⟩ = false := by simp [World.frozen?, hb_2]
  have b2c1 : w1.cell? ⟨w.heap.size + 1 + 1, 1, none⟩ = some (.slice none 0 0) := by simp [World.cell?, hb_2]
  have b2f1 : w1.frozen? ⟨w.heap.size + 1 + 1, 1, none⟩ = false := by simp [World.frozen?, hb_2]
  have BX2 := Lib.hid hb_2
  clear hb_2
  have HB := Lib.hid B1
  clear hb1 B1
  have e0 : (fault nv V nf F != 0) = false := by simp [h0]
  clear h0
  have hq := fun w => eq_nil w
  go_wp2_with (go_at_call 49; refine (qnone a _ ha).mono ?_; rintro e w' ⟨rfl, rfl⟩)
  exact bodyPost_ret (v := .tuple #[.agg #[.slice none 0 0, .slice none 0 0], .int .i64 4]) (by simp [results, Try.results9, go_sem, b2c0, b2c1, lt2]) rfl (meshR_no rfl (by first | assumption | decide) (by repeat (first | exact Below.refl _ _ | assumption | refine Below.drew ?_ | refine bdrewN ?_ _ | refine Below.setCell ?_ (by first | omega | (simp <;> omega)) _ | refine Below.alloc ?_ (by first | omega | (simp <;> omega)) _)))

set_option maxRecDepth 100000 in
set_option maxHeartbeats 4000000 in
theorem turned_q0 (av af : Option Addr) (nv cv nf cf : Nat) (V F : Nat → V3) (q : Int) (w : World) (hv : Row3 w av nv V) (hf : Row3 w af nf F) (hnv : nv ≤ 1000000) (hnf : nf ≤ 1000000) (h0 : fault nv V nf F = 0) (hq : inB q 0 3 = false) (G K : Nat → V3) :
    Calls Try.prog 9 #[.agg #[.slice av nv cv, .slice af nf cf], .int .i64 0, .int .i64 q] w (MeshR w 1 nv G nf K) := by
  have HV := Lib.hid hv
  have HF := Lib.hid hf
  clear hv hf
  go_enter Try.func9, Try.ntmps9
  go_wp2_with (fail)
  refine (checkMesh_any av af nv cv nf cf V F _ (HV.out.kept (by repeat (first | exact Below.refl _ _ | assumption | refine Below.drew ?_ | refine bdrewN ?_ _ | refine Below.setCell ?_ (by first | omega | (simp <;> omega)) _ | refine Below.alloc ?_ (by first | omega | (simp <;> omega)) _))) (HF.out.kept (by repeat (first | exact Below.refl _ _ | assumption | refine Below.drew ?_ | refine bdrewN ?_ _ | refine Below.setCell ?_ (by first | omega | (simp <;> omega)) _ | refine Below.alloc ?_ (by first | omega | (simp <;> omega)) _))) hnv hnf).mono ?_
  rintro e w1 ⟨rfl, hb1⟩
  have z1 : w.heap.size + 1 + 1 + 1 ≤ w1.heap.size := by have := hb1.size; simpa using this
  have B1 : Below w.heap.size w w1 := Below.trans (by repeat (first | exact Below.refl _ _ | assumption | refine Below.drew ?_ | refine bdrewN ?_ _ | refine Below.setCell ?_ (by first | omega | (simp <;> omega)) _ | refine Below.alloc ?_ (by first | omega | (simp <;> omega)) _)) (hb1.mono (by simp <;> omega))
  have lt0 : w.heap.size < w1.heap.size := by omega
  have hb_0 : w1.heap[w.heap.size]? = some (.cells #[.slice av nv cv, .slice af nf cf] 29 (0, 0)) := heap_keep hb1 (by repeat (first | (refine heap_new ?_; first | rfl | (simp; done)) | rw [Below.heap_setCell _ _ _ _ (by simp <;> omega)] | rw [Below.heap_alloc _ _ _ (by simp <;> omega)]))
  have b0c0 : w1.cell? ⟨w.heap.size, 0, none⟩ = some (.slice av nv cv) := by simp [World.cell?, hb_0]
  have b0f0 : w1.frozen? ⟨w.heap.size, 0, none⟩ = false := by simp [World.frozen?, hb_0]
  have b0c1 : w1.cell? ⟨w.heap.size, 1, none⟩ = some (.slice af nf cf) := by simp [World.cell?, hb_0]
  have b0f1 : w1.frozen? ⟨w.heap.size, 1, none⟩ = false := by simp [World.frozen?, hb_0]
  have BX0 := Lib.hid hb_0
  clear hb_0
  have lt1 : w.heap.size + 1 < w1.heap.size := by omega
  have hb_1 : w1.heap[w.heap.size + 1]? = some (.cells #[.int .i64 q] 3 (0, 0)) := heap_keep hb1 (by repeat (first | (refine heap_new ?_; first | rfl | (simp; done)) | rw [Below.heap_setCell _ _ _ _ (by simp <;> omega)] | rw [Below.heap_alloc _ _ _ (by simp <;> omega)]))
  have b1c0 : w1.cell? ⟨w.heap.size + 1, 0, none⟩ = some (.int .i64 q) := by simp [World.cell?, hb_1]
  have b1f0 : w1.frozen? ⟨w.heap.size + 1, 0, none⟩ = false := by simp [World.frozen?, hb_1]
  have BX1 := Lib.hid hb_1
  clear hb_1
  have lt2 : w.heap.size + 1 + 1 < w1.heap.size := by omega
  have hb_2 : w1.heap[w.heap.size + 1 + 1]? = some (.cells #[.slice none 0 0, .slice none 0 0] 29 (0, 0)) := heap_keep hb1 (by repeat (first | (refine heap_new ?_; first | rfl | (simp; done)) | rw [Below.heap_setCell _ _ _ _ (by simp <;> omega)] | rw [Below.heap_alloc _ _ _ (by simp <;> omega)]))
  have b2c0 : w1.cell? ⟨w.heap.size + 1 + 1, 0, none⟩ = some (.slice none 0 0) := by simp [World.cell?, hb_2]
  have b2f0 : w1.frozen? ⟨w.heap.size + 1 + 1, 0, none⟩ = false := by simp [World.frozen?, hb_2]
  have b2c1 : w1.cell? ⟨w.heap.size + 1 + 1, 1, none⟩ = some (.slice none 0 0) := by simp [World.cell?, hb_2]
  have b2f1 : w1.frozen? ⟨w.heap.size + 1 + 1, 1, none⟩ = false := by simp [World.frozen?, hb_2]
  have BX2 := Lib.hid hb_2
  clear hb_2
  have HB := Lib.hid B1
  clear hb1 B1
  have e0 : (fault nv V nf F != 0) = false := by simp [h0]
  clear h0
  have hfn := fun w => eq_q1 w
  have hq' : q < 0 ∨ 3 < q := by simp [inB] at hq; omega
  clear hq
  by_cases hq0 : q < 0
  · clear hq'
    go_wp2_with (go_at_call 49; refine (qat0 _).mono ?_; rintro e w' ⟨rfl, rfl⟩)
    exact bodyPost_ret (v := .tuple #[.agg #[.slice none 0 0, .slice none 0 0], .int .i64 1]) (by simp [results, Try.results9, go_sem, b2c0, b2c1, lt2]) rfl (meshR_no rfl (by first | assumption | decide) (by repeat (first | exact Below.refl _ _ | assumption | refine Below.drew ?_ | refine bdrewN ?_ _ | refine Below.setCell ?_ (by first | omega | (simp <;> omega)) _ | refine Below.alloc ?_ (by first | omega | (simp <;> omega)) _)))
  · have hq1 : 3 < q := by omega
    clear hq'
    go_wp2_with (go_at_call 49; refine (qat0 _).mono ?_; rintro e w' ⟨rfl, rfl⟩)
    exact bodyPost_ret (v := .tuple #[.agg #[.slice none 0 0, .slice none 0 0], .int .i64 1]) (by simp [results, Try.results9, go_sem, b2c0, b2c1, lt2]) rfl (meshR_no rfl (by first | assumption | decide) (by repeat (first | exact Below.refl _ _ | assumption | refine Below.drew ?_ | refine bdrewN ?_ _ | refine Below.setCell ?_ (by first | omega | (simp <;> omega)) _ | refine Below.alloc ?_ (by first | omega | (simp <;> omega)) _)))
set_option maxRecDepth 100000 in
set_option maxHeartbeats 4000000 in
theorem turned_0 (av af : Option Addr) (nv cv nf cf : Nat) (V F : Nat → V3) (n : Nat) (w : World) (hv : Row3 w av nv V) (hf : Row3 w af nf F) (hnv : nv ≤ 1000000) (hnf : nf ≤ 1000000) (h0 : fault nv V nf F = 0) (hn : n ≤ 3) :
    Calls Try.prog 9 #[.agg #[.slice av nv cv, .slice af nf cf], .int .i64 0, .int .i64 n] w (MeshR w (fault nv (fun i => qn 0 n (V i)) nf F) nv (fun i => qn 0 n (V i)) nf F) := by
  have HV := Lib.hid hv
  have HF := Lib.hid hf
  clear hv hf
  go_enter Try.func9, Try.ntmps9
  go_wp2_with (fail)
  refine (checkMesh_any av af nv cv nf cf V F _ (HV.out.kept (by repeat (first | exact Below.refl _ _ | assumption | refine Below.drew ?_ | refine bdrewN ?_ _ | refine Below.setCell ?_ (by first | omega | (simp <;> omega)) _ | refine Below.alloc ?_ (by first | omega | (simp <;> omega)) _))) (HF.out.kept (by repeat (first | exact Below.refl _ _ | assumption | refine Below.drew ?_ | refine bdrewN ?_ _ | refine Below.setCell ?_ (by first | omega | (simp <;> omega)) _ | refine Below.alloc ?_ (by first | omega | (simp <;> omega)) _))) hnv hnf).mono ?_
  rintro e w1 ⟨rfl, hb1⟩
  have z1 : w.heap.size + 1 + 1 + 1 ≤ w1.heap.size := by have := hb1.size; simpa using this
  have B1 : Below w.heap.size w w1 := Below.trans (by repeat (first | exact Below.refl _ _ | assumption | refine Below.drew ?_ | refine bdrewN ?_ _ | refine Below.setCell ?_ (by first | omega | (simp <;> omega)) _ | refine Below.alloc ?_ (by first | omega | (simp <;> omega)) _)) (hb1.mono (by simp <;> omega))
  have lt0 : w.heap.size < w1.heap.size := by omega
  have hb_0 : w1.heap[w.heap.size]? = some (.cells #[.slice av nv cv, .slice af nf cf] 29 (0, 0)) := heap_keep hb1 (by repeat (first | (refine heap_new ?_; first | rfl | (simp; done)) | rw [Below.heap_setCell _ _ _ _ (by simp <;> omega)] | rw [Below.heap_alloc _ _ _ (by simp <;> omega)]))
  have b0c0 : w1.cell? ⟨w.heap.size, 0, none⟩ = some (.slice av nv cv) := by simp [World.cell?, hb_0]
  have b0f0 : w1.frozen? ⟨w.heap.size, 0, none⟩ = false := by simp [World.frozen?, hb_0]
  have b0c1 : w1.cell? ⟨w.heap.size, 1, none⟩ = some (.slice af nf cf) := by simp [World.cell?, hb_0]
  have b0f1 : w1.frozen? ⟨w.heap.size, 1, none⟩ = false := by simp [World.frozen?, hb_0]
  have BX0 := Lib.hid hb_0
  clear hb_0
  have lt1 : w.heap.size + 1 < w1.heap.size := by omega
  have hb_1 : w1.heap[w.heap.size + 1]? = some (.cells #[.int .i64 n] 3 (0, 0)) := heap_keep hb1 (by repeat (first | (refine heap_new ?_; first | rfl | (simp; done)) | rw [Below.heap_setCell _ _ _ _ (by simp <;> omega)] | rw [Below.heap_alloc _ _ _ (by simp <;> omega)]))
  have b1c0 : w1.cell? ⟨w.heap.size + 1, 0, none⟩ = some (.int .i64 n) := by simp [World.cell?, hb_1]
  have b1f0 : w1.frozen? ⟨w.heap.size + 1, 0, none⟩ = false := by simp [World.frozen?, hb_1]
  have BX1 := Lib.hid hb_1
  clear hb_1
  have lt2 : w.heap.size + 1 + 1 < w1.heap.size := by omega
  have hb_2 : w1.heap[w.heap.size + 1 + 1]? = some (.cells #[.slice none 0 0, .slice none 0 0] 29 (0, 0)) := heap_keep hb1 (by repeat (first | (refine heap_new ?_; first | rfl | (simp; done)) | rw [Below.heap_setCell _ _ _ _ (by simp <;> omega)] | rw [Below.heap_alloc _ _ _ (by simp <;> omega)]))
  have b2c0 : w1.cell? ⟨w.heap.size + 1 + 1, 0, none⟩ = some (.slice none 0 0) := by simp [World.cell?, hb_2]
  have b2f0 : w1.frozen? ⟨w.heap.size + 1 + 1, 0, none⟩ = false := by simp [World.frozen?, hb_2]
  have b2c1 : w1.cell? ⟨w.heap.size + 1 + 1, 1, none⟩ = some (.slice none 0 0) := by simp [World.cell?, hb_2]
  have b2f1 : w1.frozen? ⟨w.heap.size + 1 + 1, 1, none⟩ = false := by simp [World.frozen?, hb_2]
  have BX2 := Lib.hid hb_2
  clear hb_2
  have HB := Lib.hid B1
  clear hb1 B1
  have e0 : (fault nv V nf F != 0) = false := by simp [h0]
  clear h0
  have hfn := fun w => eq_q1 w
  go_wp2_with (first | (go_at_call 49; refine (qat0 _).mono ?_; rintro e w' ⟨rfl, rfl⟩) | fail)
  refine (placed_T (w.heap.size + 1) w1.heap.size (fun i => qn 0 n (V i)) av af nv cv nf cf V F _ (HV.out.kept (Below.trans HB.out (Below.mono (B := w1.heap.size) (by repeat (first | exact Below.refl _ _ | assumption | refine Below.drew ?_ | refine bdrewN ?_ _ | refine Below.setCell ?_ (by first | omega | (simp <;> omega)) _ | refine Below.alloc ?_ (by first | omega | (simp <;> omega)) _)) HB.out.size))) (HF.out.kept (Below.trans HB.out (Below.mono (B := w1.heap.size) (by repeat (first | exact Below.refl _ _ | assumption | refine Below.drew ?_ | refine bdrewN ?_ _ | refine Below.setCell ?_ (by first | omega | (simp <;> omega)) _ | refine Below.alloc ?_ (by first | omega | (simp <;> omega)) _)) HB.out.size))) hnv hnf (fun W hb k hk => turnA0 (V k).x (V k).y (V k).z n (w.heap.size + 1) w1.heap.size W (by omega) (cellk hb (by first | omega | (simp; omega)) (by first | exact b1c0 | simp [go_sem, b1c0, lt1] | (rw [World.cell?_alloc_old _ _ _ lt1]; exact b1c0))) (cellk hb (by simp) (by simp [go_sem])) (by have := hb.size; simp at this; omega) (by have := hb.size; simp at this; omega))).mono ?_
  · rintro e w2 ⟨a2, c2, a3, c3, rfl, ho2, ho3, hb2⟩

    have HO2 := Lib.hid ho2
    have HO3 := Lib.hid ho3
    have HB2 := Lib.hid hb2
    clear ho2 ho3 hb2
    go_wp2_with (fail)
    refine (checked_any a2 a3 nv c2 nf c3 (fun i => qn 0 n (V i)) F _ (own_row3 HO2.out) (own_row3 HO3.out) hnv hnf).mono ?_
    rintro e w3 ⟨rfl, hb3⟩
    have hr := heap_keep hb3 (heap_keep HB2.out ((Below.heap_alloc w1 _ _ lt2).trans BX2.out))
    have hlr := lt_of_heap hr
    have rc0 : w3.cell? ⟨w.heap.size + 1 + 1, 0, none⟩ = some (.slice none 0 0) := (by simp [World.cell?, hr]); have rf0 : w3.frozen? ⟨w.heap.size + 1 + 1, 0, none⟩ = false := (by simp [World.frozen?, hr]); have rc1 : w3.cell? ⟨w.heap.size + 1 + 1, 1, none⟩ = some (.slice none 0 0) := (by simp [World.cell?, hr]); have rf1 : w3.frozen? ⟨w.heap.size + 1 + 1, 1, none⟩ = false := (by simp [World.frozen?, hr])
    have HR7 := Lib.hid hr
    generalize hE : fault nv (fun i => qn 0 n (V i)) nf F = E
    have R := Lib.hid ((((HB.out.alloc HB.out.size (.cells #[.func (.func 96) #[] #[]] 80)).trans (HB2.out.mono (HB.out.alloc HB.out.size (.cells #[.func (.func 96) #[] #[]] 80)).size)).trans (hb3.mono (Nat.le_trans (HB.out.alloc HB.out.size (.cells #[.func (.func 96) #[] #[]] 80)).size HB2.out.size))).setCell (p := ⟨w.heap.size + 1 + 1, 0, none⟩) (by show _ ≤ w.heap.size + 1 + 1; omega) (.slice (za E a2) (zr E nv) (zr E c2)) |>.setCell (p := ⟨w.heap.size + 1 + 1, 1, none⟩) (by show _ ≤ w.heap.size + 1 + 1; omega) (.slice (za E a3) (zr E nf) (zr E c3)))
    have P1 := Lib.hid (own_set (o := 1) (u := .slice (za E a3) (zr E nf) (zr E c3)) (own_set (o := 0) (u := .slice (za E a2) (zr E nv) (zr E c2)) (ownsRow_below HO2.out hb3) HR7.out (by decide)) (set2_0 HR7.out) (by decide))
    have P2 := Lib.hid (own_set (o := 1) (u := .slice (za E a3) (zr E nf) (zr E c3)) (own_set (o := 0) (u := .slice (za E a2) (zr E nv) (zr E c2)) (ownsRow_below HO3.out hb3) HR7.out (by decide)) (set2_0 HR7.out) (by decide))
    have HE := Lib.hid hE
    clear hE hr hb3
    have hzz : w.heap.size ≤ w1.heap.size := HB.out.size
    go_wp2
    exact bodyPost_ret (v := .tuple #[.agg #[.slice (za E a2) (zr E nv) (zr E c2), .slice (za E a3) (zr E nf) (zr E c3)], .int .i64 E]) (by simp [results, Try.results9, go_sem, rc0, rc1]) rfl (MeshR.from (meshR_of P1.out P2.out (by first | omega | (simp; omega)) (by first | omega | (simp; omega)) R.out) (Below.refl _ _) HE.out.symm)

set_option maxRecDepth 100000 in
set_option maxHeartbeats 4000000 in
theorem turned_q1 (av af : Option Addr) (nv cv nf cf : Nat) (V F : Nat → V3) (q : Int) (w : World) (hv : Row3 w av nv V) (hf : Row3 w af nf F) (hnv : nv ≤ 1000000) (hnf : nf ≤ 1000000) (h0 : fault nv V nf F = 0) (hq : inB q 0 3 = false) (G K : Nat → V3) :
    Calls Try.prog 9 #[.agg #[.slice av nv cv, .slice af nf cf], .int .i64 1, .int .i64 q] w (MeshR w 1 nv G nf K) := by
  have HV := Lib.hid hv
  have HF := Lib.hid hf
  clear hv hf
  go_enter Try.func9, Try.ntmps9
  go_wp2_with (fail)
  refine (checkMesh_any av af nv cv nf cf V F _ (HV.out.kept (by repeat (first | exact Below.refl _ _ | assumption | refine Below.drew ?_ | refine bdrewN ?_ _ | refine Below.setCell ?_ (by first | omega | (simp <;> omega)) _ | refine Below.alloc ?_ (by first | omega | (simp <;> omega)) _))) (HF.out.kept (by repeat (first | exact Below.refl _ _ | assumption | refine Below.drew ?_ | refine bdrewN ?_ _ | refine Below.setCell ?_ (by first | omega | (simp <;> omega)) _ | refine Below.alloc ?_ (by first | omega | (simp <;> omega)) _))) hnv hnf).mono ?_
  rintro e w1 ⟨rfl, hb1⟩
  have z1 : w.heap.size + 1 + 1 + 1 ≤ w1.heap.size := by have := hb1.size; simpa using this
  have B1 : Below w.heap.size w w1 := Below.trans (by repeat (first | exact Below.refl _ _ | assumption | refine Below.drew ?_ | refine bdrewN ?_ _ | refine Below.setCell ?_ (by first | omega | (simp <;> omega)) _ | refine Below.alloc ?_ (by first | omega | (simp <;> omega)) _)) (hb1.mono (by simp <;> omega))
  have lt0 : w.heap.size < w1.heap.size := by omega
  have hb_0 : w1.heap[w.heap.size]? = some (.cells #[.slice av nv cv, .slice af nf cf] 29 (0, 0)) := heap_keep hb1 (by repeat (first | (refine heap_new ?_; first | rfl | (simp; done)) | rw [Below.heap_setCell _ _ _ _ (by simp <;> omega)] | rw [Below.heap_alloc _ _ _ (by simp <;> omega)]))
  have b0c0 : w1.cell? ⟨w.heap.size, 0, none⟩ = some (.slice av nv cv) := by simp [World.cell?, hb_0]
  have b0f0 : w1.frozen? ⟨w.heap.size, 0, none⟩ = false := by simp [World.frozen?, hb_0]
  have b0c1 : w1.cell? ⟨w.heap.size, 1, none⟩ = some (.slice af nf cf) := by simp [World.cell?, hb_0]
  have b0f1 : w1.frozen? ⟨w.heap.size, 1, none⟩ = false := by simp [World.frozen?, hb_0]
  have BX0 := Lib.hid hb_0
  clear hb_0
  have lt1 : w.heap.size + 1 < w1.heap.size := by omega
  have hb_1 : w1.heap[w.heap.size + 1]? = some (.cells #[.int .i64 q] 3 (0, 0)) := heap_keep hb1 (by repeat (first | (refine heap_new ?_; first | rfl | (simp; done)) | rw [Below.heap_setCell _ _ _ _ (by simp <;> omega)] | rw [Below.heap_alloc _ _ _ (by simp <;> omega)]))
  have b1c0 : w1.cell? ⟨w.heap.size + 1, 0, none⟩ = some (.int .i64 q) := by simp [World.cell?, hb_1]
  have b1f0 : w1.frozen? ⟨w.heap.size + 1, 0, none⟩ = false := by simp [World.frozen?, hb_1]
  have BX1 := Lib.hid hb_1
  clear hb_1
  have lt2 : w.heap.size + 1 + 1 < w1.heap.size := by omega
  have hb_2 : w1.heap[w.heap.size + 1 + 1]? = some (.cells #[.slice none 0 0, .slice none 0 0] 29 (0, 0)) := heap_keep hb1 (by repeat (first | (refine heap_new ?_; first | rfl | (simp; done)) | rw [Below.heap_setCell _ _ _ _ (by simp <;> omega)] | rw [Below.heap_alloc _ _ _ (by simp <;> omega)]))
  have b2c0 : w1.cell? ⟨w.heap.size + 1 + 1, 0, none⟩ = some (.slice none 0 0) := by simp [World.cell?, hb_2]
  have b2f0 : w1.frozen? ⟨w.heap.size + 1 + 1, 0, none⟩ = false := by simp [World.frozen?, hb_2]
  have b2c1 : w1.cell? ⟨w.heap.size + 1 + 1, 1, none⟩ = some (.slice none 0 0) := by simp [World.cell?, hb_2]
  have b2f1 : w1.frozen? ⟨w.heap.size + 1 + 1, 1, none⟩ = false := by simp [World.frozen?, hb_2]
  have BX2 := Lib.hid hb_2
  clear hb_2
  have HB := Lib.hid B1
  clear hb1 B1
  have e0 : (fault nv V nf F != 0) = false := by simp [h0]
  clear h0
  have hfn := fun w => eq_q2 w
  have hq' : q < 0 ∨ 3 < q := by simp [inB] at hq; omega
  clear hq
  by_cases hq0 : q < 0
  · clear hq'
    go_wp2_with (go_at_call 49; refine (qat1 _).mono ?_; rintro e w' ⟨rfl, rfl⟩)
    exact bodyPost_ret (v := .tuple #[.agg #[.slice none 0 0, .slice none 0 0], .int .i64 1]) (by simp [results, Try.results9, go_sem, b2c0, b2c1, lt2]) rfl (meshR_no rfl (by first | assumption | decide) (by repeat (first | exact Below.refl _ _ | assumption | refine Below.drew ?_ | refine bdrewN ?_ _ | refine Below.setCell ?_ (by first | omega | (simp <;> omega)) _ | refine Below.alloc ?_ (by first | omega | (simp <;> omega)) _)))
  · have hq1 : 3 < q := by omega
    clear hq'
    go_wp2_with (go_at_call 49; refine (qat1 _).mono ?_; rintro e w' ⟨rfl, rfl⟩)
    exact bodyPost_ret (v := .tuple #[.agg #[.slice none 0 0, .slice none 0 0], .int .i64 1]) (by simp [results, Try.results9, go_sem, b2c0, b2c1, lt2]) rfl (meshR_no rfl (by first | assumption | decide) (by repeat (first | exact Below.refl _ _ | assumption | refine Below.drew ?_ | refine bdrewN ?_ _ | refine Below.setCell ?_ (by first | omega | (simp <;> omega)) _ | refine Below.alloc ?_ (by first | omega | (simp <;> omega)) _)))
set_option maxRecDepth 100000 in
set_option maxHeartbeats 4000000 in
theorem turned_1 (av af : Option Addr) (nv cv nf cf : Nat) (V F : Nat → V3) (n : Nat) (w : World) (hv : Row3 w av nv V) (hf : Row3 w af nf F) (hnv : nv ≤ 1000000) (hnf : nf ≤ 1000000) (h0 : fault nv V nf F = 0) (hn : n ≤ 3) :
    Calls Try.prog 9 #[.agg #[.slice av nv cv, .slice af nf cf], .int .i64 1, .int .i64 n] w (MeshR w (fault nv (fun i => qn 1 n (V i)) nf F) nv (fun i => qn 1 n (V i)) nf F) := by
  have HV := Lib.hid hv
  have HF := Lib.hid hf
  clear hv hf
  go_enter Try.func9, Try.ntmps9
  go_wp2_with (fail)
  refine (checkMesh_any av af nv cv nf cf V F _ (HV.out.kept (by repeat (first | exact Below.refl _ _ | assumption | refine Below.drew ?_ | refine bdrewN ?_ _ | refine Below.setCell ?_ (by first | omega | (simp <;> omega)) _ | refine Below.alloc ?_ (by first | omega | (simp <;> omega)) _))) (HF.out.kept (by repeat (first | exact Below.refl _ _ | assumption | refine Below.drew ?_ | refine bdrewN ?_ _ | refine Below.setCell ?_ (by first | omega | (simp <;> omega)) _ | refine Below.alloc ?_ (by first | omega | (simp <;> omega)) _))) hnv hnf).mono ?_
  rintro e w1 ⟨rfl, hb1⟩
  have z1 : w.heap.size + 1 + 1 + 1 ≤ w1.heap.size := by have := hb1.size; simpa using this
  have B1 : Below w.heap.size w w1 := Below.trans (by repeat (first | exact Below.refl _ _ | assumption | refine Below.drew ?_ | refine bdrewN ?_ _ | refine Below.setCell ?_ (by first | omega | (simp <;> omega)) _ | refine Below.alloc ?_ (by first | omega | (simp <;> omega)) _)) (hb1.mono (by simp <;> omega))
  have lt0 : w.heap.size < w1.heap.size := by omega
  have hb_0 : w1.heap[w.heap.size]? = some (.cells #[.slice av nv cv, .slice af nf cf] 29 (0, 0)) := heap_keep hb1 (by repeat (first | (refine heap_new ?_; first | rfl | (simp; done)) | rw [Below.heap_setCell _ _ _ _ (by simp <;> omega)] | rw [Below.heap_alloc _ _ _ (by simp <;> omega)]))
  have b0c0 : w1.cell? ⟨w.heap.size, 0, none⟩ = some (.slice av nv cv) := by simp [World.cell?, hb_0]
  have b0f0 : w1.frozen? ⟨w.heap.size, 0, none⟩ = false := by simp [World.frozen?, hb_0]
  have b0c1 : w1.cell? ⟨w.heap.size, 1, none⟩ = some (.slice af nf cf) := by simp [World.cell?, hb_0]
  have b0f1 : w1.frozen? ⟨w.heap.size, 1, none⟩ = false := by simp [World.frozen?, hb_0]
  have BX0 := Lib.hid hb_0
  clear hb_0
  have lt1 : w.heap.size + 1 < w1.heap.size := by omega
  have hb_1 : w1.heap[w.heap.size + 1]? = some (.cells #[.int .i64 n] 3 (0, 0)) := heap_keep hb1 (by repeat (first | (refine heap_new ?_; first | rfl | (simp; done)) | rw [Below.heap_setCell _ _ _ _ (by simp <;> omega)] | rw [Below.heap_alloc _ _ _ (by simp <;> omega)]))
  have b1c0 : w1.cell? ⟨w.heap.size + 1, 0, none⟩ = some (.int .i64 n) := by simp [World.cell?, hb_1]
  have b1f0 : w1.frozen? ⟨w.heap.size + 1, 0, none⟩ = false := by simp [World.frozen?, hb_1]
  have BX1 := Lib.hid hb_1
  clear hb_1
  have lt2 : w.heap.size + 1 + 1 < w1.heap.size := by omega
  have hb_2 : w1.heap[w.heap.size + 1 + 1]? = some (.cells #[.slice none 0 0, .slice none 0 0] 29 (0, 0)) := heap_keep hb1 (by repeat (first | (refine heap_new ?_; first | rfl | (simp; done)) | rw [Below.heap_setCell _ _ _ _ (by simp <;> omega)] | rw [Below.heap_alloc _ _ _ (by simp <;> omega)]))
  have b2c0 : w1.cell? ⟨w.heap.size + 1 + 1, 0, none⟩ = some (.slice none 0 0) := by simp [World.cell?, hb_2]
  have b2f0 : w1.frozen? ⟨w.heap.size + 1 + 1, 0, none⟩ = false := by simp [World.frozen?, hb_2]
  have b2c1 : w1.cell? ⟨w.heap.size + 1 + 1, 1, none⟩ = some (.slice none 0 0) := by simp [World.cell?, hb_2]
  have b2f1 : w1.frozen? ⟨w.heap.size + 1 + 1, 1, none⟩ = false := by simp [World.frozen?, hb_2]
  have BX2 := Lib.hid hb_2
  clear hb_2
  have HB := Lib.hid B1
  clear hb1 B1
  have e0 : (fault nv V nf F != 0) = false := by simp [h0]
  clear h0
  have hfn := fun w => eq_q2 w
  go_wp2_with (first | (go_at_call 49; refine (qat1 _).mono ?_; rintro e w' ⟨rfl, rfl⟩) | fail)
  refine (placed_T (w.heap.size + 1) w1.heap.size (fun i => qn 1 n (V i)) av af nv cv nf cf V F _ (HV.out.kept (Below.trans HB.out (Below.mono (B := w1.heap.size) (by repeat (first | exact Below.refl _ _ | assumption | refine Below.drew ?_ | refine bdrewN ?_ _ | refine Below.setCell ?_ (by first | omega | (simp <;> omega)) _ | refine Below.alloc ?_ (by first | omega | (simp <;> omega)) _)) HB.out.size))) (HF.out.kept (Below.trans HB.out (Below.mono (B := w1.heap.size) (by repeat (first | exact Below.refl _ _ | assumption | refine Below.drew ?_ | refine bdrewN ?_ _ | refine Below.setCell ?_ (by first | omega | (simp <;> omega)) _ | refine Below.alloc ?_ (by first | omega | (simp <;> omega)) _)) HB.out.size))) hnv hnf (fun W hb k hk => turnA1 (V k).x (V k).y (V k).z n (w.heap.size + 1) w1.heap.size W (by omega) (cellk hb (by first | omega | (simp; omega)) (by first | exact b1c0 | simp [go_sem, b1c0, lt1] | (rw [World.cell?_alloc_old _ _ _ lt1]; exact b1c0))) (cellk hb (by simp) (by simp [go_sem])) (by have := hb.size; simp at this; omega) (by have := hb.size; simp at this; omega))).mono ?_
  · rintro e w2 ⟨a2, c2, a3, c3, rfl, ho2, ho3, hb2⟩

    have HO2 := Lib.hid ho2
    have HO3 := Lib.hid ho3
    have HB2 := Lib.hid hb2
    clear ho2 ho3 hb2
    go_wp2_with (fail)
    refine (checked_any a2 a3 nv c2 nf c3 (fun i => qn 1 n (V i)) F _ (own_row3 HO2.out) (own_row3 HO3.out) hnv hnf).mono ?_
    rintro e w3 ⟨rfl, hb3⟩
    have hr := heap_keep hb3 (heap_keep HB2.out ((Below.heap_alloc w1 _ _ lt2).trans BX2.out))
    have hlr := lt_of_heap hr
    have rc0 : w3.cell? ⟨w.heap.size + 1 + 1, 0, none⟩ = some (.slice none 0 0) := (by simp [World.cell?, hr]); have rf0 : w3.frozen? ⟨w.heap.size + 1 + 1, 0, none⟩ = false := (by simp [World.frozen?, hr]); have rc1 : w3.cell? ⟨w.heap.size + 1 + 1, 1, none⟩ = some (.slice none 0 0) := (by simp [World.cell?, hr]); have rf1 : w3.frozen? ⟨w.heap.size + 1 + 1, 1, none⟩ = false := (by simp [World.frozen?, hr])
    have HR7 := Lib.hid hr
    generalize hE : fault nv (fun i => qn 1 n (V i)) nf F = E
    have R := Lib.hid ((((HB.out.alloc HB.out.size (.cells #[.func (.func 97) #[] #[]] 80)).trans (HB2.out.mono (HB.out.alloc HB.out.size (.cells #[.func (.func 97) #[] #[]] 80)).size)).trans (hb3.mono (Nat.le_trans (HB.out.alloc HB.out.size (.cells #[.func (.func 97) #[] #[]] 80)).size HB2.out.size))).setCell (p := ⟨w.heap.size + 1 + 1, 0, none⟩) (by show _ ≤ w.heap.size + 1 + 1; omega) (.slice (za E a2) (zr E nv) (zr E c2)) |>.setCell (p := ⟨w.heap.size + 1 + 1, 1, none⟩) (by show _ ≤ w.heap.size + 1 + 1; omega) (.slice (za E a3) (zr E nf) (zr E c3)))
    have P1 := Lib.hid (own_set (o := 1) (u := .slice (za E a3) (zr E nf) (zr E c3)) (own_set (o := 0) (u := .slice (za E a2) (zr E nv) (zr E c2)) (ownsRow_below HO2.out hb3) HR7.out (by decide)) (set2_0 HR7.out) (by decide))
    have P2 := Lib.hid (own_set (o := 1) (u := .slice (za E a3) (zr E nf) (zr E c3)) (own_set (o := 0) (u := .slice (za E a2) (zr E nv) (zr E c2)) (ownsRow_below HO3.out hb3) HR7.out (by decide)) (set2_0 HR7.out) (by decide))
    have HE := Lib.hid hE
    clear hE hr hb3
    have hzz : w.heap.size ≤ w1.heap.size := HB.out.size
    go_wp2
    exact bodyPost_ret (v := .tuple #[.agg #[.slice (za E a2) (zr E nv) (zr E c2), .slice (za E a3) (zr E nf) (zr E c3)], .int .i64 E]) (by simp [results, Try.results9, go_sem, rc0, rc1]) rfl (MeshR.from (meshR_of P1.out P2.out (by first | omega | (simp; omega)) (by first | omega | (simp; omega)) R.out) (Below.refl _ _) HE.out.symm)

set_option maxRecDepth 100000 in
set_option maxHeartbeats 4000000 in
theorem turned_q2 (av af : Option Addr) (nv cv nf cf : Nat) (V F : Nat → V3) (q : Int) (w : World) (hv : Row3 w av nv V) (hf : Row3 w af nf F) (hnv : nv ≤ 1000000) (hnf : nf ≤ 1000000) (h0 : fault nv V nf F = 0) (hq : inB q 0 3 = false) (G K : Nat → V3) :
    Calls Try.prog 9 #[.agg #[.slice av nv cv, .slice af nf cf], .int .i64 2, .int .i64 q] w (MeshR w 1 nv G nf K) := by
  have HV := Lib.hid hv
  have HF := Lib.hid hf
  clear hv hf
  go_enter Try.func9, Try.ntmps9
  go_wp2_with (fail)
  refine (checkMesh_any av af nv cv nf cf V F _ (HV.out.kept (by repeat (first | exact Below.refl _ _ | assumption | refine Below.drew ?_ | refine bdrewN ?_ _ | refine Below.setCell ?_ (by first | omega | (simp <;> omega)) _ | refine Below.alloc ?_ (by first | omega | (simp <;> omega)) _))) (HF.out.kept (by repeat (first | exact Below.refl _ _ | assumption | refine Below.drew ?_ | refine bdrewN ?_ _ | refine Below.setCell ?_ (by first | omega | (simp <;> omega)) _ | refine Below.alloc ?_ (by first | omega | (simp <;> omega)) _))) hnv hnf).mono ?_
  rintro e w1 ⟨rfl, hb1⟩
  have z1 : w.heap.size + 1 + 1 + 1 ≤ w1.heap.size := by have := hb1.size; simpa using this
  have B1 : Below w.heap.size w w1 := Below.trans (by repeat (first | exact Below.refl _ _ | assumption | refine Below.drew ?_ | refine bdrewN ?_ _ | refine Below.setCell ?_ (by first | omega | (simp <;> omega)) _ | refine Below.alloc ?_ (by first | omega | (simp <;> omega)) _)) (hb1.mono (by simp <;> omega))
  have lt0 : w.heap.size < w1.heap.size := by omega
  have hb_0 : w1.heap[w.heap.size]? = some (.cells #[.slice av nv cv, .slice af nf cf] 29 (0, 0)) := heap_keep hb1 (by repeat (first | (refine heap_new ?_; first | rfl | (simp; done)) | rw [Below.heap_setCell _ _ _ _ (by simp <;> omega)] | rw [Below.heap_alloc _ _ _ (by simp <;> omega)]))
  have b0c0 : w1.cell? ⟨w.heap.size, 0, none⟩ = some (.slice av nv cv) := by simp [World.cell?, hb_0]
  have b0f0 : w1.frozen? ⟨w.heap.size, 0, none⟩ = false := by simp [World.frozen?, hb_0]
  have b0c1 : w1.cell? ⟨w.heap.size, 1, none⟩ = some (.slice af nf cf) := by simp [World.cell?, hb_0]
  have b0f1 : w1.frozen? ⟨w.heap.size, 1, none⟩ = false := by simp [World.frozen?, hb_0]
  have BX0 := Lib.hid hb_0
  clear hb_0
  have lt1 : w.heap.size + 1 < w1.heap.size := by omega
  have hb_1 : w1.heap[w.heap.size + 1]? = some (.cells #[.int .i64 q] 3 (0, 0)) := heap_keep hb1 (by repeat (first | (refine heap_new ?_; first | rfl | (simp; done)) | rw [Below.heap_setCell _ _ _ _ (by simp <;> omega)] | rw [Below.heap_alloc _ _ _ (by simp <;> omega)]))
  have b1c0 : w1.cell? ⟨w.heap.size + 1, 0, none⟩ = some (.int .i64 q) := by simp [World.cell?, hb_1]
  have b1f0 : w1.frozen? ⟨w.heap.size + 1, 0, none⟩ = false := by simp [World.frozen?, hb_1]
  have BX1 := Lib.hid hb_1
  clear hb_1
  have lt2 : w.heap.size + 1 + 1 < w1.heap.size := by omega
  have hb_2 : w1.heap[w.heap.size + 1 + 1]? = some (.cells #[.slice none 0 0, .slice none 0 0] 29 (0, 0)) := heap_keep hb1 (by repeat (first | (refine heap_new ?_; first | rfl | (simp; done)) | rw [Below.heap_setCell _ _ _ _ (by simp <;> omega)] | rw [Below.heap_alloc _ _ _ (by simp <;> omega)]))
  have b2c0 : w1.cell? ⟨w.heap.size + 1 + 1, 0, none⟩ = some (.slice none 0 0) := by simp [World.cell?, hb_2]
  have b2f0 : w1.frozen? ⟨w.heap.size + 1 + 1, 0, none⟩ = false := by simp [World.frozen?, hb_2]
  have b2c1 : w1.cell? ⟨w.heap.size + 1 + 1, 1, none⟩ = some (.slice none 0 0) := by simp [World.cell?, hb_2]
  have b2f1 : w1.frozen? ⟨w.heap.size + 1 + 1, 1, none⟩ = false := by simp [World.frozen?, hb_2]
  have BX2 := Lib.hid hb_2
  clear hb_2
  have HB := Lib.hid B1
  clear hb1 B1
  have e0 : (fault nv V nf F != 0) = false := by simp [h0]
  clear h0
  have hfn := fun w => eq_q3 w
  have hq' : q < 0 ∨ 3 < q := by simp [inB] at hq; omega
  clear hq
  by_cases hq0 : q < 0
  · clear hq'
    go_wp2_with (go_at_call 49; refine (qat2 _).mono ?_; rintro e w' ⟨rfl, rfl⟩)
    exact bodyPost_ret (v := .tuple #[.agg #[.slice none 0 0, .slice none 0 0], .int .i64 1]) (by simp [results, Try.results9, go_sem, b2c0, b2c1, lt2]) rfl (meshR_no rfl (by first | assumption | decide) (by repeat (first | exact Below.refl _ _ | assumption | refine Below.drew ?_ | refine bdrewN ?_ _ | refine Below.setCell ?_ (by first | omega | (simp <;> omega)) _ | refine Below.alloc ?_ (by first | omega | (simp <;> omega)) _)))
  · have hq1 : 3 < q := by omega
    clear hq'
    go_wp2_with (go_at_call 49; refine (qat2 _).mono ?_; rintro e w' ⟨rfl, rfl⟩)
    exact bodyPost_ret (v := .tuple #[.agg #[.slice none 0 0, .slice none 0 0], .int .i64 1]) (by simp [results, Try.results9, go_sem, b2c0, b2c1, lt2]) rfl (meshR_no rfl (by first | assumption | decide) (by repeat (first | exact Below.refl _ _ | assumption | refine Below.drew ?_ | refine bdrewN ?_ _ | refine Below.setCell ?_ (by first | omega | (simp <;> omega)) _ | refine Below.alloc ?_ (by first | omega | (simp <;> omega)) _)))
set_option maxRecDepth 100000 in
set_option maxHeartbeats 4000000 in
theorem turned_2 (av af : Option Addr) (nv cv nf cf : Nat) (V F : Nat → V3) (n : Nat) (w : World) (hv : Row3 w av nv V) (hf : Row3 w af nf F) (hnv : nv ≤ 1000000) (hnf : nf ≤ 1000000) (h0 : fault nv V nf F = 0) (hn : n ≤ 3) :
    Calls Try.prog 9 #[.agg #[.slice av nv cv, .slice af nf cf], .int .i64 2, .int .i64 n] w (MeshR w (fault nv (fun i => qn 2 n (V i)) nf F) nv (fun i => qn 2 n (V i)) nf F) := by
  have HV := Lib.hid hv
  have HF := Lib.hid hf
  clear hv hf
  go_enter Try.func9, Try.ntmps9
  go_wp2_with (fail)
  refine (checkMesh_any av af nv cv nf cf V F _ (HV.out.kept (by repeat (first | exact Below.refl _ _ | assumption | refine Below.drew ?_ | refine bdrewN ?_ _ | refine Below.setCell ?_ (by first | omega | (simp <;> omega)) _ | refine Below.alloc ?_ (by first | omega | (simp <;> omega)) _))) (HF.out.kept (by repeat (first | exact Below.refl _ _ | assumption | refine Below.drew ?_ | refine bdrewN ?_ _ | refine Below.setCell ?_ (by first | omega | (simp <;> omega)) _ | refine Below.alloc ?_ (by first | omega | (simp <;> omega)) _))) hnv hnf).mono ?_
  rintro e w1 ⟨rfl, hb1⟩
  have z1 : w.heap.size + 1 + 1 + 1 ≤ w1.heap.size := by have := hb1.size; simpa using this
  have B1 : Below w.heap.size w w1 := Below.trans (by repeat (first | exact Below.refl _ _ | assumption | refine Below.drew ?_ | refine bdrewN ?_ _ | refine Below.setCell ?_ (by first | omega | (simp <;> omega)) _ | refine Below.alloc ?_ (by first | omega | (simp <;> omega)) _)) (hb1.mono (by simp <;> omega))
  have lt0 : w.heap.size < w1.heap.size := by omega
  have hb_0 : w1.heap[w.heap.size]? = some (.cells #[.slice av nv cv, .slice af nf cf] 29 (0, 0)) := heap_keep hb1 (by repeat (first | (refine heap_new ?_; first | rfl | (simp; done)) | rw [Below.heap_setCell _ _ _ _ (by simp <;> omega)] | rw [Below.heap_alloc _ _ _ (by simp <;> omega)]))
  have b0c0 : w1.cell? ⟨w.heap.size, 0, none⟩ = some (.slice av nv cv) := by simp [World.cell?, hb_0]
  have b0f0 : w1.frozen? ⟨w.heap.size, 0, none⟩ = false := by simp [World.frozen?, hb_0]
  have b0c1 : w1.cell? ⟨w.heap.size, 1, none⟩ = some (.slice af nf cf) := by simp [World.cell?, hb_0]
  have b0f1 : w1.frozen? ⟨w.heap.size, 1, none⟩ = false := by simp [World.frozen?, hb_0]
  have BX0 := Lib.hid hb_0
  clear hb_0
  have lt1 : w.heap.size + 1 < w1.heap.size := by omega
  have hb_1 : w1.heap[w.heap.size + 1]? = some (.cells #[.int .i64 n] 3 (0, 0)) := heap_keep hb1 (by repeat (first | (refine heap_new ?_; first | rfl | (simp; done)) | rw [Below.heap_setCell _ _ _ _ (by simp <;> omega)] | rw [Below.heap_alloc _ _ _ (by simp <;> omega)]))
  have b1c0 : w1.cell? ⟨w.heap.size + 1, 0, none⟩ = some (.int .i64 n) := by simp [World.cell?, hb_1]
  have b1f0 : w1.frozen? ⟨w.heap.size + 1, 0, none⟩ = false := by simp [World.frozen?, hb_1]
  have BX1 := Lib.hid hb_1
  clear hb_1
  have lt2 : w.heap.size + 1 + 1 < w1.heap.size := by omega
  have hb_2 : w1.heap[w.heap.size + 1 + 1]? = some (.cells #[.slice none 0 0, .slice none 0 0] 29 (0, 0)) := heap_keep hb1 (by repeat (first | (refine heap_new ?_; first | rfl | (simp; done)) | rw [Below.heap_setCell _ _ _ _ (by simp <;> omega)] | rw [Below.heap_alloc _ _ _ (by simp <;> omega)]))
  have b2c0 : w1.cell? ⟨w.heap.size + 1 + 1, 0, none⟩ = some (.slice none 0 0) := by simp [World.cell?, hb_2]
  have b2f0 : w1.frozen? ⟨w.heap.size + 1 + 1, 0, none⟩ = false := by simp [World.frozen?, hb_2]
  have b2c1 : w1.cell? ⟨w.heap.size + 1 + 1, 1, none⟩ = some (.slice none 0 0) := by simp [World.cell?, hb_2]
  have b2f1 : w1.frozen? ⟨w.heap.size + 1 + 1, 1, none⟩ = false := by simp [World.frozen?, hb_2]
  have BX2 := Lib.hid hb_2
  clear hb_2
  have HB := Lib.hid B1
  clear hb1 B1
  have e0 : (fault nv V nf F != 0) = false := by simp [h0]
  clear h0
  have hfn := fun w => eq_q3 w
  go_wp2_with (first | (go_at_call 49; refine (qat2 _).mono ?_; rintro e w' ⟨rfl, rfl⟩) | fail)
  refine (placed_T (w.heap.size + 1) w1.heap.size (fun i => qn 2 n (V i)) av af nv cv nf cf V F _ (HV.out.kept (Below.trans HB.out (Below.mono (B := w1.heap.size) (by repeat (first | exact Below.refl _ _ | assumption | refine Below.drew ?_ | refine bdrewN ?_ _ | refine Below.setCell ?_ (by first | omega | (simp <;> omega)) _ | refine Below.alloc ?_ (by first | omega | (simp <;> omega)) _)) HB.out.size))) (HF.out.kept (Below.trans HB.out (Below.mono (B := w1.heap.size) (by repeat (first | exact Below.refl _ _ | assumption | refine Below.drew ?_ | refine bdrewN ?_ _ | refine Below.setCell ?_ (by first | omega | (simp <;> omega)) _ | refine Below.alloc ?_ (by first | omega | (simp <;> omega)) _)) HB.out.size))) hnv hnf (fun W hb k hk => turnA2 (V k).x (V k).y (V k).z n (w.heap.size + 1) w1.heap.size W (by omega) (cellk hb (by first | omega | (simp; omega)) (by first | exact b1c0 | simp [go_sem, b1c0, lt1] | (rw [World.cell?_alloc_old _ _ _ lt1]; exact b1c0))) (cellk hb (by simp) (by simp [go_sem])) (by have := hb.size; simp at this; omega) (by have := hb.size; simp at this; omega))).mono ?_
  · rintro e w2 ⟨a2, c2, a3, c3, rfl, ho2, ho3, hb2⟩

    have HO2 := Lib.hid ho2
    have HO3 := Lib.hid ho3
    have HB2 := Lib.hid hb2
    clear ho2 ho3 hb2
    go_wp2_with (fail)
    refine (checked_any a2 a3 nv c2 nf c3 (fun i => qn 2 n (V i)) F _ (own_row3 HO2.out) (own_row3 HO3.out) hnv hnf).mono ?_
    rintro e w3 ⟨rfl, hb3⟩
    have hr := heap_keep hb3 (heap_keep HB2.out ((Below.heap_alloc w1 _ _ lt2).trans BX2.out))
    have hlr := lt_of_heap hr
    have rc0 : w3.cell? ⟨w.heap.size + 1 + 1, 0, none⟩ = some (.slice none 0 0) := (by simp [World.cell?, hr]); have rf0 : w3.frozen? ⟨w.heap.size + 1 + 1, 0, none⟩ = false := (by simp [World.frozen?, hr]); have rc1 : w3.cell? ⟨w.heap.size + 1 + 1, 1, none⟩ = some (.slice none 0 0) := (by simp [World.cell?, hr]); have rf1 : w3.frozen? ⟨w.heap.size + 1 + 1, 1, none⟩ = false := (by simp [World.frozen?, hr])
    have HR7 := Lib.hid hr
    generalize hE : fault nv (fun i => qn 2 n (V i)) nf F = E
    have R := Lib.hid ((((HB.out.alloc HB.out.size (.cells #[.func (.func 98) #[] #[]] 80)).trans (HB2.out.mono (HB.out.alloc HB.out.size (.cells #[.func (.func 98) #[] #[]] 80)).size)).trans (hb3.mono (Nat.le_trans (HB.out.alloc HB.out.size (.cells #[.func (.func 98) #[] #[]] 80)).size HB2.out.size))).setCell (p := ⟨w.heap.size + 1 + 1, 0, none⟩) (by show _ ≤ w.heap.size + 1 + 1; omega) (.slice (za E a2) (zr E nv) (zr E c2)) |>.setCell (p := ⟨w.heap.size + 1 + 1, 1, none⟩) (by show _ ≤ w.heap.size + 1 + 1; omega) (.slice (za E a3) (zr E nf) (zr E c3)))
    have P1 := Lib.hid (own_set (o := 1) (u := .slice (za E a3) (zr E nf) (zr E c3)) (own_set (o := 0) (u := .slice (za E a2) (zr E nv) (zr E c2)) (ownsRow_below HO2.out hb3) HR7.out (by decide)) (set2_0 HR7.out) (by decide))
    have P2 := Lib.hid (own_set (o := 1) (u := .slice (za E a3) (zr E nf) (zr E c3)) (own_set (o := 0) (u := .slice (za E a2) (zr E nv) (zr E c2)) (ownsRow_below HO3.out hb3) HR7.out (by decide)) (set2_0 HR7.out) (by decide))
    have HE := Lib.hid hE
    clear hE hr hb3
    have hzz : w.heap.size ≤ w1.heap.size := HB.out.size
    go_wp2
    exact bodyPost_ret (v := .tuple #[.agg #[.slice (za E a2) (zr E nv) (zr E c2), .slice (za E a3) (zr E nf) (zr E c3)], .int .i64 E]) (by simp [results, Try.results9, go_sem, rc0, rc1]) rfl (MeshR.from (meshR_of P1.out P2.out (by first | omega | (simp; omega)) (by first | omega | (simp; omega)) R.out) (Below.refl _ _) HE.out.symm)
end Go.Proofs.Ytbkipjceglpmcaa

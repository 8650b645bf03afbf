/- The reference's turned, moved and mirrored meshes. -/
import Derived.Test.YtbkipjceglpmcaaTn
import Derived.Test.YtbkipjceglpmcaaTi
set_option linter.unusedSimpArgs false
set_option linter.unusedVariables false
namespace Go.Proofs.Ytbkipjceglpmcaa
open Go.RowKit

theorem turnB_any (x y z : Int) (n p q : Nat) (a : Int) (w : World) (hn : n ≤ 1000) (hp : w.cell? ⟨p, 0, none⟩ = some (.int .i64 n)) (hq : w.cell? ⟨q, 0, none⟩ = some (.int .i64 a)) (hpl : p < w.heap.size) (hql : q < w.heap.size) :
    Calls Try.prog 57 #[.agg #[.int .i64 x, .int .i64 y, .int .i64 z], .pointer (some ⟨p, 0, none⟩), .pointer (some ⟨q, 0, none⟩)] w fun e w' => e = .returned (.agg #[.int .i64 (qn a n ⟨x, y, z⟩).x, .int .i64 (qn a n ⟨x, y, z⟩).y, .int .i64 (qn a n ⟨x, y, z⟩).z]) ∧ Below w.heap.size w w' := by
  by_cases h0 : a = 0
  · subst h0; exact turnB0 x y z n p q w hn hp hq hpl hql
  by_cases h1 : a = 1
  · subst h1; exact turnB1 x y z n p q w hn hp hq hpl hql
  exact turnB2 x y z n p q a h0 h1 w hn hp hq hpl hql
theorem mirB_any (x y z a : Int) (q : Nat) (w : World) (hq : w.cell? ⟨q, 0, none⟩ = some (.int .i64 a)) (hql : q < w.heap.size) :
    Calls Try.prog 60 #[.agg #[.int .i64 x, .int .i64 y, .int .i64 z], .pointer (some ⟨q, 0, none⟩)] w fun e w' => e = .returned (.agg #[.int .i64 (mv a ⟨x, y, z⟩).x, .int .i64 (mv a ⟨x, y, z⟩).y, .int .i64 (mv a ⟨x, y, z⟩).z]) ∧ Below w.heap.size w w' := by
  by_cases h0 : a = 0
  · subst h0; exact mirB0 x y z q w hq hql
  by_cases h1 : a = 1
  · subst h1; exact mirB1 x y z q w hq hql
  exact mirB2 x y z a h0 h1 q w hq hql

set_option maxRecDepth 100000 in
set_option maxHeartbeats 4000000 in
theorem turnedM (av af : Option Addr) (nv cv nf cf : Nat) (V F : Nat → V3) (a : Int) (n : Nat) (w : World) (hv : Row3 w av nv V) (hf : Row3 w af nf F) (hnv : nv ≤ 1000000) (hnf : nf ≤ 1000000) (hn : n ≤ 3) :
    Calls Try.prog 15 #[.agg #[.slice av nv cv, .slice af nf cf], .int .i64 a, .int .i64 n] w (MeshR w (fault nv (fun i => qn a n (V i)) nf F) nv (fun i => qn a n (V i)) nf F) := by
  have HV := Lib.hid hv
  have HF := Lib.hid hf
  clear hv hf
  generalize hE : fault nv (fun i => qn a n (V i)) nf F = E
  have HE := Lib.hid hE
  clear hE
  go_enter Try.func15, Try.ntmps15
  go_wp2_with (fail)
  have hR0 : ((((w.alloc (.cells #[.slice av nv cv, .slice af nf cf] 29)).alloc (.cells #[.int .i64 a] 3)).alloc (.cells #[.int .i64 n] 3)).alloc (.cells #[.slice none 0 0, .slice none 0 0] 29)).heap[w.heap.size + 1 + 1 + 1]? = some (.cells #[.slice none 0 0, .slice none 0 0] 29 (0, 0)) := (by repeat (first | (refine heap_new ?_; first | rfl | (simp; done)) | rw [Below.heap_setCell _ _ _ _ (by simp <;> omega)] | rw [Below.heap_alloc _ _ _ (by simp <;> omega)]))
  have HB0 : Below w.heap.size w ((((w.alloc (.cells #[.slice av nv cv, .slice af nf cf] 29)).alloc (.cells #[.int .i64 a] 3)).alloc (.cells #[.int .i64 n] 3)).alloc (.cells #[.slice none 0 0, .slice none 0 0] 29)) := (by repeat (first | exact Below.refl _ _ | assumption | refine Below.drew ?_ | refine bdrewN ?_ _ | refine Below.setCell ?_ (by first | omega | (simp <;> omega)) _ | refine Below.alloc ?_ (by first | omega | (simp <;> omega)) _))
  have hz0 : ((((w.alloc (.cells #[.slice av nv cv, .slice af nf cf] 29)).alloc (.cells #[.int .i64 a] 3)).alloc (.cells #[.int .i64 n] 3)).alloc (.cells #[.slice none 0 0, .slice none 0 0] 29)).heap.size = w.heap.size + 1 + 1 + 1 + 1 := by simp
  have k1 : ((((w.alloc (.cells #[.slice av nv cv, .slice af nf cf] 29)).alloc (.cells #[.int .i64 a] 3)).alloc (.cells #[.int .i64 n] 3)).alloc (.cells #[.slice none 0 0, .slice none 0 0] 29)).cell? ⟨w.heap.size + 1, 0, none⟩ = some (.int .i64 a) := by simp [go_sem]
  have k2 : ((((w.alloc (.cells #[.slice av nv cv, .slice af nf cf] 29)).alloc (.cells #[.int .i64 a] 3)).alloc (.cells #[.int .i64 n] 3)).alloc (.cells #[.slice none 0 0, .slice none 0 0] 29)).cell? ⟨w.heap.size + 1 + 1, 0, none⟩ = some (.int .i64 n) := by simp [go_sem]
  change Calls _ _ _ ((((w.alloc (.cells #[.slice av nv cv, .slice af nf cf] 29)).alloc (.cells #[.int .i64 a] 3)).alloc (.cells #[.int .i64 n] 3)).alloc (.cells #[.slice none 0 0, .slice none 0 0] 29)) _
  generalize ((((w.alloc (.cells #[.slice av nv cv, .slice af nf cf] 29)).alloc (.cells #[.int .i64 a] 3)).alloc (.cells #[.int .i64 n] 3)).alloc (.cells #[.slice none 0 0, .slice none 0 0] 29)) = w4 at *
  have h := made_T (w.heap.size + 1 + 1) (w.heap.size + 1) (fun i => qn a n (V i)) av af nv cv nf cf V F w4 (HV.out.kept HB0) (HF.out.kept HB0) hnv hnf (fun W hb k hk => turnB_any (V k).x (V k).y (V k).z n (w.heap.size + 1 + 1) (w.heap.size + 1) a W (by omega) (cellk hb (by omega) k2) (cellk hb (by omega) k1) (by have := hb.size; omega) (by have := hb.size; omega))
  rw [HE.out] at h
  have Z := Lib.hid hz0
  have z0 : w.heap.size + 1 + 1 + 1 < w4.heap.size := by omega
  clear hz0 k1 k2
  refine h.mono ?_
  clear h

  rintro e w2 ⟨a2, c2, a3, c3, rfl, r2, r3, hb2⟩
  have hr := heap_keep hb2 hR0
  have hlr := lt_of_heap hr
  have rc0 : w2.cell? ⟨w.heap.size + 1 + 1 + 1, 0, none⟩ = some (.slice none 0 0) := (by simp [World.cell?, hr]); have rf0 : w2.frozen? ⟨w.heap.size + 1 + 1 + 1, 0, none⟩ = false := (by simp [World.frozen?, hr]); have rc1 : w2.cell? ⟨w.heap.size + 1 + 1 + 1, 1, none⟩ = some (.slice none 0 0) := (by simp [World.cell?, hr]); have rf1 : w2.frozen? ⟨w.heap.size + 1 + 1 + 1, 1, none⟩ = false := (by simp [World.frozen?, hr])
  have R := Lib.hid (((HB0.trans (hb2.mono HB0.size)).setCell (p := ⟨w.heap.size + 1 + 1 + 1, 0, none⟩) (by show _ ≤ w.heap.size + 1 + 1 + 1; omega) (.slice a2 (zr E nv) c2)).setCell (p := ⟨w.heap.size + 1 + 1 + 1, 1, none⟩) (by show _ ≤ w.heap.size + 1 + 1 + 1; omega) (.slice a3 (zr E nf) c3))
  have P1 := Lib.hid (((r2.set (p := ⟨w.heap.size + 1 + 1 + 1, 0, none⟩) (by show w.heap.size + 1 + 1 + 1 < _; omega) (.slice a2 (zr E nv) c2)).set (p := ⟨w.heap.size + 1 + 1 + 1, 1, none⟩) (by show w.heap.size + 1 + 1 + 1 < _; omega) (.slice a3 (zr E nf) c3)).weak HB0.size)
  have P2 := Lib.hid (((r3.set (p := ⟨w.heap.size + 1 + 1 + 1, 0, none⟩) (by show w.heap.size + 1 + 1 + 1 < _; omega) (.slice a2 (zr E nv) c2)).set (p := ⟨w.heap.size + 1 + 1 + 1, 1, none⟩) (by show w.heap.size + 1 + 1 + 1 < _; omega) (.slice a3 (zr E nf) c3)).weak HB0.size)
  clear hr hb2 r2 r3
  go_wp2
  exact bodyPost_ret (v := .tuple #[.agg #[.slice a2 (zr E nv) c2, .slice a3 (zr E nf) c3], .int .i64 E]) (by simp [results, Try.results15, go_sem, rc0, rc1]) rfl (⟨a2, c2, a3, c3, rfl, P1.out, P2.out, R.out⟩)

set_option maxRecDepth 100000 in
set_option maxHeartbeats 4000000 in
theorem movedM_1 (av af : Option Addr) (nv cv nf cf : Nat) (V F : Nat → V3) (p q r : Int) (w : World) (hx : inB p (-300000) 300000 = false) (h0 : decide (0 < nv) = true) (G K : Nat → V3) :
    Calls Try.prog 16 #[.agg #[.slice av nv cv, .slice af nf cf], .agg #[.int .i64 p, .int .i64 q, .int .i64 r]] w (MeshR w 1 nv G nf K) := by
  go_enter Try.func16, Try.ntmps16
  go_wp2
  refine wp_loop_rounds 4 ?_
  rw [rounds_succ]; go_wp2_with (go_at_call 44; refine (in_any _ _ _ _).mono ?_; rintro e w' ⟨rfl, rfl⟩)
  exact bodyPost_ret (v := .tuple #[.agg #[.slice none 0 0, .slice none 0 0], .int .i64 1]) (by simp [results, Try.results16, go_sem]) rfl (meshR_no rfl (by decide) (by repeat (first | exact Below.refl _ _ | assumption | refine Below.drew ?_ | refine bdrewN ?_ _ | refine Below.setCell ?_ (by first | omega | (simp <;> omega)) _ | refine Below.alloc ?_ (by first | omega | (simp <;> omega)) _)))

set_option maxRecDepth 100000 in
set_option maxHeartbeats 4000000 in
theorem movedM_2 (av af : Option Addr) (nv cv nf cf : Nat) (V F : Nat → V3) (p q r : Int) (w : World) (hx : inB p (-300000) 300000 = true) (hy : inB q (-300000) 300000 = false) (h0 : decide (0 < nv) = true) (G K : Nat → V3) :
    Calls Try.prog 16 #[.agg #[.slice av nv cv, .slice af nf cf], .agg #[.int .i64 p, .int .i64 q, .int .i64 r]] w (MeshR w 1 nv G nf K) := by
  go_enter Try.func16, Try.ntmps16
  go_wp2
  refine wp_loop_rounds 4 ?_
  rw [rounds_succ]; go_wp2_with (go_at_call 44; refine (in_any _ _ _ _).mono ?_; rintro e w' ⟨rfl, rfl⟩)
  rw [rounds_succ]; go_wp2_with (go_at_call 44; refine (in_any _ _ _ _).mono ?_; rintro e w' ⟨rfl, rfl⟩)
  exact bodyPost_ret (v := .tuple #[.agg #[.slice none 0 0, .slice none 0 0], .int .i64 1]) (by simp [results, Try.results16, go_sem]) rfl (meshR_no rfl (by decide) (by repeat (first | exact Below.refl _ _ | assumption | refine Below.drew ?_ | refine bdrewN ?_ _ | refine Below.setCell ?_ (by first | omega | (simp <;> omega)) _ | refine Below.alloc ?_ (by first | omega | (simp <;> omega)) _)))

set_option maxRecDepth 100000 in
set_option maxHeartbeats 4000000 in
theorem movedM_3 (av af : Option Addr) (nv cv nf cf : Nat) (V F : Nat → V3) (p q r : Int) (w : World) (hx : inB p (-300000) 300000 = true) (hy : inB q (-300000) 300000 = true) (hz : inB r (-300000) 300000 = false) (h0 : decide (0 < nv) = true) (G K : Nat → V3) :
    Calls Try.prog 16 #[.agg #[.slice av nv cv, .slice af nf cf], .agg #[.int .i64 p, .int .i64 q, .int .i64 r]] w (MeshR w 1 nv G nf K) := by
  go_enter Try.func16, Try.ntmps16
  go_wp2
  refine wp_loop_rounds 4 ?_
  rw [rounds_succ]; go_wp2_with (go_at_call 44; refine (in_any _ _ _ _).mono ?_; rintro e w' ⟨rfl, rfl⟩)
  rw [rounds_succ]; go_wp2_with (go_at_call 44; refine (in_any _ _ _ _).mono ?_; rintro e w' ⟨rfl, rfl⟩)
  rw [rounds_succ]; go_wp2_with (go_at_call 44; refine (in_any _ _ _ _).mono ?_; rintro e w' ⟨rfl, rfl⟩)
  exact bodyPost_ret (v := .tuple #[.agg #[.slice none 0 0, .slice none 0 0], .int .i64 1]) (by simp [results, Try.results16, go_sem]) rfl (meshR_no rfl (by decide) (by repeat (first | exact Below.refl _ _ | assumption | refine Below.drew ?_ | refine bdrewN ?_ _ | refine Below.setCell ?_ (by first | omega | (simp <;> omega)) _ | refine Below.alloc ?_ (by first | omega | (simp <;> omega)) _)))

set_option maxRecDepth 100000 in
set_option maxHeartbeats 4000000 in
theorem movedM_ok (av af : Option Addr) (nv cv nf cf : Nat) (V F : Nat → V3) (p q r : Int) (w : World) (hv : Row3 w av nv V) (hf : Row3 w af nf F) (hnv : nv ≤ 1000000) (hnf : nf ≤ 1000000) (hx : inB p (-300000) 300000 = true) (hy : inB q (-300000) 300000 = true) (hz : inB r (-300000) 300000 = true) :
    Calls Try.prog 16 #[.agg #[.slice av nv cv, .slice af nf cf], .agg #[.int .i64 p, .int .i64 q, .int .i64 r]] w (MeshR w (fault nv (fun i => addv ⟨p, q, r⟩ (V i)) nf F) nv (fun i => addv ⟨p, q, r⟩ (V i)) nf F) := by
  have HV := Lib.hid hv
  have HF := Lib.hid hf
  clear hv hf
  generalize hE : fault nv (fun i => addv ⟨p, q, r⟩ (V i)) nf F = E
  have HE := Lib.hid hE
  clear hE
  go_enter Try.func16, Try.ntmps16
  go_wp2
  refine wp_loop_rounds 4 ?_
  rw [rounds_succ]; go_wp2_with (go_at_call 44; refine (in_any _ _ _ _).mono ?_; rintro e w' ⟨rfl, rfl⟩)
  rw [rounds_succ]; go_wp2_with (go_at_call 44; refine (in_any _ _ _ _).mono ?_; rintro e w' ⟨rfl, rfl⟩)
  rw [rounds_succ]; go_wp2_with (go_at_call 44; refine (in_any _ _ _ _).mono ?_; rintro e w' ⟨rfl, rfl⟩)
  rw [rounds_succ]; go_wp2_with (go_at_call 44; refine (in_any _ _ _ _).mono ?_; rintro e w' ⟨rfl, rfl⟩)
  have hR0 : ((((w.alloc (.cells #[.slice av nv cv, .slice af nf cf] 29)).alloc (.cells #[.int .i64 p, .int .i64 q, .int .i64 r] 33)).alloc (.cells #[.slice none 0 0, .slice none 0 0] 29)).alloc (.cells #[.int .i64 p, .int .i64 q, .int .i64 r] 3)).heap[w.heap.size + 1 + 1]? = some (.cells #[.slice none 0 0, .slice none 0 0] 29 (0, 0)) := (by repeat (first | (refine heap_new ?_; first | rfl | (simp; done)) | rw [Below.heap_setCell _ _ _ _ (by simp <;> omega)] | rw [Below.heap_alloc _ _ _ (by simp <;> omega)]))
  have HB0 : Below w.heap.size w ((((w.alloc (.cells #[.slice av nv cv, .slice af nf cf] 29)).alloc (.cells #[.int .i64 p, .int .i64 q, .int .i64 r] 33)).alloc (.cells #[.slice none 0 0, .slice none 0 0] 29)).alloc (.cells #[.int .i64 p, .int .i64 q, .int .i64 r] 3)) := (by repeat (first | exact Below.refl _ _ | assumption | refine Below.drew ?_ | refine bdrewN ?_ _ | refine Below.setCell ?_ (by first | omega | (simp <;> omega)) _ | refine Below.alloc ?_ (by first | omega | (simp <;> omega)) _))
  have hz0 : ((((w.alloc (.cells #[.slice av nv cv, .slice af nf cf] 29)).alloc (.cells #[.int .i64 p, .int .i64 q, .int .i64 r] 33)).alloc (.cells #[.slice none 0 0, .slice none 0 0] 29)).alloc (.cells #[.int .i64 p, .int .i64 q, .int .i64 r] 3)).heap.size = w.heap.size + 1 + 1 + 1 + 1 := by simp
  have k0 : ((((w.alloc (.cells #[.slice av nv cv, .slice af nf cf] 29)).alloc (.cells #[.int .i64 p, .int .i64 q, .int .i64 r] 33)).alloc (.cells #[.slice none 0 0, .slice none 0 0] 29)).alloc (.cells #[.int .i64 p, .int .i64 q, .int .i64 r] 3)).cell? ⟨w.heap.size + 1, 0, none⟩ = some (.int .i64 p) := by simp [go_sem]
  have k1 : ((((w.alloc (.cells #[.slice av nv cv, .slice af nf cf] 29)).alloc (.cells #[.int .i64 p, .int .i64 q, .int .i64 r] 33)).alloc (.cells #[.slice none 0 0, .slice none 0 0] 29)).alloc (.cells #[.int .i64 p, .int .i64 q, .int .i64 r] 3)).cell? ⟨w.heap.size + 1, 1, none⟩ = some (.int .i64 q) := by simp [go_sem]
  have k2 : ((((w.alloc (.cells #[.slice av nv cv, .slice af nf cf] 29)).alloc (.cells #[.int .i64 p, .int .i64 q, .int .i64 r] 33)).alloc (.cells #[.slice none 0 0, .slice none 0 0] 29)).alloc (.cells #[.int .i64 p, .int .i64 q, .int .i64 r] 3)).cell? ⟨w.heap.size + 1, 2, none⟩ = some (.int .i64 r) := by simp [go_sem]
  change Calls _ _ _ ((((w.alloc (.cells #[.slice av nv cv, .slice af nf cf] 29)).alloc (.cells #[.int .i64 p, .int .i64 q, .int .i64 r] 33)).alloc (.cells #[.slice none 0 0, .slice none 0 0] 29)).alloc (.cells #[.int .i64 p, .int .i64 q, .int .i64 r] 3)) _
  generalize ((((w.alloc (.cells #[.slice av nv cv, .slice af nf cf] 29)).alloc (.cells #[.int .i64 p, .int .i64 q, .int .i64 r] 33)).alloc (.cells #[.slice none 0 0, .slice none 0 0] 29)).alloc (.cells #[.int .i64 p, .int .i64 q, .int .i64 r] 3)) = w4 at *
  have h := made_M (w.heap.size + 1) (fun i => addv ⟨p, q, r⟩ (V i)) av af nv cv nf cf V F w4 (HV.out.kept HB0) (HF.out.kept HB0) hnv hnf (fun W hb k hk => movB_any (V k).x (V k).y (V k).z p q r (w.heap.size + 1) W (cellk hb (by omega) k0) (cellk hb (by omega) k1) (cellk hb (by omega) k2) (by have := hb.size; omega))
  rw [HE.out] at h
  have Z := Lib.hid hz0
  have z0 : w.heap.size + 1 + 1 + 1 < w4.heap.size := by omega
  clear hz0 k0 k1 k2 hx hy hz
  refine h.mono ?_
  clear h

  rintro e w2 ⟨a2, c2, a3, c3, rfl, r2, r3, hb2⟩
  have hr := heap_keep hb2 hR0
  have hlr := lt_of_heap hr
  have rc0 : w2.cell? ⟨w.heap.size + 1 + 1, 0, none⟩ = some (.slice none 0 0) := (by simp [World.cell?, hr]); have rf0 : w2.frozen? ⟨w.heap.size + 1 + 1, 0, none⟩ = false := (by simp [World.frozen?, hr]); have rc1 : w2.cell? ⟨w.heap.size + 1 + 1, 1, none⟩ = some (.slice none 0 0) := (by simp [World.cell?, hr]); have rf1 : w2.frozen? ⟨w.heap.size + 1 + 1, 1, none⟩ = false := (by simp [World.frozen?, hr])
  have R := Lib.hid (((HB0.trans (hb2.mono HB0.size)).setCell (p := ⟨w.heap.size + 1 + 1, 0, none⟩) (by show _ ≤ w.heap.size + 1 + 1; omega) (.slice a2 (zr E nv) c2)).setCell (p := ⟨w.heap.size + 1 + 1, 1, none⟩) (by show _ ≤ w.heap.size + 1 + 1; omega) (.slice a3 (zr E nf) c3))
  have P1 := Lib.hid (((r2.set (p := ⟨w.heap.size + 1 + 1, 0, none⟩) (by show w.heap.size + 1 + 1 < _; omega) (.slice a2 (zr E nv) c2)).set (p := ⟨w.heap.size + 1 + 1, 1, none⟩) (by show w.heap.size + 1 + 1 < _; omega) (.slice a3 (zr E nf) c3)).weak HB0.size)
  have P2 := Lib.hid (((r3.set (p := ⟨w.heap.size + 1 + 1, 0, none⟩) (by show w.heap.size + 1 + 1 < _; omega) (.slice a2 (zr E nv) c2)).set (p := ⟨w.heap.size + 1 + 1, 1, none⟩) (by show w.heap.size + 1 + 1 < _; omega) (.slice a3 (zr E nf) c3)).weak HB0.size)
  clear hr hb2 r2 r3
  go_wp2
  exact bodyPost_ret (v := .tuple #[.agg #[.slice a2 (zr E nv) c2, .slice a3 (zr E nf) c3], .int .i64 E]) (by simp [results, Try.results16, go_sem, rc0, rc1]) rfl (⟨a2, c2, a3, c3, rfl, P1.out, P2.out, R.out⟩)

set_option maxRecDepth 100000 in
set_option maxHeartbeats 4000000 in
theorem mirM (av af : Option Addr) (nv cv nf cf : Nat) (V F : Nat → V3) (a : Int) (w : World) (hv : Row3 w av nv V) (hf : Row3 w af nf F) (hnv : nv ≤ 1000000) (hnf : nf ≤ 1000000) :
    Calls Try.prog 17 #[.agg #[.slice av nv cv, .slice af nf cf], .int .i64 a] w (MeshR w (fault nv (fun i => mv a (V i)) nf (fun i => sw (F i))) nv (fun i => mv a (V i)) nf (fun i => sw (F i))) := by
  obtain ⟨i0, hi0, hz0, hz1, hz2⟩ := info_parts info_face
  have HV := Lib.hid hv
  have HF := Lib.hid hf
  clear hv hf
  generalize hE : fault nv (fun i => mv a (V i)) nf (fun i => sw (F i)) = E
  have HE := Lib.hid hE
  clear hE
  go_enter Try.func17, Try.ntmps17
  go_wp2_with (fail)
  refine (cloneV_any av nv cv V _ (HV.out.kept (by repeat (first | exact Below.refl _ _ | assumption | refine Below.drew ?_ | refine bdrewN ?_ _ | refine Below.setCell ?_ (by first | omega | (simp <;> omega)) _ | refine Below.alloc ?_ (by first | omega | (simp <;> omega)) _))) hnv).mono ?_
  rintro e w5 ⟨a5, c5, rfl, ho5, hb5⟩
  have z5 : w.heap.size + 1 + 1 + 1 ≤ w5.heap.size := by have := hb5.size; simpa using this
  have l0 : w.heap.size < w5.heap.size := by omega
  have l1 : w.heap.size + 1 < w5.heap.size := by omega
  have l2 : w.heap.size + 1 + 1 < w5.heap.size := by omega
  have hM : w5.heap[w.heap.size]? = some (.cells #[.slice av nv cv, .slice af nf cf] 29 (0, 0)) := heap_keep hb5 (by repeat (first | (refine heap_new ?_; first | rfl | (simp; done)) | rw [Below.heap_setCell _ _ _ _ (by simp <;> omega)] | rw [Below.heap_alloc _ _ _ (by simp <;> omega)]))
  have hA : w5.heap[w.heap.size + 1]? = some (.cells #[.int .i64 a] 3 (0, 0)) := heap_keep hb5 (by repeat (first | (refine heap_new ?_; first | rfl | (simp; done)) | rw [Below.heap_setCell _ _ _ _ (by simp <;> omega)] | rw [Below.heap_alloc _ _ _ (by simp <;> omega)]))
  have hR : w5.heap[w.heap.size + 1 + 1]? = some (.cells #[.slice none 0 0, .slice none 0 0] 29 (0, 0)) := heap_keep hb5 (by repeat (first | (refine heap_new ?_; first | rfl | (simp; done)) | rw [Below.heap_setCell _ _ _ _ (by simp <;> omega)] | rw [Below.heap_alloc _ _ _ (by simp <;> omega)]))
  have B5 : Below w.heap.size w w5 := Below.trans (by repeat (first | exact Below.refl _ _ | assumption | refine Below.drew ?_ | refine bdrewN ?_ _ | refine Below.setCell ?_ (by first | omega | (simp <;> omega)) _ | refine Below.alloc ?_ (by first | omega | (simp <;> omega)) _)) (hb5.mono (by simp; omega))
  have HM := Lib.hid hM
  have HA := Lib.hid hA
  have HR := Lib.hid hR
  have HO5 := Lib.hid ho5
  have HB5 := Lib.hid B5
  have mc0 : w5.cell? ⟨w.heap.size, 0, none⟩ = some (.slice av nv cv) := (by simp [World.cell?, hM]); have mf0 : w5.frozen? ⟨w.heap.size, 0, none⟩ = false := (by simp [World.frozen?, hM]); have mc1 : w5.cell? ⟨w.heap.size, 1, none⟩ = some (.slice af nf cf) := (by simp [World.cell?, hM]); have mf1 : w5.frozen? ⟨w.heap.size, 1, none⟩ = false := (by simp [World.frozen?, hM])
  clear hM hA hR ho5 hb5 B5
  go_wp2_with (fail)
  go_loopw [16] (fun i wr => ∃ k : Nat, k ≤ nf ∧ i = .int .i64 k ∧ ∃ ao co, wr.heap[w5.heap.size]? = some (.cells #[.slice a5 nv c5, .slice ao k co] 29 (0, 0)) ∧ wr.ownsRow w5.heap.size 67 3 (.slice ao k co) k (cells3 (fun i => sw (F i)) k) ∧ Below w5.heap.size w5 wr) (fun i _ => nf - (intOf i).toNat)
  case atStart => exact ⟨0, by omega, rfl, none, 0, heap_new rfl, World.ownsRow_nil _ _ _ _, (by repeat (first | exact Below.refl _ _ | assumption | refine Below.drew ?_ | refine bdrewN ?_ _ | refine Below.setCell ?_ (by first | omega | (simp <;> omega)) _ | refine Below.alloc ?_ (by first | omega | (simp <;> omega)) _))⟩
  case round =>
    obtain ⟨k, hk, rfl, ao, co, hm, hown, hbel⟩ := hrel
    have hsz := hbel.size
    have hlm := lt_of_heap hm
    have HO := Lib.hid hown
    have HMW := Lib.hid hm
    have HBL := Lib.hid hbel
    have HBW := Lib.hid (HB5.out.trans (hbel.mono HB5.out.size))
    have oc0 : wr.cell? ⟨w5.heap.size, 0, none⟩ = some (.slice a5 nv c5) := (by simp [World.cell?, hm]); have of0 : wr.frozen? ⟨w5.heap.size, 0, none⟩ = false := (by simp [World.frozen?, hm]); have oc1 : wr.cell? ⟨w5.heap.size, 1, none⟩ = some (.slice ao k co) := (by simp [World.cell?, hm]); have of1 : wr.frozen? ⟨w5.heap.size, 1, none⟩ = false := (by simp [World.frozen?, hm])
    clear hown hm hbel
    by_cases hlt : k < nf
    · rcases HF.out with h | ⟨bf, of, rfl, hbf, hF⟩
      · omega
      obtain ⟨c0, c1, c2⟩ := (hF.kept HBW.out hbf) k hlt
      have hbw : bf < wr.heap.size := by have := HBW.out.size; omega
      clear hF
      go_wp2_with (at_builtin; refine wpList_append_lies _ rfl _ _ 27 rfl w5.heap.size 67 i0 (.agg #[.int .i64 0, .int .i64 0, .int .i64 0]) 3 24 Try.underlying27 hi0 hz0 hz1 hz2 rfl (by decide) _ _ _ rfl ((HO.out.alloc _).alloc _) ⟨wr.heap.size + 1, 0, none⟩ 1 1 [.int .i64 (F k).x, .int .i64 (F k).z, .int .i64 (F k).y] rfl rfl (World.news_of_block (cs := #[.int .i64 (F k).x, .int .i64 (F k).z, .int .i64 (F k).y]) (t := 67) (fr := (0, 0)) (heap_new (by simp))) (by simp [Value.oneCell']) (by omega) (by unfold maxLen; omega) (by omega) (by simp; omega) (wr.heap.size + 1 + 1) (by simp) ?_; intro g cap' w4 hown4 hgrow hat hlt4; have hm4 := grow_keep hgrow ((Below.heap_alloc _ _ _ (by simp; omega)).trans ((Below.heap_alloc wr _ _ hlm).trans HMW.out)) (own_ne HO.out HMW.out (by decide)); have pc0 : w4.cell? ⟨w5.heap.size, 0, none⟩ = some (.slice a5 nv c5) := (by simp [World.cell?, hm4]); have pf0 : w4.frozen? ⟨w5.heap.size, 0, none⟩ = false := (by simp [World.frozen?, hm4]); have pc1 : w4.cell? ⟨w5.heap.size, 1, none⟩ = some (.slice ao k co) := (by simp [World.cell?, hm4]); have pf1 : w4.frozen? ⟨w5.heap.size, 1, none⟩ = false := (by simp [World.frozen?, hm4]); have HM4 := Lib.hid hm4; have HG4 := Lib.hid hgrow; have HO4 := Lib.hid hown4; clear hm4 hgrow hown4)
      have HB4 := Lib.hid (Below.grown (Below.alloc (Below.alloc HBL.out hsz _) (by simp; omega) _) HG4.out (by simp; omega) (fun b hb => (HO.out.lt b hb).1))
      go_roundw
      case rel => exact ⟨k + 1, by omega, by go_num, _, _, set2_1 HM4.out, own_set HO4.out HM4.out (by decide), HB4.out.setCell (by show _ ≤ w5.heap.size; omega) _⟩
      case measure => simp [intOf]; omega
    · obtain rfl : nf = k := by omega
      have HV6 := Lib.hid (ownsRow_below HO5.out HBL.out)
      have hr0 := (HBL.out.block (w.heap.size + 1 + 1) (by omega)).trans HR.out
      have ha0 := (HBL.out.block (w.heap.size + 1) (by omega)).trans HA.out
      have HA6 := Lib.hid ha0
      have k1 : wr.cell? ⟨w.heap.size + 1, 0, none⟩ = some (.int .i64 a) := by simp [World.cell?, ha0]
      have HR6 := Lib.hid hr0
      have la := lt_of_heap ha0
      have lr := lt_of_heap hr0
      clear hr0 ha0
      go_wp2_with (fail)
      have h := made_R (w.heap.size + 1) (fun i => mv a (V i)) a5 ao nv c5 nf co V (fun i => sw (F i)) wr (own_row3 HV6.out) (own_row3 HO.out) hnv hnf (fun W hb k hk => mirB_any (V k).x (V k).y (V k).z a (w.heap.size + 1) W (cellk hb la k1) (by have := hb.size; omega))
      rw [HE.out] at h
      refine h.mono ?_
      clear h

      rintro e w2 ⟨a2, c2, a3, c3, rfl, r2, r3, hb2⟩
      have hr := heap_keep hb2 HR6.out
      have hlr := lt_of_heap hr
      have rc0 : w2.cell? ⟨w.heap.size + 1 + 1, 0, none⟩ = some (.slice none 0 0) := (by simp [World.cell?, hr]); have rf0 : w2.frozen? ⟨w.heap.size + 1 + 1, 0, none⟩ = false := (by simp [World.frozen?, hr]); have rc1 : w2.cell? ⟨w.heap.size + 1 + 1, 1, none⟩ = some (.slice none 0 0) := (by simp [World.cell?, hr]); have rf1 : w2.frozen? ⟨w.heap.size + 1 + 1, 1, none⟩ = false := (by simp [World.frozen?, hr])
      have R := Lib.hid (((HBW.out.trans (hb2.mono HBW.out.size)).setCell (p := ⟨w.heap.size + 1 + 1, 0, none⟩) (by show _ ≤ w.heap.size + 1 + 1; omega) (.slice a2 (zr E nv) c2)).setCell (p := ⟨w.heap.size + 1 + 1, 1, none⟩) (by show _ ≤ w.heap.size + 1 + 1; omega) (.slice a3 (zr E nf) c3))
      have P1 := Lib.hid (((r2.set (p := ⟨w.heap.size + 1 + 1, 0, none⟩) (by show w.heap.size + 1 + 1 < _; omega) (.slice a2 (zr E nv) c2)).set (p := ⟨w.heap.size + 1 + 1, 1, none⟩) (by show w.heap.size + 1 + 1 < _; omega) (.slice a3 (zr E nf) c3)).weak HBW.out.size)
      have P2 := Lib.hid (((r3.set (p := ⟨w.heap.size + 1 + 1, 0, none⟩) (by show w.heap.size + 1 + 1 < _; omega) (.slice a2 (zr E nv) c2)).set (p := ⟨w.heap.size + 1 + 1, 1, none⟩) (by show w.heap.size + 1 + 1 < _; omega) (.slice a3 (zr E nf) c3)).weak HBW.out.size)
      clear hr hb2 r2 r3
      go_wp2
      exact bodyPost_ret (v := .tuple #[.agg #[.slice a2 (zr E nv) c2, .slice a3 (zr E nf) c3], .int .i64 E]) (by simp [results, Try.results17, go_sem, rc0, rc1]) rfl (⟨a2, c2, a3, c3, rfl, P1.out, P2.out, R.out⟩)

end Go.Proofs.Ytbkipjceglpmcaa

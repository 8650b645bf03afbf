/- Which places cells cover. -/
import Derived.Test.YtllagjncibfcmaaGreatDoorKa
import Derived.Test.YtllagjncibfcmaaGreatDoorTk
import Derived.BigQuiet
import Derived.Deep.RegionHeld3
set_option linter.unusedSimpArgs false
set_option linter.unusedVariables false
namespace Go.Proofs.YtllagjncibfcmaaGreatDoor
open Go.RowKit

/-- A function value that tells which places cells cover. -/
def CovV (w : World) (f : Value) (cx cy : Int) (n : Nat) (R : Nat → List UInt8) : Prop :=
  ∃ B C s x y a c m, f = .func (.func 43) #[] #[.pointer (some ⟨B, 0, none⟩), .pointer (some ⟨C, 0, none⟩)] ∧ VC s x y n R cx cy m ∧ RowS w a n R ∧
    w.heap[B]? = some (.cells #[.int .i64 cx, .int .i64 cy, .int .i64 (cx + m), .int .i64 (cy + n)] 52 (0, 0)) ∧ w.heap[C]? = some (.cells #[.int .i64 s, .int .i64 x, .int .i64 y, .slice a n c] 28 (0, 0))
theorem CovV.kept {w w' : World} {f : Value} {cx cy : Int} {n : Nat} {R : Nat → List UInt8} (h : CovV w f cx cy n R) (hb : Below w.heap.size w w') : CovV w' f cx cy n R := by
  obtain ⟨B, C, s, x, y, a, c, m, h1, h2, h3, h4, h5⟩ := h
  exact ⟨B, C, s, x, y, a, c, m, h1, h2, h3.kept hb, heap_keep hb h4, heap_keep hb h5⟩
set_option maxRecDepth 100000 in
set_option maxHeartbeats 4000000 in
theorem covers_any {s x y : Int} {n : Nat} {R : Nat → List UInt8} {cx cy : Int} {m : Nat} (a : Option Addr) (c : Nat) (w : World) (hv : VC s x y n R cx cy m) (hr : RowS w a n R) :
    Calls Tryz.prog 25 #[.agg #[.int .i64 s, .int .i64 x, .int .i64 y, .slice a n c]] w fun e w' => ∃ f, e = .returned f ∧ CovV w' f cx cy n R ∧ Below w.heap.size w w' := by
  have HV := Lib.hid hv
  have HR := Lib.hid hr
  clear hv hr
  go_enter Tryz.func25, Tryz.ntmps25
  go_wp2_with (fail)
  have HW : Hid (Below w.heap.size w (w.alloc (.cells #[.int .i64 s, .int .i64 x, .int .i64 y, .slice a n c] 28))) := Lib.hid (by repeat (first | exact Below.refl _ _ | assumption | refine Below.drew ?_ | refine bdrewN ?_ _ | refine Below.setCell ?_ (by first | omega | (simp <;> omega)) _ | refine Below.alloc ?_ (by first | omega | (simp <;> omega)) _))
  refine (boxOf_any a c _ HV.out (HR.out.kept HW.out)).mono ?_
  rintro e w1 ⟨rfl, hb1⟩
  have H1 : Hid (w1.heap[w.heap.size]? = some (.cells #[.int .i64 s, .int .i64 x, .int .i64 y, .slice a n c] 28 (0, 0))) := Lib.hid (heap_keep hb1 (heap_new rfl))
  have B1 := Lib.hid (HW.out.trans (hb1.mono HW.out.size))
  have lt : w.heap.size < w1.heap.size := lt_of_heap H1.out
  clear hb1
  go_wp2_with (fail)
  go_ret
  have hbw : Below w1.heap.size w1 (w1.alloc (.cells #[.int .i64 cx, .int .i64 cy, .int .i64 (cx + m), .int .i64 (cy + n)] 52)) := (Below.refl _ _).alloc (Nat.le_refl _) _
  exact ⟨_, rfl, ⟨w1.heap.size, w.heap.size, s, x, y, a, c, m, rfl, HV.out, (HR.out.kept B1.out).kept hbw, heap_new rfl, heap_keep hbw H1.out⟩, B1.out.trans (hbw.mono B1.out.size)⟩
theorem undrew {w w' : World} (h : Below w.drew.heap.size w.drew w') : Below w.heap.size w w' := ⟨h.os, h.tape, h.output, h.size, h.block⟩
set_option maxRecDepth 100000 in
set_option maxHeartbeats 4000000 in
theorem covers1_no {s x y : Int} {n : Nat} {cx cy : Int} {m : Nat} (B C : Nat) (a : Option Addr) (c : Nat) (p q : Int) (w : World)
    (h4 : w.heap[B]? = some (.cells #[.int .i64 cx, .int .i64 cy, .int .i64 (cx + m), .int .i64 (cy + n)] 52 (0, 0))) (h5 : w.heap[C]? = some (.cells #[.int .i64 s, .int .i64 x, .int .i64 y, .slice a n c] 28 (0, 0))) (hh : hasB cx cy (cx + m) (cy + n) p q = false) :
    Calls Tryz.prog 43 #[.agg #[.int .i64 p, .int .i64 q], .pointer (some ⟨B, 0, none⟩), .pointer (some ⟨C, 0, none⟩)] w fun e w' => e = .returned (.bool false) ∧ Below w.heap.size w w' := by
  have HH := Lib.hid hh
  have hB := lt_of_heap h4
  have p0 : w.cell? ⟨B, 0, none⟩ = some (.int .i64 cx) := cell_of h4 rfl
  have p1 : w.cell? ⟨B, 1, none⟩ = some (.int .i64 cy) := cell_of h4 rfl
  have p2 : w.cell? ⟨B, 2, none⟩ = some (.int .i64 (cx + m)) := cell_of h4 rfl
  have p3 : w.cell? ⟨B, 3, none⟩ = some (.int .i64 (cy + n)) := cell_of h4 rfl
  clear hh h4 h5
  go_enter Tryz.func43, Tryz.ntmps43
  go_wp2_with (fail)
  have HW : Hid (Below w.heap.size w (w.alloc (.cells #[.int .i64 p, .int .i64 q] 56))) := Lib.hid (by repeat (first | exact Below.refl _ _ | assumption | refine Below.drew ?_ | refine bdrewN ?_ _ | refine Below.setCell ?_ (by first | omega | (simp <;> omega)) _ | refine Below.alloc ?_ (by first | omega | (simp <;> omega)) _))
  have q0 : (w.alloc (.cells #[.int .i64 p, .int .i64 q] 56)).cell? ⟨w.heap.size, 0, none⟩ = some (.int .i64 p) := by simp [go_sem]
  have q1 : (w.alloc (.cells #[.int .i64 p, .int .i64 q] 56)).cell? ⟨w.heap.size, 1, none⟩ = some (.int .i64 q) := by simp [go_sem]
  have lw : w.heap.size < (w.alloc (.cells #[.int .i64 p, .int .i64 q] 56)).heap.size := by simp
  replace p0 := cellk HW.out hB p0
  replace p1 := cellk HW.out hB p1
  replace p2 := cellk HW.out hB p2
  replace p3 := cellk HW.out hB p3
  replace hB := Nat.lt_of_lt_of_le hB HW.out.size
  change Code.wp _ _ _ _ (w.alloc (.cells #[.int .i64 p, .int .i64 q] 56))
  generalize (w.alloc (.cells #[.int .i64 p, .int .i64 q] 56)) = w0 at *
  refine wp_region_held_drew (S := (fun w' => w'.cell? ⟨B, 0, none⟩ = some (.int .i64 cx) ∧ w'.cell? ⟨B, 1, none⟩ = some (.int .i64 cy) ∧ w'.cell? ⟨B, 2, none⟩ = some (.int .i64 (cx + m)) ∧ w'.cell? ⟨B, 3, none⟩ = some (.int .i64 (cy + n)) ∧ w'.cell? ⟨w.heap.size, 0, none⟩ = some (.int .i64 p) ∧ w'.cell? ⟨w.heap.size, 1, none⟩ = some (.int .i64 q))) (by kernel_rfl) ⟨p0, p1, p2, p3, q0, q1⟩ (fun hHeld => ?_)
  refine tkH (by assumption) 0 (oi := ?_) (v := ?_) ?_ ?_ ?_ ?_ ?_ ?_ ?_ ?_; rotate_left 2; (simp only [gA, gB, gC]; exact rfl); kernel_rfl; kernel_rfl; kernel_rfl; exact fun _ _ _ h => h; rfl; (intro w' hSw; (try dsimp only at hSw); go_simp; with_reducible rfl); simp only [Act.put, pB, pC, pD]
  refine tkH (by assumption) 1 (oi := ?_) (v := ?_) ?_ ?_ ?_ ?_ ?_ ?_ ?_ ?_; rotate_left 2; (simp only [gA, gB, gC]; exact rfl); kernel_rfl; kernel_rfl; kernel_rfl; exact fun _ _ _ h => h; rfl; (intro w' hSw; (try dsimp only at hSw); go_simp; with_reducible rfl); simp only [Act.put, pB, pC, pD]
  refine onH 2 (oi := ?_) (by kernel_rfl) ?_ ?_ (fun K hK => ?_); rotate_left; (simp only [gA, gB, gC]; exact rfl); rfl
  go_wp2_with (fail)
  refine (has_any _ _ _ _ _ _ _).mono ?_
  rintro e w1 ⟨rfl, hb1⟩
  rw [HH.out]
  go_wp2_with (fail)
  replace hb1 := undrew hb1
  have HB1 := Lib.hid (HW.out.trans (hb1.mono HW.out.size))
  replace p0 := cellk (w := w0) hb1 hB p0
  replace p1 := cellk (w := w0) hb1 hB p1
  replace p2 := cellk (w := w0) hb1 hB p2
  replace p3 := cellk (w := w0) hb1 hB p3
  replace q0 := cellk (w := w0) hb1 lw q0
  replace q1 := cellk (w := w0) hb1 lw q1
  refine hK.out _ _ ⟨p0, p1, p2, p3, q0, q1⟩ (fun hHeld2 => ?_)
  clear hK K hHeld hb1
  try simp only [Act.put, List.setIfInBounds_toArray, List.set_cons_zero, List.set_cons_succ]
  refine tkH (by assumption) 3 (oi := ?_) (v := ?_) ?_ ?_ ?_ ?_ ?_ ?_ ?_ ?_; rotate_left 2; (simp only [gA, gB, gC]; exact rfl); kernel_rfl; kernel_rfl; kernel_rfl; exact fun _ _ _ h => h; rfl; (intro w' hSw; (try dsimp only at hSw); go_simp; with_reducible rfl); simp only [Act.put, pB, pC, pD]
  refine skH (by assumption) 4 (oi := ?_) ?_ ?_ ?_ ?_ ?_ ?_ ?_; rotate_left; (simp only [gA, gB, gC]; exact rfl); kernel_rfl; kernel_rfl; kernel_rfl; exact fun _ _ _ h => h; rfl; simp only [Act.put, pB, pC, pD]
  refine skH (by assumption) 5 (oi := ?_) ?_ ?_ ?_ ?_ ?_ ?_ ?_; rotate_left; (simp only [gA, gB, gC]; exact rfl); kernel_rfl; kernel_rfl; kernel_rfl; exact fun _ _ _ h => h; rfl; simp only [Act.put, pB, pC, pD]
  refine skH (by assumption) 6 (oi := ?_) ?_ ?_ ?_ ?_ ?_ ?_ ?_; rotate_left; (simp only [gA, gB, gC]; exact rfl); kernel_rfl; kernel_rfl; kernel_rfl; exact fun _ _ _ h => h; rfl; simp only [Act.put, pB, pC, pD]
  refine skH (by assumption) 7 (oi := ?_) ?_ ?_ ?_ ?_ ?_ ?_ ?_; rotate_left; (simp only [gA, gB, gC]; exact rfl); kernel_rfl; kernel_rfl; kernel_rfl; exact fun _ _ _ h => h; rfl; simp only [Act.put, pB, pC, pD]
  refine skH (by assumption) 8 (oi := ?_) ?_ ?_ ?_ ?_ ?_ ?_ ?_; rotate_left; (simp only [gA, gB, gC]; exact rfl); kernel_rfl; kernel_rfl; kernel_rfl; exact fun _ _ _ h => h; rfl; simp only [Act.put, pB, pC, pD]
  refine skH (by assumption) 9 (oi := ?_) ?_ ?_ ?_ ?_ ?_ ?_ ?_; rotate_left; (simp only [gA, gB, gC]; exact rfl); kernel_rfl; kernel_rfl; kernel_rfl; exact fun _ _ _ h => h; rfl; simp only [Act.put, pB, pC, pD]
  refine skH (by assumption) 10 (oi := ?_) ?_ ?_ ?_ ?_ ?_ ?_ ?_; rotate_left; (simp only [gA, gB, gC]; exact rfl); kernel_rfl; kernel_rfl; kernel_rfl; exact fun _ _ _ h => h; rfl; simp only [Act.put, pB, pC, pD]
  refine skH (by assumption) 11 (oi := ?_) ?_ ?_ ?_ ?_ ?_ ?_ ?_; rotate_left; (simp only [gA, gB, gC]; exact rfl); kernel_rfl; kernel_rfl; kernel_rfl; exact fun _ _ _ h => h; rfl; simp only [Act.put, pB, pC, pD]
  refine skH (by assumption) 12 (oi := ?_) ?_ ?_ ?_ ?_ ?_ ?_ ?_; rotate_left; (simp only [gA, gB, gC]; exact rfl); kernel_rfl; kernel_rfl; kernel_rfl; exact fun _ _ _ h => h; rfl; simp only [Act.put, pB, pC, pD]
  refine skH (by assumption) 13 (oi := ?_) ?_ ?_ ?_ ?_ ?_ ?_ ?_; rotate_left; (simp only [gA, gB, gC]; exact rfl); kernel_rfl; kernel_rfl; kernel_rfl; exact fun _ _ _ h => h; rfl; simp only [Act.put, pB, pC, pD]
  refine skH (by assumption) 14 (oi := ?_) ?_ ?_ ?_ ?_ ?_ ?_ ?_; rotate_left; (simp only [gA, gB, gC]; exact rfl); kernel_rfl; kernel_rfl; kernel_rfl; exact fun _ _ _ h => h; rfl; simp only [Act.put, pB, pC, pD]
  refine skH (by assumption) 15 (oi := ?_) ?_ ?_ ?_ ?_ ?_ ?_ ?_; rotate_left; (simp only [gA, gB, gC]; exact rfl); kernel_rfl; kernel_rfl; kernel_rfl; exact fun _ _ _ h => h; rfl; simp only [Act.put, pB, pC, pD]
  refine skH (by assumption) 16 (oi := ?_) ?_ ?_ ?_ ?_ ?_ ?_ ?_; rotate_left; (simp only [gA, gB, gC]; exact rfl); kernel_rfl; kernel_rfl; kernel_rfl; exact fun _ _ _ h => h; rfl; simp only [Act.put, pB, pC, pD]
  refine skH (by assumption) 17 (oi := ?_) ?_ ?_ ?_ ?_ ?_ ?_ ?_; rotate_left; (simp only [gA, gB, gC]; exact rfl); kernel_rfl; kernel_rfl; kernel_rfl; exact fun _ _ _ h => h; rfl; simp only [Act.put, pB, pC, pD]
  refine skH (by assumption) 18 (oi := ?_) ?_ ?_ ?_ ?_ ?_ ?_ ?_; rotate_left; (simp only [gA, gB, gC]; exact rfl); kernel_rfl; kernel_rfl; kernel_rfl; exact fun _ _ _ h => h; rfl; simp only [Act.put, pB, pC, pD]
  refine skH (by assumption) 19 (oi := ?_) ?_ ?_ ?_ ?_ ?_ ?_ ?_; rotate_left; (simp only [gA, gB, gC]; exact rfl); kernel_rfl; kernel_rfl; kernel_rfl; exact fun _ _ _ h => h; rfl; simp only [Act.put, pB, pC, pD]
  refine skH (by assumption) 20 (oi := ?_) ?_ ?_ ?_ ?_ ?_ ?_ ?_; rotate_left; (simp only [gA, gB, gC]; exact rfl); kernel_rfl; kernel_rfl; kernel_rfl; exact fun _ _ _ h => h; rfl; simp only [Act.put, pB, pC, pD]
  refine tkH (by assumption) 21 (oi := ?_) (v := ?_) ?_ ?_ ?_ ?_ ?_ ?_ ?_ ?_; rotate_left 2; (simp only [gA, gB, gC]; exact rfl); kernel_rfl; kernel_rfl; kernel_rfl; exact fun _ _ _ h => h; rfl; (intro w' hSw; (try dsimp only at hSw); go_simp; with_reducible rfl); simp only [Act.put, pB, pC, pD]
  refine tkH (by assumption) 22 (oi := ?_) (v := ?_) ?_ ?_ ?_ ?_ ?_ ?_ ?_ ?_; rotate_left 2; (simp only [gA, gB, gC]; exact rfl); kernel_rfl; kernel_rfl; kernel_rfl; exact fun _ _ _ h => h; rfl; (intro w' hSw; (try dsimp only at hSw); go_simp; with_reducible rfl); simp only [Act.put, pB, pC, pD]
  refine wpAnyH_done (by kernel_rfl) ?_ _
  go_wp2_with (fail)
  go_ret
  exact ⟨rfl, HB1.out⟩
set_option maxRecDepth 100000 in
set_option maxHeartbeats 4000000 in
theorem covers1_yes {s x y : Int} {n : Nat} {R : Nat → List UInt8} {cx cy : Int} {m : Nat} (B C b off c i j : Nat) (p q : Int) (w : World)
    (h4 : w.heap[B]? = some (.cells #[.int .i64 cx, .int .i64 cy, .int .i64 (cx + m), .int .i64 (cy + n)] 52 (0, 0))) (h5 : w.heap[C]? = some (.cells #[.int .i64 s, .int .i64 x, .int .i64 y, .slice (some ⟨b, off, none⟩) n c] 28 (0, 0))) (hb : b < w.heap.size) (hs : Sts w b off n R) (hi : i < n) (hj : j < m) (hm : (R i).length = m) (hp : p = cx + j) (hq : q = cy + i) (hx : -2000000 ≤ cx ∧ cx ≤ 2000000) (hy : -2000000 ≤ cy ∧ cy ≤ 2000000) (hn : n ≤ 200) (hm2 : m ≤ 200) (v : Bool) (hv : (R i)[j]? = some 35 ↔ v = true) :
    Calls Tryz.prog 43 #[.agg #[.int .i64 p, .int .i64 q], .pointer (some ⟨B, 0, none⟩), .pointer (some ⟨C, 0, none⟩)] w fun e w' => e = .returned (.bool v) ∧ Below w.heap.size w w' := by
  have HH := Lib.hid (show hasB cx cy (cx + m) (cy + n) p q = true by unfold hasB; rw [decide_eq_true_eq]; omega)
  have hB := lt_of_heap h4
  have hC := lt_of_heap h5
  have p0 : w.cell? ⟨B, 0, none⟩ = some (.int .i64 cx) := cell_of h4 rfl
  have p1 : w.cell? ⟨B, 1, none⟩ = some (.int .i64 cy) := cell_of h4 rfl
  have p2 : w.cell? ⟨B, 2, none⟩ = some (.int .i64 (cx + m)) := cell_of h4 rfl
  have p3 : w.cell? ⟨B, 3, none⟩ = some (.int .i64 (cy + n)) := cell_of h4 rfl
  have p4 : w.cell? ⟨C, 3, none⟩ = some (.slice (some ⟨b, off, none⟩) n c) := cell_of h5 rfl
  have p5 := hs i hi
  have wi : IntKind.i64.wrap (q - cy) = (i : Int) := by rw [IntKind.wrap_i64]; omega
  have wj : IntKind.i64.wrap (p - cx) = (j : Int) := by rw [IntKind.wrap_i64]; omega
  have hjl : j < (R i).length := by omega
  have hbs := bsize (R i)
  have hv2 : ((((R i)[j]'hjl).toNat : Int) == 35) = v := by
    rw [List.getElem?_eq_getElem hjl, Option.some.injEq] at hv
    rw [Bool.eq_iff_iff, ← hv]
    simp only [beq_iff_eq]
    constructor
    · intro h; exact UInt8.toNat_inj.1 (by show ((R i)[j]'hjl).toNat = 35; omega)
    · intro h; rw [h]; rfl
  have HV := Lib.hid hv2
  have hii : (i : Int) < (n : Int) := by omega
  clear h4 h5 hs hp hq hv hv2
  go_enter Tryz.func43, Tryz.ntmps43
  go_wp2_with (fail)
  have HW : Hid (Below w.heap.size w (w.alloc (.cells #[.int .i64 p, .int .i64 q] 56))) := Lib.hid (by repeat (first | exact Below.refl _ _ | assumption | refine Below.drew ?_ | refine bdrewN ?_ _ | refine Below.setCell ?_ (by first | omega | (simp <;> omega)) _ | refine Below.alloc ?_ (by first | omega | (simp <;> omega)) _))
  have q0 : (w.alloc (.cells #[.int .i64 p, .int .i64 q] 56)).cell? ⟨w.heap.size, 0, none⟩ = some (.int .i64 p) := by simp [go_sem]
  have q1 : (w.alloc (.cells #[.int .i64 p, .int .i64 q] 56)).cell? ⟨w.heap.size, 1, none⟩ = some (.int .i64 q) := by simp [go_sem]
  have lw : w.heap.size < (w.alloc (.cells #[.int .i64 p, .int .i64 q] 56)).heap.size := by simp
  replace p0 := cellk HW.out hB p0
  replace p1 := cellk HW.out hB p1
  replace p2 := cellk HW.out hB p2
  replace p3 := cellk HW.out hB p3
  replace p4 := cellk HW.out hC p4
  replace p5 := cellk HW.out hb p5
  replace hB := Nat.lt_of_lt_of_le hB HW.out.size
  replace hC := Nat.lt_of_lt_of_le hC HW.out.size
  replace hb := Nat.lt_of_lt_of_le hb HW.out.size
  change Code.wp _ _ _ _ (w.alloc (.cells #[.int .i64 p, .int .i64 q] 56))
  generalize (w.alloc (.cells #[.int .i64 p, .int .i64 q] 56)) = w0 at *
  refine wp_region_held_drew (S := (fun w' => w'.cell? ⟨B, 0, none⟩ = some (.int .i64 cx) ∧ w'.cell? ⟨B, 1, none⟩ = some (.int .i64 cy) ∧ w'.cell? ⟨B, 2, none⟩ = some (.int .i64 (cx + m)) ∧ w'.cell? ⟨B, 3, none⟩ = some (.int .i64 (cy + n)) ∧ w'.cell? ⟨w.heap.size, 0, none⟩ = some (.int .i64 p) ∧ w'.cell? ⟨w.heap.size, 1, none⟩ = some (.int .i64 q) ∧ w'.cell? ⟨C, 3, none⟩ = some (.slice (some ⟨b, off, none⟩) n c) ∧ w'.cell? ⟨b, off + i, none⟩ = some (.string ⟨(R i).toArray⟩))) (by kernel_rfl) ⟨p0, p1, p2, p3, q0, q1, p4, p5⟩ (fun hHeld => ?_)
  refine tkH (by assumption) 0 (oi := ?_) (v := ?_) ?_ ?_ ?_ ?_ ?_ ?_ ?_ ?_; rotate_left 2; (simp only [gA, gB, gC]; exact rfl); kernel_rfl; kernel_rfl; kernel_rfl; exact fun _ _ _ h => h; rfl; (intro w' hSw; (try dsimp only at hSw); go_simp; with_reducible rfl); simp only [Act.put, pB, pC, pD]
  refine tkH (by assumption) 1 (oi := ?_) (v := ?_) ?_ ?_ ?_ ?_ ?_ ?_ ?_ ?_; rotate_left 2; (simp only [gA, gB, gC]; exact rfl); kernel_rfl; kernel_rfl; kernel_rfl; exact fun _ _ _ h => h; rfl; (intro w' hSw; (try dsimp only at hSw); go_simp; with_reducible rfl); simp only [Act.put, pB, pC, pD]
  refine onH 2 (oi := ?_) (by kernel_rfl) ?_ ?_ (fun K hK => ?_); rotate_left; (simp only [gA, gB, gC]; exact rfl); rfl
  go_wp2_with (fail)
  refine (has_any _ _ _ _ _ _ _).mono ?_
  rintro e w1 ⟨rfl, hb1⟩
  rw [HH.out]
  go_wp2_with (fail)
  replace hb1 := undrew hb1
  have HB1 := Lib.hid (HW.out.trans (hb1.mono HW.out.size))
  replace p0 := cellk (w := w0) hb1 hB p0
  replace p1 := cellk (w := w0) hb1 hB p1
  replace p2 := cellk (w := w0) hb1 hB p2
  replace p3 := cellk (w := w0) hb1 hB p3
  replace p4 := cellk (w := w0) hb1 hC p4
  replace p5 := cellk (w := w0) hb1 hb p5
  replace q0 := cellk (w := w0) hb1 lw q0
  replace q1 := cellk (w := w0) hb1 lw q1
  refine hK.out _ _ ⟨p0, p1, p2, p3, q0, q1, p4, p5⟩ (fun hHeld2 => ?_)
  clear hK K hHeld hb1
  try simp only [Act.put, List.setIfInBounds_toArray, List.set_cons_zero, List.set_cons_succ]
  refine tkH (by assumption) 3 (oi := ?_) (v := ?_) ?_ ?_ ?_ ?_ ?_ ?_ ?_ ?_; rotate_left 2; (simp only [gA, gB, gC]; exact rfl); kernel_rfl; kernel_rfl; kernel_rfl; exact fun _ _ _ h => h; rfl; (intro w' hSw; (try dsimp only at hSw); go_simp; with_reducible rfl); simp only [Act.put, pB, pC, pD]
  refine tkH (by assumption) 4 (oi := ?_) (v := ?_) ?_ ?_ ?_ ?_ ?_ ?_ ?_ ?_; rotate_left 2; (simp only [gA, gB, gC]; exact rfl); kernel_rfl; kernel_rfl; kernel_rfl; exact fun _ _ _ h => h; rfl; (intro w' hSw; (try dsimp only at hSw); go_simp; with_reducible rfl); simp only [Act.put, pB, pC, pD]
  refine tkH (by assumption) 5 (oi := ?_) (v := ?_) ?_ ?_ ?_ ?_ ?_ ?_ ?_ ?_; rotate_left 2; (simp only [gA, gB, gC]; exact rfl); kernel_rfl; kernel_rfl; kernel_rfl; exact fun _ _ _ h => h; rfl; (intro w' hSw; (try dsimp only at hSw); go_simp; with_reducible rfl); simp only [Act.put, pB, pC, pD]
  refine tkH (by assumption) 6 (oi := ?_) (v := ?_) ?_ ?_ ?_ ?_ ?_ ?_ ?_ ?_; rotate_left 2; (simp only [gA, gB, gC]; exact rfl); kernel_rfl; kernel_rfl; kernel_rfl; exact fun _ _ _ h => h; rfl; (intro w' hSw; (try dsimp only at hSw); go_simp; with_reducible rfl); simp only [Act.put, pB, pC, pD]
  refine tkH (by assumption) 7 (oi := ?_) (v := ?_) ?_ ?_ ?_ ?_ ?_ ?_ ?_ ?_; rotate_left 2; (simp only [gA, gB, gC]; exact rfl); kernel_rfl; kernel_rfl; kernel_rfl; exact fun _ _ _ h => h; rfl; (intro w' hSw; (try dsimp only at hSw); go_simp; with_reducible rfl); simp only [Act.put, pB, pC, pD]
  refine tkH (by assumption) 8 (oi := ?_) (v := ?_) ?_ ?_ ?_ ?_ ?_ ?_ ?_ ?_; rotate_left 2; (simp only [gA, gB, gC]; exact rfl); kernel_rfl; kernel_rfl; kernel_rfl; exact fun _ _ _ h => h; rfl; (intro w' hSw; (try dsimp only at hSw); go_simp; with_reducible rfl); simp only [Act.put, pB, pC, pD]
  refine tkH (by assumption) 9 (oi := ?_) (v := ?_) ?_ ?_ ?_ ?_ ?_ ?_ ?_ ?_; rotate_left 2; (simp only [gA, gB, gC]; exact rfl); kernel_rfl; kernel_rfl; kernel_rfl; exact fun _ _ _ h => h; rfl; (intro w' hSw; (try dsimp only at hSw); go_simp; with_reducible rfl); simp only [Act.put, pB, pC, pD]
  refine tkH (by assumption) 10 (oi := ?_) (v := ?_) ?_ ?_ ?_ ?_ ?_ ?_ ?_ ?_; rotate_left 2; (simp only [gA, gB, gC]; exact rfl); kernel_rfl; kernel_rfl; kernel_rfl; exact fun _ _ _ h => h; rfl; (intro w' hSw; (try dsimp only at hSw); go_simp; with_reducible rfl); simp only [Act.put, pB, pC, pD]
  refine tkH (by assumption) 11 (oi := ?_) (v := ?_) ?_ ?_ ?_ ?_ ?_ ?_ ?_ ?_; rotate_left 2; (simp only [gA, gB, gC]; exact rfl); kernel_rfl; kernel_rfl; kernel_rfl; exact fun _ _ _ h => h; rfl; (intro w' hSw; (try dsimp only at hSw); go_simp; with_reducible rfl); simp only [Act.put, pB, pC, pD]
  refine tkH (by assumption) 12 (oi := ?_) (v := ?_) ?_ ?_ ?_ ?_ ?_ ?_ ?_ ?_; rotate_left 2; (simp only [gA, gB, gC]; exact rfl); kernel_rfl; kernel_rfl; kernel_rfl; exact fun _ _ _ h => h; rfl; (intro w' hSw; (try dsimp only at hSw); go_simp; with_reducible rfl); simp only [Act.put, pB, pC, pD]
  refine tkH (by assumption) 13 (oi := ?_) (v := ?_) ?_ ?_ ?_ ?_ ?_ ?_ ?_ ?_; rotate_left 2; (simp only [gA, gB, gC]; exact rfl); kernel_rfl; kernel_rfl; kernel_rfl; exact fun _ _ _ h => h; rfl; (intro w' hSw; (try dsimp only at hSw); go_simp; with_reducible rfl); simp only [Act.put, pB, pC, pD]
  refine tkH (by assumption) 14 (oi := ?_) (v := ?_) ?_ ?_ ?_ ?_ ?_ ?_ ?_ ?_; rotate_left 2; (simp only [gA, gB, gC]; exact rfl); kernel_rfl; kernel_rfl; kernel_rfl; exact fun _ _ _ h => h; rfl; (intro w' hSw; (try dsimp only at hSw); go_simp; with_reducible rfl); simp only [Act.put, pB, pC, pD]
  refine tkH (by assumption) 15 (oi := ?_) (v := ?_) ?_ ?_ ?_ ?_ ?_ ?_ ?_ ?_; rotate_left 2; (simp only [gA, gB, gC]; exact rfl); kernel_rfl; kernel_rfl; kernel_rfl; exact fun _ _ _ h => h; rfl; (intro w' hSw; (try dsimp only at hSw); go_simp; with_reducible rfl); simp only [Act.put, pB, pC, pD]
  refine tkH (by assumption) 16 (oi := ?_) (v := ?_) ?_ ?_ ?_ ?_ ?_ ?_ ?_ ?_; rotate_left 2; (simp only [gA, gB, gC]; exact rfl); kernel_rfl; kernel_rfl; kernel_rfl; exact fun _ _ _ h => h; rfl; (intro w' hSw; (try dsimp only at hSw); go_simp; with_reducible rfl); simp only [Act.put, pB, pC, pD]
  refine tkH (by assumption) 17 (oi := ?_) (v := ?_) ?_ ?_ ?_ ?_ ?_ ?_ ?_ ?_; rotate_left 2; (simp only [gA, gB, gC]; exact rfl); kernel_rfl; kernel_rfl; kernel_rfl; exact fun _ _ _ h => h; rfl; (intro w' hSw; (try dsimp only at hSw); go_simp; with_reducible rfl); simp only [Act.put, pB, pC, pD]
  refine tkH (by assumption) 18 (oi := ?_) (v := ?_) ?_ ?_ ?_ ?_ ?_ ?_ ?_ ?_; rotate_left 2; (simp only [gA, gB, gC]; exact rfl); kernel_rfl; kernel_rfl; kernel_rfl; exact fun _ _ _ h => h; rfl; (intro w' hSw; (try dsimp only at hSw); go_simp; with_reducible rfl); simp only [Act.put, pB, pC, pD]
  refine tkH (by assumption) 19 (oi := ?_) (v := ?_) ?_ ?_ ?_ ?_ ?_ ?_ ?_ ?_; rotate_left 2; (simp only [gA, gB, gC]; exact rfl); kernel_rfl; kernel_rfl; kernel_rfl; exact fun _ _ _ h => h; rfl; (intro w' hSw; (try dsimp only at hSw); go_simp; with_reducible rfl); simp only [Act.put, pB, pC, pD]
  refine tkH (by assumption) 20 (oi := ?_) (v := ?_) ?_ ?_ ?_ ?_ ?_ ?_ ?_ ?_; rotate_left 2; (simp only [gA, gB, gC]; exact rfl); kernel_rfl; kernel_rfl; kernel_rfl; exact fun _ _ _ h => h; rfl; (intro w' hSw; (try dsimp only at hSw); go_simp; with_reducible rfl); simp only [Act.put, pB, pC, pD]
  refine tkH (by assumption) 21 (oi := ?_) (v := ?_) ?_ ?_ ?_ ?_ ?_ ?_ ?_ ?_; rotate_left 2; (simp only [gA, gB, gC]; exact rfl); kernel_rfl; kernel_rfl; kernel_rfl; exact fun _ _ _ h => h; rfl; (intro w' hSw; (try dsimp only at hSw); go_simp; with_reducible rfl); simp only [Act.put, pB, pC, pD]
  refine tkH (by assumption) 22 (oi := ?_) (v := ?_) ?_ ?_ ?_ ?_ ?_ ?_ ?_ ?_; rotate_left 2; (simp only [gA, gB, gC]; exact rfl); kernel_rfl; kernel_rfl; kernel_rfl; exact fun _ _ _ h => h; rfl; (intro w' hSw; (try dsimp only at hSw); go_simp; with_reducible rfl); simp only [Act.put, pB, pC, pD]
  refine wpAnyH_done (by kernel_rfl) ?_ _
  go_wp2_with (fail)
  go_ret
  exact ⟨by rw [← HV.out]; rfl, HB1.out⟩
end Go.Proofs.YtllagjncibfcmaaGreatDoor

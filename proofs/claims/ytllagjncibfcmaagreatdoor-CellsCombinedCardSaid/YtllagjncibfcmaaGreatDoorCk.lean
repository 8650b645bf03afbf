/- Boxes: BoxOf, Has, Joined. -/
import Derived.Test.YtllagjncibfcmaaGreatDoorPd
import Derived.StillTailTactics
set_option linter.unusedSimpArgs false
set_option linter.unusedVariables false
namespace Go.Proofs.YtllagjncibfcmaaGreatDoor
open Go.RowKit

theorem is4 {w : World} {R : Nat} (h0 : (w.cell? ⟨R, 0, none⟩).isSome = true) (h1 : (w.cell? ⟨R, 1, none⟩).isSome = true) (h2 : (w.cell? ⟨R, 2, none⟩).isSome = true) (h3 : (w.cell? ⟨R, 3, none⟩).isSome = true) : ∀ o, o < 4 → (w.cell? ⟨R, o, none⟩).isSome = true
  | 0, _ => h0
  | 1, _ => h1
  | 2, _ => h2
  | 3, _ => h3
  | n + 4, h => absurd h (by omega)
/-- What four stores into one block leave there. -/
theorem set4 {w W : World} {R : Nat} {x0 x1 x2 x3 : Value} (h : ∀ o, o < 4 → (w.cell? ⟨R, o, none⟩).isSome = true) (hW : ((((w.setCell ⟨R, 0, none⟩ x0).setCell ⟨R, 1, none⟩ x1).setCell ⟨R, 2, none⟩ x2).setCell ⟨R, 3, none⟩ x3) = W) :
    W.cell? ⟨R, 0, none⟩ = some x0 ∧ W.cell? ⟨R, 1, none⟩ = some x1 ∧ W.cell? ⟨R, 2, none⟩ = some x2 ∧ W.cell? ⟨R, 3, none⟩ = some x3 := by
  subst hW
  refine ⟨?_, ?_, ?_, ?_⟩
  · rw [sc_other (ne_off (by decide)), sc_other (ne_off (by decide)), sc_other (ne_off (by decide))]; exact sc_same' (h 0 (by decide))
  · rw [sc_other (ne_off (by decide)), sc_other (ne_off (by decide))]; exact sc_same' (is_set (h 1 (by decide)))
  · rw [sc_other (ne_off (by decide))]; exact sc_same' (is_set (is_set (h 2 (by decide))))
  · exact sc_same' (is_set (is_set (is_set (h 3 (by decide)))))
/-- Valid cells. -/
structure VC (s x y : Int) (n : Nat) (R : Nat → List UInt8) (cx cy : Int) (m : Nat) : Prop where
  s2 : 2 ≤ s ∧ s ≤ 10000
  st : stB s = true
  n2 : n ≤ 200
  m2 : m ≤ 200
  row : ∀ i, i < n → (R i).length = m ∧ okR (R i) = true
  n0 : n = 0 → m = 0 ∧ cx = 0 ∧ cy = 0 ∧ x = 0 ∧ y = 0
  qx : x.tdiv s = cx ∧ x = cx * s
  qy : y.tdiv s = cy ∧ y = cy * s
  bx : -2000000 ≤ x ∧ x ≤ 2000000 ∧ -2000000 ≤ cx ∧ cx ≤ 2000000
  by_ : -2000000 ≤ y ∧ y ≤ 2000000 ∧ -2000000 ≤ cy ∧ cy ≤ 2000000
  tight : 0 < n → Tight (covB cx cy n R) cx cy (cx + m - 1) (cy + n - 1)
theorem VC.of {s x y : Int} {n : Nat} {R : Nat → List UInt8} (h : cellsE s x y n R = 0) : VC s x y n R (x.tdiv s) (y.tdiv s) (if n = 0 then 0 else (R 0).length) := by
  obtain ⟨h1, h2, h3, h4, h5, h6, h7, h8, h9, h10⟩ := cellsE_ok h
  obtain ⟨r1, r2, r3⟩ := rowsE_ok h3
  have hs : 2 ≤ s ∧ s ≤ 10000 := by
    have := h1; unfold stB at this; simp only [decide_eq_true_eq] at this; omega
  have qx : x = x.tdiv s * s := by have := Int.mul_tdiv_add_tmod x s; rw [h8, Int.add_zero, Int.mul_comm] at this; exact this.symm
  have qy : y = y.tdiv s * s := by have := Int.mul_tdiv_add_tmod y s; rw [h9, Int.add_zero, Int.mul_comm] at this; exact this.symm
  have bx := Int.natAbs_tdiv_le_natAbs x s
  have by_ := Int.natAbs_tdiv_le_natAbs y s
  refine ⟨hs, h1, r1, ?_, fun i hi => ?_, fun hn => ?_, ⟨rfl, qx⟩, ⟨rfl, qy⟩, by omega, by omega, fun hn => ?_⟩
  · by_cases e : n = 0
    · simp [e]
    · rw [if_neg e]; exact r3 (by omega)
  · rw [if_neg (by omega)]; exact r2 i hi
  · obtain ⟨rfl, rfl⟩ := h2 hn
    simp [hn]
  · rw [if_neg (by omega)]
    exact (edge_tight hn (fun i hi => (r2 i hi).1)).1 h10
theorem VC.size {s x y : Int} {n : Nat} {R : Nat → List UInt8} {cx cy : Int} {m : Nat} (h : VC s x y n R cx cy m) (hn : 0 < n) : 1 ≤ m := by
  have := (h.tight hn).le; omega
set_option maxRecDepth 100000 in
set_option maxHeartbeats 4000000 in
theorem boxOf_any {s x y : Int} {n : Nat} {R : Nat → List UInt8} {cx cy : Int} {m : Nat} (a : Option Addr) (c : Nat) (w : World) (hv : VC s x y n R cx cy m) (hr : RowS w a n R) :
    Calls Tryz.prog 27 #[.agg #[.int .i64 s, .int .i64 x, .int .i64 y, .slice a n c]] w fun e w' => e = .returned (.agg #[.int .i64 cx, .int .i64 cy, .int .i64 (cx + m), .int .i64 (cy + n)]) ∧ Below w.heap.size w w' := by
  by_cases hn : n = 0
  · subst hn
    obtain ⟨rfl, rfl, rfl, rfl, rfl⟩ := hv.n0 rfl
    go_enter Tryz.func27, Tryz.ntmps27
    go_wp2
    exact bodyPost_ret (v := .agg #[.int .i64 0, .int .i64 0, .int .i64 0, .int .i64 0]) (by simp [results, Tryz.results27, go_sem]) rfl ⟨rfl, (by repeat (first | exact Below.refl _ _ | assumption | refine Below.drew ?_ | refine bdrewN ?_ _ | refine Below.setCell ?_ (by first | omega | (simp <;> omega)) _ | refine Below.alloc ?_ (by first | omega | (simp <;> omega)) _))⟩
  · rcases hr with h | ⟨b, off, rfl, hb, hs⟩
    · exact absurd h hn
    have hb0 : w.cell? ⟨b, off, none⟩ = some (.string ⟨(R 0).toArray⟩) := by have := hs 0 (by omega); simpa using this
    have z0 := bsize (R 0)
    have hm := (hv.row 0 (by omega)).1
    have m2 := hv.m2
    have n2 := hv.n2
    have qx := hv.qx.1
    have qy := hv.qy.1
    have bx := hv.bx
    have by_ := hv.by_
    have s0 : ¬ s = 0 := by have := hv.s2; omega
    have hn' : ¬ (n : Int) = 0 := by omega
    have hn2 : ((n : Int) == 0) = false := by simpa using hn
    have hp : 0 < n := by omega
    have hp' : (0 : Int) < (n : Int) := by omega
    have HQ := Lib.hid hv
    clear hv hs
    rw [hm] at z0
    clear hm
    go_enter Tryz.func27, Tryz.ntmps27
    go_upto_region 3 with (fail)
    have HW : Hid (Below w.heap.size w ((w.alloc (.cells #[.int .i64 s, .int .i64 x, .int .i64 y, .slice (some ⟨b, off, none⟩) n c] 28)).alloc (.cells #[.int .i64 0, .int .i64 0, .int .i64 0, .int .i64 0] 52))) := Lib.hid (by repeat (first | exact Below.refl _ _ | assumption | refine Below.drew ?_ | refine bdrewN ?_ _ | refine Below.setCell ?_ (by first | omega | (simp <;> omega)) _ | refine Below.alloc ?_ (by first | omega | (simp <;> omega)) _))
    have p0 : ((w.alloc (.cells #[.int .i64 s, .int .i64 x, .int .i64 y, .slice (some ⟨b, off, none⟩) n c] 28)).alloc (.cells #[.int .i64 0, .int .i64 0, .int .i64 0, .int .i64 0] 52)).cell? ⟨w.heap.size, 0, none⟩ = some (.int .i64 s) := by simp [go_sem]
    have p1 : ((w.alloc (.cells #[.int .i64 s, .int .i64 x, .int .i64 y, .slice (some ⟨b, off, none⟩) n c] 28)).alloc (.cells #[.int .i64 0, .int .i64 0, .int .i64 0, .int .i64 0] 52)).cell? ⟨w.heap.size, 1, none⟩ = some (.int .i64 x) := by simp [go_sem]
    have p2 : ((w.alloc (.cells #[.int .i64 s, .int .i64 x, .int .i64 y, .slice (some ⟨b, off, none⟩) n c] 28)).alloc (.cells #[.int .i64 0, .int .i64 0, .int .i64 0, .int .i64 0] 52)).cell? ⟨w.heap.size, 2, none⟩ = some (.int .i64 y) := by simp [go_sem]
    have p3 : ((w.alloc (.cells #[.int .i64 s, .int .i64 x, .int .i64 y, .slice (some ⟨b, off, none⟩) n c] 28)).alloc (.cells #[.int .i64 0, .int .i64 0, .int .i64 0, .int .i64 0] 52)).cell? ⟨w.heap.size, 3, none⟩ = some (.slice (some ⟨b, off, none⟩) n c) := by simp [go_sem]
    have p4 : ((w.alloc (.cells #[.int .i64 s, .int .i64 x, .int .i64 y, .slice (some ⟨b, off, none⟩) n c] 28)).alloc (.cells #[.int .i64 0, .int .i64 0, .int .i64 0, .int .i64 0] 52)).cell? ⟨b, off, none⟩ = some (.string ⟨(R 0).toArray⟩) := cellk HW.out hb hb0
    have p5 : ((w.alloc (.cells #[.int .i64 s, .int .i64 x, .int .i64 y, .slice (some ⟨b, off, none⟩) n c] 28)).alloc (.cells #[.int .i64 0, .int .i64 0, .int .i64 0, .int .i64 0] 52)).heap[w.heap.size + 1]? = some (.cells #[.int .i64 0, .int .i64 0, .int .i64 0, .int .i64 0] 52 (0, 0)) := heap_new (by simp)
    change Code.wp _ _ _ _ ((w.alloc (.cells #[.int .i64 s, .int .i64 x, .int .i64 y, .slice (some ⟨b, off, none⟩) n c] 28)).alloc (.cells #[.int .i64 0, .int .i64 0, .int .i64 0, .int .i64 0] 52))
    generalize ((w.alloc (.cells #[.int .i64 s, .int .i64 x, .int .i64 y, .slice (some ⟨b, off, none⟩) n c] 28)).alloc (.cells #[.int .i64 0, .int .i64 0, .int .i64 0, .int .i64 0] 52)) = w0 at *
    have w1 : IntKind.i64.wrap cx = cx := by rw [IntKind.wrap_i64]; omega
    have w2 : IntKind.i64.wrap cy = cy := by rw [IntKind.wrap_i64]; omega
    have HH := Lib.hid p5
    clear p5 hb0
    go_quiet (fail)
    go_wp2_with (fail)
    have HW2 : Hid (Below w.heap.size w (w0.drewN nq)) := Lib.hid (bdrewN HW.out nq)
    have e3 : (w0.drewN nq).cell? ⟨w.heap.size, 3, none⟩ = some (.slice (some ⟨b, off, none⟩) n c) := p3
    have e4 : (w0.drewN nq).cell? ⟨b, off, none⟩ = some (.string ⟨(R 0).toArray⟩) := p4
    have q0 : (w0.drewN nq).cell? ⟨w.heap.size + 1, 0, none⟩ = some (.int .i64 0) := cell_of HH.out rfl
    have q1 : (w0.drewN nq).cell? ⟨w.heap.size + 1, 1, none⟩ = some (.int .i64 0) := cell_of HH.out rfl
    have q2 : (w0.drewN nq).cell? ⟨w.heap.size + 1, 2, none⟩ = some (.int .i64 0) := cell_of HH.out rfl
    have q3 : (w0.drewN nq).cell? ⟨w.heap.size + 1, 3, none⟩ = some (.int .i64 0) := cell_of HH.out rfl
    have f0 : (w0.drewN nq).frozen? ⟨w.heap.size + 1, 0, none⟩ = false := frozen_of HH.out
    have f1 : (w0.drewN nq).frozen? ⟨w.heap.size + 1, 1, none⟩ = false := frozen_of HH.out
    have f2 : (w0.drewN nq).frozen? ⟨w.heap.size + 1, 2, none⟩ = false := frozen_of HH.out
    have f3 : (w0.drewN nq).frozen? ⟨w.heap.size + 1, 3, none⟩ = false := frozen_of HH.out
    clear p0 p1 p2 p3 p4 HW
    generalize w0.drewN nq = w5 at *
    refine wp_region_still_tail 15 (by kernel_rfl) (by kernel_rfl) ?_
    simp only [List.take_succ_cons, List.take_zero, List.drop_succ_cons, List.drop_zero]
    repeat still_step
    refine wpStill_nil ?_
    change wpList _ _ _ _ _ w5.drew
    go_wp2_with (fail)
    obtain ⟨r0, r1, r2, r3⟩ := set4 (w := w5) (R := w.heap.size + 1) (x0 := .int .i64 cx) (x1 := .int .i64 cy) (x2 := .int .i64 (cx + m)) (x3 := .int .i64 (cy + n)) (is4 (is_some q0) (is_some q1) (is_some q2) (is_some q3)) rfl
    have HF : Hid (Below w.heap.size w ((((w5.setCell ⟨w.heap.size + 1, 0, none⟩ (.int .i64 cx)).setCell ⟨w.heap.size + 1, 1, none⟩ (.int .i64 cy)).setCell ⟨w.heap.size + 1, 2, none⟩ (.int .i64 (cx + m))).setCell ⟨w.heap.size + 1, 3, none⟩ (.int .i64 (cy + n)))) := Lib.hid ((((HW2.out.setCell (by show _ ≤ w.heap.size + 1; omega) _).setCell (by show _ ≤ w.heap.size + 1; omega) _).setCell (by show _ ≤ w.heap.size + 1; omega) _).setCell (by show _ ≤ w.heap.size + 1; omega) _)
    generalize ((((w5.setCell ⟨w.heap.size + 1, 0, none⟩ (.int .i64 cx)).setCell ⟨w.heap.size + 1, 1, none⟩ (.int .i64 cy)).setCell ⟨w.heap.size + 1, 2, none⟩ (.int .i64 (cx + m))).setCell ⟨w.heap.size + 1, 3, none⟩ (.int .i64 (cy + n))) = W at *
    exact bodyPost_ret (v := .agg #[.int .i64 cx, .int .i64 cy, .int .i64 (cx + m), .int .i64 (cy + n)]) (by simp [results, Tryz.results27, go_sem, r0, r1, r2, r3]) rfl ⟨rfl, HF.out.drew⟩
end Go.Proofs.YtllagjncibfcmaaGreatDoor

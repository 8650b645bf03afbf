/- Whether two sides meet. -/
import Derived.Test.YthaecpcpeelcnaaRa
import Derived.Deep.CutRange
set_option linter.unusedSimpArgs false
set_option linter.unusedVariables false
namespace Go.Proofs.Ythaecpcpeelcnaa
open Go.RowKit

theorem cell_kept {w w' : World} {b o : Nat} {v : Value} (hb : Below w.heap.size w w') (hl : b < w.heap.size) (h : w.cell? ⟨b, o, none⟩ = some v) : w'.cell? ⟨b, o, none⟩ = some v := (hb.cell (p := ⟨b, o, none⟩) hl).trans h
def mB (ax ay bx by_ cx cy dx dy : Int) : Bool := oB ax bx cx dx && (oB ay by_ cy dy && (decide (sgn (tI ax ay bx by_ cx cy) * sgn (tI ax ay bx by_ dx dy) ≤ 0) && decide (sgn (tI cx cy dx dy ax ay) * sgn (tI cx cy dx dy bx by_) ≤ 0)))
theorem sgn_b (T : Int) : -1 ≤ sgn T ∧ sgn T ≤ 1 := by unfold sgn; split <;> (try split) <;> omega
theorem sgn_mul (T U : Int) : IntKind.i64.wrap (sgn T * sgn U) = sgn T * sgn U := by
  have := mulB (M := 1) (N := 1) (sgn_b T) (sgn_b U)
  exact w64 (by omega)
set_option maxHeartbeats 4000000 in
theorem meets_far (ax ay bx by_ cx cy dx dy : Int) (w : World) (h1 : sm ax) (h2 : sm ay) (h3 : sm bx) (h4 : sm by_) (h5 : sm cx) (h6 : sm cy) (h7 : sm dx) (h8 : sm dy) (hf : (oB ax bx cx dx && oB ay by_ cy dy) = false) :
    Calls Try.prog 56 #[.agg #[.int .i64 ax, .int .i64 ay, .int .i64 bx, .int .i64 by_], .agg #[.int .i64 cx, .int .i64 cy, .int .i64 dx, .int .i64 dy]] w
      fun e w' => e = .returned (.bool false) ∧ Below w.heap.size w w' := by
  obtain ⟨O1, hO1⟩ : ∃ b, oB ax bx cx dx = b := ⟨_, rfl⟩
  obtain ⟨O2, hO2⟩ : ∃ b, oB ay by_ cy dy = b := ⟨_, rfl⟩
  rw [hO1, hO2] at hf
  have HF := Lib.hid hf
  clear hf
  have HO1 := Lib.hid hO1
  have HO2 := Lib.hid hO2
  clear hO1 hO2
  go_enter Try.func56, Try.ntmps56
  go_upto_region 1 with (fail)
  have HW : Hid (Below w.heap.size w ((w.alloc (.cells #[.int .i64 ax, .int .i64 ay, .int .i64 bx, .int .i64 by_] 94)).alloc (.cells #[.int .i64 cx, .int .i64 cy, .int .i64 dx, .int .i64 dy] 94))) := Lib.hid (by repeat (first | exact Below.refl _ _ | assumption | refine Below.drew ?_ | refine bdrewN ?_ _ | refine Below.setCell ?_ (by first | omega | (simp <;> omega)) _ | refine Below.alloc ?_ (by first | omega | (simp <;> omega)) _))
  have hA : ((w.alloc (.cells #[.int .i64 ax, .int .i64 ay, .int .i64 bx, .int .i64 by_] 94)).alloc (.cells #[.int .i64 cx, .int .i64 cy, .int .i64 dx, .int .i64 dy] 94)).heap[w.heap.size]? = some (.cells #[.int .i64 ax, .int .i64 ay, .int .i64 bx, .int .i64 by_] 94) := (by repeat (first | (refine heap_new ?_; first | rfl | (simp; done)) | rw [Below.heap_setCell _ _ _ _ (by simp <;> omega)] | rw [Below.heap_alloc _ _ _ (by simp <;> omega)]))
  have hB : ((w.alloc (.cells #[.int .i64 ax, .int .i64 ay, .int .i64 bx, .int .i64 by_] 94)).alloc (.cells #[.int .i64 cx, .int .i64 cy, .int .i64 dx, .int .i64 dy] 94)).heap[w.heap.size + 1]? = some (.cells #[.int .i64 cx, .int .i64 cy, .int .i64 dx, .int .i64 dy] 94) := (by repeat (first | (refine heap_new ?_; first | rfl | (simp; done)) | rw [Below.heap_setCell _ _ _ _ (by simp <;> omega)] | rw [Below.heap_alloc _ _ _ (by simp <;> omega)]))
  have hz : ((w.alloc (.cells #[.int .i64 ax, .int .i64 ay, .int .i64 bx, .int .i64 by_] 94)).alloc (.cells #[.int .i64 cx, .int .i64 cy, .int .i64 dx, .int .i64 dy] 94)).heap.size = w.heap.size + 1 + 1 := by simp
  change Code.wp _ _ _ _ ((w.alloc (.cells #[.int .i64 ax, .int .i64 ay, .int .i64 bx, .int .i64 by_] 94)).alloc (.cells #[.int .i64 cx, .int .i64 cy, .int .i64 dx, .int .i64 dy] 94))
  generalize ((w.alloc (.cells #[.int .i64 ax, .int .i64 ay, .int .i64 bx, .int .i64 by_] 94)).alloc (.cells #[.int .i64 cx, .int .i64 cy, .int .i64 dx, .int .i64 dy] 94)) = w0 at *
  have lg : w.heap.size < w0.heap.size := by omega
  have lk : w.heap.size + 1 < w0.heap.size := by omega
  have pa0 : w0.cell? ⟨w.heap.size, 0, none⟩ = some (.int .i64 ax) := by simp [World.cell?, hA]
  have pa1 : w0.cell? ⟨w.heap.size, 1, none⟩ = some (.int .i64 ay) := by simp [World.cell?, hA]
  have pa2 : w0.cell? ⟨w.heap.size, 2, none⟩ = some (.int .i64 bx) := by simp [World.cell?, hA]
  have pa3 : w0.cell? ⟨w.heap.size, 3, none⟩ = some (.int .i64 by_) := by simp [World.cell?, hA]
  have pb0 : w0.cell? ⟨w.heap.size + 1, 0, none⟩ = some (.int .i64 cx) := by simp [World.cell?, hB]
  have pb1 : w0.cell? ⟨w.heap.size + 1, 1, none⟩ = some (.int .i64 cy) := by simp [World.cell?, hB]
  have pb2 : w0.cell? ⟨w.heap.size + 1, 2, none⟩ = some (.int .i64 dx) := by simp [World.cell?, hB]
  have pb3 : w0.cell? ⟨w.heap.size + 1, 3, none⟩ = some (.int .i64 dy) := by simp [World.cell?, hB]
  have HZ := Lib.hid hz
  clear hA hB hz
  go_wp2_with (fail)
  refine (overlap_any ax bx cx dx _).mono ?_
  rintro e w1 ⟨rfl, hb1⟩
  rw [HO1.out]
  have qa0 := cell_kept hb1 lg pa0
  have qa1 := cell_kept hb1 lg pa1
  have qa2 := cell_kept hb1 lg pa2
  have qa3 := cell_kept hb1 lg pa3
  have qb0 := cell_kept hb1 lk pb0
  have qb1 := cell_kept hb1 lk pb1
  have qb2 := cell_kept hb1 lk pb2
  have qb3 := cell_kept hb1 lk pb3
  have s1 := hb1.size
  have B1 := Lib.hid (HW.out.trans (hb1.mono HW.out.size))
  have lg1 := Nat.lt_of_lt_of_le lg s1
  have lk1 := Nat.lt_of_lt_of_le lk s1
  clear pa0 pa1 pa2 pa3 pb0 pb1 pb2 pb3
  clear hb1 s1 lg lk
  have lg := lg1
  have lk := lk1
  clear lg1 lk1
  rcases O1 with _ | _
  · go_wp2
    go_ret
    exact ⟨rfl, B1.out⟩
  go_wp2_with (fail)
  refine (overlap_any ay by_ cy dy _).mono ?_
  rintro e w2 ⟨rfl, hb2⟩
  rw [HO2.out]
  have ra0 := cell_kept hb2 lg qa0
  have ra1 := cell_kept hb2 lg qa1
  have ra2 := cell_kept hb2 lg qa2
  have ra3 := cell_kept hb2 lg qa3
  have rb0 := cell_kept hb2 lk qb0
  have rb1 := cell_kept hb2 lk qb1
  have rb2 := cell_kept hb2 lk qb2
  have rb3 := cell_kept hb2 lk qb3
  have s2 := hb2.size
  have B2 := Lib.hid (B1.out.trans (hb2.mono B1.out.size))
  have lg1 := Nat.lt_of_lt_of_le lg s2
  have lk1 := Nat.lt_of_lt_of_le lk s2
  clear qa0 qa1 qa2 qa3 qb0 qb1 qb2 qb3
  clear hb2 s2 lg lk
  have lg := lg1
  have lk := lk1
  clear lg1 lk1
  rcases O2 with _ | _
  · go_wp2
    go_ret
    exact ⟨rfl, B2.out⟩
  · exact absurd HF.out (by simp)
end Go.Proofs.Ythaecpcpeelcnaa

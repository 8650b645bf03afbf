/- What stands behind every law on parts, regions, paths, flows and farms: three calls on constants. -/
import Derived.Test.YthaecpcpeelcnaaZu
import Derived.Test.YthaecpcpeelcnaaRi
set_option linter.unusedSimpArgs false
set_option linter.unusedVariables false
namespace Go.Proofs.Ythaecpcpeelcnaa
open Go.RowKit Go.Maps
set_option maxRecDepth 100000 in
set_option maxHeartbeats 4000000 in
theorem checkBeads_one (g : Nat) (w : World) (h : w.heap[g]? = some (.cells #[.int .i64 10, .int .i64 3, .int .i64 2] 35 (0, 0))) :
    Calls Try.prog 23 #[.slice (some ⟨g, 0, none⟩) 1 1] w fun e w' => e = .returned (.int .i64 0) ∧ Below w.heap.size w w' := by
  have hg := lt_of_heap h
  have c0 : w.cell? ⟨g, 0, none⟩ = some (.int .i64 10) := cell_of h (i := 0) rfl
  have c1 : w.cell? ⟨g, 1, none⟩ = some (.int .i64 3) := cell_of h (i := 1) rfl
  have c2 : w.cell? ⟨g, 2, none⟩ = some (.int .i64 2) := cell_of h (i := 2) rfl
  clear h
  go_enter Try.func23, Try.ntmps23
  go_wp2_with (fail)
  refine wp_loop_rounds 2 ?_
  rw [rounds_succ]
  go_wp2_with (go_at_call 24; refine (withinC _ _ _ _ (by decide) (by decide)).mono ?_; rintro e w' ⟨rfl, rfl⟩)
  rw [rounds_succ]
  go_wp2
  go_ret
  exact ⟨rfl, (by repeat (first | exact Below.refl _ _ | assumption | refine Below.drew ?_ | refine bdrewN ?_ _ | refine Below.setCell ?_ (by first | omega | (simp <;> omega)) _ | refine Below.alloc ?_ (by first | omega | (simp <;> omega)) _))⟩
set_option maxRecDepth 100000 in
set_option maxHeartbeats 4000000 in
theorem volume_one (g : Nat) (w : World) (h : w.heap[g]? = some (.cells #[.int .i64 10, .int .i64 3, .int .i64 2] 35 (0, 0))) :
    Calls Try.prog 13 #[.slice (some ⟨g, 0, none⟩) 1 1] w fun e w' => e = .returned (.tuple #[.int .i64 60, .int .i64 0]) ∧ Below w.heap.size w w' := by
  go_enter Try.func13, Try.ntmps13
  go_wp2_with (fail)
  refine (checkBeads_one g w h).mono ?_
  rintro e w1 ⟨rfl, hb⟩
  replace h := heap_keep hb h
  have hg := lt_of_heap h
  have c0 : w1.cell? ⟨g, 0, none⟩ = some (.int .i64 10) := cell_of h (i := 0) rfl
  have c1 : w1.cell? ⟨g, 1, none⟩ = some (.int .i64 3) := cell_of h (i := 1) rfl
  have c2 : w1.cell? ⟨g, 2, none⟩ = some (.int .i64 2) := cell_of h (i := 2) rfl
  have B1 := Lib.hid hb
  clear hb h
  go_wp2_with (fail)
  refine wp_loop_rounds 2 ?_
  rw [rounds_succ]
  go_wp2
  rw [rounds_succ]
  go_wp2
  go_ret2
  exact ⟨rfl, Below.trans B1.out (Below.mono (show Below w1.heap.size w1 _ from (by repeat (first | exact Below.refl _ _ | assumption | refine Below.drew ?_ | refine bdrewN ?_ _ | refine Below.setCell ?_ (by first | omega | (simp <;> omega)) _ | refine Below.alloc ?_ (by first | omega | (simp <;> omega)) _))) B1.out.size)⟩
def RDp : Obj := .cells #[.int .i64 10, .int .i64 3, .int .i64 2] 35
set_option maxRecDepth 100000 in
set_option maxHeartbeats 4000000 in
theorem ready_any (w : World) : Calls Try.prog 8 #[] w fun e w' => e = .returned (.bool true) ∧ Below w.heap.size w w' := by
  have HB := Lib.hid (show Below w.heap.size w (w.alloc (.cells #[.int .i64 10, .int .i64 3, .int .i64 2] 35)) from (Below.refl _ _).alloc (Nat.le_refl _) _)
  have H0 := Lib.hid (heap_alloc_new w (.cells #[.int .i64 10, .int .i64 3, .int .i64 2] 35))
  go_enter Try.func8, Try.ntmps8
  go_wp2_with (fail)
  refine (volume_one w.heap.size _ H0.out).mono ?_
  rintro e w1 ⟨rfl, hb⟩
  have B1 := Lib.hid (HB.out.trans (hb.mono HB.out.size))
  clear hb H0 HB
  go_upto_region 2 with (fail)
  go_wp2_with (fail)
  refine (area_square w1 _ _ rfl (by simp) 1).mono ?_
  rintro e w2 ⟨rfl, hb⟩
  have B2 := Lib.hid (B1.out.trans (hb.mono B1.out.size))
  clear hb B1
  go_upto_region 3 with (fail)
  have hb : Below w2.heap.size w2 ((((w2.alloc (.cells #[.string ⟨#[112]⟩, .string ⟨#[97]⟩] 56)).alloc (.cells #[.string ⟨#[106]⟩, .string ⟨#[98]⟩, .int .i64 20, .int .i64 0] 59)).alloc (.cells #[.int .i64 0] 3)).alloc (.cells #[.slice (some ⟨w2.heap.size + 1 + 1, 0, none⟩) 1 1] 22)) := (by repeat (first | exact Below.refl _ _ | assumption | refine Below.drew ?_ | refine bdrewN ?_ _ | refine Below.setCell ?_ (by first | omega | (simp <;> omega)) _ | refine Below.alloc ?_ (by first | omega | (simp <;> omega)) _))
  have B3 := Lib.hid (B2.out.trans (hb.mono B2.out.size))
  clear hb
  go_wp2_with (fail)
  refine (ends_one (w2.heap.size) (w2.heap.size + 1) (w2.heap.size + 1 + 1 + 1) (w2.heap.size + 1 + 1) _ (by repeat (first | (refine heap_new ?_; first | rfl | (simp; done)) | rw [Below.heap_setCell _ _ _ _ (by simp <;> omega)] | rw [Below.heap_alloc _ _ _ (by simp <;> omega)])) (by repeat (first | (refine heap_new ?_; first | rfl | (simp; done)) | rw [Below.heap_setCell _ _ _ _ (by simp <;> omega)] | rw [Below.heap_alloc _ _ _ (by simp <;> omega)])) (by repeat (first | (refine heap_new ?_; first | rfl | (simp; done)) | rw [Below.heap_setCell _ _ _ _ (by simp <;> omega)] | rw [Below.heap_alloc _ _ _ (by simp <;> omega)])) (by repeat (first | (refine heap_new ?_; first | rfl | (simp; done)) | rw [Below.heap_setCell _ _ _ _ (by simp <;> omega)] | rw [Below.heap_alloc _ _ _ (by simp <;> omega)]))).mono ?_
  rintro e w3 ⟨⟨a, c, rfl⟩, hb⟩
  have B4 := Lib.hid (B3.out.trans (hb.mono B3.out.size))
  clear hb
  go_wp2_with (fail)
  go_ret
  exact ⟨rfl, B4.out⟩
end Go.Proofs.Ythaecpcpeelcnaa

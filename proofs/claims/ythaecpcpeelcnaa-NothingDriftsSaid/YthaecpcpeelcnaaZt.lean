/- The plan of one printer and one job: when it ends. -/
import Derived.Test.YthaecpcpeelcnaaZs
import Derived.Deep.Cut
set_option linter.unusedSimpArgs false
set_option linter.unusedVariables false
namespace Go.Proofs.Ythaecpcpeelcnaa
open Go.RowKit Go.Maps
theorem boolZ_inv {e : TypeId} (he : Try.prog.underlying e = some .bool) {v : Value} {z : DataW Unit × List MemPlace} (h : plainElem Try.prog e v = some z) : ∃ x : Bool, v = .bool x ∧ z = (.lit (.bool x), []) := by
  unfold plainElem at h
  rw [he] at h
  cases v <;> simp at h
  exact ⟨_, rfl, h.symm⟩
theorem zeroBoolZ (w : World) : (zeroValue 4).run Try.prog w = .ok (.bool false) w := by kernel_rfl
theorem key_zero : keyOf Try.prog 3 (.int .i64 0) = some (.int .i64 0) := keyOf_int_mk Try.underlying3 (WalkArith.wf_i64 (by omega))
theorem keyedZ : Keyed Try.prog 3 := int_keyed Try.underlying3
theorem look_empty {W : World} {base : Nat} (ho : W.ownsMap (H := Unit) Try.prog 3 (plainElem Try.prog 4) base 0 (.map [])) :
    (Instr.lookup 80 (.map (some base)) (.int .i64 0) false).run Try.prog W = .ok (.bool false) W := by
  obtain ⟨v, ps, hrun, hv⟩ := ho.lookup keyedZ Try.underlying80 (zeroBoolZ _) (plainElem_bool Try.underlying4 false) key_zero
  obtain ⟨x, rfl, hx⟩ := boolZ_inv Try.underlying4 hv
  have h0 : (DataW.map []).atKey (.int .i64 0) (.lit (.bool false)) = (DataW.lit (.bool false) : DataW Unit) := rfl
  rw [h0] at hx
  simp at hx
  obtain rfl := hx.1
  exact hrun
set_option maxRecDepth 100000 in
set_option maxHeartbeats 4000000 in
theorem checkPlan_one (g k l i : Nat) (w : World) (h : w.heap[g]? = some (.cells #[.string ⟨#[112]⟩, .string ⟨#[97]⟩] 56 (0, 0))) (h2 : w.heap[k]? = some (.cells #[.string ⟨#[106]⟩, .string ⟨#[98]⟩, .int .i64 20, .int .i64 0] 59 (0, 0)))
    (h3 : w.heap[l]? = some (.cells #[.slice (some ⟨i, 0, none⟩) 1 1] 22 (0, 0))) (h4 : w.heap[i]? = some (.cells #[.int .i64 0] 3 (0, 0))) :
    Calls Try.prog 34 #[.slice (some ⟨g, 0, none⟩) 1 1, .slice (some ⟨k, 0, none⟩) 1 1, .slice (some ⟨l, 0, none⟩) 1 1] w fun e w' => e = .returned (.int .i64 0) ∧ Below w.heap.size w w' := by
  have HL := Lib.hid h3
  have HI := Lib.hid h4
  clear h3 h4
  go_enter Try.func34, Try.ntmps34
  go_wp2_with (fail)
  refine (checkBoth_one g k w h h2).mono ?_
  rintro e w1 ⟨rfl, hb⟩
  have hl1 := heap_keep hb HL.out
  have hi1 := heap_keep hb HI.out
  have hll := lt_of_heap hl1
  have hii := lt_of_heap hi1
  have c0 : w1.cell? ⟨l, 0, none⟩ = some (.slice (some ⟨i, 0, none⟩) 1 1) := cell_of hl1 (i := 0) rfl
  have c1 : w1.cell? ⟨i, 0, none⟩ = some (.int .i64 0) := cell_of hi1 (i := 0) rfl
  have B1 := Lib.hid hb
  have hmm := @run_makeMap Try.prog
  have HM0 := Lib.hid (World.ownsMap_made (H := Unit) w1 Try.prog 3 (plainElem Try.prog 4))
  have BM := Lib.hid (show Below w1.heap.size w1 (w1.alloc (.map #[] 0)) from (Below.refl _ _).alloc (Nat.le_refl _) _)
  have hlk := look_empty HM0.out
  clear hb h h2 hl1 hi1
  go_wp2_with (fail)
  refine wp_loop_rounds 2 ?_
  rw [rounds_succ]
  go_wp2_with (fail)
  refine wp_loop_rounds 2 ?_
  rw [rounds_succ]
  go_wp2_with (at_mapUpdate; refine wpList_mapUpdate_own _ rfl _ _ _ 80 rfl 3 4 keyedZ Try.underlying80 _ w1.heap.size 0 _ rfl HM0.out (by unfold maxLen; omega) _ _ _ rfl rfl key_zero _ [] (plainElem_bool Try.underlying4 true) ?_; intro w4 hown4 hgrow4; have HO4 := Lib.hid hown4; have HG4 := Lib.hid hgrow4; clear hown4 hgrow4)
  rw [rounds_succ]
  go_wp2_with (fail)
  rw [rounds_succ]
  have hsz : Maps.size ((DataW.map [] : DataW Unit).put (.int .i64 0) (.lit (.bool true))) = 1 := by rfl
  have HZ := Lib.hid hsz
  clear hsz
  go_upto_region 20 with (fail)
  go_wp2_with (at_len; refine wpList_len_own _ rfl _ 80 rfl 3 4 Try.underlying80 (plainElem (H := Unit) Try.prog 4) w1.heap.size _ _ rfl HO4.out ?_; rw [HZ.out])
  go_ret
  exact ⟨rfl, B1.out.trans (Below.mono (BM.out.grown HG4.out (by simp) (fun b hb => by cases hb; exact Nat.le_refl _)) B1.out.size)⟩
end Go.Proofs.Ythaecpcpeelcnaa

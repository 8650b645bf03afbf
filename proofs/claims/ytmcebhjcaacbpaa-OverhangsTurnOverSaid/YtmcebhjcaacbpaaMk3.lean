/- Meshes, as they are drawn: blocks. -/
import Derived.Test.YtmcebhjcaacbpaaMk2
set_option linter.unusedSimpArgs false
set_option linter.unusedVariables false
namespace Go.Proofs.Ytmcebhjcaacbpaa
open Go.RowKit

theorem info_vec : (Try.prog.info? 39).map (fun i => (i.zero, i.size, i.bytes)) = some (some (.agg #[.int .i64 0, .int .i64 0, .int .i64 0]), 3, 24) := by kernel_rfl
theorem info_face : (Try.prog.info? 47).map (fun i => (i.zero, i.size, i.bytes)) = some (some (.agg #[.int .i64 0, .int .i64 0, .int .i64 0]), 3, 24) := by kernel_rfl

/-- The corners of a block's sides. -/
def qlist : List Int := [0, 2, 3, 1, 4, 5, 7, 6, 0, 1, 5, 4, 2, 6, 7, 3, 0, 4, 6, 2, 1, 3, 7, 5]
def qarr : Array Value := (qlist.map (Value.int .i64)).toArray
theorem quad_cell {w : World} {b : Nat} {t : TypeId} (h : w.heap[b]? = some (.cells qarr t (0, 0))) (i : Nat) (hi : i < 24) : ∃ z : Int, w.cell? ⟨b, i, none⟩ = some (.int .i64 z) ∧ (0 ≤ z ∧ z < 8) := by
  have hl : qlist.length = 24 := rfl
  have hP : ∀ z ∈ qlist, 0 ≤ z ∧ z < 8 := by decide
  refine ⟨qlist[i]'(by omega), ?_, hP _ (List.getElem_mem _)⟩
  simp [World.cell?, h, qarr, hl, hi]

set_option maxRecDepth 100000 in
set_option maxHeartbeats 4000000 in
theorem block_any (x y z p q r : Int) (w : World) (hx : -2000000000000 ≤ x ∧ x ≤ 2000000000000) (hy : -2000000000000 ≤ y ∧ y ≤ 2000000000000) (hz : -2000000000000 ≤ z ∧ z ≤ 2000000000000)
    (hp : 0 ≤ p ∧ p ≤ 1000) (hq : 0 ≤ q ∧ q ≤ 1000) (hr : 0 ≤ r ∧ r ≤ 1000) :
    Calls Try.prog 40 #[.agg #[.int .i64 x, .int .i64 y, .int .i64 z], .int .i64 p, .int .i64 q, .int .i64 r] w (MeshMade w 8 12) := by
  obtain ⟨i0, hi0, hz0, hz1, hz2⟩ := info_parts info_vec
  obtain ⟨i1, hi1, hy0, hy1, hy2⟩ := info_parts info_face
  go_enter Try.func40, Try.ntmps40
  go_wp2
  generalize hw3 : ((w.alloc (Obj.cells #[Value.int IntKind.i64 x, Value.int IntKind.i64 y, Value.int IntKind.i64 z] 39)).alloc (Obj.cells #[Value.slice none 0 0, Value.slice none 0 0] 29)).alloc (Obj.cells #[Value.slice none 0 0, Value.slice none 0 0] 29) = w3
  have hA : w3.heap[w.heap.size]? = some (.cells #[.int .i64 x, .int .i64 y, .int .i64 z] 39 (0, 0)) := by rw [← hw3]; exact (by repeat (first | (refine heap_new ?_; first | rfl | (simp; done)) | rw [Below.heap_setCell _ _ _ _ (by simp <;> omega)] | rw [Below.heap_alloc _ _ _ (by simp <;> omega)]))
  have hR : w3.heap[w.heap.size + 1]? = some (.cells #[.slice none 0 0, .slice none 0 0] 29 (0, 0)) := by rw [← hw3]; exact (by repeat (first | (refine heap_new ?_; first | rfl | (simp; done)) | rw [Below.heap_setCell _ _ _ _ (by simp <;> omega)] | rw [Below.heap_alloc _ _ _ (by simp <;> omega)]))
  have hM : w3.heap[w.heap.size + 1 + 1]? = some (.cells #[.slice none 0 0, .slice none 0 0] 29 (0, 0)) := by rw [← hw3]; exact (by repeat (first | (refine heap_new ?_; first | rfl | (simp; done)) | rw [Below.heap_setCell _ _ _ _ (by simp <;> omega)] | rw [Below.heap_alloc _ _ _ (by simp <;> omega)]))
  have B3 : Below w.heap.size w w3 := by rw [← hw3]; exact (by repeat (first | exact Below.refl _ _ | assumption | refine Below.drew ?_ | refine bdrewN ?_ _ | refine Below.setCell ?_ (by first | omega | (simp <;> omega)) _ | refine Below.alloc ?_ (by first | omega | (simp <;> omega)) _))
  have z3 : w3.heap.size = w.heap.size + 1 + 1 + 1 := by rw [← hw3]; simp
  have HA := Lib.hid hA
  have HR := Lib.hid hR
  have HM := Lib.hid hM
  have HZ := Lib.hid z3
  have z3' : w.heap.size + 1 + 1 < w3.heap.size := by omega
  clear hA hR hM hw3 z3
  go_loopw [13] (fun i wr => ∃ j : Nat, j ≤ 8 ∧ i = .int .i64 j ∧ (∃ sv xs, wr.heap[w.heap.size + 1 + 1]? = some (.cells #[sv, .slice none 0 0] 29 (0, 0)) ∧ wr.ownsRow (w.heap.size + 1 + 1 + 1) 39 3 sv j xs ∧ AllInt (fun _ => True) xs) ∧ Below (w.heap.size + 1 + 1) w3 wr) (fun i _ => 8 - (intOf i).toNat)
  case atStart => exact ⟨0, by omega, rfl, ⟨_, _, HM.out, World.ownsRow_nil _ _ _ _, AllInt.nil⟩, Below.refl _ _⟩
  case round =>
    obtain ⟨j, hj, rfl, ⟨sv, xs, hm, hown, hint⟩, hbel⟩ := hrel
    obtain ⟨ao, co, rfl⟩ := own_slice' hown
    have hsz := hbel.size
    have HO := Lib.hid hown
    have HI := Lib.hid hint
    have HM2 := Lib.hid hm
    have ha := (hbel.block w.heap.size (by omega)).trans HA.out
    have ac0 : wr.cell? ⟨w.heap.size, 0, none⟩ = some (.int .i64 x) := (by simp [World.cell?, ha]); have af0 : wr.frozen? ⟨w.heap.size, 0, none⟩ = false := (by simp [World.frozen?, ha]); have ac1 : wr.cell? ⟨w.heap.size, 1, none⟩ = some (.int .i64 y) := (by simp [World.cell?, ha]); have af1 : wr.frozen? ⟨w.heap.size, 1, none⟩ = false := (by simp [World.frozen?, ha]); have ac2 : wr.cell? ⟨w.heap.size, 2, none⟩ = some (.int .i64 z) := (by simp [World.cell?, ha]); have af2 : wr.frozen? ⟨w.heap.size, 2, none⟩ = false := (by simp [World.frozen?, ha])
    have mc0 : wr.cell? ⟨w.heap.size + 1 + 1, 0, none⟩ = some (.slice ao j co) := (by simp [World.cell?, hm]); have mf0 : wr.frozen? ⟨w.heap.size + 1 + 1, 0, none⟩ = false := (by simp [World.frozen?, hm]); have mc1 : wr.cell? ⟨w.heap.size + 1 + 1, 1, none⟩ = some (.slice none 0 0) := (by simp [World.cell?, hm]); have mf1 : wr.frozen? ⟨w.heap.size + 1 + 1, 1, none⟩ = false := (by simp [World.frozen?, hm])
    clear hown hint hm ha
    by_cases hlt : j < 8
    · go_wp2_with (at_builtin; refine wpList_append_lies _ rfl _ _ 26 rfl (w.heap.size + 1 + 1 + 1) 39 i0 (.agg #[.int .i64 0, .int .i64 0, .int .i64 0]) 3 24 Try.underlying26 hi0 hz0 hz1 hz2 rfl (by decide) _ _ _ rfl (HO.out.alloc _) ⟨wr.heap.size, 0, none⟩ 1 1 [.int .i64 (wrap64 (x + wrap64 (p * ((j : Int) % 2)))), .int .i64 (wrap64 (y + wrap64 (q * ((j : Int) / 2 % 2)))), .int .i64 (wrap64 (z + wrap64 (r * ((j : Int) / 4))))] rfl rfl (World.news_of_block (cs := #[.int .i64 (wrap64 (x + wrap64 (p * ((j : Int) % 2)))), .int .i64 (wrap64 (y + wrap64 (q * ((j : Int) / 2 % 2)))), .int .i64 (wrap64 (z + wrap64 (r * ((j : Int) / 4))))]) (t := 39) (fr := (0, 0)) (heap_alloc_new wr _)) (by simp [Value.oneCell']) (by omega) (by unfold maxLen; omega) (by omega) (by simp; omega) (wr.heap.size + 1) (by simp) ?_; intro g cap' w4 hown4 hgrow hat hlt4; have hm4 := grow_keep hgrow ((Below.heap_alloc wr _ _ (lt_of_heap HM2.out)).trans HM2.out) (own_ne HO.out HM2.out (by decide)); have nc0 : w4.cell? ⟨w.heap.size + 1 + 1, 0, none⟩ = some (.slice ao j co) := (by simp [World.cell?, hm4]); have nf0 : w4.frozen? ⟨w.heap.size + 1 + 1, 0, none⟩ = false := (by simp [World.frozen?, hm4]); have nc1 : w4.cell? ⟨w.heap.size + 1 + 1, 1, none⟩ = some (.slice none 0 0) := (by simp [World.cell?, hm4]); have nf1 : w4.frozen? ⟨w.heap.size + 1 + 1, 1, none⟩ = false := (by simp [World.frozen?, hm4]); have HM4 := Lib.hid hm4; clear hm4)
      have HO4 := Lib.hid hown4
      have HG := Lib.hid hgrow
      clear hown4 hgrow
      have R1 : Below (w.heap.size + 1 + 1) w3 w4 := (hbel.alloc (by omega) _).grown HG.out (by simp; omega) (fun k hk => by have := (HO.out.lt k hk).1; omega)
      go_roundw
      case rel => exact ⟨j + 1, by omega, by go_num, ⟨_, _, set2_0 HM4.out, own_set HO4.out HM4.out (by decide), HI.out.app (AllInt.cons trivial (AllInt.cons trivial (AllInt.cons trivial AllInt.nil)))⟩, R1.setCell (by show _ ≤ w.heap.size + 1 + 1; omega) _⟩
      case measure => simp [intOf]; omega
    · obtain rfl : j = 8 := by omega
      clear HA
      obtain ⟨wo, rfl⟩ : ∃ wo : World, wo = wr := ⟨_, rfl⟩
      go_wp2
      have hq : (wo.alloc (.cells qarr 122)).heap[wo.heap.size]? = some (.cells qarr 122 (0, 0)) := heap_alloc_new wo _
      have R0 : Below (w.heap.size + 1 + 1) w3 (wo.alloc (.cells qarr 122)) := hbel.alloc (by omega) _
      have hm0 := (Below.heap_alloc wo (.cells qarr 122) _ (lt_of_heap HM2.out)).trans HM2.out
      have HO0 := Lib.hid (HO.out.alloc (.cells qarr 122))
      have HQ0 := Lib.hid hq
      have HM0 := Lib.hid hm0
      have HR0 := Lib.hid R0
      clear hq hm0 R0 HO HM2 HM HZ
      change Code.wp _ _ _ _ (wo.alloc (.cells qarr 122))
      generalize wo.alloc (.cells qarr 122) = w5 at *
      go_loopw [53] (fun i wr => ∃ j : Nat, j ≤ 6 ∧ i = .int .i64 j ∧ (∃ sf ys, wr.heap[w.heap.size + 1 + 1]? = some (.cells #[.slice ao 8 co, sf] 29 (0, 0)) ∧ wr.ownsRow (w.heap.size + 1 + 1 + 1) 39 3 (.slice ao 8 co) 8 xs ∧ wr.ownsRow (w.heap.size + 1 + 1 + 1) 47 3 sf (2 * j) ys ∧ AllInt (fun z => 0 ≤ z ∧ z < 8) ys) ∧ wr.heap[wo.heap.size]? = some (.cells qarr 122 (0, 0)) ∧ Below (w.heap.size + 1 + 1) w3 wr) (fun i _ => 6 - (intOf i).toNat)
      case atStart => exact ⟨0, by omega, rfl, ⟨_, _, HM0.out, HO0.out, World.ownsRow_nil _ _ _ _, AllInt.nil⟩, HQ0.out, HR0.out⟩
      case round =>
        obtain ⟨j, hj, rfl, ⟨sf, ys, hm, hown, hownf, hintf⟩, hq, hbel2⟩ := hrel
        obtain ⟨af, cf, rfl⟩ := own_slice' hownf
        have hsz2 := hbel2.size
        have hlq := lt_of_heap hq
        have hlm := lt_of_heap hm
        have HO5 := Lib.hid hown
        have HF5 := Lib.hid hownf
        have HI5 := Lib.hid hintf
        have HM5 := Lib.hid hm
        have HQ5 := Lib.hid hq
        have mc0 : wr.cell? ⟨w.heap.size + 1 + 1, 0, none⟩ = some (.slice ao 8 co) := (by simp [World.cell?, hm]); have mf0 : wr.frozen? ⟨w.heap.size + 1 + 1, 0, none⟩ = false := (by simp [World.frozen?, hm]); have mc1 : wr.cell? ⟨w.heap.size + 1 + 1, 1, none⟩ = some (.slice af (2 * j) cf) := (by simp [World.cell?, hm]); have mf1 : wr.frozen? ⟨w.heap.size + 1 + 1, 1, none⟩ = false := (by simp [World.frozen?, hm])
        by_cases hlt : j < 6
        · obtain ⟨z0, q0, p0⟩ := quad_cell hq (j * 4) (by omega)
          obtain ⟨z1, q1, p1⟩ := quad_cell hq (j * 4 + 1) (by omega)
          obtain ⟨z2, q2, p2⟩ := quad_cell hq (j * 4 + 2) (by omega)
          obtain ⟨z3, q3, p3⟩ := quad_cell hq (j * 4 + 3) (by omega)
          have HP := Lib.hid (And.intro p0 (And.intro p1 (And.intro p2 p3)))
          clear hown hownf hintf hm hq p0 p1 p2 p3
          go_wp2_with (at_builtin; refine wpList_append_lies _ rfl _ _ 27 rfl (w.heap.size + 1 + 1 + 1) 47 i1 (.agg #[.int .i64 0, .int .i64 0, .int .i64 0]) 3 24 Try.underlying27 hi1 hy0 hy1 hy2 rfl (by decide) _ _ _ rfl ((HF5.out.alloc _).alloc _) ⟨wr.heap.size + 1, 0, none⟩ 2 2 [.int .i64 z0, .int .i64 z1, .int .i64 z2, .int .i64 z0, .int .i64 z2, .int .i64 z3] rfl rfl (World.news_of_block (cs := #[.int .i64 z0, .int .i64 z1, .int .i64 z2, .int .i64 z0, .int .i64 z2, .int .i64 z3]) (t := 47) (fr := (0, 0)) (heap_new (by simp))) (by simp [Value.oneCell']) (by omega) (by unfold maxLen; omega) (by omega) (by simp; omega) (wr.heap.size + 1 + 1) (by simp) ?_; intro g cap' w6 hown6 hgrow hat hlt6; have hm6 := grow_keep hgrow ((Below.heap_alloc _ _ _ (by simp; omega)).trans ((Below.heap_alloc wr _ _ hlm).trans HM5.out)) (own_ne HF5.out HM5.out (by decide)); have nc0 : w6.cell? ⟨w.heap.size + 1 + 1, 0, none⟩ = some (.slice ao 8 co) := (by simp [World.cell?, hm6]); have nf0 : w6.frozen? ⟨w.heap.size + 1 + 1, 0, none⟩ = false := (by simp [World.frozen?, hm6]); have nc1 : w6.cell? ⟨w.heap.size + 1 + 1, 1, none⟩ = some (.slice af (2 * j) cf) := (by simp [World.cell?, hm6]); have nf1 : w6.frozen? ⟨w.heap.size + 1 + 1, 1, none⟩ = false := (by simp [World.frozen?, hm6]); have HM6 := Lib.hid hm6; clear hm6)
          have HO6 := Lib.hid (own_grown HO5.out HF5.out (by decide) _ _ hgrow)
          have HQ6 := Lib.hid (grow_keep hgrow ((Below.heap_alloc _ _ _ (by simp; omega)).trans ((Below.heap_alloc wr _ _ hlq).trans HQ5.out)) (own_ne HF5.out HQ5.out (by decide)))
          have R6 : Below (w.heap.size + 1 + 1) w3 w6 := ((hbel2.alloc (by omega) _).alloc (by simp; omega) _).grown hgrow (by simp; omega) (fun k hk => by have := (HF5.out.lt k hk).1; omega)
          have HF6 := Lib.hid hown6
          clear hgrow hown6 hat
          obtain ⟨p0, p1, p2, p3⟩ := HP.out
          go_roundw
          case rel =>
            (repeat apply Exists.intro)
            exact ⟨⟨j + 1, by omega, by go_num, ⟨_, _, set2_1 HM6.out, own_set HO6.out HM6.out (by decide), own_set HF6.out HM6.out (by decide), HI5.out.app (AllInt.cons p0 (AllInt.cons p1 (AllInt.cons p2 (AllInt.cons p0 (AllInt.cons p2 (AllInt.cons p3 AllInt.nil))))))⟩, (Below.heap_setCell _ _ _ _ (by show wo.heap.size ≠ w.heap.size + 1 + 1; omega)).trans HQ6.out, R6.setCell (by show _ ≤ w.heap.size + 1 + 1; omega) _⟩, rfl⟩
          case measure => simp [intOf]; omega
        · obtain rfl : j = 6 := by omega
          have hr := (hbel2.block (w.heap.size + 1) (by omega)).trans HR.out
          have hne : w.heap.size + 1 ≠ w.heap.size + 1 + 1 := by omega
          have rc0 : wr.cell? ⟨w.heap.size + 1, 0, none⟩ = some (.slice none 0 0) := (by simp [World.cell?, hr]); have rf0 : wr.frozen? ⟨w.heap.size + 1, 0, none⟩ = false := (by simp [World.frozen?, hr]); have rc1 : wr.cell? ⟨w.heap.size + 1, 1, none⟩ = some (.slice none 0 0) := (by simp [World.cell?, hr]); have rf1 : wr.frozen? ⟨w.heap.size + 1, 1, none⟩ = false := (by simp [World.frozen?, hr])
          have HR9 := Lib.hid hr
          clear hown hownf hintf hm hq hr
          go_wp2
          have hr' := HR9.out
          have HE : Hid (MeshMade w 8 12 (.returned (.agg #[.slice ao 8 co, .slice af 12 cf])) ((wr.setCell ⟨w.heap.size + 1, 0, none⟩ (.slice ao 8 co)).setCell ⟨w.heap.size + 1, 1, none⟩ (.slice af 12 cf))) := by
            have hr1 := set2_0 (u := .slice ao 8 co) hr'
            refine ⟨_, _, rfl, ⟨⟨_, own_base (own_set (own_set HO5.out hr' (by decide)) hr1 (by decide)) (by omega), HI.out⟩, ⟨_, own_base (own_set (own_set HF5.out hr' (by decide)) hr1 (by decide)) (by omega), HI5.out⟩⟩, ?_⟩
            exact ((B3.trans (hbel2.mono (by omega))).setCell (by dsimp only; omega) _).setCell (by dsimp only; omega) _
          clear hr'
          exact bodyPost_ret (v := .agg #[.slice ao 8 co, .slice af 12 cf]) (by simp [results, Try.results40, go_sem, rc0, rc1]) rfl HE.out
end Go.Proofs.Ytmcebhjcaacbpaa

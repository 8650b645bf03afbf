/- The status at the end, and after each step. -/
import Derived.Test.YtgmpmaiddombeaaGi
import Derived.Test.YtgmpmaiddombeaaGg
set_option linter.unusedSimpArgs false
set_option linter.unusedVariables false
namespace Go.Proofs.Ytgmpmaiddombeaa
open Go.RowKit
def lastM (n : Nat) (S : Nat → St) : Ma := if stepsE n S = 0 then run S n else m00
set_option maxRecDepth 100000 in
set_option maxHeartbeats 4000000 in
theorem last_any (a : Option Addr) (n c : Nat) (S : Nat → St) (w : World) (hn : n ≤ 5000) (hp : StepsR w a n S) :
    Calls Try.prog 12 #[.slice a n c] w fun e w' => e = .returned (.tuple #[(.agg #[.int .i64 (lastM n S).x, .int .i64 (lastM n S).y, .int .i64 (lastM n S).z, .int .i64 (lastM n S).s, .int .i64 (lastM n S).h, .int .i64 (lastM n S).t, .int .i64 (lastM n S).f, .bool (lastM n S).r]), .int .i64 (stepsE n S)]) ∧ Below w.heap.size w w' := by
  have HP := Lib.hid hp
  clear hp
  have hb0 : Below w.heap.size w (w.alloc (.cells #[.int .i64 0, .int .i64 0, .int .i64 0, .int .i64 0, .int .i64 0, .int .i64 0, .int .i64 0, .bool false] 42)) := (by repeat (first | exact Below.refl _ _ | assumption | refine Below.drew ?_ | refine bdrewN ?_ _ | refine Below.setCell ?_ (by first | omega | (simp <;> omega)) _ | refine Below.alloc ?_ (by first | omega | (simp <;> omega)) _))
  have HZ := Lib.hid (heap_alloc_new w (.cells #[.int .i64 0, .int .i64 0, .int .i64 0, .int .i64 0, .int .i64 0, .int .i64 0, .int .i64 0, .bool false] 42))
  have B0 := Lib.hid hb0
  clear hb0
  go_enter Try.func12, Try.ntmps12
  go_wp2_with (fail)
  generalize (w.alloc (.cells #[.int .i64 0, .int .i64 0, .int .i64 0, .int .i64 0, .int .i64 0, .int .i64 0, .int .i64 0, .bool false] 42)) = w0 at *
  obtain ⟨g, hg⟩ : ∃ g, w.heap.size = g := ⟨_, rfl⟩
  have HG := Lib.hid hg
  rw [hg] at HZ
  try rw [hg]
  clear hg
  replace HP := Lib.hid (HP.out.kept B0.out)
  refine (checkSteps_any a n c S w0 hn HP.out).mono ?_
  rintro e w1 ⟨rfl, hb⟩
  replace HZ := Lib.hid (heap_keep hb HZ.out)
  replace HP := Lib.hid (HP.out.kept hb)
  replace B0 := Lib.hid (B0.out.trans (hb.mono B0.out.size))
  clear hb
  by_cases hz : stepsE n S = 0
  · have HE := Lib.hid hz
    have hok := stepsE_zero hz
    have HOK := Lib.hid (fun i hi => sok (hok i hi))
    have hz' : (stepsE n S != 0) = false := by simp [hz]
    clear hz hok
    go_wp2_with (fail)
    refine (end_any a n c S w1 hn HOK.out HP.out).mono ?_
    rintro e w2 ⟨rfl, hb⟩
    replace HZ := Lib.hid (heap_keep hb HZ.out)
    replace B0 := Lib.hid (B0.out.trans (hb.mono B0.out.size))
    clear hb
    have HL := Lib.hid (show lastM n S = run S n by unfold lastM; rw [if_pos HE.out])
    obtain ⟨mr, hmr⟩ : ∃ mr, run S n = mr := ⟨_, rfl⟩
    rw [hmr] at HL ⊢
    clear hmr
    have e0 := cell_of HZ.out (i := 0) rfl
    have e1 := cell_of HZ.out (i := 1) rfl
    have e2 := cell_of HZ.out (i := 2) rfl
    have e3 := cell_of HZ.out (i := 3) rfl
    have e4 := cell_of HZ.out (i := 4) rfl
    have e5 := cell_of HZ.out (i := 5) rfl
    have e6 := cell_of HZ.out (i := 6) rfl
    have e7 := cell_of HZ.out (i := 7) rfl
    have g0 := fun i => frozen_of (i := i) HZ.out
    go_wp2_with (fail)
    have hzz : w2.heap[g]? = some (.cells #[.int .i64 m00.x, .int .i64 m00.y, .int .i64 m00.z, .int .i64 m00.s, .int .i64 m00.h, .int .i64 m00.t, .int .i64 m00.f, .bool m00.r] 42 (0, 0)) := HZ.out
    obtain ⟨hx5, hm5⟩ := storeMa hzz (m2 := mr) rfl
    generalize ((((((((w2.setCell ⟨g, 0, none⟩ (.int .i64 mr.x)).setCell ⟨g, 1, none⟩ (.int .i64 mr.y)).setCell ⟨g, 2, none⟩ (.int .i64 mr.z)).setCell ⟨g, 3, none⟩ (.int .i64 mr.s)).setCell ⟨g, 4, none⟩ (.int .i64 mr.h)).setCell ⟨g, 5, none⟩ (.int .i64 mr.t)).setCell ⟨g, 6, none⟩ (.int .i64 mr.f)).setCell ⟨g, 7, none⟩ (.bool mr.r)) = w5 at *
    have HX5 := Lib.hid hx5
    clear e0 e1 e2 e3 e4 e5 e6 e7 hzz
    have d0 := cell_of HX5.out (i := 0) rfl
    have d1 := cell_of HX5.out (i := 1) rfl
    have d2 := cell_of HX5.out (i := 2) rfl
    have d3 := cell_of HX5.out (i := 3) rfl
    have d4 := cell_of HX5.out (i := 4) rfl
    have d5 := cell_of HX5.out (i := 5) rfl
    have d6 := cell_of HX5.out (i := 6) rfl
    have d7 := cell_of HX5.out (i := 7) rfl
    have B5 := B0.out.trans (hm5.toBelow w.heap.size B0.out.size (fun b hb h => by have := HG.out; omega))
    exact bodyPost_ret (v := .tuple #[(.agg #[.int .i64 mr.x, .int .i64 mr.y, .int .i64 mr.z, .int .i64 mr.s, .int .i64 mr.h, .int .i64 mr.t, .int .i64 mr.f, .bool mr.r]), .int .i64 0]) (by simp [results, Try.results12, go_sem, d0, d1, d2, d3, d4, d5, d6, d7]) rfl ⟨by rw [HE.out, HL.out], B5⟩
  · have HE := Lib.hid hz
    have hz' : (stepsE n S != 0) = true := by simpa using hz
    clear hz
    have HL := Lib.hid (show lastM n S = m00 by unfold lastM; rw [if_neg HE.out])
    have e0 := cell_of HZ.out (i := 0) rfl
    have e1 := cell_of HZ.out (i := 1) rfl
    have e2 := cell_of HZ.out (i := 2) rfl
    have e3 := cell_of HZ.out (i := 3) rfl
    have e4 := cell_of HZ.out (i := 4) rfl
    have e5 := cell_of HZ.out (i := 5) rfl
    have e6 := cell_of HZ.out (i := 6) rfl
    have e7 := cell_of HZ.out (i := 7) rfl
    have g0 := fun i => frozen_of (i := i) HZ.out
    go_wp2_with (fail)
    have hzz : w1.heap[g]? = some (.cells #[.int .i64 m00.x, .int .i64 m00.y, .int .i64 m00.z, .int .i64 m00.s, .int .i64 m00.h, .int .i64 m00.t, .int .i64 m00.f, .bool m00.r] 42 (0, 0)) := HZ.out
    obtain ⟨hx5, hm5⟩ := storeMa hzz (m2 := m00) rfl
    have hq : ((((((((w1.setCell ⟨g, 0, none⟩ (.int .i64 m00.x)).setCell ⟨g, 1, none⟩ (.int .i64 m00.y)).setCell ⟨g, 2, none⟩ (.int .i64 m00.z)).setCell ⟨g, 3, none⟩ (.int .i64 m00.s)).setCell ⟨g, 4, none⟩ (.int .i64 m00.h)).setCell ⟨g, 5, none⟩ (.int .i64 m00.t)).setCell ⟨g, 6, none⟩ (.int .i64 m00.f)).setCell ⟨g, 7, none⟩ (.bool m00.r)) = ((((((((w1.setCell ⟨g, 0, none⟩ (.int .i64 0)).setCell ⟨g, 1, none⟩ (.int .i64 0)).setCell ⟨g, 2, none⟩ (.int .i64 0)).setCell ⟨g, 3, none⟩ (.int .i64 0)).setCell ⟨g, 4, none⟩ (.int .i64 0)).setCell ⟨g, 5, none⟩ (.int .i64 0)).setCell ⟨g, 6, none⟩ (.int .i64 0)).setCell ⟨g, 7, none⟩ (.bool false)) := rfl
    rw [hq] at hx5 hm5
    generalize ((((((((w1.setCell ⟨g, 0, none⟩ (.int .i64 0)).setCell ⟨g, 1, none⟩ (.int .i64 0)).setCell ⟨g, 2, none⟩ (.int .i64 0)).setCell ⟨g, 3, none⟩ (.int .i64 0)).setCell ⟨g, 4, none⟩ (.int .i64 0)).setCell ⟨g, 5, none⟩ (.int .i64 0)).setCell ⟨g, 6, none⟩ (.int .i64 0)).setCell ⟨g, 7, none⟩ (.bool false)) = w5 at *
    have HX5 := Lib.hid hx5
    clear e0 e1 e2 e3 e4 e5 e6 e7 hzz
    have d0 := cell_of HX5.out (i := 0) rfl
    have d1 := cell_of HX5.out (i := 1) rfl
    have d2 := cell_of HX5.out (i := 2) rfl
    have d3 := cell_of HX5.out (i := 3) rfl
    have d4 := cell_of HX5.out (i := 4) rfl
    have d5 := cell_of HX5.out (i := 5) rfl
    have d6 := cell_of HX5.out (i := 6) rfl
    have d7 := cell_of HX5.out (i := 7) rfl
    have B5 := B0.out.trans (hm5.toBelow w.heap.size B0.out.size (fun b hb h => by have := HG.out; omega))
    exact bodyPost_ret (v := .tuple #[(.agg #[.int .i64 m00.x, .int .i64 m00.y, .int .i64 m00.z, .int .i64 m00.s, .int .i64 m00.h, .int .i64 m00.t, .int .i64 m00.f, .bool m00.r]), .int .i64 (stepsE n S)]) (by simp [results, Try.results12, go_sem, d0, d1, d2, d3, d4, d5, d6, d7]) rfl ⟨by rw [HL.out], B5⟩

/-! ### After each step -/
/-- What Run's closure keeps: the statuses so far. -/
def RunInv (p base : Nat) (S : Nat → St) (i : Nat) (w : World) : Prop :=
  ∃ ao co, w.heap[p]? = some (.cells #[.slice ao i co] 38 (0, 0)) ∧ w.ownsRow (base + 2) 42 8 (.slice ao i co) i (flat (fun t => mV (run S (t + 1))) i)
set_option maxRecDepth 100000 in
set_option maxHeartbeats 4000000 in
theorem run1_any (p base i : Nat) (m : Ma) (S : Nat → St) (w0 w : World) (hi : i < 5000) (hI : RunInv p base S i w0) (hp : p < base) (hb2 : base + 2 ≤ w0.heap.size) (hb : Below w0.heap.size w0 w) :
    Calls Try.prog 27 #[.int .i64 i, (.agg #[.int .i64 m.x, .int .i64 m.y, .int .i64 m.z, .int .i64 m.s, .int .i64 m.h, .int .i64 m.t, .int .i64 m.f, .bool m.r]), (.agg #[.int .i64 (run S (i + 1)).x, .int .i64 (run S (i + 1)).y, .int .i64 (run S (i + 1)).z, .int .i64 (run S (i + 1)).s, .int .i64 (run S (i + 1)).h, .int .i64 (run S (i + 1)).t, .int .i64 (run S (i + 1)).f, .bool (run S (i + 1)).r]), .pointer (some ⟨p, 0, none⟩)] w fun e w' => e = .returned (.tuple #[]) ∧ RunInv p base S (i + 1) w' ∧ Mut (fun b => b < w0.heap.size ∧ (b = p ∨ base + 2 ≤ b)) w w' := by
  obtain ⟨i0, hi0, hz0, hz1, hz2⟩ := info_parts2 info_ma
  obtain ⟨ao, co, hh, hown⟩ := hI
  obtain ⟨m9, hm9⟩ : ∃ m9, run S (i + 1) = m9 := ⟨_, rfl⟩
  have HMM := Lib.hid hm9
  rw [hm9]
  clear hm9
  have hsz := hb.size
  have hb1 : Below w.heap.size w ((w.alloc (.cells #[.int .i64 m.x, .int .i64 m.y, .int .i64 m.z, .int .i64 m.s, .int .i64 m.h, .int .i64 m.t, .int .i64 m.f, .bool m.r] 42)).alloc (.cells #[.int .i64 m9.x, .int .i64 m9.y, .int .i64 m9.z, .int .i64 m9.s, .int .i64 m9.h, .int .i64 m9.t, .int .i64 m9.f, .bool m9.r] 42)) := (by repeat (first | exact Below.refl _ _ | assumption | refine Below.drew ?_ | refine bdrewN ?_ _ | refine Below.setCell ?_ (by first | omega | (simp <;> omega)) _ | refine Below.alloc ?_ (by first | omega | (simp <;> omega)) _))
  have HHw := Lib.hid (heap_keep hb hh)
  have HH := Lib.hid (heap_keep hb1 HHw.out)
  have HOW := Lib.hid (ownsRow_below (ownsRow_below hown hb) hb1)
  have HLT := Lib.hid (hown.lt)
  have HB1 := Lib.hid hb1
  have hs1 : ((w.alloc (.cells #[.int .i64 m.x, .int .i64 m.y, .int .i64 m.z, .int .i64 m.s, .int .i64 m.h, .int .i64 m.t, .int .i64 m.f, .bool m.r] 42)).alloc (.cells #[.int .i64 m9.x, .int .i64 m9.y, .int .i64 m9.z, .int .i64 m9.s, .int .i64 m9.h, .int .i64 m9.t, .int .i64 m9.f, .bool m9.r] 42)).heap.size = w.heap.size + 1 + 1 := by simp
  have p0 : w.cell? ⟨p, 0, none⟩ = some (.slice ao i co) := cell_of HHw.out (i := 0) rfl
  have hpl := lt_of_heap HHw.out
  clear hh hown hb1
  go_enter Try.func27, Try.ntmps27
  go_wp2_with (at_builtin; refine wpList_append_lies _ rfl _ _ 38 rfl (base + 2) 42 i0 (.agg #[.int .i64 0, .int .i64 0, .int .i64 0, .int .i64 0, .int .i64 0, .int .i64 0, .int .i64 0, .bool false]) 8 64 Try.underlying38 hi0 hz0 hz1 hz2 rfl (by decide) _ _ _ rfl (ownsRow_below (HOW.out) ((Below.refl _ ((w.alloc (.cells #[.int .i64 m.x, .int .i64 m.y, .int .i64 m.z, .int .i64 m.s, .int .i64 m.h, .int .i64 m.t, .int .i64 m.f, .bool m.r] 42)).alloc (.cells #[.int .i64 m9.x, .int .i64 m9.y, .int .i64 m9.z, .int .i64 m9.s, .int .i64 m9.h, .int .i64 m9.t, .int .i64 m9.f, .bool m9.r] 42))).alloc (Nat.le_refl _) _)) ⟨(w.heap.size + 1 + 1), 0, none⟩ 1 1 [.int .i64 m9.x, .int .i64 m9.y, .int .i64 m9.z, .int .i64 m9.s, .int .i64 m9.h, .int .i64 m9.t, .int .i64 m9.f, .bool m9.r] rfl rfl (World.news_of_block (cs := #[.int .i64 m9.x, .int .i64 m9.y, .int .i64 m9.z, .int .i64 m9.s, .int .i64 m9.h, .int .i64 m9.t, .int .i64 m9.f, .bool m9.r]) (t := 42) (fr := (0, 0)) (show (((w.alloc (.cells #[.int .i64 m.x, .int .i64 m.y, .int .i64 m.z, .int .i64 m.s, .int .i64 m.h, .int .i64 m.t, .int .i64 m.f, .bool m.r] 42)).alloc (.cells #[.int .i64 m9.x, .int .i64 m9.y, .int .i64 m9.z, .int .i64 m9.s, .int .i64 m9.h, .int .i64 m9.t, .int .i64 m9.f, .bool m9.r] 42)).alloc (.cells #[.int .i64 m9.x, .int .i64 m9.y, .int .i64 m9.z, .int .i64 m9.s, .int .i64 m9.h, .int .i64 m9.t, .int .i64 m9.f, .bool m9.r] 42)).heap[(w.heap.size + 1 + 1)]? = some (.cells #[.int .i64 m9.x, .int .i64 m9.y, .int .i64 m9.z, .int .i64 m9.s, .int .i64 m9.h, .int .i64 m9.t, .int .i64 m9.f, .bool m9.r] 42) from heap_new (by simp))) (by simp [Value.oneCell']) (by omega) (by unfold maxLen; omega) (by omega) (by simp; omega) ((w.heap.size + 1 + 1) + 1) (by simp) ?_; intro g5 c5 w5 hown5 hgrow5 hge5 hlt5; have HO5 := Lib.hid hown5; have HB5 := Lib.hid (Below.grown (B := (base + 2)) (Below.alloc (B := (base + 2)) (Below.refl _ ((w.alloc (.cells #[.int .i64 m.x, .int .i64 m.y, .int .i64 m.z, .int .i64 m.s, .int .i64 m.h, .int .i64 m.t, .int .i64 m.f, .bool m.r] 42)).alloc (.cells #[.int .i64 m9.x, .int .i64 m9.y, .int .i64 m9.z, .int .i64 m9.s, .int .i64 m9.h, .int .i64 m9.t, .int .i64 m9.f, .bool m9.r] 42))) (by omega) (.cells #[.int .i64 m9.x, .int .i64 m9.y, .int .i64 m9.z, .int .i64 m9.s, .int .i64 m9.h, .int .i64 m9.t, .int .i64 m9.f, .bool m9.r] 42)) hgrow5 (by simp; omega) (fun b hb => ((HOW.out).lt b hb).1)); have HG5 := Lib.hid hgrow5; clear hown5 hgrow5 hge5; have hH5 : w5.heap[p]? = some (.cells #[.slice ao i co] 38 (0, 0)) := (HB5.out.block p (by omega)).trans HH.out; have q5 : w5.cell? ⟨p, 0, none⟩ = some (.slice ao i co) := cell_of hH5 (i := 0) rfl; have f5 := frozen_of (i := 0) hH5; have HH5 := Lib.hid hH5; clear hH5)
  have HB2 := Lib.hid ((Mut.refl (· = p) w5).setCell (p := ⟨p, 0, none⟩) (fun _ => rfl) (.slice (some ⟨g5, 0, none⟩) (i + 1) c5))
  have HH6 := Lib.hid (cells_set (i := 0) HH5.out (.slice (some ⟨g5, 0, none⟩) (i + 1) c5))
  go_end0
  refine ⟨rfl, ⟨some ⟨g5, 0, none⟩, c5, HH6.out, ?_⟩, ?_⟩
  · have h := own_mut HO5.out HB2.out (fun b hb e => by have := (HO5.out.lt b hb).1; omega)
    rw [flat, HMM.out]
    exact h
  · have hm5 : Mut (fun b => b < w0.heap.size ∧ (b = p ∨ base + 2 ≤ b)) w w5 := by
      refine ⟨HG5.out.os, HG5.out.tape, HG5.out.output, ?_, fun b hb1 hn => ?_⟩
      · have h1 := HG5.out.size
        have h2 := HB1.out.size
        have h3 : (((w.alloc (.cells #[.int .i64 m.x, .int .i64 m.y, .int .i64 m.z, .int .i64 m.s, .int .i64 m.h, .int .i64 m.t, .int .i64 m.f, .bool m.r] 42)).alloc (.cells #[.int .i64 m9.x, .int .i64 m9.y, .int .i64 m9.z, .int .i64 m9.s, .int .i64 m9.h, .int .i64 m9.t, .int .i64 m9.f, .bool m9.r] 42)).alloc (.cells #[.int .i64 m9.x, .int .i64 m9.y, .int .i64 m9.z, .int .i64 m9.s, .int .i64 m9.h, .int .i64 m9.t, .int .i64 m9.f, .bool m9.r] 42)).heap.size = ((w.alloc (.cells #[.int .i64 m.x, .int .i64 m.y, .int .i64 m.z, .int .i64 m.s, .int .i64 m.h, .int .i64 m.t, .int .i64 m.f, .bool m.r] 42)).alloc (.cells #[.int .i64 m9.x, .int .i64 m9.y, .int .i64 m9.z, .int .i64 m9.s, .int .i64 m9.h, .int .i64 m9.t, .int .i64 m9.f, .bool m9.r] 42)).heap.size + 1 := by simp
        omega
      · have h2 := HB1.out.size
        rw [HG5.out.block b (by rw [show (((w.alloc (.cells #[.int .i64 m.x, .int .i64 m.y, .int .i64 m.z, .int .i64 m.s, .int .i64 m.h, .int .i64 m.t, .int .i64 m.f, .bool m.r] 42)).alloc (.cells #[.int .i64 m9.x, .int .i64 m9.y, .int .i64 m9.z, .int .i64 m9.s, .int .i64 m9.h, .int .i64 m9.t, .int .i64 m9.f, .bool m9.r] 42)).alloc (.cells #[.int .i64 m9.x, .int .i64 m9.y, .int .i64 m9.z, .int .i64 m9.s, .int .i64 m9.h, .int .i64 m9.t, .int .i64 m9.f, .bool m9.r] 42)).heap.size = ((w.alloc (.cells #[.int .i64 m.x, .int .i64 m.y, .int .i64 m.z, .int .i64 m.s, .int .i64 m.h, .int .i64 m.t, .int .i64 m.f, .bool m.r] 42)).alloc (.cells #[.int .i64 m9.x, .int .i64 m9.y, .int .i64 m9.z, .int .i64 m9.s, .int .i64 m9.h, .int .i64 m9.t, .int .i64 m9.f, .bool m9.r] 42)).heap.size + 1 by simp]; omega) (fun e => hn (by have := HLT.out b e.symm; omega)), Below.heap_alloc _ _ _ (by omega), HB1.out.block b hb1]
    exact hm5.setCell (p := ⟨p, 0, none⟩) (fun _ => ⟨by show p < w0.heap.size; omega, .inl rfl⟩) _
theorem RunInv.kept {p base : Nat} {S : Nat → St} {i : Nat} {w w' : World} (h : RunInv p base S i w) (hp : p < base) (hm : Mut (fun b => b = base ∨ b = base + 1) w w') : RunInv p base S i w' := by
  obtain ⟨ao, co, h1, h2⟩ := h
  exact ⟨ao, co, heap_mut h1 hm (by omega), own_mut h2 hm (fun b hb e => by have := (h2.lt b hb).1; omega)⟩
theorem run1_tells (p : Nat) (S : Nat → St) (n : Nat) (hn : n ≤ 5000) : Tells 27 #[.pointer (some ⟨p, 0, none⟩)] m00 S n (p + 1) (· = p) (RunInv p (p + 1) S) :=
  ⟨enter_of Try.func27 (by kernel_rfl) (by kernel_rfl),
    fun i w w1 hi hI h2 hb => run1_any p (p + 1) i _ S w w1 (by omega) hI (by omega) h2 hb,
    fun i w w' h hm => h.kept (by omega) hm, fun x h => by omega⟩
def runN (n : Nat) (S : Nat → St) : Nat := if stepsE n S = 0 then n else 0
set_option maxRecDepth 100000 in
set_option maxHeartbeats 4000000 in
theorem runP_any (a : Option Addr) (n c : Nat) (S : Nat → St) (w : World) (hn : n ≤ 5000) (hp : StepsR w a n S) :
    Calls Try.prog 11 #[.slice a n c] w fun e w' => ∃ ao co, e = .returned (.tuple #[.slice ao (runN n S) co, .int .i64 (stepsE n S)]) ∧ MasR w' ao (runN n S) (fun i => run S (i + 1)) ∧ Below w.heap.size w w' := by
  have HP := Lib.hid hp
  clear hp
  go_enter Try.func11, Try.ntmps11
  go_wp2_with (fail)
  refine (checkSteps_any a n c S w hn HP.out).mono ?_
  rintro e w1 ⟨rfl, hb⟩
  replace HP := Lib.hid (HP.out.kept hb)
  have B0 := Lib.hid hb
  clear hb
  by_cases hz : stepsE n S = 0
  · have HE := Lib.hid hz
    have hok := stepsE_zero hz
    have HOK := Lib.hid (fun i hi => sok (hok i hi))
    have hz' : (stepsE n S != 0) = false := by simp [hz]
    clear hz hok
    have HL := Lib.hid (show runN n S = n by unfold runN; rw [if_pos HE.out])
    have hb1 : Below w1.heap.size w1 (w1.alloc (.cells #[.slice none 0 0] 38)) := (Below.refl _ _).alloc (Nat.le_refl _) _
    have HH := Lib.hid (heap_alloc_new w1 (.cells #[.slice none 0 0] 38))
    have hs1 : (w1.alloc (.cells #[.slice none 0 0] 38)).heap.size = w1.heap.size + 1 := by simp
    have HSA := Lib.hid (fun (h0 : 0 < n) (x : Addr) (hx : a = some x) => (show ¬ x.block = w1.heap.size by have := HP.out.blk h0 x hx; omega))
    replace HP := Lib.hid (HP.out.kept hb1)
    have B1 := Lib.hid (B0.out.trans (hb1.mono B0.out.size))
    clear hb1
    go_wp2_with (fail)
    generalize (w1.alloc (.cells #[.slice none 0 0] 38)) = w2 at *
    obtain ⟨p, hpp⟩ : ∃ p, w1.heap.size = p := ⟨_, rfl⟩
    rw [hpp] at HH hs1 HSA
    try rw [hpp]
    have B0s := B0.out.size
    have HPP := Lib.hid hpp
    clear hpp
    refine (walk_any 27 #[.pointer (some ⟨p, 0, none⟩)] m00 0 a n c S (· = p) (RunInv p (p + 1) S) w2 hn (by omega) mb0 HOK.out (by rw [hs1]; exact run1_tells p S n hn) ⟨none, 0, HH.out, World.ownsRow_nil _ _ _ _⟩ HSA.out HP.out).mono ?_
    rintro e w3 ⟨rfl, ⟨ao, co, hh, hown⟩, hm⟩
    have HOW := Lib.hid hown
    have p0 : w3.cell? ⟨p, 0, none⟩ = some (.slice ao n co) := cell_of hh (i := 0) rfl
    have B3 := Lib.hid (B1.out.trans (hm.toBelow w.heap.size B1.out.size (fun b hb h => by have := HPP.out; omega)))
    clear hh hown hm
    go_wp2_with (fail)
    exact bodyPost_ret (v := .tuple #[.slice ao n co, .int .i64 0]) (by simp [results, Try.results11, go_sem]) rfl ⟨ao, co, by rw [HL.out, HE.out], by rw [HL.out]; exact own_mas HOW.out, B3.out⟩
  · have HE := Lib.hid hz
    have hz' : (stepsE n S != 0) = true := by simpa using hz
    clear hz
    have HL := Lib.hid (show runN n S = 0 by unfold runN; rw [if_neg HE.out])
    go_wp2_with (fail)
    exact bodyPost_ret (v := .tuple #[.slice none 0 0, .int .i64 (stepsE n S)]) (by simp [results, Try.results11, go_sem]) rfl ⟨none, 0, by rw [HL.out], by rw [HL.out]; exact .inl rfl, B0.out⟩

/-! ### The reference -/
set_option maxRecDepth 100000 in
set_option maxHeartbeats 4000000 in
theorem lastOf_any (a : Option Addr) (n c : Nat) (S : Nat → St) (w : World) (hn : n ≤ 5000) (hok : ∀ i, i < n → SOk (S i)) (hp : StepsR w a n S) :
    Calls Try.prog 16 #[.slice a n c] w fun e w' => e = .returned (.agg #[.int .i64 (run S n).x, .int .i64 (run S n).y, .int .i64 (run S n).z, .int .i64 (run S n).s, .int .i64 (run S n).h, .int .i64 (run S n).t, .int .i64 (run S n).f, .bool (run S n).r]) ∧ Below w.heap.size w w' := by
  have HP := Lib.hid hp
  have HOK := Lib.hid hok
  clear hp hok
  have hb0 : Below w.heap.size w ((w.alloc (.cells #[.int .i64 0, .int .i64 0, .int .i64 0, .int .i64 0, .int .i64 0, .int .i64 0, .int .i64 0, .bool false] 42)).alloc (.cells #[.int .i64 0, .int .i64 0, .int .i64 0, .int .i64 0, .int .i64 0, .int .i64 0, .int .i64 0, .bool false] 42)) := (by repeat (first | exact Below.refl _ _ | assumption | refine Below.drew ?_ | refine bdrewN ?_ _ | refine Below.setCell ?_ (by first | omega | (simp <;> omega)) _ | refine Below.alloc ?_ (by first | omega | (simp <;> omega)) _))
  have HX0 := Lib.hid (show ((w.alloc (.cells #[.int .i64 0, .int .i64 0, .int .i64 0, .int .i64 0, .int .i64 0, .int .i64 0, .int .i64 0, .bool false] 42)).alloc (.cells #[.int .i64 0, .int .i64 0, .int .i64 0, .int .i64 0, .int .i64 0, .int .i64 0, .int .i64 0, .bool false] 42)).heap[w.heap.size + 1]? = some (.cells #[.int .i64 (run S 0).x, .int .i64 (run S 0).y, .int .i64 (run S 0).z, .int .i64 (run S 0).s, .int .i64 (run S 0).h, .int .i64 (run S 0).t, .int .i64 (run S 0).f, .bool (run S 0).r] 42 (0, 0)) from heap_new (by simp))
  have HZ0 := Lib.hid (show ((w.alloc (.cells #[.int .i64 0, .int .i64 0, .int .i64 0, .int .i64 0, .int .i64 0, .int .i64 0, .int .i64 0, .bool false] 42)).alloc (.cells #[.int .i64 0, .int .i64 0, .int .i64 0, .int .i64 0, .int .i64 0, .int .i64 0, .int .i64 0, .bool false] 42)).heap[w.heap.size]? = some (.cells #[.int .i64 0, .int .i64 0, .int .i64 0, .int .i64 0, .int .i64 0, .int .i64 0, .int .i64 0, .bool false] 42 (0, 0)) from (Below.heap_alloc _ _ _ (by simp)).trans (heap_new rfl))
  have B0 := Lib.hid hb0
  clear hb0
  go_enter Try.func16, Try.ntmps16
  go_wp2_with (fail)
  generalize ((w.alloc (.cells #[.int .i64 0, .int .i64 0, .int .i64 0, .int .i64 0, .int .i64 0, .int .i64 0, .int .i64 0, .bool false] 42)).alloc (.cells #[.int .i64 0, .int .i64 0, .int .i64 0, .int .i64 0, .int .i64 0, .int .i64 0, .int .i64 0, .bool false] 42)) = w0 at *
  obtain ⟨g, hg⟩ : ∃ g, w.heap.size = g := ⟨_, rfl⟩
  have HG := Lib.hid hg
  rw [hg] at HX0 HZ0 ⊢
  clear hg
  go_loopw [8] (fun i wr => ∃ k : Nat, k ≤ n ∧ i = .int .i64 k ∧ wr.heap[g + 1]? = some (.cells #[.int .i64 (run S k).x, .int .i64 (run S k).y, .int .i64 (run S k).z, .int .i64 (run S k).s, .int .i64 (run S k).h, .int .i64 (run S k).t, .int .i64 (run S k).f, .bool (run S k).r] 42 (0, 0)) ∧ wr.heap[g]? = some (.cells #[.int .i64 0, .int .i64 0, .int .i64 0, .int .i64 0, .int .i64 0, .int .i64 0, .int .i64 0, .bool false] 42 (0, 0)) ∧ Below w.heap.size w wr) (fun i _ => n - (intOf i).toNat)
  case atStart => exact ⟨0, by omega, rfl, HX0.out, HZ0.out, B0.out⟩
  case round =>
    clear HX0 HZ0 B0
    obtain ⟨k, hk, rfl, hx, hz, hbel⟩ := hrel
    have HX := Lib.hid hx
    have HZ := Lib.hid hz
    have HB := Lib.hid hbel
    have hgw := lt_of_heap hx
    have hgw0 : g < wr.heap.size := by omega
    have hsz := hbel.size
    clear hx hz hbel
    by_cases hlt : k < n
    · rcases HP.out with h0 | ⟨b, off, rfl, hb, hd⟩
      · omega
      obtain ⟨c0, c1, c2, c3, c4, c5⟩ := hd k hlt
      replace c0 := cellk HB.out hb c0
      replace c1 := cellk HB.out hb c1
      replace c2 := cellk HB.out hb c2
      replace c3 := cellk HB.out hb c3
      replace c4 := cellk HB.out hb c4
      replace c5 := cellk HB.out hb c5
      have hbw : b < wr.heap.size := by omega
      have HOKk := Lib.hid (HOK.out k hlt)
      have HMBk := Lib.hid (run_mb (n := k) (fun i hi => HOK.out i (by omega)))
      clear hd
      obtain ⟨s, hs⟩ : ∃ s, S k = s := ⟨_, rfl⟩
      obtain ⟨m1, hm1⟩ : ∃ m1, run S k = m1 := ⟨_, rfl⟩
      have hm2 : run S (k + 1) = aft m1 s := by rw [run_succ, hs, hm1]
      rw [hs] at c0 c1 c2 c3 c4 c5 HOKk
      rw [hm1] at HX HMBk
      have RM2 := Lib.hid hm2
      clear hs hm1 hm2
      have d0 := cell_of HX.out (i := 0) rfl
      have d1 := cell_of HX.out (i := 1) rfl
      have d2 := cell_of HX.out (i := 2) rfl
      have d3 := cell_of HX.out (i := 3) rfl
      have d4 := cell_of HX.out (i := 4) rfl
      have d5 := cell_of HX.out (i := 5) rfl
      have d6 := cell_of HX.out (i := 6) rfl
      have d7 := cell_of HX.out (i := 7) rfl
      go_wp2_with (fail)
      have hb1 : Below wr.heap.size wr (wr.alloc (.cells #[.int .i64 s.k, .int .i64 s.x, .int .i64 s.y, .int .i64 s.z, .int .i64 s.f, .int .i64 s.n] 36)) := (Below.refl _ _).alloc (Nat.le_refl _) _
      have B1 := Lib.hid hb1
      clear hb1 c0 c1 c2 c3 c4 c5 d0 d1 d2 d3 d4 d5 d6 d7
      generalize (wr.alloc (.cells #[.int .i64 s.k, .int .i64 s.x, .int .i64 s.y, .int .i64 s.z, .int .i64 s.f, .int .i64 s.n] 36)) = w1 at *
      refine (after_any k m1 s _ HOKk.out HMBk.out (by omega)).mono ?_
      rintro e w2 ⟨rfl, hb2⟩
      replace B1 := Lib.hid (B1.out.trans (hb2.mono B1.out.size))
      clear hb2
      obtain ⟨m2, hm2⟩ : ∃ m2, aft m1 s = m2 := ⟨_, rfl⟩
      rw [hm2] at RM2 ⊢
      clear hm2
      have HXk := Lib.hid (heap_keep B1.out HX.out)
      have HZk := Lib.hid (heap_keep B1.out HZ.out)
      have d0 := cell_of HXk.out (i := 0) rfl
      have d1 := cell_of HXk.out (i := 1) rfl
      have d2 := cell_of HXk.out (i := 2) rfl
      have d3 := cell_of HXk.out (i := 3) rfl
      have d4 := cell_of HXk.out (i := 4) rfl
      have d5 := cell_of HXk.out (i := 5) rfl
      have d6 := cell_of HXk.out (i := 6) rfl
      have d7 := cell_of HXk.out (i := 7) rfl
      have g0 := fun i => frozen_of (i := i) HXk.out
      go_wp2_with (fail)
      obtain ⟨hx5, hm5⟩ := storeMa HXk.out (m2 := m2) rfl
      generalize ((((((((w2.setCell ⟨(g + 1), 0, none⟩ (.int .i64 m2.x)).setCell ⟨(g + 1), 1, none⟩ (.int .i64 m2.y)).setCell ⟨(g + 1), 2, none⟩ (.int .i64 m2.z)).setCell ⟨(g + 1), 3, none⟩ (.int .i64 m2.s)).setCell ⟨(g + 1), 4, none⟩ (.int .i64 m2.h)).setCell ⟨(g + 1), 5, none⟩ (.int .i64 m2.t)).setCell ⟨(g + 1), 6, none⟩ (.int .i64 m2.f)).setCell ⟨(g + 1), 7, none⟩ (.bool m2.r)) = w5 at *
      have HX5 := Lib.hid hx5
      have HZ5 := Lib.hid (heap_mut HZk.out hm5 (by omega))
      have HB5 := Lib.hid (HB.out.trans ((B1.out.mono hsz).trans (hm5.toBelow w.heap.size (by have := B1.out.size; omega) (fun b hb h => by have := HG.out; omega))))
      clear hx5 hm5
      go_roundw
      case rel => exact ⟨k + 1, by omega, by go_num, by rw [RM2.out]; exact HX5.out, HZ5.out, HB5.out⟩
      case measure => simp [intOf]; omega
    · obtain rfl : n = k := by omega
      have d0 := cell_of HX.out (i := 0) rfl
      have d1 := cell_of HX.out (i := 1) rfl
      have d2 := cell_of HX.out (i := 2) rfl
      have d3 := cell_of HX.out (i := 3) rfl
      have d4 := cell_of HX.out (i := 4) rfl
      have d5 := cell_of HX.out (i := 5) rfl
      have d6 := cell_of HX.out (i := 6) rfl
      have d7 := cell_of HX.out (i := 7) rfl
      have e0 := cell_of HZ.out (i := 0) rfl
      have e1 := cell_of HZ.out (i := 1) rfl
      have e2 := cell_of HZ.out (i := 2) rfl
      have e3 := cell_of HZ.out (i := 3) rfl
      have e4 := cell_of HZ.out (i := 4) rfl
      have e5 := cell_of HZ.out (i := 5) rfl
      have e6 := cell_of HZ.out (i := 6) rfl
      have e7 := cell_of HZ.out (i := 7) rfl
      have g0 := fun i => frozen_of (i := i) HZ.out
      go_wp2_with (fail)
      have hzz : wr.heap[g]? = some (.cells #[.int .i64 m00.x, .int .i64 m00.y, .int .i64 m00.z, .int .i64 m00.s, .int .i64 m00.h, .int .i64 m00.t, .int .i64 m00.f, .bool m00.r] 42 (0, 0)) := HZ.out
      obtain ⟨hx5, hm5⟩ := storeMa hzz (m2 := run S n) rfl
      generalize ((((((((wr.setCell ⟨g, 0, none⟩ (.int .i64 (run S n).x)).setCell ⟨g, 1, none⟩ (.int .i64 (run S n).y)).setCell ⟨g, 2, none⟩ (.int .i64 (run S n).z)).setCell ⟨g, 3, none⟩ (.int .i64 (run S n).s)).setCell ⟨g, 4, none⟩ (.int .i64 (run S n).h)).setCell ⟨g, 5, none⟩ (.int .i64 (run S n).t)).setCell ⟨g, 6, none⟩ (.int .i64 (run S n).f)).setCell ⟨g, 7, none⟩ (.bool (run S n).r)) = w5 at *
      have HX5 := Lib.hid hx5
      clear d0 d1 d2 d3 d4 d5 d6 d7 e0 e1 e2 e3 e4 e5 e6 e7 hzz
      have d0 := cell_of HX5.out (i := 0) rfl
      have d1 := cell_of HX5.out (i := 1) rfl
      have d2 := cell_of HX5.out (i := 2) rfl
      have d3 := cell_of HX5.out (i := 3) rfl
      have d4 := cell_of HX5.out (i := 4) rfl
      have d5 := cell_of HX5.out (i := 5) rfl
      have d6 := cell_of HX5.out (i := 6) rfl
      have d7 := cell_of HX5.out (i := 7) rfl
      have B5 := HB.out.trans (hm5.toBelow w.heap.size hsz (fun b hb h => by have := HG.out; omega))
      exact bodyPost_ret (v := (.agg #[.int .i64 (run S n).x, .int .i64 (run S n).y, .int .i64 (run S n).z, .int .i64 (run S n).s, .int .i64 (run S n).h, .int .i64 (run S n).t, .int .i64 (run S n).f, .bool (run S n).r])) (by simp [results, Try.results16, go_sem, d0, d1, d2, d3, d4, d5, d6, d7]) rfl ⟨rfl, B5⟩
set_option maxRecDepth 100000 in
set_option maxHeartbeats 4000000 in
theorem runsOf_any (a : Option Addr) (n c : Nat) (S : Nat → St) (w : World) (hn : n ≤ 5000) (hnc : n ≤ c) (hok : ∀ i, i < n → SOk (S i)) (hp : StepsR w a n S) :
    Calls Try.prog 15 #[.slice a n c] w fun e w' => ∃ ao co, e = .returned (.slice ao n co) ∧ MasR w' ao n (fun i => run S (i + 1)) ∧ Below w.heap.size w w' ∧ (∀ x, ao = some x → w.heap.size ≤ x.block) := by
  obtain ⟨i0, hi0, hz0, hz1, hz2⟩ := info_parts2 info_ma
  have HP := Lib.hid hp
  have HOK := Lib.hid hok
  clear hp hok
  go_enter Try.func15, Try.ntmps15
  go_wp2_with (fail)
  go_loopw [3, 7] (fun v i wr => ∃ (k : Nat) (ao : Option Addr) (co : Nat), k ≤ n ∧ i = .int .i64 k ∧ v = .slice ao k co ∧ wr.ownsRow w.heap.size 42 8 (.slice ao k co) k (flat (fun t => mV (run S (t + 1))) k) ∧ Below w.heap.size w wr) (fun _ i _ => n - (intOf i).toNat)
  case atStart => exact ⟨0, none, 0, by omega, rfl, rfl, World.ownsRow_nil _ _ _ _, Below.refl _ _⟩
  case round =>
    obtain ⟨k, ao, co, hk, rfl, rfl, hown, hbel⟩ := hrel
    have HO := Lib.hid hown
    have HB := Lib.hid hbel
    have hsz := hbel.size
    clear hown hbel
    by_cases hlt : k < n
    · have hl1 : (k : Int) + 1 ≤ (c : Int) := by omega
      have hl0 : (0 : Int) ≤ (k : Int) + 1 := by omega
      have hw1 : IntKind.i64.wrap ((k : Int) + 1) = (k : Int) + 1 := i64w (by omega)
      go_wp2_with (fail)
      refine (lastOf_any a (k + 1) c S wr (by omega) (fun i hi => HOK.out i (by omega)) ((HP.out.kept HB.out).le (by omega))).mono ?_
      rintro e w2 ⟨rfl, hb⟩
      obtain ⟨mr, hmr⟩ : ∃ mr, run S (k + 1) = mr := ⟨_, rfl⟩
      have HMR := Lib.hid hmr
      rw [hmr]
      have HO2 := Lib.hid (ownsRow_below HO.out hb)
      have B2 := Lib.hid (HB.out.trans (hb.mono hsz))
      have hs2 := B2.out.size
      clear hb hmr
      go_wp2_with (at_builtin; refine wpList_append_lies _ rfl _ _ 38 rfl w.heap.size 42 i0 (.agg #[.int .i64 0, .int .i64 0, .int .i64 0, .int .i64 0, .int .i64 0, .int .i64 0, .int .i64 0, .bool false]) 8 64 Try.underlying38 hi0 hz0 hz1 hz2 rfl (by decide) _ _ _ rfl (ownsRow_below (HO2.out) ((Below.refl _ w2).alloc (Nat.le_refl _) _)) ⟨w2.heap.size, 0, none⟩ 1 1 [.int .i64 mr.x, .int .i64 mr.y, .int .i64 mr.z, .int .i64 mr.s, .int .i64 mr.h, .int .i64 mr.t, .int .i64 mr.f, .bool mr.r] rfl rfl (World.news_of_block (cs := #[.int .i64 mr.x, .int .i64 mr.y, .int .i64 mr.z, .int .i64 mr.s, .int .i64 mr.h, .int .i64 mr.t, .int .i64 mr.f, .bool mr.r]) (t := 42) (fr := (0, 0)) (heap_alloc_new w2 (.cells #[.int .i64 mr.x, .int .i64 mr.y, .int .i64 mr.z, .int .i64 mr.s, .int .i64 mr.h, .int .i64 mr.t, .int .i64 mr.f, .bool mr.r] 42))) (by simp [Value.oneCell']) (by omega) (by unfold maxLen; omega) (by omega) (by simp; omega) (w2.heap.size + 1) (by simp) ?_; intro g5 c5 w5 hown5 hgrow5 hge5 hlt5; have HO5 := Lib.hid hown5; have HB5 := Lib.hid (Below.grown (B := w.heap.size) (Below.alloc (B := w.heap.size) (Below.refl _ w2) (by omega) (.cells #[.int .i64 mr.x, .int .i64 mr.y, .int .i64 mr.z, .int .i64 mr.s, .int .i64 mr.h, .int .i64 mr.t, .int .i64 mr.f, .bool mr.r] 42)) hgrow5 (by simp; omega) (fun b hb => ((HO2.out).lt b hb).1)); clear hown5 hgrow5 hge5)
      have B5 := Lib.hid (B2.out.trans HB5.out)
      go_roundw
      case rel => exact ⟨k + 1, some ⟨g5, 0, none⟩, c5, by omega, by go_num, rfl, by rw [flat, HMR.out]; exact HO5.out, B5.out⟩
      case measure => simp [intOf]; omega
    · obtain rfl : n = k := by omega
      go_wp2_with (fail)
      go_ret
      exact ⟨ao, co, rfl, own_mas HO.out, HB.out, fun x hx => (HO.out.lt x.block (by rw [hx]; rfl)).1⟩
end Go.Proofs.Ytgmpmaiddombeaa

/- The status at the end, and after each step. -/
import Derived.Test.YthmplflmjjccfaaGi
import Derived.Test.YthmplflmjjccfaaGg
set_option linter.unusedSimpArgs false
set_option linter.unusedVariables false
namespace Go.Proofs.Ythmplflmjjccfaa
open Go.RowKit
def lastM (n : Nat) (S : Nat → St) : Ma := if stepsE n S = 0 then run S n else m00
set_option maxRecDepth 100000 in
set_option maxHeartbeats 4000000 in
theorem last_any (a : Option Addr) (n c : Nat) (S : Nat → St) (w : World) (hn : n ≤ 5000) (hp : StepsR w a n S) :
    Calls Try.prog 37 #[.slice a n c] w fun e w' => e = .returned (.tuple #[(.agg #[.int .i64 (lastM n S).x, .int .i64 (lastM n S).y, .int .i64 (lastM n S).z, .int .i64 (lastM n S).s, .int .i64 (lastM n S).h, .int .i64 (lastM n S).t, .int .i64 (lastM n S).f, .bool (lastM n S).r]), .int .i64 (stepsE n S)]) ∧ Below w.heap.size w w' := by
  have HP := Lib.hid hp
  clear hp
  have hb0 : Below w.heap.size w (w.alloc (.cells #[.int .i64 0, .int .i64 0, .int .i64 0, .int .i64 0, .int .i64 0, .int .i64 0, .int .i64 0, .bool false] 44)) := (by repeat (first | exact Below.refl _ _ | assumption | refine Below.drew ?_ | refine bdrewN ?_ _ | refine Below.setCell ?_ (by first | omega | (simp <;> omega)) _ | refine Below.alloc ?_ (by first | omega | (simp <;> omega)) _))
  have HZ := Lib.hid (heap_alloc_new w (.cells #[.int .i64 0, .int .i64 0, .int .i64 0, .int .i64 0, .int .i64 0, .int .i64 0, .int .i64 0, .bool false] 44))
  have B0 := Lib.hid hb0
  clear hb0
  go_enter Try.func37, Try.ntmps37
  go_wp2_with (fail)
  generalize (w.alloc (.cells #[.int .i64 0, .int .i64 0, .int .i64 0, .int .i64 0, .int .i64 0, .int .i64 0, .int .i64 0, .bool false] 44)) = w0 at *
  obtain ⟨g, hg⟩ : ∃ g, w.heap.size = g := ⟨_, rfl⟩
  have HG := Lib.hid hg
  rw [hg] at HZ
  try rw [hg]
  clear hg
  replace HP := Lib.hid (HP.out.kept B0.out)
  refine (checkSteps_any a n c S w0 hn HP.out).mono ?_
  rintro e w1 ⟨rfl, hb⟩
  replace HZ := Lib.hid (heap_keep hb HZ.out)
  replace HP := Lib.hid (HP.out.kept hb)
  replace B0 := Lib.hid (B0.out.trans (hb.mono B0.out.size))
  clear hb
  by_cases hz : stepsE n S = 0
  · have HE := Lib.hid hz
    have hok := stepsE_zero hz
    have HOK := Lib.hid (fun i hi => sok (hok i hi))
    have hz' : (stepsE n S != 0) = false := by simp [hz]
    clear hz hok
    go_wp2_with (fail)
    refine (end_any a n c S w1 hn HOK.out HP.out).mono ?_
    rintro e w2 ⟨rfl, hb⟩
    replace HZ := Lib.hid (heap_keep hb HZ.out)
    replace B0 := Lib.hid (B0.out.trans (hb.mono B0.out.size))
    clear hb
    have HL := Lib.hid (show lastM n S = run S n by unfold lastM; rw [if_pos HE.out])
    obtain ⟨mr, hmr⟩ : ∃ mr, run S n = mr := ⟨_, rfl⟩
    rw [hmr] at HL ⊢
    clear hmr
    have e0 := cell_of HZ.out (i := 0) rfl
    have e1 := cell_of HZ.out (i := 1) rfl
    have e2 := cell_of HZ.out (i := 2) rfl
    have e3 := cell_of HZ.out (i := 3) rfl
    have e4 := cell_of HZ.out (i := 4) rfl
    have e5 := cell_of HZ.out (i := 5) rfl
    have e6 := cell_of HZ.out (i := 6) rfl
    have e7 := cell_of HZ.out (i := 7) rfl
    have g0 := fun i => frozen_of (i := i) HZ.out
    go_wp2_with (fail)
    have hzz : w2.heap[g]? = some (.cells #[.int .i64 m00.x, .int .i64 m00.y, .int .i64 m00.z, .int .i64 m00.s, .int .i64 m00.h, .int .i64 m00.t, .int .i64 m00.f, .bool m00.r] 44 (0, 0)) := HZ.out
    obtain ⟨hx5, hm5⟩ := storeMa hzz (m2 := mr) rfl
    generalize ((((((((w2.setCell ⟨g, 0, none⟩ (.int .i64 mr.x)).setCell ⟨g, 1, none⟩ (.int .i64 mr.y)).setCell ⟨g, 2, none⟩ (.int .i64 mr.z)).setCell ⟨g, 3, none⟩ (.int .i64 mr.s)).setCell ⟨g, 4, none⟩ (.int .i64 mr.h)).setCell ⟨g, 5, none⟩ (.int .i64 mr.t)).setCell ⟨g, 6, none⟩ (.int .i64 mr.f)).setCell ⟨g, 7, none⟩ (.bool mr.r)) = w5 at *
    have HX5 := Lib.hid hx5
    clear e0 e1 e2 e3 e4 e5 e6 e7 hzz
    have d0 := cell_of HX5.out (i := 0) rfl
    have d1 := cell_of HX5.out (i := 1) rfl
    have d2 := cell_of HX5.out (i := 2) rfl
    have d3 := cell_of HX5.out (i := 3) rfl
    have d4 := cell_of HX5.out (i := 4) rfl
    have d5 := cell_of HX5.out (i := 5) rfl
    have d6 := cell_of HX5.out (i := 6) rfl
    have d7 := cell_of HX5.out (i := 7) rfl
    have B5 := B0.out.trans (hm5.toBelow w.heap.size B0.out.size (fun b hb h => by have := HG.out; omega))
    exact bodyPost_ret (v := .tuple #[(.agg #[.int .i64 mr.x, .int .i64 mr.y, .int .i64 mr.z, .int .i64 mr.s, .int .i64 mr.h, .int .i64 mr.t, .int .i64 mr.f, .bool mr.r]), .int .i64 0]) (by simp [results, Try.results37, go_sem, d0, d1, d2, d3, d4, d5, d6, d7]) rfl ⟨by rw [HE.out, HL.out], B5⟩
  · have HE := Lib.hid hz
    have hz' : (stepsE n S != 0) = true := by simpa using hz
    clear hz
    have HL := Lib.hid (show lastM n S = m00 by unfold lastM; rw [if_neg HE.out])
    have e0 := cell_of HZ.out (i := 0) rfl
    have e1 := cell_of HZ.out (i := 1) rfl
    have e2 := cell_of HZ.out (i := 2) rfl
    have e3 := cell_of HZ.out (i := 3) rfl
    have e4 := cell_of HZ.out (i := 4) rfl
    have e5 := cell_of HZ.out (i := 5) rfl
    have e6 := cell_of HZ.out (i := 6) rfl
    have e7 := cell_of HZ.out (i := 7) rfl
    have g0 := fun i => frozen_of (i := i) HZ.out
    go_wp2_with (fail)
    have hzz : w1.heap[g]? = some (.cells #[.int .i64 m00.x, .int .i64 m00.y, .int .i64 m00.z, .int .i64 m00.s, .int .i64 m00.h, .int .i64 m00.t, .int .i64 m00.f, .bool m00.r] 44 (0, 0)) := HZ.out
    obtain ⟨hx5, hm5⟩ := storeMa hzz (m2 := m00) rfl
    have hq : ((((((((w1.setCell ⟨g, 0, none⟩ (.int .i64 m00.x)).setCell ⟨g, 1, none⟩ (.int .i64 m00.y)).setCell ⟨g, 2, none⟩ (.int .i64 m00.z)).setCell ⟨g, 3, none⟩ (.int .i64 m00.s)).setCell ⟨g, 4, none⟩ (.int .i64 m00.h)).setCell ⟨g, 5, none⟩ (.int .i64 m00.t)).setCell ⟨g, 6, none⟩ (.int .i64 m00.f)).setCell ⟨g, 7, none⟩ (.bool m00.r)) = ((((((((w1.setCell ⟨g, 0, none⟩ (.int .i64 0)).setCell ⟨g, 1, none⟩ (.int .i64 0)).setCell ⟨g, 2, none⟩ (.int .i64 0)).setCell ⟨g, 3, none⟩ (.int .i64 0)).setCell ⟨g, 4, none⟩ (.int .i64 0)).setCell ⟨g, 5, none⟩ (.int .i64 0)).setCell ⟨g, 6, none⟩ (.int .i64 0)).setCell ⟨g, 7, none⟩ (.bool false)) := rfl
    rw [hq] at hx5 hm5
    generalize ((((((((w1.setCell ⟨g, 0, none⟩ (.int .i64 0)).setCell ⟨g, 1, none⟩ (.int .i64 0)).setCell ⟨g, 2, none⟩ (.int .i64 0)).setCell ⟨g, 3, none⟩ (.int .i64 0)).setCell ⟨g, 4, none⟩ (.int .i64 0)).setCell ⟨g, 5, none⟩ (.int .i64 0)).setCell ⟨g, 6, none⟩ (.int .i64 0)).setCell ⟨g, 7, none⟩ (.bool false)) = w5 at *
    have HX5 := Lib.hid hx5
    clear e0 e1 e2 e3 e4 e5 e6 e7 hzz
    have d0 := cell_of HX5.out (i := 0) rfl
    have d1 := cell_of HX5.out (i := 1) rfl
    have d2 := cell_of HX5.out (i := 2) rfl
    have d3 := cell_of HX5.out (i := 3) rfl
    have d4 := cell_of HX5.out (i := 4) rfl
    have d5 := cell_of HX5.out (i := 5) rfl
    have d6 := cell_of HX5.out (i := 6) rfl
    have d7 := cell_of HX5.out (i := 7) rfl
    have B5 := B0.out.trans (hm5.toBelow w.heap.size B0.out.size (fun b hb h => by have := HG.out; omega))
    exact bodyPost_ret (v := .tuple #[(.agg #[.int .i64 m00.x, .int .i64 m00.y, .int .i64 m00.z, .int .i64 m00.s, .int .i64 m00.h, .int .i64 m00.t, .int .i64 m00.f, .bool m00.r]), .int .i64 (stepsE n S)]) (by simp [results, Try.results37, go_sem, d0, d1, d2, d3, d4, d5, d6, d7]) rfl ⟨by rw [HL.out], B5⟩

/-! ### After each step -/
/-- What Run's closure keeps: the statuses so far. -/
def RunInv (p base : Nat) (S : Nat → St) (i : Nat) (w : World) : Prop :=
  ∃ ao co, w.heap[p]? = some (.cells #[.slice ao i co] 50 (0, 0)) ∧ w.ownsRow (base + 2) 44 8 (.slice ao i co) i (flat (fun t => mV (run S (t + 1))) i)
theorem RunInv.kept {p base : Nat} {S : Nat → St} {i : Nat} {w w' : World} (h : RunInv p base S i w) (hp : p < base) (hm : Mut (fun b => b = base ∨ b = base + 1) w w') : RunInv p base S i w' := by
  obtain ⟨ao, co, h1, h2⟩ := h
  exact ⟨ao, co, heap_mut h1 hm (by omega), own_mut h2 hm (fun b hb e => by have := (h2.lt b hb).1; omega)⟩
def runN (n : Nat) (S : Nat → St) : Nat := if stepsE n S = 0 then n else 0
/-! ### The reference -/
set_option maxRecDepth 100000 in
set_option maxHeartbeats 4000000 in
theorem lastOf_any (a : Option Addr) (n c : Nat) (S : Nat → St) (w : World) (hn : n ≤ 5000) (hok : ∀ i, i < n → SOk (S i)) (hp : StepsR w a n S) :
    Calls Try.prog 36 #[.slice a n c] w fun e w' => e = .returned (.agg #[.int .i64 (run S n).x, .int .i64 (run S n).y, .int .i64 (run S n).z, .int .i64 (run S n).s, .int .i64 (run S n).h, .int .i64 (run S n).t, .int .i64 (run S n).f, .bool (run S n).r]) ∧ Below w.heap.size w w' := by
  have HP := Lib.hid hp
  have HOK := Lib.hid hok
  clear hp hok
  have hb0 : Below w.heap.size w ((w.alloc (.cells #[.int .i64 0, .int .i64 0, .int .i64 0, .int .i64 0, .int .i64 0, .int .i64 0, .int .i64 0, .bool false] 44)).alloc (.cells #[.int .i64 0, .int .i64 0, .int .i64 0, .int .i64 0, .int .i64 0, .int .i64 0, .int .i64 0, .bool false] 44)) := (by repeat (first | exact Below.refl _ _ | assumption | refine Below.drew ?_ | refine bdrewN ?_ _ | refine Below.setCell ?_ (by first | omega | (simp <;> omega)) _ | refine Below.alloc ?_ (by first | omega | (simp <;> omega)) _))
  have HX0 := Lib.hid (show ((w.alloc (.cells #[.int .i64 0, .int .i64 0, .int .i64 0, .int .i64 0, .int .i64 0, .int .i64 0, .int .i64 0, .bool false] 44)).alloc (.cells #[.int .i64 0, .int .i64 0, .int .i64 0, .int .i64 0, .int .i64 0, .int .i64 0, .int .i64 0, .bool false] 44)).heap[w.heap.size + 1]? = some (.cells #[.int .i64 (run S 0).x, .int .i64 (run S 0).y, .int .i64 (run S 0).z, .int .i64 (run S 0).s, .int .i64 (run S 0).h, .int .i64 (run S 0).t, .int .i64 (run S 0).f, .bool (run S 0).r] 44 (0, 0)) from heap_new (by simp))
  have HZ0 := Lib.hid (show ((w.alloc (.cells #[.int .i64 0, .int .i64 0, .int .i64 0, .int .i64 0, .int .i64 0, .int .i64 0, .int .i64 0, .bool false] 44)).alloc (.cells #[.int .i64 0, .int .i64 0, .int .i64 0, .int .i64 0, .int .i64 0, .int .i64 0, .int .i64 0, .bool false] 44)).heap[w.heap.size]? = some (.cells #[.int .i64 0, .int .i64 0, .int .i64 0, .int .i64 0, .int .i64 0, .int .i64 0, .int .i64 0, .bool false] 44 (0, 0)) from (Below.heap_alloc _ _ _ (by simp)).trans (heap_new rfl))
  have B0 := Lib.hid hb0
  clear hb0
  go_enter Try.func36, Try.ntmps36
  go_wp2_with (fail)
  generalize ((w.alloc (.cells #[.int .i64 0, .int .i64 0, .int .i64 0, .int .i64 0, .int .i64 0, .int .i64 0, .int .i64 0, .bool false] 44)).alloc (.cells #[.int .i64 0, .int .i64 0, .int .i64 0, .int .i64 0, .int .i64 0, .int .i64 0, .int .i64 0, .bool false] 44)) = w0 at *
  obtain ⟨g, hg⟩ : ∃ g, w.heap.size = g := ⟨_, rfl⟩
  have HG := Lib.hid hg
  rw [hg] at HX0 HZ0 ⊢
  clear hg
  go_loopw [8] (fun i wr => ∃ k : Nat, k ≤ n ∧ i = .int .i64 k ∧ wr.heap[g + 1]? = some (.cells #[.int .i64 (run S k).x, .int .i64 (run S k).y, .int .i64 (run S k).z, .int .i64 (run S k).s, .int .i64 (run S k).h, .int .i64 (run S k).t, .int .i64 (run S k).f, .bool (run S k).r] 44 (0, 0)) ∧ wr.heap[g]? = some (.cells #[.int .i64 0, .int .i64 0, .int .i64 0, .int .i64 0, .int .i64 0, .int .i64 0, .int .i64 0, .bool false] 44 (0, 0)) ∧ Below w.heap.size w wr) (fun i _ => n - (intOf i).toNat)
  case atStart => exact ⟨0, by omega, rfl, HX0.out, HZ0.out, B0.out⟩
  case round =>
    clear HX0 HZ0 B0
    obtain ⟨k, hk, rfl, hx, hz, hbel⟩ := hrel
    have HX := Lib.hid hx
    have HZ := Lib.hid hz
    have HB := Lib.hid hbel
    have hgw := lt_of_heap hx
    have hgw0 : g < wr.heap.size := by omega
    have hsz := hbel.size
    clear hx hz hbel
    by_cases hlt : k < n
    · rcases HP.out with h0 | ⟨b, off, rfl, hb, hd⟩
      · omega
      obtain ⟨c0, c1, c2, c3, c4, c5⟩ := hd k hlt
      replace c0 := cellk HB.out hb c0
      replace c1 := cellk HB.out hb c1
      replace c2 := cellk HB.out hb c2
      replace c3 := cellk HB.out hb c3
      replace c4 := cellk HB.out hb c4
      replace c5 := cellk HB.out hb c5
      have hbw : b < wr.heap.size := by omega
      have HOKk := Lib.hid (HOK.out k hlt)
      have HMBk := Lib.hid (run_mb (n := k) (fun i hi => HOK.out i (by omega)))
      clear hd
      obtain ⟨s, hs⟩ : ∃ s, S k = s := ⟨_, rfl⟩
      obtain ⟨m1, hm1⟩ : ∃ m1, run S k = m1 := ⟨_, rfl⟩
      have hm2 : run S (k + 1) = aft m1 s := by rw [run_succ, hs, hm1]
      rw [hs] at c0 c1 c2 c3 c4 c5 HOKk
      rw [hm1] at HX HMBk
      have RM2 := Lib.hid hm2
      clear hs hm1 hm2
      have d0 := cell_of HX.out (i := 0) rfl
      have d1 := cell_of HX.out (i := 1) rfl
      have d2 := cell_of HX.out (i := 2) rfl
      have d3 := cell_of HX.out (i := 3) rfl
      have d4 := cell_of HX.out (i := 4) rfl
      have d5 := cell_of HX.out (i := 5) rfl
      have d6 := cell_of HX.out (i := 6) rfl
      have d7 := cell_of HX.out (i := 7) rfl
      go_wp2_with (fail)
      have hb1 : Below wr.heap.size wr (wr.alloc (.cells #[.int .i64 s.k, .int .i64 s.x, .int .i64 s.y, .int .i64 s.z, .int .i64 s.f, .int .i64 s.n] 36)) := (Below.refl _ _).alloc (Nat.le_refl _) _
      have B1 := Lib.hid hb1
      clear hb1 c0 c1 c2 c3 c4 c5 d0 d1 d2 d3 d4 d5 d6 d7
      generalize (wr.alloc (.cells #[.int .i64 s.k, .int .i64 s.x, .int .i64 s.y, .int .i64 s.z, .int .i64 s.f, .int .i64 s.n] 36)) = w1 at *
      refine (after_any k m1 s _ HOKk.out HMBk.out (by omega)).mono ?_
      rintro e w2 ⟨rfl, hb2⟩
      replace B1 := Lib.hid (B1.out.trans (hb2.mono B1.out.size))
      clear hb2
      obtain ⟨m2, hm2⟩ : ∃ m2, aft m1 s = m2 := ⟨_, rfl⟩
      rw [hm2] at RM2 ⊢
      clear hm2
      have HXk := Lib.hid (heap_keep B1.out HX.out)
      have HZk := Lib.hid (heap_keep B1.out HZ.out)
      have d0 := cell_of HXk.out (i := 0) rfl
      have d1 := cell_of HXk.out (i := 1) rfl
      have d2 := cell_of HXk.out (i := 2) rfl
      have d3 := cell_of HXk.out (i := 3) rfl
      have d4 := cell_of HXk.out (i := 4) rfl
      have d5 := cell_of HXk.out (i := 5) rfl
      have d6 := cell_of HXk.out (i := 6) rfl
      have d7 := cell_of HXk.out (i := 7) rfl
      have g0 := fun i => frozen_of (i := i) HXk.out
      go_wp2_with (fail)
      obtain ⟨hx5, hm5⟩ := storeMa HXk.out (m2 := m2) rfl
      generalize ((((((((w2.setCell ⟨(g + 1), 0, none⟩ (.int .i64 m2.x)).setCell ⟨(g + 1), 1, none⟩ (.int .i64 m2.y)).setCell ⟨(g + 1), 2, none⟩ (.int .i64 m2.z)).setCell ⟨(g + 1), 3, none⟩ (.int .i64 m2.s)).setCell ⟨(g + 1), 4, none⟩ (.int .i64 m2.h)).setCell ⟨(g + 1), 5, none⟩ (.int .i64 m2.t)).setCell ⟨(g + 1), 6, none⟩ (.int .i64 m2.f)).setCell ⟨(g + 1), 7, none⟩ (.bool m2.r)) = w5 at *
      have HX5 := Lib.hid hx5
      have HZ5 := Lib.hid (heap_mut HZk.out hm5 (by omega))
      have HB5 := Lib.hid (HB.out.trans ((B1.out.mono hsz).trans (hm5.toBelow w.heap.size (by have := B1.out.size; omega) (fun b hb h => by have := HG.out; omega))))
      clear hx5 hm5
      go_roundw
      case rel => exact ⟨k + 1, by omega, by go_num, by rw [RM2.out]; exact HX5.out, HZ5.out, HB5.out⟩
      case measure => simp [intOf]; omega
    · obtain rfl : n = k := by omega
      have d0 := cell_of HX.out (i := 0) rfl
      have d1 := cell_of HX.out (i := 1) rfl
      have d2 := cell_of HX.out (i := 2) rfl
      have d3 := cell_of HX.out (i := 3) rfl
      have d4 := cell_of HX.out (i := 4) rfl
      have d5 := cell_of HX.out (i := 5) rfl
      have d6 := cell_of HX.out (i := 6) rfl
      have d7 := cell_of HX.out (i := 7) rfl
      have e0 := cell_of HZ.out (i := 0) rfl
      have e1 := cell_of HZ.out (i := 1) rfl
      have e2 := cell_of HZ.out (i := 2) rfl
      have e3 := cell_of HZ.out (i := 3) rfl
      have e4 := cell_of HZ.out (i := 4) rfl
      have e5 := cell_of HZ.out (i := 5) rfl
      have e6 := cell_of HZ.out (i := 6) rfl
      have e7 := cell_of HZ.out (i := 7) rfl
      have g0 := fun i => frozen_of (i := i) HZ.out
      go_wp2_with (fail)
      have hzz : wr.heap[g]? = some (.cells #[.int .i64 m00.x, .int .i64 m00.y, .int .i64 m00.z, .int .i64 m00.s, .int .i64 m00.h, .int .i64 m00.t, .int .i64 m00.f, .bool m00.r] 44 (0, 0)) := HZ.out
      obtain ⟨hx5, hm5⟩ := storeMa hzz (m2 := run S n) rfl
      generalize ((((((((wr.setCell ⟨g, 0, none⟩ (.int .i64 (run S n).x)).setCell ⟨g, 1, none⟩ (.int .i64 (run S n).y)).setCell ⟨g, 2, none⟩ (.int .i64 (run S n).z)).setCell ⟨g, 3, none⟩ (.int .i64 (run S n).s)).setCell ⟨g, 4, none⟩ (.int .i64 (run S n).h)).setCell ⟨g, 5, none⟩ (.int .i64 (run S n).t)).setCell ⟨g, 6, none⟩ (.int .i64 (run S n).f)).setCell ⟨g, 7, none⟩ (.bool (run S n).r)) = w5 at *
      have HX5 := Lib.hid hx5
      clear d0 d1 d2 d3 d4 d5 d6 d7 e0 e1 e2 e3 e4 e5 e6 e7 hzz
      have d0 := cell_of HX5.out (i := 0) rfl
      have d1 := cell_of HX5.out (i := 1) rfl
      have d2 := cell_of HX5.out (i := 2) rfl
      have d3 := cell_of HX5.out (i := 3) rfl
      have d4 := cell_of HX5.out (i := 4) rfl
      have d5 := cell_of HX5.out (i := 5) rfl
      have d6 := cell_of HX5.out (i := 6) rfl
      have d7 := cell_of HX5.out (i := 7) rfl
      have B5 := HB.out.trans (hm5.toBelow w.heap.size hsz (fun b hb h => by have := HG.out; omega))
      exact bodyPost_ret (v := (.agg #[.int .i64 (run S n).x, .int .i64 (run S n).y, .int .i64 (run S n).z, .int .i64 (run S n).s, .int .i64 (run S n).h, .int .i64 (run S n).t, .int .i64 (run S n).f, .bool (run S n).r])) (by simp [results, Try.results36, go_sem, d0, d1, d2, d3, d4, d5, d6, d7]) rfl ⟨rfl, B5⟩
end Go.Proofs.Ythmplflmjjccfaa

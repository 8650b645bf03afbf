/- A leg and its speeds are checked; Exact. -/
import Derived.Test.YtjjedffmcloahaaTe
import Derived.Test.YtjjedffmcloahaaVm1
import Derived.Test.YtjjedffmcloahaaVo1
set_option linter.unusedSimpArgs false
set_option linter.unusedVariables false
namespace Go.Proofs.Ytjjedffmcloahaa
open Go.RowKit

def f4E (a b c d : Int) : Int := if a = 0 then (if b = 0 then (if c = 0 then d else c) else b) else a
theorem spanZ_spE (v m : Int) : spanZ v 0 m = spE v m := by
  unfold spanZ spE inZ
  by_cases h : 0 ≤ v ∧ v ≤ m
  · rw [if_pos h, if_pos (by simp [h])]
  · rw [if_neg h, if_neg (by simp; omega)]
def leg1 (l m : Int) : Int := legE 1 (fun _ => l) (fun _ => m)
theorem leg1_ok {l m : Int} (h : leg1 l m = 0) : (1 ≤ l ∧ l ≤ 200000) ∧ (1 ≤ m ∧ m ≤ 100000) := by
  have := (legE_ok h).2 0 (by omega)
  exact ⟨⟨this.1, this.2.1⟩, this.2.2⟩
def chkE (u v l m c : Int) : Int := f4E (leg1 l m) (chE c) (spE u m) (spE v m)
theorem mov1 (l m c : Int) : movE 1 (fun _ => l) (fun _ => m) 0 (fun _ => 0) c = if leg1 l m = 0 then chE c else leg1 l m := by
  have h : cornE 1 (fun _ => l) (fun _ => m) 0 (fun _ => 0) = leg1 l m := by
    unfold cornE leg1
    rw [csOk_yes (n := 0) (fun i h => by omega)]
    split
    · rename_i h; simp [h]
    · rfl
  unfold movE
  rw [h]
theorem chk_ok {u v l m c : Int} (h : chkE u v l m c = 0) : (0 ≤ u ∧ u ≤ 100000) ∧ (0 ≤ v ∧ v ≤ 100000) ∧ (1 ≤ c ∧ c ≤ 10000000) ∧ (1 ≤ l ∧ l ≤ 200000) ∧ (1 ≤ m ∧ m ≤ 100000) := by
  unfold chkE f4E at h
  split at h
  · rename_i h1
    split at h
    · rename_i h2
      split at h
      · rename_i h3
        obtain ⟨hl, hm⟩ := leg1_ok h1
        unfold spE at h h3
        unfold chE at h2
        split at h2
        · split at h3
          · split at h
            · omega
            · cases h
          · cases h3
        · cases h2
      · rename_i h3; exact absurd h h3
    · rename_i h2; exact absurd h h2
  · rename_i h1; exact absurd h h1
theorem leg_one {w : World} {g : Nat} {l m : Int} (h0 : w.cell? ⟨g, 0, none⟩ = some (.int .i64 l)) (h1 : w.cell? ⟨g, 1, none⟩ = some (.int .i64 m)) : LegsR w (some ⟨g, 0, none⟩) 1 (fun _ => l) (fun _ => m) :=
  .inr ⟨g, 0, rfl, cell_lt h0, fun i hi => by obtain rfl : i = 0 := by omega
                                              exact ⟨h0, h1⟩⟩
set_option maxRecDepth 100000 in
set_option maxHeartbeats 4000000 in
theorem checkLeg_any (u v l m c : Int) (g : Nat) (w : World) (h0 : w.cell? ⟨g, 0, none⟩ = some (.int .i64 u)) (h1 : w.cell? ⟨g, 1, none⟩ = some (.int .i64 v)) :
    Calls Try.prog 27 #[.agg #[.int .i64 l, .int .i64 m], .int .i64 c, .slice (some ⟨g, 0, none⟩) 2 2] w fun e w' => e = .returned (.int .i64 (chkE u v l m c)) ∧ Below w.heap.size w w' := by
  have hgl := cell_lt h0
  go_enter Try.func27, Try.ntmps27
  go_wp2_with (fail)
  have hb0 : Below w.heap.size w ((w.alloc (.cells #[.int .i64 l, .int .i64 m] 37)).alloc (.cells #[.int .i64 l, .int .i64 m] 37)) := (by repeat (first | exact Below.refl _ _ | assumption | refine Below.drew ?_ | refine bdrewN ?_ _ | refine Below.setCell ?_ (by first | omega | (simp <;> omega)) _ | refine Below.alloc ?_ (by first | omega | (simp <;> omega)) _))
  have H3 : Hid (((w.alloc (.cells #[.int .i64 l, .int .i64 m] 37)).alloc (.cells #[.int .i64 l, .int .i64 m] 37)).heap[w.heap.size]? = some (.cells #[.int .i64 l, .int .i64 m] 37 (0, 0))) := Lib.hid (by repeat (first | (refine heap_new ?_; first | rfl | (simp; done)) | rw [Below.heap_setCell _ _ _ _ (by simp <;> omega)] | rw [Below.heap_alloc _ _ _ (by simp <;> omega)]))
  have H4 : Hid (((w.alloc (.cells #[.int .i64 l, .int .i64 m] 37)).alloc (.cells #[.int .i64 l, .int .i64 m] 37)).heap[w.heap.size + 1]? = some (.cells #[.int .i64 l, .int .i64 m] 37 (0, 0))) := Lib.hid (by repeat (first | (refine heap_new ?_; first | rfl | (simp; done)) | rw [Below.heap_setCell _ _ _ _ (by simp <;> omega)] | rw [Below.heap_alloc _ _ _ (by simp <;> omega)]))
  replace h0 := cellk hb0 hgl h0
  replace h1 := cellk hb0 hgl h1
  have hgl2 := Nat.lt_of_lt_of_le hgl hb0.size
  have B0 := Lib.hid hb0
  clear hb0 hgl
  generalize ((w.alloc (.cells #[.int .i64 l, .int .i64 m] 37)).alloc (.cells #[.int .i64 l, .int .i64 m] 37)) = w1 at *
  refine (checkMoves_any (some ⟨w.heap.size + 1, 0, none⟩) 1 1 (fun _ => l) (fun _ => m) none 0 0 (fun _ => 0) c w1 (by omega) (by omega) (leg_one (cell_of H4.out (i := 0) rfl) (cell_of H4.out (i := 1) rfl)) (.inl rfl)).mono ?_
  rintro e w2 ⟨rfl, hb2⟩
  rw [mov1]
  replace h0 := cellk hb2 hgl2 h0
  replace h1 := cellk hb2 hgl2 h1
  have B2 := Lib.hid (B0.out.trans (hb2.mono B0.out.size))
  replace H3 := Lib.hid (heap_keep hb2 H3.out)
  clear hb2 hgl2 H4 B0
  have r1 := cell_of H3.out (i := 1) rfl
  have hfin : ∀ z, chkE u v l m c = z → True := fun _ _ => trivial
  by_cases k1 : leg1 l m = 0
  · rw [if_pos k1]
    by_cases k2 : chE c = 0
    · have k2' : (chE c != 0) = false := by simp [k2]
      by_cases k3 : spE u m = 0
      · have R := Lib.hid (show chkE u v l m c = spE v m by unfold chkE f4E; rw [if_pos k1, if_pos k2, if_pos k3])
        have K3 := Lib.hid k3
        clear k1 k2 k3 hfin
        by_cases k4 : spE v m = 0
        · have R2 := Lib.hid (R.out.trans k4)
          have K4 := Lib.hid k4
          clear k4
          go_wp2_with (fail)
          refine wp_loop_rounds 3 ?_
          rw [rounds_succ]; go_wp2_with (go_at_call 48; refine (checkSpeed_any _ _ _).mono ?_; rintro e w' ⟨rfl, rfl⟩; rw [K3.out])
          rw [rounds_succ]; go_wp2_with (go_at_call 48; refine (checkSpeed_any _ _ _).mono ?_; rintro e w' ⟨rfl, rfl⟩; rw [K4.out])
          rw [rounds_succ]; go_wp2_with (fail)
          go_ret
          exact ⟨ret_int R2.out.symm, B2.out⟩
        · have K4 : (spE v m != 0) = true := by simpa using k4
          clear k4
          go_wp2_with (fail)
          refine wp_loop_rounds 3 ?_
          rw [rounds_succ]; go_wp2_with (go_at_call 48; refine (checkSpeed_any _ _ _).mono ?_; rintro e w' ⟨rfl, rfl⟩; rw [K3.out])
          rw [rounds_succ]; go_wp2_with (go_at_call 48; refine (checkSpeed_any _ _ _).mono ?_; rintro e w' ⟨rfl, rfl⟩)
          go_ret
          exact ⟨ret_int R.out.symm, B2.out⟩
      · have R := Lib.hid (show chkE u v l m c = spE u m by unfold chkE f4E; rw [if_pos k1, if_pos k2, if_neg k3])
        have K3 : (spE u m != 0) = true := by simpa using k3
        clear k1 k2 k3 hfin
        go_wp2_with (fail)
        refine wp_loop_rounds 3 ?_
        rw [rounds_succ]; go_wp2_with (go_at_call 48; refine (checkSpeed_any _ _ _).mono ?_; rintro e w' ⟨rfl, rfl⟩)
        go_ret
        exact ⟨ret_int R.out.symm, B2.out⟩
    · have R := Lib.hid (show chkE u v l m c = chE c by unfold chkE f4E; rw [if_pos k1, if_neg k2])
      have k2' : (chE c != 0) = true := by simpa using k2
      clear k1 k2 hfin
      go_wp2_with (fail)
      go_ret
      exact ⟨ret_int R.out.symm, B2.out⟩
  · have R := Lib.hid (show chkE u v l m c = leg1 l m by unfold chkE f4E; rw [if_neg k1])
    rw [if_neg k1]
    have k1' : (leg1 l m != 0) = true := by simpa using k1
    clear k1 hfin
    go_wp2_with (fail)
    go_ret
    exact ⟨ret_int R.out.symm, B2.out⟩
/-- Exact's error. -/
def exE (u v l m c : Int) : Int := if chkE u v l m c = 0 then (if jnOk u v (gainZ c l) = true then 0 else 16) else chkE u v l m c
noncomputable def exV (u v l m c : Int) : Value := if exE u v l m c = 0 then .agg #[.int .i64 (exN u v l m c), .int .i64 (exD u v l m c)] else .agg #[.int .i64 0, .int .i64 0]
set_option maxRecDepth 100000 in
set_option maxHeartbeats 8000000 in
theorem Exact_any (u v l m c : Int) (w : World) :
    Calls Try.prog 12 #[.int .i64 u, .int .i64 v, .agg #[.int .i64 l, .int .i64 m], .int .i64 c] w fun e w' => e = .returned (.tuple #[exV u v l m c, .int .i64 (exE u v l m c)]) ∧ Below w.heap.size w w' := by
  go_enter Try.func12, Try.ntmps12
  go_wp2_with (fail)
  have B0 := Lib.hid (show Below w.heap.size w (((w.alloc (.cells #[.int .i64 l, .int .i64 m] 37)).alloc (.cells #[.int .i64 0, .int .i64 0] 40)).alloc (.cells #[.int .i64 u, .int .i64 v] 3)) from (by repeat (first | exact Below.refl _ _ | assumption | refine Below.drew ?_ | refine bdrewN ?_ _ | refine Below.setCell ?_ (by first | omega | (simp <;> omega)) _ | refine Below.alloc ?_ (by first | omega | (simp <;> omega)) _)))
  have H6 : Hid ((((w.alloc (.cells #[.int .i64 l, .int .i64 m] 37)).alloc (.cells #[.int .i64 0, .int .i64 0] 40)).alloc (.cells #[.int .i64 u, .int .i64 v] 3)).heap[w.heap.size]? = some (.cells #[.int .i64 l, .int .i64 m] 37 (0, 0))) := Lib.hid (by repeat (first | (refine heap_new ?_; first | rfl | (simp; done)) | rw [Below.heap_setCell _ _ _ _ (by simp <;> omega)] | rw [Below.heap_alloc _ _ _ (by simp <;> omega)]))
  have H8 : Hid ((((w.alloc (.cells #[.int .i64 l, .int .i64 m] 37)).alloc (.cells #[.int .i64 0, .int .i64 0] 40)).alloc (.cells #[.int .i64 u, .int .i64 v] 3)).heap[w.heap.size + 1]? = some (.cells #[.int .i64 0, .int .i64 0] 40 (0, 0))) := Lib.hid (by repeat (first | (refine heap_new ?_; first | rfl | (simp; done)) | rw [Below.heap_setCell _ _ _ _ (by simp <;> omega)] | rw [Below.heap_alloc _ _ _ (by simp <;> omega)]))
  have HU : Hid ((((w.alloc (.cells #[.int .i64 l, .int .i64 m] 37)).alloc (.cells #[.int .i64 0, .int .i64 0] 40)).alloc (.cells #[.int .i64 u, .int .i64 v] 3)).heap[w.heap.size + 1 + 1]? = some (.cells #[.int .i64 u, .int .i64 v] 3 (0, 0))) := Lib.hid (by repeat (first | (refine heap_new ?_; first | rfl | (simp; done)) | rw [Below.heap_setCell _ _ _ _ (by simp <;> omega)] | rw [Below.heap_alloc _ _ _ (by simp <;> omega)]))
  generalize (((w.alloc (.cells #[.int .i64 l, .int .i64 m] 37)).alloc (.cells #[.int .i64 0, .int .i64 0] 40)).alloc (.cells #[.int .i64 u, .int .i64 v] 3)) = w1 at *
  refine (checkLeg_any u v l m c (w.heap.size + 1 + 1) w1 (cell_of HU.out (i := 0) rfl) (cell_of HU.out (i := 1) rfl)).mono ?_
  rintro e w2 ⟨rfl, hb2⟩
  replace H6 := Lib.hid (heap_keep hb2 H6.out)
  replace H8 := Lib.hid (heap_keep hb2 H8.out)
  have BX := Lib.hid (B0.out.trans (hb2.mono B0.out.size))
  clear hb2 B0 HU
  have c0 := cell_of H6.out (i := 0) rfl
  have c1 := cell_of H6.out (i := 1) rfl
  have d0 := cell_of H8.out (i := 0) rfl
  have d1 := cell_of H8.out (i := 1) rfl
  have f0 := frozen_of H8.out (i := 0)
  have f1 := frozen_of H8.out (i := 1)
  by_cases hz : chkE u v l m c = 0
  · have hz' : (chkE u v l m c != 0) = false := by simp [hz]
    obtain ⟨hu, hv, hc, hl, hm⟩ := chk_ok hz
    have HA := Lib.hid (show (0 ≤ u ∧ u ≤ 100000) ∧ (0 ≤ v ∧ v ≤ 100000) ∧ (1 ≤ c ∧ c ≤ 10000000) ∧ (1 ≤ l ∧ l ≤ 200000) ∧ (1 ≤ m ∧ m ≤ 100000) from ⟨hu, hv, hc, hl, hm⟩)
    have HZ := Lib.hid hz
    clear hz hu hv hc hl hm
    go_wp2_with (fail)
    clear c0 c1 d0 d1 f0 f1
    refine (joins_any u v l m c w2 (by have := HA.out; omega) (by have := HA.out; omega) HA.out.2.2.1 HA.out.2.2.2.1).mono ?_
    rintro e w3 ⟨rfl, hb3⟩
    replace H6 := Lib.hid (heap_keep hb3 H6.out)
    replace H8 := Lib.hid (heap_keep hb3 H8.out)
    replace BX := Lib.hid (BX.out.trans (hb3.mono BX.out.size))
    clear hb3
    have c0 := cell_of H6.out (i := 0) rfl
    have c1 := cell_of H6.out (i := 1) rfl
    rcases hj : jnOk u v (gainZ c l) with _ | _
    · have HE := Lib.hid (show exE u v l m c = 16 by unfold exE; rw [if_pos HZ.out, hj]; rfl)
      have HV := Lib.hid (show exV u v l m c = .agg #[.int .i64 0, .int .i64 0] by unfold exV; rw [HE.out]; rfl)
      clear hj
      have d0 := cell_of H8.out (i := 0) rfl
      have d1 := cell_of H8.out (i := 1) rfl
      have f0 := frozen_of H8.out (i := 0)
      have f1 := frozen_of H8.out (i := 1)
      go_wp2_with (fail)
      have hs := set2V_1 (u := .int .i64 0) (set2V_0 (u := .int .i64 0) H8.out)
      have s0 := cell_of hs (i := 0) rfl
      have s1 := cell_of hs (i := 1) rfl
      have B9 := Lib.hid ((Below.setCell (p := ⟨w.heap.size + 1, 0, none⟩) BX.out (Nat.le_succ _) (.int .i64 0)).setCell (p := ⟨w.heap.size + 1, 1, none⟩) (Nat.le_succ _) (.int .i64 0))
      generalize ((w3.setCell ⟨w.heap.size + 1, 0, none⟩ (.int .i64 0)).setCell ⟨w.heap.size + 1, 1, none⟩ (.int .i64 0)) = w9 at *
      exact bodyPost_ret (v := .tuple #[.agg #[.int .i64 0, .int .i64 0], .int .i64 16]) (by simp [results, Try.results12, go_sem, s0, s1]) rfl ⟨by rw [HV.out, HE.out], B9.out⟩
    · have HE := Lib.hid (show exE u v l m c = 0 by unfold exE; rw [if_pos HZ.out, hj]; rfl)
      have HV := Lib.hid (show exV u v l m c = .agg #[.int .i64 (exN u v l m c), .int .i64 (exD u v l m c)] by unfold exV; rw [if_pos HE.out])
      clear hj
      go_wp2_with (fail)
      refine (duration_any u v l m c w3 HA.out.1 HA.out.2.1 HA.out.2.2.1 HA.out.2.2.2.1 HA.out.2.2.2.2).mono ?_
      rintro e w4 ⟨rfl, hb4⟩
      replace H8 := Lib.hid (heap_keep hb4 H8.out)
      replace BX := Lib.hid (BX.out.trans (hb4.mono BX.out.size))
      clear hb4 c0 c1
      have hp := pk_bnd (u := u) (v := v) (gain_two HA.out.2.2.1.1 HA.out.2.2.2.1.1) HA.out.2.2.2.2
      have hg := gainZ_bnd HA.out.2.2.1 HA.out.2.2.2.1
      have hD := durD_bnd HA.out.2.2.1 hp
      have hN := durN_bnd HA.out.1 HA.out.2.1 hp hg
      have HX := Lib.hid (show exN u v l m c = durN u v (pkZ u v m (gainZ c l)) (gainZ c l) / gcZ (durN u v (pkZ u v m (gainZ c l)) (gainZ c l)) (durD c (pkZ u v m (gainZ c l))) ∧ exD u v l m c = durD c (pkZ u v m (gainZ c l)) / gcZ (durN u v (pkZ u v m (gainZ c l)) (gainZ c l)) (durD c (pkZ u v m (gainZ c l))) from ⟨rfl, rfl⟩)
      go_wp2_with (fail)
      refine (LowestP_any _ _ w4 hN.2.1 (by omega) hD.1 (by omega)).mono ?_
      rintro e w5 ⟨rfl, hb5⟩
      replace H8 := Lib.hid (heap_keep hb5 H8.out)
      replace BX := Lib.hid (BX.out.trans (hb5.mono BX.out.size))
      rw [← HX.out.1, ← HX.out.2]
      clear hb5 hp hg hD hN HX
      obtain ⟨x, hx⟩ : ∃ x, exN u v l m c = x := ⟨_, rfl⟩
      obtain ⟨y, hy⟩ : ∃ y, exD u v l m c = y := ⟨_, rfl⟩
      rw [hx, hy] at HV ⊢
      clear hx hy
      have d0 := cell_of H8.out (i := 0) rfl
      have d1 := cell_of H8.out (i := 1) rfl
      have f0 := frozen_of H8.out (i := 0)
      have f1 := frozen_of H8.out (i := 1)
      go_wp2_with (fail)
      have hs := set2V_1 (u := .int .i64 y) (set2V_0 (u := .int .i64 x) H8.out)
      have s0 := cell_of hs (i := 0) rfl
      have s1 := cell_of hs (i := 1) rfl
      have B9 := Lib.hid ((Below.setCell (p := ⟨w.heap.size + 1, 0, none⟩) BX.out (Nat.le_succ _) (.int .i64 x)).setCell (p := ⟨w.heap.size + 1, 1, none⟩) (Nat.le_succ _) (.int .i64 y))
      generalize ((w5.setCell ⟨w.heap.size + 1, 0, none⟩ (.int .i64 x)).setCell ⟨w.heap.size + 1, 1, none⟩ (.int .i64 y)) = w9 at *
      exact bodyPost_ret (v := .tuple #[.agg #[.int .i64 x, .int .i64 y], .int .i64 0]) (by simp [results, Try.results12, go_sem, s0, s1]) rfl ⟨by rw [HV.out, HE.out], B9.out⟩
  · have hz' : (chkE u v l m c != 0) = true := by simpa using hz
    have HE := Lib.hid (show exE u v l m c = chkE u v l m c by unfold exE; rw [if_neg hz])
    have HV := Lib.hid (show exV u v l m c = .agg #[.int .i64 0, .int .i64 0] by unfold exV; rw [HE.out, if_neg hz])
    clear hz c0 c1
    go_wp2_with (fail)
    have hs := set2V_1 (u := .int .i64 0) (set2V_0 (u := .int .i64 0) H8.out)
    have s0 := cell_of hs (i := 0) rfl
    have s1 := cell_of hs (i := 1) rfl
    have B9 := Lib.hid ((Below.setCell (p := ⟨w.heap.size + 1, 0, none⟩) BX.out (Nat.le_succ _) (.int .i64 0)).setCell (p := ⟨w.heap.size + 1, 1, none⟩) (Nat.le_succ _) (.int .i64 0))
    generalize ((w2.setCell ⟨w.heap.size + 1, 0, none⟩ (.int .i64 0)).setCell ⟨w.heap.size + 1, 1, none⟩ (.int .i64 0)) = w9 at *
    exact bodyPost_ret (v := .tuple #[.agg #[.int .i64 0, .int .i64 0], .int .i64 (chkE u v l m c)]) (by simp [results, Try.results12, go_sem, s0, s1]) rfl ⟨by rw [HV.out, HE.out], B9.out⟩
theorem first4_any (g : Nat) (a b c d : Int) (w : World) (hg : w.heap.size = g) : Calls Try.prog 34 #[.slice (some ⟨g, 0, none⟩) 4 4] (w.alloc (.cells #[.int .i64 a, .int .i64 b, .int .i64 c, .int .i64 d] 30)) fun e w' => e = .returned (.int .i64 (f4E a b c d)) ∧ w.alloc (.cells #[.int .i64 a, .int .i64 b, .int .i64 c, .int .i64 d] 30) = w' := by
  subst hg
  by_cases ha : a = 0
  · subst ha
    by_cases hb : b = 0
    · subst hb
      by_cases hc : c = 0
      · subst hc
        by_cases hd : d = 0
        · subst hd
          go_enter Try.func34, Try.ntmps34
          go_wp2
          refine wp_loop_rounds 5 ?_
          rw [rounds_succ]; go_wp2
          rw [rounds_succ]; go_wp2
          rw [rounds_succ]; go_wp2
          rw [rounds_succ]; go_wp2
          rw [rounds_succ]; go_wp2
          go_ret
          exact ⟨rfl, rfl⟩
        · have e1 : (d != 0) = true := by simpa using hd
          go_enter Try.func34, Try.ntmps34
          go_wp2
          refine wp_loop_rounds 5 ?_
          rw [rounds_succ]; go_wp2
          rw [rounds_succ]; go_wp2
          rw [rounds_succ]; go_wp2
          rw [rounds_succ]; go_wp2
          go_ret
          exact ⟨rfl, rfl⟩
      · have e1 : (c != 0) = true := by simpa using hc
        have HC := Lib.hid hc
        clear hc
        go_enter Try.func34, Try.ntmps34
        go_wp2
        refine wp_loop_rounds 5 ?_
        rw [rounds_succ]; go_wp2
        rw [rounds_succ]; go_wp2
        rw [rounds_succ]; go_wp2
        go_ret
        exact ⟨ret_int (by simp [f4E, HC.out]), rfl⟩
    · have e1 : (b != 0) = true := by simpa using hb
      have HC := Lib.hid hb
      clear hb
      go_enter Try.func34, Try.ntmps34
      go_wp2
      refine wp_loop_rounds 5 ?_
      rw [rounds_succ]; go_wp2
      rw [rounds_succ]; go_wp2
      go_ret
      exact ⟨ret_int (by simp [f4E, HC.out]), rfl⟩
  · have e1 : (a != 0) = true := by simpa using ha
    have HC := Lib.hid ha
    clear ha
    go_enter Try.func34, Try.ntmps34
    go_wp2
    refine wp_loop_rounds 5 ?_
    rw [rounds_succ]; go_wp2
    go_ret
    exact ⟨ret_int (by simp [f4E, HC.out]), rfl⟩
set_option maxRecDepth 100000 in
set_option maxHeartbeats 8000000 in
theorem exactFault_any (u v l m c : Int) (w : World) :
    Calls Try.prog 14 #[.int .i64 u, .int .i64 v, .agg #[.int .i64 l, .int .i64 m], .int .i64 c] w fun e w' => e = .returned (.int .i64 (exE u v l m c)) ∧ Below w.heap.size w w' := by
  go_enter Try.func14, Try.ntmps14
  have r0 : (w.alloc (.cells #[.int .i64 l, .int .i64 m] 37)).cell? ⟨w.heap.size, 0, none⟩ = some (.int .i64 l) := by simp [go_sem]
  have r1 : (w.alloc (.cells #[.int .i64 l, .int .i64 m] 37)).cell? ⟨w.heap.size, 1, none⟩ = some (.int .i64 m) := by simp [go_sem]
  have hlt : w.heap.size < (w.alloc (.cells #[.int .i64 l, .int .i64 m] 37)).heap.size := by simp
  have B0 := Lib.hid (show Below w.heap.size w (w.alloc (.cells #[.int .i64 l, .int .i64 m] 37)) from (by repeat (first | exact Below.refl _ _ | assumption | refine Below.drew ?_ | refine bdrewN ?_ _ | refine Below.setCell ?_ (by first | omega | (simp <;> omega)) _ | refine Below.alloc ?_ (by first | omega | (simp <;> omega)) _)))
  go_wp2_with (fail)
  generalize (w.alloc (.cells #[.int .i64 l, .int .i64 m] 37)) = w1 at *
  refine wp_region_held_drew (S := (fun w' => w'.cell? ⟨w.heap.size, 0, none⟩ = some (.int .i64 l) ∧ w'.cell? ⟨w.heap.size, 1, none⟩ = some (.int .i64 m))) (by kernel_rfl) ⟨r0, r1⟩ (fun hHeld => ?_)
  refine tkH (by assumption) 0 (oi := ?_) (v := ?_) ?_ ?_ ?_ ?_ ?_ ?_ ?_ ?_; rotate_left 2; (simp only [gA, gB, gC]; exact rfl); kernel_rfl; kernel_rfl; kernel_rfl; exact fun _ _ _ h => h; rfl; (intro w' hSw; (try dsimp only at hSw); go_simp; with_reducible rfl); simp only [Act.put, pB, pC, pD]
  refine tkH (by assumption) 3 (oi := ?_) (v := ?_) ?_ ?_ ?_ ?_ ?_ ?_ ?_ ?_; rotate_left 2; (simp only [gA, gB, gC]; exact rfl); kernel_rfl; kernel_rfl; kernel_rfl; exact fun _ _ _ h => h; rfl; (intro w' hSw; (try dsimp only at hSw); go_simp; with_reducible rfl); simp only [Act.put, pB, pC, pD]
  refine tkH (by assumption) 5 (oi := ?_) (v := ?_) ?_ ?_ ?_ ?_ ?_ ?_ ?_ ?_; rotate_left 2; (simp only [gA, gB, gC]; exact rfl); kernel_rfl; kernel_rfl; kernel_rfl; exact fun _ _ _ h => h; rfl; (intro w' hSw; (try dsimp only at hSw); go_simp; with_reducible rfl); simp only [Act.put, pB, pC, pD]
  refine tkH (by assumption) 6 (oi := ?_) (v := ?_) ?_ ?_ ?_ ?_ ?_ ?_ ?_ ?_; rotate_left 2; (simp only [gA, gB, gC]; exact rfl); kernel_rfl; kernel_rfl; kernel_rfl; exact fun _ _ _ h => h; rfl; (intro w' hSw; (try dsimp only at hSw); go_simp; with_reducible rfl); simp only [Act.put, pB, pC, pD]
  refine tkH (by assumption) 7 (oi := ?_) (v := ?_) ?_ ?_ ?_ ?_ ?_ ?_ ?_ ?_; rotate_left 2; (simp only [gA, gB, gC]; exact rfl); kernel_rfl; kernel_rfl; kernel_rfl; exact fun _ _ _ h => h; rfl; (intro w' hSw; (try dsimp only at hSw); go_simp; with_reducible rfl); simp only [Act.put, pB, pC, pD]
  refine tkH (by assumption) 9 (oi := ?_) (v := ?_) ?_ ?_ ?_ ?_ ?_ ?_ ?_ ?_; rotate_left 2; (simp only [gA, gB, gC]; exact rfl); kernel_rfl; kernel_rfl; kernel_rfl; exact fun _ _ _ h => h; rfl; (intro w' hSw; (try dsimp only at hSw); go_simp; with_reducible rfl); simp only [Act.put, pB, pC, pD]
  refine tkH (by assumption) 10 (oi := ?_) (v := ?_) ?_ ?_ ?_ ?_ ?_ ?_ ?_ ?_; rotate_left 2; (simp only [gA, gB, gC]; exact rfl); kernel_rfl; kernel_rfl; kernel_rfl; exact fun _ _ _ h => h; rfl; (intro w' hSw; (try dsimp only at hSw); go_simp; with_reducible rfl); simp only [Act.put, pB, pC, pD]
  refine tkH (by assumption) 11 (oi := ?_) (v := ?_) ?_ ?_ ?_ ?_ ?_ ?_ ?_ ?_; rotate_left 2; (simp only [gA, gB, gC]; exact rfl); kernel_rfl; kernel_rfl; kernel_rfl; exact fun _ _ _ h => h; rfl; (intro w' hSw; (try dsimp only at hSw); go_simp; with_reducible rfl); simp only [Act.put, pB, pC, pD]
  refine onH 1 (oi := ?_) (by kernel_rfl) ?_ ?_ (fun K hK => ?_); rotate_left; (simp only [gA, gB, gC]; exact rfl); rfl
  go_wp2_with (fail)
  have hb : Below w1.heap.size w1 (w1.alloc (.cells #[.int .i64 l, .int .i64 m] 37)).drew := (by repeat (first | exact Below.refl _ _ | assumption | refine Below.drew ?_ | refine bdrewN ?_ _ | refine Below.setCell ?_ (by first | omega | (simp <;> omega)) _ | refine Below.alloc ?_ (by first | omega | (simp <;> omega)) _))
  have q0 : (w1.alloc (.cells #[.int .i64 l, .int .i64 m] 37)).drew.cell? ⟨w1.heap.size, 0, none⟩ = some (.int .i64 l) := cell_of (heap_alloc_new w1 (.cells #[.int .i64 l, .int .i64 m] 37)) (i := 0) rfl
  have q1 : (w1.alloc (.cells #[.int .i64 l, .int .i64 m] 37)).drew.cell? ⟨w1.heap.size, 1, none⟩ = some (.int .i64 m) := cell_of (heap_alloc_new w1 (.cells #[.int .i64 l, .int .i64 m] 37)) (i := 1) rfl
  replace r0 := cellk hb hlt r0
  replace r1 := cellk hb hlt r1
  replace hlt := Nat.lt_of_lt_of_le hlt hb.size
  replace B0 := Lib.hid (B0.out.trans (hb.mono B0.out.size))
  refine hK.out _ _ ⟨r0, r1⟩ (fun hHeldN => ?_)
  clear hK K hHeld
  have hHeld := hHeldN
  clear hHeldN
  try simp only [Act.put, pB, pC, pD]
  clear hb
  generalize (w1.alloc (.cells #[.int .i64 l, .int .i64 m] 37)).drew = w2 at *
  refine onH 2 (oi := ?_) (by kernel_rfl) ?_ ?_ (fun K hK => ?_); rotate_left; (simp only [gA, gB, gC]; exact rfl); rfl
  go_wp2_with (fail)
  refine (legsFault_any (some ⟨w1.heap.size, 0, none⟩) 1 1 (fun _ => l) (fun _ => m) w2 (by omega) (leg_one q0 q1)).mono ?_
  rintro e w3 ⟨rfl, hb⟩
  replace r0 := cellk hb hlt r0
  replace r1 := cellk hb hlt r1
  replace hlt := Nat.lt_of_lt_of_le hlt hb.size
  replace B0 := Lib.hid (B0.out.trans (hb.mono B0.out.size))
  rw [show legE 1 (fun _ => l) (fun _ => m) = leg1 l m from rfl]
  refine hK.out _ _ ⟨r0, r1⟩ (fun hHeldN => ?_)
  clear hK K hHeld
  have hHeld := hHeldN
  clear hHeldN
  try simp only [Act.put, pB, pC, pD]
  clear hb q0 q1
  refine onH 4 (oi := ?_) (by kernel_rfl) ?_ ?_ (fun K hK => ?_); rotate_left; (simp only [gA, gB, gC]; exact rfl); rfl
  go_wp2_with (fail)
  refine (changeFault_any _ _).mono ?_
  rintro e w' ⟨rfl, rfl⟩
  refine hK.out _ _ ⟨r0, r1⟩ (fun hHeldN => ?_)
  clear hK K hHeld
  have hHeld := hHeldN
  clear hHeldN
  try simp only [Act.put, pB, pC, pD]
  refine onH 8 (oi := ?_) (by kernel_rfl) ?_ ?_ (fun K hK => ?_); rotate_left; (simp only [gA, gB, gC]; exact rfl); rfl
  go_wp2_with (fail)
  refine (spanZ_any _ _ _ _).mono ?_
  rintro e w' ⟨rfl, rfl⟩
  rw [spanZ_spE]
  refine hK.out _ _ ⟨r0, r1⟩ (fun hHeldN => ?_)
  clear hK K hHeld
  have hHeld := hHeldN
  clear hHeldN
  try simp only [Act.put, pB, pC, pD]
  refine onH 12 (oi := ?_) (by kernel_rfl) ?_ ?_ (fun K hK => ?_); rotate_left; (simp only [gA, gB, gC]; exact rfl); rfl
  go_wp2_with (fail)
  refine (spanZ_any _ _ _ _).mono ?_
  rintro e w' ⟨rfl, rfl⟩
  rw [spanZ_spE]
  refine hK.out _ _ ⟨r0, r1⟩ (fun hHeldN => ?_)
  clear hK K hHeld
  have hHeld := hHeldN
  clear hHeldN
  try simp only [Act.put, pB, pC, pD]
  refine onH 13 (oi := ?_) (by kernel_rfl) ?_ ?_ (fun K hK => ?_); rotate_left; (simp only [gA, gB, gC]; exact rfl); rfl
  go_wp2_with (fail)
  have hb : Below w3.heap.size w3 (w3.alloc (.cells #[.int .i64 (leg1 l m), .int .i64 (chE c), .int .i64 (spE u m), .int .i64 (spE v m)] 30)) := (by repeat (first | exact Below.refl _ _ | assumption | refine Below.drew ?_ | refine bdrewN ?_ _ | refine Below.setCell ?_ (by first | omega | (simp <;> omega)) _ | refine Below.alloc ?_ (by first | omega | (simp <;> omega)) _))
  replace r0 := cellk hb hlt r0
  replace r1 := cellk hb hlt r1
  replace hlt := Nat.lt_of_lt_of_le hlt hb.size
  replace B0 := Lib.hid (B0.out.trans (hb.mono B0.out.size))
  refine hK.out _ _ ⟨r0, r1⟩ (fun hHeldN => ?_)
  clear hK K hHeld
  have hHeld := hHeldN
  clear hHeldN
  try simp only [Act.put, pB, pC, pD]
  clear hb
  refine onH 14 (oi := ?_) (by kernel_rfl) ?_ ?_ (fun K hK => ?_); rotate_left; (simp only [gA, gB, gC]; exact rfl); rfl
  go_wp2_with (fail)
  refine (first4_any w3.heap.size _ _ _ _ w3 rfl).mono ?_
  rintro e w' ⟨rfl, rfl⟩
  rw [show f4E (leg1 l m) (chE c) (spE u m) (spE v m) = chkE u v l m c from rfl]
  refine hK.out _ _ ⟨r0, r1⟩ (fun hHeldN => ?_)
  clear hK K hHeld
  have hHeld := hHeldN
  clear hHeldN
  try simp only [Act.put, pB, pC, pD]
  generalize (w3.alloc (.cells #[.int .i64 (leg1 l m), .int .i64 (chE c), .int .i64 (spE u m), .int .i64 (spE v m)] 30)) = w4 at *
  refine tkH (by assumption) 15 (oi := ?_) (v := ?_) ?_ ?_ ?_ ?_ ?_ ?_ ?_ ?_; rotate_left 2; (simp only [gA, gB, gC]; exact rfl); kernel_rfl; kernel_rfl; kernel_rfl; exact fun _ _ _ h => h; rfl; (intro w' hSw; (try dsimp only at hSw); go_simp; with_reducible rfl); simp only [Act.put, pB, pC, pD]
  refine wpAnyH_done (by kernel_rfl) ?_ _
  by_cases hz : chkE u v l m c = 0
  · have hz' : (chkE u v l m c != 0) = false := by simp [hz]
    obtain ⟨hu, hv, hc, hl, hm⟩ := chk_ok hz
    have HZ := Lib.hid hz
    have s0 := bnd_sq (o := u) (by omega) (by omega)
    have s1 := bnd_sq (o := v) (by omega) (by omega)
    have hgn := gainZ_bnd hc hl
    have q0 : IntKind.i64.wrap (u * u) = u * u := i64w (by omega)
    have q1 : IntKind.i64.wrap (v * v) = v * v := i64w (by omega)
    have q2 : IntKind.i64.wrap (u * u - v * v) = u * u - v * v := i64w (by omega)
    have SB := Lib.hid (show -1000000000000000000 ≤ u * u - v * v ∧ u * u - v * v ≤ 1000000000000000000 by omega)
    have e1 : IntKind.i64.wrap (2 * c) = 2 * c := i64w (by omega)
    have e2 : IntKind.i64.wrap (2 * c * l) = gainZ c l := i64w (show -9000000000000000000 ≤ gainZ c l ∧ gainZ c l ≤ 9000000000000000000 by omega)
    clear hz hu hv hc hl hm s0 s1 hgn
    go_wp2_with (fail)
    refine wp_region_held_drew (S := (fun w' => w'.cell? ⟨w.heap.size, 0, none⟩ = some (.int .i64 l))) (by kernel_rfl) r0 (fun hHeld => ?_)
    refine tkH (by assumption) 0 (oi := ?_) (v := ?_) ?_ ?_ ?_ ?_ ?_ ?_ ?_ ?_; rotate_left 2; (simp only [gA, gB, gC]; exact rfl); kernel_rfl; kernel_rfl; kernel_rfl; exact fun _ _ _ h => h; rfl; (intro w' hSw; (try dsimp only at hSw); go_simp; with_reducible rfl); simp only [Act.put, pB, pC, pD]
    refine tkH (by assumption) 1 (oi := ?_) (v := ?_) ?_ ?_ ?_ ?_ ?_ ?_ ?_ ?_; rotate_left 2; (simp only [gA, gB, gC]; exact rfl); kernel_rfl; kernel_rfl; kernel_rfl; exact fun _ _ _ h => h; rfl; (intro w' hSw; (try dsimp only at hSw); go_simp; with_reducible rfl); simp only [Act.put, pB, pC, pD]
    refine tkH (by assumption) 2 (oi := ?_) (v := ?_) ?_ ?_ ?_ ?_ ?_ ?_ ?_ ?_; rotate_left 2; (simp only [gA, gB, gC]; exact rfl); kernel_rfl; kernel_rfl; kernel_rfl; exact fun _ _ _ h => h; rfl; (intro w' hSw; (try dsimp only at hSw); go_simp; with_reducible rfl); simp only [Act.put, pB, pC, pD]
    refine tkH (by assumption) 3 (oi := ?_) (v := ?_) ?_ ?_ ?_ ?_ ?_ ?_ ?_ ?_; rotate_left 2; (simp only [gA, gB, gC]; exact rfl); kernel_rfl; kernel_rfl; kernel_rfl; exact fun _ _ _ h => h; rfl; (intro w' hSw; (try dsimp only at hSw); go_simp; with_reducible rfl); simp only [Act.put, pB, pC, pD]
    refine tkH (by assumption) 4 (oi := ?_) (v := ?_) ?_ ?_ ?_ ?_ ?_ ?_ ?_ ?_; rotate_left 2; (simp only [gA, gB, gC]; exact rfl); kernel_rfl; kernel_rfl; kernel_rfl; exact fun _ _ _ h => h; rfl; (intro w' hSw; (try dsimp only at hSw); go_simp; with_reducible rfl); simp only [Act.put, pB, pC, pD]
    refine tkH (by assumption) 5 (oi := ?_) (v := ?_) ?_ ?_ ?_ ?_ ?_ ?_ ?_ ?_; rotate_left 2; (simp only [gA, gB, gC]; exact rfl); kernel_rfl; kernel_rfl; kernel_rfl; exact fun _ _ _ h => h; rfl; (intro w' hSw; (try dsimp only at hSw); go_simp; with_reducible rfl); simp only [Act.put, pB, pC, pD]
    refine tkH (by assumption) 6 (oi := ?_) (v := ?_) ?_ ?_ ?_ ?_ ?_ ?_ ?_ ?_; rotate_left 2; (simp only [gA, gB, gC]; exact rfl); kernel_rfl; kernel_rfl; kernel_rfl; exact fun _ _ _ h => h; rfl; (intro w' hSw; (try dsimp only at hSw); go_simp; with_reducible rfl); simp only [Act.put, pB, pC, pD]
    refine tkH (by assumption) 8 (oi := ?_) (v := ?_) ?_ ?_ ?_ ?_ ?_ ?_ ?_ ?_; rotate_left 2; (simp only [gA, gB, gC]; exact rfl); kernel_rfl; kernel_rfl; kernel_rfl; exact fun _ _ _ h => h; rfl; (intro w' hSw; (try dsimp only at hSw); go_simp; with_reducible rfl); simp only [Act.put, pB, pC, pD]
    refine tkH (by assumption) 9 (oi := ?_) (v := ?_) ?_ ?_ ?_ ?_ ?_ ?_ ?_ ?_; rotate_left 2; (simp only [gA, gB, gC]; exact rfl); kernel_rfl; kernel_rfl; kernel_rfl; exact fun _ _ _ h => h; rfl; (intro w' hSw; (try dsimp only at hSw); go_simp; with_reducible rfl); simp only [Act.put, pB, pC, pD]
    refine tkH (by assumption) 10 (oi := ?_) (v := ?_) ?_ ?_ ?_ ?_ ?_ ?_ ?_ ?_; rotate_left 2; (simp only [gA, gB, gC]; exact rfl); kernel_rfl; kernel_rfl; kernel_rfl; exact fun _ _ _ h => h; rfl; (intro w' hSw; (try dsimp only at hSw); go_simp; with_reducible rfl); simp only [Act.put, pB, pC, pD]
    refine tkH (by assumption) 11 (oi := ?_) (v := ?_) ?_ ?_ ?_ ?_ ?_ ?_ ?_ ?_; rotate_left 2; (simp only [gA, gB, gC]; exact rfl); kernel_rfl; kernel_rfl; kernel_rfl; exact fun _ _ _ h => h; rfl; (intro w' hSw; (try dsimp only at hSw); go_simp; with_reducible rfl); simp only [Act.put, pB, pC, pD]
    refine tkH (by assumption) 12 (oi := ?_) (v := ?_) ?_ ?_ ?_ ?_ ?_ ?_ ?_ ?_; rotate_left 2; (simp only [gA, gB, gC]; exact rfl); kernel_rfl; kernel_rfl; kernel_rfl; exact fun _ _ _ h => h; rfl; (intro w' hSw; (try dsimp only at hSw); go_simp; with_reducible rfl); simp only [Act.put, pB, pC, pD]
    refine onH 7 (oi := ?_) (by kernel_rfl) ?_ ?_ (fun K hK => ?_); rotate_left; (simp only [gA, gB, gC]; exact rfl); rfl
    go_wp2_with (fail)
    refine (abs_any _ _ SB.out).mono ?_
    rintro e w' ⟨rfl, rfl⟩
    refine hK.out _ _ hHeld (fun hHeldN => ?_)
    clear hK K hHeld
    have hHeld := hHeldN
    clear hHeldN
    try simp only [Act.put, pB, pC, pD]
    refine tkH (by assumption) 13 (oi := ?_) (v := ?_) ?_ ?_ ?_ ?_ ?_ ?_ ?_ ?_; rotate_left 2; (simp only [gA, gB, gC]; exact rfl); kernel_rfl; kernel_rfl; kernel_rfl; exact fun _ _ _ h => h; rfl; (intro w' hSw; (try dsimp only at hSw); go_simp; with_reducible rfl); simp only [Act.put, pB, pC, pD]
    refine wpAnyH_done (by kernel_rfl) ?_ _
    have HKEY := Lib.hid (show jnOk u v (gainZ c l) = !decide (gainZ c l < absZ (u * u - v * v)) by
      unfold jnOk absZ
      rw [← decide_not]
      exact decide_eq_decide.2 (by split <;> omega))
    by_cases hq : gainZ c l < absZ (u * u - v * v)
    · have R := Lib.hid (show exE u v l m c = 16 by unfold exE; rw [if_pos HZ.out, HKEY.out, if_neg (by simpa using hq)])
      go_wp2_with (fail)
      go_ret
      exact ⟨ret_int R.out.symm, Below.next_drew B0.out⟩
    · have R := Lib.hid (show exE u v l m c = 0 by unfold exE; rw [if_pos HZ.out, HKEY.out, if_pos (by simpa using hq)])
      go_wp2_with (fail)
      go_ret
      exact ⟨ret_int R.out.symm, Below.next_drew B0.out⟩
  · have hz' : (chkE u v l m c != 0) = true := by simpa using hz
    have R := Lib.hid (show exE u v l m c = chkE u v l m c by unfold exE; rw [if_neg hz])
    clear hz
    go_wp2_with (fail)
    go_ret
    exact ⟨ret_int R.out.symm, B0.out⟩
end Go.Proofs.Ytjjedffmcloahaa

/- The program's own check of a face. -/
import Derived.Test.YtmcebhjcaacbpaaMF
set_option linter.unusedSimpArgs false
set_option linter.unusedVariables false
namespace Go.Proofs.Ytmcebhjcaacbpaa
open Go.RowKit

def faceErr (nv : Nat) (V : Nat → V3) (f : V3) : Int := if fIx nv f = true then (if fZero V f = true then 3 else 0) else 8
theorem faceErr_eq (nv : Nat) (V F : Nat → V3) (i : Nat) : faceErr nv V (F i) = fErr nv V F i := rfl

def CornPost (w : World) (x y z : Int) (e : Ending) (w' : World) : Prop :=
  ∃ b, e = .returned (.slice (some ⟨b, 0, none⟩) 3 3) ∧ w.heap.size ≤ b ∧ b < w'.heap.size ∧ w'.cell? ⟨b, 0, none⟩ = some (.int .i64 x) ∧ w'.cell? ⟨b, 1, none⟩ = some (.int .i64 y) ∧ w'.cell? ⟨b, 2, none⟩ = some (.int .i64 z) ∧ Below w.heap.size w w'
theorem corners_of_any (x y z : Int) (w : World) :
    Calls Try.prog 76 #[.agg #[.int .i64 x, .int .i64 y, .int .i64 z]] w (CornPost w x y z) := by
  go_enter Try.func76, Try.ntmps76
  go_wp2
  go_ret
  exact ⟨_, rfl, by simp, by simp, by simp [go_sem], by simp [go_sem], by simp [go_sem], (by repeat (first | exact Below.refl _ _ | assumption | refine Below.drew ?_ | refine bdrewN ?_ _ | refine Below.setCell ?_ (by first | omega | (simp <;> omega)) _ | refine Below.alloc ?_ (by first | omega | (simp <;> omega)) _))⟩

/-- The normal of a face whose corners are right. -/
theorem mnormal_int (av : Option Addr) (nv cv : Nat) (V : Nat → V3) (f : V3) (w : World) (hn : nv ≤ 1000000) (hv : Row3 w av nv V) (hx : fIx nv f = true) :
    Calls Try.prog 21 #[.slice av nv cv, .agg #[.int .i64 f.x, .int .i64 f.y, .int .i64 f.z]] w
      fun e w' => e = .returned (.agg #[.int .i64 (fNrm V f).x, .int .i64 (fNrm V f).y, .int .i64 (fNrm V f).z]) ∧ Below w.heap.size w w' := by
  simp only [fIx, inB, Bool.and_eq_true, decide_eq_true_eq] at hx
  obtain ⟨⟨x0, x1⟩, ⟨y0, y1⟩, z0, z1⟩ := hx
  rcases hv with rfl | ⟨b, off, rfl, hb, hc⟩
  · omega
  obtain ⟨i, hi⟩ := Int.eq_ofNat_of_zero_le x0
  obtain ⟨j, hj⟩ := Int.eq_ofNat_of_zero_le y0
  obtain ⟨k, hk⟩ := Int.eq_ofNat_of_zero_le z0
  have := normal_any b off nv cv V i j k (by omega) (by omega) (by omega) hn w hb hc
  unfold fNrm
  rw [hi, hj, hk]
  exact this

set_option maxRecDepth 100000 in
set_option maxHeartbeats 4000000 in
theorem checkFace_any (av : Option Addr) (nv cv : Nat) (V : Nat → V3) (x y z : Int) (w : World) (hn : nv ≤ 1000000) (hv : Row3 w av nv V) :
    Calls Try.prog 50 #[.slice av nv cv, .agg #[.int .i64 x, .int .i64 y, .int .i64 z]] w fun e w' => e = .returned (.int .i64 (faceErr nv V ⟨x, y, z⟩)) ∧ Below w.heap.size w w' := by
  have HV := Lib.hid hv
  clear hv
  by_cases hx : ¬ (0 ≤ x ∧ x ≤ (nv : Int) - 1)
  · have hn : fIx nv ⟨x, y, z⟩ = false := by simp [fIx, inB]; omega
    have HR := Lib.hid hn
    clear hn
    by_cases hneg : x < 0
    · have d1 : decide (x < 0) = true := by simpa using hneg
      have d2 : (x < 0) = True := by simpa using hneg
      clear d2
      go_enter Try.func50, Try.ntmps50
      go_wp2_with (go_at_call 76; refine (corners_of_any _ _ _ _).mono ?_; rintro e w1 ⟨bs, rfl, hbs1, hbs2, k0, k1, k2, hb1⟩; have q0 : w1.cell? ⟨w.heap.size, 0, none⟩ = some (.int .i64 x) := (hb1.cell (p := ⟨w.heap.size, 0, none⟩) (by simp)).trans (by simp [go_sem]))
      refine wp_loop_rounds 4 ?_
      rw [rounds_succ]; go_wp2
      go_ret
      exact ⟨ret_int (by simp [faceErr, HR.out]), Below.trans (by repeat (first | exact Below.refl _ _ | assumption | refine Below.drew ?_ | refine bdrewN ?_ _ | refine Below.setCell ?_ (by first | omega | (simp <;> omega)) _ | refine Below.alloc ?_ (by first | omega | (simp <;> omega)) _)) (hb1.mono (by simp))⟩
    · have d1 : decide (x < 0) = false := by simpa using hneg
      have hge : (nv : Int) ≤ x := by omega
      go_enter Try.func50, Try.ntmps50
      go_wp2_with (go_at_call 76; refine (corners_of_any _ _ _ _).mono ?_; rintro e w1 ⟨bs, rfl, hbs1, hbs2, k0, k1, k2, hb1⟩; have q0 : w1.cell? ⟨w.heap.size, 0, none⟩ = some (.int .i64 x) := (hb1.cell (p := ⟨w.heap.size, 0, none⟩) (by simp)).trans (by simp [go_sem]))
      refine wp_loop_rounds 4 ?_
      rw [rounds_succ]; go_wp2
      go_ret
      exact ⟨ret_int (by simp [faceErr, HR.out]), Below.trans (by repeat (first | exact Below.refl _ _ | assumption | refine Below.drew ?_ | refine bdrewN ?_ _ | refine Below.setCell ?_ (by first | omega | (simp <;> omega)) _ | refine Below.alloc ?_ (by first | omega | (simp <;> omega)) _)) (hb1.mono (by simp))⟩
  have hx' : 0 ≤ x ∧ x < (nv : Int) := by omega
  clear hx
  obtain ⟨x0, x1⟩ := hx'
  by_cases hy : ¬ (0 ≤ y ∧ y ≤ (nv : Int) - 1)
  · have hn : fIx nv ⟨x, y, z⟩ = false := by simp [fIx, inB]; omega
    have HR := Lib.hid hn
    clear hn
    by_cases hneg : y < 0
    · have d1 : decide (y < 0) = true := by simpa using hneg
      have d2 : (y < 0) = True := by simpa using hneg
      clear d2
      go_enter Try.func50, Try.ntmps50
      go_wp2_with (go_at_call 76; refine (corners_of_any _ _ _ _).mono ?_; rintro e w1 ⟨bs, rfl, hbs1, hbs2, k0, k1, k2, hb1⟩; have q0 : w1.cell? ⟨w.heap.size, 0, none⟩ = some (.int .i64 x) := (hb1.cell (p := ⟨w.heap.size, 0, none⟩) (by simp)).trans (by simp [go_sem]))
      refine wp_loop_rounds 4 ?_
      rw [rounds_succ]; go_wp2
      rw [rounds_succ]; go_wp2
      go_ret
      exact ⟨ret_int (by simp [faceErr, HR.out]), Below.trans (by repeat (first | exact Below.refl _ _ | assumption | refine Below.drew ?_ | refine bdrewN ?_ _ | refine Below.setCell ?_ (by first | omega | (simp <;> omega)) _ | refine Below.alloc ?_ (by first | omega | (simp <;> omega)) _)) (hb1.mono (by simp))⟩
    · have d1 : decide (y < 0) = false := by simpa using hneg
      have hge : (nv : Int) ≤ y := by omega
      go_enter Try.func50, Try.ntmps50
      go_wp2_with (go_at_call 76; refine (corners_of_any _ _ _ _).mono ?_; rintro e w1 ⟨bs, rfl, hbs1, hbs2, k0, k1, k2, hb1⟩; have q0 : w1.cell? ⟨w.heap.size, 0, none⟩ = some (.int .i64 x) := (hb1.cell (p := ⟨w.heap.size, 0, none⟩) (by simp)).trans (by simp [go_sem]))
      refine wp_loop_rounds 4 ?_
      rw [rounds_succ]; go_wp2
      rw [rounds_succ]; go_wp2
      go_ret
      exact ⟨ret_int (by simp [faceErr, HR.out]), Below.trans (by repeat (first | exact Below.refl _ _ | assumption | refine Below.drew ?_ | refine bdrewN ?_ _ | refine Below.setCell ?_ (by first | omega | (simp <;> omega)) _ | refine Below.alloc ?_ (by first | omega | (simp <;> omega)) _)) (hb1.mono (by simp))⟩
  have hy' : 0 ≤ y ∧ y < (nv : Int) := by omega
  clear hy
  obtain ⟨y0, y1⟩ := hy'
  by_cases hz : ¬ (0 ≤ z ∧ z ≤ (nv : Int) - 1)
  · have hn : fIx nv ⟨x, y, z⟩ = false := by simp [fIx, inB]; omega
    have HR := Lib.hid hn
    clear hn
    by_cases hneg : z < 0
    · have d1 : decide (z < 0) = true := by simpa using hneg
      have d2 : (z < 0) = True := by simpa using hneg
      clear d2
      go_enter Try.func50, Try.ntmps50
      go_wp2_with (go_at_call 76; refine (corners_of_any _ _ _ _).mono ?_; rintro e w1 ⟨bs, rfl, hbs1, hbs2, k0, k1, k2, hb1⟩; have q0 : w1.cell? ⟨w.heap.size, 0, none⟩ = some (.int .i64 x) := (hb1.cell (p := ⟨w.heap.size, 0, none⟩) (by simp)).trans (by simp [go_sem]))
      refine wp_loop_rounds 4 ?_
      rw [rounds_succ]; go_wp2
      rw [rounds_succ]; go_wp2
      rw [rounds_succ]; go_wp2
      go_ret
      exact ⟨ret_int (by simp [faceErr, HR.out]), Below.trans (by repeat (first | exact Below.refl _ _ | assumption | refine Below.drew ?_ | refine bdrewN ?_ _ | refine Below.setCell ?_ (by first | omega | (simp <;> omega)) _ | refine Below.alloc ?_ (by first | omega | (simp <;> omega)) _)) (hb1.mono (by simp))⟩
    · have d1 : decide (z < 0) = false := by simpa using hneg
      have hge : (nv : Int) ≤ z := by omega
      go_enter Try.func50, Try.ntmps50
      go_wp2_with (go_at_call 76; refine (corners_of_any _ _ _ _).mono ?_; rintro e w1 ⟨bs, rfl, hbs1, hbs2, k0, k1, k2, hb1⟩; have q0 : w1.cell? ⟨w.heap.size, 0, none⟩ = some (.int .i64 x) := (hb1.cell (p := ⟨w.heap.size, 0, none⟩) (by simp)).trans (by simp [go_sem]))
      refine wp_loop_rounds 4 ?_
      rw [rounds_succ]; go_wp2
      rw [rounds_succ]; go_wp2
      rw [rounds_succ]; go_wp2
      go_ret
      exact ⟨ret_int (by simp [faceErr, HR.out]), Below.trans (by repeat (first | exact Below.refl _ _ | assumption | refine Below.drew ?_ | refine bdrewN ?_ _ | refine Below.setCell ?_ (by first | omega | (simp <;> omega)) _ | refine Below.alloc ?_ (by first | omega | (simp <;> omega)) _)) (hb1.mono (by simp))⟩
  have hz' : 0 ≤ z ∧ z < (nv : Int) := by omega
  clear hz
  obtain ⟨z0, z1⟩ := hz'
  have hix : fIx nv ⟨x, y, z⟩ = true := by simp [fIx, inB]; omega
  have HX := Lib.hid hix
  clear hix
  have hE := fun wx => eql_vec (fNrm V ⟨x, y, z⟩).x (fNrm V ⟨x, y, z⟩).y (fNrm V ⟨x, y, z⟩).z 0 0 0 wx
  have hG := gd_vec
  rcases hT : tEq (fNrm V ⟨x, y, z⟩).x (fNrm V ⟨x, y, z⟩).y (fNrm V ⟨x, y, z⟩).z 0 0 0 with _ | _
  all_goals
    have HT : Hid (fZero V ⟨x, y, z⟩ = _) := hT
    go_enter Try.func50, Try.ntmps50
    go_wp2_with (go_at_call 76; refine (corners_of_any _ _ _ _).mono ?_; rintro e w1 ⟨bs, rfl, hbs1, hbs2, k0, k1, k2, hb1⟩; have q0 : w1.cell? ⟨w.heap.size, 0, none⟩ = some (.int .i64 x) := (hb1.cell (p := ⟨w.heap.size, 0, none⟩) (by simp)).trans (by simp [go_sem]); have q1 : w1.cell? ⟨w.heap.size, 1, none⟩ = some (.int .i64 y) := (hb1.cell (p := ⟨w.heap.size, 1, none⟩) (by simp)).trans (by simp [go_sem]); have q2 : w1.cell? ⟨w.heap.size, 2, none⟩ = some (.int .i64 z) := (hb1.cell (p := ⟨w.heap.size, 2, none⟩) (by simp)).trans (by simp [go_sem]))
    refine wp_loop_rounds 4 ?_
    rw [rounds_succ]; go_wp2
    rw [rounds_succ]; go_wp2
    rw [rounds_succ]; go_wp2
    rw [rounds_succ]; go_wp2_with (go_at_call 21; refine (mnormal_int av nv cv V ⟨x, y, z⟩ _ hn ((HV.out.kept ((by repeat (first | exact Below.refl _ _ | assumption | refine Below.drew ?_ | refine bdrewN ?_ _ | refine Below.setCell ?_ (by first | omega | (simp <;> omega)) _ | refine Below.alloc ?_ (by first | omega | (simp <;> omega)) _)))).kept hb1) HX.out).mono ?_; rintro e w2 ⟨rfl, hb2⟩)
    go_ret
    exact ⟨ret_int (by simp [faceErr, HX.out, HT.out]), (Below.trans (by repeat (first | exact Below.refl _ _ | assumption | refine Below.drew ?_ | refine bdrewN ?_ _ | refine Below.setCell ?_ (by first | omega | (simp <;> omega)) _ | refine Below.alloc ?_ (by first | omega | (simp <;> omega)) _)) (hb1.mono (by simp))).trans (hb2.mono (by have := hb1.size; simp at this; omega))⟩
end Go.Proofs.Ytmcebhjcaacbpaa

/- The reference's normal of a face. -/
import Derived.Test.YtmcebhjcaacbpaaCorn
set_option linter.unusedSimpArgs false
set_option linter.unusedVariables false
namespace Go.Proofs.Ytmcebhjcaacbpaa
open Go.RowKit

set_option maxHeartbeats 1000000 in
theorem rnormal_any (b off n cap : Nat) (V : Nat → V3) (i j k : Nat) (sf : Value) (hsf : sf.oneCell' = true) (hi : i < n) (hj : j < n) (hk : k < n) (w : World) (hb : b < w.heap.size) (hc : Tri w b off n V) :
    Calls Try.prog 46 #[.agg #[.slice (some ⟨b, off, none⟩) n cap, sf], .agg #[.int .i64 i, .int .i64 j, .int .i64 k]] w
      fun e w' => e = .returned (.agg #[.int .i64 (vnorm (V i) (V j) (V k)).x, .int .i64 (vnorm (V i) (V j) (V k)).y, .int .i64 (vnorm (V i) (V j) (V k)).z]) ∧ Below w.heap.size w w' := by
  have HC := Lib.hid hc
  clear hc
  go_enter Try.func46, Try.ntmps46
  go_wp2_with (first
    | (go_at_call 72; refine (corners_any b off n cap V i j k sf hsf hi hj hk _ (by simp; omega) (HC.out.kept (by repeat (first | exact Below.refl _ _ | assumption | refine Below.drew ?_ | refine bdrewN ?_ _ | refine Below.setCell ?_ (by first | omega | (simp <;> omega)) _ | refine Below.alloc ?_ (by first | omega | (simp <;> omega)) _)) hb)).mono ?_; rintro e w1 ⟨rfl, hb1⟩; have B1 : Below w.heap.size w w1 := Below.trans (by repeat (first | exact Below.refl _ _ | assumption | refine Below.drew ?_ | refine bdrewN ?_ _ | refine Below.setCell ?_ (by first | omega | (simp <;> omega)) _ | refine Below.alloc ?_ (by first | omega | (simp <;> omega)) _)) (hb1.mono (by simp <;> omega)); have z1 : w.heap.size + 1 + 1 + 1 ≤ w1.heap.size := by have := hb1.size; simp at this; omega))
  have r0 : w1.cell? ⟨w.heap.size + 1 + 1, 0, none⟩ = some (.int .i64 0) := (hb1.cell (p := ⟨w.heap.size + 1 + 1, 0, none⟩) (by simp)).trans (by simp [go_sem])
  have r1 : w1.cell? ⟨w.heap.size + 1 + 1, 1, none⟩ = some (.int .i64 0) := (hb1.cell (p := ⟨w.heap.size + 1 + 1, 1, none⟩) (by simp)).trans (by simp [go_sem])
  have r2 : w1.cell? ⟨w.heap.size + 1 + 1, 2, none⟩ = some (.int .i64 0) := (hb1.cell (p := ⟨w.heap.size + 1 + 1, 2, none⟩) (by simp)).trans (by simp [go_sem])
  have p0 : w1.frozen? ⟨w.heap.size + 1 + 1, 0, none⟩ = false := (hb1.frozen (p := ⟨w.heap.size + 1 + 1, 0, none⟩) (by simp)).trans (by simp [go_sem])
  have p1 : w1.frozen? ⟨w.heap.size + 1 + 1, 1, none⟩ = false := (hb1.frozen (p := ⟨w.heap.size + 1 + 1, 1, none⟩) (by simp)).trans (by simp [go_sem])
  have p2 : w1.frozen? ⟨w.heap.size + 1 + 1, 2, none⟩ = false := (hb1.frozen (p := ⟨w.heap.size + 1 + 1, 2, none⟩) (by simp)).trans (by simp [go_sem])
  generalize hw0 : ((w1.alloc (Obj.cells #[Value.int IntKind.i64 (V i).x, Value.int IntKind.i64 (V i).y, Value.int IntKind.i64 (V i).z] 39)).alloc (Obj.cells #[Value.int IntKind.i64 (V j).x, Value.int IntKind.i64 (V j).y, Value.int IntKind.i64 (V j).z] 39)).alloc (Obj.cells #[Value.int IntKind.i64 (V k).x, Value.int IntKind.i64 (V k).y, Value.int IntKind.i64 (V k).z] 39) = w0
  have y0 : Below w1.heap.size w1 w0 := by subst hw0; exact (by repeat (first | exact Below.refl _ _ | assumption | refine Below.drew ?_ | refine bdrewN ?_ _ | refine Below.setCell ?_ (by first | omega | (simp <;> omega)) _ | refine Below.alloc ?_ (by first | omega | (simp <;> omega)) _))
  have z2 : w1.heap.size + 1 + 1 < w0.heap.size := by subst hw0; simp
  have z3 : w1.heap.size < w0.heap.size := by omega
  have z4 : w1.heap.size + 1 < w0.heap.size := by omega
  have zr : w.heap.size + 1 + 1 < w0.heap.size := by omega
  have n0 : w1.heap.size ≠ w.heap.size + 1 + 1 := by omega
  have n1 : w1.heap.size ≠ w.heap.size + 1 := by omega
  have n2 : w1.heap.size ≠ w.heap.size := by omega
  have B0 : Below w.heap.size w w0 := B1.trans (y0.mono (by omega))
  have qc0 : w0.cell? ⟨w1.heap.size, 0, none⟩ = some (.int .i64 (V i).x) := by subst hw0; simp [go_sem]
  have qc1 : w0.cell? ⟨w1.heap.size, 1, none⟩ = some (.int .i64 (V i).y) := by subst hw0; simp [go_sem]
  have qc2 : w0.cell? ⟨w1.heap.size, 2, none⟩ = some (.int .i64 (V i).z) := by subst hw0; simp [go_sem]
  have qc3 : w0.cell? ⟨w1.heap.size + 1, 0, none⟩ = some (.int .i64 (V j).x) := by subst hw0; simp [go_sem]
  have qc4 : w0.cell? ⟨w1.heap.size + 1, 1, none⟩ = some (.int .i64 (V j).y) := by subst hw0; simp [go_sem]
  have qc5 : w0.cell? ⟨w1.heap.size + 1, 2, none⟩ = some (.int .i64 (V j).z) := by subst hw0; simp [go_sem]
  have qc6 : w0.cell? ⟨w1.heap.size + 1 + 1, 0, none⟩ = some (.int .i64 (V k).x) := by subst hw0; simp [go_sem]
  have qc7 : w0.cell? ⟨w1.heap.size + 1 + 1, 1, none⟩ = some (.int .i64 (V k).y) := by subst hw0; simp [go_sem]
  have qc8 : w0.cell? ⟨w1.heap.size + 1 + 1, 2, none⟩ = some (.int .i64 (V k).z) := by subst hw0; simp [go_sem]
  have g0 : w0.frozen? ⟨w.heap.size + 1 + 1, 0, none⟩ = false := (y0.frozen (p := ⟨w.heap.size + 1 + 1, 0, none⟩) (by show w.heap.size + 1 + 1 < _; omega)).trans p0
  have g1 : w0.frozen? ⟨w.heap.size + 1 + 1, 1, none⟩ = false := (y0.frozen (p := ⟨w.heap.size + 1 + 1, 1, none⟩) (by show w.heap.size + 1 + 1 < _; omega)).trans p1
  have g2 : w0.frozen? ⟨w.heap.size + 1 + 1, 2, none⟩ = false := (y0.frozen (p := ⟨w.heap.size + 1 + 1, 2, none⟩) (by show w.heap.size + 1 + 1 < _; omega)).trans p2
  have hS : ∀ o, o < 3 → (w0.cell? ⟨w.heap.size + 1 + 1, o, none⟩).isSome = true := by
    intro o ho; match o, ho with
    | 0, _ => rw [cellk y0 (by omega) r0]; rfl
    | 1, _ => rw [cellk y0 (by omega) r1]; rfl
    | 2, _ => rw [cellk y0 (by omega) r2]; rfl
  have HS := Lib.hid hS
  clear hS hw0 r0 r1 r2 p0 p1 p2 hb1 B1
  go_region_held3 (fun w' => (∀ b o, b < w0.heap.size → b ≠ w.heap.size + 1 + 1 → w'.cell? ⟨b, o, none⟩ = w0.cell? ⟨b, o, none⟩) ∧ (∀ b o, b < w0.heap.size → w'.frozen? ⟨b, o, none⟩ = w0.frozen? ⟨b, o, none⟩) ∧ (∀ o, o < 3 → w'.cell? ⟨w.heap.size + 1 + 1, o, none⟩ = some (rd w' (w.heap.size + 1 + 1) o)) ∧ Below (w.heap.size) w0 w')
    (first | exact hold0 HS.out | exact hold_call (by assumption) zr (by omega) hb' | exact hold_set (hold_set (hold_set (by assumption) (by omega) _ _) (by omega) _ _) (by omega) _ _)
    (first
      | (go_at_call 74; refine (rsub_any _ _ _ _ _ _ _).mono ?_; rintro e w' ⟨rfl, hb'⟩)
      | (go_at_call 73; refine (rcross_any _ _ _ _ _ _ _).mono ?_; rintro e w' ⟨rfl, hb'⟩))
  all_goals
    obtain ⟨_, _, hR, hBel⟩ := ‹_ ∧ _ ∧ _ ∧ Below w.heap.size w0 _›
    obtain ⟨r0, r1, r2⟩ := set3_read hR
    have HB := Lib.hid (B0.trans hBel)
    clear hR hBel
    generalize World.setCell _ _ _ = W at *
    clear ‹_ ∧ _ ∧ _ ∧ Below w.heap.size w0 _›
    go_wp2
    exact bodyPost_ret (v := .agg #[.int .i64 (vnorm (V i) (V j) (V k)).x, .int .i64 (vnorm (V i) (V j) (V k)).y, .int .i64 (vnorm (V i) (V j) (V k)).z]) (by simp [results, Try.results46, go_sem, r0, r1, r2, vnorm, vcross, vsub]) rfl ⟨rfl, HB.out⟩
end Go.Proofs.Ytmcebhjcaacbpaa

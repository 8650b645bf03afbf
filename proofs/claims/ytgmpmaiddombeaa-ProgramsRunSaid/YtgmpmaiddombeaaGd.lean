/- What a step does: by the program and by the reference. -/
import Derived.Test.YtgmpmaiddombeaaGa
import Derived.BigRegion
import Derived.Deep.RegionWith
set_option linter.unusedSimpArgs false
set_option linter.unusedVariables false
namespace Go.Proofs.Ytgmpmaiddombeaa
open Go.RowKit
theorem reached_any (r : Bool) (a t : Int) (w : World) (h : -9000000000000000000 ≤ a + t ∧ a + t ≤ 9000000000000000000) : Calls Try.prog 46 #[.bool r, .int .i64 a, .int .i64 t] w fun e w' => e = .returned (.int .i64 (rch r a t)) ∧ w = w' := by
  have e1 := i64w h
  cases r
  all_goals
    go_enter Try.func46, Try.ntmps46
    go_wp2_with (fail)
    go_ret
    exact ⟨rfl, rfl⟩
/-- No sum is too large. -/
structure Fit (mx my mz mf x y z f : Int) : Prop where
  c0 : -9000000000000000000 ≤ mx + x ∧ mx + x ≤ 9000000000000000000
  c1 : -9000000000000000000 ≤ my + y ∧ my + y ≤ 9000000000000000000
  c2 : -9000000000000000000 ≤ mz + z ∧ mz + z ≤ 9000000000000000000
  c3 : -9000000000000000000 ≤ mf + f ∧ mf + f ≤ 9000000000000000000
  c4 : -9000000000000000000 ≤ x ∧ x ≤ 9000000000000000000
  c5 : -9000000000000000000 ≤ y ∧ y ≤ 9000000000000000000
  c6 : -9000000000000000000 ≤ z ∧ z ≤ 9000000000000000000
set_option maxRecDepth 100000 in
set_option maxHeartbeats 8000000 in
theorem after1_any (mx my mz ms mh mt mf : Int) (mr : Bool) (x y z f n : Int) (w : World) (hf : Fit mx my mz mf x y z f) : Calls Try.prog 31 #[(.agg #[.int .i64 mx, .int .i64 my, .int .i64 mz, .int .i64 ms, .int .i64 mh, .int .i64 mt, .int .i64 mf, .bool mr]), .agg #[.int .i64 1, .int .i64 x, .int .i64 y, .int .i64 z, .int .i64 f, .int .i64 n]] w fun e w' => e = .returned (.agg #[.int .i64 mx, .int .i64 my, .int .i64 mz, .int .i64 ms, .int .i64 mh, .int .i64 mt, .int .i64 mf, .bool false]) ∧ Below w.heap.size w w' := by
  obtain ⟨g1, g2, g3, g4, g5, g6, g7⟩ := hf
  have e1 := i64w g1
  have e2 := i64w g2
  have e3 := i64w g3
  have e4 := i64w g4
  have e5 := i64w g5
  have e6 := i64w g6
  have e7 := i64w g7
  cases mr
  · go_enter Try.func31, Try.ntmps31
    go_wp2_with (fail)
    exact bodyPost_ret (v := (.agg #[.int .i64 mx, .int .i64 my, .int .i64 mz, .int .i64 ms, .int .i64 mh, .int .i64 mt, .int .i64 mf, .bool false])) (by simp [results, Try.results31, go_sem, rch]) rfl ⟨rfl, (by repeat (first | exact Below.refl _ _ | assumption | refine Below.drew ?_ | refine bdrewN ?_ _ | refine Below.setCell ?_ (by first | omega | (simp <;> omega)) _ | refine Below.alloc ?_ (by first | omega | (simp <;> omega)) _))⟩
  · go_enter Try.func31, Try.ntmps31
    go_wp2_with (fail)
    go_region
    go_wp2_with (fail)
    exact bodyPost_ret (v := (.agg #[.int .i64 mx, .int .i64 my, .int .i64 mz, .int .i64 ms, .int .i64 mh, .int .i64 mt, .int .i64 mf, .bool false])) (by simp [results, Try.results31, go_sem, rch]) rfl ⟨rfl, (by repeat (first | exact Below.refl _ _ | assumption | refine Below.drew ?_ | refine bdrewN ?_ _ | refine Below.setCell ?_ (by first | omega | (simp <;> omega)) _ | refine Below.alloc ?_ (by first | omega | (simp <;> omega)) _))⟩
set_option maxRecDepth 100000 in
set_option maxHeartbeats 8000000 in
theorem after2_any (mx my mz ms mh mt mf : Int) (mr : Bool) (x y z f n : Int) (w : World) (hf : Fit mx my mz mf x y z f) : Calls Try.prog 31 #[(.agg #[.int .i64 mx, .int .i64 my, .int .i64 mz, .int .i64 ms, .int .i64 mh, .int .i64 mt, .int .i64 mf, .bool mr]), .agg #[.int .i64 2, .int .i64 x, .int .i64 y, .int .i64 z, .int .i64 f, .int .i64 n]] w fun e w' => e = .returned (.agg #[.int .i64 mx, .int .i64 my, .int .i64 mz, .int .i64 ms, .int .i64 mh, .int .i64 mt, .int .i64 mf, .bool true]) ∧ Below w.heap.size w w' := by
  obtain ⟨g1, g2, g3, g4, g5, g6, g7⟩ := hf
  have e1 := i64w g1
  have e2 := i64w g2
  have e3 := i64w g3
  have e4 := i64w g4
  have e5 := i64w g5
  have e6 := i64w g6
  have e7 := i64w g7
  cases mr
  · go_enter Try.func31, Try.ntmps31
    go_wp2_with (fail)
    exact bodyPost_ret (v := (.agg #[.int .i64 mx, .int .i64 my, .int .i64 mz, .int .i64 ms, .int .i64 mh, .int .i64 mt, .int .i64 mf, .bool true])) (by simp [results, Try.results31, go_sem, rch]) rfl ⟨rfl, (by repeat (first | exact Below.refl _ _ | assumption | refine Below.drew ?_ | refine bdrewN ?_ _ | refine Below.setCell ?_ (by first | omega | (simp <;> omega)) _ | refine Below.alloc ?_ (by first | omega | (simp <;> omega)) _))⟩
  · go_enter Try.func31, Try.ntmps31
    go_wp2_with (fail)
    go_region
    go_wp2_with (fail)
    exact bodyPost_ret (v := (.agg #[.int .i64 mx, .int .i64 my, .int .i64 mz, .int .i64 ms, .int .i64 mh, .int .i64 mt, .int .i64 mf, .bool true])) (by simp [results, Try.results31, go_sem, rch]) rfl ⟨rfl, (by repeat (first | exact Below.refl _ _ | assumption | refine Below.drew ?_ | refine bdrewN ?_ _ | refine Below.setCell ?_ (by first | omega | (simp <;> omega)) _ | refine Below.alloc ?_ (by first | omega | (simp <;> omega)) _))⟩
set_option maxRecDepth 100000 in
set_option maxHeartbeats 8000000 in
theorem after3_any (mx my mz ms mh mt mf : Int) (mr : Bool) (x y z f n : Int) (w : World) (hf : Fit mx my mz mf x y z f) : Calls Try.prog 31 #[(.agg #[.int .i64 mx, .int .i64 my, .int .i64 mz, .int .i64 ms, .int .i64 mh, .int .i64 mt, .int .i64 mf, .bool mr]), .agg #[.int .i64 3, .int .i64 x, .int .i64 y, .int .i64 z, .int .i64 f, .int .i64 n]] w fun e w' => e = .returned (.agg #[.int .i64 (rch mr mx x), .int .i64 (rch mr my y), .int .i64 mz, .int .i64 ms, .int .i64 mh, .int .i64 mt, .int .i64 (mf + f), .bool mr]) ∧ Below w.heap.size w w' := by
  obtain ⟨g1, g2, g3, g4, g5, g6, g7⟩ := hf
  have e1 := i64w g1
  have e2 := i64w g2
  have e3 := i64w g3
  have e4 := i64w g4
  have e5 := i64w g5
  have e6 := i64w g6
  have e7 := i64w g7
  cases mr
  · go_enter Try.func31, Try.ntmps31
    go_wp2_with (fail)
    go_region
    go_wp2_with (fail)
    exact bodyPost_ret (v := (.agg #[.int .i64 (rch false mx x), .int .i64 (rch false my y), .int .i64 mz, .int .i64 ms, .int .i64 mh, .int .i64 mt, .int .i64 (mf + f), .bool false])) (by simp [results, Try.results31, go_sem, rch]) rfl ⟨rfl, (by repeat (first | exact Below.refl _ _ | assumption | refine Below.drew ?_ | refine bdrewN ?_ _ | refine Below.setCell ?_ (by first | omega | (simp <;> omega)) _ | refine Below.alloc ?_ (by first | omega | (simp <;> omega)) _))⟩
  · go_enter Try.func31, Try.ntmps31
    go_wp2_with (fail)
    go_region
    go_wp2_with (fail)
    go_region
    go_wp2_with (fail)
    exact bodyPost_ret (v := (.agg #[.int .i64 (rch true mx x), .int .i64 (rch true my y), .int .i64 mz, .int .i64 ms, .int .i64 mh, .int .i64 mt, .int .i64 (mf + f), .bool true])) (by simp [results, Try.results31, go_sem, rch]) rfl ⟨rfl, (by repeat (first | exact Below.refl _ _ | assumption | refine Below.drew ?_ | refine bdrewN ?_ _ | refine Below.setCell ?_ (by first | omega | (simp <;> omega)) _ | refine Below.alloc ?_ (by first | omega | (simp <;> omega)) _))⟩
set_option maxRecDepth 100000 in
set_option maxHeartbeats 8000000 in
theorem after4_any (mx my mz ms mh mt mf : Int) (mr : Bool) (x y z f n : Int) (w : World) (hf : Fit mx my mz mf x y z f) : Calls Try.prog 31 #[(.agg #[.int .i64 mx, .int .i64 my, .int .i64 mz, .int .i64 ms, .int .i64 mh, .int .i64 mt, .int .i64 mf, .bool mr]), .agg #[.int .i64 4, .int .i64 x, .int .i64 y, .int .i64 z, .int .i64 f, .int .i64 n]] w fun e w' => e = .returned (.agg #[.int .i64 (rch mr mx x), .int .i64 (rch mr my y), .int .i64 mz, .int .i64 ms, .int .i64 mh, .int .i64 mt, .int .i64 (mf + f), .bool mr]) ∧ Below w.heap.size w w' := by
  obtain ⟨g1, g2, g3, g4, g5, g6, g7⟩ := hf
  have e1 := i64w g1
  have e2 := i64w g2
  have e3 := i64w g3
  have e4 := i64w g4
  have e5 := i64w g5
  have e6 := i64w g6
  have e7 := i64w g7
  cases mr
  · go_enter Try.func31, Try.ntmps31
    go_wp2_with (fail)
    go_region
    go_wp2_with (fail)
    exact bodyPost_ret (v := (.agg #[.int .i64 (rch false mx x), .int .i64 (rch false my y), .int .i64 mz, .int .i64 ms, .int .i64 mh, .int .i64 mt, .int .i64 (mf + f), .bool false])) (by simp [results, Try.results31, go_sem, rch]) rfl ⟨rfl, (by repeat (first | exact Below.refl _ _ | assumption | refine Below.drew ?_ | refine bdrewN ?_ _ | refine Below.setCell ?_ (by first | omega | (simp <;> omega)) _ | refine Below.alloc ?_ (by first | omega | (simp <;> omega)) _))⟩
  · go_enter Try.func31, Try.ntmps31
    go_wp2_with (fail)
    go_region
    go_wp2_with (fail)
    go_region
    go_wp2_with (fail)
    exact bodyPost_ret (v := (.agg #[.int .i64 (rch true mx x), .int .i64 (rch true my y), .int .i64 mz, .int .i64 ms, .int .i64 mh, .int .i64 mt, .int .i64 (mf + f), .bool true])) (by simp [results, Try.results31, go_sem, rch]) rfl ⟨rfl, (by repeat (first | exact Below.refl _ _ | assumption | refine Below.drew ?_ | refine bdrewN ?_ _ | refine Below.setCell ?_ (by first | omega | (simp <;> omega)) _ | refine Below.alloc ?_ (by first | omega | (simp <;> omega)) _))⟩
set_option maxRecDepth 100000 in
set_option maxHeartbeats 8000000 in
theorem after5_any (mx my mz ms mh mt mf : Int) (mr : Bool) (x y z f n : Int) (w : World) (hf : Fit mx my mz mf x y z f) : Calls Try.prog 31 #[(.agg #[.int .i64 mx, .int .i64 my, .int .i64 mz, .int .i64 ms, .int .i64 mh, .int .i64 mt, .int .i64 mf, .bool mr]), .agg #[.int .i64 5, .int .i64 x, .int .i64 y, .int .i64 z, .int .i64 f, .int .i64 n]] w fun e w' => e = .returned (.agg #[.int .i64 mx, .int .i64 my, .int .i64 (rch mr mz z), .int .i64 ms, .int .i64 mh, .int .i64 mt, .int .i64 mf, .bool mr]) ∧ Below w.heap.size w w' := by
  obtain ⟨g1, g2, g3, g4, g5, g6, g7⟩ := hf
  have e1 := i64w g1
  have e2 := i64w g2
  have e3 := i64w g3
  have e4 := i64w g4
  have e5 := i64w g5
  have e6 := i64w g6
  have e7 := i64w g7
  cases mr
  · go_enter Try.func31, Try.ntmps31
    go_wp2_with (fail)
    exact bodyPost_ret (v := (.agg #[.int .i64 mx, .int .i64 my, .int .i64 (rch false mz z), .int .i64 ms, .int .i64 mh, .int .i64 mt, .int .i64 mf, .bool false])) (by simp [results, Try.results31, go_sem, rch]) rfl ⟨rfl, (by repeat (first | exact Below.refl _ _ | assumption | refine Below.drew ?_ | refine bdrewN ?_ _ | refine Below.setCell ?_ (by first | omega | (simp <;> omega)) _ | refine Below.alloc ?_ (by first | omega | (simp <;> omega)) _))⟩
  · go_enter Try.func31, Try.ntmps31
    go_wp2_with (fail)
    go_region
    go_wp2_with (fail)
    exact bodyPost_ret (v := (.agg #[.int .i64 mx, .int .i64 my, .int .i64 (rch true mz z), .int .i64 ms, .int .i64 mh, .int .i64 mt, .int .i64 mf, .bool true])) (by simp [results, Try.results31, go_sem, rch]) rfl ⟨rfl, (by repeat (first | exact Below.refl _ _ | assumption | refine Below.drew ?_ | refine bdrewN ?_ _ | refine Below.setCell ?_ (by first | omega | (simp <;> omega)) _ | refine Below.alloc ?_ (by first | omega | (simp <;> omega)) _))⟩
set_option maxRecDepth 100000 in
set_option maxHeartbeats 8000000 in
theorem after6_any (mx my mz ms mh mt mf : Int) (mr : Bool) (x y z f n : Int) (w : World) (hf : Fit mx my mz mf x y z f) : Calls Try.prog 31 #[(.agg #[.int .i64 mx, .int .i64 my, .int .i64 mz, .int .i64 ms, .int .i64 mh, .int .i64 mt, .int .i64 mf, .bool mr]), .agg #[.int .i64 6, .int .i64 x, .int .i64 y, .int .i64 z, .int .i64 f, .int .i64 n]] w fun e w' => e = .returned (.agg #[.int .i64 mx, .int .i64 my, .int .i64 mz, .int .i64 n, .int .i64 mh, .int .i64 mt, .int .i64 mf, .bool mr]) ∧ Below w.heap.size w w' := by
  obtain ⟨g1, g2, g3, g4, g5, g6, g7⟩ := hf
  have e1 := i64w g1
  have e2 := i64w g2
  have e3 := i64w g3
  have e4 := i64w g4
  have e5 := i64w g5
  have e6 := i64w g6
  have e7 := i64w g7
  cases mr
  · go_enter Try.func31, Try.ntmps31
    go_wp2_with (fail)
    exact bodyPost_ret (v := (.agg #[.int .i64 mx, .int .i64 my, .int .i64 mz, .int .i64 n, .int .i64 mh, .int .i64 mt, .int .i64 mf, .bool false])) (by simp [results, Try.results31, go_sem, rch]) rfl ⟨rfl, (by repeat (first | exact Below.refl _ _ | assumption | refine Below.drew ?_ | refine bdrewN ?_ _ | refine Below.setCell ?_ (by first | omega | (simp <;> omega)) _ | refine Below.alloc ?_ (by first | omega | (simp <;> omega)) _))⟩
  · go_enter Try.func31, Try.ntmps31
    go_wp2_with (fail)
    go_region
    go_wp2_with (fail)
    exact bodyPost_ret (v := (.agg #[.int .i64 mx, .int .i64 my, .int .i64 mz, .int .i64 n, .int .i64 mh, .int .i64 mt, .int .i64 mf, .bool true])) (by simp [results, Try.results31, go_sem, rch]) rfl ⟨rfl, (by repeat (first | exact Below.refl _ _ | assumption | refine Below.drew ?_ | refine bdrewN ?_ _ | refine Below.setCell ?_ (by first | omega | (simp <;> omega)) _ | refine Below.alloc ?_ (by first | omega | (simp <;> omega)) _))⟩
set_option maxRecDepth 100000 in
set_option maxHeartbeats 8000000 in
theorem after7_any (mx my mz ms mh mt mf : Int) (mr : Bool) (x y z f n : Int) (w : World) (hf : Fit mx my mz mf x y z f) : Calls Try.prog 31 #[(.agg #[.int .i64 mx, .int .i64 my, .int .i64 mz, .int .i64 ms, .int .i64 mh, .int .i64 mt, .int .i64 mf, .bool mr]), .agg #[.int .i64 7, .int .i64 x, .int .i64 y, .int .i64 z, .int .i64 f, .int .i64 n]] w fun e w' => e = .returned (.agg #[.int .i64 mx, .int .i64 my, .int .i64 mz, .int .i64 ms, .int .i64 mh, .int .i64 mt, .int .i64 mf, .bool mr]) ∧ Below w.heap.size w w' := by
  obtain ⟨g1, g2, g3, g4, g5, g6, g7⟩ := hf
  have e1 := i64w g1
  have e2 := i64w g2
  have e3 := i64w g3
  have e4 := i64w g4
  have e5 := i64w g5
  have e6 := i64w g6
  have e7 := i64w g7
  cases mr
  · go_enter Try.func31, Try.ntmps31
    go_wp2_with (fail)
    exact bodyPost_ret (v := (.agg #[.int .i64 mx, .int .i64 my, .int .i64 mz, .int .i64 ms, .int .i64 mh, .int .i64 mt, .int .i64 mf, .bool false])) (by simp [results, Try.results31, go_sem, rch]) rfl ⟨rfl, (by repeat (first | exact Below.refl _ _ | assumption | refine Below.drew ?_ | refine bdrewN ?_ _ | refine Below.setCell ?_ (by first | omega | (simp <;> omega)) _ | refine Below.alloc ?_ (by first | omega | (simp <;> omega)) _))⟩
  · go_enter Try.func31, Try.ntmps31
    go_wp2_with (fail)
    go_region
    go_wp2_with (fail)
    exact bodyPost_ret (v := (.agg #[.int .i64 mx, .int .i64 my, .int .i64 mz, .int .i64 ms, .int .i64 mh, .int .i64 mt, .int .i64 mf, .bool true])) (by simp [results, Try.results31, go_sem, rch]) rfl ⟨rfl, (by repeat (first | exact Below.refl _ _ | assumption | refine Below.drew ?_ | refine bdrewN ?_ _ | refine Below.setCell ?_ (by first | omega | (simp <;> omega)) _ | refine Below.alloc ?_ (by first | omega | (simp <;> omega)) _))⟩
set_option maxRecDepth 100000 in
set_option maxHeartbeats 8000000 in
theorem after8_any (mx my mz ms mh mt mf : Int) (mr : Bool) (x y z f n : Int) (w : World) (hf : Fit mx my mz mf x y z f) : Calls Try.prog 31 #[(.agg #[.int .i64 mx, .int .i64 my, .int .i64 mz, .int .i64 ms, .int .i64 mh, .int .i64 mt, .int .i64 mf, .bool mr]), .agg #[.int .i64 8, .int .i64 x, .int .i64 y, .int .i64 z, .int .i64 f, .int .i64 n]] w fun e w' => e = .returned (.agg #[.int .i64 mx, .int .i64 my, .int .i64 mz, .int .i64 ms, .int .i64 n, .int .i64 mt, .int .i64 mf, .bool mr]) ∧ Below w.heap.size w w' := by
  obtain ⟨g1, g2, g3, g4, g5, g6, g7⟩ := hf
  have e1 := i64w g1
  have e2 := i64w g2
  have e3 := i64w g3
  have e4 := i64w g4
  have e5 := i64w g5
  have e6 := i64w g6
  have e7 := i64w g7
  cases mr
  · go_enter Try.func31, Try.ntmps31
    go_wp2_with (fail)
    exact bodyPost_ret (v := (.agg #[.int .i64 mx, .int .i64 my, .int .i64 mz, .int .i64 ms, .int .i64 n, .int .i64 mt, .int .i64 mf, .bool false])) (by simp [results, Try.results31, go_sem, rch]) rfl ⟨rfl, (by repeat (first | exact Below.refl _ _ | assumption | refine Below.drew ?_ | refine bdrewN ?_ _ | refine Below.setCell ?_ (by first | omega | (simp <;> omega)) _ | refine Below.alloc ?_ (by first | omega | (simp <;> omega)) _))⟩
  · go_enter Try.func31, Try.ntmps31
    go_wp2_with (fail)
    go_region
    go_wp2_with (fail)
    exact bodyPost_ret (v := (.agg #[.int .i64 mx, .int .i64 my, .int .i64 mz, .int .i64 ms, .int .i64 n, .int .i64 mt, .int .i64 mf, .bool true])) (by simp [results, Try.results31, go_sem, rch]) rfl ⟨rfl, (by repeat (first | exact Below.refl _ _ | assumption | refine Below.drew ?_ | refine bdrewN ?_ _ | refine Below.setCell ?_ (by first | omega | (simp <;> omega)) _ | refine Below.alloc ?_ (by first | omega | (simp <;> omega)) _))⟩
set_option maxRecDepth 100000 in
set_option maxHeartbeats 8000000 in
theorem after9_any (mx my mz ms mh mt mf : Int) (mr : Bool) (x y z f n : Int) (w : World) (hf : Fit mx my mz mf x y z f) : Calls Try.prog 31 #[(.agg #[.int .i64 mx, .int .i64 my, .int .i64 mz, .int .i64 ms, .int .i64 mh, .int .i64 mt, .int .i64 mf, .bool mr]), .agg #[.int .i64 9, .int .i64 x, .int .i64 y, .int .i64 z, .int .i64 f, .int .i64 n]] w fun e w' => e = .returned (.agg #[.int .i64 mx, .int .i64 my, .int .i64 mz, .int .i64 ms, .int .i64 mh, .int .i64 n, .int .i64 mf, .bool mr]) ∧ Below w.heap.size w w' := by
  obtain ⟨g1, g2, g3, g4, g5, g6, g7⟩ := hf
  have e1 := i64w g1
  have e2 := i64w g2
  have e3 := i64w g3
  have e4 := i64w g4
  have e5 := i64w g5
  have e6 := i64w g6
  have e7 := i64w g7
  cases mr
  · go_enter Try.func31, Try.ntmps31
    go_wp2_with (fail)
    exact bodyPost_ret (v := (.agg #[.int .i64 mx, .int .i64 my, .int .i64 mz, .int .i64 ms, .int .i64 mh, .int .i64 n, .int .i64 mf, .bool false])) (by simp [results, Try.results31, go_sem, rch]) rfl ⟨rfl, (by repeat (first | exact Below.refl _ _ | assumption | refine Below.drew ?_ | refine bdrewN ?_ _ | refine Below.setCell ?_ (by first | omega | (simp <;> omega)) _ | refine Below.alloc ?_ (by first | omega | (simp <;> omega)) _))⟩
  · go_enter Try.func31, Try.ntmps31
    go_wp2_with (fail)
    go_region
    go_wp2_with (fail)
    exact bodyPost_ret (v := (.agg #[.int .i64 mx, .int .i64 my, .int .i64 mz, .int .i64 ms, .int .i64 mh, .int .i64 n, .int .i64 mf, .bool true])) (by simp [results, Try.results31, go_sem, rch]) rfl ⟨rfl, (by repeat (first | exact Below.refl _ _ | assumption | refine Below.drew ?_ | refine bdrewN ?_ _ | refine Below.setCell ?_ (by first | omega | (simp <;> omega)) _ | refine Below.alloc ?_ (by first | omega | (simp <;> omega)) _))⟩
theorem after_any (i : Nat) (m : Ma) (s : St) (w : World) (hs : SOk s) (hm : MB i m) (hi : i ≤ 10000) : Calls Try.prog 31 #[(.agg #[.int .i64 m.x, .int .i64 m.y, .int .i64 m.z, .int .i64 m.s, .int .i64 m.h, .int .i64 m.t, .int .i64 m.f, .bool m.r]), (.agg #[.int .i64 s.k, .int .i64 s.x, .int .i64 s.y, .int .i64 s.z, .int .i64 s.f, .int .i64 s.n])] w fun e w' => e = .returned (.agg #[.int .i64 (aft m s).x, .int .i64 (aft m s).y, .int .i64 (aft m s).z, .int .i64 (aft m s).s, .int .i64 (aft m s).h, .int .i64 (aft m s).t, .int .i64 (aft m s).f, .bool (aft m s).r]) ∧ Below w.heap.size w w' := by
  obtain ⟨g0, g1, g2, g3, g4, g5, _⟩ := hs
  obtain ⟨h1, h2, h3, h4, h5⟩ := hm
  have hF : Fit m.x m.y m.z m.f s.x s.y s.z s.f := ⟨by omega, by omega, by omega, by omega, by omega, by omega, by omega⟩
  rcases s with ⟨k, x, y, z, f, n⟩
  rcases m with ⟨mx, my, mz, ms, mh, mt, mf, mr⟩
  dsimp only at hF g0 ⊢
  clear h1 h2 h3 h4 h5 g1 g2 g3 g4 g5
  have h' : k = 1 ∨ k = 2 ∨ k = 3 ∨ k = 4 ∨ k = 5 ∨ k = 6 ∨ k = 7 ∨ k = 8 ∨ k = 9 := by omega
  rcases h' with rfl | rfl | rfl | rfl | rfl | rfl | rfl | rfl | rfl
  · exact after1_any mx my mz ms mh mt mf mr x y z f n w hF
  · exact after2_any mx my mz ms mh mt mf mr x y z f n w hF
  · exact after3_any mx my mz ms mh mt mf mr x y z f n w hF
  · exact after4_any mx my mz ms mh mt mf mr x y z f n w hF
  · exact after5_any mx my mz ms mh mt mf mr x y z f n w hF
  · exact after6_any mx my mz ms mh mt mf mr x y z f n w hF
  · exact after7_any mx my mz ms mh mt mf mr x y z f n w hF
  · exact after8_any mx my mz ms mh mt mf mr x y z f n w hF
  · exact after9_any mx my mz ms mh mt mf mr x y z f n w hF
end Go.Proofs.Ytgmpmaiddombeaa

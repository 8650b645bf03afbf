/- Boxes: Has, Joined. -/
import Derived.Test.YtllagjncibfcmaaGreatDoorCk
import Derived.Laws.StructEq
set_option linter.unusedSimpArgs false
set_option linter.unusedVariables false
namespace Go.Proofs.YtllagjncibfcmaaGreatDoor
open Go.RowKit

def hasB (l lo r h c q : Int) : Bool := decide (l ≤ c ∧ c < r ∧ lo ≤ q ∧ q < h)
set_option maxHeartbeats 4000000 in
theorem has_any (l lo r h c q : Int) (w : World) : Calls Tryz.prog 44 #[.agg #[.int .i64 l, .int .i64 lo, .int .i64 r, .int .i64 h], .agg #[.int .i64 c, .int .i64 q]] w fun e w' => e = .returned (.bool (hasB l lo r h c q)) ∧ Below w.heap.size w w' := by
  by_cases h1 : l ≤ c
  · by_cases h2 : c < r
    · by_cases h3 : lo ≤ q
      · by_cases h4 : q < h
        · have hr : hasB l lo r h c q = true := by simp [hasB, h1, h2, h3, h4]
          rw [hr]; clear hr
          go_enter Tryz.func44, Tryz.ntmps44
          go_wp2
          go_ret
          exact ⟨rfl, (by repeat (first | exact Below.refl _ _ | assumption | refine Below.drew ?_ | refine bdrewN ?_ _ | refine Below.setCell ?_ (by first | omega | (simp <;> omega)) _ | refine Below.alloc ?_ (by first | omega | (simp <;> omega)) _))⟩
        · have hr : hasB l lo r h c q = false := by simp [hasB, h4]
          rw [hr]; clear hr
          go_enter Tryz.func44, Tryz.ntmps44
          go_wp2
          go_ret
          exact ⟨rfl, (by repeat (first | exact Below.refl _ _ | assumption | refine Below.drew ?_ | refine bdrewN ?_ _ | refine Below.setCell ?_ (by first | omega | (simp <;> omega)) _ | refine Below.alloc ?_ (by first | omega | (simp <;> omega)) _))⟩
      · have hr : hasB l lo r h c q = false := by simp [hasB, h3]
        rw [hr]; clear hr
        go_enter Tryz.func44, Tryz.ntmps44
        go_wp2
        go_ret
        exact ⟨rfl, (by repeat (first | exact Below.refl _ _ | assumption | refine Below.drew ?_ | refine bdrewN ?_ _ | refine Below.setCell ?_ (by first | omega | (simp <;> omega)) _ | refine Below.alloc ?_ (by first | omega | (simp <;> omega)) _))⟩
    · have hr : hasB l lo r h c q = false := by simp [hasB, h2]
      rw [hr]; clear hr
      go_enter Tryz.func44, Tryz.ntmps44
      go_wp2
      go_ret
      exact ⟨rfl, (by repeat (first | exact Below.refl _ _ | assumption | refine Below.drew ?_ | refine bdrewN ?_ _ | refine Below.setCell ?_ (by first | omega | (simp <;> omega)) _ | refine Below.alloc ?_ (by first | omega | (simp <;> omega)) _))⟩
  · have hr : hasB l lo r h c q = false := by simp [hasB, h1]
    rw [hr]; clear hr
    go_enter Tryz.func44, Tryz.ntmps44
    go_wp2
    go_ret
    exact ⟨rfl, (by repeat (first | exact Below.refl _ _ | assumption | refine Below.drew ?_ | refine bdrewN ?_ _ | refine Below.setCell ?_ (by first | omega | (simp <;> omega)) _ | refine Below.alloc ?_ (by first | omega | (simp <;> omega)) _))⟩
theorem st_box : Tryz.prog.stoodInHeld 52 = false := by kernel_rfl
theorem eql_box (p q r s : Int) (h : p < r) (w : World) : (Go.binOp .eql 52 (.agg #[.int .i64 p, .int .i64 q, .int .i64 r, .int .i64 s]) (.agg #[.int .i64 0, .int .i64 0, .int .i64 0, .int .i64 0])).run Tryz.prog w = Result.ok (.bool false) w := by
  rw [run_eql_struct, run_equalIn_agg (ht := by kernel_rfl) (hp := st_box)]
  by_cases h1 : p = 0 <;> by_cases h2 : q = 0 <;> by_cases h3 : r = 0 <;> by_cases h4 : s = 0 <;> first | omega | simp [go_sem, h1, h2, h3, h4]
set_option maxHeartbeats 4000000 in
theorem joined_any (l lo r h l' lo' r' h' : Int) (w : World) (hb : l < r) (hb' : l' < r') : Calls Tryz.prog 28 #[.agg #[.int .i64 l, .int .i64 lo, .int .i64 r, .int .i64 h], .agg #[.int .i64 l', .int .i64 lo', .int .i64 r', .int .i64 h']] w fun e w' => e = .returned (.agg #[.int .i64 (min l l'), .int .i64 (min lo lo'), .int .i64 (max r r'), .int .i64 (max h h')]) ∧ Below w.heap.size w w' := by
  have e1 := eql_box l lo r h hb
  have e2 := eql_box l' lo' r' h' hb'
  clear hb hb'
  go_enter Tryz.func28, Tryz.ntmps28
  go_wp2_with (fail)
  exact bodyPost_ret (v := .agg #[.int .i64 (min l l'), .int .i64 (min lo lo'), .int .i64 (max r r'), .int .i64 (max h h')]) (by simp [results, Tryz.results28, go_sem]) rfl ⟨rfl, (by repeat (first | exact Below.refl _ _ | assumption | refine Below.drew ?_ | refine bdrewN ?_ _ | refine Below.setCell ?_ (by first | omega | (simp <;> omega)) _ | refine Below.alloc ?_ (by first | omega | (simp <;> omega)) _))⟩
set_option maxHeartbeats 4000000 in
theorem joined_l (l lo r h : Int) (w : World) (hb : l < r) : Calls Tryz.prog 28 #[.agg #[.int .i64 l, .int .i64 lo, .int .i64 r, .int .i64 h], .agg #[.int .i64 0, .int .i64 0, .int .i64 0, .int .i64 0]] w fun e w' => e = .returned (.agg #[.int .i64 l, .int .i64 lo, .int .i64 r, .int .i64 h]) ∧ Below w.heap.size w w' := by
  have e1 := eql_box l lo r h hb
  clear hb
  go_enter Tryz.func28, Tryz.ntmps28
  go_wp2_with (fail)
  exact bodyPost_ret (v := .agg #[.int .i64 l, .int .i64 lo, .int .i64 r, .int .i64 h]) (by simp [results, Tryz.results28, go_sem]) rfl ⟨rfl, (by repeat (first | exact Below.refl _ _ | assumption | refine Below.drew ?_ | refine bdrewN ?_ _ | refine Below.setCell ?_ (by first | omega | (simp <;> omega)) _ | refine Below.alloc ?_ (by first | omega | (simp <;> omega)) _))⟩
set_option maxHeartbeats 4000000 in
theorem joined_z (l lo r h : Int) (w : World) : Calls Tryz.prog 28 #[.agg #[.int .i64 0, .int .i64 0, .int .i64 0, .int .i64 0], .agg #[.int .i64 l, .int .i64 lo, .int .i64 r, .int .i64 h]] w fun e w' => e = .returned (.agg #[.int .i64 l, .int .i64 lo, .int .i64 r, .int .i64 h]) ∧ Below w.heap.size w w' := by
  go_enter Tryz.func28, Tryz.ntmps28
  go_wp2_with (fail)
  exact bodyPost_ret (v := .agg #[.int .i64 l, .int .i64 lo, .int .i64 r, .int .i64 h]) (by simp [results, Tryz.results28, go_sem]) rfl ⟨rfl, (by repeat (first | exact Below.refl _ _ | assumption | refine Below.drew ?_ | refine bdrewN ?_ _ | refine Below.setCell ?_ (by first | omega | (simp <;> omega)) _ | refine Below.alloc ?_ (by first | omega | (simp <;> omega)) _))⟩
end Go.Proofs.YtllagjncibfcmaaGreatDoor

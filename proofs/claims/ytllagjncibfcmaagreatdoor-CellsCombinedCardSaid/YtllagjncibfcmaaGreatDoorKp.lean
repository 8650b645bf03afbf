/- The set of any valid cells. -/
import Derived.Test.YtllagjncibfcmaaGreatDoorKo
set_option linter.unusedSimpArgs false
set_option linter.unusedVariables false
namespace Go.Proofs.YtllagjncibfcmaaGreatDoor
open Go.RowKit Go.Maps

set_option maxRecDepth 100000 in
set_option maxHeartbeats 4000000 in
theorem setOf_zero (s x y : Int) (a : Option Addr) (c : Nat) (w : World) :
    Calls Tryz.prog 36 #[.agg #[.int .i64 s, .int .i64 x, .int .i64 y, .slice a 0 c]] w (SetE w [] 1000000) := by
  have hmm := @run_makeMap Tryz.prog
  go_enter Tryz.func36, Tryz.ntmps36
  go_wp2_with (fail)
  refine wp_loop_rounds 1 ?_
  rw [rounds_succ]
  go_wp2_with (fail)
  go_ret
  have h := World.ownsMap_made (w.alloc (.cells #[.int .i64 s, .int .i64 x, .int .i64 y, .slice a 0 c] 28)) Tryz.prog 72 (plainElem (H := Unit) Tryz.prog 4)
  simp at h
  exact ⟨_, 0, rfl, by omega, by omega, h, (by repeat (first | exact Below.refl _ _ | assumption | refine Below.drew ?_ | refine bdrewN ?_ _ | refine Below.setCell ?_ (by first | omega | (simp <;> omega)) _ | refine Below.alloc ?_ (by first | omega | (simp <;> omega)) _))⟩
theorem setOf_all {s x y : Int} {n : Nat} {R : Nat → List UInt8} {cx cy : Int} {m : Nat} (a : Option Addr) (c : Nat) (w : World) (hv : VC s x y n R cx cy m) (hr : RowS w a n R) :
    Calls Tryz.prog 36 #[.agg #[.int .i64 s, .int .i64 x, .int .i64 y, .slice a n c]] w (SetE w (setL cx cy R n) 1000000) := by
  by_cases hn : n = 0
  · subst hn
    exact setOf_zero s x y a c w
  · rcases hr with h | ⟨b, off, rfl, hb, hs⟩
    · exact absurd h hn
    have h2 := hv.n2
    have h3 := hv.m2
    exact setOf_any s x y b off n c R w hb hs (fun i hi => (hv.row i hi).2) (fun i hi => by rw [(hv.row i hi).1]; omega) (by omega) hv.s2.1 (by have := hv.bx; omega) (by have := hv.by_; omega) cx cy hv.qx.1 hv.qy.1
theorem left_le {w : World} {k : TypeId} {S : Value → Option (DataW Unit × List MemPlace)} {b r n : Nat} {D : DataW Unit} {left : Lit → Bool} {cnt : Nat} (h : w.ranges Tryz.prog k S b r n D left cnt) : cnt ≤ n := by
  obtain ⟨es, clock, since, seen, c0, hb, F, hs, hD, hr, hs2, hc, _⟩ := h
  rw [← hc]
  refine Nat.le_trans ?_ hs
  unfold leftOf
  exact Array.size_filter_le
end Go.Proofs.YtllagjncibfcmaaGreatDoor

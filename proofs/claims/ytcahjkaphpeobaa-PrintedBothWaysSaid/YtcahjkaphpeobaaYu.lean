/- Points are compared; the package does something. -/
import Derived.Test.YtcahjkaphpeobaaYt
import Derived.Laws.StructEq
set_option linter.unusedSimpArgs false
set_option linter.unusedVariables false
namespace Go.Proofs.Ytcahjkaphpeobaa
open Go.RowKit

theorem st_pt : Try.prog.stoodInHeld 38 = false := by kernel_rfl
theorem gd_pt : Try.prog.eqGuardType Try.prog.depth 38 = false := by kernel_rfl
theorem neq_pt_self (x y : Int) (w : World) : (Go.binOp .neq 38 (.agg #[.int .i64 x, .int .i64 y]) (.agg #[.int .i64 x, .int .i64 y])).run Try.prog w = Result.ok (.bool false) w := by
  rw [run_neq_struct, run_equalIn_agg (ht := by kernel_rfl) (hp := st_pt)]
  simp [go_sem]
theorem eql_pt_self (x y : Int) (w : World) : (Go.binOp .eql 38 (.agg #[.int .i64 x, .int .i64 y]) (.agg #[.int .i64 x, .int .i64 y])).run Try.prog w = Result.ok (.bool true) w := by
  rw [run_eql_struct, run_equalIn_agg (ht := by kernel_rfl) (hp := st_pt)]
  simp [go_sem]
set_option maxHeartbeats 1000000 in
theorem equalP_any (a b : Option Addr) (n c d : Nat) (X Y : Nat → Int) (w : World) (ha : PtsR w a n X Y) (hb : PtsR w b n X Y) (hn : n ≤ 1000000) :
    Calls Try.prog 8 #[.slice a n c, .slice b n d] w fun e w' => e = .returned (.bool true) ∧ Below w.heap.size w w' := by
  have HA := Lib.hid ha
  have HB := Lib.hid hb
  clear ha hb
  go_enter Try.func8, Try.ntmps8
  go_wp2
  go_loopw [13] (fun i wr => ∃ k : Nat, k ≤ n ∧ i = .int .i64 k ∧ Below w.heap.size w wr) (fun i _ => n - (intOf i).toNat)
  case atStart => exact ⟨0, by omega, rfl, (by repeat (first | exact Below.refl _ _ | assumption | refine Below.drew ?_ | refine bdrewN ?_ _ | refine Below.setCell ?_ (by first | omega | (simp <;> omega)) _ | refine Below.alloc ?_ (by first | omega | (simp <;> omega)) _))⟩
  case round =>
    obtain ⟨k, hk, rfl, hbel⟩ := hrel
    have hsz := hbel.size
    by_cases hlt : k < n
    · rcases HA.out with h | ⟨ba, oa, rfl, hba, ca⟩
      · omega
      rcases HB.out with h | ⟨bb, ob, rfl, hbb, cb⟩
      · omega
      obtain ⟨c0, c1⟩ := (ca.kept hbel hba) k hlt
      obtain ⟨d0, d1⟩ := (cb.kept hbel hbb) k hlt
      have l1 : ba < wr.heap.size := by omega
      have l2 : bb < wr.heap.size := by omega
      have hE := fun wx => neq_pt_self (X k) (Y k) wx
      have hG := gd_pt
      have hi0 : (0 : Int) ≤ (k : Int) := by omega
      have hi1 : (k : Int) < (n : Int) := by omega
      clear ca cb
      have HBL := Lib.hid hbel
      clear hbel
      go_wp2
      go_quiet (fail)
      go_wp2
      go_roundw
      case rel => exact ⟨k + 1, by omega, by go_num, bdrewN HBL.out _⟩
      case measure => simp [intOf]; omega
    · obtain rfl : n = k := by omega
      go_wp2
      go_ret
      exact ⟨rfl, hbel⟩
end Go.Proofs.Ytcahjkaphpeobaa

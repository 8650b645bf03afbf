/- Equality of pairs and triples, as the model computes it. -/
import Derived.Test.YtmcebhjcaacbpaaVec
import Derived.Laws.StructEq
set_option linter.unusedSimpArgs false
set_option linter.unusedVariables false
namespace Go.Proofs.Ytmcebhjcaacbpaa
open Go.RowKit

def sEq (p q x y : Int) : Bool := p == x && q == y
def tEq (p q r x y z : Int) : Bool := p == x && (q == y && r == z)
theorem sEq_iff {p q x y : Int} : sEq p q x y = true ↔ p = x ∧ q = y := by simp [sEq]
theorem tEq_iff {p q r x y z : Int} : tEq p q r x y z = true ↔ p = x ∧ q = y ∧ r = z := by simp [tEq]

theorem st_side : Try.prog.stoodInHeld 102 = false := by kernel_rfl
theorem st_vec : Try.prog.stoodInHeld 39 = false := by kernel_rfl
theorem st_face : Try.prog.stoodInHeld 47 = false := by kernel_rfl
theorem gd_side : Try.prog.eqGuardType Try.prog.depth 102 = false := by kernel_rfl
theorem gd_vec : Try.prog.eqGuardType Try.prog.depth 39 = false := by kernel_rfl
theorem gd_face : Try.prog.eqGuardType Try.prog.depth 47 = false := by kernel_rfl

theorem eql_side (p q x y : Int) (w : World) : (Go.binOp .eql 102 (.agg #[.int .i64 p, .int .i64 q]) (.agg #[.int .i64 x, .int .i64 y])).run Try.prog w = Result.ok (.bool (sEq p q x y)) w := by
  rw [run_eql_struct, run_equalIn_agg (ht := by kernel_rfl) (hp := st_side)]
  by_cases h1 : p = x <;> by_cases h2 : q = y <;> simp [go_sem, sEq, h1, h2]

theorem eql_vec (p q r x y z : Int) (w : World) : (Go.binOp .eql 39 (.agg #[.int .i64 p, .int .i64 q, .int .i64 r]) (.agg #[.int .i64 x, .int .i64 y, .int .i64 z])).run Try.prog w = Result.ok (.bool (tEq p q r x y z)) w := by
  rw [run_eql_struct, run_equalIn_agg (ht := by kernel_rfl) (hp := st_vec)]
  by_cases h1 : p = x <;> by_cases h2 : q = y <;> by_cases h3 : r = z <;> simp [go_sem, tEq, h1, h2, h3]
theorem neq_vec (p q r x y z : Int) (w : World) : (Go.binOp .neq 39 (.agg #[.int .i64 p, .int .i64 q, .int .i64 r]) (.agg #[.int .i64 x, .int .i64 y, .int .i64 z])).run Try.prog w = Result.ok (.bool (!tEq p q r x y z)) w := by
  rw [run_neq_struct, run_equalIn_agg (ht := by kernel_rfl) (hp := st_vec)]
  by_cases h1 : p = x <;> by_cases h2 : q = y <;> by_cases h3 : r = z <;> simp [go_sem, tEq, h1, h2, h3]

theorem eql_face (p q r x y z : Int) (w : World) : (Go.binOp .eql 47 (.agg #[.int .i64 p, .int .i64 q, .int .i64 r]) (.agg #[.int .i64 x, .int .i64 y, .int .i64 z])).run Try.prog w = Result.ok (.bool (tEq p q r x y z)) w := by
  rw [run_eql_struct, run_equalIn_agg (ht := by kernel_rfl) (hp := st_face)]
  by_cases h1 : p = x <;> by_cases h2 : q = y <;> by_cases h3 : r = z <;> simp [go_sem, tEq, h1, h2, h3]
theorem neq_face (p q r x y z : Int) (w : World) : (Go.binOp .neq 47 (.agg #[.int .i64 p, .int .i64 q, .int .i64 r]) (.agg #[.int .i64 x, .int .i64 y, .int .i64 z])).run Try.prog w = Result.ok (.bool (!tEq p q r x y z)) w := by
  rw [run_neq_struct, run_equalIn_agg (ht := by kernel_rfl) (hp := st_face)]
  by_cases h1 : p = x <;> by_cases h2 : q = y <;> by_cases h3 : r = z <;> simp [go_sem, tEq, h1, h2, h3]
end Go.Proofs.Ytmcebhjcaacbpaa

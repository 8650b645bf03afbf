/- Places told anew: what is told of a step, by absolute and by Relative. -/
import Derived.Test.YthmplflmjjccfaaGq
import Derived.Test.YthmplflmjjccfaaGh
import Derived.Test.YthmplflmjjccfaaTk
set_option linter.unusedSimpArgs false
set_option linter.unusedVariables false
namespace Go.Proofs.Ythmplflmjjccfaa
open Go.RowKit
/-- A place, or a way to one. -/
structure Pl where
  x : Int
  y : Int
  z : Int
def plA (_ b : Ma) : Pl := ⟨b.x, b.y, b.z⟩
def plR (a b : Ma) : Pl := ⟨b.x - a.x, b.y - a.y, b.z - a.z⟩
/-- A step with its place told anew. -/
def toldS (s : St) (p : Pl) : St := if s.k = 3 ∨ s.k = 4 then { s with x := p.x, y := p.y } else if s.k = 5 then { s with z := p.z } else s
def toldL (pl : Ma → Ma → Pl) (m : Ma) (S : Nat → St) : Nat → List St
  | 0 => []
  | n + 1 => if (S n).k = 1 ∨ (S n).k = 2 then toldL pl m S n else toldL pl m S n ++ [toldS (S n) (pl (runF m S n) (runF m S (n + 1)))]
theorem toldL_len (pl : Ma → Ma → Pl) (m : Ma) (S : Nat → St) (n : Nat) : (toldL pl m S n).length ≤ n := by
  induction n with
  | zero => simp [toldL]
  | succ n ih =>
    rw [toldL]
    split
    · omega
    · rw [List.length_append]; simp; omega
theorem toldA (S : Nat → St) (n : Nat) : toldL plA m00 S n = absL S n := by
  induction n with
  | zero => rfl
  | succ n ih => rw [toldL, absL, ih]; rfl
set_option maxRecDepth 100000 in
set_option maxHeartbeats 4000000 in
theorem absPl_any (a b : Ma) (w : World) : Calls Try.prog 42 #[(.agg #[.int .i64 a.x, .int .i64 a.y, .int .i64 a.z, .int .i64 a.s, .int .i64 a.h, .int .i64 a.t, .int .i64 a.f, .bool a.r]), (.agg #[.int .i64 b.x, .int .i64 b.y, .int .i64 b.z, .int .i64 b.s, .int .i64 b.h, .int .i64 b.t, .int .i64 b.f, .bool b.r])] w fun e w' => e = .returned (.agg #[.int .i64 (plA a b).x, .int .i64 (plA a b).y, .int .i64 (plA a b).z]) ∧ Below w.heap.size w w' := by
  go_enter Try.func42, Try.ntmps42
  go_wp2_with (fail)
  exact bodyPost_ret (v := .agg #[.int .i64 (b.x), .int .i64 (b.y), .int .i64 (b.z)]) (by simp [results, Try.results42, go_sem]) rfl ⟨rfl, (by repeat (first | exact Below.refl _ _ | assumption | refine Below.drew ?_ | refine bdrewN ?_ _ | refine Below.setCell ?_ (by first | omega | (simp <;> omega)) _ | refine Below.alloc ?_ (by first | omega | (simp <;> omega)) _))⟩
set_option maxRecDepth 100000 in
set_option maxHeartbeats 4000000 in
theorem relPl_any (a b : Ma) (w : World) (h0 : -9000000000000000000 ≤ b.x - a.x ∧ b.x - a.x ≤ 9000000000000000000) (h1 : -9000000000000000000 ≤ b.y - a.y ∧ b.y - a.y ≤ 9000000000000000000) (h2 : -9000000000000000000 ≤ b.z - a.z ∧ b.z - a.z ≤ 9000000000000000000) : Calls Try.prog 24 #[(.agg #[.int .i64 a.x, .int .i64 a.y, .int .i64 a.z, .int .i64 a.s, .int .i64 a.h, .int .i64 a.t, .int .i64 a.f, .bool a.r]), (.agg #[.int .i64 b.x, .int .i64 b.y, .int .i64 b.z, .int .i64 b.s, .int .i64 b.h, .int .i64 b.t, .int .i64 b.f, .bool b.r])] w fun e w' => e = .returned (.agg #[.int .i64 (plR a b).x, .int .i64 (plR a b).y, .int .i64 (plR a b).z]) ∧ Below w.heap.size w w' := by
  have e0 := i64w h0
  have e1 := i64w h1
  have e2 := i64w h2
  go_enter Try.func24, Try.ntmps24
  go_wp2_with (fail)
  exact bodyPost_ret (v := .agg #[.int .i64 (b.x - a.x), .int .i64 (b.y - a.y), .int .i64 (b.z - a.z)]) (by simp [results, Try.results24, go_sem]) rfl ⟨rfl, (by repeat (first | exact Below.refl _ _ | assumption | refine Below.drew ?_ | refine bdrewN ?_ _ | refine Below.setCell ?_ (by first | omega | (simp <;> omega)) _ | refine Below.alloc ?_ (by first | omega | (simp <;> omega)) _))⟩
end Go.Proofs.Ythmplflmjjccfaa

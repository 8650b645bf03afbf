/- The closures of Overhangs and Crossing. -/
import Derived.Test.YtmcebhjcaacbpaaSl
set_option linter.unusedSimpArgs false
set_option linter.unusedVariables false
namespace Go.Proofs.Ytmcebhjcaacbpaa
open Go.RowKit

def mx (a b : Int) : Int := if b > a then b else a
def mn (a b : Int) : Int := if b < a then b else a
theorem ret_bool {a b : Bool} (h : a = b) : Ending.returned (.bool a) = .returned (.bool b) := by rw [h]
theorem max4 (P : Program) (ts : Array TypeId) (t : TypeId) (x y z u : Int) (w : World) : (Builtin.max_ ts t #[.int .i64 x, .int .i64 y, .int .i64 z, .int .i64 u]).run P w = .ok (.int .i64 (mx (mx (mx x y) z) u)) w := by
  simp [Builtin.max_, Builtin.max2, mx]
theorem max3 (P : Program) (ts : Array TypeId) (t : TypeId) (x y z : Int) (w : World) : (Builtin.max_ ts t #[.int .i64 x, .int .i64 y, .int .i64 z]).run P w = .ok (.int .i64 (mx (mx x y) z)) w := by
  simp [Builtin.max_, Builtin.max2, mx]
theorem min3 (P : Program) (ts : Array TypeId) (t : TypeId) (x y z : Int) (w : World) : (Builtin.min_ ts t #[.int .i64 x, .int .i64 y, .int .i64 z]).run P w = .ok (.int .i64 (mn (mn x y) z)) w := by
  simp [Builtin.min_, Builtin.min2]
  rfl
attribute [go_sem] max4 max3 min3
def flat4 (N : V3) : Int := mx (mx (mx N.x (wrap64 (-N.x))) N.y) (wrap64 (-N.y))
def ovh (N : V3) (num den : Int) : Bool := decide (N.z < 0) && decide (wrap64 (flat4 N * num) < wrap64 (wrap64 (-N.z) * den))

set_option maxHeartbeats 1000000 in
theorem ovA_any (b off nv cv : Nat) (V : Nat → V3) (i j k : Nat) (num den : Int) (m s : Nat) (hi : i < nv) (hj : j < nv) (hk : k < nv) (hn : nv ≤ 1000000) (w : World) (hb : b < w.heap.size) (hv : Tri w b off nv V)
    (hm0 : w.cell? ⟨m, 0, none⟩ = some (.slice (some ⟨b, off, none⟩) nv cv)) (hs0 : w.cell? ⟨s, 0, none⟩ = some (.int .i64 num)) (hs1 : w.cell? ⟨s, 1, none⟩ = some (.int .i64 den)) (hml : m < w.heap.size) (hsl : s < w.heap.size) :
    Calls Try.prog 20 #[.agg #[.int .i64 i, .int .i64 j, .int .i64 k], .pointer (some ⟨m, 0, none⟩), .pointer (some ⟨s, 0, none⟩)] w fun e w' => e = .returned (.bool (ovh (vnorm (V i) (V j) (V k)) num den)) ∧ Below w.heap.size w w' := by
  have HV := Lib.hid hv
  clear hv
  go_enter Try.func20, Try.ntmps20
  go_wp2_with (fail)
  refine (normal_any b off nv cv V i j k hi hj hk hn _ (by simp; omega) (HV.out.kept (by repeat (first | exact Below.refl _ _ | assumption | refine Below.drew ?_ | refine bdrewN ?_ _ | refine Below.setCell ?_ (by first | omega | (simp <;> omega)) _ | refine Below.alloc ?_ (by first | omega | (simp <;> omega)) _)) hb)).mono ?_
  rintro e w1 ⟨rfl, hb1⟩
  have B1 : Below w.heap.size w w1 := Below.trans (by repeat (first | exact Below.refl _ _ | assumption | refine Below.drew ?_ | refine bdrewN ?_ _ | refine Below.setCell ?_ (by first | omega | (simp <;> omega)) _ | refine Below.alloc ?_ (by first | omega | (simp <;> omega)) _)) (hb1.mono (by simp <;> omega))
  have s0 := cellk B1 hsl hs0
  have s1 := cellk B1 hsl hs1
  have hsl1 : s < w1.heap.size := by have := B1.size; omega
  clear hb1 hm0 hs0 hs1
  generalize hN : vnorm (V i) (V j) (V k) = N
  obtain ⟨nx, ny, nz⟩ := N
  have HN := Lib.hid hN
  clear hN
  have HB := Lib.hid B1
  clear B1
  by_cases hz : nz < 0
  · go_wp2
    go_ret
    exact ⟨ret_bool (by rw [HN.out]; simp [ovh, flat4, hz]; rfl), Below.alloc HB.out (by have := HB.out.size; omega) _⟩
  · go_wp2
    go_ret
    exact ⟨ret_bool (by rw [HN.out]; simp [ovh, flat4]; intro h; omega), Below.alloc HB.out (by have := HB.out.size; omega) _⟩

def crs (a b c z : Int) : Bool := decide (mn (mn a b) c < z) && decide (z ≤ mx (mx a b) c)

end Go.Proofs.Ytmcebhjcaacbpaa

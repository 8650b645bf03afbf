/- The closures of Overhangs and Crossing. -/
import Derived.Test.YtodnkgmalbpdaaaSl
set_option linter.unusedSimpArgs false
set_option linter.unusedVariables false
namespace Go.Proofs.Ytodnkgmalbpdaaa
open Go.RowKit

def mx (a b : Int) : Int := if b > a then b else a
def mn (a b : Int) : Int := if b < a then b else a
theorem ret_bool {a b : Bool} (h : a = b) : Ending.returned (.bool a) = .returned (.bool b) := by rw [h]
theorem max4 (P : Program) (ts : Array TypeId) (t : TypeId) (x y z u : Int) (w : World) : (Builtin.max_ ts t #[.int .i64 x, .int .i64 y, .int .i64 z, .int .i64 u]).run P w = .ok (.int .i64 (mx (mx (mx x y) z) u)) w := by
  simp [Builtin.max_, Builtin.max2, mx]
theorem max3 (P : Program) (ts : Array TypeId) (t : TypeId) (x y z : Int) (w : World) : (Builtin.max_ ts t #[.int .i64 x, .int .i64 y, .int .i64 z]).run P w = .ok (.int .i64 (mx (mx x y) z)) w := by
  simp [Builtin.max_, Builtin.max2, mx]
theorem min3 (P : Program) (ts : Array TypeId) (t : TypeId) (x y z : Int) (w : World) : (Builtin.min_ ts t #[.int .i64 x, .int .i64 y, .int .i64 z]).run P w = .ok (.int .i64 (mn (mn x y) z)) w := by
  simp [Builtin.min_, Builtin.min2]
  rfl
attribute [go_sem] max4 max3 min3
def flat4 (N : V3) : Int := mx (mx (mx N.x (wrap64 (-N.x))) N.y) (wrap64 (-N.y))
def ovh (N : V3) (num den : Int) : Bool := decide (N.z < 0) && decide (wrap64 (flat4 N * num) < wrap64 (wrap64 (-N.z) * den))

set_option maxHeartbeats 1000000 in
theorem ovA_any (b off nv cv : Nat) (V : Nat → V3) (i j k : Nat) (num den : Int) (m s : Nat) (hi : i < nv) (hj : j < nv) (hk : k < nv) (hn : nv ≤ 1000000) (w : World) (hb : b < w.heap.size) (hv : Tri w b off nv V)
    (hm0 : w.cell? ⟨m, 0, none⟩ = some (.slice (some ⟨b, off, none⟩) nv cv)) (hs0 : w.cell? ⟨s, 0, none⟩ = some (.int .i64 num)) (hs1 : w.cell? ⟨s, 1, none⟩ = some (.int .i64 den)) (hml : m < w.heap.size) (hsl : s < w.heap.size) :
    Calls Try.prog 80 #[.agg #[.int .i64 i, .int .i64 j, .int .i64 k], .pointer (some ⟨m, 0, none⟩), .pointer (some ⟨s, 0, none⟩)] w fun e w' => e = .returned (.bool (ovh (vnorm (V i) (V j) (V k)) num den)) ∧ Below w.heap.size w w' := by
  have HV := Lib.hid hv
  clear hv
  go_enter Try.func80, Try.ntmps80
  go_wp2_with (fail)
  refine (normal_any b off nv cv V i j k hi hj hk hn _ (by simp; omega) (HV.out.kept (by repeat (first | exact Below.refl _ _ | assumption | refine Below.drew ?_ | refine bdrewN ?_ _ | refine Below.setCell ?_ (by first | omega | (simp <;> omega)) _ | refine Below.alloc ?_ (by first | omega | (simp <;> omega)) _)) hb)).mono ?_
  rintro e w1 ⟨rfl, hb1⟩
  have B1 : Below w.heap.size w w1 := Below.trans (by repeat (first | exact Below.refl _ _ | assumption | refine Below.drew ?_ | refine bdrewN ?_ _ | refine Below.setCell ?_ (by first | omega | (simp <;> omega)) _ | refine Below.alloc ?_ (by first | omega | (simp <;> omega)) _)) (hb1.mono (by simp <;> omega))
  have s0 := cellk B1 hsl hs0
  have s1 := cellk B1 hsl hs1
  have hsl1 : s < w1.heap.size := by have := B1.size; omega
  clear hb1 hm0 hs0 hs1
  generalize hN : vnorm (V i) (V j) (V k) = N
  obtain ⟨nx, ny, nz⟩ := N
  have HN := Lib.hid hN
  clear hN
  have HB := Lib.hid B1
  clear B1
  by_cases hz : nz < 0
  · go_wp2
    go_ret
    exact ⟨ret_bool (by rw [HN.out]; simp [ovh, flat4, hz]; rfl), Below.alloc HB.out (by have := HB.out.size; omega) _⟩
  · go_wp2
    go_ret
    exact ⟨ret_bool (by rw [HN.out]; simp [ovh, flat4]; intro h; omega), Below.alloc HB.out (by have := HB.out.size; omega) _⟩

set_option maxHeartbeats 1000000 in
theorem ovB_any (b off nv cv : Nat) (V : Nat → V3) (i j k : Nat) (num den : Int) (m s : Nat) (sf : Value) (hsf : sf.oneCell' = true) (hi : i < nv) (hj : j < nv) (hk : k < nv) (w : World) (hb : b < w.heap.size) (hv : Tri w b off nv V)
    (hm0 : w.cell? ⟨m, 0, none⟩ = some (.slice (some ⟨b, off, none⟩) nv cv)) (hm1 : w.cell? ⟨m, 1, none⟩ = some sf) (hs0 : w.cell? ⟨s, 0, none⟩ = some (.int .i64 num)) (hs1 : w.cell? ⟨s, 1, none⟩ = some (.int .i64 den)) (hml : m < w.heap.size) (hsl : s < w.heap.size) :
    Calls Try.prog 86 #[.agg #[.int .i64 i, .int .i64 j, .int .i64 k], .pointer (some ⟨m, 0, none⟩), .pointer (some ⟨s, 0, none⟩)] w fun e w' => e = .returned (.bool (ovh (vnorm (V i) (V j) (V k)) num den)) ∧ Below w.heap.size w w' := by
  have HV := Lib.hid hv
  clear hv
  go_enter Try.func86, Try.ntmps86
  go_wp2_with (fail)
  refine (rnormal_any b off nv cv V i j k sf hsf hi hj hk _ (by simp; omega) (HV.out.kept (by repeat (first | exact Below.refl _ _ | assumption | refine Below.drew ?_ | refine bdrewN ?_ _ | refine Below.setCell ?_ (by first | omega | (simp <;> omega)) _ | refine Below.alloc ?_ (by first | omega | (simp <;> omega)) _)) hb)).mono ?_
  rintro e w1 ⟨rfl, hb1⟩
  have B1 : Below w.heap.size w w1 := Below.trans (by repeat (first | exact Below.refl _ _ | assumption | refine Below.drew ?_ | refine bdrewN ?_ _ | refine Below.setCell ?_ (by first | omega | (simp <;> omega)) _ | refine Below.alloc ?_ (by first | omega | (simp <;> omega)) _)) (hb1.mono (by simp <;> omega))
  have s0 := cellk B1 hsl hs0
  have s1 := cellk B1 hsl hs1
  have hsl1 : s < w1.heap.size := by have := B1.size; omega
  clear hb1 hm0 hm1 hs0 hs1
  generalize hN : vnorm (V i) (V j) (V k) = N
  obtain ⟨nx, ny, nz⟩ := N
  have HN := Lib.hid hN
  clear hN
  have HB := Lib.hid B1
  clear B1
  by_cases hz : nz < 0
  · go_wp2
    go_ret
    exact ⟨ret_bool (by rw [HN.out]; simp [ovh, flat4, hz, Int.mul_comm]), Below.alloc HB.out (by have := HB.out.size; omega) _⟩
  · go_wp2
    go_ret
    exact ⟨ret_bool (by rw [HN.out]; simp [ovh, flat4]; intro h; omega), Below.alloc HB.out (by have := HB.out.size; omega) _⟩

def crs (a b c z : Int) : Bool := decide (mn (mn a b) c < z) && decide (z ≤ mx (mx a b) c)

set_option maxHeartbeats 1000000 in
theorem crA_any (b off nv cv : Nat) (V : Nat → V3) (i j k : Nat) (z : Int) (m s : Nat) (hi : i < nv) (hj : j < nv) (hk : k < nv) (w : World) (hb : b < w.heap.size) (hv : Tri w b off nv V)
    (hm0 : w.cell? ⟨m, 0, none⟩ = some (.slice (some ⟨b, off, none⟩) nv cv)) (hs0 : w.cell? ⟨s, 0, none⟩ = some (.int .i64 z)) (hml : m < w.heap.size) (hsl : s < w.heap.size) :
    Calls Try.prog 83 #[.agg #[.int .i64 i, .int .i64 j, .int .i64 k], .pointer (some ⟨m, 0, none⟩), .pointer (some ⟨s, 0, none⟩)] w fun e w' => e = .returned (.bool (crs (V i).z (V j).z (V k).z z)) ∧ Below w.heap.size w w' := by
  obtain ⟨ci0, ci1, ci2⟩ := hv i hi
  obtain ⟨cj0, cj1, cj2⟩ := hv j hj
  obtain ⟨ck0, ck1, ck2⟩ := hv k hk
  clear hv
  by_cases hz : mn (mn (V i).z (V j).z) (V k).z < z
  · have HZ := Lib.hid hz
    go_enter Try.func83, Try.ntmps83
    go_wp2
    go_quiet (fail)
    go_wp2
    go_ret
    exact ⟨ret_bool (by have := HZ.out; simp [crs, this]), (by repeat (first | exact Below.refl _ _ | assumption | refine Below.drew ?_ | refine bdrewN ?_ _ | refine Below.setCell ?_ (by first | omega | (simp <;> omega)) _ | refine Below.alloc ?_ (by first | omega | (simp <;> omega)) _))⟩
  · have HZ := Lib.hid hz
    go_enter Try.func83, Try.ntmps83
    go_wp2
    go_quiet (fail)
    go_wp2
    go_ret
    exact ⟨ret_bool (by have := HZ.out; simp [crs]; intro h; omega), (by repeat (first | exact Below.refl _ _ | assumption | refine Below.drew ?_ | refine bdrewN ?_ _ | refine Below.setCell ?_ (by first | omega | (simp <;> omega)) _ | refine Below.alloc ?_ (by first | omega | (simp <;> omega)) _))⟩

set_option maxHeartbeats 1000000 in
theorem crB_any (b off nv cv : Nat) (V : Nat → V3) (i j k : Nat) (z : Int) (m s : Nat) (sf : Value) (hsf : sf.oneCell' = true) (hi : i < nv) (hj : j < nv) (hk : k < nv) (w : World) (hb : b < w.heap.size) (hv : Tri w b off nv V)
    (hm0 : w.cell? ⟨m, 0, none⟩ = some (.slice (some ⟨b, off, none⟩) nv cv)) (hm1 : w.cell? ⟨m, 1, none⟩ = some sf) (hs0 : w.cell? ⟨s, 0, none⟩ = some (.int .i64 z)) (hml : m < w.heap.size) (hsl : s < w.heap.size) :
    Calls Try.prog 87 #[.agg #[.int .i64 i, .int .i64 j, .int .i64 k], .pointer (some ⟨m, 0, none⟩), .pointer (some ⟨s, 0, none⟩)] w fun e w' => e = .returned (.bool (crs (V i).z (V j).z (V k).z z)) ∧ Below w.heap.size w w' := by
  have HV := Lib.hid hv
  clear hv
  go_enter Try.func87, Try.ntmps87
  go_wp2_with (fail)
  refine (corners_any b off nv cv V i j k sf hsf hi hj hk _ (by simp; omega) (HV.out.kept (by repeat (first | exact Below.refl _ _ | assumption | refine Below.drew ?_ | refine bdrewN ?_ _ | refine Below.setCell ?_ (by first | omega | (simp <;> omega)) _ | refine Below.alloc ?_ (by first | omega | (simp <;> omega)) _)) hb)).mono ?_
  rintro e w1 ⟨rfl, hb1⟩
  have B1 : Below w.heap.size w w1 := Below.trans (by repeat (first | exact Below.refl _ _ | assumption | refine Below.drew ?_ | refine bdrewN ?_ _ | refine Below.setCell ?_ (by first | omega | (simp <;> omega)) _ | refine Below.alloc ?_ (by first | omega | (simp <;> omega)) _)) (hb1.mono (by simp <;> omega))
  have s0 := cellk B1 hsl hs0
  have hsl1 : s < w1.heap.size := by have := B1.size; omega
  have s3 : (((w1.alloc (Obj.cells #[Value.int IntKind.i64 (V i).x, Value.int IntKind.i64 (V i).y, Value.int IntKind.i64 (V i).z] 33)).alloc (Obj.cells #[Value.int IntKind.i64 (V j).x, Value.int IntKind.i64 (V j).y, Value.int IntKind.i64 (V j).z] 33)).alloc (Obj.cells #[Value.int IntKind.i64 (V k).x, Value.int IntKind.i64 (V k).y, Value.int IntKind.i64 (V k).z] 33)).cell? ⟨s, 0, none⟩ = some (.int .i64 z) := cellk (w := w1) (by repeat (first | exact Below.refl _ _ | assumption | refine Below.drew ?_ | refine bdrewN ?_ _ | refine Below.setCell ?_ (by first | omega | (simp <;> omega)) _ | refine Below.alloc ?_ (by first | omega | (simp <;> omega)) _)) hsl1 s0
  clear hb1 hm0 hm1 hs0
  have HB := Lib.hid B1
  clear B1
  by_cases hz : mn (mn (V i).z (V j).z) (V k).z < z
  · have HZ := Lib.hid hz
    go_wp2
    go_ret
    exact ⟨ret_bool (by have := HZ.out; simp [crs, this]), Below.trans HB.out (Below.mono (B := w1.heap.size) (by repeat (first | exact Below.refl _ _ | assumption | refine Below.drew ?_ | refine bdrewN ?_ _ | refine Below.setCell ?_ (by first | omega | (simp <;> omega)) _ | refine Below.alloc ?_ (by first | omega | (simp <;> omega)) _)) HB.out.size)⟩
  · have HZ := Lib.hid hz
    go_wp2
    go_ret
    exact ⟨ret_bool (by have := HZ.out; simp [crs]; intro h; omega), Below.trans HB.out (Below.mono (B := w1.heap.size) (by repeat (first | exact Below.refl _ _ | assumption | refine Below.drew ?_ | refine bdrewN ?_ _ | refine Below.setCell ?_ (by first | omega | (simp <;> omega)) _ | refine Below.alloc ?_ (by first | omega | (simp <;> omega)) _)) HB.out.size)⟩
end Go.Proofs.Ytodnkgmalbpdaaa

/- Vectors: differences, products, and the normals of faces, as the program and the reference compute them. -/
import Derived.Test.YtmcebhjcaacbpaaHold
set_option linter.unusedSimpArgs false
set_option linter.unusedVariables false
namespace Go.Proofs.Ytmcebhjcaacbpaa
open Go.RowKit

theorem msub_any (ax ay az bx by_ bz : Int) (w : World) :
    Calls Try.prog 53 #[.agg #[.int .i64 ax, .int .i64 ay, .int .i64 az], .agg #[.int .i64 bx, .int .i64 by_, .int .i64 bz]] w
      fun e w' => e = .returned (.agg #[.int .i64 (wrap64 (ax - bx)), .int .i64 (wrap64 (ay - by_)), .int .i64 (wrap64 (az - bz))]) ∧ Below w.heap.size w w' := by
  go_enter Try.func53, Try.ntmps53
  go_wp2
  exact bodyPost_ret (v := .agg #[.int .i64 (wrap64 (ax - bx)), .int .i64 (wrap64 (ay - by_)), .int .i64 (wrap64 (az - bz))]) (by simp [results, Try.results53, go_sem]) rfl ⟨rfl, (by repeat (first | exact Below.refl _ _ | assumption | refine Below.drew ?_ | refine bdrewN ?_ _ | refine Below.setCell ?_ (by first | omega | (simp <;> omega)) _ | refine Below.alloc ?_ (by first | omega | (simp <;> omega)) _))⟩

theorem rsub_any (ax ay az bx by_ bz : Int) (w : World) :
    Calls Try.prog 74 #[.agg #[.int .i64 ax, .int .i64 ay, .int .i64 az], .agg #[.int .i64 bx, .int .i64 by_, .int .i64 bz]] w
      fun e w' => e = .returned (.agg #[.int .i64 (wrap64 (ax - bx)), .int .i64 (wrap64 (ay - by_)), .int .i64 (wrap64 (az - bz))]) ∧ Below w.heap.size w w' := by
  go_enter Try.func74, Try.ntmps74
  go_wp2
  exact bodyPost_ret (v := .agg #[.int .i64 (wrap64 (ax - bx)), .int .i64 (wrap64 (ay - by_)), .int .i64 (wrap64 (az - bz))]) (by simp [results, Try.results74, go_sem]) rfl ⟨rfl, (by repeat (first | exact Below.refl _ _ | assumption | refine Below.drew ?_ | refine bdrewN ?_ _ | refine Below.setCell ?_ (by first | omega | (simp <;> omega)) _ | refine Below.alloc ?_ (by first | omega | (simp <;> omega)) _))⟩

theorem mcross_any (ax ay az bx by_ bz : Int) (w : World) :
    Calls Try.prog 52 #[.agg #[.int .i64 ax, .int .i64 ay, .int .i64 az], .agg #[.int .i64 bx, .int .i64 by_, .int .i64 bz]] w
      fun e w' => e = .returned (.agg #[.int .i64 (wrap64 (wrap64 (ay * bz) - wrap64 (az * by_))), .int .i64 (wrap64 (wrap64 (az * bx) - wrap64 (ax * bz))), .int .i64 (wrap64 (wrap64 (ax * by_) - wrap64 (ay * bx)))]) ∧ Below w.heap.size w w' := by
  go_enter Try.func52, Try.ntmps52
  go_wp2
  exact bodyPost_ret (v := .agg #[.int .i64 (wrap64 (wrap64 (ay * bz) - wrap64 (az * by_))), .int .i64 (wrap64 (wrap64 (az * bx) - wrap64 (ax * bz))), .int .i64 (wrap64 (wrap64 (ax * by_) - wrap64 (ay * bx)))]) (by simp [results, Try.results52, go_sem]) rfl ⟨rfl, (by repeat (first | exact Below.refl _ _ | assumption | refine Below.drew ?_ | refine bdrewN ?_ _ | refine Below.setCell ?_ (by first | omega | (simp <;> omega)) _ | refine Below.alloc ?_ (by first | omega | (simp <;> omega)) _))⟩

theorem rcross_any (ax ay az bx by_ bz : Int) (w : World) :
    Calls Try.prog 73 #[.agg #[.int .i64 ax, .int .i64 ay, .int .i64 az], .agg #[.int .i64 bx, .int .i64 by_, .int .i64 bz]] w
      fun e w' => e = .returned (.agg #[.int .i64 (wrap64 (wrap64 (ay * bz) - wrap64 (az * by_))), .int .i64 (wrap64 (wrap64 (az * bx) - wrap64 (ax * bz))), .int .i64 (wrap64 (wrap64 (ax * by_) - wrap64 (ay * bx)))]) ∧ Below w.heap.size w w' := by
  go_enter Try.func73, Try.ntmps73
  go_wp2
  exact bodyPost_ret (v := .agg #[.int .i64 (wrap64 (wrap64 (ay * bz) - wrap64 (az * by_))), .int .i64 (wrap64 (wrap64 (az * bx) - wrap64 (ax * bz))), .int .i64 (wrap64 (wrap64 (ax * by_) - wrap64 (ay * bx)))]) (by simp [results, Try.results73, go_sem]) rfl ⟨rfl, (by repeat (first | exact Below.refl _ _ | assumption | refine Below.drew ?_ | refine bdrewN ?_ _ | refine Below.setCell ?_ (by first | omega | (simp <;> omega)) _ | refine Below.alloc ?_ (by first | omega | (simp <;> omega)) _))⟩

theorem dot_any (ax ay az bx by_ bz : Int) (w : World) :
    Calls Try.prog 69 #[.agg #[.int .i64 ax, .int .i64 ay, .int .i64 az], .agg #[.int .i64 bx, .int .i64 by_, .int .i64 bz]] w
      fun e w' => e = .returned (.int .i64 (wrap64 (wrap64 (wrap64 (ax * bx) + wrap64 (ay * by_)) + wrap64 (az * bz)))) ∧ Below w.heap.size w w' := by
  go_enter Try.func69, Try.ntmps69
  go_wp2
  go_ret
  exact ⟨rfl, (by repeat (first | exact Below.refl _ _ | assumption | refine Below.drew ?_ | refine bdrewN ?_ _ | refine Below.setCell ?_ (by first | omega | (simp <;> omega)) _ | refine Below.alloc ?_ (by first | omega | (simp <;> omega)) _))⟩

/-- A number is from one to another one. -/
def inB (n lo hi : Int) : Bool := decide (lo ≤ n ∧ n ≤ hi)
theorem in_any (n lo hi : Int) (w : World) :
    Calls Try.prog 45 #[.int .i64 n, .int .i64 lo, .int .i64 hi] w fun e w' => e = .returned (.bool (inB n lo hi)) ∧ w = w' := by
  by_cases h : lo ≤ n
  · go_enter Try.func45, Try.ntmps45
    go_wp2
    go_ret
    exact ⟨by first | (simp [inB, h]; done) | (simp [inB]; omega), rfl⟩
  · have h' : decide (lo ≤ n) = false := by simpa using h
    go_enter Try.func45, Try.ntmps45
    go_wp2
    go_ret
    exact ⟨by first | (simp [inB, h]; done) | (simp [inB]; omega), rfl⟩
theorem inRange_any (n : Int) (w : World) :
    Calls Try.prog 49 #[.int .i64 n] w fun e w' => e = .returned (.bool (inB n (-100000) 100000)) ∧ w = w' := by
  by_cases h : -100000 ≤ n
  · go_enter Try.func49, Try.ntmps49
    go_wp2
    go_ret
    exact ⟨by first | (simp [inB, h]; done) | (simp [inB]; omega), rfl⟩
  · have h' : decide (-100000 ≤ n) = false := by simpa using h
    go_enter Try.func49, Try.ntmps49
    go_wp2
    go_ret
    exact ⟨by first | (simp [inB, h]; done) | (simp [inB]; omega), rfl⟩

structure V3 where
  x : Int
  y : Int
  z : Int
def vsub (a b : V3) : V3 := ⟨wrap64 (a.x - b.x), wrap64 (a.y - b.y), wrap64 (a.z - b.z)⟩
def vcross (a b : V3) : V3 := ⟨wrap64 (wrap64 (a.y * b.z) - wrap64 (a.z * b.y)), wrap64 (wrap64 (a.z * b.x) - wrap64 (a.x * b.z)), wrap64 (wrap64 (a.x * b.y) - wrap64 (a.y * b.x))⟩
/-- The normal of a triangle. -/
def vnorm (a b c : V3) : V3 := vcross (vsub b a) (vsub c a)
/-- n triples can be read from an address on. -/
def Tri (w : World) (b off n : Nat) (V : Nat → V3) : Prop :=
  ∀ i, i < n → (w.cell? ⟨b, off + i * 3, none⟩ = some (.int .i64 (V i).x) ∧ w.cell? ⟨b, off + i * 3 + 1, none⟩ = some (.int .i64 (V i).y) ∧ w.cell? ⟨b, off + i * 3 + 2, none⟩ = some (.int .i64 (V i).z))
theorem Tri.kept {w w' : World} {b off n : Nat} {V : Nat → V3} (h : Tri w b off n V) (hb : Below w.heap.size w w') (hl : b < w.heap.size) : Tri w' b off n V :=
  fun i hi => ⟨cellk hb hl (h i hi).1, cellk hb hl (h i hi).2.1, cellk hb hl (h i hi).2.2⟩

set_option maxHeartbeats 1000000 in
theorem normal_any (b off n cap : Nat) (V : Nat → V3) (i j k : Nat) (hi : i < n) (hj : j < n) (hk : k < n) (hn : n ≤ 1000000) (w : World) (hb : b < w.heap.size) (hc : Tri w b off n V) :
    Calls Try.prog 21 #[.slice (some ⟨b, off, none⟩) n cap, .agg #[.int .i64 i, .int .i64 j, .int .i64 k]] w
      fun e w' => e = .returned (.agg #[.int .i64 (vnorm (V i) (V j) (V k)).x, .int .i64 (vnorm (V i) (V j) (V k)).y, .int .i64 (vnorm (V i) (V j) (V k)).z]) ∧ Below w.heap.size w w' := by
  obtain ⟨ci0, ci1, ci2⟩ := hc i hi
  obtain ⟨cj0, cj1, cj2⟩ := hc j hj
  obtain ⟨ck0, ck1, ck2⟩ := hc k hk
  clear hc
  go_enter Try.func21, Try.ntmps21
  go_wp2
  generalize hw0 : ((w.alloc (Obj.cells #[Value.int IntKind.i64 ↑i, Value.int IntKind.i64 ↑j, Value.int IntKind.i64 ↑k] 47)).alloc (Obj.cells #[Value.int IntKind.i64 0, Value.int IntKind.i64 0, Value.int IntKind.i64 0] 39)).alloc (Obj.cells #[Value.int IntKind.i64 (V i).x, Value.int IntKind.i64 (V i).y, Value.int IntKind.i64 (V i).z] 39) = w0
  have z0 : w.heap.size < w0.heap.size := by subst hw0; simp; omega
  have z1 : w.heap.size + 1 < w0.heap.size := by subst hw0; simp
  have z2 : w.heap.size + 1 + 1 < w0.heap.size := by subst hw0; simp
  have zb : b < w0.heap.size := by omega
  have zn : b ≠ w.heap.size + 1 := by omega
  have B0 : Below w.heap.size w w0 := by subst hw0; exact (by repeat (first | exact Below.refl _ _ | assumption | refine Below.drew ?_ | refine bdrewN ?_ _ | refine Below.setCell ?_ (by first | omega | (simp <;> omega)) _ | refine Below.alloc ?_ (by first | omega | (simp <;> omega)) _))
  have dj0 := cellk B0 hb cj0
  have dj1 := cellk B0 hb cj1
  have dj2 := cellk B0 hb cj2
  have dk0 := cellk B0 hb ck0
  have dk1 := cellk B0 hb ck1
  have dk2 := cellk B0 hb ck2
  have e1 : w0.cell? ⟨w.heap.size, 1, none⟩ = some (.int .i64 j) := by subst hw0; simp [go_sem]
  have e2 : w0.cell? ⟨w.heap.size, 2, none⟩ = some (.int .i64 k) := by subst hw0; simp [go_sem]
  have a0 : w0.cell? ⟨w.heap.size + 1 + 1, 0, none⟩ = some (.int .i64 (V i).x) := by subst hw0; simp [go_sem]
  have a1 : w0.cell? ⟨w.heap.size + 1 + 1, 1, none⟩ = some (.int .i64 (V i).y) := by subst hw0; simp [go_sem]
  have a2 : w0.cell? ⟨w.heap.size + 1 + 1, 2, none⟩ = some (.int .i64 (V i).z) := by subst hw0; simp [go_sem]
  have g0 : w0.frozen? ⟨w.heap.size + 1, 0, none⟩ = false := by subst hw0; simp [go_sem]
  have g1 : w0.frozen? ⟨w.heap.size + 1, 1, none⟩ = false := by subst hw0; simp [go_sem]
  have g2 : w0.frozen? ⟨w.heap.size + 1, 2, none⟩ = false := by subst hw0; simp [go_sem]
  have hS : ∀ o, o < 3 → (w0.cell? ⟨w.heap.size + 1, o, none⟩).isSome = true := by
    intro o ho; match o, ho with
    | 0, _ => subst hw0; simp [go_sem]
    | 1, _ => subst hw0; simp [go_sem]
    | 2, _ => subst hw0; simp [go_sem]
  have HS := Lib.hid hS
  clear ci0 ci1 ci2 cj0 cj1 cj2 ck0 ck1 ck2 hw0 hS
  go_region_held3 (fun w' => (∀ b o, b < w0.heap.size → b ≠ w.heap.size + 1 → w'.cell? ⟨b, o, none⟩ = w0.cell? ⟨b, o, none⟩) ∧ (∀ b o, b < w0.heap.size → w'.frozen? ⟨b, o, none⟩ = w0.frozen? ⟨b, o, none⟩) ∧ (∀ o, o < 3 → w'.cell? ⟨w.heap.size + 1, o, none⟩ = some (rd w' (w.heap.size + 1) o)) ∧ Below (w.heap.size) w0 w')
    (first | exact hold0 HS.out | exact hold_call (by assumption) z1 (by omega) hb' | exact hold_set (hold_set (hold_set (by assumption) (by omega) _ _) (by omega) _ _) (by omega) _ _)
    (first
      | (go_at_call 53; refine (msub_any _ _ _ _ _ _ _).mono ?_; rintro e w' ⟨rfl, hb'⟩)
      | (go_at_call 52; refine (mcross_any _ _ _ _ _ _ _).mono ?_; rintro e w' ⟨rfl, hb'⟩))
  all_goals
    obtain ⟨_, _, hR, hBel⟩ := ‹_ ∧ _ ∧ _ ∧ Below w.heap.size w0 _›
    obtain ⟨r0, r1, r2⟩ := set3_read hR
    have HB := Lib.hid (B0.trans hBel)
    clear hR hBel
    generalize World.setCell _ _ _ = W at *
    clear ‹_ ∧ _ ∧ _ ∧ Below w.heap.size w0 _›
    go_wp2
    exact bodyPost_ret (v := .agg #[.int .i64 (vnorm (V i) (V j) (V k)).x, .int .i64 (vnorm (V i) (V j) (V k)).y, .int .i64 (vnorm (V i) (V j) (V k)).z]) (by simp [results, Try.results21, go_sem, r0, r1, r2, vnorm, vcross, vsub]) rfl ⟨rfl, HB.out⟩
end Go.Proofs.Ytmcebhjcaacbpaa

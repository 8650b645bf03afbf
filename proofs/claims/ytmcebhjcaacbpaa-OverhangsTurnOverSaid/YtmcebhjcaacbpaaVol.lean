/- The volume of a closed mesh, by the program; the law's own pyramid. -/
import Derived.Test.YtmcebhjcaacbpaaCM2
set_option linter.unusedSimpArgs false
set_option linter.unusedVariables false
namespace Go.Proofs.Ytmcebhjcaacbpaa
open Go.RowKit Go.Maps

def wedgeZ (V : Nat → V3) (f : V3) : Int :=
  let c := vcross (V f.y.toNat) (V f.z.toNat)
  wrap64 (wrap64 (wrap64 ((V f.x.toNat).x * c.x) + wrap64 ((V f.x.toNat).y * c.y)) + wrap64 ((V f.x.toNat).z * c.z))

set_option maxHeartbeats 2000000 in
theorem wedge_nat (b off n cap : Nat) (V : Nat → V3) (i j k : Nat) (hi : i < n) (hj : j < n) (hk : k < n) (w : World) (hb : b < w.heap.size) (hc : Tri w b off n V) :
    Calls Try.prog 35 #[.slice (some ⟨b, off, none⟩) n cap, .agg #[.int .i64 i, .int .i64 j, .int .i64 k]] w
      fun e w' => e = .returned (.int .i64 (wedgeZ V ⟨i, j, k⟩)) ∧ Below w.heap.size w w' := by
  obtain ⟨ci0, ci1, ci2⟩ := hc i hi
  obtain ⟨cj0, cj1, cj2⟩ := hc j hj
  obtain ⟨ck0, ck1, ck2⟩ := hc k hk
  clear hc
  go_enter Try.func35, Try.ntmps35
  go_wp2
  generalize hw0 : w.alloc (Obj.cells #[Value.int IntKind.i64 ↑i, Value.int IntKind.i64 ↑j, Value.int IntKind.i64 ↑k] 47) = w0
  have z0 : w.heap.size < w0.heap.size := by subst hw0; simp
  have zb : b < w0.heap.size := by omega
  have B0 : Below w.heap.size w w0 := by subst hw0; exact (by repeat (first | exact Below.refl _ _ | assumption | refine Below.drew ?_ | refine bdrewN ?_ _ | refine Below.setCell ?_ (by first | omega | (simp <;> omega)) _ | refine Below.alloc ?_ (by first | omega | (simp <;> omega)) _))
  have di0 := cellk B0 hb ci0
  have di1 := cellk B0 hb ci1
  have di2 := cellk B0 hb ci2
  have dj0 := cellk B0 hb cj0
  have dj1 := cellk B0 hb cj1
  have dj2 := cellk B0 hb cj2
  have dk0 := cellk B0 hb ck0
  have dk1 := cellk B0 hb ck1
  have dk2 := cellk B0 hb ck2
  have e0 : w0.cell? ⟨w.heap.size, 0, none⟩ = some (.int .i64 i) := by subst hw0; simp [go_sem]
  have e1 : w0.cell? ⟨w.heap.size, 1, none⟩ = some (.int .i64 j) := by subst hw0; simp [go_sem]
  have e2 : w0.cell? ⟨w.heap.size, 2, none⟩ = some (.int .i64 k) := by subst hw0; simp [go_sem]
  clear ci0 ci1 ci2 cj0 cj1 cj2 ck0 ck1 ck2 hw0
  go_region_held3 (fun w' => (∀ b o, b < w0.heap.size → w'.cell? ⟨b, o, none⟩ = w0.cell? ⟨b, o, none⟩) ∧ (∀ b o, b < w0.heap.size → w'.frozen? ⟨b, o, none⟩ = w0.frozen? ⟨b, o, none⟩) ∧ Below w0.heap.size w0 w')
    (first | exact old_of ((Below.refl _ _).drew) | exact old_next (by assumption) hb')
    (first
      | (go_at_call 52; refine (mcross_any _ _ _ _ _ _ _).mono ?_; rintro e w' ⟨rfl, hb'⟩)
      | (go_at_call 69; refine (dot_any _ _ _ _ _ _ _).mono ?_; rintro e w' ⟨rfl, hb'⟩))
  all_goals
    have HB : Hid (Below w.heap.size w _) := B0.trans (‹_ ∧ _ ∧ Below w0.heap.size w0 w'›.2.2.mono (by omega))
    go_wp2
    go_ret
    exact ⟨ret_int (by simp [wedgeZ, vcross]), HB.out⟩

theorem wedge_int (av : Option Addr) (nv cv : Nat) (V : Nat → V3) (f : V3) (w : World) (hv : Row3 w av nv V) (hx : fIx nv f = true) :
    Calls Try.prog 35 #[.slice av nv cv, .agg #[.int .i64 f.x, .int .i64 f.y, .int .i64 f.z]] w
      fun e w' => e = .returned (.int .i64 (wedgeZ V f)) ∧ Below w.heap.size w w' := by
  simp only [fIx, inB, Bool.and_eq_true, decide_eq_true_eq] at hx
  obtain ⟨⟨x0, x1⟩, ⟨y0, y1⟩, z0, z1⟩ := hx
  rcases hv with rfl | ⟨b, off, rfl, hb, hc⟩
  · omega
  obtain ⟨i, hi⟩ := Int.eq_ofNat_of_zero_le x0
  obtain ⟨j, hj⟩ := Int.eq_ofNat_of_zero_le y0
  obtain ⟨k, hk⟩ := Int.eq_ofNat_of_zero_le z0
  have := wedge_nat b off nv cv V i j k (by omega) (by omega) (by omega) w hb hc
  obtain ⟨x, y, z⟩ := f
  simp only at hi hj hk
  subst hi hj hk
  exact this

theorem reversed_any (p q : Int) (w : World) :
    Calls Try.prog 82 #[.agg #[.int .i64 p, .int .i64 q]] w fun e w' => e = .returned (.agg #[.int .i64 q, .int .i64 p]) ∧ Below w.heap.size w w' := by
  go_enter Try.func82, Try.ntmps82
  go_wp2
  exact bodyPost_ret (v := .agg #[.int .i64 q, .int .i64 p]) (by simp [results, Try.results82, go_sem]) rfl ⟨rfl, (by repeat (first | exact Below.refl _ _ | assumption | refine Below.drew ?_ | refine bdrewN ?_ _ | refine Below.setCell ?_ (by first | omega | (simp <;> omega)) _ | refine Below.alloc ?_ (by first | omega | (simp <;> omega)) _))⟩
end Go.Proofs.Ytmcebhjcaacbpaa

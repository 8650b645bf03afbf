/- The reference's MeshFault: what is wrong with a mesh. -/
import Derived.Test.YtmcebhjcaacbpaaFault2
import Derived.Test.YtmcebhjcaacbpaaNorm
import Derived.Deep.AppendLies
import Derived.Deep.LoopGhost
set_option linter.unusedSimpArgs false
set_option linter.unusedVariables false
namespace Go.Proofs.Ytmcebhjcaacbpaa
open Go.RowKit

def fIx (nv : Nat) (f : V3) : Bool := inB f.x 0 ((nv : Int) - 1) && (inB f.y 0 ((nv : Int) - 1) && inB f.z 0 ((nv : Int) - 1))
def fNrm (V : Nat → V3) (f : V3) : V3 := vnorm (V f.x.toNat) (V f.y.toNat) (V f.z.toNat)
def fZero (V : Nat → V3) (f : V3) : Bool := tEq (fNrm V f).x (fNrm V f).y (fNrm V f).z 0 0 0
def fErr (nv : Nat) (V F : Nat → V3) (i : Nat) : Int := if fIx nv (F i) = true then (if fZero V (F i) = true then 3 else 0) else 8
def SX (F : Nat → V3) (n : Nat) : Int := sdx (F (n / 3)) (n % 3)
def SY (F : Nat → V3) (n : Nat) : Int := sdy (F (n / 3)) (n % 3)
def twice (nf : Nat) (F : Nat → V3) : Bool := (List.range (3 * nf)).any fun i => hasSide i (SX F) (SY F) (SX F i) (SY F i)
def fault (nv : Nat) (V : Nat → V3) (nf : Nat) (F : Nat → V3) : Int :=
  if nf = 0 then 8 else if 1000 < nv ∨ 1000 < nf then 2 else if first (vErr V) nv ≠ 0 then first (vErr V) nv
  else if first (fErr nv V F) nf ≠ 0 then first (fErr nv V F) nf else if twice nf F = true then 6 else 0

/-- A slice of triples reads as the first n of V. -/
def Row3 (w : World) (a : Option Addr) (n : Nat) (V : Nat → V3) : Prop := n = 0 ∨ ∃ b off, a = some ⟨b, off, none⟩ ∧ b < w.heap.size ∧ Tri w b off n V
theorem Row3.kept {w w' : World} {a : Option Addr} {n : Nat} {V : Nat → V3} (h : Row3 w a n V) (hb : Below w.heap.size w w') : Row3 w' a n V := by
  rcases h with h | ⟨b, off, h1, h2, h3⟩
  · exact .inl h
  · exact .inr ⟨b, off, h1, by have := hb.size; omega, h3.kept hb h2⟩

/-- The normal of a face whose corners are right, by the reference. -/
theorem rnormal_int (av af : Option Addr) (nv cv : Nat) (V : Nat → V3) (nf cf : Nat) (f : V3) (w : World) (hv : Row3 w av nv V) (hx : fIx nv f = true) :
    Calls Try.prog 46 #[.agg #[.slice av nv cv, .slice af nf cf], .agg #[.int .i64 f.x, .int .i64 f.y, .int .i64 f.z]] w
      fun e w' => e = .returned (.agg #[.int .i64 (fNrm V f).x, .int .i64 (fNrm V f).y, .int .i64 (fNrm V f).z]) ∧ Below w.heap.size w w' := by
  simp only [fIx, inB, Bool.and_eq_true, decide_eq_true_eq] at hx
  obtain ⟨⟨x0, x1⟩, ⟨y0, y1⟩, z0, z1⟩ := hx
  rcases hv with rfl | ⟨b, off, rfl, hb, hc⟩
  · omega
  obtain ⟨i, hi⟩ := Int.eq_ofNat_of_zero_le x0
  obtain ⟨j, hj⟩ := Int.eq_ofNat_of_zero_le y0
  obtain ⟨k, hk⟩ := Int.eq_ofNat_of_zero_le z0
  have := rnormal_any b off nv cv V i j k (.slice af nf cf) rfl (by omega) (by omega) (by omega) w hb hc
  unfold fNrm
  rw [hi, hj, hk]
  exact this

set_option maxHeartbeats 1000000 in
theorem meshFault_head (av af : Option Addr) (nv cv nf cf : Nat) (V F : Nat → V3) (w : World) (hv : Row3 w av nv V) (hnv : nv ≤ 1000000) (hnf : nf ≤ 1000000)
    (h : nf = 0 ∨ (1000 < nv ∨ 1000 < nf) ∨ first (vErr V) nv ≠ 0) :
    Calls Try.prog 15 #[.agg #[.slice av nv cv, .slice af nf cf]] w fun e w' => e = .returned (.int .i64 (fault nv V nf F)) ∧ Below w.heap.size w w' := by
  by_cases h0 : nf = 0
  · subst h0
    go_enter Try.func15, Try.ntmps15
    go_wp2
    go_ret
    exact ⟨rfl, (by repeat (first | exact Below.refl _ _ | assumption | refine Below.drew ?_ | refine bdrewN ?_ _ | refine Below.setCell ?_ (by first | omega | (simp <;> omega)) _ | refine Below.alloc ?_ (by first | omega | (simp <;> omega)) _))⟩
  have e0 : ((nf : Int) == 0) = false := by simp; omega
  by_cases h1 : 1000 < nv
  · have hf : fault nv V nf F = 2 := by simp [fault, h0, h1]
    have HF := Lib.hid hf
    clear hf
    go_enter Try.func15, Try.ntmps15
    go_wp2
    go_ret
    exact ⟨ret_int HF.out.symm, (by repeat (first | exact Below.refl _ _ | assumption | refine Below.drew ?_ | refine bdrewN ?_ _ | refine Below.setCell ?_ (by first | omega | (simp <;> omega)) _ | refine Below.alloc ?_ (by first | omega | (simp <;> omega)) _))⟩
  have d1 : decide (1000 < nv) = false := by simpa using h1
  by_cases h2 : 1000 < nf
  · have hf : fault nv V nf F = 2 := by simp [fault, h0, h2]
    have HF := Lib.hid hf
    clear hf
    go_enter Try.func15, Try.ntmps15
    go_wp2
    go_ret
    exact ⟨ret_int HF.out.symm, (by repeat (first | exact Below.refl _ _ | assumption | refine Below.drew ?_ | refine bdrewN ?_ _ | refine Below.setCell ?_ (by first | omega | (simp <;> omega)) _ | refine Below.alloc ?_ (by first | omega | (simp <;> omega)) _))⟩
  have d2 : decide (1000 < nf) = false := by simpa using h2
  have h3 : first (vErr V) nv ≠ 0 := by
    rcases h with h | (h | h) | h
    · contradiction
    · contradiction
    · contradiction
    · exact h
  have hf : fault nv V nf F = first (vErr V) nv := by simp [fault, h0, h1, h2, h3]
  have HF := Lib.hid hf
  have HV := Lib.hid hv
  have e3 : (first (vErr V) nv != 0) = true := by simpa using h3
  clear hf h3 h hv
  go_enter Try.func15, Try.ntmps15
  go_wp2_with (go_at_call 44; refine (vecFault_any av nv cv V _ hnv (HV.out.kept (by repeat (first | exact Below.refl _ _ | assumption | refine Below.drew ?_ | refine bdrewN ?_ _ | refine Below.setCell ?_ (by first | omega | (simp <;> omega)) _ | refine Below.alloc ?_ (by first | omega | (simp <;> omega)) _)))).mono ?_; rintro e w1 ⟨rfl, hb1⟩)
  go_ret
  exact ⟨ret_int HF.out.symm, Below.trans (by repeat (first | exact Below.refl _ _ | assumption | refine Below.drew ?_ | refine bdrewN ?_ _ | refine Below.setCell ?_ (by first | omega | (simp <;> omega)) _ | refine Below.alloc ?_ (by first | omega | (simp <;> omega)) _)) (hb1.mono (by simp))⟩
end Go.Proofs.Ytmcebhjcaacbpaa

/- Overhangs and Crossing, and what the reference says of them. -/
import Derived.Test.YtodnkgmalbpdaaaFt
import Derived.Test.YtodnkgmalbpdaaaAmesh
set_option linter.unusedSimpArgs false
set_option linter.unusedVariables false
namespace Go.Proofs.Ytodnkgmalbpdaaa
open Go.RowKit

/-- The faces' corners are vertices. -/
def Good (nv nf : Nat) (F : Nat → V3) : Prop := ∀ k, k < nf → ((0 ≤ (F k).x ∧ (F k).x < nv) ∧ (0 ≤ (F k).y ∧ (F k).y < nv) ∧ 0 ≤ (F k).z ∧ (F k).z < nv)
theorem good_of {nv nf : Nat} {V F : Nat → V3} (h : fault nv V nf F = 0) : Good nv nf F := by
  intro k hk
  have h0 : first (fErr nv V F) nf = 0 := by
    refine Decidable.byContradiction fun hn => ?_
    unfold fault at h
    split at h
    · omega
    split at h
    · omega
    split at h
    · omega
    exact hn h
  have h1 := first_none h0 k hk
  unfold fErr at h1
  split at h1
  · rename_i h2
    simp [fIx, inB] at h2
    omega
  · omega

def PO (V F : Nat → V3) (num den : Int) (k : Nat) : Bool := ovh (vnorm (V (F k).x.toNat) (V (F k).y.toNat) (V (F k).z.toNat)) num den
def PC (V F : Nat → V3) (z : Int) (k : Nat) : Bool := crs (V (F k).x.toNat).z (V (F k).y.toNat).z (V (F k).z.toNat).z z

theorem callB {av : Option Addr} {nv cv nf : Nat} {V F : Nat → V3} {num den : Int} {m s : Nat} {sf : Value} {w : World} (hsf : sf.oneCell' = true) (hv : Row3 w av nv V) (hg : Good nv nf F) (hm0 : w.cell? ⟨m, 0, none⟩ = some (.slice av nv cv)) (hm1 : w.cell? ⟨m, 1, none⟩ = some sf) (hs0 : w.cell? ⟨s, 0, none⟩ = some (.int .i64 num)) (hs1 : w.cell? ⟨s, 1, none⟩ = some (.int .i64 den)) (hml : m < w.heap.size) (hsl : s < w.heap.size) :
    ∀ W, Below w.heap.size w W → ∀ k, k < nf → Calls Try.prog 86 #[.agg #[.int .i64 (F k).x, .int .i64 (F k).y, .int .i64 (F k).z], .pointer (some ⟨m, 0, none⟩), .pointer (some ⟨s, 0, none⟩)] W fun e w' => e = .returned (.bool (PO V F num den k)) ∧ Below W.heap.size W w' := by
  intro W hb k hk
  obtain ⟨⟨x0, x1⟩, ⟨y0, y1⟩, z0, z1⟩ := hg k hk
  obtain ⟨i, hi⟩ := Int.eq_ofNat_of_zero_le x0
  obtain ⟨j, hj⟩ := Int.eq_ofNat_of_zero_le y0
  obtain ⟨l, hl⟩ := Int.eq_ofNat_of_zero_le z0
  have hs := hb.size
  rcases hv with h | ⟨b, off, rfl, hbl, ht⟩
  · omega
  have := ovB_any b off nv cv V i j l num den m s sf hsf (by omega) (by omega) (by omega) W (by omega) (ht.kept hb hbl) (cellk hb hml hm0) (cellk hb hml hm1) (cellk hb hsl hs0) (cellk hb hsl hs1) (by omega) (by omega)
  unfold PO
  rw [hi, hj, hl]
  exact this

set_option maxHeartbeats 2000000 in
theorem ovOf_any (av af : Option Addr) (nv cv nf cf : Nat) (V F : Nat → V3) (num den : Int) (w : World) (hv : Row3 w av nv V) (hf : Row3 w af nf F) (hnf : nf ≤ 1000000) (hg : Good nv nf F) :
    Calls Try.prog 33 #[.agg #[.slice av nv cv, .slice af nf cf], .agg #[.int .i64 num, .int .i64 den]] w fun e w' => ∃ v, e = .returned v ∧ w'.ownsRow w.heap.size 3 1 v (filt (PO V F num den) nf).length (filt (PO V F num den) nf) ∧ Below w.heap.size w w' := by
  have HV := Lib.hid hv
  have HF := Lib.hid hf
  clear hv hf
  go_enter Try.func33, Try.ntmps33
  go_wp2_with (fail)
  refine (those_ov w.heap.size (w.heap.size + 1) (PO V F num den) _ af nf cf F _ (HF.out.kept (by repeat (first | exact Below.refl _ _ | assumption | refine Below.drew ?_ | refine bdrewN ?_ _ | refine Below.setCell ?_ (by first | omega | (simp <;> omega)) _ | refine Below.alloc ?_ (by first | omega | (simp <;> omega)) _))) hnf (callB (cv := cv) (sf := .slice af nf cf) (by simp [Value.oneCell']) (HV.out.kept (by repeat (first | exact Below.refl _ _ | assumption | refine Below.drew ?_ | refine bdrewN ?_ _ | refine Below.setCell ?_ (by first | omega | (simp <;> omega)) _ | refine Below.alloc ?_ (by first | omega | (simp <;> omega)) _))) hg (by simp [go_sem]) (by simp [go_sem]) (by simp [go_sem]) (by simp [go_sem]) (by simp; omega) (by simp))).mono ?_
  rintro e w1 ⟨v, rfl, hown, hb1⟩
  have HO := Lib.hid (own_base hown (base' := w.heap.size) (by simp; omega))
  have hb2 : Below w.heap.size w w1 := Below.trans (by repeat (first | exact Below.refl _ _ | assumption | refine Below.drew ?_ | refine bdrewN ?_ _ | refine Below.setCell ?_ (by first | omega | (simp <;> omega)) _ | refine Below.alloc ?_ (by first | omega | (simp <;> omega)) _)) (hb1.mono (by simp; omega))
  have HB := Lib.hid hb2
  obtain ⟨ao, cap, rfl⟩ := own_slice hown
  clear hown hb1 hb2
  go_wp2
  go_ret
  exact ⟨_, rfl, HO.out, HB.out⟩
theorem callCB {av : Option Addr} {nv cv nf : Nat} {V F : Nat → V3} {z : Int} {m s : Nat} {sf : Value} {w : World} (hsf : sf.oneCell' = true) (hv : Row3 w av nv V) (hg : Good nv nf F) (hm0 : w.cell? ⟨m, 0, none⟩ = some (.slice av nv cv)) (hm1 : w.cell? ⟨m, 1, none⟩ = some sf) (hs0 : w.cell? ⟨s, 0, none⟩ = some (.int .i64 z)) (hml : m < w.heap.size) (hsl : s < w.heap.size) :
    ∀ W, Below w.heap.size w W → ∀ k, k < nf → Calls Try.prog 87 #[.agg #[.int .i64 (F k).x, .int .i64 (F k).y, .int .i64 (F k).z], .pointer (some ⟨m, 0, none⟩), .pointer (some ⟨s, 0, none⟩)] W fun e w' => e = .returned (.bool (PC V F z k)) ∧ Below W.heap.size W w' := by
  intro W hb k hk
  obtain ⟨⟨x0, x1⟩, ⟨y0, y1⟩, z0, z1⟩ := hg k hk
  obtain ⟨i, hi⟩ := Int.eq_ofNat_of_zero_le x0
  obtain ⟨j, hj⟩ := Int.eq_ofNat_of_zero_le y0
  obtain ⟨l, hl⟩ := Int.eq_ofNat_of_zero_le z0
  have hs := hb.size
  rcases hv with h | ⟨b, off, rfl, hbl, ht⟩
  · omega
  have := crB_any b off nv cv V i j l z m s sf hsf (by omega) (by omega) (by omega) W (by omega) (ht.kept hb hbl) (cellk hb hml hm0) (cellk hb hml hm1) (cellk hb hsl hs0) (by omega) (by omega)
  unfold PC
  rw [hi, hj, hl]
  exact this

set_option maxHeartbeats 2000000 in
theorem crOf_any (av af : Option Addr) (nv cv nf cf : Nat) (V F : Nat → V3) (z : Int) (w : World) (hv : Row3 w av nv V) (hf : Row3 w af nf F) (hnf : nf ≤ 1000000) (hg : Good nv nf F) :
    Calls Try.prog 34 #[.agg #[.slice av nv cv, .slice af nf cf], .int .i64 z] w fun e w' => ∃ v, e = .returned v ∧ w'.ownsRow w.heap.size 3 1 v (filt (PC V F z) nf).length (filt (PC V F z) nf) ∧ Below w.heap.size w w' := by
  have HV := Lib.hid hv
  have HF := Lib.hid hf
  clear hv hf
  go_enter Try.func34, Try.ntmps34
  go_wp2_with (fail)
  refine (those_cr w.heap.size (w.heap.size + 1) (PC V F z) _ af nf cf F _ (HF.out.kept (by repeat (first | exact Below.refl _ _ | assumption | refine Below.drew ?_ | refine bdrewN ?_ _ | refine Below.setCell ?_ (by first | omega | (simp <;> omega)) _ | refine Below.alloc ?_ (by first | omega | (simp <;> omega)) _))) hnf (callCB (cv := cv) (sf := .slice af nf cf) (by simp [Value.oneCell']) (HV.out.kept (by repeat (first | exact Below.refl _ _ | assumption | refine Below.drew ?_ | refine bdrewN ?_ _ | refine Below.setCell ?_ (by first | omega | (simp <;> omega)) _ | refine Below.alloc ?_ (by first | omega | (simp <;> omega)) _))) hg (by simp [go_sem]) (by simp [go_sem]) (by simp [go_sem]) (by simp; omega) (by simp))).mono ?_
  rintro e w1 ⟨v, rfl, hown, hb1⟩
  have HO := Lib.hid (own_base hown (base' := w.heap.size) (by simp; omega))
  have hb2 : Below w.heap.size w w1 := Below.trans (by repeat (first | exact Below.refl _ _ | assumption | refine Below.drew ?_ | refine bdrewN ?_ _ | refine Below.setCell ?_ (by first | omega | (simp <;> omega)) _ | refine Below.alloc ?_ (by first | omega | (simp <;> omega)) _)) (hb1.mono (by simp; omega))
  have HB := Lib.hid hb2
  obtain ⟨ao, cap, rfl⟩ := own_slice hown
  clear hown hb1 hb2
  go_wp2
  go_ret
  exact ⟨_, rfl, HO.out, HB.out⟩
end Go.Proofs.Ytodnkgmalbpdaaa

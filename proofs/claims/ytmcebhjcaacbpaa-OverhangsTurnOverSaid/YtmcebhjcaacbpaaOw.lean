/- Overhangs of the program. -/
import Derived.Test.YtmcebhjcaacbpaaOv
set_option linter.unusedSimpArgs false
set_option linter.unusedVariables false
namespace Go.Proofs.Ytmcebhjcaacbpaa
open Go.RowKit

theorem callA {av : Option Addr} {nv cv nf : Nat} {V F : Nat → V3} {num den : Int} {m s : Nat} {w : World} (hnv : nv ≤ 1000000) (hv : Row3 w av nv V) (hg : Good nv nf F) (hm0 : w.cell? ⟨m, 0, none⟩ = some (.slice av nv cv)) (hs0 : w.cell? ⟨s, 0, none⟩ = some (.int .i64 num)) (hs1 : w.cell? ⟨s, 1, none⟩ = some (.int .i64 den)) (hml : m < w.heap.size) (hsl : s < w.heap.size) :
    ∀ W, Below w.heap.size w W → ∀ k, k < nf → Calls Try.prog 20 #[.agg #[.int .i64 (F k).x, .int .i64 (F k).y, .int .i64 (F k).z], .pointer (some ⟨m, 0, none⟩), .pointer (some ⟨s, 0, none⟩)] W fun e w' => e = .returned (.bool (PO V F num den k)) ∧ Below W.heap.size W w' := by
  intro W hb k hk
  obtain ⟨⟨x0, x1⟩, ⟨y0, y1⟩, z0, z1⟩ := hg k hk
  obtain ⟨i, hi⟩ := Int.eq_ofNat_of_zero_le x0
  obtain ⟨j, hj⟩ := Int.eq_ofNat_of_zero_le y0
  obtain ⟨l, hl⟩ := Int.eq_ofNat_of_zero_le z0
  have hs := hb.size
  rcases hv with h | ⟨b, off, rfl, hbl, ht⟩
  · omega
  have := ovA_any b off nv cv V i j l num den m s (by omega) (by omega) (by omega) hnv W (by omega) (ht.kept hb hbl) (cellk hb hml hm0) (cellk hb hsl hs0) (cellk hb hsl hs1) (by omega) (by omega)
  unfold PO
  rw [hi, hj, hl]
  exact this
/-- A list and an error: the list is that of P if there is no error, and nil otherwise. -/
def ListPost (w : World) (E : Int) (xs : List Value) (e : Ending) (w' : World) : Prop := ∃ v, e = .returned (.tuple #[v, .int .i64 E]) ∧ (∃ ys : List Value, ys = (if E = 0 then xs else []) ∧ w'.ownsRow w.heap.size 3 1 v ys.length ys) ∧ Below w.heap.size w w'
theorem listNil {w w' : World} {E E' : Int} {xs : List Value} (h : E = E') (h0 : E' ≠ 0) (hb : Below w.heap.size w w') : ListPost w E xs (.returned (.tuple #[.slice none 0 0, .int .i64 E'])) w' := by
  subst h
  exact ⟨_, rfl, ⟨[], by rw [if_neg h0], World.ownsRow_nil _ _ _ _⟩, hb⟩

theorem listYes {w w' : World} {E : Int} {xs : List Value} {v : Value} (h : E = 0) (ho : w'.ownsRow w.heap.size 3 1 v xs.length xs) (hb : Below w.heap.size w w') : ListPost w E xs (.returned (.tuple #[v, .int .i64 0])) w' := by
  subst h
  exact ⟨_, rfl, ⟨xs, by rw [if_pos rfl], ho⟩, hb⟩
def spanC (z : Int) : Int := spanE z (-100000) 100000

set_option maxHeartbeats 4000000 in
theorem ov_any (av af : Option Addr) (nv cv nf cf : Nat) (V F : Nat → V3) (num den : Int) (w : World) (hn : -9223372036854775808 ≤ num ∧ num ≤ 9223372036854775807) (hd : -9223372036854775808 ≤ den ∧ den ≤ 9223372036854775807) (hv : Row3 w av nv V) (hf : Row3 w af nf F) (hnv : nv ≤ 1000000) (hnf : nf ≤ 1000000) :
    Calls Try.prog 6 #[.agg #[.slice av nv cv, .slice af nf cf], .agg #[.int .i64 num, .int .i64 den]] w (ListPost w (orE (fault nv V nf F) (slopeE num den 1000 1000)) (filt (PO V F num den) nf)) := by
  have HV := Lib.hid hv
  have HF := Lib.hid hf
  clear hv hf
  go_enter Try.func6, Try.ntmps6
  go_wp2_with (fail)
  refine (checkMesh_any av af nv cv nf cf V F _ (HV.out.kept (by repeat (first | exact Below.refl _ _ | assumption | refine Below.drew ?_ | refine bdrewN ?_ _ | refine Below.setCell ?_ (by first | omega | (simp <;> omega)) _ | refine Below.alloc ?_ (by first | omega | (simp <;> omega)) _))) (HF.out.kept (by repeat (first | exact Below.refl _ _ | assumption | refine Below.drew ?_ | refine bdrewN ?_ _ | refine Below.setCell ?_ (by first | omega | (simp <;> omega)) _ | refine Below.alloc ?_ (by first | omega | (simp <;> omega)) _))) hnv hnf).mono ?_
  rintro e w1 ⟨rfl, hb1⟩
  have B1 : Below w.heap.size w w1 := Below.trans (by repeat (first | exact Below.refl _ _ | assumption | refine Below.drew ?_ | refine bdrewN ?_ _ | refine Below.setCell ?_ (by first | omega | (simp <;> omega)) _ | refine Below.alloc ?_ (by first | omega | (simp <;> omega)) _)) (hb1.mono (by simp; omega))
  have z1 : w.heap.size + 1 < w1.heap.size := by have := hb1.size; simp at this; omega
  have m0 : w1.cell? ⟨w.heap.size, 0, none⟩ = some (.slice av nv cv) := by rw [hb1.cell (by simp <;> omega)]; simp [go_sem]
  have m1 : w1.cell? ⟨w.heap.size, 1, none⟩ = some (.slice af nf cf) := by rw [hb1.cell (by simp <;> omega)]; simp [go_sem]
  have s0 : w1.cell? ⟨w.heap.size + 1, 0, none⟩ = some (.int .i64 num) := by rw [hb1.cell (by simp <;> omega)]; simp [go_sem]
  have s1 : w1.cell? ⟨w.heap.size + 1, 1, none⟩ = some (.int .i64 den) := by rw [hb1.cell (by simp <;> omega)]; simp [go_sem]
  have HB := Lib.hid B1
  clear hb1 B1
  by_cases h0 : fault nv V nf F = 0
  · have HG := Lib.hid (good_of h0)
    have e0 : (fault nv V nf F != 0) = false := by simp [h0]
    have HX : Hid (orE (fault nv V nf F) (slopeE num den 1000 1000) = slopeE num den 1000 1000) := Lib.hid (by simp [orE, h0])
    clear h0
    by_cases hden : den < 1
    · have HE := Lib.hid (HX.out.trans (show slopeE num den 1000 1000 = 3 by simp [slopeE, hden]))
      go_wp2
      exact bodyPost_ret (v := .tuple #[.slice none 0 0, .int .i64 3]) (by simp [results, Try.results6, go_sem]) rfl (listNil HE.out (by decide) HB.out)
    · rcases hlow : lowB num den with _ | _
      · have HL := Lib.hid hlow
        have HE := Lib.hid (HX.out.trans (show slopeE num den 1000 1000 = 3 by simp only [lowB, decide_eq_false_iff_not] at hlow; simp [slopeE, hlow]))
        go_wp2_with (go_at_call 18; refine (lowest_any num den _ hn hd).mono ?_; rintro e w2 ⟨rfl, hb2⟩; rw [HL.out])
        exact bodyPost_ret (v := .tuple #[.slice none 0 0, .int .i64 3]) (by simp [results, Try.results6, go_sem]) rfl (listNil HE.out (by decide) (HB.out.trans (hb2.mono HB.out.size)))
      · have HL := Lib.hid hlow
        have HX2 : Hid (orE (fault nv V nf F) (slopeE num den 1000 1000) = if (0 ≤ num ∧ num ≤ 1000) ∧ den ≤ 1000 then 0 else 1) := Lib.hid (HX.out.trans (by simp only [lowB, decide_eq_true_eq] at hlow; simp [slopeE, hlow, hden]))
        clear hlow
        by_cases hin : (0 ≤ num ∧ num ≤ 1000) ∧ den ≤ 1000
        · have HE := Lib.hid (HX2.out.trans (if_pos hin))
          have HI := Lib.hid hin
          obtain ⟨⟨h1, h2⟩, h3⟩ := hin
          go_wp2_with (go_at_call 18; refine (lowest_any num den _ hn hd).mono ?_; rintro e w2 ⟨rfl, hb2⟩; rw [HL.out]; have t0 := cellk hb2 (show w.heap.size + 1 < _ by omega) s0; have t1 := cellk hb2 (show w.heap.size + 1 < _ by omega) s1; have tm := cellk hb2 (show w.heap.size < _ by omega) m0; have tn := cellk hb2 (show w.heap.size < _ by omega) m1; have tz : w.heap.size + 1 < w2.heap.size := (by have := hb2.size; omega); have HB2 := Lib.hid (HB.out.trans (hb2.mono HB.out.size)))
          have hw2 := HB2.out
          have RV := HV.out.kept hw2
          have RF := HF.out.kept hw2
          refine (facesThat_ov w.heap.size (w.heap.size + 1) (PO V F num den) (.slice av nv cv) af nf cf F _ RF hnf (callA hnv RV HG.out tm t0 t1 (by omega) (by omega))).mono ?_
          rintro e w3 ⟨v, rfl, hown, hb3⟩
          have HO := Lib.hid (own_base hown hw2.size)
          have HB3 := Lib.hid (hw2.trans (hb3.mono hw2.size))
          obtain ⟨ao, cap, rfl⟩ := own_slice hown
          clear hown hb3 RV RF hw2
          go_wp2
          exact bodyPost_ret (v := .tuple #[.slice ao (filt (PO V F num den) nf).length cap, .int .i64 0]) (by simp [results, Try.results6, go_sem]) rfl (listYes HE.out HO.out HB3.out)
        · have HE := Lib.hid (HX2.out.trans (if_neg hin))
          have HI := Lib.hid hin
          clear hin
          by_cases n1 : num < 0
          · go_wp2_with (go_at_call 18; refine (lowest_any num den _ hn hd).mono ?_; rintro e w2 ⟨rfl, hb2⟩; rw [HL.out]; have t0 := cellk hb2 (show w.heap.size + 1 < _ by omega) s0; have t1 := cellk hb2 (show w.heap.size + 1 < _ by omega) s1; have tm := cellk hb2 (show w.heap.size < _ by omega) m0; have tn := cellk hb2 (show w.heap.size < _ by omega) m1; have tz : w.heap.size + 1 < w2.heap.size := (by have := hb2.size; omega); have HB2 := Lib.hid (HB.out.trans (hb2.mono HB.out.size)))
            exact bodyPost_ret (v := .tuple #[.slice none 0 0, .int .i64 1]) (by simp [results, Try.results6, go_sem]) rfl (listNil HE.out (by decide) HB2.out)
          · by_cases n2 : 1000 < num
            · go_wp2_with (go_at_call 18; refine (lowest_any num den _ hn hd).mono ?_; rintro e w2 ⟨rfl, hb2⟩; rw [HL.out]; have t0 := cellk hb2 (show w.heap.size + 1 < _ by omega) s0; have t1 := cellk hb2 (show w.heap.size + 1 < _ by omega) s1; have tm := cellk hb2 (show w.heap.size < _ by omega) m0; have tn := cellk hb2 (show w.heap.size < _ by omega) m1; have tz : w.heap.size + 1 < w2.heap.size := (by have := hb2.size; omega); have HB2 := Lib.hid (HB.out.trans (hb2.mono HB.out.size)))
              exact bodyPost_ret (v := .tuple #[.slice none 0 0, .int .i64 1]) (by simp [results, Try.results6, go_sem]) rfl (listNil HE.out (by decide) HB2.out)
            · have n3 : 1000 < den := by have := HI.out; omega
              go_wp2_with (go_at_call 18; refine (lowest_any num den _ hn hd).mono ?_; rintro e w2 ⟨rfl, hb2⟩; rw [HL.out]; have t0 := cellk hb2 (show w.heap.size + 1 < _ by omega) s0; have t1 := cellk hb2 (show w.heap.size + 1 < _ by omega) s1; have tm := cellk hb2 (show w.heap.size < _ by omega) m0; have tn := cellk hb2 (show w.heap.size < _ by omega) m1; have tz : w.heap.size + 1 < w2.heap.size := (by have := hb2.size; omega); have HB2 := Lib.hid (HB.out.trans (hb2.mono HB.out.size)))
              exact bodyPost_ret (v := .tuple #[.slice none 0 0, .int .i64 1]) (by simp [results, Try.results6, go_sem]) rfl (listNil HE.out (by decide) HB2.out)
  · have e0 : (fault nv V nf F != 0) = true := by simpa using h0
    have HE := Lib.hid (show orE (fault nv V nf F) (slopeE num den 1000 1000) = fault nv V nf F by simp [orE, h0])
    go_wp2
    exact bodyPost_ret (v := .tuple #[.slice none 0 0, .int .i64 (fault nv V nf F)]) (by simp [results, Try.results6, go_sem]) rfl (listNil HE.out h0 HB.out)

end Go.Proofs.Ytmcebhjcaacbpaa

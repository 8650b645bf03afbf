/- The law OverhangsTurnOver. -/
import Derived.Test.YtmcebhjcaacbpaaWo4
import Derived.Test.YtmcebhjcaacbpaaOw
import Derived.Test.YtmcebhjcaacbpaaRdy
import Derived.BigQuiet
import Derived.Deep.QuietTactic
import Derived.Deep.CutRange
set_option linter.unusedSimpArgs false
set_option linter.unusedVariables false
namespace Go.Proofs.Ytmcebhjcaacbpaa
open Go.RowKit
theorem row3_of_n {w : World} {base : Nat} {a : Option Addr} {n : Nat} {V : Nat → V3} (h : RowN w base a n V) : Row3 w a n V := h.row3
theorem filt_ints {P : Nat → Bool} {m : Nat} : ∀ u ∈ filt P m, ∃ z : Int, u = .int .i64 z := fun u hu => by
  obtain ⟨k, -, -, h⟩ := filt_has.1 hu
  exact ⟨_, h⟩
theorem list_ok {w w' : World} {E : Int} {xs : List Value} {e : Ending} (h : ListPost w E xs e w') (hE : E = 0) : ∃ a c, e = .returned (.tuple #[.slice a xs.length c, .int .i64 0]) ∧ w'.ownsRow w.heap.size 3 1 (.slice a xs.length c) xs.length xs ∧ Below w.heap.size w w' := by
  obtain ⟨v, rfl, ⟨ys, hys, hown⟩, hb⟩ := h
  subst hE
  rw [if_pos rfl] at hys
  subst hys
  obtain ⟨a, c, rfl⟩ := own_slice hown
  exact ⟨a, c, rfl, hown, hb⟩
theorem nrm_bnd {a b c : V3} (ha : VIn a) (hb : VIn b) (hc : VIn c) : -80000000000 ≤ (vnorm a b c).z ∧ (vnorm a b c).z ≤ 80000000000 := by
  rw [vnorm_is ha hb hc]
  unfold nrmZ
  dsimp only
  obtain ⟨a1, a2, a3⟩ := ha
  obtain ⟨b1, b2, b3⟩ := hb
  obtain ⟨c1, c2, c3⟩ := hc
  have q5 := prod_bnd (p := b.x - a.x) (q := c.y - a.y) (by omega) (by omega)
  have q6 := prod_bnd (p := b.y - a.y) (q := c.x - a.x) (by omega) (by omega)
  omega
theorem ovh_flat {N : V3} (h : -80000000000 ≤ N.z ∧ N.z ≤ 80000000000) : ovh N 0 1 = decide (N.z < 0) := by
  unfold ovh
  rw [Int.mul_zero, Int.mul_one, w64a (n := -N.z) (by omega), w64a (n := -N.z) (by omega), w64a (n := 0) (by omega)]
  by_cases h1 : N.z < 0
  · rw [decide_eq_true h1, decide_eq_true (show (0 : Int) < -N.z by omega)]; rfl
  · rw [decide_eq_false h1]; rfl
theorem ovh_down {N : V3} {p q : Int} (h : ovh N p q = true) : N.z < 0 := by
  unfold ovh at h
  rw [Bool.and_eq_true, decide_eq_true_eq] at h
  exact h.1
/-- What the three lists say of a face. -/
theorem over_face {nv nf : Nat} {V F : Nat → V3} (h0 : fault nv V nf F = 0) {k : Nat} (hk : k < nf) :
    memO (FL (filt (PO V F 0 1) nf)) (filt (PO V F 0 1) nf).length (k : Int) = decide ((fNrm V (F k)).z < 0) ∧
    memO (FL (filt (PO (fun i => mv 2 (V i)) (fun i => sw (F i)) 0 1) nf)) (filt (PO (fun i => mv 2 (V i)) (fun i => sw (F i)) 0 1) nf).length (k : Int) = decide ((fNrm V (F k)).z > 0) ∧
    (memO (FL (filt (PO V F 1 1) nf)) (filt (PO V F 1 1) nf).length (k : Int) = true → (fNrm V (F k)).z < 0) := by
  obtain ⟨⟨x0, x1⟩, ⟨y0, y1⟩, z0, z1⟩ := good_of h0 k hk
  have km := mok h0
  have hv : ∀ i, i < nv → VIn (V i) := fun i hi => vok_in (km.v i hi)
  have vx := hv (F k).x.toNat (by omega)
  have vy := hv (F k).y.toNat (by omega)
  have vz := hv (F k).z.toNat (by omega)
  have hb := nrm_bnd vx vy vz
  rw [filt_mem hk, filt_mem hk, filt_mem hk]
  refine ⟨ovh_flat hb, ?_, fun h => ovh_down h⟩
  unfold PO
  dsimp only [sw]
  rw [norm_mir vx vy vz, ovh_flat (by dsimp only; omega)]
  unfold fNrm
  by_cases h1 : (vnorm (V (F k).x.toNat) (V (F k).y.toNat) (V (F k).z.toNat)).z > 0
  · rw [decide_eq_true h1, decide_eq_true (by dsimp only; omega)]
  · rw [decide_eq_false h1, decide_eq_false (by dsimp only; omega)]
set_option maxRecDepth 100000 in
set_option maxHeartbeats 16000000 in
theorem overhangsTurnOver_walk (a0 : Option Addr) (len0 cap0 : Nat) (z0 : List Int) (w : World) (w0 : IsRow .i64 w a0 len0 cap0 z0) :
    Calls Try.prog 3 #[.slice a0 len0 cap0] w fun e w' => e = .returned (.bool true) ∧ Below w.heap.size w w' := by
  have HS0 := Lib.hid (Strm.start w0)
  go_enter Try.func3, Try.ntmps3
  go_wp2_with (fail)
  have HM0 : Hid (Mut (· = w.heap.size) w (w.alloc (.cells #[.slice a0 len0 cap0, .int .i64 0] 25))) := Lib.hid ((Mut.refl _ w).alloc _)
  generalize (w.alloc (.cells #[.slice a0 len0 cap0, .int .i64 0] 25)) = ws at *
  obtain ⟨B, hBw⟩ : ∃ B, B = w.heap.size := ⟨_, rfl⟩
  rw [← hBw] at HS0 HM0 ⊢
  have HBW := Lib.hid hBw
  clear hBw
  refine (rightMesh_any B 0 _ HS0.out (by omega)).mono ?_
  rintro e w1 ⟨av, cv, af, cf, nv, nf, V, F, rfl, hv, hf, hnv, hnf, hz, -, hmt⟩
  have HV := Lib.hid hv.row3
  have HF := Lib.hid hf.row3
  have HZ := Lib.hid hz
  have BW := Lib.hid ((HM0.out.trans (hmt.mono fun _ _ h => h)).toBelow B (by rw [HBW.out]; exact Nat.le_refl _) (fun k hk e => by omega))
  rw [HBW.out] at BW
  try rw [HBW.out]
  clear hv hf hz hmt HBW HM0 HS0
  go_upto_region 4 with (fail)
  have hb : Below w1.heap.size w1 ((w1.alloc (.cells #[.slice av nv cv, .slice af nf cf] 29)).alloc (.cells #[.int .i64 0, .int .i64 1] 32)) := (by repeat (first | exact Below.refl _ _ | assumption | refine Below.drew ?_ | refine bdrewN ?_ _ | refine Below.setCell ?_ (by first | omega | (simp <;> omega)) _ | refine Below.alloc ?_ (by first | omega | (simp <;> omega)) _))
  have HXm := Lib.hid (show ((w1.alloc (.cells #[.slice av nv cv, .slice af nf cf] 29)).alloc (.cells #[.int .i64 0, .int .i64 1] 32)).heap[w1.heap.size]? = some (.cells #[.slice av nv cv, .slice af nf cf] 29 (0, 0)) from (by repeat (first | (refine heap_new ?_; first | rfl | (simp; done)) | rw [Below.heap_setCell _ _ _ _ (by simp <;> omega)] | rw [Below.heap_alloc _ _ _ (by simp <;> omega)])))
  have HXf := Lib.hid (show ((w1.alloc (.cells #[.slice av nv cv, .slice af nf cf] 29)).alloc (.cells #[.int .i64 0, .int .i64 1] 32)).heap[w1.heap.size + 1]? = some (.cells #[.int .i64 0, .int .i64 1] 32 (0, 0)) from (by repeat (first | (refine heap_new ?_; first | rfl | (simp; done)) | rw [Below.heap_setCell _ _ _ _ (by simp <;> omega)] | rw [Below.heap_alloc _ _ _ (by simp <;> omega)])))
  replace BW := Lib.hid (BW.out.trans (hb.mono BW.out.size))
  replace HV := Lib.hid (HV.out.kept hb)
  replace HF := Lib.hid (HF.out.kept hb)
  clear hb
  generalize ((w1.alloc (.cells #[.slice av nv cv, .slice af nf cf] 29)).alloc (.cells #[.int .i64 0, .int .i64 1] 32)) = w2 at *
  obtain ⟨q, hq⟩ : ∃ q, w1.heap.size = q := ⟨_, rfl⟩
  rw [hq] at HXm HXf
  try rw [hq]
  clear hq
  have m0 : w2.cell? ⟨q, 0, none⟩ = some (.slice av nv cv) := cell_of HXm.out (i := 0) rfl
  have m1 : w2.cell? ⟨q, 1, none⟩ = some (.slice af nf cf) := cell_of HXm.out (i := 1) rfl
  have f0 : w2.cell? ⟨q + 1, 0, none⟩ = some (.int .i64 0) := cell_of HXf.out (i := 0) rfl
  have f1 : w2.cell? ⟨q + 1, 1, none⟩ = some (.int .i64 1) := cell_of HXf.out (i := 1) rfl
  go_wp2_with (fail)
  refine (ov_any av af nv cv nf cf V F 0 1 _ (by omega) (by omega) HV.out HF.out (by omega) (by omega)).mono ?_
  rintro e w3 hpost
  obtain ⟨aa, ca, rfl, hown, hb⟩ := list_ok hpost (by rw [HZ.out]; decide)
  have Ha := Lib.hid (ints_of_filt hown rfl filt_ints)
  clear hown hpost
  replace BW := Lib.hid (BW.out.trans (hb.mono BW.out.size))
  replace HV := Lib.hid (HV.out.kept hb)
  replace HF := Lib.hid (HF.out.kept hb)
  replace HXm := Lib.hid (heap_keep hb HXm.out)
  replace HXf := Lib.hid (heap_keep hb HXf.out)
  clear hb
  clear m0 m1 f0 f1
  have m0 : w3.cell? ⟨q, 0, none⟩ = some (.slice av nv cv) := cell_of HXm.out (i := 0) rfl
  have m1 : w3.cell? ⟨q, 1, none⟩ = some (.slice af nf cf) := cell_of HXm.out (i := 1) rfl
  go_wp2_with (fail)
  refine (mir_2 av af nv cv nf cf V F w3 HV.out HF.out (by omega) (by omega) HZ.out).mono ?_
  rintro e w4 ⟨bv, dv, bf, df, rfl, hv, hf, hb⟩
  have HZ2 := Lib.hid (fault_mir HZ.out)
  have HZE := HZ2.out
  rw [HZE] at hv hf ⊢
  clear HZE
  rw [show zr 0 nv = nv from rfl] at hv ⊢
  rw [show zr 0 nf = nf from rfl] at hf ⊢
  have HV2 := Lib.hid hv.row3
  have HF2 := Lib.hid hf.row3
  clear hv hf m0 m1
  replace BW := Lib.hid (BW.out.trans (hb.mono BW.out.size))
  replace HV := Lib.hid (HV.out.kept hb)
  replace HF := Lib.hid (HF.out.kept hb)
  replace HXm := Lib.hid (heap_keep hb HXm.out)
  replace HXf := Lib.hid (heap_keep hb HXf.out)
  replace Ha := Lib.hid (Ha.out.kept hb)
  clear hb
  go_upto_region 6 with (fail)
  have hb : Below w4.heap.size w4 (w4.alloc (.cells #[.slice bv nv dv, .slice bf nf df] 29)) := (by repeat (first | exact Below.refl _ _ | assumption | refine Below.drew ?_ | refine bdrewN ?_ _ | refine Below.setCell ?_ (by first | omega | (simp <;> omega)) _ | refine Below.alloc ?_ (by first | omega | (simp <;> omega)) _))
  have HXw := Lib.hid (heap_alloc_new w4 (.cells #[.slice bv nv dv, .slice bf nf df] 29))
  replace BW := Lib.hid (BW.out.trans (hb.mono BW.out.size))
  replace HV := Lib.hid (HV.out.kept hb)
  replace HF := Lib.hid (HF.out.kept hb)
  replace HXm := Lib.hid (heap_keep hb HXm.out)
  replace HXf := Lib.hid (heap_keep hb HXf.out)
  replace Ha := Lib.hid (Ha.out.kept hb)
  replace HV2 := Lib.hid (HV2.out.kept hb)
  replace HF2 := Lib.hid (HF2.out.kept hb)
  clear hb
  generalize (w4.alloc (.cells #[.slice bv nv dv, .slice bf nf df] 29)) = w5 at *
  obtain ⟨p, hp⟩ : ∃ p, w4.heap.size = p := ⟨_, rfl⟩
  rw [hp] at HXw
  try rw [hp]
  clear hp
  have n0 : w5.cell? ⟨p, 0, none⟩ = some (.slice bv nv dv) := cell_of HXw.out (i := 0) rfl
  have n1 : w5.cell? ⟨p, 1, none⟩ = some (.slice bf nf df) := cell_of HXw.out (i := 1) rfl
  have f0 : w5.cell? ⟨q + 1, 0, none⟩ = some (.int .i64 0) := cell_of HXf.out (i := 0) rfl
  have f1 : w5.cell? ⟨q + 1, 1, none⟩ = some (.int .i64 1) := cell_of HXf.out (i := 1) rfl
  go_wp2_with (fail)
  refine (ov_any bv bf nv dv nf df (fun i => mv 2 (V i)) (fun i => sw (F i)) 0 1 _ (by omega) (by omega) HV2.out HF2.out (by omega) (by omega)).mono ?_
  rintro e w6 hpost
  obtain ⟨ab, cb, rfl, hown, hb⟩ := list_ok hpost (by rw [HZ2.out]; decide)
  have Hb := Lib.hid (ints_of_filt hown rfl filt_ints)
  clear hown hpost
  replace BW := Lib.hid (BW.out.trans (hb.mono BW.out.size))
  replace HV := Lib.hid (HV.out.kept hb)
  replace HF := Lib.hid (HF.out.kept hb)
  replace HXm := Lib.hid (heap_keep hb HXm.out)
  replace HXf := Lib.hid (heap_keep hb HXf.out)
  replace Ha := Lib.hid (Ha.out.kept hb)
  clear hb
  clear n0 n1 f0 f1 HV2 HF2 HXw
  have m0 : w6.cell? ⟨q, 0, none⟩ = some (.slice av nv cv) := cell_of HXm.out (i := 0) rfl
  have m1 : w6.cell? ⟨q, 1, none⟩ = some (.slice af nf cf) := cell_of HXm.out (i := 1) rfl
  go_wp2_with (fail)
  refine (ov_any av af nv cv nf cf V F 1 1 _ (by omega) (by omega) HV.out HF.out (by omega) (by omega)).mono ?_
  rintro e w7 hpost
  obtain ⟨ac, cc, rfl, hown, hb⟩ := list_ok hpost (by rw [HZ.out]; decide)
  have Hc := Lib.hid (ints_of_filt hown rfl filt_ints)
  clear hown hpost
  replace BW := Lib.hid (BW.out.trans (hb.mono BW.out.size))
  replace HV := Lib.hid (HV.out.kept hb)
  replace HF := Lib.hid (HF.out.kept hb)
  replace HXm := Lib.hid (heap_keep hb HXm.out)
  replace Ha := Lib.hid (Ha.out.kept hb)
  replace Hb := Lib.hid (Hb.out.kept hb)
  clear hb
  clear m0 m1 HXf
  have m0 : w7.cell? ⟨q, 0, none⟩ = some (.slice av nv cv) := cell_of HXm.out (i := 0) rfl
  have m1 : w7.cell? ⟨q, 1, none⟩ = some (.slice af nf cf) := cell_of HXm.out (i := 1) rfl
  go_wp2_with (fail)
  go_loopw [59] (fun iv wr => ∃ k : Nat, k ≤ nf ∧ iv = .int .i64 k ∧ Below w7.heap.size w7 wr) (fun iv _ => nf - (intOf iv).toNat)
  case atStart => exact ⟨0, by omega, rfl, Below.refl _ _⟩
  case round =>
    obtain ⟨k, hk, rfl, hbel⟩ := hrel
    have HB := Lib.hid hbel
    clear hbel m0 m1
    by_cases hlt : k < nf
    · have HX := Lib.hid (heap_keep HB.out HXm.out)
      have m0 : wr.cell? ⟨q, 0, none⟩ = some (.slice av nv cv) := cell_of HX.out (i := 0) rfl
      have m1 : wr.cell? ⟨q, 1, none⟩ = some (.slice af nf cf) := cell_of HX.out (i := 1) rfl
      obtain ⟨o1, o2, o3⟩ := over_face HZ.out hlt
      have O3 := Lib.hid o3
      clear o3
      go_wp2_with (fail)
      refine (Normal_ok av af nv cv nf cf V F k wr (HV.out.kept HB.out) (HF.out.kept HB.out) (by omega) (by omega) HZ.out hlt).mono ?_
      rintro e w8 ⟨x, y, rfl, hb⟩
      have HB8 := Lib.hid (HB.out.trans (hb.mono HB.out.size))
      clear hb m0 m1
      obtain ⟨z, hz⟩ : ∃ z, (fNrm V (F k)).z = z := ⟨_, rfl⟩
      rw [hz] at o1 o2 O3
      try rw [hz]
      clear hz
      go_upto_region 16 with (fail)
      have HB9 := Lib.hid (HB8.out.trans (Below.mono (show Below w8.heap.size w8 (w8.alloc (.cells #[.int .i64 x, .int .i64 y, .int .i64 z] 39)) from (by repeat (first | exact Below.refl _ _ | assumption | refine Below.drew ?_ | refine bdrewN ?_ _ | refine Below.setCell ?_ (by first | omega | (simp <;> omega)) _ | refine Below.alloc ?_ (by first | omega | (simp <;> omega)) _))) HB8.out.size))
      have HN := Lib.hid (heap_alloc_new w8 (.cells #[.int .i64 x, .int .i64 y, .int .i64 z] 39))
      generalize (w8.alloc (.cells #[.int .i64 x, .int .i64 y, .int .i64 z] 39)) = w9 at *
      obtain ⟨g, hg⟩ : ∃ g, w8.heap.size = g := ⟨_, rfl⟩
      rw [hg] at HN
      try rw [hg]
      clear hg
      have z2 : w9.cell? ⟨g, 2, none⟩ = some (.int .i64 z) := cell_of HN.out (i := 2) rfl
      have ia : IntsO w9 aa (filt (PO V F 0 1) nf).length (FL (filt (PO V F 0 1) nf)) := Ha.out.kept HB9.out
      have ib : IntsO w9 ab (filt (PO (fun i => mv 2 (V i)) (fun i => sw (F i)) 0 1) nf).length (FL (filt (PO (fun i => mv 2 (V i)) (fun i => sw (F i)) 0 1) nf)) := Hb.out.kept HB9.out
      have ic : IntsO w9 ac (filt (PO V F 1 1) nf).length (FL (filt (PO V F 1 1) nf)) := Hc.out.kept HB9.out
      have la : (filt (PO V F 0 1) nf).length ≤ 1000000 := Nat.le_trans (filt_le _ _) (by omega)
      have lb : (filt (PO (fun i => mv 2 (V i)) (fun i => sw (F i)) 0 1) nf).length ≤ 1000000 := Nat.le_trans (filt_le _ _) (by omega)
      have lc : (filt (PO V F 1 1) nf).length ≤ 1000000 := Nat.le_trans (filt_le _ _) (by omega)
      obtain ⟨s, hs⟩ : ∃ s, memO (FL (filt (PO V F 1 1) nf)) (filt (PO V F 1 1) nf).length (k : Int) = s := ⟨_, rfl⟩
      have hs3 : s = true → z < 0 := fun h => O3.out (hs.trans h)
      rcases Int.lt_trichotomy z 0 with hz | hz | hz
      · rw [decide_eq_true hz] at o1
        rw [decide_eq_false (by omega)] at o2
        clear hs3
        have d1 : decide (z < 0) = true := decide_eq_true hz
        have d2 : decide (0 < z) = false := decide_eq_false (by omega)
        have d3 : decide (0 ≤ z) = false := decide_eq_false (by omega)
        have d4 : decide (z > 0) = false := decide_eq_false (by omega)
        have d5 : decide (z ≥ 0) = false := decide_eq_false (by omega)
        rcases s with _ | _
        · go_quiet ((go_at_call 9; exact Calls.quiet_of_same (containsO_any _ _ _ _ _ _ (by assumption) (by assumption) _ (by assumption))))
          go_wp2_with (fail)
          go_roundw
          case rel => exact ⟨k + 1, by omega, by go_num, bdrewN HB9.out _⟩
          case measure => simp [intOf] <;> omega
        · go_quiet ((go_at_call 9; exact Calls.quiet_of_same (containsO_any _ _ _ _ _ _ (by assumption) (by assumption) _ (by assumption))))
          go_wp2_with (fail)
          go_roundw
          case rel => exact ⟨k + 1, by omega, by go_num, bdrewN HB9.out _⟩
          case measure => simp [intOf] <;> omega
      · subst hz
        rw [decide_eq_false (by omega)] at o1
        rw [decide_eq_false (by omega)] at o2
        rcases s with _ | _
        · clear hs3
          go_quiet ((go_at_call 9; exact Calls.quiet_of_same (containsO_any _ _ _ _ _ _ (by assumption) (by assumption) _ (by assumption))))
          go_wp2_with (fail)
          go_roundw
          case rel => exact ⟨k + 1, by omega, by go_num, bdrewN HB9.out _⟩
          case measure => simp [intOf] <;> omega
        · exact absurd (hs3 rfl) (by omega)
      · rw [decide_eq_false (by omega)] at o1
        rw [decide_eq_true hz] at o2
        have d1 : decide (z < 0) = false := decide_eq_false (by omega)
        have d2 : decide (0 < z) = true := decide_eq_true hz
        have d4 : decide (z > 0) = true := decide_eq_true hz
        rcases s with _ | _
        · clear hs3
          go_quiet ((go_at_call 9; exact Calls.quiet_of_same (containsO_any _ _ _ _ _ _ (by assumption) (by assumption) _ (by assumption))))
          go_wp2_with (fail)
          go_roundw
          case rel => exact ⟨k + 1, by omega, by go_num, bdrewN HB9.out _⟩
          case measure => simp [intOf] <;> omega
        · exact absurd (hs3 rfl) (by omega)
    · obtain rfl : nf = k := by omega
      have BW2 := Lib.hid (BW.out.trans (HB.out.mono BW.out.size))
      go_wp2_with (fail)
      refine (rdy.ready_any wr).mono ?_
      rintro e w99 ⟨rfl, hb⟩
      have BWE := Lib.hid (BW2.out.trans (hb.mono BW2.out.size))
      clear hb
      go_wp2_with (fail)
      go_ret
      exact ⟨rfl, BWE.out⟩
end Go.Proofs.Ytmcebhjcaacbpaa

/- The program's own CheckMesh. -/
import Derived.Test.YtmcebhjcaacbpaaCF
import Derived.Test.YtmcebhjcaacbpaaFos
import Derived.Test.YtmcebhjcaacbpaaMF3
import Derived.Deep.RegionWith
set_option linter.unusedSimpArgs false
set_option linter.unusedVariables false
namespace Go.Proofs.Ytmcebhjcaacbpaa
open Go.RowKit Go.Maps

theorem fix_small {nv : Nat} {f : V3} (h : fIx nv f = true) : (0 ≤ f.x ∧ f.x < nv) ∧ (0 ≤ f.y ∧ f.y < nv) ∧ (0 ≤ f.z ∧ f.z < nv) := by
  simp only [fIx, inB, Bool.and_eq_true, decide_eq_true_eq] at h
  omega
theorem fErr_fix {nv : Nat} {V F : Nat → V3} {i : Nat} (h : fErr nv V F i = 0) : fIx nv (F i) = true := by
  cases e : fIx nv (F i)
  · rw [fErr_ix e] at h; cases h
  · rfl
theorem sml_of {nv : Nat} {V : Nat → V3} {nf : Nat} {F : Nat → V3} (h1 : nv ≤ 1000) (h : ∀ j, j < nf → fErr nv V F j = 0) : Sml nf F := fun i hi => by
  have := fix_small (fErr_fix (h i hi))
  omega
theorem fault_vec {nv : Nat} {V : Nat → V3} {nf : Nat} {F : Nat → V3} (h0 : nf ≠ 0) (h1 : nv ≤ 1000) (h2 : nf ≤ 1000) {k : Nat} (hk : k < nv) (hz : ∀ j, j < k → vErr V j = 0) (hx : vOk (V k) = false) : fault nv V nf F = 1 := by
  have h4 : first (vErr V) nv = 1 := by rw [first_hit hk hz (by rw [vErr_no hx]; decide), vErr_no hx]
  simp only [fault]
  rw [if_neg h0, if_neg (by omega), if_pos (by rw [h4]; decide), h4]
theorem fault_size {nv : Nat} {V : Nat → V3} {nf : Nat} {F : Nat → V3} (h0 : nf ≠ 0) (h1 : nv ≤ 1000) (h2 : nf ≤ 1000) (h3 : first (vErr V) nv = 0) (h4 : first (fErr nv V F) nf = 0) :
    (Maps.size (SD (SX F) (SY F) (3 * nf)) < 3 * nf → fault nv V nf F = 6) ∧ (3 * nf ≤ Maps.size (SD (SX F) (SY F) (3 * nf)) → fault nv V nf F = 0) := by
  have hs := sd_size (sml_wf (sml_of h1 (first_none h4)))
  rw [fault_sides h0 h1 h2 h3 h4]
  cases ht : twice nf F
  · refine ⟨fun h => ?_, fun _ => by simp⟩
    have := hs.2.1 fun i hi => by
      have := List.any_eq_false.1 ht i (List.mem_range.2 hi)
      simpa using this
    omega
  · refine ⟨fun _ => by simp, fun h => ?_⟩
    obtain ⟨i, hi, hh⟩ := List.any_eq_true.1 ht
    have := hs.2.2 i (List.mem_range.1 hi) hh
    omega

set_option maxRecDepth 100000 in
set_option maxHeartbeats 8000000 in
theorem checkMesh_sides (av af : Option Addr) (nv cv nf cf : Nat) (V F : Nat → V3) (w : World) (hv : Row3 w av nv V) (hf : Row3 w af nf F)
    (h0 : nf ≠ 0) (h1 : nv ≤ 1000) (h2 : nf ≤ 1000) :
    Calls Try.prog 17 #[.agg #[.slice av nv cv, .slice af nf cf]] w fun e w' => e = .returned (.int .i64 (fault nv V nf F)) ∧ Below w.heap.size w w' := by
  have e0 : ((nf : Int) == 0) = false := by simp; omega
  have d1 : decide (1000 < nv) = false := by simp; omega
  have d2 : decide (1000 < nf) = false := by simp; omega
  have HP := Lib.hid (fun (k : Nat) (hk : k < nv) (hz : ∀ j, j < k → vErr V j = 0) (hx : vOk (V k) = false) => fault_vec h0 h1 h2 (F := F) hk hz hx)
  have HQ := Lib.hid (fun (h3 : first (vErr V) nv = 0) (k : Nat) (hk : k < nf) (hz : ∀ j, j < k → fErr nv V F j = 0) (hn : fErr nv V F k ≠ 0) => fault_face h0 h1 h2 h3 hk hz rfl hn)
  have HS := Lib.hid (fun (h3 : first (vErr V) nv = 0) (h4 : first (fErr nv V F) nf = 0) => fault_size h0 h1 h2 h3 h4)
  have HV := Lib.hid hv
  have HF := Lib.hid hf
  clear hf hv
  go_enter Try.func17, Try.ntmps17
  go_wp2
  go_loopw [25] (fun i wr => ∃ k : Nat, k ≤ nv ∧ i = .int .i64 k ∧ (∀ j, j < k → vErr V j = 0) ∧ Below (w.heap.size + 1) (w.alloc (.cells #[.slice av nv cv, .slice af nf cf] 29)) wr) (fun i _ => nv - (intOf i).toNat)
  case atStart => exact ⟨0, by omega, rfl, fun j hj => by omega, (by repeat (first | exact Below.refl _ _ | assumption | refine Below.drew ?_ | refine bdrewN ?_ _ | refine Below.setCell ?_ (by first | omega | (simp <;> omega)) _ | refine Below.alloc ?_ (by first | omega | (simp <;> omega)) _))⟩
  case round =>
    obtain ⟨k, hk, rfl, hz, hbel⟩ := hrel
    have HZ := Lib.hid hz
    clear hz
    have hsz := hbel.size
    simp at hsz
    have BW : Below w.heap.size w wr := Below.trans (by repeat (first | exact Below.refl _ _ | assumption | refine Below.drew ?_ | refine bdrewN ?_ _ | refine Below.setCell ?_ (by first | omega | (simp <;> omega)) _ | refine Below.alloc ?_ (by first | omega | (simp <;> omega)) _)) (hbel.mono (by omega))
    by_cases hlt : k < nv
    · obtain ⟨bv, ov, rfl, hbv, hcv⟩ : ∃ b off, av = some ⟨b, off, none⟩ ∧ b < w.heap.size ∧ Tri w b off nv V := by
        rcases HV.out with h | h
        · omega
        · exact h
      obtain ⟨c0, c1, c2⟩ := (hcv.kept BW hbv) k hlt
      have HCV := Lib.hid hcv
      clear hcv
      rcases hx : inB (V k).x (-100000) 100000 with _ | _
      · have HR := Lib.hid (HP.out k hlt HZ.out (by simp [vOk, hx]))
        go_wp2_with (go_at_call 49; refine (inRange_any _ _).mono ?_; rintro e w' ⟨rfl, rfl⟩)
        go_ret
        exact ⟨ret_int HR.out.symm, (by repeat (first | exact Below.refl _ _ | assumption | refine Below.drew ?_ | refine bdrewN ?_ _ | refine Below.setCell ?_ (by first | omega | (simp <;> omega)) _ | refine Below.alloc ?_ (by first | omega | (simp <;> omega)) _))⟩
      rcases hy : inB (V k).y (-100000) 100000 with _ | _
      · have HR := Lib.hid (HP.out k hlt HZ.out (by simp [vOk, hy]))
        go_wp2_with (go_at_call 49; refine (inRange_any _ _).mono ?_; rintro e w' ⟨rfl, rfl⟩)
        go_ret
        exact ⟨ret_int HR.out.symm, (by repeat (first | exact Below.refl _ _ | assumption | refine Below.drew ?_ | refine bdrewN ?_ _ | refine Below.setCell ?_ (by first | omega | (simp <;> omega)) _ | refine Below.alloc ?_ (by first | omega | (simp <;> omega)) _))⟩
      rcases hw : inB (V k).z (-100000) 100000 with _ | _
      · have HR := Lib.hid (HP.out k hlt HZ.out (by simp [vOk, hw]))
        go_wp2_with (go_at_call 49; refine (inRange_any _ _).mono ?_; rintro e w' ⟨rfl, rfl⟩)
        go_ret
        exact ⟨ret_int HR.out.symm, (by repeat (first | exact Below.refl _ _ | assumption | refine Below.drew ?_ | refine bdrewN ?_ _ | refine Below.setCell ?_ (by first | omega | (simp <;> omega)) _ | refine Below.alloc ?_ (by first | omega | (simp <;> omega)) _))⟩
      have HR := Lib.hid (vErr_ok (V := V) (i := k) (by simp [vOk, hx, hy, hw]))
      go_wp2_with (go_at_call 49; refine (inRange_any _ _).mono ?_; rintro e w' ⟨rfl, rfl⟩)
      go_roundw
      case rel => exact ⟨k + 1, by omega, by go_num, all_succ HZ.out HR.out, (by repeat (first | exact Below.refl _ _ | assumption | refine Below.drew ?_ | refine bdrewN ?_ _ | refine Below.setCell ?_ (by first | omega | (simp <;> omega)) _ | refine Below.alloc ?_ (by first | omega | (simp <;> omega)) _))⟩
      case measure => simp [intOf]; omega
    · obtain rfl : nv = k := by omega
      have h3 : Hid (first (vErr V) nv = 0) := first_zero HZ.out
      have q0 : wr.cell? ⟨w.heap.size, 0, none⟩ = some (.slice av nv cv) := (hbel.cell (p := ⟨w.heap.size, 0, none⟩) (by show w.heap.size < _; omega)).trans (by simp [go_sem])
      have q1 : wr.cell? ⟨w.heap.size, 1, none⟩ = some (.slice af nf cf) := (hbel.cell (p := ⟨w.heap.size, 1, none⟩) (by show w.heap.size < _; omega)).trans (by simp [go_sem])
      obtain ⟨wo, rfl⟩ : ∃ wo : World, wo = wr := ⟨_, rfl⟩
      go_wp2
      go_loopw [49] (fun i wr => ∃ k : Nat, k ≤ nf ∧ i = .int .i64 k ∧ (∀ j, j < k → fErr nv V F j = 0) ∧ Below (w.heap.size + 1) wo wr) (fun i _ => nf - (intOf i).toNat)
      case atStart => exact ⟨0, by omega, rfl, fun j hj => by omega, (by repeat (first | exact Below.refl _ _ | assumption | refine Below.drew ?_ | refine bdrewN ?_ _ | refine Below.setCell ?_ (by first | omega | (simp <;> omega)) _ | refine Below.alloc ?_ (by first | omega | (simp <;> omega)) _))⟩
      case round =>
        obtain ⟨k, hk, rfl, hz, hbel2⟩ := hrel
        have HZ2 := Lib.hid hz
        clear hz
        have hsz2 := hbel2.size
        have p0 : wr.cell? ⟨w.heap.size, 0, none⟩ = some (.slice av nv cv) := (hbel2.cell (p := ⟨w.heap.size, 0, none⟩) (by show w.heap.size < _; omega)).trans q0
        have p1 : wr.cell? ⟨w.heap.size, 1, none⟩ = some (.slice af nf cf) := (hbel2.cell (p := ⟨w.heap.size, 1, none⟩) (by show w.heap.size < _; omega)).trans q1
        have BW2 : Below w.heap.size w wr := BW.trans (hbel2.mono (by omega))
        clear q0 q1
        have x0 : w.heap.size < wr.heap.size := by omega
        by_cases hlt : k < nf
        · obtain ⟨bf, of, rfl, hbf, hcf⟩ : ∃ b off, af = some ⟨b, off, none⟩ ∧ b < w.heap.size ∧ Tri w b off nf F := by
            rcases HF.out with h | h
            · omega
            · exact h
          obtain ⟨c0, c1, c2⟩ := (hcf.kept BW2 hbf) k hlt
          have HCF := Lib.hid hcf
          clear hcf
          rcases hz : (fErr nv V F k != 0) with _ | _
          · have HR := Lib.hid hz
            go_wp2_with (go_at_call 50; refine (checkFace_any av nv cv V _ _ _ _ (by omega) ((HV.out.kept BW2).kept (by repeat (first | exact Below.refl _ _ | assumption | refine Below.drew ?_ | refine bdrewN ?_ _ | refine Below.setCell ?_ (by first | omega | (simp <;> omega)) _ | refine Below.alloc ?_ (by first | omega | (simp <;> omega)) _)))).mono ?_; rintro e w2 ⟨rfl, hb2⟩; rw [show faceErr nv V ⟨(F k).x, (F k).y, (F k).z⟩ = fErr nv V F k from rfl])
            go_roundw
            case rel => exact ⟨k + 1, by omega, by go_num, all_succ HZ2.out (by simpa using HR.out), Below.trans (by repeat (first | exact Below.refl _ _ | assumption | refine Below.drew ?_ | refine bdrewN ?_ _ | refine Below.setCell ?_ (by first | omega | (simp <;> omega)) _ | refine Below.alloc ?_ (by first | omega | (simp <;> omega)) _)) (hb2.mono (by simp; omega))⟩
            case measure => simp [intOf]; omega
          · have HR := Lib.hid (HQ.out h3.out k hlt HZ2.out (by simpa using hz))
            go_wp2_with (go_at_call 50; refine (checkFace_any av nv cv V _ _ _ _ (by omega) ((HV.out.kept BW2).kept (by repeat (first | exact Below.refl _ _ | assumption | refine Below.drew ?_ | refine bdrewN ?_ _ | refine Below.setCell ?_ (by first | omega | (simp <;> omega)) _ | refine Below.alloc ?_ (by first | omega | (simp <;> omega)) _)))).mono ?_; rintro e w2 ⟨rfl, hb2⟩; rw [show faceErr nv V ⟨(F k).x, (F k).y, (F k).z⟩ = fErr nv V F k from rfl])
            go_ret
            exact ⟨ret_int HR.out.symm, BW2.trans (Below.trans (b := _) (by repeat (first | exact Below.refl _ _ | assumption | refine Below.drew ?_ | refine bdrewN ?_ _ | refine Below.setCell ?_ (by first | omega | (simp <;> omega)) _ | refine Below.alloc ?_ (by first | omega | (simp <;> omega)) _)) (hb2.mono (by simp; omega)))⟩
        · obtain rfl : nf = k := by omega
          have HT := Lib.hid (HS.out h3.out (first_zero HZ2.out))
          have HM := Lib.hid (sml_of h1 HZ2.out)
          go_wp2
          go_region_with (go_at_call 51; refine (fos_any af nf cf F _ ((HF.out.kept BW2).kept (by repeat (first | exact Below.refl _ _ | assumption | refine Below.drew ?_ | refine bdrewN ?_ _ | refine Below.setCell ?_ (by first | omega | (simp <;> omega)) _ | refine Below.alloc ?_ (by first | omega | (simp <;> omega)) _))) (by omega) HM.out).mono ?_; rintro e w' ⟨b, rfl, hb1, hown, hb'⟩; have hlen := fun ty => hown.len Try.underlying105 ty; have t1 : w'.cell? ⟨w.heap.size, 1, none⟩ = some (.slice af nf cf) := (hb'.cell (p := ⟨w.heap.size, 1, none⟩) (by exact x0)).trans p1)
          all_goals
            go_wp2
            all_goals go_ret
            all_goals
              have h3w : IntKind.i64.wrap (3 * (nf : Int)) = 3 * nf := IntWalk.i64_in _ (by omega)
              first
                | exact ⟨ret_int (HT.out.1 (by omega)).symm, BW2.trans (Below.trans (b := _) (by repeat (first | exact Below.refl _ _ | assumption | refine Below.drew ?_ | refine bdrewN ?_ _ | refine Below.setCell ?_ (by first | omega | (simp <;> omega)) _ | refine Below.alloc ?_ (by first | omega | (simp <;> omega)) _)) (hb'.mono (by show w.heap.size ≤ wr.heap.size; omega)))⟩
                | exact ⟨ret_int (HT.out.2 (by omega)).symm, BW2.trans (Below.trans (b := _) (by repeat (first | exact Below.refl _ _ | assumption | refine Below.drew ?_ | refine bdrewN ?_ _ | refine Below.setCell ?_ (by first | omega | (simp <;> omega)) _ | refine Below.alloc ?_ (by first | omega | (simp <;> omega)) _)) (hb'.mono (by show w.heap.size ≤ wr.heap.size; omega)))⟩
end Go.Proofs.Ytmcebhjcaacbpaa

/- The open sides of a closed mesh: none. -/
import Derived.Test.YtmcebhjcaacbpaaVol
set_option linter.unusedSimpArgs false
set_option linter.unusedVariables false
namespace Go.Proofs.Ytmcebhjcaacbpaa
open Go.RowKit Go.Maps

/-- Each side is there in the other direction. -/
def Closed (nf : Nat) (F : Nat → V3) : Prop := ∀ i, i < 3 * nf → hasSide (3 * nf) (SX F) (SY F) (SY F i) (SX F i) = true
theorem zeroInt (w : World) : (zeroValue 3).run Try.prog w = .ok (.int .i64 0) w := by kernel_rfl

set_option maxRecDepth 100000 in
set_option maxHeartbeats 4000000 in
theorem openSides_closed (bf of nf cf : Nat) (F : Nat → V3) (w : World) (hbf : bf < w.heap.size) (hf : Tri w bf of nf F) (hn : nf ≤ 1000000) (hs : Sml nf F) (hcl : Closed nf F) :
    Calls Try.prog 68 #[.slice (some ⟨bf, of, none⟩) nf cf] w fun e w' => e = .returned (.slice none 0 0) ∧ Below w.heap.size w w' := by
  have HF := Lib.hid hf
  have HS := Lib.hid hs
  have HC := Lib.hid hcl
  clear hf hs hcl
  go_enter Try.func68, Try.ntmps68
  go_wp2_with (go_at_call 51; refine (fos_any (some ⟨bf, of, none⟩) nf cf F _ (.inr ⟨bf, of, rfl, hbf, HF.out⟩) hn HS.out).mono ?_; rintro e w1 ⟨bm, rfl, hbm, hown, hb1⟩)
  have HO := Lib.hid hown
  clear hown
  have hz1 := hb1.size
  go_loopw [4, 15] (fun v i wr => ∃ k : Nat, k ≤ nf ∧ i = .int .i64 k ∧ v = .slice none 0 0 ∧ Below w1.heap.size w1 wr) (fun _ i _ => nf - (intOf i).toNat)
  case atStart => exact ⟨0, by omega, rfl, rfl, (by repeat (first | exact Below.refl _ _ | assumption | refine Below.drew ?_ | refine bdrewN ?_ _ | refine Below.setCell ?_ (by first | omega | (simp <;> omega)) _ | refine Below.alloc ?_ (by first | omega | (simp <;> omega)) _))⟩
  case round =>
    obtain ⟨k, hk, rfl, rfl, hbel⟩ := hrel
    have hsz := hbel.size
    have BW : Below w.heap.size w wr := hb1.trans (hbel.mono (by omega))
    obtain ⟨wo, rfl⟩ : ∃ wo : World, wo = wr := ⟨_, rfl⟩
    by_cases hlt : k < nf
    · obtain ⟨c0, c1, c2⟩ := (HF.out.kept BW hbf) k hlt
      go_wp2_with (go_at_call 77; refine (msides_any _ _ _ _).mono ?_; rintro e w2 ⟨bs, rfl, hbs1, hbs2, hprs, hb2⟩)
      have s2 := hb2.size
      simp at s2 hbs1
      have BW2 : Below wo.heap.size wo w2 := Below.trans (by repeat (first | exact Below.refl _ _ | assumption | refine Below.drew ?_ | refine bdrewN ?_ _ | refine Below.setCell ?_ (by first | omega | (simp <;> omega)) _ | refine Below.alloc ?_ (by first | omega | (simp <;> omega)) _)) (hb2.mono (by simp))
      go_loopw [4, 22] (fun v i wr => ∃ t : Nat, t ≤ 3 ∧ i = .int .i64 t ∧ v = .slice none 0 0 ∧ Below w1.heap.size w1 wr ∧ Prs wr bs 0 3 (sdx (F k)) (sdy (F k)) ∧ bs < wr.heap.size) (fun _ i _ => 3 - (intOf i).toNat)
      case atStart => exact ⟨0, by omega, rfl, rfl, hbel.trans (BW2.mono (by omega)), hprs, hbs2⟩
      case round =>
        obtain ⟨t, ht, rfl, rfl, hbel2, hprs2, hbs3⟩ := hrel
        have hsz2 := hbel2.size
        by_cases ht3 : t < 3
        · obtain ⟨cx, cy⟩ := hprs2 t ht3
          simp only [Nat.zero_add] at cx cy
          have HPR := Lib.hid hprs2
          have hwx := (sml_wf HS.out (3 * k + t) (by omega)).1
          have hwy := (sml_wf HS.out (3 * k + t) (by omega)).2
          rw [SX_at F k t ht3] at hwx
          rw [SY_at F k t ht3] at hwy
          have hcl := HC.out (3 * k + t) (by omega)
          rw [SX_at F k t ht3, SY_at F k t ht3] at hcl
          have HK := Lib.hid (key_side (sdy (F k) t) (sdx (F k) t) hwy hwx)
          have hhas : Maps.has (SD (SX F) (SY F) (3 * nf)) (SK (sdy (F k) t) (sdx (F k) t)) = true := by
            rw [sd_has (sml_wf HS.out) hwy hwx]; exact hcl
          clear hprs2 hwx hwy hcl
          go_wp2_with (first
            | (go_at_call 82; refine (reversed_any _ _ _).mono ?_; rintro e w3 ⟨rfl, hb3⟩; have BW3 : Below w1.heap.size w1 w3 := hbel2.trans (Below.trans (b := _) (by repeat (first | exact Below.refl _ _ | assumption | refine Below.drew ?_ | refine bdrewN ?_ _ | refine Below.setCell ?_ (by first | omega | (simp <;> omega)) _ | refine Below.alloc ?_ (by first | omega | (simp <;> omega)) _)) (hb3.mono (by simp; omega))); have z3 : wr.heap.size + 1 ≤ w3.heap.size := (by have := hb3.size; simp at this; omega); have B3 : Below wr.heap.size wr w3 := Below.trans (by repeat (first | exact Below.refl _ _ | assumption | refine Below.drew ?_ | refine bdrewN ?_ _ | refine Below.setCell ?_ (by first | omega | (simp <;> omega)) _ | refine Below.alloc ?_ (by first | omega | (simp <;> omega)) _)) (hb3.mono (by simp)))
            | (at_lookup; refine wpList_lookup_own_ok_int _ rfl _ _ 105 rfl 102 3 .i64 sideKeyed Try.underlying105 Try.underlying3 (zeroInt _) bm (3 * nf) _ rfl (ownsMap_below HO.out BW3) _ _ rfl HK.out ?_; intro c hat hwc))
          go_roundw
          case rel => exact ⟨t + 1, by omega, by go_num, rfl, BW3, HPR.out.kept B3 hbs3, by omega⟩
          case measure => simp [intOf]; omega
        · obtain rfl : t = 3 := by omega
          go_wp2
          go_roundw
          case rel => exact ⟨k + 1, by omega, by go_num, rfl, hbel2⟩
          case measure => simp [intOf]; omega
    · obtain rfl : nf = k := by omega
      go_wp2
      go_ret
      exact ⟨rfl, BW⟩

/-- The sum of the wedges of the first n faces. -/
def volS (V F : Nat → V3) : Nat → Int
  | 0 => 0
  | n + 1 => wrap64 (volS V F n + wedgeZ V (F n))

theorem checkClosed_closed (av : Option Addr) (bf of nv cv nf cf : Nat) (V F : Nat → V3) (w : World) (hv : Row3 w av nv V) (hbf : bf < w.heap.size) (hf : Tri w bf of nf F) (hnv : nv ≤ 1000) (hnf : nf ≤ 1000)
    (h0 : fault nv V nf F = 0) (hs : Sml nf F) (hcl : Closed nf F) :
    Calls Try.prog 34 #[.agg #[.slice av nv cv, .slice (some ⟨bf, of, none⟩) nf cf]] w fun e w' => e = .returned (.int .i64 0) ∧ Below w.heap.size w w' := by
  have HF := Lib.hid hf
  have HV := Lib.hid hv
  have HC := Lib.hid hcl
  have HS := Lib.hid hs
  have H0 := Lib.hid h0
  clear hf hv hcl hs h0
  go_enter Try.func34, Try.ntmps34
  go_wp2_with (first
    | (go_at_call 17; refine (checkMesh_any av (some ⟨bf, of, none⟩) nv cv nf cf V F _ (HV.out.kept (by repeat (first | exact Below.refl _ _ | assumption | refine Below.drew ?_ | refine bdrewN ?_ _ | refine Below.setCell ?_ (by first | omega | (simp <;> omega)) _ | refine Below.alloc ?_ (by first | omega | (simp <;> omega)) _))) (Row3.kept (.inr ⟨bf, of, rfl, hbf, HF.out⟩) (by repeat (first | exact Below.refl _ _ | assumption | refine Below.drew ?_ | refine bdrewN ?_ _ | refine Below.setCell ?_ (by first | omega | (simp <;> omega)) _ | refine Below.alloc ?_ (by first | omega | (simp <;> omega)) _))) (by omega) (by omega)).mono ?_; rintro e w1 ⟨rfl, hb1⟩; rw [H0.out]; have BW1 : Below w.heap.size w w1 := Below.trans (b := _) (by repeat (first | exact Below.refl _ _ | assumption | refine Below.drew ?_ | refine bdrewN ?_ _ | refine Below.setCell ?_ (by first | omega | (simp <;> omega)) _ | refine Below.alloc ?_ (by first | omega | (simp <;> omega)) _)) (hb1.mono (by simp)); have q1 : w1.cell? ⟨w.heap.size, 1, none⟩ = some (.slice (some ⟨bf, of, none⟩) nf cf) := (hb1.cell (p := ⟨w.heap.size, 1, none⟩) (by simp)).trans (by simp [go_sem]))
    | (go_at_call 68; refine (openSides_closed bf of nf cf F _ (by have := BW1.size; omega) (HF.out.kept BW1 hbf) (by omega) HS.out HC.out).mono ?_; rintro e w2 ⟨rfl, hb2⟩))
  go_ret
  exact ⟨rfl, BW1.trans (hb2.mono BW1.size)⟩

set_option maxRecDepth 100000 in
set_option maxHeartbeats 2000000 in
theorem volume_closed (av : Option Addr) (bf of nv cv nf cf : Nat) (V F : Nat → V3) (w : World) (hv : Row3 w av nv V) (hbf : bf < w.heap.size) (hf : Tri w bf of nf F) (hnv : nv ≤ 1000) (hnf : nf ≤ 1000)
    (h0 : fault nv V nf F = 0) (hs : Sml nf F) (hcl : Closed nf F) (hx : ∀ i, i < nf → fIx nv (F i) = true) :
    Calls Try.prog 13 #[.agg #[.slice av nv cv, .slice (some ⟨bf, of, none⟩) nf cf]] w fun e w' => e = .returned (.tuple #[.int .i64 (volS V F nf), .int .i64 0]) ∧ Below w.heap.size w w' := by
  have HF := Lib.hid hf
  have HV := Lib.hid hv
  have HC := Lib.hid hcl
  have HS := Lib.hid hs
  have H0 := Lib.hid h0
  have HX := Lib.hid hx
  clear hf hv hcl hs h0 hx
  go_enter Try.func13, Try.ntmps13
  go_wp2_with (go_at_call 34; refine (checkClosed_closed av bf of nv cv nf cf V F _ (HV.out.kept (by repeat (first | exact Below.refl _ _ | assumption | refine Below.drew ?_ | refine bdrewN ?_ _ | refine Below.setCell ?_ (by first | omega | (simp <;> omega)) _ | refine Below.alloc ?_ (by first | omega | (simp <;> omega)) _))) (by simp; omega) (HF.out.kept (by repeat (first | exact Below.refl _ _ | assumption | refine Below.drew ?_ | refine bdrewN ?_ _ | refine Below.setCell ?_ (by first | omega | (simp <;> omega)) _ | refine Below.alloc ?_ (by first | omega | (simp <;> omega)) _)) hbf) hnv hnf H0.out HS.out HC.out).mono ?_; rintro e w1 ⟨rfl, hb1⟩; have BW1 : Below w.heap.size w w1 := Below.trans (b := _) (by repeat (first | exact Below.refl _ _ | assumption | refine Below.drew ?_ | refine bdrewN ?_ _ | refine Below.setCell ?_ (by first | omega | (simp <;> omega)) _ | refine Below.alloc ?_ (by first | omega | (simp <;> omega)) _)) (hb1.mono (by simp)); have q0 : w1.cell? ⟨w.heap.size, 0, none⟩ = some (.slice av nv cv) := (hb1.cell (p := ⟨w.heap.size, 0, none⟩) (by simp)).trans (by simp [go_sem]); have q1 : w1.cell? ⟨w.heap.size, 1, none⟩ = some (.slice (some ⟨bf, of, none⟩) nf cf) := (hb1.cell (p := ⟨w.heap.size, 1, none⟩) (by simp)).trans (by simp [go_sem]); have z1 : w.heap.size < w1.heap.size := (by have := hb1.size; simp at this; omega))
  go_loopw [5, 16] (fun s i wr => ∃ k : Nat, k ≤ nf ∧ i = .int .i64 k ∧ s = .int .i64 (volS V F k) ∧ Below (w.heap.size + 1) w1 wr) (fun _ i _ => nf - (intOf i).toNat)
  case atStart => exact ⟨0, by omega, rfl, rfl, (by repeat (first | exact Below.refl _ _ | assumption | refine Below.drew ?_ | refine bdrewN ?_ _ | refine Below.setCell ?_ (by first | omega | (simp <;> omega)) _ | refine Below.alloc ?_ (by first | omega | (simp <;> omega)) _))⟩
  case round =>
    obtain ⟨k, hk, rfl, rfl, hbel⟩ := hrel
    have hsz := hbel.size
    have p0 : wr.cell? ⟨w.heap.size, 0, none⟩ = some (.slice av nv cv) := (hbel.cell (p := ⟨w.heap.size, 0, none⟩) (by show w.heap.size < _; omega)).trans q0
    have BW : Below w.heap.size w wr := BW1.trans (hbel.mono (by omega))
    clear q0 q1
    have x0 : w.heap.size < wr.heap.size := by omega
    by_cases hlt : k < nf
    · obtain ⟨c0, c1, c2⟩ := (HF.out.kept BW hbf) k hlt
      go_wp2_with (go_at_call 35; refine (wedge_int av nv cv V (F k) _ ((HV.out.kept BW).kept (by repeat (first | exact Below.refl _ _ | assumption | refine Below.drew ?_ | refine bdrewN ?_ _ | refine Below.setCell ?_ (by first | omega | (simp <;> omega)) _ | refine Below.alloc ?_ (by first | omega | (simp <;> omega)) _))) (HX.out k hlt)).mono ?_; rintro e w2 ⟨rfl, hb2⟩)
      go_roundw
      case rel => exact ⟨k + 1, by omega, by go_num, rfl, Below.trans (b := _) (by repeat (first | exact Below.refl _ _ | assumption | refine Below.drew ?_ | refine bdrewN ?_ _ | refine Below.setCell ?_ (by first | omega | (simp <;> omega)) _ | refine Below.alloc ?_ (by first | omega | (simp <;> omega)) _)) (hb2.mono (by simp; omega))⟩
      case measure => simp [intOf]; omega
    · obtain rfl : nf = k := by omega
      go_wp2
      go_ret2
      exact ⟨rfl, BW⟩
end Go.Proofs.Ytmcebhjcaacbpaa

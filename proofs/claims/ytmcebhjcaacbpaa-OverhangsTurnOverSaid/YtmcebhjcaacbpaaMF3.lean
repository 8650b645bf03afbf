/- The reference's MeshFault behind its first tests: the walk. -/
import Derived.Test.YtmcebhjcaacbpaaMF2
set_option linter.unusedSimpArgs false
set_option linter.unusedVariables false
namespace Go.Proofs.Ytmcebhjcaacbpaa
open Go.RowKit

theorem fErr_ix {nv : Nat} {V F : Nat → V3} {i : Nat} (h : fIx nv (F i) = false) : fErr nv V F i = 8 := by simp [fErr, h]
theorem fErr_zero {nv : Nat} {V F : Nat → V3} {i : Nat} (h : fIx nv (F i) = true) (h' : fZero V (F i) = true) : fErr nv V F i = 3 := by simp [fErr, h, h']
theorem fErr_ok {nv : Nat} {V F : Nat → V3} {i : Nat} (h : fIx nv (F i) = true) (h' : fZero V (F i) = false) : fErr nv V F i = 0 := by simp [fErr, h, h']
theorem fault_face {nv : Nat} {V : Nat → V3} {nf : Nat} {F : Nat → V3} (h0 : nf ≠ 0) (h1 : nv ≤ 1000) (h2 : nf ≤ 1000) (h3 : first (vErr V) nv = 0) {k : Nat} (hk : k < nf) (hz : ∀ j, j < k → fErr nv V F j = 0) {x : Int} (hx : fErr nv V F k = x) (hn : x ≠ 0) :
    fault nv V nf F = x := by
  have h4 : first (fErr nv V F) nf = x := by rw [first_hit hk hz (by rw [hx]; exact hn), hx]
  simp only [fault]
  rw [if_neg h0, if_neg (by omega), if_neg (by simp [h3]), if_pos (by rw [h4]; exact hn), h4]
theorem fault_sides {nv : Nat} {V : Nat → V3} {nf : Nat} {F : Nat → V3} (h0 : nf ≠ 0) (h1 : nv ≤ 1000) (h2 : nf ≤ 1000) (h3 : first (vErr V) nv = 0) (h4 : first (fErr nv V F) nf = 0) :
    fault nv V nf F = if twice nf F = true then 6 else 0 := by
  simp only [fault]
  rw [if_neg h0, if_neg (by omega), if_neg (by simp [h3]), if_neg (by simp [h4])]

set_option maxRecDepth 100000 in
set_option maxHeartbeats 4000000 in
theorem meshFault_main (av af : Option Addr) (nv cv nf cf : Nat) (V F : Nat → V3) (w : World) (hv : Row3 w av nv V) (hf : Row3 w af nf F)
    (h0 : nf ≠ 0) (h1 : nv ≤ 1000) (h2 : nf ≤ 1000) (h3 : first (vErr V) nv = 0) :
    Calls Try.prog 15 #[.agg #[.slice av nv cv, .slice af nf cf]] w fun e w' => e = .returned (.int .i64 (fault nv V nf F)) ∧ Below w.heap.size w w' := by
  obtain ⟨i0, hi0, hz0, hz1, hz2⟩ := info_parts info_side
  have e0 : ((nf : Int) == 0) = false := by simp; omega
  have d1 : decide (1000 < nv) = false := by simp; omega
  have d2 : decide (1000 < nf) = false := by simp; omega
  have e3 : (first (vErr V) nv != 0) = false := by simp [h3]
  have HP := Lib.hid (fun (k : Nat) (hk : k < nf) (hz : ∀ j, j < k → fErr nv V F j = 0) (x : Int) (hx : fErr nv V F k = x) (hn : x ≠ 0) => fault_face h0 h1 h2 h3 hk hz hx hn)
  have HQ := Lib.hid (fun (h4 : first (fErr nv V F) nf = 0) => fault_sides h0 h1 h2 h3 h4)
  rcases hf with h | ⟨bf, of, rfl, hbf, hf⟩
  · contradiction
  have HF := Lib.hid hf
  have HV := Lib.hid hv
  clear hf hv h3
  go_enter Try.func15, Try.ntmps15
  go_wp2_with (go_at_call 44; refine (vecFault_any av nv cv V _ (by omega) (HV.out.kept (by repeat (first | exact Below.refl _ _ | assumption | refine Below.drew ?_ | refine bdrewN ?_ _ | refine Below.setCell ?_ (by first | omega | (simp <;> omega)) _ | refine Below.alloc ?_ (by first | omega | (simp <;> omega)) _)))).mono ?_; rintro e w1 ⟨rfl, hb1⟩; have q0 : w1.cell? ⟨w.heap.size, 0, none⟩ = some (.slice av nv cv) := (hb1.cell (p := ⟨w.heap.size, 0, none⟩) (by simp)).trans (by simp [go_sem]); have q1 : w1.cell? ⟨w.heap.size, 1, none⟩ = some (.slice (some ⟨bf, of, none⟩) nf cf) := (hb1.cell (p := ⟨w.heap.size, 1, none⟩) (by simp)).trans (by simp [go_sem]); have B1 : Below w.heap.size w w1 := Below.trans (by repeat (first | exact Below.refl _ _ | assumption | refine Below.drew ?_ | refine bdrewN ?_ _ | refine Below.setCell ?_ (by first | omega | (simp <;> omega)) _ | refine Below.alloc ?_ (by first | omega | (simp <;> omega)) _)) (hb1.mono (by simp)); have z1 : w.heap.size + 1 ≤ w1.heap.size := by have := hb1.size; simp at this; omega)
  go_loopw [38] (fun i wr => ∃ k : Nat, k ≤ nf ∧ i = .int .i64 k ∧ (∀ j, j < k → fErr nv V F j = 0) ∧ Below (w.heap.size + 1) w1 wr) (fun i _ => nf - (intOf i).toNat)
  case atStart => exact ⟨0, by omega, rfl, fun j hj => by omega, (by repeat (first | exact Below.refl _ _ | assumption | refine Below.drew ?_ | refine bdrewN ?_ _ | refine Below.setCell ?_ (by first | omega | (simp <;> omega)) _ | refine Below.alloc ?_ (by first | omega | (simp <;> omega)) _))⟩
  case round =>
    obtain ⟨k, hk, rfl, hz, hbel⟩ := hrel
    have HZ := Lib.hid hz
    clear hz
    have hsz := hbel.size
    have p0 : wr.cell? ⟨w.heap.size, 0, none⟩ = some (.slice av nv cv) := (hbel.cell (p := ⟨w.heap.size, 0, none⟩) (by show w.heap.size < _; omega)).trans q0
    have p1 : wr.cell? ⟨w.heap.size, 1, none⟩ = some (.slice (some ⟨bf, of, none⟩) nf cf) := (hbel.cell (p := ⟨w.heap.size, 1, none⟩) (by show w.heap.size < _; omega)).trans q1
    have BW : Below w.heap.size w wr := B1.trans (hbel.mono (by omega))
    have x0 : w.heap.size < wr.heap.size := by omega
    have x1 : w.heap.size < wr.heap.size + 1 := by omega
    have x2 : w.heap.size < wr.heap.size + 1 + 1 := by omega
    clear q0 q1
    by_cases hlt : k < nf
    · obtain ⟨c0, c1, c2⟩ := (HF.out.kept BW hbf) k hlt
      rcases hx : inB (F k).x 0 ((nv : Int) - 1) with _ | _
      · have HR := Lib.hid (HP.out k hlt HZ.out 8 (fErr_ix (by simp [fIx, hx])) (by decide))
        go_wp2
        refine wp_loop_rounds 4 ?_
        rw [rounds_succ]; go_wp2_with (go_at_call 45; refine (in_any _ _ _ _).mono ?_; rintro e w' ⟨rfl, rfl⟩)
        go_ret
        exact ⟨ret_int HR.out.symm, (by repeat (first | exact Below.refl _ _ | assumption | refine Below.drew ?_ | refine bdrewN ?_ _ | refine Below.setCell ?_ (by first | omega | (simp <;> omega)) _ | refine Below.alloc ?_ (by first | omega | (simp <;> omega)) _))⟩
      rcases hy : inB (F k).y 0 ((nv : Int) - 1) with _ | _
      · have HR := Lib.hid (HP.out k hlt HZ.out 8 (fErr_ix (by simp [fIx, hy])) (by decide))
        go_wp2
        refine wp_loop_rounds 4 ?_
        rw [rounds_succ]; go_wp2_with (go_at_call 45; refine (in_any _ _ _ _).mono ?_; rintro e w' ⟨rfl, rfl⟩)
        rw [rounds_succ]; go_wp2_with (go_at_call 45; refine (in_any _ _ _ _).mono ?_; rintro e w' ⟨rfl, rfl⟩)
        go_ret
        exact ⟨ret_int HR.out.symm, (by repeat (first | exact Below.refl _ _ | assumption | refine Below.drew ?_ | refine bdrewN ?_ _ | refine Below.setCell ?_ (by first | omega | (simp <;> omega)) _ | refine Below.alloc ?_ (by first | omega | (simp <;> omega)) _))⟩
      rcases hw : inB (F k).z 0 ((nv : Int) - 1) with _ | _
      · have HR := Lib.hid (HP.out k hlt HZ.out 8 (fErr_ix (by simp [fIx, hw])) (by decide))
        go_wp2
        refine wp_loop_rounds 4 ?_
        rw [rounds_succ]; go_wp2_with (go_at_call 45; refine (in_any _ _ _ _).mono ?_; rintro e w' ⟨rfl, rfl⟩)
        rw [rounds_succ]; go_wp2_with (go_at_call 45; refine (in_any _ _ _ _).mono ?_; rintro e w' ⟨rfl, rfl⟩)
        rw [rounds_succ]; go_wp2_with (go_at_call 45; refine (in_any _ _ _ _).mono ?_; rintro e w' ⟨rfl, rfl⟩)
        go_ret
        exact ⟨ret_int HR.out.symm, (by repeat (first | exact Below.refl _ _ | assumption | refine Below.drew ?_ | refine bdrewN ?_ _ | refine Below.setCell ?_ (by first | omega | (simp <;> omega)) _ | refine Below.alloc ?_ (by first | omega | (simp <;> omega)) _))⟩
      have hix : fIx nv (F k) = true := by simp [fIx, hx, hy, hw]
      have hE := fun wx => eql_vec (fNrm V (F k)).x (fNrm V (F k)).y (fNrm V (F k)).z 0 0 0 wx
      have hG := gd_vec
      rcases hT : tEq (fNrm V (F k)).x (fNrm V (F k)).y (fNrm V (F k)).z 0 0 0 with _ | _
      · have HR := Lib.hid (fErr_ok (V := V) hix hT)
        go_wp2
        refine wp_loop_rounds 4 ?_
        rw [rounds_succ]; go_wp2_with (go_at_call 45; refine (in_any _ _ _ _).mono ?_; rintro e w' ⟨rfl, rfl⟩)
        rw [rounds_succ]; go_wp2_with (go_at_call 45; refine (in_any _ _ _ _).mono ?_; rintro e w' ⟨rfl, rfl⟩)
        rw [rounds_succ]; go_wp2_with (go_at_call 45; refine (in_any _ _ _ _).mono ?_; rintro e w' ⟨rfl, rfl⟩)
        rw [rounds_succ]; go_wp2_with (first | (go_at_call 45; refine (in_any _ _ _ _).mono ?_; rintro e w' ⟨rfl, rfl⟩) | (go_at_call 46; refine (rnormal_int av (some ⟨bf, of, none⟩) nv cv V nf cf (F k) _ ((HV.out.kept BW).kept (by repeat (first | exact Below.refl _ _ | assumption | refine Below.drew ?_ | refine bdrewN ?_ _ | refine Below.setCell ?_ (by first | omega | (simp <;> omega)) _ | refine Below.alloc ?_ (by first | omega | (simp <;> omega)) _))) hix).mono ?_; rintro e w2 ⟨rfl, hb2⟩))
        have hs2 := hb2.size
        simp at hs2
        go_roundw
        case rel => exact ⟨k + 1, by omega, by go_num, all_succ HZ.out HR.out, Below.trans (b := _) (by repeat (first | exact Below.refl _ _ | assumption | refine Below.drew ?_ | refine bdrewN ?_ _ | refine Below.setCell ?_ (by first | omega | (simp <;> omega)) _ | refine Below.alloc ?_ (by first | omega | (simp <;> omega)) _)) (hb2.mono (by simp; omega))⟩
        case measure => simp [intOf]; omega
      · have HR := Lib.hid (HP.out k hlt HZ.out 3 (fErr_zero hix hT) (by decide))
        go_wp2
        refine wp_loop_rounds 4 ?_
        rw [rounds_succ]; go_wp2_with (go_at_call 45; refine (in_any _ _ _ _).mono ?_; rintro e w' ⟨rfl, rfl⟩)
        rw [rounds_succ]; go_wp2_with (go_at_call 45; refine (in_any _ _ _ _).mono ?_; rintro e w' ⟨rfl, rfl⟩)
        rw [rounds_succ]; go_wp2_with (go_at_call 45; refine (in_any _ _ _ _).mono ?_; rintro e w' ⟨rfl, rfl⟩)
        rw [rounds_succ]; go_wp2_with (first | (go_at_call 45; refine (in_any _ _ _ _).mono ?_; rintro e w' ⟨rfl, rfl⟩) | (go_at_call 46; refine (rnormal_int av (some ⟨bf, of, none⟩) nv cv V nf cf (F k) _ ((HV.out.kept BW).kept (by repeat (first | exact Below.refl _ _ | assumption | refine Below.drew ?_ | refine bdrewN ?_ _ | refine Below.setCell ?_ (by first | omega | (simp <;> omega)) _ | refine Below.alloc ?_ (by first | omega | (simp <;> omega)) _))) hix).mono ?_; rintro e w2 ⟨rfl, hb2⟩))
        go_ret
        exact ⟨ret_int HR.out.symm, Below.trans (b := _) (by repeat (first | exact Below.refl _ _ | assumption | refine Below.drew ?_ | refine bdrewN ?_ _ | refine Below.setCell ?_ (by first | omega | (simp <;> omega)) _ | refine Below.alloc ?_ (by first | omega | (simp <;> omega)) _)) (hb2.mono (by simp; omega))⟩
    · obtain rfl : nf = k := by omega
      have HR := Lib.hid (HQ.out (first_zero HZ.out))
      obtain ⟨wo, rfl⟩ : ∃ wo : World, wo = wr := ⟨_, rfl⟩
      clear x0 x1 x2 HZ HP HQ
      go_wp2
      go_loopw [8, 71] (fun v i wr => ∃ k : Nat, k ≤ nf ∧ i = .int .i64 k ∧ wr.ownsRow (w.heap.size + 1) 102 2 v (3 * k) (flat F (3 * k)) ∧ Dis F (3 * k) ∧ Below (w.heap.size + 1) w1 wr) (fun _ i _ => nf - (intOf i).toNat)
      case atStart => exact ⟨0, by omega, rfl, World.ownsRow_nil _ _ _ _, fun j hj => by omega, (by repeat (first | exact Below.refl _ _ | assumption | refine Below.drew ?_ | refine bdrewN ?_ _ | refine Below.setCell ?_ (by first | omega | (simp <;> omega)) _ | refine Below.alloc ?_ (by first | omega | (simp <;> omega)) _))⟩
      case round =>
        obtain ⟨k, hk, rfl, hown, hdis, hbel⟩ := hrel
        have HD := Lib.hid hdis
        have HO := Lib.hid hown
        clear hdis hown
        have hsz := hbel.size
        have BW : Below w.heap.size w wr := B1.trans (hbel.mono (by omega))
        have x0 : w.heap.size < wr.heap.size := by omega
        by_cases hlt : k < nf
        · obtain ⟨c0, c1, c2⟩ := (HF.out.kept BW hbf) k hlt
          obtain ⟨wo2, rfl⟩ : ∃ wo2 : World, wo2 = wr := ⟨_, rfl⟩
          go_wp2_with (go_at_call 47; refine (rsides_any _ _ _ _).mono ?_; rintro e w2 ⟨bs, rfl, hbs1, hbs2, hprs, hb2⟩)
          have s2 := hb2.size
          simp at s2
          have BW2 : Below wo2.heap.size wo2 w2 := Below.trans (by repeat (first | exact Below.refl _ _ | assumption | refine Below.drew ?_ | refine bdrewN ?_ _ | refine Below.setCell ?_ (by first | omega | (simp <;> omega)) _ | refine Below.alloc ?_ (by first | omega | (simp <;> omega)) _)) (hb2.mono (by simp))
          go_loopw [8, 78] (fun v i wr => ∃ t : Nat, t ≤ 3 ∧ i = .int .i64 t ∧ (∃ ao cap, v = .slice ao (3 * k + t) cap) ∧ wr.ownsRow (w.heap.size + 1) 102 2 v (3 * k + t) (flat F (3 * k + t)) ∧ Dis F (3 * k + t) ∧ Below (w.heap.size + 1) w1 wr ∧ Prs wr bs 0 3 (sdx (F k)) (sdy (F k)) ∧ bs < wr.heap.size ∧ v.ownBlock ≠ some bs) (fun _ i _ => 3 - (intOf i).toNat)
          case atStart => exact ⟨0, by omega, rfl, own_slice HO.out, ownsRow_below HO.out BW2, HD.out, hbel.trans (BW2.mono (by omega)), hprs, hbs2, fun h => by have := (HO.out.lt _ h).2; simp at hbs1; omega⟩
          case round =>
            obtain ⟨t, ht, rfl, ⟨ao, cap, rfl⟩, hown, hdis, hbel2, hprs2, hbs3, hne⟩ := hrel
            have HD2 := Lib.hid hdis
            have HO2 := Lib.hid hown
            have HN2 := Lib.hid hne
            clear hdis hown hne
            have hsz2 := hbel2.size
            by_cases ht3 : t < 3
            · obtain ⟨cx, cy⟩ := hprs2 t ht3
              simp only [Nat.zero_add] at cx cy
              have HPR := Lib.hid hprs2
              clear hprs2
              rcases hh : hasSide (3 * k + t) (SX F) (SY F) (sdx (F k) t) (sdy (F k) t) with _ | _
              · have HD3 := Lib.hid (dis_at ht3 HD2.out hh)
                go_wp2_with (first
                  | (go_at_call 48; refine (containsSide_any ao (3 * k + t) cap (SX F) (SY F) (sdx (F k) t) (sdy (F k) t) _ (by omega) (own_prs (HO2.out.alloc _))).mono ?_; rintro e w3 ⟨rfl, hb3⟩; have BW3 : Below wr.heap.size wr w3 := Below.trans (b := _) (by repeat (first | exact Below.refl _ _ | assumption | refine Below.drew ?_ | refine bdrewN ?_ _ | refine Below.setCell ?_ (by first | omega | (simp <;> omega)) _ | refine Below.alloc ?_ (by first | omega | (simp <;> omega)) _)) (hb3.mono (by simp)); have y0 : w3.cell? ⟨wr.heap.size, 0, none⟩ = some (.int .i64 (sdx (F k) t)) := (hb3.cell (p := ⟨wr.heap.size, 0, none⟩) (by simp)).trans (by simp [go_sem]); have y1 : w3.cell? ⟨wr.heap.size, 1, none⟩ = some (.int .i64 (sdy (F k) t)) := (hb3.cell (p := ⟨wr.heap.size, 1, none⟩) (by simp)).trans (by simp [go_sem]))
                  | (at_builtin; refine wpList_append_lies _ rfl _ _ 99 rfl (w.heap.size + 1) 102 i0 (.agg #[.int .i64 0, .int .i64 0]) 2 16 Try.underlying99 hi0 hz0 hz1 hz2 rfl (by decide) _ _ _ rfl ((ownsRow_below HO2.out BW3).alloc _) ⟨w3.heap.size, 0, none⟩ 1 1 [.int .i64 (sdx (F k) t), .int .i64 (sdy (F k) t)] rfl rfl (World.news_of_block (cs := #[.int .i64 (sdx (F k) t), .int .i64 (sdy (F k) t)]) (t := 102) (fr := (0, 0)) (heap_alloc_new w3 _)) (by simp [Value.oneCell']) (by omega) (by unfold maxLen; omega) (by omega) (by have := BW3.size; simp; omega) (w3.heap.size + 1) (by simp) ?_; intro g cap' w4 hown4 hgrow hat hlt4))
                obtain ⟨R1, R2, R3, R4⟩ := side_step (by omega) hbel2 BW3 (ownsRow_below HO2.out BW3) hgrow hat HPR.out hbs3 HN2.out
                clear hgrow hat
                go_roundw
                case rel => exact ⟨t + 1, by omega, by go_num, ⟨_, _, rfl⟩, by rw [flat_at F k t ht3]; exact hown4, HD3.out, R1, R2, R3, by simp [Value.ownBlock]; exact R4⟩
                case measure => simp [intOf]; omega
              · have HT := Lib.hid (twice_yes (nf := nf) (F := F) (i := 3 * k + t) (by omega) (by rw [SX_at F k t ht3, SY_at F k t ht3]; exact hh))
                go_wp2_with (first
                  | (go_at_call 48; refine (containsSide_any ao (3 * k + t) cap (SX F) (SY F) (sdx (F k) t) (sdy (F k) t) _ (by omega) (own_prs (HO2.out.alloc _))).mono ?_; rintro e w3 ⟨rfl, hb3⟩; have BW3 : Below wr.heap.size wr w3 := Below.trans (b := _) (by repeat (first | exact Below.refl _ _ | assumption | refine Below.drew ?_ | refine bdrewN ?_ _ | refine Below.setCell ?_ (by first | omega | (simp <;> omega)) _ | refine Below.alloc ?_ (by first | omega | (simp <;> omega)) _)) (hb3.mono (by simp))))
                go_ret
                exact ⟨ret_int (by rw [HR.out, HT.out]; rfl), (B1.trans (hbel2.mono (by omega))).trans (BW3.mono (by omega))⟩
            · obtain rfl : t = 3 := by omega
              go_wp2
              go_roundw
              case rel => exact ⟨k + 1, by omega, by go_num, HO2.out, HD2.out, hbel2⟩
              case measure => simp [intOf]; omega
        · obtain rfl : nf = k := by omega
          have HT := Lib.hid (twice_no HD.out)
          clear HO
          go_wp2
          go_ret
          exact ⟨ret_int (by rw [HR.out, HT.out]; rfl), (by repeat (first | exact Below.refl _ _ | assumption | refine Below.drew ?_ | refine bdrewN ?_ _ | refine Below.setCell ?_ (by first | omega | (simp <;> omega)) _ | refine Below.alloc ?_ (by first | omega | (simp <;> omega)) _))⟩
end Go.Proofs.Ytmcebhjcaacbpaa

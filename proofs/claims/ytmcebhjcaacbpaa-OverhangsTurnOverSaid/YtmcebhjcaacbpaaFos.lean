/- The map from each side in its direction to a face that has it. -/
import Derived.Test.YtmcebhjcaacbpaaKey
import Derived.Test.YtmcebhjcaacbpaaMF2
set_option linter.unusedSimpArgs false
set_option linter.unusedVariables false
namespace Go.Proofs.Ytmcebhjcaacbpaa
open Go.RowKit Go.Maps

/-- The faces' numbers are small. -/
def Sml (nf : Nat) (F : Nat → V3) : Prop := ∀ i, i < nf → (0 ≤ (F i).x ∧ (F i).x ≤ 1000000) ∧ (0 ≤ (F i).y ∧ (F i).y ≤ 1000000) ∧ (0 ≤ (F i).z ∧ (F i).z ≤ 1000000)
theorem sml_wf {nf : Nat} {F : Nat → V3} (h : Sml nf F) : ∀ i, i < 3 * nf → Wf (SX F i) ∧ Wf (SY F i) := by
  intro i hi
  obtain ⟨h1, h2, h3⟩ := h (i / 3) (by omega)
  unfold SX SY sdx sdy
  have : i % 3 < 3 := Nat.mod_lt _ (by omega)
  refine ⟨wf_of ?_, wf_of ?_⟩
  · split
    · omega
    · split <;> omega
  · split
    · omega
    · split <;> omega

/-- The call made a map of all sides. -/
def FosPost (w : World) (nf : Nat) (F : Nat → V3) (e : Ending) (w' : World) : Prop :=
  ∃ b, e = .returned (.map (some b)) ∧ w.heap.size ≤ b ∧ w'.ownsMap Try.prog 102 (plainElem Try.prog 3) b (3 * nf) (SD (SX F) (SY F) (3 * nf)) ∧ Below w.heap.size w w'

theorem ownsMap_below {w w' : World} {b n : Nat} {D : DataW Unit} {P : Program} {k e : TypeId} (h : w.ownsMap P k (plainElem P e) b n D) (hb : Below w.heap.size w w') : w'.ownsMap P k (plainElem P e) b n D :=
  h.kept (row := none) ⟨hb.os, hb.tape, hb.output, hb.size, fun k hk _ => hb.block k hk⟩ (by simp)

theorem sd_at (F : Nat → V3) (k t : Nat) (ht : t < 3) : SD (SX F) (SY F) (3 * k + (t + 1)) = (SD (SX F) (SY F) (3 * k + t)).put (SK (sdx (F k) t) (sdy (F k) t)) (.lit (.int .i64 (k : Int))) := by
  show (SD (SX F) (SY F) (3 * k + t)).put (SK (SX F (3 * k + t)) (SY F (3 * k + t))) (.lit (.int .i64 (((3 * k + t) / 3 : Nat) : Int))) = _
  rw [SX_at F k t ht, SY_at F k t ht, show (3 * k + t) / 3 = k by omega]

set_option maxRecDepth 100000 in
set_option maxHeartbeats 2000000 in
theorem fos_any (af : Option Addr) (nf cf : Nat) (F : Nat → V3) (w : World) (hf : Row3 w af nf F) (hn : nf ≤ 1000000) (hs : Sml nf F) :
    Calls Try.prog 51 #[.slice af nf cf] w (FosPost w nf F) := by
  have hmm := @run_makeMap Try.prog
  rcases hf with rfl | ⟨bf, of, rfl, hbf, hf⟩
  · go_enter Try.func51, Try.ntmps51
    go_wp2
    refine wp_loop_rounds 1 ?_; rw [rounds_succ]
    go_wp2
    go_ret
    exact ⟨_, rfl, Nat.le_refl _, World.ownsMap_made _ _ _ _, (by repeat (first | exact Below.refl _ _ | assumption | refine Below.drew ?_ | refine bdrewN ?_ _ | refine Below.setCell ?_ (by first | omega | (simp <;> omega)) _ | refine Below.alloc ?_ (by first | omega | (simp <;> omega)) _))⟩
  have HF := Lib.hid hf
  have HS := Lib.hid hs
  clear hf hs
  go_enter Try.func51, Try.ntmps51
  go_wp2
  go_loopw [11] (fun i wr => ∃ k : Nat, k ≤ nf ∧ i = .int .i64 k ∧ wr.ownsMap Try.prog 102 (plainElem Try.prog 3) w.heap.size (3 * k) (SD (SX F) (SY F) (3 * k)) ∧ Below w.heap.size w wr) (fun i _ => nf - (intOf i).toNat)
  case atStart => exact ⟨0, by omega, rfl, World.ownsMap_made _ _ _ _, (by repeat (first | exact Below.refl _ _ | assumption | refine Below.drew ?_ | refine bdrewN ?_ _ | refine Below.setCell ?_ (by first | omega | (simp <;> omega)) _ | refine Below.alloc ?_ (by first | omega | (simp <;> omega)) _))⟩
  case round =>
    obtain ⟨k, hk, rfl, hown, hbel⟩ := hrel
    have hsz := hbel.size
    have hlt0 := hown.lt
    have HO := Lib.hid hown
    clear hown
    obtain ⟨wo, rfl⟩ : ∃ wo : World, wo = wr := ⟨_, rfl⟩
    by_cases hlt : k < nf
    · obtain ⟨c0, c1, c2⟩ := (HF.out.kept hbel hbf) k hlt
      go_wp2_with (go_at_call 77; refine (msides_any _ _ _ _).mono ?_; rintro e w2 ⟨bs, rfl, hbs1, hbs2, hprs, hb2⟩)
      have s2 := hb2.size
      simp at s2 hbs1
      have BW2 : Below wo.heap.size wo w2 := Below.trans (by repeat (first | exact Below.refl _ _ | assumption | refine Below.drew ?_ | refine bdrewN ?_ _ | refine Below.setCell ?_ (by first | omega | (simp <;> omega)) _ | refine Below.alloc ?_ (by first | omega | (simp <;> omega)) _)) (hb2.mono (by simp))
      go_loopw [19] (fun i wr => ∃ t : Nat, t ≤ 3 ∧ i = .int .i64 t ∧ wr.ownsMap Try.prog 102 (plainElem Try.prog 3) w.heap.size (3 * k + t) (SD (SX F) (SY F) (3 * k + t)) ∧ Below w.heap.size w wr ∧ Prs wr bs 0 3 (sdx (F k)) (sdy (F k)) ∧ bs < wr.heap.size) (fun i _ => 3 - (intOf i).toNat)
      case atStart => exact ⟨0, by omega, rfl, ownsMap_below HO.out BW2, hbel.trans (BW2.mono (by omega)), hprs, hbs2⟩
      case round =>
        obtain ⟨t, ht, rfl, hown, hbel2, hprs2, hbs3⟩ := hrel
        have hsz2 := hbel2.size
        have HO2 := Lib.hid hown
        clear hown
        by_cases ht3 : t < 3
        · obtain ⟨cx, cy⟩ := hprs2 t ht3
          simp only [Nat.zero_add] at cx cy
          have HPR := Lib.hid hprs2
          have HK := Lib.hid (key_side (sdx (F k) t) (sdy (F k) t) (by have := (sml_wf HS.out (3 * k + t) (by omega)).1; rw [SX_at F k t ht3] at this; exact this) (by have := (sml_wf HS.out (3 * k + t) (by omega)).2; rw [SY_at F k t ht3] at this; exact this))
          clear hprs2
          go_wp2_with (at_mapUpdate; refine wpList_mapUpdate_own _ rfl _ _ _ 105 rfl 102 3 sideKeyed Try.underlying105 _ w.heap.size (3 * k + t) _ rfl (HO2.out.alloc _) (by unfold maxLen; omega) _ _ _ rfl rfl HK.out _ [] (plainElem_int Try.underlying3 (WalkArith.wf_i64 (by omega))) ?_; intro w4 hown4 hgrow4)
          have R1 : Below w.heap.size w w4 := (hbel2.alloc hsz2 _).grown hgrow4 (by simp; omega) (fun j hj => by cases hj; exact Nat.le_refl _)
          have R2 := grown_prs ((HPR.out.kept ((Below.refl _ _).alloc (Nat.le_refl _) _) hbs3)) hgrow4 (b := bs) (by simp; omega)
          have R3 := hgrow4.size
          simp at R3
          have HO4 := Lib.hid hown4
          clear hgrow4 hown4
          go_roundw
          case rel => exact ⟨t + 1, by omega, by go_num, by rw [sd_at F k t ht3]; exact HO4.out, R1, R2, by omega⟩
          case measure => simp [intOf]; omega
        · obtain rfl : t = 3 := by omega
          go_wp2
          go_roundw
          case rel => exact ⟨k + 1, by omega, by go_num, HO2.out, hbel2⟩
          case measure => simp [intOf]; omega
    · obtain rfl : nf = k := by omega
      go_wp2
      go_ret
      exact ⟨_, rfl, Nat.le_refl _, HO.out, hbel⟩
end Go.Proofs.Ytmcebhjcaacbpaa

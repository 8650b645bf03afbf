/- Need, positions and amounts of beads: by the program and by the reference. -/
import Derived.Test.YtddnimbalfaieaaBb
set_option linter.unusedSimpArgs false
set_option linter.unusedVariables false
namespace Go.Proofs.Ytddnimbalfaieaa
open Go.RowKit
/-- A quotient, rounded, half up. -/
def rndZ (v d : Int) : Int := if d ≤ 2 * (v % d) then v / d + 1 else v / d
theorem rnd_bnd {v d : Int} (hv : 0 ≤ v) (hd : 0 < d) : 0 ≤ rndZ v d ∧ rndZ v d ≤ v + 1 := by
  have h1 : 0 ≤ v / d := Int.ediv_nonneg hv (by omega)
  have h2 : v / d ≤ v := Int.ediv_le_self _ hv
  unfold rndZ
  split <;> omega
theorem rnd_zero {d : Int} (hd : 0 < d) : rndZ 0 d = 0 := by
  unfold rndZ
  simp
  omega
theorem floorP_any (v d : Int) (w : World) (hv : 0 ≤ v) (hv2 : v ≤ 8000000000000000000) (hd : 0 < d) : Calls Try.prog 56 #[.int .i64 v, .int .i64 d] w fun e w' => e = .returned (.int .i64 (v / d)) ∧ w = w' := by
  have q0 : v.tdiv d = v / d := Int.tdiv_eq_ediv_of_nonneg hv
  have q1 : v.tmod d = v % d := Int.tmod_eq_emod_of_nonneg hv
  have h0 : 0 ≤ v / d := Int.ediv_nonneg hv (by omega)
  have h1 : v / d ≤ v := Int.ediv_le_self _ hv
  have h2 : 0 ≤ v % d := Int.emod_nonneg _ (by omega)
  have h3 : v % d ≤ v := by have := Int.mul_ediv_add_emod v d; have := Int.mul_nonneg (show 0 ≤ d by omega) h0; omega
  have e1 : IntKind.i64.wrap (v / d) = v / d := i64w (by omega)
  have e2 : IntKind.i64.wrap (v % d) = v % d := i64w (by omega)
  have hz : ¬ d = 0 := by omega
  have hz' : (d == 0) = false := by simpa using hz
  have hl : ¬ v % d < 0 := by omega
  clear h0 h1 h2 h3
  go_enter Try.func56, Try.ntmps56
  go_wp2_with (fail)
  go_ret
  exact ⟨rfl, rfl⟩
set_option maxHeartbeats 1000000 in
theorem rounded_any (v d : Int) (w : World) (hv : 0 ≤ v) (hv2 : v ≤ 8000000000000000000) (hd : 0 < d) (hd2 : d ≤ 1000000000) :
    Calls Try.prog 48 #[.agg #[.int .i64 v, .int .i64 d]] w fun e w' => e = .returned (.int .i64 (rndZ v d)) ∧ Below w.heap.size w w' := by
  have h0 : 0 ≤ v / d := Int.ediv_nonneg hv (by omega)
  have h1 : v / d ≤ v := Int.ediv_le_self _ hv
  have h2 : 0 ≤ v % d := Int.emod_nonneg _ (by omega)
  have h3 : v % d < d := Int.emod_lt_of_pos _ hd
  have h4 := Int.mul_ediv_add_emod v d
  have h5 : v / d * d = v - v % d := by rw [Int.mul_comm]; omega
  have h6 : v % d ≤ v := by have := Int.mul_nonneg (show 0 ≤ d by omega) h0; omega
  have e1 : IntKind.i64.wrap (v / d * d) = v - v % d := by rw [h5]; exact i64w (by omega)
  have e2 : IntKind.i64.wrap (v - (v - v % d)) = v % d := by rw [show v - (v - v % d) = v % d by omega]; exact i64w (by omega)
  have e3 : IntKind.i64.wrap (d - v % d) = d - v % d := i64w (by omega)
  have e4 : IntKind.i64.wrap (v / d + 1) = v / d + 1 := i64w (by omega)
  by_cases hr : d ≤ 2 * (v % d)
  all_goals
    have hr' : decide (d - v % d ≤ v % d) = decide (d ≤ 2 * (v % d)) := by congr 1; apply propext; omega
    have R := Lib.hid (show rndZ v d = if d ≤ 2 * (v % d) then v / d + 1 else v / d from rfl)
    have HR := Lib.hid hr
    have HV := Lib.hid (show (0 ≤ v ∧ v ≤ 8000000000000000000) ∧ 0 < d from ⟨⟨hv, hv2⟩, hd⟩)
    first
    | (have g : d - v % d ≤ v % d := by omega
       have RR := Lib.hid (show rndZ v d = v / d + 1 by rw [R.out, if_pos HR.out])
       clear h0 h1 h2 h3 h4 h5 h6 hr hr' hv hv2 hd hd2 R HR
       go_enter Try.func48, Try.ntmps48
       go_wp2_with (go_at_call 56; refine (floorP_any _ _ _ HV.out.1.1 HV.out.1.2 HV.out.2).mono ?_; rintro e w' ⟨rfl, rfl⟩)
       go_ret
       exact ⟨ret_int RR.out.symm, (by repeat (first | exact Below.refl _ _ | assumption | refine Below.drew ?_ | refine bdrewN ?_ _ | refine Below.setCell ?_ (by first | omega | (simp <;> omega)) _ | refine Below.alloc ?_ (by first | omega | (simp <;> omega)) _))⟩)
    | (have g : ¬ d - v % d ≤ v % d := by omega
       have RR := Lib.hid (show rndZ v d = v / d by rw [R.out, if_neg HR.out])
       clear h0 h1 h2 h3 h4 h5 h6 hr hr' hv hv2 hd hd2 R HR
       go_enter Try.func48, Try.ntmps48
       go_wp2_with (go_at_call 56; refine (floorP_any _ _ _ HV.out.1.1 HV.out.1.2 HV.out.2).mono ?_; rintro e w' ⟨rfl, rfl⟩)
       go_ret
       exact ⟨ret_int RR.out.symm, (by repeat (first | exact Below.refl _ _ | assumption | refine Below.drew ?_ | refine bdrewN ?_ _ | refine Below.setCell ?_ (by first | omega | (simp <;> omega)) _ | refine Below.alloc ?_ (by first | omega | (simp <;> omega)) _))⟩)
def trZ (b : Bool) : Int := if b = true then 1 else 0
theorem truth_any (b : Bool) (w : World) : Calls Try.prog 50 #[.bool b] w fun e w' => e = .returned (.int .i64 (trZ b)) ∧ w = w' := by
  cases b
  all_goals
    go_enter Try.func50, Try.ntmps50
    go_wp2
    go_ret
    exact ⟨rfl, rfl⟩
/-- How much is fed up to the end of the first t beads. -/
def posZ (L W H : Nat → Int) (x : Int) (t : Nat) : Int := rndZ (volZ L W H t) x
theorem posZ_0 {L W H : Nat → Int} {x : Int} (hx : 0 < x) : posZ L W H x 0 = 0 := rnd_zero hx
theorem posZ_bnd {n : Nat} {L W H : Nat → Int} {x : Int} (h : BdOk n L W H) (hx : 0 < x) (hn : n ≤ 5000) {t : Nat} (ht : t ≤ n) : 0 ≤ posZ L W H x t ∧ posZ L W H x t ≤ 1300000000000000000 := by
  have h1 := volZ_bnd h t ht
  have h2 := rnd_bnd (v := volZ L W H t) h1.1 hx
  unfold posZ
  omega
def amtZ (L W H : Nat → Int) (x : Int) (t : Nat) : Int := posZ L W H x (t + 1) - posZ L W H x t
def posF (L W H : Nat → Int) (x : Int) : Nat → Int := fun i => posZ L W H x (i + 1)
def amtF (L W H : Nat → Int) (x : Int) : Nat → Int := fun i => amtZ L W H x i

set_option maxRecDepth 100000 in
set_option maxHeartbeats 8000000 in
theorem Positions_any (a : Option Addr) (n c : Nat) (L W H : Nat → Int) (x : Int) (w : World) (hn : n ≤ 100) (hp : BeadsR w a n L W H) :
    Calls Try.prog 17 #[.slice a n c, .int .i64 x] w fun e w' =>
      (arE n L W H x = 0 → ∃ ao co, e = .returned (.tuple #[.slice ao n co, .int .i64 0]) ∧ w'.ownsRow w.heap.size 3 1 (.slice ao n co) n (vs (posF L W H x) n)) ∧
      (arE n L W H x ≠ 0 → e = .returned (.tuple #[.slice none 0 0, .int .i64 (arE n L W H x)])) ∧ Below w.heap.size w w' := by
  obtain ⟨i0, hi0, hz0, hz1, hz2⟩ := info_parts info_intV
  have HP := Lib.hid hp
  clear hp
  go_enter Try.func17, Try.ntmps17
  go_wp2_with (fail)
  refine (checkedVolume_any a n c L W H x _ (by omega) HP.out).mono ?_
  rintro e w1 ⟨rfl, hb1⟩
  have B1 := Lib.hid hb1
  clear hb1
  by_cases hz : arE n L W H x = 0
  · have HZ := Lib.hid hz
    have hz' : (arE n L W H x != 0) = false := by simp [hz]
    have OK := Lib.hid (arE_ok hz)
    clear hz
    go_wp2_with (fail)
    go_loopw [8, 9, 23] (fun sv v i wr => ∃ (k : Nat) (ao : Option Addr) (co : Nat), k ≤ n ∧ i = .int .i64 k ∧ v = .int .i64 (volZ L W H k) ∧ sv = .slice ao k co ∧ wr.ownsRow w.heap.size 3 1 (.slice ao k co) k (vs (posF L W H x) k) ∧ Below w.heap.size w wr) (fun _ _ i _ => n - (intOf i).toNat)
    case atStart => exact ⟨0, none, 0, by omega, rfl, rfl, rfl, World.ownsRow_nil _ _ _ _, B1.out⟩
    case round =>
      clear B1
      obtain ⟨k, ao, co, hk, rfl, rfl, rfl, hown, hbel⟩ := hrel
      have HO := Lib.hid hown
      have HB := Lib.hid hbel
      have hsz := hbel.size
      clear hown hbel
      by_cases hlt : k < n
      · rcases HP.out with h0 | ⟨b, off, rfl, hb, hd⟩
        · omega
        obtain ⟨c0, c1, c2⟩ := hd k hlt
        replace c0 := cellk HB.out hb c0
        replace c1 := cellk HB.out hb c1
        replace c2 := cellk HB.out hb c2
        have hbw : b < wr.heap.size := by omega
        clear hd
        have BA := Lib.hid ((Below.refl _ wr).alloc (Nat.le_refl _) (.cells #[.int .i64 (L k), .int .i64 (W k), .int .i64 (H k)] 61))
        obtain ⟨ox, oy, oz⟩ := OK.out.1.2 k hlt
        have OX := Lib.hid ox
        have OY := Lib.hid oy
        have OZ := Lib.hid oz
        have b0 := volZ_bnd OK.out.1.2 k hk
        have b2 := vol_bnd ox oy oz
        have b3 := volZ_bnd OK.out.1.2 (k + 1) hlt
        have BV := Lib.hid (show 0 ≤ volZ L W H (k + 1) ∧ volZ L W H (k + 1) ≤ 8000000000000000000 by omega)
        have e3 : IntKind.i64.wrap (volZ L W H k + L k * W k * H k) = volZ L W H (k + 1) := i64w (by omega)
        clear ox oy oz b0 b2 b3
        go_wp2_with (fail)
        refine (volumeOf_any (L k) (W k) (H k) _ OX.out OY.out OZ.out).mono ?_
        rintro e w2 ⟨rfl, hb2⟩
        have B2 := Lib.hid (BA.out.trans (hb2.mono BA.out.size))
        clear hb2 c0 c1 c2
        go_wp2_with (fail)
        refine (rounded_any (volZ L W H (k + 1)) x _ BV.out.1 BV.out.2 (by have := OK.out; omega) (by have := OK.out; omega)).mono ?_
        rintro e w3 ⟨rfl, hb3⟩
        have B3 := Lib.hid (B2.out.trans (hb3.mono B2.out.size))
        have HO3 := Lib.hid (ownsRow_below HO.out B3.out)
        have hs3 : w.heap.size ≤ w3.heap.size := by have := B3.out.size; omega
        clear hb3 B2 BA HO
        obtain ⟨z, hz⟩ : ∃ z, z = rndZ (volZ L W H (k + 1)) x := ⟨_, rfl⟩
        rw [← hz]
        have HZV := Lib.hid hz
        clear hz
        go_wp2_with (at_builtin; refine wpList_append_lies _ rfl _ _ 22 rfl w.heap.size 3 i0 (.int .i64 0) 1 8 Try.underlying22 hi0 hz0 hz1 hz2 rfl (by decide) _ _ _ rfl (ownsRow_below HO3.out ((Below.refl _ w3).alloc (Nat.le_refl _) _)) ⟨w3.heap.size, 0, none⟩ 1 1 [.int .i64 z] rfl rfl (World.news_of_block (cs := #[.int .i64 z]) (t := 3) (fr := (0, 0)) (heap_alloc_new w3 (.cells #[.int .i64 z] 3))) (by simp [Value.oneCell']) (by omega) (by unfold maxLen; omega) (by omega) (by simp; omega) (w3.heap.size + 1) (by simp) ?_; intro g5 c5 w5 hown5 hgrow5 _ hlt5; have HO5 := Lib.hid hown5; have HB5 := Lib.hid (Below.grown (B := w.heap.size) (Below.alloc (B := w.heap.size) (Below.refl _ w3) (by omega) (.cells #[.int .i64 z] 3)) hgrow5 (by simp; omega) (fun b hb => ((HO3.out).lt b hb).1)); clear hown5 hgrow5)
        have HO6 := Lib.hid (show w5.ownsRow w.heap.size 3 1 (.slice (some ⟨g5, 0, none⟩) (k + 1) c5) (k + 1) (vs (posF L W H x) (k + 1)) by rw [vs_succ, show posF L W H x k = z from HZV.out.symm]; exact HO5.out)
        have HB6 := Lib.hid ((HB.out.trans (B3.out.mono hsz)).trans HB5.out)
        clear HO5 HB5 B3 HO3
        go_wp2_with (fail)
        go_roundw
        case rel => exact ⟨k + 1, _, c5, by omega, by go_num, rfl, rfl, HO6.out, HB6.out⟩
        case measure => simp [intOf] <;> omega
      · obtain rfl : n = k := by omega
        go_wp2_with (fail)
        exact bodyPost_ret (v := .tuple #[.slice ao n co, .int .i64 0]) (by simp [results, Try.results17, go_sem]) rfl ⟨fun _ => ⟨ao, co, rfl, HO.out⟩, fun h => absurd HZ.out h, HB.out⟩
  · have HZ := Lib.hid hz
    have hz' : (arE n L W H x != 0) = true := by simpa using hz
    clear hz
    go_wp2_with (fail)
    exact bodyPost_ret (v := .tuple #[.slice none 0 0, .int .i64 (arE n L W H x)]) (by simp [results, Try.results17, go_sem]) rfl ⟨fun h => absurd h HZ.out, fun _ => rfl, B1.out⟩
set_option maxRecDepth 100000 in
set_option maxHeartbeats 8000000 in
theorem positionsOf_any (a : Option Addr) (n c : Nat) (L W H : Nat → Int) (x : Int) (w : World) (hn : n ≤ 100) (hp : BeadsR w a n L W H) (ok : BdOk n L W H) (hx : 1 ≤ x ∧ x ≤ 100000000) (hcn : n ≤ c) :
    Calls Try.prog 20 #[.slice a n c, .int .i64 x] w fun e w' => ∃ ao co, e = .returned (.slice ao n co) ∧ w'.ownsRow w.heap.size 3 1 (.slice ao n co) n (vs (posF L W H x) n) ∧ Below w.heap.size w w' := by
  obtain ⟨i0, hi0, hz0, hz1, hz2⟩ := info_parts info_intV
  have HP := Lib.hid hp
  have OK := Lib.hid ok
  have HX := Lib.hid hx
  have hx0 : ¬ x = 0 := by omega
  have hx0' : (x == 0) = false := by simpa using hx0
  clear hp ok hx
  go_enter Try.func20, Try.ntmps20
  go_wp2_with (fail)
  go_loopw [5, 10] (fun sv i wr => ∃ (k : Nat) (ao : Option Addr) (co : Nat), k ≤ n ∧ i = .int .i64 k ∧ sv = .slice ao k co ∧ wr.ownsRow w.heap.size 3 1 (.slice ao k co) k (vs (posF L W H x) k) ∧ Below w.heap.size w wr) (fun _ i _ => n - (intOf i).toNat)
  case atStart => exact ⟨0, none, 0, by omega, rfl, rfl, World.ownsRow_nil _ _ _ _, Below.refl _ _⟩
  case round =>
    obtain ⟨k, ao, co, hk, rfl, rfl, hown, hbel⟩ := hrel
    have HO := Lib.hid hown
    have HB := Lib.hid hbel
    have hsz := hbel.size
    clear hown hbel
    by_cases hlt : k < n
    · have hw1 : IntKind.i64.wrap ((k : Int) + 1) = (k : Int) + 1 := i64w (by omega)
      have b3 := volZ_bnd OK.out (k + 1) hlt
      have HPK := Lib.hid ((HP.out.less (show k + 1 ≤ n by omega)).kept HB.out)
      have l0 : (0 : Int) ≤ (k : Int) + 1 := by omega
      have l1 : (k : Int) + 1 ≤ (c : Int) := by omega
      go_wp2_with (fail)
      refine (volumeFed_any a (k + 1) c L W H _ (by omega) HPK.out (OK.out.less hlt)).mono ?_
      rintro e w2 ⟨rfl, hb2⟩
      have B2 := Lib.hid hb2
      have HO2 := Lib.hid (ownsRow_below HO.out hb2)
      clear hb2 HO HPK
      obtain ⟨v, hv⟩ : ∃ v, volZ L W H (k + 1) = v := ⟨_, rfl⟩
      rw [hv] at b3 ⊢
      have HVV := Lib.hid hv
      have hv0 : 0 ≤ v := by omega
      have q0 : v.tdiv x = v / x := Int.tdiv_eq_ediv_of_nonneg hv0
      have q1 : v.tmod x = v % x := Int.tmod_eq_emod_of_nonneg hv0
      have h0 : 0 ≤ v / x := Int.ediv_nonneg hv0 (by have := HX.out; omega)
      have h1 : v / x ≤ v := Int.ediv_le_self _ hv0
      have h2 : 0 ≤ v % x := Int.emod_nonneg _ hx0
      have h3 : v % x < x := Int.emod_lt_of_pos _ (by have := HX.out; omega)
      have e1 : IntKind.i64.wrap (v / x) = v / x := i64w (by omega)
      have e2 : IntKind.i64.wrap (v % x) = v % x := i64w (by have := HX.out; omega)
      have e3 : IntKind.i64.wrap (2 * (v % x)) = 2 * (v % x) := i64w (by have := HX.out; omega)
      have ht : 0 ≤ trZ (decide (x ≤ 2 * (v % x))) ∧ trZ (decide (x ≤ 2 * (v % x))) ≤ 1 := by unfold trZ; split <;> omega
      have HZV := Lib.hid (show v / x + trZ (decide (x ≤ 2 * (v % x))) = posF L W H x k by
        show _ = rndZ (volZ L W H (k + 1)) x
        rw [HVV.out]; unfold rndZ trZ
        by_cases h : x ≤ 2 * (v % x)
        · rw [if_pos (by simpa using h), if_pos h]
        · rw [if_neg (by simpa using h), if_neg h]; omega)
      have e4 : IntKind.i64.wrap (v / x + trZ (decide (x ≤ 2 * (v % x)))) = v / x + trZ (decide (x ≤ 2 * (v % x))) := i64w (by omega)
      clear hv hv0 h0 h1 h2 h3 b3 ht
      have HX0 := Lib.hid hx0
      go_wp2_with (fail)
      refine wp_region_held_drew (S := (fun _ => True)) (by kernel_rfl) True.intro (fun hHeld => ?_)
      refine tkH (by assumption) 0 (oi := ?_) (v := ?_) ?_ ?_ ?_ ?_ ?_ ?_ ?_ ?_; rotate_left 2; (simp only [gA, gB, gC]; exact rfl); kernel_rfl; kernel_rfl; kernel_rfl; exact fun _ _ _ h => h; rfl; (intro w' hSw; (try dsimp only at hSw); go_simp; with_reducible rfl); simp only [Act.put, pB, pC, pD]
      refine tkH (by assumption) 1 (oi := ?_) (v := ?_) ?_ ?_ ?_ ?_ ?_ ?_ ?_ ?_; rotate_left 2; (simp only [gA, gB, gC]; exact rfl); kernel_rfl; kernel_rfl; kernel_rfl; exact fun _ _ _ h => h; rfl; (intro w' hSw; (try dsimp only at hSw); go_simp; with_reducible rfl); simp only [Act.put, pB, pC, pD]
      refine tkH (by assumption) 2 (oi := ?_) (v := ?_) ?_ ?_ ?_ ?_ ?_ ?_ ?_ ?_; rotate_left 2; (simp only [gA, gB, gC]; exact rfl); kernel_rfl; kernel_rfl; kernel_rfl; exact fun _ _ _ h => h; rfl; (intro w' hSw; (try dsimp only at hSw); go_simp; with_reducible rfl); simp only [Act.put, pB, pC, pD]
      refine tkH (by assumption) 3 (oi := ?_) (v := ?_) ?_ ?_ ?_ ?_ ?_ ?_ ?_ ?_; rotate_left 2; (simp only [gA, gB, gC]; exact rfl); kernel_rfl; kernel_rfl; kernel_rfl; exact fun _ _ _ h => h; rfl; (intro w' hSw; (try dsimp only at hSw); go_simp; with_reducible rfl); simp only [Act.put, pB, pC, pD]
      refine tkH (by assumption) 4 (oi := ?_) (v := ?_) ?_ ?_ ?_ ?_ ?_ ?_ ?_ ?_; rotate_left 2; (simp only [gA, gB, gC]; exact rfl); kernel_rfl; kernel_rfl; kernel_rfl; exact fun _ _ _ h => h; rfl; (intro w' hSw; (try dsimp only at hSw); go_simp; with_reducible rfl); simp only [Act.put, pB, pC, pD]
      refine tkH (by assumption) 5 (oi := ?_) (v := ?_) ?_ ?_ ?_ ?_ ?_ ?_ ?_ ?_; rotate_left 2; (simp only [gA, gB, gC]; exact rfl); kernel_rfl; kernel_rfl; kernel_rfl; exact fun _ _ _ h => h; rfl; (intro w' hSw; (try dsimp only at hSw); go_simp; with_reducible rfl); simp only [Act.put, pB, pC, pD]
      refine tkH (by assumption) 6 (oi := ?_) (v := ?_) ?_ ?_ ?_ ?_ ?_ ?_ ?_ ?_; rotate_left 2; (simp only [gA, gB, gC]; exact rfl); kernel_rfl; kernel_rfl; kernel_rfl; exact fun _ _ _ h => h; rfl; (intro w' hSw; (try dsimp only at hSw); go_simp; with_reducible rfl); simp only [Act.put, pB, pC, pD]
      refine tkH (by assumption) 7 (oi := ?_) (v := ?_) ?_ ?_ ?_ ?_ ?_ ?_ ?_ ?_; rotate_left 2; (simp only [gA, gB, gC]; exact rfl); kernel_rfl; kernel_rfl; kernel_rfl; exact fun _ _ _ h => h; rfl; (intro w' hSw; (try dsimp only at hSw); go_simp; with_reducible rfl); simp only [Act.put, pB, pC, pD]
      refine tkH (by assumption) 8 (oi := ?_) (v := ?_) ?_ ?_ ?_ ?_ ?_ ?_ ?_ ?_; rotate_left 2; (simp only [gA, gB, gC]; exact rfl); kernel_rfl; kernel_rfl; kernel_rfl; exact fun _ _ _ h => h; rfl; (intro w' hSw; (try dsimp only at hSw); go_simp; with_reducible rfl); simp only [Act.put, pB, pC, pD]
      refine tkH (by assumption) 9 (oi := ?_) (v := ?_) ?_ ?_ ?_ ?_ ?_ ?_ ?_ ?_; rotate_left 2; (simp only [gA, gB, gC]; exact rfl); kernel_rfl; kernel_rfl; kernel_rfl; exact fun _ _ _ h => h; rfl; (intro w' hSw; (try dsimp only at hSw); go_simp; with_reducible rfl); simp only [Act.put, pB, pC, pD]
      refine onH 10 (oi := ?_) (by kernel_rfl) ?_ ?_ (fun K hK => ?_); rotate_left; (simp only [gA, gB, gC]; exact rfl); rfl
      go_wp2_with (fail)
      refine (truth_any _ _).mono ?_
      rintro e w' ⟨rfl, rfl⟩
      refine hK.out _ _ True.intro (fun hHeldN => ?_)
      clear hK K hHeld
      have hHeld := hHeldN
      clear hHeldN
      try simp only [Act.put, pB, pC, pD]
      refine tkH (by assumption) 11 (oi := ?_) (v := ?_) ?_ ?_ ?_ ?_ ?_ ?_ ?_ ?_; rotate_left 2; (simp only [gA, gB, gC]; exact rfl); kernel_rfl; kernel_rfl; kernel_rfl; exact fun _ _ _ h => h; rfl; (intro w' hSw; (try dsimp only at hSw); go_simp; with_reducible rfl); simp only [Act.put, pB, pC, pD]
      obtain ⟨z, hz⟩ : ∃ z, z = v / x + trZ (decide (x ≤ 2 * (v % x))) := ⟨_, rfl⟩
      rw [← hz]
      rw [← hz] at HZV
      clear hz e4
      refine onH 12 (oi := ?_) (by kernel_rfl) ?_ ?_ (fun K hK => ?_); rotate_left; (simp only [gA, gB, gC]; exact rfl); rfl
      go_wp2_with (fail)
      refine hK.out _ _ True.intro (fun hHeldN => ?_)
      clear hK K hHeld
      have hHeld := hHeldN
      clear hHeldN
      try simp only [Act.put, pB, pC, pD]
      have bA : Below w2.heap.size w2 ((w2.alloc (.cells #[.int .i64 z] 3)).drew) := Below.next_drew ((Below.refl _ w2).alloc (Nat.le_refl _) _)
      have hnw : ∀ (j : Nat) (u : Value), [Value.int .i64 z][j]? = some u → ((w2.alloc (.cells #[.int .i64 z] 3)).drew).cell? ((⟨w2.heap.size, 0, none⟩ : Addr).add j) = some u := World.news_of_block (cs := #[.int .i64 z]) (t := 3) (fr := (0, 0)) (heap_alloc_new w2 (.cells #[.int .i64 z] 3))
      have HO3 := ownsRow_below HO2.out bA
      have hs2 : ((w2.alloc (.cells #[.int .i64 z] 3)).drew).heap.size = w2.heap.size + 1 := by simp
      have hs3 := B2.out.size
      generalize ((w2.alloc (.cells #[.int .i64 z] 3)).drew) = W2 at *
      refine onH 13 (oi := ?_) (by kernel_rfl) ?_ ?_ (fun K hK => ?_); rotate_left; (simp only [gA, gB, gC]; exact rfl); rfl
      refine wp_append_lies _ _ _ 22 rfl w.heap.size 3 i0 (.int .i64 0) 1 8 Try.underlying22 hi0 hz0 hz1 hz2 rfl (by decide) _ _ _ rfl HO3 ⟨w2.heap.size, 0, none⟩ 1 1 [.int .i64 z] rfl rfl hnw (by simp [Value.oneCell']) (by omega) (by unfold maxLen; omega) (by omega) (by omega) (w2.heap.size + 1) hs2 ?_
      intro g5 c5 w5 hown hgrow _ hlt5
      have HB5 := Lib.hid (HB.out.trans ((B2.out.mono hsz).trans (Below.grown (bA.mono (by omega)) hgrow (by omega) (fun b hb => (HO3.lt b hb).1))))
      have HO5 := Lib.hid (show w5.ownsRow w.heap.size 3 1 (.slice (some ⟨g5, 0, none⟩) (k + 1) c5) (k + 1) (vs (posF L W H x) (k + 1)) by rw [vs_succ, ← HZV.out]; exact hown)
      refine hK.out _ _ True.intro (fun hHeldN => ?_)
      clear hK K hHeld hnw HO3 hs2 hown hgrow bA
      have hHeld := hHeldN
      clear hHeldN
      try simp only [Act.put, pB, pC, pD]
      refine tkH (by assumption) 14 (oi := ?_) (v := ?_) ?_ ?_ ?_ ?_ ?_ ?_ ?_ ?_; rotate_left 2; (simp only [gA, gB, gC]; exact rfl); kernel_rfl; kernel_rfl; kernel_rfl; exact fun _ _ _ h => h; rfl; (intro w' hSw; (try dsimp only at hSw); go_simp; with_reducible rfl); simp only [Act.put, pB, pC, pD]
      refine wpAnyH_done (by kernel_rfl) ?_ _
      go_wp2_with (fail)
      go_roundw
      case rel => exact ⟨k + 1, _, c5, by omega, by go_num, rfl, HO5.out, HB5.out⟩
      case measure => simp [intOf] <;> omega
    · obtain rfl : n = k := by omega
      go_wp2_with (fail)
      go_ret
      exact ⟨ao, co, rfl, HO.out, HB.out⟩
end Go.Proofs.Ytddnimbalfaieaa

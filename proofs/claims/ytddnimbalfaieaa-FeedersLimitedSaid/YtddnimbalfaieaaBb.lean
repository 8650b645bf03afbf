/- Volumes of beads: by the program and by the reference. -/
import Derived.Test.YtddnimbalfaieaaBa
set_option linter.unusedSimpArgs false
set_option linter.unusedVariables false
namespace Go.Proofs.Ytddnimbalfaieaa
open Go.RowKit
/-- Right beads. -/
def BdOk (n : Nat) (L W H : Nat → Int) : Prop := ∀ i, i < n → (0 ≤ L i ∧ L i ≤ 10000000) ∧ (1 ≤ W i ∧ W i ≤ 5000) ∧ (1 ≤ H i ∧ H i ≤ 5000)
theorem BdOk.less {n k : Nat} {L W H : Nat → Int} (h : BdOk n L W H) (hk : k ≤ n) : BdOk k L W H := fun i hi => h i (by omega)
def volZ (L W H : Nat → Int) : Nat → Int
  | 0 => 0
  | t + 1 => volZ L W H t + L t * W t * H t
theorem area_bnd {x y : Int} (hx : 0 ≤ x ∧ x ≤ 10000000) (hy : 1 ≤ y ∧ y ≤ 5000) : 0 ≤ x * y ∧ x * y ≤ 50000000000 := by
  refine ⟨Int.mul_nonneg hx.1 (by omega), ?_⟩
  have := Int.mul_le_mul hx.2 hy.2 (by omega) (by omega)
  omega
theorem vol_bnd {x y z : Int} (hx : 0 ≤ x ∧ x ≤ 10000000) (hy : 1 ≤ y ∧ y ≤ 5000) (hz : 1 ≤ z ∧ z ≤ 5000) : 0 ≤ x * y * z ∧ x * y * z ≤ 250000000000000 := by
  obtain ⟨h1, h2⟩ := area_bnd hx hy
  refine ⟨Int.mul_nonneg h1 (by omega), ?_⟩
  have := Int.mul_le_mul h2 hz.2 (by omega) (by omega)
  omega
theorem volZ_bnd {n : Nat} {L W H : Nat → Int} (h : BdOk n L W H) : ∀ t, t ≤ n → 0 ≤ volZ L W H t ∧ volZ L W H t ≤ 250000000000000 * (t : Int)
  | 0, _ => by simp [volZ]
  | t + 1, ht => by
    have h1 := volZ_bnd h t (by omega)
    obtain ⟨a, b, c⟩ := h t (by omega)
    have h2 := vol_bnd a b c
    have h3 : volZ L W H (t + 1) = volZ L W H t + L t * W t * H t := rfl
    generalize L t * W t * H t = q at *
    rw [h3]
    omega
theorem volZ_mono {n : Nat} {L W H : Nat → Int} (h : BdOk n L W H) : ∀ t k, t + k ≤ n → volZ L W H t ≤ volZ L W H (t + k)
  | t, 0, _ => Int.le_refl _
  | t, k + 1, hk => by
    have h1 := volZ_mono h t k (by omega)
    obtain ⟨a, b, c⟩ := h (t + k) (by omega)
    have h2 := vol_bnd a b c
    have h3 : volZ L W H (t + (k + 1)) = volZ L W H (t + k) + L (t + k) * W (t + k) * H (t + k) := rfl
    generalize L (t + k) * W (t + k) * H (t + k) = q at *
    rw [h3]
    omega
theorem volumeOf_any (x y z : Int) (w : World) (hx : 0 ≤ x ∧ x ≤ 10000000) (hy : 1 ≤ y ∧ y ≤ 5000) (hz : 1 ≤ z ∧ z ≤ 5000) :
    Calls Try.prog 44 #[.agg #[.int .i64 x, .int .i64 y, .int .i64 z]] w fun e w' => e = .returned (.int .i64 (x * y * z)) ∧ Below w.heap.size w w' := by
  have h1 := area_bnd hx hy
  have h2 := vol_bnd hx hy hz
  have e1 : IntKind.i64.wrap (x * y) = x * y := i64w (by omega)
  have e2 : IntKind.i64.wrap (x * y * z) = x * y * z := i64w (by omega)
  clear h1 h2 hx hy hz
  go_enter Try.func44, Try.ntmps44
  go_wp2_with (fail)
  go_ret
  exact ⟨rfl, (by repeat (first | exact Below.refl _ _ | assumption | refine Below.drew ?_ | refine bdrewN ?_ _ | refine Below.setCell ?_ (by first | omega | (simp <;> omega)) _ | refine Below.alloc ?_ (by first | omega | (simp <;> omega)) _))⟩
/-- The error of a volume. -/
def fvE (n : Nat) (L W H : Nat → Int) : Int := if bdE n L W H = 0 then (if 1000000000000000000 < volZ L W H n then 12 else 0) else bdE n L W H
def fvV (n : Nat) (L W H : Nat → Int) : Int := if fvE n L W H = 0 then volZ L W H n else 0
theorem fvV_ok {n : Nat} {L W H : Nat → Int} (h : fvE n L W H = 0) : fvV n L W H = volZ L W H n := if_pos h
theorem fvV_no {n : Nat} {L W H : Nat → Int} (h : fvE n L W H ≠ 0) : fvV n L W H = 0 := if_neg h
theorem fvE_ok {n : Nat} {L W H : Nat → Int} (h : fvE n L W H = 0) : bdE n L W H = 0 ∧ volZ L W H n ≤ 1000000000000000000 := by
  unfold fvE at h
  split at h
  · split at h
    · cases h
    · exact ⟨by assumption, by omega⟩
  · rename_i h1; exact absurd h h1
set_option maxRecDepth 100000 in
set_option maxHeartbeats 4000000 in
theorem volumeFed_any (a : Option Addr) (n c : Nat) (L W H : Nat → Int) (w : World) (hn : n ≤ 5000) (hp : BeadsR w a n L W H) (ok : BdOk n L W H) :
    Calls Try.prog 13 #[.slice a n c] w fun e w' => e = .returned (.int .i64 (volZ L W H n)) ∧ Below w.heap.size w w' := by
  have HP := Lib.hid hp
  have OK := Lib.hid ok
  clear hp ok
  go_enter Try.func13, Try.ntmps13
  go_wp2_with (fail)
  go_loopw [3, 8] (fun s i wr => ∃ k : Nat, k ≤ n ∧ i = .int .i64 k ∧ s = .int .i64 (volZ L W H k) ∧ Below w.heap.size w wr) (fun _ i _ => n - (intOf i).toNat)
  case atStart => exact ⟨0, by omega, rfl, rfl, Below.refl _ _⟩
  case round =>
    obtain ⟨k, hk, rfl, rfl, hbel⟩ := hrel
    have hsz := hbel.size
    by_cases hlt : k < n
    · rcases HP.out with h0 | ⟨b, off, rfl, hb, hd⟩
      · omega
      obtain ⟨c0, c1, c2⟩ := hd k hlt
      replace c0 := cellk hbel hb c0
      replace c1 := cellk hbel hb c1
      replace c2 := cellk hbel hb c2
      have hbw : b < wr.heap.size := by omega
      have HB := Lib.hid hbel
      clear hbel hd
      have BA := Lib.hid (HB.out.alloc hsz (.cells #[.int .i64 (L k), .int .i64 (W k), .int .i64 (H k)] 61))
      obtain ⟨ox, oy, oz⟩ := OK.out k hlt
      have b0 := volZ_bnd OK.out k hk
      have b1 := area_bnd ox oy
      have b2 := vol_bnd ox oy oz
      have e1 : IntKind.i64.wrap (L k * W k) = L k * W k := i64w (by omega)
      have e2 : IntKind.i64.wrap (L k * W k * H k) = L k * W k * H k := i64w (by omega)
      have e3 : IntKind.i64.wrap (volZ L W H k + L k * W k * H k) = volZ L W H (k + 1) := i64w (by omega)
      clear ox oy oz b0 b1 b2
      go_wp2_with (fail)
      go_roundw
      case rel => exact ⟨k + 1, by omega, by go_num, rfl, BA.out⟩
      case measure => simp [intOf]; omega
    · obtain rfl : n = k := by omega
      have HB := Lib.hid hbel
      clear hbel
      go_wp2_with (fail)
      go_ret
      exact ⟨rfl, HB.out⟩
set_option maxRecDepth 100000 in
set_option maxHeartbeats 4000000 in
theorem Volume_any (a : Option Addr) (n c : Nat) (L W H : Nat → Int) (w : World) (hn : n ≤ 5000) (hp : BeadsR w a n L W H) :
    Calls Try.prog 11 #[.slice a n c] w fun e w' => e = .returned (.tuple #[.int .i64 (fvV n L W H), .int .i64 (fvE n L W H)]) ∧ Below w.heap.size w w' := by
  have HP := Lib.hid hp
  clear hp
  go_enter Try.func11, Try.ntmps11
  go_wp2_with (fail)
  refine (checkBeads_any a n c L W H _ hn HP.out).mono ?_
  rintro e w1 ⟨rfl, hb1⟩
  have B1 := Lib.hid hb1
  clear hb1
  by_cases hz : bdE n L W H = 0
  · have HZ := Lib.hid hz
    have hz' : (bdE n L W H != 0) = false := by simp [hz]
    have OK : Hid (BdOk n L W H) := Lib.hid (bdE_ok hz).2
    clear hz
    go_wp2_with (fail)
    go_loopw [5, 15] (fun s i wr => ∃ k : Nat, k ≤ n ∧ i = .int .i64 k ∧ s = .int .i64 (volZ L W H k) ∧ Below w.heap.size w wr) (fun _ i _ => n - (intOf i).toNat)
    case atStart => exact ⟨0, by omega, rfl, rfl, B1.out⟩
    case round =>
      clear B1
      obtain ⟨k, hk, rfl, rfl, hbel⟩ := hrel
      have hsz := hbel.size
      by_cases hlt : k < n
      · rcases HP.out with h0 | ⟨b, off, rfl, hb, hd⟩
        · omega
        obtain ⟨c0, c1, c2⟩ := hd k hlt
        replace c0 := cellk hbel hb c0
        replace c1 := cellk hbel hb c1
        replace c2 := cellk hbel hb c2
        have hbw : b < wr.heap.size := by omega
        have HB := Lib.hid hbel
        clear hbel hd
        have BA := Lib.hid (HB.out.alloc hsz (.cells #[.int .i64 (L k), .int .i64 (W k), .int .i64 (H k)] 61))
        obtain ⟨ox, oy, oz⟩ := OK.out k hlt
        have OX := Lib.hid ox
        have OY := Lib.hid oy
        have OZ := Lib.hid oz
        have b0 := volZ_bnd OK.out k hk
        have b2 := vol_bnd ox oy oz
        have e3 : IntKind.i64.wrap (volZ L W H k + L k * W k * H k) = volZ L W H (k + 1) := i64w (by omega)
        clear ox oy oz b0 b2
        go_wp2_with (fail)
        refine (volumeOf_any (L k) (W k) (H k) _ OX.out OY.out OZ.out).mono ?_
        rintro e w2 ⟨rfl, hb2⟩
        have B2 := Lib.hid (BA.out.trans (hb2.mono BA.out.size))
        clear hb2
        go_wp2_with (fail)
        go_roundw
        case rel => exact ⟨k + 1, by omega, by go_num, rfl, B2.out⟩
        case measure => simp [intOf]; omega
      · obtain rfl : n = k := by omega
        have HB := Lib.hid hbel
        clear hbel
        by_cases hv : 1000000000000000000 < volZ L W H n
        · have R := Lib.hid (show fvE n L W H = 12 by unfold fvE; rw [if_pos HZ.out, if_pos hv])
          go_wp2_with (fail)
          exact bodyPost_ret (v := .tuple #[.int .i64 0, .int .i64 12]) (by simp [results, Try.results11, go_sem]) rfl ⟨by rw [fvV_no (by rw [R.out]; decide), R.out], HB.out⟩
        · have R := Lib.hid (show fvE n L W H = 0 by unfold fvE; rw [if_pos HZ.out, if_neg hv])
          go_wp2_with (fail)
          exact bodyPost_ret (v := .tuple #[.int .i64 (volZ L W H n), .int .i64 0]) (by simp [results, Try.results11, go_sem]) rfl ⟨by rw [fvV_ok R.out, R.out], HB.out⟩
  · have R := Lib.hid (show fvE n L W H = bdE n L W H by unfold fvE; rw [if_neg hz])
    have HZ := Lib.hid hz
    have hz' : (bdE n L W H != 0) = true := by simpa using hz
    clear hz
    go_wp2_with (fail)
    exact bodyPost_ret (v := .tuple #[.int .i64 0, .int .i64 (bdE n L W H)]) (by simp [results, Try.results11, go_sem]) rfl ⟨by rw [fvV_no (by rw [R.out]; exact HZ.out), R.out], B1.out⟩
def fullE (v m : Int) : Int := if m < v then 12 else 0
set_option maxHeartbeats 1000000 in
theorem fullFault_any (a : Option Addr) (n c : Nat) (L W H : Nat → Int) (m : Int) (w : World) (hn : n ≤ 5000) (hp : BeadsR w a n L W H) (ok : BdOk n L W H) :
    Calls Try.prog 45 #[.slice a n c, .int .i64 m] w fun e w' => e = .returned (.int .i64 (fullE (volZ L W H n) m)) ∧ Below w.heap.size w w' := by
  have HP := Lib.hid hp
  have OK := Lib.hid ok
  clear hp ok
  by_cases hv : m < volZ L W H n
  all_goals
    have R := Lib.hid hv
    go_enter Try.func45, Try.ntmps45
    go_wp2_with (go_at_call 13; refine (volumeFed_any a n c L W H _ hn HP.out OK.out).mono ?_; rintro e w1 ⟨rfl, hb1⟩; have B1 := Lib.hid hb1; clear hb1)
    go_ret
    exact ⟨ret_int (by simp [fullE, R.out]), B1.out⟩
set_option maxHeartbeats 1000000 in
theorem fedFault_any (a : Option Addr) (n c : Nat) (L W H : Nat → Int) (w : World) (hn : n ≤ 5000) (hp : BeadsR w a n L W H) :
    Calls Try.prog 12 #[.slice a n c] w fun e w' => e = .returned (.int .i64 (fvE n L W H)) ∧ Below w.heap.size w w' := by
  have HP := Lib.hid hp
  clear hp
  go_enter Try.func12, Try.ntmps12
  go_wp2_with (fail)
  refine (beadsFault_any a n c L W H _ hn HP.out).mono ?_
  rintro e w1 ⟨rfl, hb1⟩
  have B1 := Lib.hid hb1
  replace HP := Lib.hid (HP.out.kept hb1)
  clear hb1
  by_cases hz : bdE n L W H = 0
  · have OK : Hid (BdOk n L W H) := Lib.hid (bdE_ok hz).2
    have R := Lib.hid (show fullE (volZ L W H n) 1000000000000000000 = fvE n L W H by unfold fvE fullE; rw [if_pos hz])
    have hz' : (bdE n L W H != 0) = false := by simp [hz]
    clear hz
    go_wp2_with (fail)
    refine (fullFault_any a n c L W H _ _ hn HP.out OK.out).mono ?_
    rintro e w2 ⟨rfl, hb2⟩
    have B2 := Lib.hid (B1.out.trans (hb2.mono B1.out.size))
    clear hb2
    go_wp2_with (fail)
    go_ret
    exact ⟨ret_int R.out, B2.out⟩
  · have R := Lib.hid (show fvE n L W H = bdE n L W H by unfold fvE; rw [if_neg hz])
    have hz' : (bdE n L W H != 0) = true := by simpa using hz
    clear hz
    go_wp2_with (fail)
    go_ret
    exact ⟨ret_int R.out.symm, B1.out⟩
/-- The error of beads and an area. -/
def arE (n : Nat) (L W H : Nat → Int) (x : Int) : Int := if bdE n L W H = 0 then (if inB x 1 100000000 = true then fvE n L W H else 1) else bdE n L W H
def arV (n : Nat) (L W H : Nat → Int) (x : Int) : Int := if arE n L W H x = 0 then volZ L W H n else 0
theorem arV_ok {n : Nat} {L W H : Nat → Int} {x : Int} (h : arE n L W H x = 0) : arV n L W H x = volZ L W H n := if_pos h
theorem arV_no {n : Nat} {L W H : Nat → Int} {x : Int} (h : arE n L W H x ≠ 0) : arV n L W H x = 0 := if_neg h
theorem arE_ok {n : Nat} {L W H : Nat → Int} {x : Int} (h : arE n L W H x = 0) : (n ≤ 5000 ∧ BdOk n L W H) ∧ (1 ≤ x ∧ x ≤ 100000000) ∧ volZ L W H n ≤ 1000000000000000000 := by
  unfold arE at h
  split at h
  · split at h
    · rename_i h1 h2
      exact ⟨⟨(bdE_ok h1).1, (bdE_ok h1).2⟩, inB_yes.1 h2, (fvE_ok h).2⟩
    · cases h
  · rename_i h1; exact absurd h h1
theorem arE_or {n : Nat} {L W H : Nat → Int} {x : Int} : arE n L W H x = if orE (bdE n L W H) (spanE x 1 100000000) = 0 then fvE n L W H else orE (bdE n L W H) (spanE x 1 100000000) := by
  unfold arE orE spanE
  by_cases h1 : bdE n L W H = 0
  · rw [if_pos h1, if_pos h1]
    by_cases h2 : inB x 1 100000000 = true
    · simp [h2]
    · simp [h2]
  · simp [h1]
set_option maxHeartbeats 1000000 in
theorem areaFault_any (a : Option Addr) (n c : Nat) (L W H : Nat → Int) (x : Int) (w : World) (hn : n ≤ 5000) (hp : BeadsR w a n L W H) :
    Calls Try.prog 15 #[.slice a n c, .int .i64 x] w fun e w' => e = .returned (.int .i64 (arE n L W H x)) ∧ Below w.heap.size w w' := by
  have HP := Lib.hid hp
  clear hp
  go_enter Try.func15, Try.ntmps15
  go_wp2_with (fail)
  refine (beadsFault_any a n c L W H _ hn HP.out).mono ?_
  rintro e w1 ⟨rfl, hb1⟩
  have B1 := Lib.hid hb1
  replace HP := Lib.hid (HP.out.kept hb1)
  clear hb1
  go_wp2_with (go_at_call 31; refine (spanFault_any _ _ _ _).mono ?_; rintro e w' ⟨rfl, rfl⟩)
  refine (or_any _ _ _ _ rfl).mono ?_
  rintro e w2 ⟨rfl, hw2⟩
  have B2 := Lib.hid (show Below w.heap.size w w2 from hw2 ▸ B1.out.alloc B1.out.size _)
  replace HP := Lib.hid (HP.out.kept (w' := w2) (hw2 ▸ (Below.refl _ w1).alloc (Nat.le_refl _) _))
  clear hw2 B1
  have RR := Lib.hid (arE_or (n := n) (L := L) (W := W) (H := H) (x := x))
  generalize orE (bdE n L W H) (spanE x 1 100000000) = o at *
  by_cases hz : o = 0
  · subst hz
    have R := Lib.hid (show arE n L W H x = fvE n L W H by rw [RR.out, if_pos rfl])
    go_wp2_with (fail)
    refine (fedFault_any a n c L W H _ hn HP.out).mono ?_
    rintro e w3 ⟨rfl, hb3⟩
    have B3 := Lib.hid (B2.out.trans (hb3.mono B2.out.size))
    clear hb3
    go_wp2_with (fail)
    go_ret
    exact ⟨ret_int R.out.symm, B3.out⟩
  · have R := Lib.hid (show arE n L W H x = o by rw [RR.out, if_neg hz])
    have hz' : (o != 0) = true := by simpa using hz
    clear hz
    go_wp2_with (fail)
    go_ret
    exact ⟨ret_int R.out.symm, B2.out⟩
set_option maxHeartbeats 1000000 in
theorem checkedVolume_any (a : Option Addr) (n c : Nat) (L W H : Nat → Int) (x : Int) (w : World) (hn : n ≤ 5000) (hp : BeadsR w a n L W H) :
    Calls Try.prog 46 #[.slice a n c, .int .i64 x] w fun e w' => e = .returned (.tuple #[.int .i64 (arV n L W H x), .int .i64 (arE n L W H x)]) ∧ Below w.heap.size w w' := by
  have HP := Lib.hid hp
  clear hp
  go_enter Try.func46, Try.ntmps46
  go_wp2_with (fail)
  refine (checkBeads_any a n c L W H _ hn HP.out).mono ?_
  rintro e w1 ⟨rfl, hb1⟩
  have B1 := Lib.hid hb1
  replace HP := Lib.hid (HP.out.kept hb1)
  clear hb1
  by_cases hz : bdE n L W H = 0
  · have hz' : (bdE n L W H != 0) = false := by simp [hz]
    rcases hx : inB x 1 100000000 with _ | _
    · have R := Lib.hid (show arE n L W H x = 1 by unfold arE; rw [if_pos hz, hx]; rfl)
      have HX := Lib.hid hx
      clear hz hx
      go_wp2_with (go_at_call 42; refine (within_any _ _ _ _).mono ?_; rintro e w' ⟨rfl, rfl⟩; rw [HX.out])
      exact bodyPost_ret (v := .tuple #[.int .i64 0, .int .i64 1]) (by simp [results, Try.results46, go_sem]) rfl ⟨by rw [arV_no (by rw [R.out]; decide), R.out], B1.out⟩
    · have R := Lib.hid (show arE n L W H x = fvE n L W H by unfold arE; rw [if_pos hz, if_pos hx])
      have HX := Lib.hid hx
      clear hz hx
      go_wp2_with (go_at_call 42; refine (within_any _ _ _ _).mono ?_; rintro e w' ⟨rfl, rfl⟩; rw [HX.out])
      refine (Volume_any a n c L W H _ hn HP.out).mono ?_
      rintro e w2 ⟨rfl, hb2⟩
      have B2 := Lib.hid (B1.out.trans (hb2.mono B1.out.size))
      clear hb2
      have R2 := Lib.hid (show arV n L W H x = fvV n L W H by unfold arV fvV; rw [R.out])
      go_wp2_with (fail)
      exact bodyPost_ret (v := .tuple #[.int .i64 (fvV n L W H), .int .i64 (fvE n L W H)]) (by simp [results, Try.results46, go_sem]) rfl ⟨by rw [R2.out, R.out], B2.out⟩
  · have R := Lib.hid (show arE n L W H x = bdE n L W H by unfold arE; rw [if_neg hz])
    have HZ := Lib.hid hz
    have hz' : (bdE n L W H != 0) = true := by simpa using hz
    clear hz
    go_wp2_with (fail)
    exact bodyPost_ret (v := .tuple #[.int .i64 0, .int .i64 (bdE n L W H)]) (by simp [results, Try.results46, go_sem]) rfl ⟨by rw [arV_no (by rw [R.out]; exact HZ.out), R.out], B1.out⟩
end Go.Proofs.Ytddnimbalfaieaa

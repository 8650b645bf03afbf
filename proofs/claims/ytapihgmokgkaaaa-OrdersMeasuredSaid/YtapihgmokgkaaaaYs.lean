/- Travel of the program. -/
import Derived.Test.YtapihgmokgkaaaaYq
set_option linter.unusedSimpArgs false
set_option linter.unusedVariables false
namespace Go.Proofs.Ytapihgmokgkaaaa
open Go.RowKit

/-- The error of a tour. -/
def tourE (sx sy : Int) (m : Nat) (P : Nat → Pth) (l : Nat) (V : Nat → Vis) : Int := orE (ptE 1 (fun _ => sx) (fun _ => sy)) (oF m P l V)
theorem one_pt {w : World} {g : Nat} {x y : Int} (h0 : w.cell? ⟨g, 0, none⟩ = some (.int .i64 x)) (h1 : w.cell? ⟨g, 1, none⟩ = some (.int .i64 y)) : PtsR w (some ⟨g, 0, none⟩) 1 (fun _ => x) (fun _ => y) :=
  .inr ⟨g, 0, rfl, cell_lt h0, fun i hi => by obtain rfl : i = 0 := by omega
                                              exact ⟨h0, h1⟩⟩
set_option maxRecDepth 100000 in
theorem checkTour_any (sx sy : Int) (a : Option Addr) (m c : Nat) (P : Nat → Pth) (ao : Option Addr) (l co : Nat) (V : Nat → Vis) (w : World) (hm : m ≤ 100) (hp : PathsR w a m P) (hn : ∀ i, i < m → (P i).n ≤ 100)
    (hl : l ≤ 100) (ho : VisR w ao l V) (hv : ∀ i, i < l → sm (V i).p) :
    Calls Try.prog 35 #[.agg #[.int .i64 sx, .int .i64 sy], .slice a m c, .slice ao l co] w fun e w' => e = .returned (.int .i64 (tourE sx sy m P l V)) ∧ Below w.heap.size w w' := by
  have HP := Lib.hid hp
  have HN := Lib.hid hn
  have HO := Lib.hid ho
  have HV := Lib.hid hv
  clear hp hn ho hv
  go_enter Try.func35, Try.ntmps35
  go_wp2_with (fail)
  have BW : Below w.heap.size w ((w.alloc (.cells #[.int .i64 sx, .int .i64 sy] 27)).alloc (.cells #[.int .i64 sx, .int .i64 sy] 27)) := (by repeat (first | exact Below.refl _ _ | assumption | refine Below.drew ?_ | refine bdrewN ?_ _ | refine Below.setCell ?_ (by first | omega | (simp <;> omega)) _ | refine Below.alloc ?_ (by first | omega | (simp <;> omega)) _))
  have r0 : ((w.alloc (.cells #[.int .i64 sx, .int .i64 sy] 27)).alloc (.cells #[.int .i64 sx, .int .i64 sy] 27)).cell? ⟨w.heap.size + 1, 0, none⟩ = some (.int .i64 sx) := by simp [go_sem]
  have r1 : ((w.alloc (.cells #[.int .i64 sx, .int .i64 sy] 27)).alloc (.cells #[.int .i64 sx, .int .i64 sy] 27)).cell? ⟨w.heap.size + 1, 1, none⟩ = some (.int .i64 sy) := by simp [go_sem]
  generalize ((w.alloc (.cells #[.int .i64 sx, .int .i64 sy] 27)).alloc (.cells #[.int .i64 sx, .int .i64 sy] 27)) = w0 at *
  refine (inRange_any (some ⟨w.heap.size + 1, 0, none⟩) 1 1 (fun _ => sx) (fun _ => sy) w0 (by omega) (one_pt r0 r1)).mono ?_
  rintro e w1 ⟨rfl, hb1⟩
  have B1 := Lib.hid (BW.trans (hb1.mono BW.size))
  clear hb1 BW r0 r1
  rcases hz : allB 1 (fun _ => sx) (fun _ => sy) with _ | _
  · have R := Lib.hid (show tourE sx sy m P l V = 1 by simp [tourE, ptE, hz, orE])
    clear hz
    go_wp2_with (fail)
    go_ret
    exact ⟨ret_int R.out.symm, B1.out⟩
  · have R := Lib.hid (show tourE sx sy m P l V = oF m P l V by simp [tourE, ptE, hz, orE])
    clear hz
    go_wp2_with (fail)
    refine (checkOrder_any a m c P ao l co V w1 hm (HP.out.kept B1.out) HN.out hl (HO.out.kept B1.out) HV.out).mono ?_
    rintro e w2 ⟨rfl, hb2⟩
    have B2 := Lib.hid (B1.out.trans (hb2.mono B1.out.size))
    clear hb2
    go_wp2_with (fail)
    go_ret
    exact ⟨ret_int R.out.symm, B2.out⟩
theorem tour_ok {sx sy : Int} {m : Nat} {P : Nat → Pth} {l : Nat} {V : Nat → Vis} (h : tourE sx sy m P l V = 0) : cI sx ∧ cI sy ∧ l = m ∧ AllFit m P l V := by
  unfold tourE orE at h
  split at h
  · rename_i h0
    unfold ptE at h0
    split at h0
    · rename_i h1
      obtain ⟨g1, g2⟩ := allB_one h1 (k := 0) (by omega)
      obtain ⟨g3, g4⟩ := allFit_of h
      exact ⟨g1, g2, g3, g4⟩
    · cases h0
  · rename_i h0; exact absurd h h0
def trvAns (sx sy : Int) (m : Nat) (P : Nat → Pth) (l : Nat) (V : Nat → Vis) : Int := if tourE sx sy m P l V = 0 then trv sx sy P V l else 0
set_option maxRecDepth 100000 in
set_option maxHeartbeats 8000000 in
theorem travel_any (sx sy : Int) (a : Option Addr) (m c : Nat) (P : Nat → Pth) (ao : Option Addr) (l co : Nat) (V : Nat → Vis) (w : World) (hm : m ≤ 100) (hp : PathsR w a m P) (hn : ∀ i, i < m → (P i).n ≤ 100)
    (hl : l ≤ 100) (ho : VisR w ao l V) (hv : ∀ i, i < l → sm (V i).p) :
    Calls Try.prog 14 #[.agg #[.int .i64 sx, .int .i64 sy], .slice a m c, .slice ao l co] w fun e w' => e = .returned (.tuple #[.int .i64 (trvAns sx sy m P l V), .int .i64 (tourE sx sy m P l V)]) ∧ Below w.heap.size w w' := by
  have HP := Lib.hid hp
  have HN := Lib.hid hn
  have HO := Lib.hid ho
  have HV := Lib.hid hv
  clear hp hn ho hv
  go_enter Try.func14, Try.ntmps14
  go_wp2_with (fail)
  have BW : Below w.heap.size w (w.alloc (.cells #[.int .i64 sx, .int .i64 sy] 27)) := (by repeat (first | exact Below.refl _ _ | assumption | refine Below.drew ?_ | refine bdrewN ?_ _ | refine Below.setCell ?_ (by first | omega | (simp <;> omega)) _ | refine Below.alloc ?_ (by first | omega | (simp <;> omega)) _))
  have r0 : (w.alloc (.cells #[.int .i64 sx, .int .i64 sy] 27)).cell? ⟨w.heap.size, 0, none⟩ = some (.int .i64 sx) := by simp [go_sem]
  have r1 : (w.alloc (.cells #[.int .i64 sx, .int .i64 sy] 27)).cell? ⟨w.heap.size, 1, none⟩ = some (.int .i64 sy) := by simp [go_sem]
  have hs0 : w.heap.size < (w.alloc (.cells #[.int .i64 sx, .int .i64 sy] 27)).heap.size := by simp
  generalize (w.alloc (.cells #[.int .i64 sx, .int .i64 sy] 27)) = w0 at *
  refine (checkTour_any sx sy a m c P ao l co V w0 hm (HP.out.kept BW) HN.out hl (HO.out.kept BW) HV.out).mono ?_
  rintro e w1 ⟨rfl, hb1⟩
  have B1 := Lib.hid (BW.trans (hb1.mono BW.size))
  replace r0 := cellk hb1 hs0 r0
  replace r1 := cellk hb1 hs0 r1
  replace hs0 := Nat.lt_of_lt_of_le hs0 hb1.size
  clear hb1 BW
  by_cases hz : tourE sx sy m P l V = 0
  · have R := Lib.hid (show trvAns sx sy m P l V = trv sx sy P V l by simp [trvAns, hz])
    have RZ := Lib.hid hz
    obtain ⟨hx, hy, hlm, hf⟩ := tour_ok hz
    have hz' : (tourE sx sy m P l V != 0) = false := by simp [hz]
    have HF := Lib.hid hf
    have HX := Lib.hid hx
    have HY := Lib.hid hy
    clear hz hf hx hy hlm
    go_wp2_with (fail)
    refine (waysTo_any sx sy a m c P ao l co V w1 hm (HP.out.kept B1.out) HN.out hl (HO.out.kept B1.out) HF.out).mono ?_
    rintro e w2 ⟨g, cw, rfl, hown, hgl, hb2⟩
    have B2 := Lib.hid (B1.out.trans (hb2.mono B1.out.size))
    have HW := Lib.hid hown
    clear hb2 hown r0 r1
    go_wp2_with (fail)
    go_loopw [9, 24] (fun sv i wr => ∃ k : Nat, k ≤ l ∧ i = .int .i64 k ∧ sv = .int .i64 (trv sx sy P V k) ∧ Below w2.heap.size w2 wr) (fun _ i _ => l - (intOf i).toNat)
    case atStart => exact ⟨0, by omega, rfl, rfl, Below.refl _ _⟩
    case round =>
      obtain ⟨k, hk, rfl, rfl, hbel⟩ := hrel
      have hsz := hbel.size
      have HB := Lib.hid hbel
      by_cases hlt : k < l
      · have cs := fun j hj => HW.out.cellAt j hj
        obtain ⟨g0, g1, g2, g3⟩ := wcs_get sx sy P V l k hlt
        have c0 := cellk hbel hgl ((cs (k * 4) (by omega)).trans g0)
        have c1 := cellk hbel hgl ((cs (k * 4 + 1) (by omega)).trans g1)
        have c2 := cellk hbel hgl ((cs (k * 4 + 2) (by omega)).trans g2)
        have c3 := cellk hbel hgl ((cs (k * 4 + 3) (by omega)).trans g3)
        have hgw : g < wr.heap.size := by omega
        have hg12 := hd_cI HF.out HX.out HY.out k hk
        have hgb := HF.out.b k hlt
        have htl := trv_le HF.out HX.out HY.out k hk
        have hd1' := dI_le hg12.1 hg12.2 hgb.1.1 hgb.1.2
        have HST := Lib.hid (show trv sx sy P V (k + 1) = trv sx sy P V k + dI (hdX sx P V k) (hdY sy P V k) (bX P (V k)) (bY P (V k)) from rfl)
        have hwr : IntKind.i64.wrap (trv sx sy P V k + dI (hdX sx P V k) (hdY sy P V k) (bX P (V k)) (bY P (V k))) = trv sx sy P V k + dI (hdX sx P V k) (hdY sy P V k) (bX P (V k)) (bY P (V k)) := w64 (by omega)
        have G12 := Lib.hid hg12
        have GB := Lib.hid hgb
        clear cs g0 g1 g2 g3 htl hd1' hg12 hgb hbel
        generalize trv sx sy P V k = tk at *
        generalize hdX sx P V k = x2 at *
        generalize hdY sy P V k = y2 at *
        generalize bX P (V k) = x0 at *
        generalize bY P (V k) = y0 at *
        go_wp2_with (fail)
        refine (distance_any _ _ _ _ _ G12.out.1 G12.out.2 GB.out.1.1 GB.out.1.2).mono ?_
        rintro e w5 ⟨rfl, hb5⟩
        have B5 := Lib.hid (HB.out.trans (Below.trans (show Below wr.heap.size wr (wr.alloc (.cells #[.int .i64 x2, .int .i64 y2, .int .i64 x0, .int .i64 y0] 74)) from (by repeat (first | exact Below.refl _ _ | assumption | refine Below.drew ?_ | refine bdrewN ?_ _ | refine Below.setCell ?_ (by first | omega | (simp <;> omega)) _ | refine Below.alloc ?_ (by first | omega | (simp <;> omega)) _))) (hb5.mono (by simp)) |>.mono hsz))
        clear hb5
        generalize dI x2 y2 x0 y0 = D at *
        go_wp2_with (fail)
        go_roundw
        case rel => exact ⟨k + 1, by omega, by go_num, by rw [HST.out], B5.out⟩
        case measure => simp [intOf]; omega
      · obtain rfl : l = k := by omega
        clear hbel
        go_wp2_with (fail)
        exact bodyPost_ret (v := .tuple #[.int .i64 (trv sx sy P V l), .int .i64 0]) (by simp [results, Try.results14, go_sem]) rfl ⟨by rw [R.out, RZ.out], B2.out.trans (HB.out.mono B2.out.size)⟩
  · have R := Lib.hid (show trvAns sx sy m P l V = 0 by simp [trvAns, hz])
    have hz' : (tourE sx sy m P l V != 0) = true := by simpa using hz
    clear hz
    go_wp2_with (fail)
    exact bodyPost_ret (v := .tuple #[.int .i64 0, .int .i64 (tourE sx sy m P l V)]) (by simp [results, Try.results14, go_sem]) rfl ⟨by rw [R.out], B1.out⟩
end Go.Proofs.Ytapihgmokgkaaaa

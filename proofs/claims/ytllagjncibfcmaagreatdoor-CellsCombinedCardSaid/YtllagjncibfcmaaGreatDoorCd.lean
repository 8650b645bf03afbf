/- CheckCells. -/
import Derived.Test.YtllagjncibfcmaaGreatDoorCc
set_option linter.unusedSimpArgs false
set_option linter.unusedVariables false
namespace Go.Proofs.YtllagjncibfcmaaGreatDoor
open Go.RowKit

def cellsE (s x y : Int) (n : Nat) (R : Nat → List UInt8) : Int :=
  if stB s = false then 1 else if n = 0 ∧ (x ≠ 0 ∨ y ≠ 0) then 3 else if rowsE n R ≠ 0 then rowsE n R else if 2000000 < max x y ∨ min x y < -2000000 then 1 else if x.tmod s ≠ 0 ∨ y.tmod s ≠ 0 ∨ edgeB n R = false then 3 else 0
theorem ret_i {a b : Int} (h : a = b) : Ending.returned (.int .i64 a) = .returned (.int .i64 b) := by rw [h]
set_option maxRecDepth 100000 in
set_option maxHeartbeats 8000000 in
theorem checkCells_any (s x y : Int) (a : Option Addr) (n c : Nat) (R : Nat → List UInt8) (w : World) (hr : RowS w a n R) (hl : ∀ i, i < n → (R i).length ≤ 1000000) (hn : n ≤ 1000000) :
    Calls Tryz.prog 48 #[.agg #[.int .i64 s, .int .i64 x, .int .i64 y, .slice a n c]] w fun e w' => e = .returned (.int .i64 (cellsE s x y n R)) ∧ Below w.heap.size w w' := by
  obtain ⟨B, hB⟩ : ∃ B, stB s = B := ⟨_, rfl⟩
  have HBs := Lib.hid hB
  rcases B with _ | _
  · have hres : cellsE s x y n R = 1 := by simp [cellsE, hB]
    rw [hres]
    clear hB hres
    go_enter Tryz.func48, Tryz.ntmps48
    go_wp2_with (go_at_call 58; refine (isStep_any s _).mono ?_; rintro e w' ⟨rfl, rfl⟩; rw [HBs.out])
    go_ret
    exact ⟨rfl, (by repeat (first | exact Below.refl _ _ | assumption | refine Below.drew ?_ | refine bdrewN ?_ _ | refine Below.setCell ?_ (by first | omega | (simp <;> omega)) _ | refine Below.alloc ?_ (by first | omega | (simp <;> omega)) _))⟩
  by_cases c3 : n = 0 ∧ (x ≠ 0 ∨ y ≠ 0)
  · have hres : cellsE s x y n R = 3 := by simp only [cellsE, hB]; rw [if_neg (by simp), if_pos c3]
    rw [hres]
    obtain ⟨rfl, c4⟩ := c3
    clear hB hres
    by_cases x0 : x = 0
    · subst x0
      have y0 : y ≠ 0 := by simpa using c4
      have y1 : (y != 0) = true := by simpa using y0
      clear c4
      go_enter Tryz.func48, Tryz.ntmps48
      go_wp2_with (go_at_call 58; refine (isStep_any s _).mono ?_; rintro e w' ⟨rfl, rfl⟩; rw [HBs.out])
      go_ret
      exact ⟨rfl, (by repeat (first | exact Below.refl _ _ | assumption | refine Below.drew ?_ | refine bdrewN ?_ _ | refine Below.setCell ?_ (by first | omega | (simp <;> omega)) _ | refine Below.alloc ?_ (by first | omega | (simp <;> omega)) _))⟩
    · have x1 : (x != 0) = true := by simpa using x0
      clear c4
      go_enter Tryz.func48, Tryz.ntmps48
      go_wp2_with (go_at_call 58; refine (isStep_any s _).mono ?_; rintro e w' ⟨rfl, rfl⟩; rw [HBs.out])
      go_ret
      exact ⟨rfl, (by repeat (first | exact Below.refl _ _ | assumption | refine Below.drew ?_ | refine bdrewN ?_ _ | refine Below.setCell ?_ (by first | omega | (simp <;> omega)) _ | refine Below.alloc ?_ (by first | omega | (simp <;> omega)) _))⟩
  have hs2 : 2 ≤ s ∧ s ≤ 10000 := by
    have := hB; unfold stB at this; simp only [decide_eq_true_eq] at this; omega
  obtain ⟨E, hE⟩ : ∃ E, cellsE s x y n R = E := ⟨_, rfl⟩
  obtain ⟨F, hF⟩ : ∃ F, rowsE n R = F := ⟨_, rfl⟩
  rw [hE]
  have hE2 : (if F ≠ 0 then F else if 2000000 < max x y ∨ min x y < -2000000 then 1 else if x.tmod s ≠ 0 ∨ y.tmod s ≠ 0 ∨ edgeB n R = false then 3 else 0) = E := by
    rw [← hE]; unfold cellsE; rw [if_neg (show ¬ stB s = false by rw [hB]; simp), if_neg c3, hF]
  have HE := Lib.hid hE2
  have HF := Lib.hid hF
  have HR := Lib.hid hr
  have HL := Lib.hid hl
  clear hE hE2 hF hB hr hl
  go_enter Tryz.func48, Tryz.ntmps48
  go_wp2_with (fail)
  refine (isStep_any s _).mono ?_
  rintro e w' ⟨rfl, rfl⟩
  rw [HBs.out]
  go_upto_region 3 with (fail)
  have HW : Hid (Below w.heap.size w (w.alloc (.cells #[.int .i64 s, .int .i64 x, .int .i64 y, .slice a n c] 28))) := Lib.hid (by repeat (first | exact Below.refl _ _ | assumption | refine Below.drew ?_ | refine bdrewN ?_ _ | refine Below.setCell ?_ (by first | omega | (simp <;> omega)) _ | refine Below.alloc ?_ (by first | omega | (simp <;> omega)) _))
  have p0 : (w.alloc (.cells #[.int .i64 s, .int .i64 x, .int .i64 y, .slice a n c] 28)).cell? ⟨w.heap.size, 0, none⟩ = some (.int .i64 s) := by simp [go_sem]
  have p1 : (w.alloc (.cells #[.int .i64 s, .int .i64 x, .int .i64 y, .slice a n c] 28)).cell? ⟨w.heap.size, 1, none⟩ = some (.int .i64 x) := by simp [go_sem]
  have p2 : (w.alloc (.cells #[.int .i64 s, .int .i64 x, .int .i64 y, .slice a n c] 28)).cell? ⟨w.heap.size, 2, none⟩ = some (.int .i64 y) := by simp [go_sem]
  have p3 : (w.alloc (.cells #[.int .i64 s, .int .i64 x, .int .i64 y, .slice a n c] 28)).cell? ⟨w.heap.size, 3, none⟩ = some (.slice a n c) := by simp [go_sem]
  have lw : w.heap.size < (w.alloc (.cells #[.int .i64 s, .int .i64 x, .int .i64 y, .slice a n c] 28)).heap.size := by simp
  change Code.wp _ _ _ _ (w.alloc (.cells #[.int .i64 s, .int .i64 x, .int .i64 y, .slice a n c] 28))
  generalize (w.alloc (.cells #[.int .i64 s, .int .i64 x, .int .i64 y, .slice a n c] 28)) = w0 at *
  go_cut [21] from 8 to 21 (fun s21 wx => s21 = .bool false ∧ w0 = wx)
  case first =>
    by_cases n0 : n = 0
    · subst n0
      have x0 : x = 0 := by simp at c3; exact c3.1
      have y0 : y = 0 := by simp at c3; exact c3.2
      subst x0 y0
      go_wp2
      go_meet
      exact ⟨rfl, rfl⟩
    · go_wp2
      go_meet
      exact ⟨rfl, rfl⟩
  case rest =>
    obtain ⟨rfl, rfl⟩ := hcut
    go_wp2_with (fail)
    refine (checkRows_any a n c R _ (HR.out.kept HW.out) HL.out hn).mono ?_
    rintro e w1 ⟨rfl, hb1⟩
    rw [HF.out]
    have B1 := Lib.hid (HW.out.trans (hb1.mono HW.out.size))
    replace p0 := cellk hb1 lw p0
    replace p1 := cellk hb1 lw p1
    replace p2 := cellk hb1 lw p2
    replace p3 := cellk hb1 lw p3
    have lw1 := Nat.lt_of_lt_of_le lw hb1.size
    clear hb1
    by_cases f0 : F = 0
    · subst f0
      go_upto_region 8 with (fail)
      go_cut [41] from 28 to 41 (fun s41 wx => s41 = .bool (decide (2000000 < max x y ∨ min x y < -2000000)) ∧ w1 = wx)
      case first =>
        go_wp2
        all_goals go_meet
        all_goals exact ⟨congrArg Value.bool (by rw [Bool.eq_iff_iff]; simp only [decide_eq_true_eq, Bool.false_eq_true, true_iff, false_iff, Bool.or_eq_true] <;> omega), rfl⟩
      case rest =>
        obtain ⟨rfl, rfl⟩ := hcut
        by_cases cm : 2000000 < max x y ∨ min x y < -2000000
        · have e1 : E = 1 := by rw [← HE.out]; simp [cm]
          subst e1
          have hd : decide (2000000 < max x y ∨ min x y < -2000000) = true := by simpa using cm
          rw [hd]
          go_wp2
          go_ret
          exact ⟨rfl, B1.out⟩
        · have hd : decide (2000000 < max x y ∨ min x y < -2000000) = false := by simpa using cm
          rw [hd]
          have s0 : ¬ s = 0 := by omega
          obtain ⟨mx, hmx⟩ : ∃ m, x.tmod s = m := ⟨_, rfl⟩
          obtain ⟨my, hmy⟩ : ∃ m, y.tmod s = m := ⟨_, rfl⟩
          have hE3 : (if mx ≠ 0 ∨ my ≠ 0 ∨ edgeB n R = false then (3 : Int) else 0) = E := by
            rw [← HE.out]; simp only [ne_eq, not_true_eq_false, if_false]; rw [if_neg cm, hmx, hmy]
          clear cm hd
          by_cases m0 : mx = 0
          · subst m0
            by_cases m1 : my = 0
            · subst m1
              obtain ⟨g, hg⟩ : ∃ g, edgeB n R = g := ⟨_, rfl⟩
              have HG := Lib.hid hg
              rw [hg] at hE3
              clear hg
              rcases g with _ | _
              · have e3 : E = 3 := by rw [← hE3]; simp
                subst e3
                clear hE3
                go_wp2_with (fail)
                refine (reach_any a n c R _ (HR.out.kept B1.out) HL.out hn).mono ?_
                rintro e w2 ⟨rfl, hb2⟩
                rw [HG.out]
                have R1 := Lib.hid (B1.out.trans (hb2.mono B1.out.size))
                clear hb2
                go_wp2
                go_ret
                exact ⟨rfl, R1.out⟩
              · have e3 : E = 0 := by rw [← hE3]; simp
                subst e3
                clear hE3
                go_wp2_with (fail)
                refine (reach_any a n c R _ (HR.out.kept B1.out) HL.out hn).mono ?_
                rintro e w2 ⟨rfl, hb2⟩
                rw [HG.out]
                have R1 := Lib.hid (B1.out.trans (hb2.mono B1.out.size))
                clear hb2
                go_wp2
                go_ret
                exact ⟨rfl, R1.out⟩
            · have e3 : E = 3 := by rw [← hE3]; simp [m1]
              subst e3
              have hm : (my != 0) = true := by simpa using m1
              clear hE3
              go_wp2
              go_ret
              exact ⟨rfl, B1.out⟩
          · have e3 : E = 3 := by rw [← hE3]; simp [m0]
            subst e3
            have hm : (mx != 0) = true := by simpa using m0
            clear hE3
            go_wp2
            go_ret
            exact ⟨rfl, B1.out⟩
    · have e1 : E = F := by rw [← HE.out]; simp [f0]
      subst e1
      have hf : (E != 0) = true := by simpa using f0
      go_wp2
      go_ret
      exact ⟨rfl, B1.out⟩
end Go.Proofs.YtllagjncibfcmaaGreatDoor

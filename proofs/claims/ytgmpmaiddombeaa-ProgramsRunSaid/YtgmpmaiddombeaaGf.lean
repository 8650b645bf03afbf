/- Steps are checked: the first error of some. -/
import Derived.Test.YtgmpmaiddombeaaGb
set_option linter.unusedSimpArgs false
set_option linter.unusedVariables false
namespace Go.Proofs.Ytgmpmaiddombeaa
open Go.RowKit
set_option maxRecDepth 100000 in
set_option maxHeartbeats 8000000 in
theorem checkStep_any (s : St) (w : World) : Calls Try.prog 34 #[(.agg #[.int .i64 s.k, .int .i64 s.x, .int .i64 s.y, .int .i64 s.z, .int .i64 s.f, .int .i64 s.n])] w fun e w' => e = .returned (.int .i64 (stepE s)) ∧ Below w.heap.size w w' := by
  have h0 : Below w.heap.size w (w.alloc (.cells #[.int .i64 s.k, .int .i64 s.x, .int .i64 s.y, .int .i64 s.z, .int .i64 s.f, .int .i64 s.n] 36)) := (by repeat (first | exact Below.refl _ _ | assumption | refine Below.drew ?_ | refine bdrewN ?_ _ | refine Below.setCell ?_ (by first | omega | (simp <;> omega)) _ | refine Below.alloc ?_ (by first | omega | (simp <;> omega)) _))
  have hq : (w.alloc (.cells #[.int .i64 s.k, .int .i64 s.x, .int .i64 s.y, .int .i64 s.z, .int .i64 s.f, .int .i64 s.n] 36)).heap[w.heap.size]? = some (.cells #[.int .i64 s.k, .int .i64 s.x, .int .i64 s.y, .int .i64 s.z, .int .i64 s.f, .int .i64 s.n] 36 (0, 0)) := heap_alloc_new w _
  have B0 := Lib.hid h0
  have Q0 := Lib.hid hq
  clear h0 hq
  go_enter Try.func34, Try.ntmps34
  go_wp2_with (fail)
  generalize (w.alloc (.cells #[.int .i64 s.k, .int .i64 s.x, .int .i64 s.y, .int .i64 s.z, .int .i64 s.f, .int .i64 s.n] 36)) = w1 at *
  have c0 := cell_of Q0.out (i := 0) rfl
  have c1 := cell_of Q0.out (i := 1) rfl
  have c2 := cell_of Q0.out (i := 2) rfl
  have c3 := cell_of Q0.out (i := 3) rfl
  have c4 := cell_of Q0.out (i := 4) rfl
  have c5 := cell_of Q0.out (i := 5) rfl
  go_wp2_with (fail)
  refine (isKind_any _ _).mono ?_
  rintro e w' ⟨rfl, rfl⟩
  rcases hk : inZ s.k 1 9 with _ | _
  · have HK := Lib.hid hk
    clear hk
    go_wp2_with (fail)
    go_ret
    exact ⟨by simp [stepE, HK.out], B0.out⟩
  have HK := Lib.hid hk
  clear hk
  go_wp2_with (fail)
  refine (isPlace_any s _).mono ?_
  rintro e w2 ⟨rfl, hb⟩
  have hb' := hb
  replace Q0 := Lib.hid (heap_keep hb Q0.out)
  replace B0 := Lib.hid (B0.out.trans (hb.mono B0.out.size))
  clear hb hb' c0 c1 c2 c3 c4 c5
  have c0 := cell_of Q0.out (i := 0) rfl
  have c1 := cell_of Q0.out (i := 1) rfl
  have c2 := cell_of Q0.out (i := 2) rfl
  have c3 := cell_of Q0.out (i := 3) rfl
  have c4 := cell_of Q0.out (i := 4) rfl
  have c5 := cell_of Q0.out (i := 5) rfl
  rcases hp : plB s with _ | _
  · have HP := Lib.hid hp
    clear hp
    go_wp2_with (fail)
    go_ret
    exact ⟨by simp [stepE, HK.out, HP.out], B0.out⟩
  have HP := Lib.hid hp
  clear hp
  go_wp2_with (fail)
  refine (within_any _ _ _ _).mono ?_
  rintro e w' ⟨rfl, rfl⟩
  rcases hf : inZ s.f 0 100000000 with _ | _
  · have HF := Lib.hid hf
    clear hf
    go_wp2_with (fail)
    go_ret
    exact ⟨by simp [stepE, HK.out, HP.out, HF.out], B0.out⟩
  have HF := Lib.hid hf
  clear hf
  go_wp2_with (fail)
  refine (isNumber_any s _).mono ?_
  rintro e w3 ⟨rfl, hb⟩
  have hb' := hb
  replace Q0 := Lib.hid (heap_keep hb Q0.out)
  replace B0 := Lib.hid (B0.out.trans (hb.mono B0.out.size))
  clear hb hb' c0 c1 c2 c3 c4 c5
  have c0 := cell_of Q0.out (i := 0) rfl
  have c1 := cell_of Q0.out (i := 1) rfl
  have c2 := cell_of Q0.out (i := 2) rfl
  have c3 := cell_of Q0.out (i := 3) rfl
  have c4 := cell_of Q0.out (i := 4) rfl
  have c5 := cell_of Q0.out (i := 5) rfl
  rcases hn : nuB s with _ | _
  · have HN := Lib.hid hn
    clear hn
    go_wp2_with (fail)
    go_ret
    exact ⟨by simp [stepE, HK.out, HP.out, HF.out, HN.out], B0.out⟩
  have HN := Lib.hid hn
  clear hn
  go_wp2_with (fail)
  refine (hasUnused_any s _ HK.out).mono ?_
  rintro e w4 ⟨rfl, hb⟩
  have hb' := hb
  replace Q0 := Lib.hid (heap_keep hb Q0.out)
  replace B0 := Lib.hid (B0.out.trans (hb.mono B0.out.size))
  clear hb hb' c0 c1 c2 c3 c4 c5
  have c0 := cell_of Q0.out (i := 0) rfl
  have c1 := cell_of Q0.out (i := 1) rfl
  have c2 := cell_of Q0.out (i := 2) rfl
  have c3 := cell_of Q0.out (i := 3) rfl
  have c4 := cell_of Q0.out (i := 4) rfl
  have c5 := cell_of Q0.out (i := 5) rfl
  by_cases hu : s = used s
  · have HU := Lib.hid hu
    have hd : decide (s = used s) = true := by rw [decide_eq_true_eq]; exact hu
    rw [hd]
    clear hu hd
    go_wp2_with (fail)
    go_ret
    exact ⟨ret_int (by unfold stepE; rw [HK.out, HP.out, HF.out, HN.out, if_pos HU.out]; rfl), B0.out⟩
  · have HU := Lib.hid hu
    have hd : decide (s = used s) = false := by rw [decide_eq_false_iff_not]; exact hu
    rw [hd]
    clear hu hd
    go_wp2_with (fail)
    go_ret
    exact ⟨ret_int (by unfold stepE; rw [HK.out, HP.out, HF.out, HN.out, if_neg HU.out]; rfl), B0.out⟩
set_option maxRecDepth 100000 in
set_option maxHeartbeats 4000000 in
theorem checkSteps_any (a : Option Addr) (n c : Nat) (S : Nat → St) (w : World) (hn : n ≤ 5000) (hp : StepsR w a n S) :
    Calls Try.prog 18 #[.slice a n c] w fun e w' => e = .returned (.int .i64 (stepsE n S)) ∧ Below w.heap.size w w' := by
  have HP := Lib.hid hp
  clear hp
  have l2 : ¬ (5000 : Int) < (n : Int) := by omega
  go_enter Try.func18, Try.ntmps18
  go_wp2_with (fail)
  go_loopw [11] (fun i wr => ∃ k : Nat, k ≤ n ∧ i = .int .i64 k ∧ (∀ j, j < k → stepE (S j) = 0) ∧ Below w.heap.size w wr) (fun i _ => n - (intOf i).toNat)
  case atStart => exact ⟨0, by omega, rfl, fun j hj => by omega, Below.refl _ _⟩
  case round =>
    obtain ⟨k, hk, rfl, hj, hbel⟩ := hrel
    have HJ := Lib.hid hj
    have HB := Lib.hid hbel
    have hsz := hbel.size
    clear hj hbel
    by_cases hlt : k < n
    · rcases HP.out with h0 | ⟨b, off, rfl, hb, hd⟩
      · omega
      obtain ⟨c0, c1, c2, c3, c4, c5⟩ := hd k hlt
      replace c0 := cellk HB.out hb c0
      replace c1 := cellk HB.out hb c1
      replace c2 := cellk HB.out hb c2
      replace c3 := cellk HB.out hb c3
      replace c4 := cellk HB.out hb c4
      replace c5 := cellk HB.out hb c5
      have hbw : b < wr.heap.size := by omega
      clear hd
      obtain ⟨s, hs⟩ : ∃ s, S k = s := ⟨_, rfl⟩
      have RS := Lib.hid hs
      rw [hs] at c0 c1 c2 c3 c4 c5
      clear hs
      go_wp2_with (fail)
      have hb1 : Below wr.heap.size wr (wr.alloc (.cells #[.int .i64 s.k, .int .i64 s.x, .int .i64 s.y, .int .i64 s.z, .int .i64 s.f, .int .i64 s.n] 36)) := (Below.refl _ _).alloc (Nat.le_refl _) _
      have B1 := Lib.hid (HB.out.trans (hb1.mono hsz))
      clear hb1 c0 c1 c2 c3 c4 c5
      generalize (wr.alloc (.cells #[.int .i64 s.k, .int .i64 s.x, .int .i64 s.y, .int .i64 s.z, .int .i64 s.f, .int .i64 s.n] 36)) = w1 at *
      refine (checkStep_any s _).mono ?_
      rintro e w2 ⟨rfl, hb2⟩
      have B2 := Lib.hid (B1.out.trans (hb2.mono B1.out.size))
      clear hb2
      by_cases hz : stepE s = 0
      · have HZ := Lib.hid hz
        have hz' : (stepE s != 0) = false := by simp [hz]
        clear hz
        go_wp2_with (fail)
        go_roundw
        case rel => exact ⟨k + 1, by omega, by go_num, fun j hj => (by
          rcases Nat.lt_or_ge j k with h | h
          · exact HJ.out j h
          · obtain rfl : j = k := by omega
            rw [RS.out]; exact HZ.out), B2.out⟩
        case measure => simp [intOf]; omega
      · have HZ := Lib.hid hz
        have hz' : (stepE s != 0) = true := by simpa using hz
        clear hz
        go_wp2_with (fail)
        go_ret
        exact ⟨ret_int (by rw [stepsE_at hlt HJ.out (by rw [RS.out]; exact HZ.out), RS.out]), B2.out⟩
    · obtain rfl : n = k := by omega
      go_wp2_with (fail)
      go_ret
      exact ⟨ret_int (stepsE_ok HJ.out).symm, HB.out⟩
end Go.Proofs.Ytgmpmaiddombeaa

/- The relative form of the reference; steps compared; small tests of steps. -/
import Derived.Test.YthmplflmjjccfaaQc
import Derived.Test.YthmplflmjjccfaaQs
set_option linter.unusedSimpArgs false
set_option linter.unusedVariables false
namespace Go.Proofs.Ythmplflmjjccfaa
open Go.RowKit
set_option maxRecDepth 100000 in
set_option maxHeartbeats 4000000 in
theorem equalS_any (a1 a2 : Option Addr) (n c1 c2 : Nat) (U : Nat → St) (w : World) (hn : n ≤ 5000) (h1 : StepsR w a1 n U) (h2 : StepsR w a2 n U) :
    Calls Try.prog 15 #[.slice a1 n c1, .slice a2 n c2] w fun e w' => e = .returned (.bool true) ∧ Below w.heap.size w w' := by
  have H1 := Lib.hid h1
  have H2 := Lib.hid h2
  clear h1 h2
  go_enter Try.func15, Try.ntmps15
  go_wp2_with (fail)
  go_loopw [13] (fun i wr => ∃ t : Nat, t ≤ n ∧ i = .int .i64 t ∧ Below w.heap.size w wr) (fun i _ => n - (intOf i).toNat)
  case atStart => exact ⟨0, by omega, rfl, Below.refl _ _⟩
  case round =>
    obtain ⟨t, ht, rfl, hbel⟩ := hrel
    have HB := Lib.hid hbel
    have hsz := hbel.size
    clear hbel
    by_cases hlt : t < n
    · rcases H1.out with h | ⟨b, off, rfl, hb, hd⟩
      · omega
      rcases H2.out with h | ⟨b2, off2, rfl, hb2, hd2⟩
      · omega
      obtain ⟨p0, p1, p2, p3, p4, p5⟩ := hd t hlt
      obtain ⟨q0, q1, q2, q3, q4, q5⟩ := hd2 t hlt
      obtain ⟨x, hx⟩ : ∃ x, U t = x := ⟨_, rfl⟩
      rw [hx] at p0 p1 p2 p3 p4 p5 q0 q1 q2 q3 q4 q5
      replace p0 := cellk HB.out hb p0
      replace q0 := cellk HB.out hb2 q0
      replace p1 := cellk HB.out hb p1
      replace q1 := cellk HB.out hb2 q1
      replace p2 := cellk HB.out hb p2
      replace q2 := cellk HB.out hb2 q2
      replace p3 := cellk HB.out hb p3
      replace q3 := cellk HB.out hb2 q3
      replace p4 := cellk HB.out hb p4
      replace q4 := cellk HB.out hb2 q4
      replace p5 := cellk HB.out hb p5
      replace q5 := cellk HB.out hb2 q5
      have hE := fun wx => neq_st x x wx
      have hv : (!decide (x = x)) = false := by simp
      rw [hv] at hE
      have hG := gd_st
      have hi0 : (0 : Int) ≤ (t : Int) := by omega
      have hi1 : (t : Int) < (n : Int) := by omega
      have hbw : b < wr.heap.size := by omega
      have hbw2 : b2 < wr.heap.size := by omega
      clear hd hd2 hx hv
      go_wp2_with (fail)
      go_quiet (fail)
      have HB2 := Lib.hid (bdrewN HB.out nq)
      clear p0 p1 p2 p3 p4 p5 q0 q1 q2 q3 q4 q5 hE
      go_wp2_with (fail)
      go_roundw
      case rel => exact ⟨t + 1, by omega, by go_num, HB2.out⟩
      case measure => simp [intOf] <;> omega
    · obtain rfl : n = t := by omega
      go_wp2_with (fail)
      go_ret
      exact ⟨rfl, HB.out⟩
set_option maxRecDepth 100000 in
set_option maxHeartbeats 4000000 in
theorem takesTime_any (s : St) (w : World) : Calls Try.prog 28 #[(.agg #[.int .i64 s.k, .int .i64 s.x, .int .i64 s.y, .int .i64 s.z, .int .i64 s.f, .int .i64 s.n])] w fun e w' => e = .returned (.bool (timeB s)) ∧ Below w.heap.size w w' := by
  rcases s with ⟨k, x, y, z, f, n⟩
  dsimp only
  by_cases h : k = 7
  · by_cases h2 : 0 < n
    · have HV := Lib.hid (show timeB ⟨k, x, y, z, f, n⟩ = true by unfold timeB; rw [decide_eq_true_eq]; exact ⟨h, h2⟩)
      rw [HV.out]
      subst h
      go_enter Try.func28, Try.ntmps28
      go_wp2_with (fail)
      go_ret
      exact ⟨by simp [h2], (by repeat (first | exact Below.refl _ _ | assumption | refine Below.drew ?_ | refine bdrewN ?_ _ | refine Below.setCell ?_ (by first | omega | (simp <;> omega)) _ | refine Below.alloc ?_ (by first | omega | (simp <;> omega)) _))⟩
    · have HV := Lib.hid (show timeB ⟨k, x, y, z, f, n⟩ = false by unfold timeB; rw [decide_eq_false_iff_not]; intro h'; exact h2 h'.2)
      rw [HV.out]
      subst h
      go_enter Try.func28, Try.ntmps28
      go_wp2_with (fail)
      go_ret
      exact ⟨by simp [h2], (by repeat (first | exact Below.refl _ _ | assumption | refine Below.drew ?_ | refine bdrewN ?_ _ | refine Below.setCell ?_ (by first | omega | (simp <;> omega)) _ | refine Below.alloc ?_ (by first | omega | (simp <;> omega)) _))⟩
  · have HV := Lib.hid (show timeB ⟨k, x, y, z, f, n⟩ = false by unfold timeB; rw [decide_eq_false_iff_not]; intro h'; exact h h'.1)
    have h' : (k == 7) = false := by simpa using h
    rw [HV.out]
    go_enter Try.func28, Try.ntmps28
    go_wp2_with (fail)
    go_ret
    exact ⟨by simp [h'], (by repeat (first | exact Below.refl _ _ | assumption | refine Below.drew ?_ | refine bdrewN ?_ _ | refine Below.setCell ?_ (by first | omega | (simp <;> omega)) _ | refine Below.alloc ?_ (by first | omega | (simp <;> omega)) _))⟩
set_option maxRecDepth 100000 in
set_option maxHeartbeats 4000000 in
theorem leavesAgain_any (s t : St) (w : World) : Calls Try.prog 26 #[(.agg #[.int .i64 s.k, .int .i64 s.x, .int .i64 s.y, .int .i64 s.z, .int .i64 s.f, .int .i64 s.n]), (.agg #[.int .i64 t.k, .int .i64 t.x, .int .i64 t.y, .int .i64 t.z, .int .i64 t.f, .int .i64 t.n])] w fun e w' => e = .returned (.bool (pairB s t)) ∧ Below w.heap.size w w' := by
  by_cases h : s.k = t.k
  · by_cases h3 : s.k = 3
    · have HV := Lib.hid (show pairB s t = true by unfold pairB; rw [decide_eq_true_eq]; exact ⟨h, .inl h3⟩)
      rw [HV.out, ← h, h3]
      go_enter Try.func26, Try.ntmps26
      go_wp2_with (fail)
      go_ret
      exact ⟨rfl, (by repeat (first | exact Below.refl _ _ | assumption | refine Below.drew ?_ | refine bdrewN ?_ _ | refine Below.setCell ?_ (by first | omega | (simp <;> omega)) _ | refine Below.alloc ?_ (by first | omega | (simp <;> omega)) _))⟩
    · by_cases h5 : s.k = 5
      · have HV := Lib.hid (show pairB s t = true by unfold pairB; rw [decide_eq_true_eq]; exact ⟨h, .inr h5⟩)
        rw [HV.out, ← h, h5]
        go_enter Try.func26, Try.ntmps26
        go_wp2_with (fail)
        go_ret
        exact ⟨rfl, (by repeat (first | exact Below.refl _ _ | assumption | refine Below.drew ?_ | refine bdrewN ?_ _ | refine Below.setCell ?_ (by first | omega | (simp <;> omega)) _ | refine Below.alloc ?_ (by first | omega | (simp <;> omega)) _))⟩
      · have HV := Lib.hid (show pairB s t = false by unfold pairB; rw [decide_eq_false_iff_not]; intro h'; exact h'.2.elim h3 h5)
        have h3' : (s.k == 3) = false := by simpa using h3
        have h5' : (s.k == 5) = false := by simpa using h5
        rw [HV.out, ← h]
        go_enter Try.func26, Try.ntmps26
        go_wp2_with (fail)
        go_ret
        exact ⟨by simp [h5'] <;> omega, (by repeat (first | exact Below.refl _ _ | assumption | refine Below.drew ?_ | refine bdrewN ?_ _ | refine Below.setCell ?_ (by first | omega | (simp <;> omega)) _ | refine Below.alloc ?_ (by first | omega | (simp <;> omega)) _))⟩
  · have HV := Lib.hid (show pairB s t = false by unfold pairB; rw [decide_eq_false_iff_not]; intro h'; exact h h'.1)
    have h' : (s.k == t.k) = false := by simpa using h
    rw [HV.out]
    go_enter Try.func26, Try.ntmps26
    go_wp2_with (fail)
    go_ret
    exact ⟨by simp [h'], (by repeat (first | exact Below.refl _ _ | assumption | refine Below.drew ?_ | refine bdrewN ?_ _ | refine Below.setCell ?_ (by first | omega | (simp <;> omega)) _ | refine Below.alloc ?_ (by first | omega | (simp <;> omega)) _))⟩
/-! ### RelativeOf -/
def relS (s : St) (a b : Ma) : St := toldS s (plR a b)
/-- The relative steps of a list, from a status on. -/
def relL (m : Ma) : List St → List St
  | [] => []
  | s :: r => relS s m (aft m s) :: relL (aft m s) r
theorem relL_snoc (m : Ma) (l : List St) (s : St) : relL m (l ++ [s]) = relL m l ++ [relS s (l.foldl aft m) (aft (l.foldl aft m) s)] := by
  induction l generalizing m with
  | nil => rfl
  | cons a r ih => simp only [List.cons_append, relL, ih, List.foldl_cons]
theorem relL_len (m : Ma) (l : List St) : (relL m l).length = l.length := by
  induction l generalizing m with
  | nil => rfl
  | cons a r ih => simp only [relL, List.length_cons, ih]
/-- The status after the absolute form is that after the steps, but for how places are told. -/
theorem absL_run {S : Nat → St} {n : Nat} (hok : ∀ i, i < n → SOk (S i)) : runL (absL S n) = { run S n with r := false } := by
  induction n with
  | zero => rfl
  | succ n ih =>
    have ih := ih (fun i hi => hok i (by omega))
    obtain ⟨s, hs⟩ : ∃ s, S n = s := ⟨_, rfl⟩
    obtain ⟨m, hm⟩ : ∃ m, run S n = m := ⟨_, rfl⟩
    rw [absL]
    by_cases hk : (S n).k = 1 ∨ (S n).k = 2
    · rw [if_pos hk, ih, run_succ, hs, hm]
      rw [hs] at hk
      unfold aft
      rcases hk with hk | hk <;> simp [hk]
    · rw [if_neg hk, runL_snoc, ih, run_succ, hs, hm]
      rw [hs] at hk
      unfold absS aft rch
      have h1 : ¬ s.k = 1 := fun h => hk (.inl h)
      have h2 : ¬ s.k = 2 := fun h => hk (.inr h)
      rcases m with ⟨mx, my, mz, ms, mh, mt, mf, mr⟩
      by_cases h3 : s.k = 3
      · simp [h3]
      · by_cases h4 : s.k = 4
        · simp [h4]
        · by_cases h5 : s.k = 5
          · simp [h5]
          · simp [h1, h2, h3, h4, h5]
            (repeat' split) <;> rfl
/-- Both relative forms are one. -/
theorem rel_same {S : Nat → St} {n : Nat} (hok : ∀ i, i < n → SOk (S i)) : relL m00 (absL S n) = toldL plR m00 S n := by
  induction n with
  | zero => rfl
  | succ n ih =>
    have hr := absL_run (n := n) (fun i hi => hok i (by omega))
    have hr2 := absL_run (n := n + 1) hok
    have ih := ih (fun i hi => hok i (by omega))
    rw [absL] at hr2 ⊢
    rw [toldL]
    by_cases hk : (S n).k = 1 ∨ (S n).k = 2
    · rw [if_pos hk, if_pos hk, ih]
    · rw [if_neg hk] at hr2
      rw [if_neg hk, if_neg hk, relL_snoc, ih]
      rw [runL_snoc] at hr2
      congr 1
      have e1 : (absL S n).foldl aft m00 = runL (absL S n) := rfl
      rw [e1, hr2, hr]
      unfold relS plR
      show [toldS (absS (S n) (run S (n + 1))) ⟨(run S (n + 1)).x - (run S n).x, (run S (n + 1)).y - (run S n).y, (run S (n + 1)).z - (run S n).z⟩] = [toldS (S n) ⟨(run S (n + 1)).x - (run S n).x, (run S (n + 1)).y - (run S n).y, (run S (n + 1)).z - (run S n).z⟩]
      obtain ⟨s, hs⟩ : ∃ s, S n = s := ⟨_, rfl⟩
      rw [hs]
      unfold toldS absS
      by_cases h3 : s.k = 3 ∨ s.k = 4
      · simp [h3]
      · by_cases h5 : s.k = 5
        · simp [h5]
        · simp [h3, h5]
end Go.Proofs.Ythmplflmjjccfaa

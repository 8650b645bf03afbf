/- The error of a path to be driven. -/
import Derived.Test.YtdanlnmdkneepaaUd
set_option linter.unusedSimpArgs false
set_option linter.unusedVariables false
namespace Go.Proofs.Ytdanlnmdkneepaa
open Go.RowKit

set_option maxRecDepth 100000 in
set_option maxHeartbeats 4000000 in
theorem first2_any (g : Nat) (a b : Int) (w : World) (hg : w.heap.size = g) : Calls Try.prog 91 #[.slice (some ⟨g, 0, none⟩) 2 2] (w.alloc (.cells #[.int .i64 a, .int .i64 b] 30)) fun e w' => e = .returned (.int .i64 (fstE a b)) ∧ w.alloc (.cells #[.int .i64 a, .int .i64 b] 30) = w' := by
  subst hg
  by_cases ha : a = 0
  · subst ha
    by_cases hb : b = 0
    · subst hb
      go_enter Try.func91, Try.ntmps91
      go_wp2
      refine wp_loop_rounds 3 ?_
      rw [rounds_succ]; go_wp2
      rw [rounds_succ]; go_wp2
      rw [rounds_succ]; go_wp2
      go_ret
      exact ⟨rfl, rfl⟩
    · have e1 : (b != 0) = true := by simpa using hb
      go_enter Try.func91, Try.ntmps91
      go_wp2
      refine wp_loop_rounds 3 ?_
      rw [rounds_succ]; go_wp2
      rw [rounds_succ]; go_wp2
      go_ret
      exact ⟨rfl, rfl⟩
  · have e1 : (a != 0) = true := by simpa using ha
    have HA := Lib.hid ha
    clear ha
    go_enter Try.func91, Try.ntmps91
    go_wp2
    refine wp_loop_rounds 3 ?_
    rw [rounds_succ]; go_wp2
    go_ret
    exact ⟨ret_int (by simp [fstE, HA.out]), rfl⟩

def pdE (p : Pth) (l : Int) : Int := if p.n = 0 then 8 else if 500 < p.n then 2 else if p.k = true ∧ p.n < 3 then 3 else fstE (ptE p.n p.X p.Y) (spanZ l 1 100000)
theorem pdE_is (p : Pth) (l : Int) : pdE p l = if pF p ≠ 0 then pF p else spanZ l 1 100000 := by
  unfold pdE pF fstE ptE
  by_cases h0 : p.n = 0
  · simp [h0]
  · by_cases h1 : 500 < p.n
    · simp [h0, h1]
    · by_cases h2 : p.k = true ∧ p.n < 3
      · simp [h0, h1, h2]
      · rw [if_neg h0, if_neg h1, if_neg h2, if_neg h0, if_neg h1, if_neg h2]
        by_cases h3 : allB p.n p.X p.Y = true
        · simp [h3]
        · simp [h3]
set_option maxRecDepth 100000 in
set_option maxHeartbeats 4000000 in
theorem PathFault_any (p : Pth) (l : Int) (w : World) (hn : p.n ≤ 1000) (hp : PtsR w p.a p.n p.X p.Y) :
    Calls Try.prog 49 #[.agg #[.slice p.a p.n p.c, .bool p.k], .int .i64 l] w fun e w' => e = .returned (.int .i64 (pdE p l)) ∧ Below w.heap.size w w' := by
  obtain ⟨a, n, c, X, Y, k⟩ := p
  dsimp only at *
  have HP := Lib.hid hp
  clear hp
  by_cases h0 : n = 0
  · subst h0
    go_enter Try.func49, Try.ntmps49
    go_wp2_with (fail)
    go_ret
    exact ⟨rfl, (by repeat (first | exact Below.refl _ _ | assumption | refine Below.drew ?_ | refine bdrewN ?_ _ | refine Below.setCell ?_ (by first | omega | (simp <;> omega)) _ | refine Below.alloc ?_ (by first | omega | (simp <;> omega)) _))⟩
  have h0' : ¬ (n : Int) = 0 := by omega
  by_cases h1 : 500 < n
  · have h1' : (500 : Int) < (n : Int) := by omega
    have R := Lib.hid (show pdE ⟨a, n, c, X, Y, k⟩ l = 2 by unfold pdE; rw [if_neg (show ¬ n = 0 from h0), if_pos (show 500 < n from h1)])
    clear h1
    go_enter Try.func49, Try.ntmps49
    go_wp2_with (fail)
    go_ret
    exact ⟨ret_int R.out.symm, (by repeat (first | exact Below.refl _ _ | assumption | refine Below.drew ?_ | refine bdrewN ?_ _ | refine Below.setCell ?_ (by first | omega | (simp <;> omega)) _ | refine Below.alloc ?_ (by first | omega | (simp <;> omega)) _))⟩
  have h1' : ¬ (500 : Int) < (n : Int) := by omega
  by_cases h2 : k = true ∧ n < 3
  · have R := Lib.hid (show pdE ⟨a, n, c, X, Y, k⟩ l = 3 by unfold pdE; rw [if_neg (show ¬ n = 0 from h0), if_neg (show ¬ 500 < n from h1), if_pos (show k = true ∧ n < 3 from h2)])
    obtain ⟨rfl, h3⟩ := h2
    have h3' : (n : Int) < 3 := by omega
    clear h1
    go_enter Try.func49, Try.ntmps49
    go_wp2_with (fail)
    go_ret
    exact ⟨ret_int R.out.symm, (by repeat (first | exact Below.refl _ _ | assumption | refine Below.drew ?_ | refine bdrewN ?_ _ | refine Below.setCell ?_ (by first | omega | (simp <;> omega)) _ | refine Below.alloc ?_ (by first | omega | (simp <;> omega)) _))⟩
  have R := Lib.hid (show pdE ⟨a, n, c, X, Y, k⟩ l = fstE (ptE n X Y) (spanZ l 1 100000) by unfold pdE; rw [if_neg (show ¬ n = 0 from h0), if_neg (show ¬ 500 < n from h1), if_neg (show ¬ (k = true ∧ n < 3) from h2)])
  rcases k with _ | _
  · go_enter Try.func49, Try.ntmps49
    go_wp2_with (fail)
    refine (pointFault_any a n c X Y _ (by omega) (HP.out.kept (by repeat (first | exact Below.refl _ _ | assumption | refine Below.drew ?_ | refine bdrewN ?_ _ | refine Below.setCell ?_ (by first | omega | (simp <;> omega)) _ | refine Below.alloc ?_ (by first | omega | (simp <;> omega)) _)))).mono ?_
    rintro e w1 ⟨rfl, hb1⟩
    have B1 := Lib.hid (show Below w.heap.size w w1 from Below.trans (by repeat (first | exact Below.refl _ _ | assumption | refine Below.drew ?_ | refine bdrewN ?_ _ | refine Below.setCell ?_ (by first | omega | (simp <;> omega)) _ | refine Below.alloc ?_ (by first | omega | (simp <;> omega)) _)) (hb1.mono (by simp <;> omega)))
    clear hb1
    go_wp2_with (go_at_call 32; refine (spanZ_any _ _ _ _).mono ?_; rintro e w' ⟨rfl, rfl⟩)
    refine (first2_any w1.heap.size _ _ w1 rfl).mono ?_
    rintro e w2 ⟨rfl, rfl⟩
    have hb : Below w1.heap.size w1 (w1.alloc (.cells #[.int .i64 (ptE n X Y), .int .i64 (spanZ l 1 100000)] 30)) := (by repeat (first | exact Below.refl _ _ | assumption | refine Below.drew ?_ | refine bdrewN ?_ _ | refine Below.setCell ?_ (by first | omega | (simp <;> omega)) _ | refine Below.alloc ?_ (by first | omega | (simp <;> omega)) _))
    have B2 := Lib.hid (B1.out.trans (hb.mono B1.out.size))
    clear hb
    go_wp2_with (fail)
    go_ret
    exact ⟨ret_int R.out.symm, B2.out⟩
  · have h3' : ¬ (n : Int) < 3 := by
      intro h
      exact h2 ⟨rfl, by omega⟩
    clear h2
    go_enter Try.func49, Try.ntmps49
    go_wp2_with (fail)
    refine (pointFault_any a n c X Y _ (by omega) (HP.out.kept (by repeat (first | exact Below.refl _ _ | assumption | refine Below.drew ?_ | refine bdrewN ?_ _ | refine Below.setCell ?_ (by first | omega | (simp <;> omega)) _ | refine Below.alloc ?_ (by first | omega | (simp <;> omega)) _)))).mono ?_
    rintro e w1 ⟨rfl, hb1⟩
    have B1 := Lib.hid (show Below w.heap.size w w1 from Below.trans (by repeat (first | exact Below.refl _ _ | assumption | refine Below.drew ?_ | refine bdrewN ?_ _ | refine Below.setCell ?_ (by first | omega | (simp <;> omega)) _ | refine Below.alloc ?_ (by first | omega | (simp <;> omega)) _)) (hb1.mono (by simp <;> omega)))
    clear hb1
    go_wp2_with (go_at_call 32; refine (spanZ_any _ _ _ _).mono ?_; rintro e w' ⟨rfl, rfl⟩)
    refine (first2_any w1.heap.size _ _ w1 rfl).mono ?_
    rintro e w2 ⟨rfl, rfl⟩
    have hb : Below w1.heap.size w1 (w1.alloc (.cells #[.int .i64 (ptE n X Y), .int .i64 (spanZ l 1 100000)] 30)) := (by repeat (first | exact Below.refl _ _ | assumption | refine Below.drew ?_ | refine bdrewN ?_ _ | refine Below.setCell ?_ (by first | omega | (simp <;> omega)) _ | refine Below.alloc ?_ (by first | omega | (simp <;> omega)) _))
    have B2 := Lib.hid (B1.out.trans (hb.mono B1.out.size))
    clear hb
    go_wp2_with (fail)
    go_ret
    exact ⟨ret_int R.out.symm, B2.out⟩
end Go.Proofs.Ytdanlnmdkneepaa

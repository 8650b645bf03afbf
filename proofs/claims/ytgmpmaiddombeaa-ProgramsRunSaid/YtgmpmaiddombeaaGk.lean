/- The statuses that last, and how long is waited in them: by the program. -/
import Derived.Test.YtgmpmaiddombeaaGj
import Derived.BigQuiet
import Derived.Deep.QuietTactic
set_option linter.unusedSimpArgs false
set_option linter.unusedVariables false
namespace Go.Proofs.Ytgmpmaiddombeaa
open Go.RowKit
def nor (m : Ma) : Ma := { m with r := false }
/-- What is told by the reference: each new status, how long was waited before it, and how long behind the last one. -/
def mo (S : Nat → St) : Nat → List (Ma × Int) × Int
  | 0 => ([], 0)
  | n + 1 =>
    if nor (run S (n + 1)) = nor (run S n) then ((mo S n).1, if (S n).k = 7 then (mo S n).2 + (S n).n else (mo S n).2)
    else ((mo S n).1 ++ [(nor (run S (n + 1)), if (S n).k = 7 then (mo S n).2 + (S n).n else (mo S n).2)], 0)
def rebuild (m : Ma) : List (Ma × Int) → Int → List (Ma × Int)
  | [], t => [(m, t)]
  | (x, u) :: r, t => (m, u) :: rebuild x r t
def bd (m : Ma) : List (Ma × Int) → List (Ma × Int)
  | [] => []
  | (x, u) :: r => (m, u) :: bd x r
def lst (m : Ma) : List (Ma × Int) → Ma
  | [] => m
  | (x, _) :: r => lst x r
theorem rebuild_eq (m : Ma) (o : List (Ma × Int)) (t : Int) : rebuild m o t = bd m o ++ [(lst m o, t)] := by
  induction o generalizing m with
  | nil => rfl
  | cons a r ih => obtain ⟨x, u⟩ := a; simp [rebuild, bd, lst, ih]
theorem rebuild_snoc (m x : Ma) (o : List (Ma × Int)) (u t : Int) : rebuild m (o ++ [(x, u)]) t = rebuild m o u ++ [(x, t)] := by
  induction o generalizing m with
  | nil => rfl
  | cons a r ih => obtain ⟨y, v⟩ := a; simp [rebuild, ih]
theorem lst_snoc (m x : Ma) (o : List (Ma × Int)) (u : Int) : lst m (o ++ [(x, u)]) = x := by
  induction o generalizing m with
  | nil => rfl
  | cons a r ih => obtain ⟨y, v⟩ := a; simp [lst, ih]
theorem rebuild_len (m : Ma) (o : List (Ma × Int)) (t : Int) : (rebuild m o t).length = o.length + 1 := by
  induction o generalizing m with
  | nil => rfl
  | cons a r ih => obtain ⟨y, v⟩ := a; simp [rebuild, ih]
theorem bd_len (m : Ma) (o : List (Ma × Int)) : (bd m o).length = o.length := by
  induction o generalizing m with
  | nil => rfl
  | cons a r ih => obtain ⟨y, v⟩ := a; simp [bd, ih]
theorem rebuild_inj {m : Ma} {o o' : List (Ma × Int)} {t t' : Int} (h : rebuild m o t = rebuild m o' t') : o = o' ∧ t = t' := by
  induction o generalizing m o' with
  | nil =>
    cases o' with
    | nil => simp [rebuild] at h; exact ⟨rfl, h⟩
    | cons a r =>
      obtain ⟨y, v⟩ := a
      have := congrArg List.length h
      simp [rebuild, rebuild_len] at this
  | cons a r ih =>
    obtain ⟨x, u⟩ := a
    cases o' with
    | nil =>
      have := congrArg List.length h
      simp [rebuild, rebuild_len] at this
    | cons a' r' =>
      obtain ⟨y, v⟩ := a'
      simp only [rebuild, List.cons.injEq, Prod.mk.injEq, true_and] at h
      obtain ⟨rfl, h⟩ := h
      have hxy : x = y := by
        cases r with
        | nil =>
          cases r' with
          | nil => simp [rebuild] at h; exact h.1
          | cons b q => obtain ⟨b1, b2⟩ := b; have := congrArg List.length h; simp [rebuild, rebuild_len] at this
        | cons b q =>
          obtain ⟨b1, b2⟩ := b
          cases r' with
          | nil => have := congrArg List.length h; simp [rebuild, rebuild_len] at this
          | cons b' q' => obtain ⟨b1', b2'⟩ := b'; simp only [rebuild, List.cons.injEq, Prod.mk.injEq] at h; exact h.1.1
      subst hxy
      obtain ⟨rfl, rfl⟩ := ih h
      exact ⟨rfl, rfl⟩
theorem mo_lst (S : Nat → St) (n : Nat) : lst m00 (mo S n).1 = nor (run S n) := by
  induction n with
  | zero => rfl
  | succ n ih =>
    rw [mo]
    split
    · rename_i h; rw [ih, h]
    · exact lst_snoc _ _ _ _
theorem mo_len (S : Nat → St) (n : Nat) : (mo S n).1.length ≤ n := by
  induction n with
  | zero => simp [mo]
  | succ n ih =>
    rw [mo]
    split
    · exact Nat.le_succ_of_le ih
    · simp only [List.length_append, List.length_cons, List.length_nil]; omega
theorem mo_bnd {S : Nat → St} {n : Nat} (h : ∀ i, i < n → SOk (S i)) : 0 ≤ (mo S n).2 ∧ (mo S n).2 ≤ 10000000 * (n : Int) := by
  induction n with
  | zero => simp [mo]
  | succ n ih =>
    have h1 := ih (fun i hi => h i (by omega))
    have h2 := (h n (by omega)).n
    rw [mo]
    split
    · dsimp only; split <;> omega
    · dsimp only; omega
/-- The statuses that last, each with how long is waited in it. -/
def syL (S : Nat → St) (n : Nat) : List (Ma × Int) := rebuild m00 (mo S n).1 (mo S n).2
theorem syL_eq (S : Nat → St) (n : Nat) : syL S n = bd m00 (mo S n).1 ++ [(nor (run S n), (mo S n).2)] := by unfold syL; rw [rebuild_eq, mo_lst]
theorem syL_len (S : Nat → St) (n : Nat) : (syL S n).length = (mo S n).1.length + 1 := rebuild_len _ _ _
theorem syL_inj {S T : Nat → St} {n m : Nat} : syL S n = syL T m ↔ (mo S n).1 = (mo T m).1 ∧ (mo S n).2 = (mo T m).2 :=
  ⟨fun h => rebuild_inj h, fun h => by unfold syL; rw [h.1, h.2]⟩
theorem syL_wait {S : Nat → St} {n : Nat} (h : (S n).k = 7) : syL S (n + 1) = bd m00 (mo S n).1 ++ [(nor (run S n), (mo S n).2 + (S n).n)] := by
  have hr : run S (n + 1) = run S n := by rw [run_succ]; unfold aft; simp [h]
  have hm : mo S (n + 1) = ((mo S n).1, (mo S n).2 + (S n).n) := by rw [mo, if_pos (by rw [hr]), if_pos h]
  rw [syL_eq, hm, hr]
theorem syL_same {S : Nat → St} {n : Nat} (h : (S n).k ≠ 7) (he : nor (run S (n + 1)) = nor (run S n)) : syL S (n + 1) = syL S n := by
  have hm : mo S (n + 1) = ((mo S n).1, (mo S n).2) := by rw [mo, if_pos he, if_neg h]
  rw [syL_eq, hm, syL_eq, he]
theorem syL_new {S : Nat → St} {n : Nat} (h : (S n).k ≠ 7) (he : nor (run S (n + 1)) ≠ nor (run S n)) : syL S (n + 1) = syL S n ++ [(nor (run S (n + 1)), 0)] := by
  have hm : mo S (n + 1) = ((mo S n).1 ++ [(nor (run S (n + 1)), (mo S n).2)], 0) := by rw [mo, if_neg he, if_neg h]
  unfold syL
  rw [hm, rebuild_snoc]
theorem run_wait {S : Nat → St} {n : Nat} (h : (S n).k = 7) : run S (n + 1) = run S n := by rw [run_succ]; unfold aft; simp [h]
def yV (y : Ma × Int) : List Value := [.int .i64 y.1.x, .int .i64 y.1.y, .int .i64 y.1.z, .int .i64 y.1.s, .int .i64 y.1.h, .int .i64 y.1.t, .int .i64 y.1.f, .bool y.1.r, .int .i64 y.2]
def rowL (l : List (Ma × Int)) : List Value := l.flatMap yV
theorem rowL_len (l : List (Ma × Int)) : (rowL l).length = l.length * 9 := by
  induction l with
  | nil => rfl
  | cons a r ih => simp only [rowL, List.flatMap_cons, List.length_append, List.length_cons] at ih ⊢; rw [ih]; simp [yV]; omega
theorem rowL_app (l m : List (Ma × Int)) : rowL (l ++ m) = rowL l ++ rowL m := by simp [rowL]
theorem rowL_get {l : List (Ma × Int)} {i j : Nat} (hi : i < l.length) (hj : j < 9) : (rowL l)[i * 9 + j]? = (yV (l.getD i (m00, 0)))[j]? := by
  induction l generalizing i with
  | nil => simp at hi
  | cons a r ih =>
    have hl : (yV a).length = 9 := rfl
    simp only [rowL, List.flatMap_cons]
    match i with
    | 0 => rw [List.getElem?_append_left (by omega)]; simp
    | i + 1 =>
      rw [List.getElem?_append_right (by omega), hl, show (i + 1) * 9 + j - 9 = i * 9 + j by omega]
      have := ih (i := i) (by simpa using hi)
      simpa [rowL] using this
theorem rowL_last {d : List (Ma × Int)} {c : Ma} {t u : Int} : (rowL (d ++ [(c, t)])).set (d.length * 9 + 8) (.int .i64 u) = rowL (d ++ [(c, u)]) := by
  rw [rowL_app, rowL_app, List.set_append_right _ _ (by rw [rowL_len]; omega), rowL_len, Nat.add_sub_cancel_left]
  rfl
theorem own_set {w : World} {base n c g o size : Nat} {e : TypeId} {xs : List Value} {u : Value} (h : w.ownsRow base e size (.slice (some ⟨g, 0, none⟩) n c) n xs) : (w.setCell ⟨g, o, none⟩ u).ownsRow base e size (.slice (some ⟨g, 0, none⟩) n c) n (xs.set o u) := by
  obtain ⟨h1, h2⟩ := h
  refine ⟨by simpa using h1, ?_⟩
  rcases h2 with ⟨h2, _⟩ | ⟨g', cap, cur, hv, hb, hh, hn, hm, hs, hx⟩
  · cases h2
  · cases hv
    refine .inr ⟨g, c, cur.setIfInBounds o u, rfl, hb, ?_, hn, hm, by simpa using hs, ?_⟩
    · simp [World.setCell, Array.getElem?_modify, hh]
    · rw [← hx]; simp [List.take_set]
/-- What the closure of stays keeps. -/
def StayInv (p q r0 base : Nat) (a : Option Addr) (n c : Nat) (S : Nat → St) (i : Nat) (w : World) : Prop :=
  ∃ g co, w.heap[p]? = some (.cells #[.slice (some ⟨g, 0, none⟩) (syL S i).length co] 60 (0, 0)) ∧ w.heap[q]? = some (.cells #[.slice a n c] 26 (0, 0)) ∧
    w.ownsRow r0 62 9 (.slice (some ⟨g, 0, none⟩) (syL S i).length co) (syL S i).length (rowL (syL S i)) ∧ (g = r0 ∨ base + 2 ≤ g) ∧ StepsR w a n S
theorem info_stay : (Try.prog.info? 62).map (fun i => (i.zero, i.size, i.bytes)) = some (some (.agg #[.int .i64 0, .int .i64 0, .int .i64 0, .int .i64 0, .int .i64 0, .int .i64 0, .int .i64 0, .bool false, .int .i64 0]), 9, 72) := by kernel_rfl
theorem info_mom : (Try.prog.info? 71).map (fun i => (i.zero, i.size, i.bytes)) = some (some (.agg #[.int .i64 0, .int .i64 0, .int .i64 0, .int .i64 0, .int .i64 0, .int .i64 0, .int .i64 0, .bool false, .int .i64 0]), 9, 72) := by kernel_rfl
end Go.Proofs.Ytgmpmaiddombeaa

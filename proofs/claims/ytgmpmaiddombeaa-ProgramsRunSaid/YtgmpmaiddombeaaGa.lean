/- Programs: steps and statuses of a printer, their errors, what a step does; values of steps and of statuses compared. -/
import Derived.Test.YtgmpmaiddombeaaHold
import Derived.Laws.BitsLemmas
import Derived.Laws.StructEq
set_option linter.unusedSimpArgs false
set_option linter.unusedVariables false
namespace Go.Proofs.Ytgmpmaiddombeaa
open Go.RowKit

theorem i64w {n : Int} (h : -9000000000000000000 ≤ n ∧ n ≤ 9000000000000000000) : IntKind.i64.wrap n = n := by rw [IntKind.wrap_i64]; omega
/-- A step. -/
structure St where
  k : Int
  x : Int
  y : Int
  z : Int
  f : Int
  n : Int
deriving DecidableEq
/-- A status. -/
structure Ma where
  x : Int
  y : Int
  z : Int
  s : Int
  h : Int
  t : Int
  f : Int
  r : Bool
deriving DecidableEq
def s00 : St := ⟨0, 0, 0, 0, 0, 0⟩
def m00 : Ma := ⟨0, 0, 0, 0, 0, 0, 0, false⟩
/-- Steps in memory, or none. -/
def StepsR (w : World) (a : Option Addr) (n : Nat) (S : Nat → St) : Prop :=
  n = 0 ∨ ∃ b off, a = some ⟨b, off, none⟩ ∧ b < w.heap.size ∧ ∀ i, i < n → w.cell? ⟨b, off + i * 6, none⟩ = some (.int .i64 (S i).k) ∧ w.cell? ⟨b, off + i * 6 + 1, none⟩ = some (.int .i64 (S i).x) ∧ w.cell? ⟨b, off + i * 6 + 2, none⟩ = some (.int .i64 (S i).y) ∧ w.cell? ⟨b, off + i * 6 + 3, none⟩ = some (.int .i64 (S i).z) ∧ w.cell? ⟨b, off + i * 6 + 4, none⟩ = some (.int .i64 (S i).f) ∧ w.cell? ⟨b, off + i * 6 + 5, none⟩ = some (.int .i64 (S i).n)
theorem StepsR.kept {w w' : World} {a : Option Addr} {n : Nat} {S : Nat → St} (h : StepsR w a n S) (hb : Below w.heap.size w w') : StepsR w' a n S := by
  rcases h with h | ⟨b, off, rfl, h1, h2⟩
  · exact .inl h
  · exact .inr ⟨b, off, rfl, Nat.lt_of_lt_of_le h1 hb.size, fun i hi => by
      obtain ⟨p0, p1, p2, p3, p4, p5⟩ := h2 i hi
      exact ⟨cellk hb h1 p0, cellk hb h1 p1, cellk hb h1 p2, cellk hb h1 p3, cellk hb h1 p4, cellk hb h1 p5⟩⟩
theorem StepsR.mut {w w' : World} {B n : Nat} {a : Option Addr} {S : Nat → St} (h : StepsR w a n S) (hm : Mut (· = B) w w') (hb : ∀ x, a = some x → B < x.block) : StepsR w' a n S := by
  rcases h with h | ⟨b, off, rfl, h1, h2⟩
  · exact .inl h
  · have h3 := hb _ rfl
    have hne : ¬ b = B := by have : B < b := h3; omega
    exact .inr ⟨b, off, rfl, Nat.lt_of_lt_of_le h1 hm.size, fun i hi => by
      obtain ⟨p0, p1, p2, p3, p4, p5⟩ := h2 i hi
      exact ⟨(hm.cell h1 hne).trans p0, (hm.cell h1 hne).trans p1, (hm.cell h1 hne).trans p2, (hm.cell h1 hne).trans p3, (hm.cell h1 hne).trans p4, (hm.cell h1 hne).trans p5⟩⟩
theorem StepsR.le {w : World} {a : Option Addr} {n m : Nat} {S : Nat → St} (h : StepsR w a n S) (hm : m ≤ n) : StepsR w a m S := by
  rcases h with h | ⟨b, off, rfl, h1, h2⟩
  · exact .inl (by omega)
  · exact .inr ⟨b, off, rfl, h1, fun i hi => h2 i (by omega)⟩
/-- Statuses in memory, or none. -/
def MasR (w : World) (a : Option Addr) (n : Nat) (M : Nat → Ma) : Prop :=
  n = 0 ∨ ∃ b off, a = some ⟨b, off, none⟩ ∧ b < w.heap.size ∧ ∀ i, i < n → w.cell? ⟨b, off + i * 8, none⟩ = some (.int .i64 (M i).x) ∧ w.cell? ⟨b, off + i * 8 + 1, none⟩ = some (.int .i64 (M i).y) ∧ w.cell? ⟨b, off + i * 8 + 2, none⟩ = some (.int .i64 (M i).z) ∧ w.cell? ⟨b, off + i * 8 + 3, none⟩ = some (.int .i64 (M i).s) ∧ w.cell? ⟨b, off + i * 8 + 4, none⟩ = some (.int .i64 (M i).h) ∧ w.cell? ⟨b, off + i * 8 + 5, none⟩ = some (.int .i64 (M i).t) ∧ w.cell? ⟨b, off + i * 8 + 6, none⟩ = some (.int .i64 (M i).f) ∧ w.cell? ⟨b, off + i * 8 + 7, none⟩ = some (.bool (M i).r)
theorem MasR.kept {w w' : World} {a : Option Addr} {n : Nat} {M : Nat → Ma} (h : MasR w a n M) (hb : Below w.heap.size w w') : MasR w' a n M := by
  rcases h with h | ⟨b, off, rfl, h1, h2⟩
  · exact .inl h
  · exact .inr ⟨b, off, rfl, Nat.lt_of_lt_of_le h1 hb.size, fun i hi => by
      obtain ⟨p0, p1, p2, p3, p4, p5, p6, p7⟩ := h2 i hi
      exact ⟨cellk hb h1 p0, cellk hb h1 p1, cellk hb h1 p2, cellk hb h1 p3, cellk hb h1 p4, cellk hb h1 p5, cellk hb h1 p6, cellk hb h1 p7⟩⟩

/-! ### What is wrong with a step -/
def inZ (n lo hi : Int) : Bool := decide (lo ≤ n) && decide (n ≤ hi)
theorem inZ_yes {n lo hi : Int} (h : inZ n lo hi = true) : lo ≤ n ∧ n ≤ hi := by unfold inZ at h; rw [Bool.and_eq_true, decide_eq_true_eq, decide_eq_true_eq] at h; exact h
def plB (s : St) : Bool := inZ s.x (-200000) 200000 && inZ s.y (-200000) 200000 && inZ s.z (-1000000) 1000000
def nuB (s : St) : Bool := if s.k = 6 then inZ s.n 1 100000 else if s.k = 7 then inZ s.n 0 10000000 else if s.k = 8 then inZ s.n 0 500 else if s.k = 9 then inZ s.n 0 9 else true
/-- The step with what it uses alone. -/
def used (s : St) : St :=
  if s.k = 3 then { s00 with k := s.k, x := s.x, y := s.y } else if s.k = 4 then { s00 with k := s.k, x := s.x, y := s.y, f := s.f } else if s.k = 5 then { s00 with k := s.k, z := s.z } else if 6 ≤ s.k ∧ s.k ≤ 9 then { s00 with k := s.k, n := s.n } else { s00 with k := s.k }
def stepE (s : St) : Int := if inZ s.k 1 9 = false then 4 else if (plB s && inZ s.f 0 100000000 && nuB s) = false then 1 else if s = used s then 0 else 3
structure SOk (s : St) : Prop where
  k : 1 ≤ s.k ∧ s.k ≤ 9
  x : -200000 ≤ s.x ∧ s.x ≤ 200000
  y : -200000 ≤ s.y ∧ s.y ≤ 200000
  z : -1000000 ≤ s.z ∧ s.z ≤ 1000000
  f : 0 ≤ s.f ∧ s.f ≤ 100000000
  n : 0 ≤ s.n ∧ s.n ≤ 10000000
  u : s = used s
theorem sok {s : St} (h : stepE s = 0) : SOk s := by
  unfold stepE at h
  by_cases h1 : inZ s.k 1 9 = false
  · rw [if_pos h1] at h; cases h
  rw [if_neg h1] at h
  by_cases h2 : (plB s && inZ s.f 0 100000000 && nuB s) = false
  · rw [if_pos h2] at h; cases h
  rw [if_neg h2] at h
  by_cases h3 : s = used s
  · rw [Bool.not_eq_false] at h1 h2
    rw [Bool.and_eq_true, Bool.and_eq_true] at h2
    obtain ⟨⟨g1, g2⟩, g3⟩ := h2
    unfold plB at g1
    rw [Bool.and_eq_true, Bool.and_eq_true] at g1
    refine ⟨inZ_yes h1, inZ_yes g1.1.1, inZ_yes g1.1.2, inZ_yes g1.2, inZ_yes g2, ?_, h3⟩
    unfold nuB at g3
    have h1' := inZ_yes h1
    split at g3
    · have := inZ_yes g3; omega
    · split at g3
      · have := inZ_yes g3; omega
      · split at g3
        · have := inZ_yes g3; omega
        · split at g3
          · have := inZ_yes g3; omega
          · have hn : s.n = 0 := by
              rw [h3]
              unfold used
              split
              · rfl
              · split
                · rfl
                · split
                  · rfl
                  · split
                    · omega
                    · rfl
            omega
  · rw [if_neg h3] at h; cases h
/-- The first error of steps. -/
def stepsE : Nat → (Nat → St) → Int
  | 0, _ => 0
  | n + 1, S => if stepE (S 0) = 0 then stepsE n (fun i => S (i + 1)) else stepE (S 0)
theorem stepsE_ok {n : Nat} {S : Nat → St} (h : ∀ i, i < n → stepE (S i) = 0) : stepsE n S = 0 := by
  induction n generalizing S with
  | zero => rfl
  | succ n ih => rw [stepsE, if_pos (h 0 (by omega))]; exact ih (fun i hi => h (i + 1) (by omega))
theorem stepsE_at {n k : Nat} {S : Nat → St} (hk : k < n) (h : ∀ i, i < k → stepE (S i) = 0) (hn : stepE (S k) ≠ 0) : stepsE n S = stepE (S k) := by
  induction n generalizing S k with
  | zero => omega
  | succ n ih =>
    rw [stepsE]
    match k with
    | 0 => rw [if_neg hn]
    | k + 1 => rw [if_pos (h 0 (by omega))]; exact ih (S := fun i => S (i + 1)) (by omega) (fun i hi => h (i + 1) (by omega)) hn
theorem stepsE_zero {n : Nat} {S : Nat → St} (h : stepsE n S = 0) : ∀ i, i < n → stepE (S i) = 0 := by
  induction n generalizing S with
  | zero => intro i hi; omega
  | succ n ih =>
    rw [stepsE] at h
    by_cases h0 : stepE (S 0) = 0
    · rw [if_pos h0] at h
      intro i hi
      match i with
      | 0 => exact h0
      | i + 1 => exact ih h i (by omega)
    · rw [if_neg h0] at h; exact absurd h h0
theorem stepsE_ext {n : Nat} {S T : Nat → St} (h : ∀ i, i < n → S i = T i) : stepsE n S = stepsE n T := by
  induction n generalizing S T with
  | zero => rfl
  | succ n ih => rw [stepsE, stepsE, h 0 (by omega), ih (fun i hi => h (i + 1) (by omega))]

/-! ### What a step does -/
def rch (r : Bool) (a t : Int) : Int := if r = true then a + t else t
def aft (m : Ma) (s : St) : Ma :=
  if s.k = 1 then { m with r := false } else if s.k = 2 then { m with r := true } else
  if s.k = 3 ∨ s.k = 4 then { m with x := rch m.r m.x s.x, y := rch m.r m.y s.y, f := m.f + s.f } else
  if s.k = 5 then { m with z := rch m.r m.z s.z } else if s.k = 6 then { m with s := s.n } else if s.k = 8 then { m with h := s.n } else if s.k = 9 then { m with t := s.n } else m
def runF (m : Ma) (S : Nat → St) : Nat → Ma
  | 0 => m
  | n + 1 => aft (runF m S n) (S n)
def run (S : Nat → St) (n : Nat) : Ma := runF m00 S n
theorem run_zero {S : Nat → St} : run S 0 = m00 := rfl
theorem run_succ {S : Nat → St} {n : Nat} : run S (n + 1) = aft (run S n) (S n) := rfl
/-- A status after at most i steps. -/
structure MB (i : Nat) (m : Ma) : Prop where
  x : -(200000 * (i : Int)) ≤ m.x ∧ m.x ≤ 200000 * (i : Int)
  y : -(200000 * (i : Int)) ≤ m.y ∧ m.y ≤ 200000 * (i : Int)
  z : -(1000000 * (i : Int)) ≤ m.z ∧ m.z ≤ 1000000 * (i : Int)
  f : 0 ≤ m.f ∧ m.f ≤ 100000000 * (i : Int)
  s : 0 ≤ m.s ∧ m.s ≤ 10000000
theorem mb0 : MB 0 m00 := ⟨by simp [m00], by simp [m00], by simp [m00], by simp [m00], by simp [m00]⟩
theorem MB.aft {i : Nat} {m : Ma} {s : St} (h : MB i m) (hs : SOk s) : MB (i + 1) (aft m s) := by
  obtain ⟨h1, h2, h3, h4, h5⟩ := h
  obtain ⟨g0, g1, g2, g3, g4, g5, _⟩ := hs
  unfold Go.Proofs.Ytgmpmaiddombeaa.aft rch
  split
  · refine ⟨?_, ?_, ?_, ?_, ?_⟩ <;> dsimp only <;> omega
  split
  · refine ⟨?_, ?_, ?_, ?_, ?_⟩ <;> dsimp only <;> omega
  split
  · refine ⟨?_, ?_, ?_, ?_, ?_⟩ <;> dsimp only <;> (try split) <;> omega
  split
  · refine ⟨?_, ?_, ?_, ?_, ?_⟩ <;> dsimp only <;> (try split) <;> omega
  split
  · refine ⟨?_, ?_, ?_, ?_, ?_⟩ <;> dsimp only <;> omega
  split
  · refine ⟨?_, ?_, ?_, ?_, ?_⟩ <;> dsimp only <;> omega
  split
  · refine ⟨?_, ?_, ?_, ?_, ?_⟩ <;> dsimp only <;> omega
  · refine ⟨?_, ?_, ?_, ?_, ?_⟩ <;> omega
theorem runF_mb {m : Ma} {j n : Nat} {S : Nat → St} (hm : MB j m) (h : ∀ i, i < n → SOk (S i)) : MB (j + n) (runF m S n) := by
  induction n with
  | zero => exact hm
  | succ n ih => exact (ih (fun i hi => h i (by omega))).aft (h n (by omega))
theorem run_mb {n : Nat} {S : Nat → St} (h : ∀ i, i < n → SOk (S i)) : MB n (run S n) := by
  have := runF_mb mb0 h
  rwa [Nat.zero_add] at this
theorem runF_ext {m : Ma} {n : Nat} {S T : Nat → St} (h : ∀ i, i < n → S i = T i) : runF m S n = runF m T n := by
  induction n with
  | zero => rfl
  | succ n ih => rw [runF, runF, h n (by omega), ih (fun i hi => h i (by omega))]
theorem run_ext {n : Nat} {S T : Nat → St} (h : ∀ i, i < n → S i = T i) : run S n = run T n := runF_ext h

/-! ### Values compared -/
theorem st_st : Try.prog.stoodInHeld 36 = false := by kernel_rfl
theorem gd_st : Try.prog.eqGuardType Try.prog.depth 36 = false := by kernel_rfl
theorem st_ma : Try.prog.stoodInHeld 42 = false := by kernel_rfl
theorem gd_ma : Try.prog.eqGuardType Try.prog.depth 42 = false := by kernel_rfl
theorem neq_st (s t : St) (w : World) : (Go.binOp .neq 36 (.agg #[.int .i64 s.k, .int .i64 s.x, .int .i64 s.y, .int .i64 s.z, .int .i64 s.f, .int .i64 s.n]) (.agg #[.int .i64 t.k, .int .i64 t.x, .int .i64 t.y, .int .i64 t.z, .int .i64 t.f, .int .i64 t.n])).run Try.prog w = Result.ok (.bool (!decide (s = t))) w := by
  rw [run_neq_struct, run_equalIn_agg (ht := by kernel_rfl) (hp := st_st)]
  rcases s with ⟨a0, a1, a2, a3, a4, a5⟩
  rcases t with ⟨b0, b1, b2, b3, b4, b5⟩
  simp [go_sem]
  repeat' split
  all_goals simp_all
theorem eql_st (s t : St) (w : World) : (Go.binOp .eql 36 (.agg #[.int .i64 s.k, .int .i64 s.x, .int .i64 s.y, .int .i64 s.z, .int .i64 s.f, .int .i64 s.n]) (.agg #[.int .i64 t.k, .int .i64 t.x, .int .i64 t.y, .int .i64 t.z, .int .i64 t.f, .int .i64 t.n])).run Try.prog w = Result.ok (.bool (decide (s = t))) w := by
  rw [run_eql_struct, run_equalIn_agg (ht := by kernel_rfl) (hp := st_st)]
  rcases s with ⟨a0, a1, a2, a3, a4, a5⟩
  rcases t with ⟨b0, b1, b2, b3, b4, b5⟩
  simp [go_sem]
  repeat' split
  all_goals simp_all
theorem neq_ma (s t : Ma) (w : World) : (Go.binOp .neq 42 (.agg #[.int .i64 s.x, .int .i64 s.y, .int .i64 s.z, .int .i64 s.s, .int .i64 s.h, .int .i64 s.t, .int .i64 s.f, .bool s.r]) (.agg #[.int .i64 t.x, .int .i64 t.y, .int .i64 t.z, .int .i64 t.s, .int .i64 t.h, .int .i64 t.t, .int .i64 t.f, .bool t.r])).run Try.prog w = Result.ok (.bool (!decide (s = t))) w := by
  rw [run_neq_struct, run_equalIn_agg (ht := by kernel_rfl) (hp := st_ma)]
  rcases s with ⟨a0, a1, a2, a3, a4, a5, a6, a7⟩
  rcases t with ⟨b0, b1, b2, b3, b4, b5, b6, b7⟩
  simp [go_sem]
  repeat' split
  all_goals simp_all
theorem eql_ma (s t : Ma) (w : World) : (Go.binOp .eql 42 (.agg #[.int .i64 s.x, .int .i64 s.y, .int .i64 s.z, .int .i64 s.s, .int .i64 s.h, .int .i64 s.t, .int .i64 s.f, .bool s.r]) (.agg #[.int .i64 t.x, .int .i64 t.y, .int .i64 t.z, .int .i64 t.s, .int .i64 t.h, .int .i64 t.t, .int .i64 t.f, .bool t.r])).run Try.prog w = Result.ok (.bool (decide (s = t))) w := by
  rw [run_eql_struct, run_equalIn_agg (ht := by kernel_rfl) (hp := st_ma)]
  rcases s with ⟨a0, a1, a2, a3, a4, a5, a6, a7⟩
  rcases t with ⟨b0, b1, b2, b3, b4, b5, b6, b7⟩
  simp [go_sem]
  repeat' split
  all_goals simp_all
theorem info_st : (Try.prog.info? 36).map (fun i => (i.zero, i.size, i.bytes)) = some (some (.agg #[.int .i64 0, .int .i64 0, .int .i64 0, .int .i64 0, .int .i64 0, .int .i64 0]), 6, 48) := by kernel_rfl
theorem info_ma : (Try.prog.info? 42).map (fun i => (i.zero, i.size, i.bytes)) = some (some (.agg #[.int .i64 0, .int .i64 0, .int .i64 0, .int .i64 0, .int .i64 0, .int .i64 0, .int .i64 0, .bool false]), 8, 64) := by kernel_rfl
end Go.Proofs.Ytgmpmaiddombeaa

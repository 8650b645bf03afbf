/- Paths: how they lie in memory, their errors; distances. -/
import Derived.Test.YtcahjkaphpeobaaHold
import Derived.Laws.BitsLemmas
set_option linter.unusedSimpArgs false
set_option linter.unusedVariables false
namespace Go.Proofs.Ytcahjkaphpeobaa
open Go.RowKit

def sm (n : Int) : Prop := -1000000 ≤ n ∧ n ≤ 1000000
theorem w64 {n : Int} (h : -9000000000000000000 ≤ n ∧ n ≤ 9000000000000000000) : IntKind.i64.wrap n = n := by rw [IntKind.wrap_i64]; omega
/-- Pairs of numbers in a block. -/
def Du (w : World) (b off n : Nat) (X Y : Nat → Int) : Prop :=
  ∀ i, i < n → (w.cell? ⟨b, off + i * 2, none⟩ = some (.int .i64 (X i)) ∧ w.cell? ⟨b, off + i * 2 + 1, none⟩ = some (.int .i64 (Y i)))
theorem Du.kept {w w' : World} {b off n : Nat} {X Y : Nat → Int} (h : Du w b off n X Y) (hb : Below w.heap.size w w') (hl : b < w.heap.size) : Du w' b off n X Y :=
  fun i hi => ⟨cellk hb hl (h i hi).1, cellk hb hl (h i hi).2⟩
def rB (x y : Int) : Bool := decide (max x y ≤ 100000 ∧ -100000 ≤ min x y)
/-- All of n points are within. -/
def allB (n : Nat) (X Y : Nat → Int) : Bool := decide (∀ i, i < n → rB (X i) (Y i) = true)
theorem allB_no {n k : Nat} {X Y : Nat → Int} (hk : k < n) (h : rB (X k) (Y k) = false) : allB n X Y = false := by
  unfold allB; rw [decide_eq_false_iff_not]; intro h2; rw [h2 k hk] at h; cases h
theorem allB_yes {n : Nat} {X Y : Nat → Int} (h : ∀ i, i < n → rB (X i) (Y i) = true) : allB n X Y = true := by
  unfold allB; rw [decide_eq_true_eq]; exact h
theorem allB_one {n k : Nat} {X Y : Nat → Int} (h : allB n X Y = true) (hk : k < n) : (-100000 ≤ X k ∧ X k ≤ 100000) ∧ (-100000 ≤ Y k ∧ Y k ≤ 100000) := by
  unfold allB at h; rw [decide_eq_true_eq] at h
  have := h k hk
  unfold rB at this
  rw [decide_eq_true_eq] at this
  omega
/-- Points in memory, or none. -/
def PtsR (w : World) (a : Option Addr) (n : Nat) (X Y : Nat → Int) : Prop := n = 0 ∨ ∃ b off, a = some ⟨b, off, none⟩ ∧ b < w.heap.size ∧ Du w b off n X Y
theorem PtsR.kept {w w' : World} {a : Option Addr} {n : Nat} {X Y : Nat → Int} (h : PtsR w a n X Y) (hb : Below w.heap.size w w') : PtsR w' a n X Y := by
  rcases h with h | ⟨b, off, rfl, h1, h2⟩
  · exact .inl h
  · exact .inr ⟨b, off, rfl, Nat.lt_of_lt_of_le h1 hb.size, h2.kept hb h1⟩
/-- A path. -/
structure Pth where
  a : Option Addr
  n : Nat
  c : Nat
  X : Nat → Int
  Y : Nat → Int
  k : Bool
def PathsR (w : World) (a : Option Addr) (m : Nat) (P : Nat → Pth) : Prop :=
  m = 0 ∨ ∃ b off, a = some ⟨b, off, none⟩ ∧ b < w.heap.size ∧ ∀ i, i < m → (w.cell? ⟨b, off + i * 2, none⟩ = some (.slice (P i).a (P i).n (P i).c) ∧ w.cell? ⟨b, off + i * 2 + 1, none⟩ = some (.bool (P i).k)) ∧ PtsR w (P i).a (P i).n (P i).X (P i).Y
theorem PathsR.kept {w w' : World} {a : Option Addr} {m : Nat} {P : Nat → Pth} (h : PathsR w a m P) (hb : Below w.heap.size w w') : PathsR w' a m P := by
  rcases h with h | ⟨b, off, rfl, h1, h2⟩
  · exact .inl h
  · exact .inr ⟨b, off, rfl, Nat.lt_of_lt_of_le h1 hb.size, fun i hi => ⟨⟨cellk hb h1 (h2 i hi).1.1, cellk hb h1 (h2 i hi).1.2⟩, (h2 i hi).2.kept hb⟩⟩
/-- A visit. -/
structure Vis where
  p : Int
  s : Int
  b : Bool
def Vis.v (v : Vis) : Value := .agg #[.int .i64 v.p, .int .i64 v.s, .bool v.b]
def VisR (w : World) (a : Option Addr) (m : Nat) (V : Nat → Vis) : Prop :=
  m = 0 ∨ ∃ b off, a = some ⟨b, off, none⟩ ∧ b < w.heap.size ∧ ∀ i, i < m → w.cell? ⟨b, off + i * 3, none⟩ = some (.int .i64 (V i).p) ∧ w.cell? ⟨b, off + i * 3 + 1, none⟩ = some (.int .i64 (V i).s) ∧ w.cell? ⟨b, off + i * 3 + 2, none⟩ = some (.bool (V i).b)
theorem VisR.kept {w w' : World} {a : Option Addr} {m : Nat} {V : Nat → Vis} (h : VisR w a m V) (hb : Below w.heap.size w w') : VisR w' a m V := by
  rcases h with h | ⟨b, off, rfl, h1, h2⟩
  · exact .inl h
  · exact .inr ⟨b, off, rfl, Nat.lt_of_lt_of_le h1 hb.size, fun i hi => ⟨cellk hb h1 (h2 i hi).1, cellk hb h1 (h2 i hi).2.1, cellk hb h1 (h2 i hi).2.2⟩⟩
theorem VisR.less {w : World} {a : Option Addr} {m k : Nat} {V : Nat → Vis} (h : VisR w a m V) (hk : k ≤ m) : VisR w a k V := by
  rcases h with h | ⟨b, off, rfl, h1, h2⟩
  · exact .inl (by omega)
  · exact .inr ⟨b, off, rfl, h1, fun i hi => h2 i (by omega)⟩

/-! ### Errors -/
def firstE (f : Nat → Int) : Nat → Int
  | 0 => 0
  | m + 1 => if firstE f m = 0 then f m else firstE f m
theorem firstE_zero {f : Nat → Int} : ∀ {m : Nat}, (∀ j, j < m → f j = 0) → firstE f m = 0
  | 0, _ => rfl
  | m + 1, h => by simp only [firstE]; rw [if_pos (firstE_zero fun j hj => h j (by omega))]; exact h m (by omega)
theorem firstE_at {f : Nat → Int} {k : Nat} : ∀ {m : Nat}, k < m → (∀ j, j < k → f j = 0) → f k ≠ 0 → firstE f m = f k
  | 0, h, _, _ => by omega
  | m + 1, h, hz, hk => by
    simp only [firstE]
    by_cases e : k = m
    · subst e; rw [if_pos (firstE_zero hz)]
    · rw [firstE_at (by omega) hz hk, if_neg hk]
theorem firstE_all {f : Nat → Int} : ∀ {m : Nat}, firstE f m = 0 → ∀ j, j < m → f j = 0
  | 0, _, j, hj => by omega
  | m + 1, h, j, hj => by
    simp only [firstE] at h
    split at h
    · rename_i h0
      by_cases e : j = m
      · subst e; exact h
      · exact firstE_all h0 j (by omega)
    · rename_i h0; exact absurd h h0
def pF (p : Pth) : Int := if p.n = 0 then 8 else if 500 < p.n then 2 else if p.k = true ∧ p.n < 3 then 3 else if allB p.n p.X p.Y = true then 0 else 1
def psF (m : Nat) (P : Nat → Pth) : Int := firstE (fun i => pF (P i)) m
def seenB (V : Nat → Vis) (j : Nat) (p : Int) : Bool := decide (∃ i, i < j ∧ (V i).p = p)
def vF (m : Nat) (P : Nat → Pth) (t : Bool) (v : Vis) : Int :=
  if v.p < 0 ∨ (m : Int) ≤ v.p then 1 else if t = true then 6 else if ((P v.p.toNat).k = true ∧ v.b = true) ∨ ((P v.p.toNat).k = false ∧ v.s ≠ 0) then 3 else if v.s < 0 ∨ ((P v.p.toNat).n : Int) ≤ v.s then 1 else 0
def oF (m : Nat) (P : Nat → Pth) (l : Nat) (V : Nat → Vis) : Int :=
  if psF m P ≠ 0 then psF m P else if l ≠ m then 3 else firstE (fun j => vF m P (seenB V j (V j).p) (V j)) l
/-- What is known of a path that is right. -/
structure PGood (p : Pth) : Prop where
  pos : 0 < p.n
  three : p.k = true → 3 ≤ p.n
  r : allB p.n p.X p.Y = true
theorem pF_small {p : Pth} (h : ¬ 500 < p.n) : pF p = if p.n = 0 then 8 else if p.k = true ∧ p.n < 3 then 3 else if allB p.n p.X p.Y = true then 0 else 1 := by
  unfold pF; rw [if_neg h]
theorem pF_top {p : Pth} (h : pF p = 0) : p.n ≤ 500 := Decidable.byContradiction fun hn => by
  unfold pF at h
  rw [if_neg (by omega), if_pos (by omega)] at h
  cases h
theorem pgood {p : Pth} (h : pF p = 0) : PGood p := by
  have ht := pF_top h
  rw [pF_small (by omega)] at h
  split at h
  · cases h
  · split at h
    · cases h
    · split at h
      · rename_i h1 h2 h3
        exact ⟨by omega, fun hk => by have : ¬ p.n < 3 := fun h => h2 ⟨hk, h⟩; omega, h3⟩
      · cases h
structure VGood (m : Nat) (P : Nat → Pth) (v : Vis) : Prop where
  lo : 0 ≤ v.p
  hi : v.p < m
  f : (P v.p.toNat).k = true → v.b = false
  g : (P v.p.toNat).k = false → v.s = 0
  slo : 0 ≤ v.s
  shi : v.s < (P v.p.toNat).n
theorem vgood {m : Nat} {P : Nat → Pth} {t : Bool} {v : Vis} (h : vF m P t v = 0) : VGood m P v := by
  unfold vF at h
  split at h
  · cases h
  · split at h
    · cases h
    · split at h
      · cases h
      · split at h
        · cases h
        · rename_i h1 h2 h3 h4
          refine ⟨by omega, by omega, fun hk => ?_, fun hk => ?_, by omega, by omega⟩
          · cases hb : v.b with
            | false => rfl
            | true => exact absurd (.inl ⟨hk, hb⟩) h3
          · exact Classical.byContradiction fun hs => h3 (.inr ⟨hk, hs⟩)

/-! ### Distances -/
def mx (a b : Int) : Int := if b > a then b else a
def dI (ax ay bx by_ : Int) : Int := mx (mx (mx (ax - bx) (bx - ax)) (ay - by_)) (by_ - ay)
def cI (n : Int) : Prop := -100000 ≤ n ∧ n ≤ 100000
theorem dI_le {ax ay bx by_ : Int} (h1 : cI ax) (h2 : cI ay) (h3 : cI bx) (h4 : cI by_) : 0 ≤ dI ax ay bx by_ ∧ dI ax ay bx by_ ≤ 200000 := by unfold cI at *; unfold dI mx; omega
theorem max4 (P : Program) (ts : Array TypeId) (t : TypeId) (x y z u : Int) (w : World) : (Builtin.max_ ts t #[.int .i64 x, .int .i64 y, .int .i64 z, .int .i64 u]).run P w = .ok (.int .i64 (mx (mx (mx x y) z) u)) w := by
  simp [Builtin.max_, Builtin.max2, mx]
attribute [go_sem] max4
end Go.Proofs.Ytcahjkaphpeobaa

/- The sides of faces: sidesOf, and whether a list contains a side. -/
import Derived.Test.YtmcebhjcaacbpaaFault
import Derived.Test.YtmcebhjcaacbpaaEq
set_option linter.unusedSimpArgs false
set_option linter.unusedVariables false
namespace Go.Proofs.Ytmcebhjcaacbpaa
open Go.RowKit

/-- The sides of a face, by number. -/
def sdx (f : V3) (t : Nat) : Int := if t = 0 then f.x else if t = 1 then f.y else f.z
def sdy (f : V3) (t : Nat) : Int := if t = 0 then f.y else if t = 1 then f.z else f.x

/-- n pairs can be read from an address on. -/
def Prs (w : World) (b off n : Nat) (X Y : Nat → Int) : Prop :=
  ∀ i, i < n → (w.cell? ⟨b, off + i * 2, none⟩ = some (.int .i64 (X i)) ∧ w.cell? ⟨b, off + i * 2 + 1, none⟩ = some (.int .i64 (Y i)))
theorem Prs.kept {w w' : World} {b off n : Nat} {X Y : Nat → Int} (h : Prs w b off n X Y) (hb : Below w.heap.size w w') (hl : b < w.heap.size) : Prs w' b off n X Y :=
  fun i hi => ⟨cellk hb hl (h i hi).1, cellk hb hl (h i hi).2⟩

/-- Three sides in new memory. -/
def SidesPost (w : World) (x y z : Int) (e : Ending) (w' : World) : Prop :=
  ∃ b, e = .returned (.slice (some ⟨b, 0, none⟩) 3 3) ∧ w.heap.size ≤ b ∧ b < w'.heap.size ∧ Prs w' b 0 3 (sdx ⟨x, y, z⟩) (sdy ⟨x, y, z⟩) ∧ Below w.heap.size w w'

theorem rsides_any (x y z : Int) (w : World) :
    Calls Try.prog 47 #[.agg #[.int .i64 x, .int .i64 y, .int .i64 z]] w (SidesPost w x y z) := by
  go_enter Try.func47, Try.ntmps47
  go_wp2
  go_ret
  refine ⟨_, rfl, ?_, ?_, ?_, (by repeat (first | exact Below.refl _ _ | assumption | refine Below.drew ?_ | refine bdrewN ?_ _ | refine Below.setCell ?_ (by first | omega | (simp <;> omega)) _ | refine Below.alloc ?_ (by first | omega | (simp <;> omega)) _))⟩
  · simp
  · simp
  · intro i hi
    match i, hi with
    | 0, _ => simp [go_sem, sdx, sdy]
    | 1, _ => simp [go_sem, sdx, sdy]
    | 2, _ => simp [go_sem, sdx, sdy]
theorem msides_any (x y z : Int) (w : World) :
    Calls Try.prog 77 #[.agg #[.int .i64 x, .int .i64 y, .int .i64 z]] w (SidesPost w x y z) := by
  go_enter Try.func77, Try.ntmps77
  go_wp2
  go_ret
  refine ⟨_, rfl, ?_, ?_, ?_, (by repeat (first | exact Below.refl _ _ | assumption | refine Below.drew ?_ | refine bdrewN ?_ _ | refine Below.setCell ?_ (by first | omega | (simp <;> omega)) _ | refine Below.alloc ?_ (by first | omega | (simp <;> omega)) _))⟩
  · simp
  · simp
  · intro i hi
    match i, hi with
    | 0, _ => simp [go_sem, sdx, sdy]
    | 1, _ => simp [go_sem, sdx, sdy]
    | 2, _ => simp [go_sem, sdx, sdy]

set_option maxHeartbeats 1000000 in
theorem indexSide_any (ao : Option Addr) (n cap : Nat) (X Y : Nat → Int) (p q : Int) (w : World) (hn : n ≤ 1000000)
    (hc : n = 0 ∨ ∃ b off, ao = some ⟨b, off, none⟩ ∧ b < w.heap.size ∧ Prs w b off n X Y) (i : Nat) (hi : i ≤ n) (hno : ∀ j, j < i → sEq p q (X j) (Y j) = false) (hyes : i < n → sEq p q (X i) (Y i) = true) :
    Calls Try.prog 75 #[.slice ao n cap, .agg #[.int .i64 p, .int .i64 q]] w fun e w' => e = .returned (.int .i64 (if i < n then i else -1)) ∧ Below w.heap.size w w' := by
  rcases hc with rfl | ⟨b, off, rfl, hb, hc⟩
  · go_enter Try.func75, Try.ntmps75
    go_wp2
    refine wp_loop_rounds 1 ?_; rw [rounds_succ]
    go_wp2
    go_ret
    exact ⟨rfl, (by repeat (first | exact Below.refl _ _ | assumption | refine Below.drew ?_ | refine bdrewN ?_ _ | refine Below.setCell ?_ (by first | omega | (simp <;> omega)) _ | refine Below.alloc ?_ (by first | omega | (simp <;> omega)) _))⟩
  have HC := Lib.hid hc
  have HN := Lib.hid hno
  have HY := Lib.hid hyes
  clear hc hno hyes
  go_enter Try.func75, Try.ntmps75
  go_wp2
  go_loopw [8] (fun k wr => ∃ j : Nat, j ≤ i ∧ k = .int .i64 j ∧ Below w.heap.size w wr ∧ wr.cell? ⟨w.heap.size, 0, none⟩ = some (.int .i64 p) ∧ wr.cell? ⟨w.heap.size, 1, none⟩ = some (.int .i64 q)) (fun k _ => n - (intOf k).toNat)
  case atStart => exact ⟨0, by omega, rfl, (by repeat (first | exact Below.refl _ _ | assumption | refine Below.drew ?_ | refine bdrewN ?_ _ | refine Below.setCell ?_ (by first | omega | (simp <;> omega)) _ | refine Below.alloc ?_ (by first | omega | (simp <;> omega)) _)), by simp [go_sem], by simp [go_sem]⟩
  case round =>
    obtain ⟨j, hj, rfl, hbel, cp, cq⟩ := hrel
    have hsz := hbel.size
    by_cases hlt : j < n
    · obtain ⟨c0, c1⟩ := (HC.out.kept hbel hb) j hlt
      have hi0 : (0 : Int) ≤ (j : Int) := by omega
      have hi1 : (j : Int) < (n : Int) := by omega
      by_cases hji : j < i
      · have hne := HN.out j hji
        have hE := fun wx => eql_side p q (X j) (Y j) wx
        have hG := gd_side
        go_wp2
        go_quiet (fail)
        go_wp2
        go_roundw
        case rel => exact ⟨j + 1, by omega, by go_num, (by repeat (first | exact Below.refl _ _ | assumption | refine Below.drew ?_ | refine bdrewN ?_ _ | refine Below.setCell ?_ (by first | omega | (simp <;> omega)) _ | refine Below.alloc ?_ (by first | omega | (simp <;> omega)) _)), cp, cq⟩
        case measure => simp [intOf]; omega
      · obtain rfl : j = i := by omega
        have hye := HY.out hlt
        clear hj hji hi
        have hE := fun wx => eql_side p q (X j) (Y j) wx
        have hG := gd_side
        go_wp2
        go_quiet (fail)
        clear c0 c1 cp cq hE hG
        go_wp2
        go_ret
        exact ⟨rfl, (by repeat (first | exact Below.refl _ _ | assumption | refine Below.drew ?_ | refine bdrewN ?_ _ | refine Below.setCell ?_ (by first | omega | (simp <;> omega)) _ | refine Below.alloc ?_ (by first | omega | (simp <;> omega)) _))⟩
    · obtain rfl : j = n := by omega
      go_wp2
      go_ret
      exact ⟨ret_int (by simp), (by repeat (first | exact Below.refl _ _ | assumption | refine Below.drew ?_ | refine bdrewN ?_ _ | refine Below.setCell ?_ (by first | omega | (simp <;> omega)) _ | refine Below.alloc ?_ (by first | omega | (simp <;> omega)) _))⟩

/-- Is a side among n? -/
def hasSide (n : Nat) (X Y : Nat → Int) (p q : Int) : Bool := (List.range n).any fun i => sEq p q (X i) (Y i)
theorem hasSide_false {n : Nat} {X Y : Nat → Int} {p q : Int} (h : hasSide n X Y p q = false) : ∀ j, j < n → sEq p q (X j) (Y j) = false := by
  intro j hj
  simp only [hasSide, List.any_eq_false, List.mem_range] at h
  simpa using h j hj
theorem hasSide_find {n : Nat} {X Y : Nat → Int} {p q : Int} (h : hasSide n X Y p q = true) : ∃ i, i < n ∧ sEq p q (X i) (Y i) = true ∧ ∀ j, j < i → sEq p q (X j) (Y j) = false := by
  induction n with
  | zero => simp [hasSide] at h
  | succ n ih =>
    by_cases h' : hasSide n X Y p q = true
    · obtain ⟨i, h1, h2, h3⟩ := ih h'
      exact ⟨i, by omega, h2, h3⟩
    · refine ⟨n, by omega, ?_, hasSide_false (by simpa using h')⟩
      simp only [hasSide, List.range_succ, List.any_append, List.any_cons, List.any_nil, Bool.or_false, Bool.or_eq_true] at h
      rcases h with h | h
      · exact absurd h (by simpa [hasSide] using h')
      · exact h

theorem containsSide_any (ao : Option Addr) (n cap : Nat) (X Y : Nat → Int) (p q : Int) (w : World) (hn : n ≤ 1000000)
    (hc : n = 0 ∨ ∃ b off, ao = some ⟨b, off, none⟩ ∧ b < w.heap.size ∧ Prs w b off n X Y) :
    Calls Try.prog 48 #[.slice ao n cap, .agg #[.int .i64 p, .int .i64 q]] w fun e w' => e = .returned (.bool (hasSide n X Y p q)) ∧ Below w.heap.size w w' := by
  have hc' : ∀ o, n = 0 ∨ ∃ b off, ao = some ⟨b, off, none⟩ ∧ b < (w.alloc o).heap.size ∧ Prs (w.alloc o) b off n X Y := by
    intro o
    rcases hc with h | ⟨b, off, h1, h2, h3⟩
    · exact .inl h
    · exact .inr ⟨b, off, h1, by simp; omega, h3.kept ((Below.refl _ _).alloc (Nat.le_refl _) _) h2⟩
  have HC := Lib.hid hc'
  clear hc hc'
  rcases hh : hasSide n X Y p q with _ | _
  · have HF := Lib.hid (hasSide_false hh)
    clear hh
    go_enter Try.func48, Try.ntmps48
    go_wp2_with (go_at_call 75; refine (indexSide_any ao n cap X Y p q _ hn (HC.out _) n (Nat.le_refl _) HF.out (fun h => by omega)).mono ?_; rintro e w1 ⟨rfl, hb1⟩; rw [if_neg (by omega)])
    go_ret
    exact ⟨rfl, Below.trans (by repeat (first | exact Below.refl _ _ | assumption | refine Below.drew ?_ | refine bdrewN ?_ _ | refine Below.setCell ?_ (by first | omega | (simp <;> omega)) _ | refine Below.alloc ?_ (by first | omega | (simp <;> omega)) _)) (hb1.mono (by simp))⟩
  · obtain ⟨i, hi, hy, hf⟩ := hasSide_find hh
    have HY := Lib.hid hy
    have HF := Lib.hid hf
    clear hh hy hf
    go_enter Try.func48, Try.ntmps48
    go_wp2_with (go_at_call 75; refine (indexSide_any ao n cap X Y p q _ hn (HC.out _) i (by omega) HF.out (fun _ => HY.out)).mono ?_; rintro e w1 ⟨rfl, hb1⟩; rw [if_pos hi])
    go_ret
    exact ⟨by simp, Below.trans (by repeat (first | exact Below.refl _ _ | assumption | refine Below.drew ?_ | refine bdrewN ?_ _ | refine Below.setCell ?_ (by first | omega | (simp <;> omega)) _ | refine Below.alloc ?_ (by first | omega | (simp <;> omega)) _)) (hb1.mono (by simp))⟩
end Go.Proofs.Ytmcebhjcaacbpaa

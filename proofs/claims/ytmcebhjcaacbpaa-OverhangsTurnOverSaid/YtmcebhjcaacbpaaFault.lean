/- What is wrong with a mesh, if anything: the reference's own check. -/
import Derived.Test.YtmcebhjcaacbpaaVec
import Derived.Handy
set_option linter.unusedSimpArgs false
set_option linter.unusedVariables false
namespace Go.Proofs.Ytmcebhjcaacbpaa
open Go.RowKit

/-- The first of n numbers that is not 0; 0 if there is none. -/
def first (g : Nat → Int) : Nat → Int
  | 0 => 0
  | n + 1 => if first g n = 0 then g n else first g n
theorem first_zero {g : Nat → Int} {n : Nat} (h : ∀ j, j < n → g j = 0) : first g n = 0 := by
  induction n with
  | zero => rfl
  | succ n ih => simp only [first]; rw [if_pos (ih fun j hj => h j (by omega))]; exact h n (by omega)
theorem first_hit {g : Nat → Int} {n i : Nat} (hi : i < n) (h : ∀ j, j < i → g j = 0) (hg : g i ≠ 0) : first g n = g i := by
  induction n with
  | zero => omega
  | succ n ih =>
    simp only [first]
    by_cases e : i = n
    · subst e; rw [if_pos (first_zero h)]
    · rw [ih (by omega), if_neg hg]
theorem first_none {g : Nat → Int} {n : Nat} (h : first g n = 0) : ∀ j, j < n → g j = 0 := by
  induction n with
  | zero => intro j hj; omega
  | succ n ih =>
    simp only [first] at h
    split at h
    · intro j hj
      by_cases e : j = n
      · subst e; exact h
      · exact ih ‹_› j (by omega)
    · contradiction

theorem all_succ {P : Nat → Prop} {k : Nat} (h : ∀ j, j < k → P j) (hk : P k) : ∀ j, j < k + 1 → P j := fun j hj => by
  by_cases e : j = k
  · subst e; exact hk
  · exact h j (by omega)

/-- A place is in the range. -/
def vOk (v : V3) : Bool := inB v.x (-100000) 100000 && (inB v.y (-100000) 100000 && inB v.z (-100000) 100000)
def vErr (V : Nat → V3) (i : Nat) : Int := if vOk (V i) = true then 0 else 1
theorem vErr_no {V : Nat → V3} {i : Nat} (h : vOk (V i) = false) : vErr V i = 1 := by simp [vErr, h]
theorem vErr_ok {V : Nat → V3} {i : Nat} (h : vOk (V i) = true) : vErr V i = 0 := by simp [vErr, h]

set_option maxHeartbeats 1000000 in
theorem vecFault_any (ao : Option Addr) (n cap : Nat) (V : Nat → V3) (w : World) (hn : n ≤ 1000000)
    (hc : n = 0 ∨ ∃ b off, ao = some ⟨b, off, none⟩ ∧ b < w.heap.size ∧ Tri w b off n V) :
    Calls Try.prog 44 #[.slice ao n cap] w fun e w' => e = .returned (.int .i64 (first (vErr V) n)) ∧ Below w.heap.size w w' := by
  rcases hc with rfl | ⟨b, off, rfl, hb, hc⟩
  · go_enter Try.func44, Try.ntmps44
    go_wp2
    refine wp_loop_rounds 1 ?_; rw [rounds_succ]
    go_wp2
    go_ret
    exact ⟨rfl, (by repeat (first | exact Below.refl _ _ | assumption | refine Below.drew ?_ | refine bdrewN ?_ _ | refine Below.setCell ?_ (by first | omega | (simp <;> omega)) _ | refine Below.alloc ?_ (by first | omega | (simp <;> omega)) _))⟩
  have HC := Lib.hid hc
  clear hc
  go_enter Try.func44, Try.ntmps44
  go_wp2
  go_loopw [9] (fun i wr => ∃ k : Nat, k ≤ n ∧ i = .int .i64 k ∧ (∀ j, j < k → vErr V j = 0) ∧ Below w.heap.size w wr) (fun i _ => n - (intOf i).toNat)
  case atStart => exact ⟨0, by omega, rfl, fun j hj => by omega, (by repeat (first | exact Below.refl _ _ | assumption | refine Below.drew ?_ | refine bdrewN ?_ _ | refine Below.setCell ?_ (by first | omega | (simp <;> omega)) _ | refine Below.alloc ?_ (by first | omega | (simp <;> omega)) _))⟩
  case round =>
    obtain ⟨k, hk, rfl, hz, hbel⟩ := hrel
    have HZ := Lib.hid hz
    clear hz
    have hsz := hbel.size
    by_cases hlt : k < n
    · obtain ⟨c0, c1, c2⟩ := (HC.out.kept hbel hb) k hlt
      rcases hx : inB (V k).x (-100000) 100000 with _ | _
      · have hv : vErr V k = 1 := vErr_no (by simp [vOk, hx])
        have HV := Lib.hid hv
        clear hv
        go_wp2
        refine wp_loop_rounds 4 ?_
        rw [rounds_succ]; go_wp2_with (go_at_call 45; refine (in_any _ _ _ _).mono ?_; rintro e w' ⟨rfl, rfl⟩)
        go_ret
        exact ⟨ret_int (by rw [first_hit hlt HZ.out (by rw [HV.out]; decide), HV.out]), (by repeat (first | exact Below.refl _ _ | assumption | refine Below.drew ?_ | refine bdrewN ?_ _ | refine Below.setCell ?_ (by first | omega | (simp <;> omega)) _ | refine Below.alloc ?_ (by first | omega | (simp <;> omega)) _))⟩
      rcases hy : inB (V k).y (-100000) 100000 with _ | _
      · have hv : vErr V k = 1 := vErr_no (by simp [vOk, hy])
        have HV := Lib.hid hv
        clear hv
        go_wp2
        refine wp_loop_rounds 4 ?_
        rw [rounds_succ]; go_wp2_with (go_at_call 45; refine (in_any _ _ _ _).mono ?_; rintro e w' ⟨rfl, rfl⟩)
        rw [rounds_succ]; go_wp2_with (go_at_call 45; refine (in_any _ _ _ _).mono ?_; rintro e w' ⟨rfl, rfl⟩)
        go_ret
        exact ⟨ret_int (by rw [first_hit hlt HZ.out (by rw [HV.out]; decide), HV.out]), (by repeat (first | exact Below.refl _ _ | assumption | refine Below.drew ?_ | refine bdrewN ?_ _ | refine Below.setCell ?_ (by first | omega | (simp <;> omega)) _ | refine Below.alloc ?_ (by first | omega | (simp <;> omega)) _))⟩
      rcases hzz : inB (V k).z (-100000) 100000 with _ | _
      · have hv : vErr V k = 1 := vErr_no (by simp [vOk, hzz])
        have HV := Lib.hid hv
        clear hv
        go_wp2
        refine wp_loop_rounds 4 ?_
        rw [rounds_succ]; go_wp2_with (go_at_call 45; refine (in_any _ _ _ _).mono ?_; rintro e w' ⟨rfl, rfl⟩)
        rw [rounds_succ]; go_wp2_with (go_at_call 45; refine (in_any _ _ _ _).mono ?_; rintro e w' ⟨rfl, rfl⟩)
        rw [rounds_succ]; go_wp2_with (go_at_call 45; refine (in_any _ _ _ _).mono ?_; rintro e w' ⟨rfl, rfl⟩)
        go_ret
        exact ⟨ret_int (by rw [first_hit hlt HZ.out (by rw [HV.out]; decide), HV.out]), (by repeat (first | exact Below.refl _ _ | assumption | refine Below.drew ?_ | refine bdrewN ?_ _ | refine Below.setCell ?_ (by first | omega | (simp <;> omega)) _ | refine Below.alloc ?_ (by first | omega | (simp <;> omega)) _))⟩
      have HV := Lib.hid (vErr_ok (V := V) (i := k) (by simp [vOk, hx, hy, hzz]))
      go_wp2
      refine wp_loop_rounds 4 ?_
      rw [rounds_succ]; go_wp2_with (go_at_call 45; refine (in_any _ _ _ _).mono ?_; rintro e w' ⟨rfl, rfl⟩)
      rw [rounds_succ]; go_wp2_with (go_at_call 45; refine (in_any _ _ _ _).mono ?_; rintro e w' ⟨rfl, rfl⟩)
      rw [rounds_succ]; go_wp2_with (go_at_call 45; refine (in_any _ _ _ _).mono ?_; rintro e w' ⟨rfl, rfl⟩)
      rw [rounds_succ]; go_wp2_with (go_at_call 45; refine (in_any _ _ _ _).mono ?_; rintro e w' ⟨rfl, rfl⟩)
      go_roundw
      case rel => exact ⟨k + 1, by omega, by go_num, all_succ HZ.out HV.out, (by repeat (first | exact Below.refl _ _ | assumption | refine Below.drew ?_ | refine bdrewN ?_ _ | refine Below.setCell ?_ (by first | omega | (simp <;> omega)) _ | refine Below.alloc ?_ (by first | omega | (simp <;> omega)) _))⟩
      case measure => simp [intOf]; omega
    · obtain rfl : k = n := by omega
      go_wp2
      go_ret
      exact ⟨ret_int (first_zero HZ.out).symm, (by repeat (first | exact Below.refl _ _ | assumption | refine Below.drew ?_ | refine bdrewN ?_ _ | refine Below.setCell ?_ (by first | omega | (simp <;> omega)) _ | refine Below.alloc ?_ (by first | omega | (simp <;> omega)) _))⟩
end Go.Proofs.Ytmcebhjcaacbpaa

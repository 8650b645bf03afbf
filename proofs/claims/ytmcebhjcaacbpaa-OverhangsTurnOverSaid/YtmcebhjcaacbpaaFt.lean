/- The lists of faces with a property. -/
import Derived.Test.YtmcebhjcaacbpaaCl
set_option linter.unusedSimpArgs false
set_option linter.unusedVariables false
namespace Go.Proofs.Ytmcebhjcaacbpaa
open Go.RowKit

/-- The indices below n with P. -/
def filt (P : Nat → Bool) : Nat → List Value
  | 0 => []
  | n + 1 => if P n = true then filt P n ++ [.int .i64 (n : Int)] else filt P n
theorem filt_yes {P : Nat → Bool} {k : Nat} (h : P k = true) : filt P (k + 1) = filt P k ++ [.int .i64 (k : Int)] := by simp [filt, h]
theorem filt_no {P : Nat → Bool} {k : Nat} (h : P k = false) : filt P (k + 1) = filt P k := by simp [filt, h]
theorem filt_le (P : Nat → Bool) (k : Nat) : (filt P k).length ≤ k := by
  induction k with
  | zero => simp [filt]
  | succ k ih =>
    rcases h : P k with _ | _
    · rw [filt_no h]; omega
    · rw [filt_yes h]; simp; omega
theorem info_int : (Try.prog.info? 3).map (fun i => (i.zero, i.size, i.bytes)) = some (some (.int .i64 0), 1, 8) := by kernel_rfl

set_option maxHeartbeats 2000000 in
theorem facesThat_ov (m s : Nat) (P : Nat → Bool) (sv : Value) (af : Option Addr) (nf cf : Nat) (F : Nat → V3) (w : World) (hf : Row3 w af nf F) (hnf : nf ≤ 1000000)
    (hcl : ∀ W, Below w.heap.size w W → ∀ k, k < nf → Calls Try.prog 20 #[.agg #[.int .i64 (F k).x, .int .i64 (F k).y, .int .i64 (F k).z], .pointer (some ⟨m, 0, none⟩), .pointer (some ⟨s, 0, none⟩)] W fun e w' => e = .returned (.bool (P k)) ∧ Below W.heap.size W w') :
    Calls Try.prog 19 #[.agg #[sv, .slice af nf cf], .func (.func 20) #[] #[.pointer (some ⟨m, 0, none⟩), .pointer (some ⟨s, 0, none⟩)]] w fun e w' => ∃ v, e = .returned v ∧ w'.ownsRow w.heap.size 3 1 v (filt P nf).length (filt P nf) ∧ Below w.heap.size w w' := by
  obtain ⟨i0, hi0, hz0, hz1, hz2⟩ := info_parts info_int
  have HC := Lib.hid hcl
  have HF := Lib.hid hf
  clear hcl hf
  go_enter Try.func19, Try.ntmps19
  go_wp2_with (fail)
  go_loopw [5, 11] (fun v i wr => ∃ k : Nat, k ≤ nf ∧ i = .int .i64 k ∧ wr.ownsRow w.heap.size 3 1 v (filt P k).length (filt P k) ∧ Below w.heap.size w wr) (fun _ i _ => nf - (intOf i).toNat)
  case atStart => exact ⟨0, by omega, rfl, World.ownsRow_nil _ _ _ _, (by repeat (first | exact Below.refl _ _ | assumption | refine Below.drew ?_ | refine bdrewN ?_ _ | refine Below.setCell ?_ (by first | omega | (simp <;> omega)) _ | refine Below.alloc ?_ (by first | omega | (simp <;> omega)) _))⟩
  case round =>
    obtain ⟨k, hk, rfl, hown, hbel⟩ := hrel
    have hsz := hbel.size
    have hle := filt_le P k
    have HO := Lib.hid hown
    by_cases hlt : k < nf
    · rcases HF.out with h | ⟨bf, of, rfl, hbf, hF⟩
      · omega
      obtain ⟨c0, c1, c2⟩ := (hF.kept hbel hbf) k hlt
      have hbw : bf < wr.heap.size := by omega
      clear hF hown
      have HBL := Lib.hid hbel
      clear hbel
      rcases hP : P k with _ | _
      · have HE := Lib.hid (filt_no hP)
        have HPP := Lib.hid hP
        clear hP
        go_wp2_with (fail)
        have hcall := HC.out (wr.alloc (.cells #[.int .i64 (F k).x, .int .i64 (F k).y, .int .i64 (F k).z] 47)) (Below.alloc HBL.out hsz _) k hlt
        refine hcall.mono ?_
        rintro e w1 ⟨rfl, hb1⟩
        rw [HPP.out]
        have B1 : Below wr.heap.size wr w1 := Below.trans (by repeat (first | exact Below.refl _ _ | assumption | refine Below.drew ?_ | refine bdrewN ?_ _ | refine Below.setCell ?_ (by first | omega | (simp <;> omega)) _ | refine Below.alloc ?_ (by first | omega | (simp <;> omega)) _)) (hb1.mono (by simp))
        have HO1 := Lib.hid (ownsRow_below HO.out B1)
        have HB := Lib.hid (HBL.out.trans (B1.mono hsz))
        clear hb1 B1
        go_wp2
        go_roundw
        case rel => exact ⟨k + 1, by omega, by go_num, by rw [HE.out]; exact HO1.out, HB.out⟩
        case measure => simp [intOf]; omega
      · have HE := Lib.hid (filt_yes hP)
        have HPP := Lib.hid hP
        clear hP
        go_wp2_with (fail)
        have hcall := HC.out (wr.alloc (.cells #[.int .i64 (F k).x, .int .i64 (F k).y, .int .i64 (F k).z] 47)) (Below.alloc HBL.out hsz _) k hlt
        refine hcall.mono ?_
        rintro e w1 ⟨rfl, hb1⟩
        rw [HPP.out]
        have B1 : Below wr.heap.size wr w1 := Below.trans (by repeat (first | exact Below.refl _ _ | assumption | refine Below.drew ?_ | refine bdrewN ?_ _ | refine Below.setCell ?_ (by first | omega | (simp <;> omega)) _ | refine Below.alloc ?_ (by first | omega | (simp <;> omega)) _)) (hb1.mono (by simp))
        have z1 : wr.heap.size + 1 ≤ w1.heap.size := by have := hb1.size; simpa using this
        have HO1 := Lib.hid (ownsRow_below HO.out B1)
        have HB := Lib.hid (HBL.out.trans (B1.mono hsz))
        clear hb1 B1
        go_wp2_with (at_builtin; refine wpList_append_lies _ rfl _ _ 22 rfl w.heap.size 3 i0 (.int .i64 0) 1 8 Try.underlying22 hi0 hz0 hz1 hz2 rfl (by decide) _ _ _ rfl (HO1.out.alloc _) ⟨w1.heap.size, 0, none⟩ 1 1 [.int .i64 k] rfl rfl (World.news_of_block (cs := #[.int .i64 k]) (t := 3) (fr := (0, 0)) (heap_alloc_new w1 _)) (by simp [Value.oneCell']) (by omega) (by unfold maxLen; omega) (by omega) (by simp; omega) (w1.heap.size + 1) (by simp) ?_; intro g cap' w4 hown4 hgrow hat hlt4)
        have HB4 := Lib.hid (Below.grown (Below.alloc HB.out (by have := HB.out.size; omega) _) hgrow (by simp; omega) (fun b hb => (HO1.out.lt b hb).1))
        go_roundw
        case rel => exact ⟨k + 1, by omega, by go_num, by rw [HE.out]; simpa using hown4, HB4.out⟩
        case measure => simp [intOf]; omega
    · obtain rfl : nf = k := by omega
      obtain ⟨ao, cap, rfl⟩ := own_slice hown
      go_wp2
      go_ret
      exact ⟨_, rfl, hown, hbel⟩

end Go.Proofs.Ytmcebhjcaacbpaa

/- Drawn numbers, orders and points. -/
import Derived.Test.YtcahjkaphpeobaaYu
import Derived.RegionTactic
import Derived.ChangeAlike
set_option linter.unusedSimpArgs false
set_option linter.unusedVariables false
namespace Go.Proofs.Ytcahjkaphpeobaa
open Go.RowKit

theorem Strm.setCell {w : World} {B k : Nat} (h : Strm w B k) {a : Addr} (ha : B < a.block) (v : Value) : Strm (w.setCell a v) B k :=
  h.kept ((Mut.refl (· = a.block) w).setCell (p := a) (fun _ => rfl) v) (fun x hx => by omega)
theorem Strm.drewN {w : World} {B k : Nat} (h : Strm w B k) (n : Nat) : Strm (w.drewN n) B k :=
  h.kept (S := fun _ => False) ⟨rfl, rfl, rfl, Nat.le_refl _, fun _ _ _ => rfl⟩ (fun _ _ h => h)
theorem Mut.drewN {S : Nat → Prop} {a w : World} (h : Mut S a w) (n : Nat) : Mut S a (w.drewN n) := ⟨h.os, h.tape, h.output, h.size, h.block⟩

theorem pick_at (B k : Nat) (l : List Int) (n : Nat) (P : Int → Prop) (w : World) (g : Nat) (hg : w.heap.size = g) (hs : Strm w B k) (hk : k + 1 ≤ 1000000) (hn : l.length = n) (h3 : 1 ≤ n) (h4 : n ≤ 1000000) (hP : ∀ z ∈ l, P z) :
    Calls Try.prog 19 #[.pointer (some ⟨B, 0, none⟩), .slice (some ⟨g, 0, none⟩) n n] (w.alloc (.cells (l.map (Value.int .i64)).toArray 3)) (StrmPost w B k 1 (IntE P)) := by
  subst hg; exact pick_new B k l n P w hs hk hn h3 h4 hP



set_option maxHeartbeats 400000 in
theorem odd_any (B k : Nat) (lo hi : Int) (w : World) (hs : Strm w B k) (hk : k + 2 ≤ 1000000) (h3 : lo ≤ hi) (h4 : -1000000000000 ≤ lo) (h5 : hi ≤ 1000000000000) :
    Calls Try.prog 21 #[.pointer (some ⟨B, 0, none⟩), .int .i64 lo, .int .i64 hi] w (StrmPost w B k 2 (IntE fun z => -1100000000000 ≤ z ∧ z ≤ 1100000000000)) := by
  go_enter Try.func21, Try.ntmps21
  go_wp2_with (first
    | (go_at_call 20; refine (flip_any B k _ w hs (by omega) (by omega) (by omega)).mono ?_; rintro e w1 ⟨⟨b, rfl⟩, hst, hmt⟩; cases b)
    | (go_at_call 18; refine (range_any B (k + 1) _ _ w1 hst (by omega) (by omega) (by omega) (by omega)).mono ?_; rintro e w2 ⟨⟨z, rfl, h6, h7⟩, hst2, hmt2⟩)
    | (go_at_call 19; refine (pick_new B (k + 1) [lo - 1, hi + 1, lo, hi, -1099511627776, 1099511627776] 6 (fun z => -1100000000000 ≤ z ∧ z ≤ 1100000000000) w1 hst (by omega) rfl (by omega) (by omega) (by intro z hz; simp only [List.mem_cons, List.not_mem_nil, or_false] at hz; omega)).mono ?_; rintro e w2 ⟨⟨z, rfl, h6, h7⟩, hst2, hmt2⟩))
  all_goals
    go_ret
    exact StrmPost.trans hmt (d := 1) ⟨⟨_, rfl, by omega, by omega⟩, hst2, hmt2⟩

def ivs (l : List Int) : List Value := l.map (Value.int .i64)
theorem ivs_length (l : List Int) : (ivs l).length = l.length := by simp [ivs]
theorem ivs_app (l m : List Int) : ivs (l ++ m) = ivs l ++ ivs m := by simp [ivs]
theorem ivs_set (l : List Int) (i : Nat) (z : Int) : ivs (l.set i z) = (ivs l).set i (.int .i64 z) := by simp [ivs, List.map_set]
/-- The numbers below n. -/
def upto (n : Nat) : List Int := (List.range n).map Int.ofNat
theorem upto_succ (n : Nat) : upto (n + 1) = upto n ++ [(n : Int)] := by simp [upto, List.range_succ]
theorem upto_length (n : Nat) : (upto n).length = n := by simp [upto]
theorem swap_perm (l : List Int) (i j : Nat) (hi : i < l.length) (hj : j < l.length) : ((l.set i l[j]).set j l[i]).Perm l := List.set_set_perm hi hj

theorem mut_of_bel {S : Nat → Prop} {w w' : World} (h : Below w.heap.size w w') : Mut S w w' := ⟨h.os, h.tape, h.output, h.size, fun k hk _ => h.block k hk⟩
def OrderE (w : World) (B k n : Nat) (e : Ending) (w' : World) : Prop :=
  ∃ a c l, e = .returned (.slice a n c) ∧ w'.ownsRow w.heap.size 3 1 (.slice a n c) n (ivs l) ∧ l.Perm (upto n) ∧ Strm w' B (k + n) ∧ Mut (· = B) w w'

def PtE (e : Ending) : Prop := ∃ x y : Int, e = .returned (.agg #[.int .i64 x, .int .i64 y])
end Go.Proofs.Ytcahjkaphpeobaa

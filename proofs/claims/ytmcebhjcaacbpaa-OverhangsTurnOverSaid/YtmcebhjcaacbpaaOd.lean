/- What Odd gives. -/
import Derived.Test.YtmcebhjcaacbpaaStrm
set_option linter.unusedSimpArgs false
set_option linter.unusedVariables false
namespace Go.Proofs.Ytmcebhjcaacbpaa
open Go.RowKit

set_option maxHeartbeats 400000 in
theorem odd_any (B k : Nat) (lo hi : Int) (w : World) (hs : Strm w B k) (hk : k + 2 ≤ 1000000) (h3 : lo ≤ hi) (h4 : -1000000000000 ≤ lo) (h5 : hi ≤ 1000000000000) :
    Calls Try.prog 70 #[.pointer (some ⟨B, 0, none⟩), .int .i64 lo, .int .i64 hi] w (StrmPost w B k 2 (IntE fun z => -1100000000000 ≤ z ∧ z ≤ 1100000000000)) := by
  go_enter Try.func70, Try.ntmps70
  go_wp2_with (first
    | (go_at_call 39; refine (flip_any B k _ w hs (by omega) (by omega) (by omega)).mono ?_; rintro e w1 ⟨⟨b, rfl⟩, hst, hmt⟩; cases b)
    | (go_at_call 36; refine (range_any B (k + 1) _ _ w1 hst (by omega) (by omega) (by omega) (by omega)).mono ?_; rintro e w2 ⟨⟨z, rfl, h6, h7⟩, hst2, hmt2⟩)
    | (go_at_call 38; refine (pick_new B (k + 1) [lo - 1, hi + 1, lo, hi, -1099511627776, 1099511627776] 6 (fun z => -1100000000000 ≤ z ∧ z ≤ 1100000000000) w1 hst (by omega) rfl (by omega) (by omega) (by intro z hz; simp only [List.mem_cons, List.not_mem_nil, or_false] at hz; omega)).mono ?_; rintro e w2 ⟨⟨z, rfl, h6, h7⟩, hst2, hmt2⟩))
  all_goals
    go_ret
    exact StrmPost.trans hmt (d := 1) ⟨⟨_, rfl, by omega, by omega⟩, hst2, hmt2⟩

end Go.Proofs.Ytmcebhjcaacbpaa

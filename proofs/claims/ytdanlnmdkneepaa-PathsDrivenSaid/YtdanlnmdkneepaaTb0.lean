/- Quotients: the program and the reference. -/
import Derived.Test.YtdanlnmdkneepaaTa
set_option linter.unusedSimpArgs false
set_option linter.unusedVariables false
namespace Go.Proofs.Ytdanlnmdkneepaa
open Go.RowKit
theorem set2V_0 {w : World} {b : Nat} {v0 v1 u : Value} {t : TypeId} (h : w.heap[b]? = some (.cells #[v0, v1] t (0, 0))) : (w.setCell ⟨b, 0, none⟩ u).heap[b]? = some (.cells #[u, v1] t (0, 0)) := by
  simp [World.setCell, Array.getElem?_modify, h]
theorem set2V_1 {w : World} {b : Nat} {v0 v1 u : Value} {t : TypeId} (h : w.heap[b]? = some (.cells #[v0, v1] t (0, 0))) : (w.setCell ⟨b, 1, none⟩ u).heap[b]? = some (.cells #[v0, u] t (0, 0)) := by
  simp [World.setCell, Array.getElem?_modify, h]
theorem Ceil_any (n d : Int) (w : World) (hn : 0 ≤ n) (hn2 : n ≤ 8000000000000000000) (hd : 0 < d) (hd2 : d ≤ 8000000000000000000) : Calls Try.prog 85 #[.int .i64 n, .int .i64 d] w fun e w' => e = .returned (.int .i64 (ceilZ n d)) ∧ w = w' := by
  have hq1 : 0 ≤ n.tdiv d := Int.tdiv_nonneg hn (by omega)
  have hq2 : n.tdiv d ≤ n := by rw [Int.tdiv_eq_ediv_of_nonneg hn]; exact Int.ediv_le_self _ hn
  have hr : 0 ≤ n % d := Int.emod_nonneg _ (by omega)
  have hr2 : n % d < d := Int.emod_lt_of_pos _ hd
  have k0 : n.tmod d = n % d := Int.tmod_eq_emod_of_nonneg hn
  have hc := ceil_go hn hd
  have hz : ¬ d = 0 := by omega
  have e1 : IntKind.i64.wrap (n.tdiv d) = n.tdiv d := i64w (by omega)
  have e2 : IntKind.i64.wrap (n.tdiv d + 1) = n.tdiv d + 1 := i64w (by omega)
  have e3 : IntKind.i64.wrap (n % d) = n % d := i64w (by omega)
  rw [k0] at hc
  have HC := Lib.hid hc
  clear hc
  by_cases h : 0 < n % d
  · have R := Lib.hid (show n.tdiv d + 1 = ceilZ n d by rw [← HC.out, if_pos h])
    go_enter Try.func85, Try.ntmps85
    go_wp2_with (fail)
    go_ret
    exact ⟨ret_int R.out, rfl⟩
  · have R := Lib.hid (show n.tdiv d = ceilZ n d by rw [← HC.out, if_neg h])
    go_enter Try.func85, Try.ntmps85
    go_wp2_with (fail)
    go_ret
    exact ⟨ret_int R.out, rfl⟩
/-- A negated number's quotient, rounded down. -/
def flrZ (n d : Int) : Int := if (-n).tmod d < 0 then (-n).tdiv d - 1 else (-n).tdiv d
theorem flrZ_neg {n d : Int} (hn : 0 ≤ n) (hd : 0 < d) : -flrZ n d = ceilZ n d := floor_go hn hd
theorem floor_any (n d : Int) (w : World) (hn : 0 ≤ n) (hn2 : n ≤ 8000000000000000000) (hd : 0 < d) (hd2 : d ≤ 8000000000000000000) : Calls Try.prog 95 #[.int .i64 (-n), .int .i64 d] w fun e w' => e = .returned (.int .i64 (flrZ n d)) ∧ w = w' := by
  have hq1 : 0 ≤ n.tdiv d := Int.tdiv_nonneg hn (by omega)
  have hq2 : n.tdiv d ≤ n := by rw [Int.tdiv_eq_ediv_of_nonneg hn]; exact Int.ediv_le_self _ hn
  have hr : 0 ≤ n % d := Int.emod_nonneg _ (by omega)
  have hr2 : n % d < d := Int.emod_lt_of_pos _ hd
  have k0 : n.tmod d = n % d := Int.tmod_eq_emod_of_nonneg hn
  have k1 : (-n).tdiv d = -(n.tdiv d) := Int.neg_tdiv ..
  have k2 : (-n).tmod d = -(n.tmod d) := Int.neg_tmod ..
  have hz : ¬ d = 0 := by omega
  by_cases h : 0 < n % d
  · have R := Lib.hid (show -(n.tdiv d) - 1 = flrZ n d by unfold flrZ; rw [k1, k2, k0, if_pos (by omega)])
    have e1 : IntKind.i64.wrap (-(n.tdiv d)) = -(n.tdiv d) := i64w (by omega)
    have e2 : IntKind.i64.wrap (-(n.tdiv d) - 1) = -(n.tdiv d) - 1 := i64w (by omega)
    have e3 : IntKind.i64.wrap (-(n % d)) = -(n % d) := i64w (by omega)
    go_enter Try.func95, Try.ntmps95
    go_wp2_with (fail)
    go_ret
    exact ⟨ret_int R.out, rfl⟩
  · have R := Lib.hid (show -(n.tdiv d) = flrZ n d by unfold flrZ; rw [k1, k2, k0, if_neg (by omega)])
    have e1 : IntKind.i64.wrap (-(n.tdiv d)) = -(n.tdiv d) := i64w (by omega)
    have e3 : IntKind.i64.wrap (-(n % d)) = -(n % d) := i64w (by omega)
    go_enter Try.func95, Try.ntmps95
    go_wp2_with (fail)
    go_ret
    exact ⟨ret_int R.out, rfl⟩
end Go.Proofs.Ytdanlnmdkneepaa

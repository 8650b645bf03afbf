/- The plan of one printer and one job: what is checked. -/
import Derived.Test.YthaecpcpeelcnaaZr
import Derived.BigQuiet
import Derived.Deep.QuietTactic
set_option linter.unusedSimpArgs false
set_option linter.unusedVariables false
namespace Go.Proofs.Ythaecpcpeelcnaa
open Go.RowKit Go.Maps
def PRo : Obj := .cells #[.string ⟨#[112]⟩, .string ⟨#[97]⟩] 56
def JBo : Obj := .cells #[.string ⟨#[106]⟩, .string ⟨#[98]⟩, .int .i64 20, .int .i64 0] 59
theorem isKey1 (s : ByteArray) (h : s = ⟨#[112]⟩ ∨ s = ⟨#[97]⟩ ∨ s = ⟨#[106]⟩ ∨ s = ⟨#[98]⟩) (w : World) : Calls Try.prog 51 #[.string s] w fun e w' => e = .returned (.bool true) ∧ w = w' := by
  rcases h with rfl | rfl | rfl | rfl
  · exact isKey_p w
  · exact isKey_a w
  · exact isKey_j w
  · exact isKey_b w
theorem withinC (n lo hi : Int) (w : World) (h1 : lo ≤ n) (h2 : n ≤ hi) : Calls Try.prog 24 #[.int .i64 n, .int .i64 lo, .int .i64 hi] w fun e w' => e = .returned (.bool true) ∧ w = w' := by
  go_enter Try.func24, Try.ntmps24
  go_wp2
  go_ret
  exact ⟨rfl, rfl⟩
set_option maxHeartbeats 4000000 in
theorem checkPrinters_one (g : Nat) (w : World) (h : w.heap[g]? = some (.cells #[.string ⟨#[112]⟩, .string ⟨#[97]⟩] 56 (0, 0))) :
    Calls Try.prog 45 #[.slice (some ⟨g, 0, none⟩) 1 1] w fun e w' => e = .returned (.int .i64 0) ∧ Below w.heap.size w w' := by
  have hg := lt_of_heap h
  have c0 : w.cell? ⟨g, 0, none⟩ = some (.string ⟨#[112]⟩) := cell_of h (i := 0) rfl
  have c1 : w.cell? ⟨g, 1, none⟩ = some (.string ⟨#[97]⟩) := cell_of h (i := 1) rfl
  have HB := Lib.hid (show Below w.heap.size w (w.alloc PRo) from (Below.refl _ _).alloc (Nat.le_refl _) _)
  unfold PRo at HB
  clear h
  go_enter Try.func45, Try.ntmps45
  go_wp2_with (fail)
  refine wp_loop_rounds 2 ?_
  rw [rounds_succ]
  go_wp2_with (go_at_call 51; refine (isKey1 _ (by first | exact .inl rfl | exact .inr (.inl rfl)) _).mono ?_; rintro e w' ⟨rfl, rfl⟩)
  go_quiet (fail)
  go_wp2
  rw [rounds_succ]
  go_wp2
  go_ret
  exact ⟨rfl, bdrewN HB.out _⟩
set_option maxHeartbeats 4000000 in
theorem checkJobs_one (g : Nat) (w : World) (h : w.heap[g]? = some (.cells #[.string ⟨#[106]⟩, .string ⟨#[98]⟩, .int .i64 20, .int .i64 0] 59 (0, 0))) :
    Calls Try.prog 46 #[.slice (some ⟨g, 0, none⟩) 1 1] w fun e w' => e = .returned (.int .i64 0) ∧ Below w.heap.size w w' := by
  have hg := lt_of_heap h
  have c0 : w.cell? ⟨g, 0, none⟩ = some (.string ⟨#[106]⟩) := cell_of h (i := 0) rfl
  have c1 : w.cell? ⟨g, 1, none⟩ = some (.string ⟨#[98]⟩) := cell_of h (i := 1) rfl
  have c2 : w.cell? ⟨g, 2, none⟩ = some (.int .i64 20) := cell_of h (i := 2) rfl
  have c3 : w.cell? ⟨g, 3, none⟩ = some (.int .i64 0) := cell_of h (i := 3) rfl
  have HB := Lib.hid (show Below w.heap.size w (w.alloc JBo) from (Below.refl _ _).alloc (Nat.le_refl _) _)
  unfold JBo at HB
  clear h
  go_enter Try.func46, Try.ntmps46
  go_wp2_with (fail)
  refine wp_loop_rounds 2 ?_
  rw [rounds_succ]
  go_wp2_with (first | (go_at_call 51; refine (isKey1 _ (by first | exact .inl rfl | exact .inr (.inl rfl) | exact .inr (.inr (.inl rfl)) | exact .inr (.inr (.inr rfl))) _).mono ?_; rintro e w' ⟨rfl, rfl⟩) | (go_at_call 24; refine (withinC _ _ _ _ (by decide) (by decide)).mono ?_; rintro e w' ⟨rfl, rfl⟩))
  go_quiet (fail)
  go_wp2
  rw [rounds_succ]
  go_wp2
  go_ret
  exact ⟨rfl, bdrewN HB.out _⟩
theorem checkBoth_one (g k : Nat) (w : World) (h : w.heap[g]? = some (.cells #[.string ⟨#[112]⟩, .string ⟨#[97]⟩] 56 (0, 0))) (h2 : w.heap[k]? = some (.cells #[.string ⟨#[106]⟩, .string ⟨#[98]⟩, .int .i64 20, .int .i64 0] 59 (0, 0))) :
    Calls Try.prog 41 #[.slice (some ⟨g, 0, none⟩) 1 1, .slice (some ⟨k, 0, none⟩) 1 1] w fun e w' => e = .returned (.int .i64 0) ∧ Below w.heap.size w w' := by
  have HJ := Lib.hid h2
  clear h2
  go_enter Try.func41, Try.ntmps41
  go_wp2_with (fail)
  refine (checkPrinters_one g w h).mono ?_
  rintro e w1 ⟨rfl, hb⟩
  replace HJ := Lib.hid (heap_keep hb HJ.out)
  have B1 := Lib.hid hb
  clear hb h
  go_wp2_with (fail)
  refine (checkJobs_one k w1 HJ.out).mono ?_
  rintro e w2 ⟨rfl, hb⟩
  have B2 := Lib.hid (B1.out.trans (hb.mono B1.out.size))
  clear hb
  go_wp2_with (fail)
  go_ret
  exact ⟨rfl, B2.out⟩
end Go.Proofs.Ythaecpcpeelcnaa

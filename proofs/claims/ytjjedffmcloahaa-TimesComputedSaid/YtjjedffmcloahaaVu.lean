/- Two slices of numbers compared. -/
import Derived.Test.YtjjedffmcloahaaVj
set_option linter.unusedSimpArgs false
set_option linter.unusedVariables false
namespace Go.Proofs.Ytjjedffmcloahaa
open Go.RowKit
set_option maxRecDepth 100000 in
set_option maxHeartbeats 4000000 in
theorem equalV_any (a1 a2 : Option Addr) (n c1 c2 : Nat) (U V : Nat → Int) (w : World) (hn : n ≤ 1000) (h1 : IntsR w a1 n U) (h2 : IntsR w a2 n V) (he : ∀ i, i < n → U i = V i) :
    Calls Try.prog 18 #[.slice a1 n c1, .slice a2 n c2] w fun e w' => e = .returned (.bool true) ∧ Below w.heap.size w w' := by
  have H1 := Lib.hid h1
  have H2 := Lib.hid h2
  have HE := Lib.hid he
  clear h1 h2 he
  go_enter Try.func18, Try.ntmps18
  go_wp2_with (fail)
  go_loopw [13] (fun i wr => ∃ t : Nat, t ≤ n ∧ i = .int .i64 t ∧ Below w.heap.size w wr) (fun i _ => n - (intOf i).toNat)
  case atStart => exact ⟨0, by omega, rfl, Below.refl _ _⟩
  case round =>
    obtain ⟨t, ht, rfl, hbel⟩ := hrel
    have HB := Lib.hid hbel
    have hsz := hbel.size
    clear hbel
    by_cases hlt : t < n
    · rcases H1.out with h | ⟨b, off, rfl, hb, hd⟩
      · omega
      rcases H2.out with h | ⟨b2, off2, rfl, hb2, hd2⟩
      · omega
      have k0 := cellk HB.out hb (hd t hlt)
      have k1 := cellk HB.out hb2 (hd2 t hlt)
      rw [← HE.out t hlt] at k1
      clear hd hd2
      have hne : (U t != U t) = false := by simp
      go_wp2_with (fail)
      refine wp_region_held_drew (S := (fun w' => w'.cell? ⟨b, off + t, none⟩ = some (.int .i64 (U t)) ∧ w'.cell? ⟨b2, off2 + t, none⟩ = some (.int .i64 (U t)))) (by kernel_rfl) ⟨k0, k1⟩ (fun hHeld => ?_)
      refine tkH (by assumption) 0 (oi := ?_) (v := ?_) ?_ ?_ ?_ ?_ ?_ ?_ ?_ ?_; rotate_left 2; (simp only [gA, gB, gC]; exact rfl); kernel_rfl; kernel_rfl; kernel_rfl; exact fun _ _ _ h => h; rfl; (intro w' hSw; (try dsimp only at hSw); go_simp; with_reducible rfl); simp only [Act.put, pB, pC, pD]
      refine tkH (by assumption) 1 (oi := ?_) (v := ?_) ?_ ?_ ?_ ?_ ?_ ?_ ?_ ?_; rotate_left 2; (simp only [gA, gB, gC]; exact rfl); kernel_rfl; kernel_rfl; kernel_rfl; exact fun _ _ _ h => h; rfl; (intro w' hSw; (try dsimp only at hSw); go_simp; with_reducible rfl); simp only [Act.put, pB, pC, pD]
      refine tkH (by assumption) 2 (oi := ?_) (v := ?_) ?_ ?_ ?_ ?_ ?_ ?_ ?_ ?_; rotate_left 2; (simp only [gA, gB, gC]; exact rfl); kernel_rfl; kernel_rfl; kernel_rfl; exact fun _ _ _ h => h; rfl; (intro w' hSw; (try dsimp only at hSw); go_simp; with_reducible rfl); simp only [Act.put, pB, pC, pD]
      refine tkH (by assumption) 3 (oi := ?_) (v := ?_) ?_ ?_ ?_ ?_ ?_ ?_ ?_ ?_; rotate_left 2; (simp only [gA, gB, gC]; exact rfl); kernel_rfl; kernel_rfl; kernel_rfl; exact fun _ _ _ h => h; rfl; (intro w' hSw; (try dsimp only at hSw); go_simp; with_reducible rfl); simp only [Act.put, pB, pC, pD]
      refine tkH (by assumption) 4 (oi := ?_) (v := ?_) ?_ ?_ ?_ ?_ ?_ ?_ ?_ ?_; rotate_left 2; (simp only [gA, gB, gC]; exact rfl); kernel_rfl; kernel_rfl; kernel_rfl; exact fun _ _ _ h => h; rfl; (intro w' hSw; (try dsimp only at hSw); go_simp; with_reducible rfl); simp only [Act.put, pB, pC, pD]
      refine tkH (by assumption) 5 (oi := ?_) (v := ?_) ?_ ?_ ?_ ?_ ?_ ?_ ?_ ?_; rotate_left 2; (simp only [gA, gB, gC]; exact rfl); kernel_rfl; kernel_rfl; kernel_rfl; exact fun _ _ _ h => h; rfl; (intro w' hSw; (try dsimp only at hSw); go_simp; with_reducible rfl); simp only [Act.put, pB, pC, pD]
      refine tkH (by assumption) 6 (oi := ?_) (v := ?_) ?_ ?_ ?_ ?_ ?_ ?_ ?_ ?_; rotate_left 2; (simp only [gA, gB, gC]; exact rfl); kernel_rfl; kernel_rfl; kernel_rfl; exact fun _ _ _ h => h; rfl; (intro w' hSw; (try dsimp only at hSw); go_simp; with_reducible rfl); simp only [Act.put, pB, pC, pD]
      refine tkH (by assumption) 7 (oi := ?_) (v := ?_) ?_ ?_ ?_ ?_ ?_ ?_ ?_ ?_; rotate_left 2; (simp only [gA, gB, gC]; exact rfl); kernel_rfl; kernel_rfl; kernel_rfl; exact fun _ _ _ h => h; rfl; (intro w' hSw; (try dsimp only at hSw); go_simp; with_reducible rfl); simp only [Act.put, pB, pC, pD]
      refine tkH (by assumption) 8 (oi := ?_) (v := ?_) ?_ ?_ ?_ ?_ ?_ ?_ ?_ ?_; rotate_left 2; (simp only [gA, gB, gC]; exact rfl); kernel_rfl; kernel_rfl; kernel_rfl; exact fun _ _ _ h => h; rfl; (intro w' hSw; (try dsimp only at hSw); go_simp; with_reducible rfl); simp only [Act.put, pB, pC, pD]
      refine wpAnyH_done (by kernel_rfl) ?_ _
      have HB2 := Lib.hid (Below.next_drew HB.out)
      go_wp2_with (fail)
      go_roundw
      case rel => exact ⟨t + 1, by omega, by go_num, HB2.out⟩
      case measure => simp [intOf] <;> omega
    · obtain rfl : n = t := by omega
      go_wp2_with (fail)
      go_ret
      exact ⟨rfl, HB.out⟩
end Go.Proofs.Ytjjedffmcloahaa

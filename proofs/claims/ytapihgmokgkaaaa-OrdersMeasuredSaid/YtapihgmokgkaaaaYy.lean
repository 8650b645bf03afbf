/- Next of nought. -/
import Derived.Test.YtapihgmokgkaaaaYv
set_option linter.unusedSimpArgs false
set_option linter.unusedVariables false
namespace Go.Proofs.Ytapihgmokgkaaaa
open Go.RowKit

theorem below0_any (x : Int) (w : World) : Calls Try.prog 27 #[.int .i64 x, .int .i64 0] w fun e w' => IntIn 1 e ∧ w = w' := by
  go_enter Try.func27, Try.ntmps27
  go_wp2
  go_ret
  exact ⟨⟨_, rfl, by omega, by omega⟩, rfl⟩
set_option maxHeartbeats 400000 in
theorem next0_any (B k : Nat) (w : World) (hs : Strm w B k) (hk : k + 1 ≤ 1000000) :
    Calls Try.prog 8 #[.pointer (some ⟨B, 0, none⟩), .int .i64 0] w (NextPost w B k 1) := by
  have hlt := hs.lt
  obtain ⟨h1, a, len, cap, j, zs, hn, hb, hr, ha⟩ := hs
  have c0 : w.cell? ⟨B, 0, none⟩ = some (.slice a len cap) := by simp [World.cell?, hb]
  have c1 : w.cell? ⟨B, 1, none⟩ = some (.int .i64 j) := by simp [World.cell?, hb]
  have f1 : w.frozen? ⟨B, 1, none⟩ = false := by simp [World.frozen?, hb]
  have P : ∀ e q, IntIn 1 e → NextPost w B k 1 e ((w.setCell ⟨B, 1, none⟩ (.int .i64 ((j : Int) + 1))).drewN q) := fun e q h => next_post hn hk hb hr ha h q
  have HP := Lib.hid P
  have HB := Lib.hid hb
  clear P hb
  by_cases h0 : len = 0
  · subst h0
    clear ha hr
    go_enter Try.func8, Try.ntmps8
    go_wp2_with (go_at_call 27; refine (below0_any _ _).mono ?_; rintro e w' ⟨⟨r, rfl, h5, h6⟩, rfl⟩)
    go_ret
    exact HP.out _ 0 ⟨r, rfl, h5, h6⟩
  · rcases hr with ⟨rfl, rfl, rfl, rfl⟩ | ⟨x, rfl, hl, hc, hz, hcell, hwf⟩
    · omega
    · have hx2 := ha x rfl (by omega)
      obtain ⟨b, off, spot⟩ := x
      have hspot : spot = none := by simpa [Addr.add] using World.cell?_spot (hcell 0 (by omega))
      subst hspot
      have hbb : b < B := hx2
      have hlen : len ≤ 9223372036854775807 := by unfold maxLen at hc; omega
      have hi0 : 0 ≤ (j : Int) % len := Int.emod_nonneg _ (by omega)
      have hi1 : (j : Int) % len < len := Int.emod_lt_of_pos _ (by omega)
      have hi2 : j % len < len := Nat.mod_lt _ (by omega)
      have e0 : ((len : Int) == 0) = false := by simp; omega
      obtain ⟨z, hzz⟩ : ∃ z, w.cell? ⟨b, off + j % len, none⟩ = some (.int .i64 z) := by
        have := hcell (j % len) (by omega)
        have e : Addr.add ⟨b, off, none⟩ (j % len) = ⟨b, off + j % len, none⟩ := by unfold Addr.add; split <;> simp_all
        rw [e] at this; exact ⟨_, this⟩
      clear ha hx2 hcell hwf
      go_enter Try.func8, Try.ntmps8
      go_wp2
      go_quiet (fail)
      go_wp2
      go_quiet (fail)
      go_wp2_with (go_at_call 27; first | (refine (below_any _ _ _ (by omega) (by omega)).mono ?_; rintro e w' ⟨⟨r, rfl, h5, h6⟩, rfl⟩) | (refine (below0_any _ _).mono ?_; rintro e w' ⟨⟨r, rfl, h5, h6⟩, rfl⟩))
      go_ret
      exact HP.out _ _ ⟨r, rfl, h5, h6⟩

end Go.Proofs.Ytapihgmokgkaaaa

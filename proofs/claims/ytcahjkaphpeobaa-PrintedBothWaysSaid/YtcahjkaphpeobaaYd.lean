/- A visit is checked: the program. -/
import Derived.Test.YtcahjkaphpeobaaYc
import Derived.Deep.QuietTactic
import Derived.BigQuiet
set_option linter.unusedSimpArgs false
set_option linter.unusedVariables false
namespace Go.Proofs.Ytcahjkaphpeobaa
open Go.RowKit
set_option maxRecDepth 100000 in
set_option maxHeartbeats 4000000 in
theorem checkVisit_any (a : Option Addr) (m c : Nat) (P : Nat → Pth) (v : Vis) (mv : Value) (t : Bool) (w : World) (hm : m ≤ 100) (hp : PathsR w a m P) (hn : ∀ i, i < m → (P i).n ≤ 1000)
    (hl : 0 ≤ v.p → v.p < m → ∀ W, w.alloc (.cells #[.int .i64 v.p, .int .i64 v.s, .bool v.b] 32) = W → (Instr.lookup 84 mv (.int .i64 v.p) false).run Try.prog W = .ok (.bool t) W) :
    Calls Try.prog 24 #[.slice a m c, v.v, mv] w fun e w' => e = .returned (.int .i64 (vF m P t v)) ∧ Below w.heap.size w w' := by
  obtain ⟨p, s, bk⟩ := v
  unfold Vis.v
  dsimp only at *
  by_cases h0 : p < 0
  · clear hl hp hn
    go_enter Try.func24, Try.ntmps24
    go_wp2_with (fail)
    go_ret
    exact ⟨ret_int (Eq.symm (by simp [vF, h0])), (by repeat (first | exact Below.refl _ _ | assumption | refine Below.drew ?_ | refine bdrewN ?_ _ | refine Below.setCell ?_ (by first | omega | (simp <;> omega)) _ | refine Below.alloc ?_ (by first | omega | (simp <;> omega)) _))⟩
  · have h0' : decide (p < 0) = false := by simpa using h0
    by_cases h1 : (m : Int) ≤ p
    · clear hl hp hn
      go_enter Try.func24, Try.ntmps24
      go_wp2_with (fail)
      go_ret
      exact ⟨ret_int (Eq.symm (by simp [vF, h1])), (by repeat (first | exact Below.refl _ _ | assumption | refine Below.drew ?_ | refine bdrewN ?_ _ | refine Below.setCell ?_ (by first | omega | (simp <;> omega)) _ | refine Below.alloc ?_ (by first | omega | (simp <;> omega)) _))⟩
    · have h1' : ¬ p ≥ (m : Int) := by omega
      obtain ⟨q, rfl⟩ : ∃ q : Nat, p = q := ⟨p.toNat, by omega⟩
      have hq : q < m := by omega
      have hqi : (q : Int) < (m : Int) := by omega
      rcases hp with h | ⟨b, off, rfl, hb, hd⟩
      · omega
      obtain ⟨⟨c0, c1⟩, _⟩ := hd q hq
      have hnq := hn q hq
      have hrun := hl (by omega) (by omega) _ rfl
      clear hd hn hl
      have hvF : vF m P t ⟨(q : Int), s, bk⟩ = if t = true then 6 else if ((P q).k = true ∧ bk = true) ∨ ((P q).k = false ∧ s ≠ 0) then 3 else if s < 0 ∨ ((P q).n : Int) ≤ s then 1 else 0 := by
        unfold vF; dsimp only; rw [if_neg (by omega), Int.toNat_natCast]
      have HVF := Lib.hid hvF
      clear hvF
      rcases t with _ | _
      · rcases hk : (P q).k with _ | _
        · rw [hk] at c1
          by_cases hs : s = 0
          · subst hs
            have hs' : (0 : Int) < 0 ↔ False := by simp
            by_cases hz : (P q).n = 0
            · have hz' : ((P q).n : Int) ≤ 0 := by omega
              go_enter Try.func24, Try.ntmps24
              go_wp2_with (fail)
              go_quiet (fail)
              go_wp2_with (fail)
              go_ret
              exact ⟨ret_int (Eq.symm (by rw [HVF.out, hk]; simp [hz])), (by repeat (first | exact Below.refl _ _ | assumption | refine Below.drew ?_ | refine bdrewN ?_ _ | refine Below.setCell ?_ (by first | omega | (simp <;> omega)) _ | refine Below.alloc ?_ (by first | omega | (simp <;> omega)) _))⟩
            · have hz' : ¬ ((P q).n : Int) ≤ 0 := by omega
              go_enter Try.func24, Try.ntmps24
              go_wp2_with (fail)
              go_quiet (fail)
              go_wp2_with (fail)
              go_ret
              exact ⟨ret_int (Eq.symm (by rw [HVF.out, hk]; simp; omega)), (by repeat (first | exact Below.refl _ _ | assumption | refine Below.drew ?_ | refine bdrewN ?_ _ | refine Below.setCell ?_ (by first | omega | (simp <;> omega)) _ | refine Below.alloc ?_ (by first | omega | (simp <;> omega)) _))⟩
          · have hs' : (s != 0) = true := by simpa using hs
            go_enter Try.func24, Try.ntmps24
            go_wp2_with (fail)
            go_ret
            exact ⟨ret_int (Eq.symm (by rw [HVF.out, hk]; simp [hs])), (by repeat (first | exact Below.refl _ _ | assumption | refine Below.drew ?_ | refine bdrewN ?_ _ | refine Below.setCell ?_ (by first | omega | (simp <;> omega)) _ | refine Below.alloc ?_ (by first | omega | (simp <;> omega)) _))⟩
        · rw [hk] at c1
          rcases bk with _ | _
          · by_cases hs0 : s < 0
            go_enter Try.func24, Try.ntmps24
            go_wp2_with (fail)
            go_quiet (fail)
            go_wp2_with (fail)
            go_ret
            exact ⟨ret_int (Eq.symm (by rw [HVF.out, hk]; simp [hs0])), (by repeat (first | exact Below.refl _ _ | assumption | refine Below.drew ?_ | refine bdrewN ?_ _ | refine Below.setCell ?_ (by first | omega | (simp <;> omega)) _ | refine Below.alloc ?_ (by first | omega | (simp <;> omega)) _))⟩
            · have hs0' : decide (s < 0) = false := by simpa using hs0
              by_cases hs1 : ((P q).n : Int) ≤ s
              · skip
                go_enter Try.func24, Try.ntmps24
                go_wp2_with (fail)
                go_quiet (fail)
                go_wp2_with (fail)
                go_ret
                exact ⟨ret_int (Eq.symm (by rw [HVF.out, hk]; simp [hs1])), (by repeat (first | exact Below.refl _ _ | assumption | refine Below.drew ?_ | refine bdrewN ?_ _ | refine Below.setCell ?_ (by first | omega | (simp <;> omega)) _ | refine Below.alloc ?_ (by first | omega | (simp <;> omega)) _))⟩
              · have hs1' : ¬ s ≥ ((P q).n : Int) := by omega
                go_enter Try.func24, Try.ntmps24
                go_wp2_with (fail)
                go_quiet (fail)
                go_wp2_with (fail)
                go_ret
                exact ⟨ret_int (Eq.symm (by rw [HVF.out, hk]; simp; omega)), (by repeat (first | exact Below.refl _ _ | assumption | refine Below.drew ?_ | refine bdrewN ?_ _ | refine Below.setCell ?_ (by first | omega | (simp <;> omega)) _ | refine Below.alloc ?_ (by first | omega | (simp <;> omega)) _))⟩
          · skip
            go_enter Try.func24, Try.ntmps24
            go_wp2_with (fail)
            go_ret
            exact ⟨ret_int (Eq.symm (by rw [HVF.out, hk]; simp)), (by repeat (first | exact Below.refl _ _ | assumption | refine Below.drew ?_ | refine bdrewN ?_ _ | refine Below.setCell ?_ (by first | omega | (simp <;> omega)) _ | refine Below.alloc ?_ (by first | omega | (simp <;> omega)) _))⟩
      · skip
        go_enter Try.func24, Try.ntmps24
        go_wp2_with (fail)
        go_ret
        exact ⟨ret_int (Eq.symm (by rw [HVF.out]; simp)), (by repeat (first | exact Below.refl _ _ | assumption | refine Below.drew ?_ | refine bdrewN ?_ _ | refine Below.setCell ?_ (by first | omega | (simp <;> omega)) _ | refine Below.alloc ?_ (by first | omega | (simp <;> omega)) _))⟩
end Go.Proofs.Ytcahjkaphpeobaa

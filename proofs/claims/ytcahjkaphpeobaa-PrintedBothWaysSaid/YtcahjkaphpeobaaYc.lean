/- Paths are checked: by the reference and by the program. -/
import Derived.Test.YtcahjkaphpeobaaYb
set_option linter.unusedSimpArgs false
set_option linter.unusedVariables false
namespace Go.Proofs.Ytcahjkaphpeobaa
open Go.RowKit

set_option maxRecDepth 100000 in
theorem pathFault_any (p : Pth) (w : World) (hn : p.n ≤ 1000) (hp : PtsR w p.a p.n p.X p.Y) :
    Calls Try.prog 22 #[.agg #[.slice p.a p.n p.c, .bool p.k]] w fun e w' => e = .returned (.int .i64 (pF p)) ∧ Below w.heap.size w w' := by
  obtain ⟨a, n, c, X, Y, k⟩ := p
  dsimp only at *
  have HP := Lib.hid hp
  clear hp
  by_cases l5n : 500 < n
  · have l5 : (500 : Int) < (n : Int) := by omega
    have h0' : ¬ (n : Int) = 0 := by omega
    have R := Lib.hid (show pF ⟨a, n, c, X, Y, k⟩ = 2 by unfold pF; rw [if_neg (show ¬ n = 0 by omega), if_pos (show 500 < n from l5n)])
    clear l5n
    go_enter Try.func22, Try.ntmps22
    go_wp2_with (fail)
    go_ret
    exact ⟨ret_int R.out.symm, (by repeat (first | exact Below.refl _ _ | assumption | refine Below.drew ?_ | refine bdrewN ?_ _ | refine Below.setCell ?_ (by first | omega | (simp <;> omega)) _ | refine Below.alloc ?_ (by first | omega | (simp <;> omega)) _))⟩
  have l5 : ¬ (500 : Int) < (n : Int) := by omega
  by_cases h0 : n = 0
  · subst h0
    go_enter Try.func22, Try.ntmps22
    go_wp2
    go_ret
    exact ⟨rfl, (by repeat (first | exact Below.refl _ _ | assumption | refine Below.drew ?_ | refine bdrewN ?_ _ | refine Below.setCell ?_ (by first | omega | (simp <;> omega)) _ | refine Below.alloc ?_ (by first | omega | (simp <;> omega)) _))⟩
  · have h0' : ¬ (n : Int) = 0 := by omega
    by_cases h3 : n < 3
    · have h3' : (n : Int) < 3 := by omega
      rcases k with _ | _
      · have R := Lib.hid (show pF ⟨a, n, c, X, Y, false⟩ = if allB n X Y = true then 0 else 1 by rw [pF_small (show ¬ 500 < n by omega)]; simp [h0])
        go_enter Try.func22, Try.ntmps22
        go_wp2_with (fail)
        refine (pointFault_any a n c X Y _ (by omega) (HP.out.kept (by repeat (first | exact Below.refl _ _ | assumption | refine Below.drew ?_ | refine bdrewN ?_ _ | refine Below.setCell ?_ (by first | omega | (simp <;> omega)) _ | refine Below.alloc ?_ (by first | omega | (simp <;> omega)) _)))).mono ?_
        rintro e w1 ⟨rfl, hb1⟩
        have B1 : Below w.heap.size w w1 := Below.trans (by repeat (first | exact Below.refl _ _ | assumption | refine Below.drew ?_ | refine bdrewN ?_ _ | refine Below.setCell ?_ (by first | omega | (simp <;> omega)) _ | refine Below.alloc ?_ (by first | omega | (simp <;> omega)) _)) (hb1.mono (by simp <;> omega))
        clear hb1
        go_wp2_with (fail)
        go_ret
        exact ⟨ret_int (R.out.trans rfl).symm, B1⟩
      · have R := Lib.hid (show pF ⟨a, n, c, X, Y, true⟩ = 3 by rw [pF_small (show ¬ 500 < n by omega)]; simp [h0, h3])
        go_enter Try.func22, Try.ntmps22
        go_wp2_with (fail)
        go_ret
        exact ⟨ret_int R.out.symm, (by repeat (first | exact Below.refl _ _ | assumption | refine Below.drew ?_ | refine bdrewN ?_ _ | refine Below.setCell ?_ (by first | omega | (simp <;> omega)) _ | refine Below.alloc ?_ (by first | omega | (simp <;> omega)) _))⟩
    · have h3' : ¬ (n : Int) < 3 := by omega
      have R := Lib.hid (show pF ⟨a, n, c, X, Y, k⟩ = if allB n X Y = true then 0 else 1 by rw [pF_small (show ¬ 500 < n by omega)]; simp [h0, h3])
      rcases k with _ | _
      all_goals
        go_enter Try.func22, Try.ntmps22
        go_wp2_with (fail)
        refine (pointFault_any a n c X Y _ (by omega) (HP.out.kept (by repeat (first | exact Below.refl _ _ | assumption | refine Below.drew ?_ | refine bdrewN ?_ _ | refine Below.setCell ?_ (by first | omega | (simp <;> omega)) _ | refine Below.alloc ?_ (by first | omega | (simp <;> omega)) _)))).mono ?_
        rintro e w1 ⟨rfl, hb1⟩
        have B1 : Below w.heap.size w w1 := Below.trans (by repeat (first | exact Below.refl _ _ | assumption | refine Below.drew ?_ | refine bdrewN ?_ _ | refine Below.setCell ?_ (by first | omega | (simp <;> omega)) _ | refine Below.alloc ?_ (by first | omega | (simp <;> omega)) _)) (hb1.mono (by simp <;> omega))
        clear hb1
        go_wp2_with (fail)
        go_ret
        exact ⟨ret_int (R.out.trans rfl).symm, B1⟩

set_option maxRecDepth 100000 in
theorem checkPath_any (p : Pth) (w : World) (hn : p.n ≤ 1000) (hp : PtsR w p.a p.n p.X p.Y) :
    Calls Try.prog 37 #[.agg #[.slice p.a p.n p.c, .bool p.k]] w fun e w' => e = .returned (.int .i64 (pF p)) ∧ Below w.heap.size w w' := by
  obtain ⟨a, n, c, X, Y, k⟩ := p
  dsimp only at *
  have HP := Lib.hid hp
  clear hp
  by_cases l5n : 500 < n
  · have l5 : (500 : Int) < (n : Int) := by omega
    have h0' : ¬ (n : Int) = 0 := by omega
    have R := Lib.hid (show pF ⟨a, n, c, X, Y, k⟩ = 2 by unfold pF; rw [if_neg (show ¬ n = 0 by omega), if_pos (show 500 < n from l5n)])
    clear l5n
    go_enter Try.func37, Try.ntmps37
    go_wp2_with (fail)
    go_ret
    exact ⟨ret_int R.out.symm, (by repeat (first | exact Below.refl _ _ | assumption | refine Below.drew ?_ | refine bdrewN ?_ _ | refine Below.setCell ?_ (by first | omega | (simp <;> omega)) _ | refine Below.alloc ?_ (by first | omega | (simp <;> omega)) _))⟩
  have l5 : ¬ (500 : Int) < (n : Int) := by omega
  by_cases h0 : n = 0
  · subst h0
    go_enter Try.func37, Try.ntmps37
    go_wp2
    go_ret
    exact ⟨rfl, (by repeat (first | exact Below.refl _ _ | assumption | refine Below.drew ?_ | refine bdrewN ?_ _ | refine Below.setCell ?_ (by first | omega | (simp <;> omega)) _ | refine Below.alloc ?_ (by first | omega | (simp <;> omega)) _))⟩
  · have h0' : ¬ (n : Int) = 0 := by omega
    by_cases h3 : n < 3
    · have h3' : (n : Int) < 3 := by omega
      rcases k with _ | _
      · have R := Lib.hid (show pF ⟨a, n, c, X, Y, false⟩ = if allB n X Y = true then 0 else 1 by rw [pF_small (show ¬ 500 < n by omega)]; simp [h0])
        go_enter Try.func37, Try.ntmps37
        go_wp2_with (fail)
        refine (inRange_any a n c X Y _ (by omega) (HP.out.kept (by repeat (first | exact Below.refl _ _ | assumption | refine Below.drew ?_ | refine bdrewN ?_ _ | refine Below.setCell ?_ (by first | omega | (simp <;> omega)) _ | refine Below.alloc ?_ (by first | omega | (simp <;> omega)) _)))).mono ?_
        rintro e w1 ⟨rfl, hb1⟩
        have B1 : Below w.heap.size w w1 := Below.trans (by repeat (first | exact Below.refl _ _ | assumption | refine Below.drew ?_ | refine bdrewN ?_ _ | refine Below.setCell ?_ (by first | omega | (simp <;> omega)) _ | refine Below.alloc ?_ (by first | omega | (simp <;> omega)) _)) (hb1.mono (by simp <;> omega))
        clear hb1
        rcases hz : allB n X Y with _ | _
        all_goals
          have HZ := Lib.hid hz
          clear hz
          go_wp2_with (fail)
          go_ret
          exact ⟨ret_int (by rw [R.out, HZ.out]; rfl), B1⟩
      · have R := Lib.hid (show pF ⟨a, n, c, X, Y, true⟩ = 3 by rw [pF_small (show ¬ 500 < n by omega)]; simp [h0, h3])
        go_enter Try.func37, Try.ntmps37
        go_wp2_with (fail)
        go_ret
        exact ⟨ret_int R.out.symm, (by repeat (first | exact Below.refl _ _ | assumption | refine Below.drew ?_ | refine bdrewN ?_ _ | refine Below.setCell ?_ (by first | omega | (simp <;> omega)) _ | refine Below.alloc ?_ (by first | omega | (simp <;> omega)) _))⟩
    · have h3' : ¬ (n : Int) < 3 := by omega
      have R := Lib.hid (show pF ⟨a, n, c, X, Y, k⟩ = if allB n X Y = true then 0 else 1 by rw [pF_small (show ¬ 500 < n by omega)]; simp [h0, h3])
      rcases k with _ | _
      all_goals
        go_enter Try.func37, Try.ntmps37
        go_wp2_with (fail)
        refine (inRange_any a n c X Y _ (by omega) (HP.out.kept (by repeat (first | exact Below.refl _ _ | assumption | refine Below.drew ?_ | refine bdrewN ?_ _ | refine Below.setCell ?_ (by first | omega | (simp <;> omega)) _ | refine Below.alloc ?_ (by first | omega | (simp <;> omega)) _)))).mono ?_
        rintro e w1 ⟨rfl, hb1⟩
        have B1 : Below w.heap.size w w1 := Below.trans (by repeat (first | exact Below.refl _ _ | assumption | refine Below.drew ?_ | refine bdrewN ?_ _ | refine Below.setCell ?_ (by first | omega | (simp <;> omega)) _ | refine Below.alloc ?_ (by first | omega | (simp <;> omega)) _)) (hb1.mono (by simp <;> omega))
        clear hb1
        rcases hz : allB n X Y with _ | _
        all_goals
          have HZ := Lib.hid hz
          clear hz
          go_wp2_with (fail)
          go_ret
          exact ⟨ret_int (by rw [R.out, HZ.out]; rfl), B1⟩

set_option maxRecDepth 100000 in
set_option maxHeartbeats 4000000 in
theorem pathsFault_any (a : Option Addr) (m c : Nat) (P : Nat → Pth) (w : World) (hm : m ≤ 100) (hp : PathsR w a m P) (hn : ∀ i, i < m → (P i).n ≤ 1000) :
    Calls Try.prog 11 #[.slice a m c] w fun e w' => e = .returned (.int .i64 (psF m P)) ∧ Below w.heap.size w w' := by
  have HP := Lib.hid hp
  have HN := Lib.hid hn
  clear hp hn
  have l2 : ¬ (200 : Int) < (m : Int) := by omega
  go_enter Try.func11, Try.ntmps11
  go_wp2_with (fail)
  go_loopw [11] (fun i wr => ∃ k : Nat, k ≤ m ∧ i = .int .i64 k ∧ (∀ j, j < k → pF (P j) = 0) ∧ Below w.heap.size w wr) (fun i _ => m - (intOf i).toNat)
  case atStart => exact ⟨0, by omega, rfl, fun j hj => by omega, Below.refl _ _⟩
  case round =>
    obtain ⟨k, hk, rfl, hj, hbel⟩ := hrel
    have HJ := Lib.hid hj
    clear hj
    have hsz := hbel.size
    by_cases hlt : k < m
    · rcases HP.out with h0 | ⟨b, off, rfl, hb, hd⟩
      · omega
      obtain ⟨⟨c0, c1⟩, hpt⟩ := hd k hlt
      replace c0 := cellk hbel hb c0
      replace c1 := cellk hbel hb c1
      have HT := Lib.hid (hpt.kept hbel)
      have hbw : b < wr.heap.size := by omega
      have HB := Lib.hid hbel
      have hnk := HN.out k hlt
      clear hbel hd hpt
      have BA := Lib.hid (HB.out.alloc hsz (.cells #[.slice (P k).a (P k).n (P k).c, .bool (P k).k] 30))
      go_wp2_with (fail)
      refine (pathFault_any (P k) _ hnk (HT.out.kept (by repeat (first | exact Below.refl _ _ | assumption | refine Below.drew ?_ | refine bdrewN ?_ _ | refine Below.setCell ?_ (by first | omega | (simp <;> omega)) _ | refine Below.alloc ?_ (by first | omega | (simp <;> omega)) _)))).mono ?_
      rintro e w1 ⟨rfl, hb1⟩
      have B1 := Lib.hid (BA.out.trans (hb1.mono (by simp; omega)))
      clear hb1
      by_cases hz : pF (P k) = 0
      · have HS := Lib.hid (show ∀ j, j < k + 1 → pF (P j) = 0 from fun j hj => by
          rcases Nat.lt_or_ge j k with h | h
          · exact HJ.out j h
          · obtain rfl : j = k := by omega
            exact hz)
        have hz' : (pF (P k) != 0) = false := by simp [hz]
        clear hz
        go_wp2_with (fail)
        go_roundw
        case rel => exact ⟨k + 1, by omega, by go_num, HS.out, B1.out⟩
        case measure => simp [intOf]; omega
      · have R := Lib.hid (firstE_at (f := fun i => pF (P i)) hlt HJ.out hz)
        have hz' : (pF (P k) != 0) = true := by simpa using hz
        clear hz
        go_wp2_with (fail)
        go_ret
        exact ⟨ret_int R.out.symm, B1.out⟩
    · obtain rfl : m = k := by omega
      have HB := Lib.hid hbel
      clear hbel
      go_wp2_with (fail)
      go_ret
      exact ⟨ret_int (firstE_zero HJ.out).symm, HB.out⟩

set_option maxRecDepth 100000 in
set_option maxHeartbeats 4000000 in
theorem checkPaths_any (a : Option Addr) (m c : Nat) (P : Nat → Pth) (w : World) (hm : m ≤ 100) (hp : PathsR w a m P) (hn : ∀ i, i < m → (P i).n ≤ 1000) :
    Calls Try.prog 23 #[.slice a m c] w fun e w' => e = .returned (.int .i64 (psF m P)) ∧ Below w.heap.size w w' := by
  have HP := Lib.hid hp
  have HN := Lib.hid hn
  clear hp hn
  have l2 : ¬ (200 : Int) < (m : Int) := by omega
  go_enter Try.func23, Try.ntmps23
  go_wp2_with (fail)
  go_loopw [11] (fun i wr => ∃ k : Nat, k ≤ m ∧ i = .int .i64 k ∧ (∀ j, j < k → pF (P j) = 0) ∧ Below w.heap.size w wr) (fun i _ => m - (intOf i).toNat)
  case atStart => exact ⟨0, by omega, rfl, fun j hj => by omega, Below.refl _ _⟩
  case round =>
    obtain ⟨k, hk, rfl, hj, hbel⟩ := hrel
    have HJ := Lib.hid hj
    clear hj
    have hsz := hbel.size
    by_cases hlt : k < m
    · rcases HP.out with h0 | ⟨b, off, rfl, hb, hd⟩
      · omega
      obtain ⟨⟨c0, c1⟩, hpt⟩ := hd k hlt
      replace c0 := cellk hbel hb c0
      replace c1 := cellk hbel hb c1
      have HT := Lib.hid (hpt.kept hbel)
      have hbw : b < wr.heap.size := by omega
      have HB := Lib.hid hbel
      have hnk := HN.out k hlt
      clear hbel hd hpt
      have BA := Lib.hid (HB.out.alloc hsz (.cells #[.slice (P k).a (P k).n (P k).c, .bool (P k).k] 30))
      go_wp2_with (fail)
      refine (checkPath_any (P k) _ hnk (HT.out.kept (by repeat (first | exact Below.refl _ _ | assumption | refine Below.drew ?_ | refine bdrewN ?_ _ | refine Below.setCell ?_ (by first | omega | (simp <;> omega)) _ | refine Below.alloc ?_ (by first | omega | (simp <;> omega)) _)))).mono ?_
      rintro e w1 ⟨rfl, hb1⟩
      have B1 := Lib.hid (BA.out.trans (hb1.mono (by simp; omega)))
      clear hb1
      by_cases hz : pF (P k) = 0
      · have HS := Lib.hid (show ∀ j, j < k + 1 → pF (P j) = 0 from fun j hj => by
          rcases Nat.lt_or_ge j k with h | h
          · exact HJ.out j h
          · obtain rfl : j = k := by omega
            exact hz)
        have hz' : (pF (P k) != 0) = false := by simp [hz]
        clear hz
        go_wp2_with (fail)
        go_roundw
        case rel => exact ⟨k + 1, by omega, by go_num, HS.out, B1.out⟩
        case measure => simp [intOf]; omega
      · have R := Lib.hid (firstE_at (f := fun i => pF (P i)) hlt HJ.out hz)
        have hz' : (pF (P k) != 0) = true := by simpa using hz
        clear hz
        go_wp2_with (fail)
        go_ret
        exact ⟨ret_int R.out.symm, B1.out⟩
    · obtain rfl : m = k := by omega
      have HB := Lib.hid hbel
      clear hbel
      go_wp2_with (fail)
      go_ret
      exact ⟨ret_int (firstE_zero HJ.out).symm, HB.out⟩
end Go.Proofs.Ytcahjkaphpeobaa

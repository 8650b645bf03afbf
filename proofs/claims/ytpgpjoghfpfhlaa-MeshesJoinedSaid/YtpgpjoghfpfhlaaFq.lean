/- FacesFault. -/
import Derived.Test.YtpgpjoghfpfhlaaPo
set_option linter.unusedSimpArgs false
set_option linter.unusedVariables false
namespace Go.Proofs.Ytpgpjoghfpfhlaa
open Go.RowKit

theorem all_s {P : Nat → Bool} {k : Nat} (h : ∀ j, j < k → P j = false) (hp : P k = false) : ∀ j, j < k + 1 → P j = false := fun j hj => by
  by_cases e : j = k
  · subst e; exact hp
  · exact h j (by omega)
theorem all_z {P : Nat → Int} {k : Nat} (h : ∀ j, j < k → P j = 0) (hp : P k = 0) : ∀ j, j < k + 1 → P j = 0 := fun j hj => by
  by_cases e : j = k
  · subst e; exact hp
  · exact h j (by omega)
theorem inb_no {z : Int} {nf : Nat} (h : ¬ (0 ≤ z ∧ z < nf)) : inB z 0 ((nf : Int) - 1) = false := by
  rcases h' : inB z 0 ((nf : Int) - 1) with _ | _
  · rfl
  · simp [inB] at h'; omega
set_option maxHeartbeats 2000000 in
theorem indexI_any (a : Option Addr) (n c : Nat) (L : Nat → Int) (z : Int) (w : World) (hn : n ≤ 1000000) (hc : RowI w a n L) :
    Calls Try.prog 63 #[.slice a n c, .int .i64 z] w fun e w' => e = .returned (.int .i64 (fstP (fun j => z == L j) n)) ∧ w' = w := by
  have HC := Lib.hid hc
  clear hc
  go_enter Try.func63, Try.ntmps63
  go_wp2
  go_loop [8] (fun i => ∃ k : Nat, k ≤ n ∧ i = .int .i64 k ∧ (∀ j, j < k → (z == L j) = false)) (fun i => n - (intOf i).toNat)
  case atStart => exact ⟨0, by omega, rfl, fun j hj => by omega⟩
  case round =>
    obtain ⟨k, hk, rfl, hno⟩ := hrel
    have HN := Lib.hid hno
    clear hno
    by_cases hlt : k < n
    · rcases HC.out with h | ⟨b, off, rfl, hb, hL⟩
      · omega
      have c0 := hL k hlt
      clear hL
      rcases hP : (z == L k) with _ | _
      · have HP := Lib.hid hP
        go_wp2
        go_round
        case rel => exact ⟨k + 1, by omega, by go_num, all_s HN.out HP.out⟩
        case measure => simp [intOf]; omega
      · have HP := Lib.hid hP
        go_wp2
        go_ret
        exact ⟨ret_int (fstP_hit (P := fun j => z == L j) hlt HN.out HP.out).symm, rfl⟩
    · obtain rfl : n = k := by omega
      go_wp2
      go_ret
      exact ⟨ret_int (fstP_none HN.out).symm, rfl⟩
theorem fst_tk (L : Nat → Int) (m : Nat) (z : Int) : decide (0 ≤ fstP (fun j => z == L j) m) = tkI L m z := by
  have key : ∀ m, (fstP (fun j => z == L j) m = -1 ∧ tkI L m z = false) ∨ (0 ≤ fstP (fun j => z == L j) m ∧ tkI L m z = true) := fun m => by
    induction m with
    | zero => exact .inl ⟨rfl, rfl⟩
    | succ m ih =>
      simp only [fstP, tkI_succ]
      rcases ih with ⟨h1, h2⟩ | ⟨h1, h2⟩
      · rw [if_pos h1, h2]
        by_cases e : z = L m
        · subst e; right; simp
        · left; simp [e, Ne.symm e]
      · right
        rw [if_neg (by omega), h2]
        exact ⟨h1, by simp⟩
  rcases key m with ⟨h1, h2⟩ | ⟨h1, h2⟩
  · rw [h1, h2]; rfl
  · rw [h2]; simp [h1]
set_option maxHeartbeats 2000000 in
theorem containsI_any (a : Option Addr) (n c : Nat) (L : Nat → Int) (z : Int) (w : World) (hn : n ≤ 1000000) (hc : RowI w a n L) :
    Calls Try.prog 43 #[.slice a n c, .int .i64 z] w fun e w' => e = .returned (.bool (tkI L n z)) ∧ w' = w := by
  have HC := Lib.hid hc
  clear hc
  go_enter Try.func43, Try.ntmps43
  go_wp2_with (fail)
  refine (indexI_any a n c L z w hn HC.out).mono ?_
  rintro e w1 ⟨rfl, rfl⟩
  go_wp2
  go_ret
  exact ⟨by rw [← fst_tk]; rfl, rfl⟩
set_option maxRecDepth 100000 in
set_option maxHeartbeats 4000000 in
theorem facesFault_any (av af : Option Addr) (nv cv nf cf : Nat) (al : Option Addr) (n cl : Nat) (L : Nat → Int) (w : World) (hl : RowI w al n L) (hn : n ≤ 1000000) (hnf : nf ≤ 1000000) (hc : n ≤ cl) :
    Calls Try.prog 13 #[.agg #[.slice av nv cv, .slice af nf cf], .slice al n cl] w fun e w' => e = .returned (.int .i64 (if n = 0 then 8 else first (pErr nf L) n)) ∧ Below w.heap.size w w' := by
  have HL := Lib.hid hl
  clear hl
  by_cases h0 : n = 0
  · subst h0
    go_enter Try.func13, Try.ntmps13
    go_wp2
    go_ret
    exact ⟨rfl, (by repeat (first | exact Below.refl _ _ | assumption | refine Below.drew ?_ | refine bdrewN ?_ _ | refine Below.setCell ?_ (by first | omega | (simp <;> omega)) _ | refine Below.alloc ?_ (by first | omega | (simp <;> omega)) _))⟩
  have en : ((n : Int) == 0) = false := by simpa using h0
  go_enter Try.func13, Try.ntmps13
  go_wp2_with (fail)
  go_loopw [12] (fun i wr => ∃ k : Nat, k ≤ n ∧ i = .int .i64 k ∧ (∀ j, j < k → pErr nf L j = 0) ∧ wr.cell? ⟨w.heap.size, 1, none⟩ = some (.slice af nf cf) ∧ Below w.heap.size w wr) (fun i _ => n - (intOf i).toNat)
  case atStart => exact ⟨0, by omega, rfl, fun j hj => by omega, by simp [go_sem], (by repeat (first | exact Below.refl _ _ | assumption | refine Below.drew ?_ | refine bdrewN ?_ _ | refine Below.setCell ?_ (by first | omega | (simp <;> omega)) _ | refine Below.alloc ?_ (by first | omega | (simp <;> omega)) _))⟩
  case round =>
    obtain ⟨k, hk, rfl, hno, hm, hbel⟩ := hrel
    have HN := Lib.hid hno
    have HB := Lib.hid hbel
    clear hno hbel
    by_cases hlt : k < n
    · have RW := Lib.hid (HL.out.kept HB.out)
      rcases RW.out with h | ⟨b, off, rfl, hb, hL⟩
      · omega
      have c0 := hL k hlt
      clear hL
      have RK : Hid (RowI wr (some ⟨b, off, none⟩) k L) := Lib.hid (by
        rcases RW.out with h | ⟨b', off', e, hb', hL'⟩
        · omega
        · exact .inr ⟨b', off', e, hb', fun i hi => hL' i (by omega)⟩)
      by_cases hin : 0 ≤ L k ∧ L k < nf
      · have hi : inB (L k) 0 ((nf : Int) - 1) = true := by simp [inB]; omega
        rcases ht : tkI L k (L k) with _ | _
        · have HP : Hid (pErr nf L k = 0) := Lib.hid (by simp [pErr, hin, ht])
          have HT := Lib.hid ht
          clear ht
          go_wp2_with (first | (go_at_call 28; refine (in_any _ _ _ _).mono ?_; rintro e w' ⟨rfl, rfl⟩; rw [hi]) | (go_at_call 43; refine (containsI_any _ k _ L _ _ (by omega) RK.out).mono ?_; rintro e w' ⟨rfl, rfl⟩; rw [HT.out]))
          go_roundw
          case rel => exact ⟨k + 1, by omega, by go_num, all_z HN.out HP.out, hm, HB.out⟩
          case measure => simp [intOf]; omega
        · have HP : Hid (pErr nf L k = 6) := Lib.hid (by simp [pErr, hin, ht])
          have HT := Lib.hid ht
          clear ht
          go_wp2_with (first | (go_at_call 28; refine (in_any _ _ _ _).mono ?_; rintro e w' ⟨rfl, rfl⟩; rw [hi]) | (go_at_call 43; refine (containsI_any _ k _ L _ _ (by omega) RK.out).mono ?_; rintro e w' ⟨rfl, rfl⟩; rw [HT.out]))
          go_ret
          exact ⟨ret_int (by rw [first_hit hlt HN.out (by rw [HP.out]; decide), HP.out]), HB.out⟩
      · have hi : inB (L k) 0 ((nf : Int) - 1) = false := inb_no hin
        have HP : Hid (pErr nf L k = 8) := Lib.hid (by simp [pErr, hin])
        clear hin
        go_wp2_with (first | (go_at_call 28; refine (in_any _ _ _ _).mono ?_; rintro e w' ⟨rfl, rfl⟩; rw [hi]))
        go_ret
        exact ⟨ret_int (by rw [first_hit hlt HN.out (by rw [HP.out]; decide), HP.out]), HB.out⟩
    · obtain rfl : n = k := by omega
      go_wp2
      go_ret
      exact ⟨ret_int (by rw [first_zero HN.out]), HB.out⟩
end Go.Proofs.Ytpgpjoghfpfhlaa

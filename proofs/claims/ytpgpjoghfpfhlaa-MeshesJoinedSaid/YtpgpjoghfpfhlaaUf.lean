/- Which vertices are used, by the reference's search; the map of their places. -/
import Derived.Test.YtpgpjoghfpfhlaaWk
set_option linter.unusedSimpArgs false
set_option linter.unusedVariables false
namespace Go.Proofs.Ytpgpjoghfpfhlaa
open Go.RowKit Go.Maps

def isC (f : V3) (i : Int) : Bool := f.x == i || (f.y == i || f.z == i)
theorem used1_any (x y z i : Int) (p : Nat) (w : World) (hp : w.cell? ⟨p, 0, none⟩ = some (.int .i64 i)) (hl : p < w.heap.size) :
    Calls Try.prog 65 #[.agg #[.int .i64 x, .int .i64 y, .int .i64 z], .pointer (some ⟨p, 0, none⟩)] w fun e w' => e = .returned (.bool (isC ⟨x, y, z⟩ i)) ∧ Below w.heap.size w w' := by
  rcases hx : (x == i) with _ | _
  · rcases hy : (y == i) with _ | _
    · go_enter Try.func65, Try.ntmps65
      go_wp2
      go_ret
      exact ⟨by simp [isC, hx, hy], (by repeat (first | exact Below.refl _ _ | assumption | refine Below.drew ?_ | refine bdrewN ?_ _ | refine Below.setCell ?_ (by first | omega | (simp <;> omega)) _ | refine Below.alloc ?_ (by first | omega | (simp <;> omega)) _))⟩
    · go_enter Try.func65, Try.ntmps65
      go_wp2
      go_ret
      exact ⟨by simp [isC, hx, hy], (by repeat (first | exact Below.refl _ _ | assumption | refine Below.drew ?_ | refine bdrewN ?_ _ | refine Below.setCell ?_ (by first | omega | (simp <;> omega)) _ | refine Below.alloc ?_ (by first | omega | (simp <;> omega)) _))⟩
  · go_enter Try.func65, Try.ntmps65
    go_wp2
    go_ret
    exact ⟨by simp [isC, hx], (by repeat (first | exact Below.refl _ _ | assumption | refine Below.drew ?_ | refine bdrewN ?_ _ | refine Below.setCell ?_ (by first | omega | (simp <;> omega)) _ | refine Below.alloc ?_ (by first | omega | (simp <;> omega)) _))⟩

/-- The first of n with P; -1 if there is none. -/
def fstP (P : Nat → Bool) : Nat → Int
  | 0 => -1
  | n + 1 => if fstP P n = -1 then (if P n = true then (n : Int) else -1) else fstP P n
theorem fstP_none {P : Nat → Bool} {n : Nat} (h : ∀ j, j < n → P j = false) : fstP P n = -1 := by
  induction n with
  | zero => rfl
  | succ n ih => simp [fstP, ih fun j hj => h j (by omega), h n (by omega)]
theorem fstP_hit {P : Nat → Bool} {n i : Nat} (hi : i < n) (h : ∀ j, j < i → P j = false) (hp : P i = true) : fstP P n = (i : Int) := by
  induction n with
  | zero => omega
  | succ n ih =>
    by_cases e : i = n
    · subst e; simp [fstP, fstP_none h, hp]
    · have := ih (by omega)
      simp only [fstP]
      rw [this, if_neg (by omega)]
set_option maxRecDepth 100000 in
set_option maxHeartbeats 2000000 in
theorem indexF_any (p : Nat) (P : Nat → Bool) (af : Option Addr) (nf cf : Nat) (F : Nat → V3) (w : World) (hf : Row3 w af nf F) (hn : nf ≤ 1000000)
    (hcl : ∀ W, Below w.heap.size w W → ∀ k, k < nf → Calls Try.prog 65 #[.agg #[.int .i64 (F k).x, .int .i64 (F k).y, .int .i64 (F k).z], .pointer (some ⟨p, 0, none⟩)] W fun e w' => e = .returned (.bool (P k)) ∧ Below W.heap.size W w') :
    Calls Try.prog 71 #[.slice af nf cf, .func (.func 65) #[] #[.pointer (some ⟨p, 0, none⟩)]] w fun e w' => e = .returned (.int .i64 (fstP P nf)) ∧ Below w.heap.size w w' := by
  have HC := Lib.hid hcl
  have HF := Lib.hid hf
  clear hcl hf
  go_enter Try.func71, Try.ntmps71
  go_wp2_with (fail)
  go_loopw [8] (fun i wr => ∃ k : Nat, k ≤ nf ∧ i = .int .i64 k ∧ (∀ j, j < k → P j = false) ∧ Below w.heap.size w wr) (fun i _ => nf - (intOf i).toNat)
  case atStart => exact ⟨0, by omega, rfl, fun j hj => by omega, (by repeat (first | exact Below.refl _ _ | assumption | refine Below.drew ?_ | refine bdrewN ?_ _ | refine Below.setCell ?_ (by first | omega | (simp <;> omega)) _ | refine Below.alloc ?_ (by first | omega | (simp <;> omega)) _))⟩
  case round =>
    obtain ⟨k, hk, rfl, hno, hbel⟩ := hrel
    have hsz := hbel.size
    have HN := Lib.hid hno
    have HB := Lib.hid hbel
    clear hno
    by_cases hlt : k < nf
    · rcases HF.out with h | ⟨bf, of, rfl, hbf, hF⟩
      · omega
      obtain ⟨c0, c1, c2⟩ := (hF.kept hbel hbf) k hlt
      have hbw : bf < wr.heap.size := by omega
      clear hF hbel
      rcases hP : P k with _ | _
      · have HP := Lib.hid hP
        clear hP
        go_wp2_with (fail)
        refine (HC.out wr HB.out k hlt).mono ?_
        rintro e w1 ⟨rfl, hb1⟩
        rw [HP.out]
        have HB1 := Lib.hid (HB.out.trans (hb1.mono hsz))
        clear hb1
        go_wp2
        go_roundw
        case rel => exact ⟨k + 1, by omega, by go_num, all_succ HN.out HP.out, HB1.out⟩
        case measure => simp [intOf]; omega
      · have HP := Lib.hid hP
        clear hP
        go_wp2_with (fail)
        refine (HC.out wr HB.out k hlt).mono ?_
        rintro e w1 ⟨rfl, hb1⟩
        rw [HP.out]
        have HB1 := Lib.hid (HB.out.trans (hb1.mono hsz))
        clear hb1
        go_wp2
        go_ret
        exact ⟨ret_int (fstP_hit hlt HN.out HP.out).symm, HB1.out⟩
    · obtain rfl : nf = k := by omega
      go_wp2
      go_ret
      exact ⟨ret_int (fstP_none HN.out).symm, HB.out⟩
theorem useB_iff (F : Nat → V3) (nf i : Nat) : useB F nf i = true ↔ ∃ k, k < nf ∧ isC (F k) (i : Int) = true := by
  unfold useB isC
  rw [List.any_eq_true]
  exact ⟨fun ⟨k, h1, h2⟩ => ⟨k, by simpa using h1, h2⟩, fun ⟨k, h1, h2⟩ => ⟨k, by simpa using h1, h2⟩⟩
theorem fst_use (F : Nat → V3) (nf i : Nat) : decide (0 ≤ fstP (fun k => isC (F k) (i : Int)) nf) = useB F nf i := by
  rcases h : useB F nf i with _ | _
  · rw [fstP_none fun j hj => by
      rcases h2 : isC (F j) (i : Int) with _ | _
      · rfl
      · rw [(useB_iff F nf i).2 ⟨j, hj, h2⟩] at h; cases h]
    rfl
  · obtain ⟨k, hk, hc⟩ := (useB_iff F nf i).1 h
    have key : ∀ n, k < n → n ≤ nf → 0 ≤ fstP (fun k => isC (F k) (i : Int)) n := fun n => by
      induction n with
      | zero => intro h; omega
      | succ n ih =>
        intro h1 h2
        simp only [fstP]
        by_cases e : k = n
        · subst e
          split
          · first | omega | (rw [if_pos hc]; omega)
          · rename_i h3
            have : ∀ m, fstP (fun k => isC (F k) (i : Int)) m = -1 ∨ 0 ≤ fstP (fun k => isC (F k) (i : Int)) m := fun m => by
              induction m with
              | zero => exact .inl rfl
              | succ m ih2 => simp only [fstP]; split
                              · split
                                · right; omega
                                · left; rfl
                              · exact ih2
            rcases this k with h4 | h4
            · exact absurd h4 h3
            · exact h4
        · have := ih (by omega) (by omega)
          rw [if_neg (by omega)]
          exact this
    simpa using key nf hk (Nat.le_refl _)
theorem containsF_any (p i : Nat) (af : Option Addr) (nf cf : Nat) (F : Nat → V3) (w : World) (hf : Row3 w af nf F) (hn : nf ≤ 1000000) (hp : w.cell? ⟨p, 0, none⟩ = some (.int .i64 i)) (hl : p < w.heap.size) :
    Calls Try.prog 64 #[.slice af nf cf, .func (.func 65) #[] #[.pointer (some ⟨p, 0, none⟩)]] w fun e w' => e = .returned (.bool (useB F nf i)) ∧ Below w.heap.size w w' := by
  have HF := Lib.hid hf
  have HE := Lib.hid (fst_use F nf i)
  clear hf
  go_enter Try.func64, Try.ntmps64
  go_wp2_with (fail)
  refine (indexF_any p (fun k => isC (F k) (i : Int)) af nf cf F w HF.out hn (fun W hb k hk => used1_any (F k).x (F k).y (F k).z (i : Int) p W (cellk hb hl hp) (by have := hb.size; omega))).mono ?_
  rintro e w1 ⟨rfl, hb1⟩
  go_wp2
  go_ret
  exact ⟨by rw [← HE.out]; rfl, hb1⟩

/-! The map of the places. -/
def MD (U : Nat → Bool) : Nat → DataW Unit
  | 0 => .map []
  | k + 1 => if U k = true then (MD U k).put (.int .i64 (k : Int)) (.lit (.int .i64 (cnt U k : Int))) else MD U k
theorem md_tidy (U : Nat → Bool) (n : Nat) : Tidy (MD U n) := by
  induction n with
  | zero => exact tidy_empty
  | succ n ih =>
    simp only [MD]
    split
    · exact ih.put (by simp [WideAt.IsKeyLit]) _
    · exact ih
theorem md_at {U : Nat → Bool} {n i : Nat} (hi : i < n) (hu : U i = true) (z : DataW Unit) : (MD U n).atKey (.int .i64 (i : Int)) z = .lit (.int .i64 (cnt U i : Int)) := by
  induction n with
  | zero => omega
  | succ n ih =>
    simp only [MD]
    by_cases e : i = n
    · subst e
      rw [if_pos hu]
      exact atKey_put_same (md_tidy U i).isMap (by simp [WideAt.IsKeyLit]) _ _
    · have := ih (by omega)
      split
      · rw [atKey_put_other (by simp; omega)]; exact this
      · exact this
end Go.Proofs.Ytpgpjoghfpfhlaa

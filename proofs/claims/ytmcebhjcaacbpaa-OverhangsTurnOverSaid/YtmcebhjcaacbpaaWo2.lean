/- Drawn meshes that are right; a face's normal; whether a list has a number. -/
import Derived.Test.YtmcebhjcaacbpaaRx
import Derived.Test.YtmcebhjcaacbpaaWo1
import Derived.Test.YtmcebhjcaacbpaaTk
set_option linter.unusedSimpArgs false
set_option linter.unusedVariables false
namespace Go.Proofs.Ytmcebhjcaacbpaa
open Go.RowKit
def IntsO (w : World) (a : Option Addr) (n : Nat) (L : Nat → Int) : Prop := n = 0 ∨ ∃ b off, a = some ⟨b, off, none⟩ ∧ b < w.heap.size ∧ ∀ i, i < n → w.cell? ⟨b, off + i, none⟩ = some (.int .i64 (L i))
theorem IntsO.kept {w w' : World} {a : Option Addr} {n : Nat} {L : Nat → Int} (h : IntsO w a n L) (hb : Below w.heap.size w w') : IntsO w' a n L := by
  rcases h with h | ⟨b, off, h1, h2, h3⟩
  · exact .inl h
  · exact .inr ⟨b, off, h1, Nat.lt_of_lt_of_le h2 hb.size, fun i hi => cellk hb h2 (h3 i hi)⟩
def memO (V : Nat → Int) (m : Nat) (t : Int) : Bool := decide (∃ i, i < m ∧ V i = t)
theorem memO_yes {V : Nat → Int} {m i : Nat} {t : Int} (hi : i < m) (h : V i = t) : memO V m t = true := by unfold memO; rw [decide_eq_true_eq]; exact ⟨i, hi, h⟩
theorem memO_no {V : Nat → Int} {m : Nat} {t : Int} (h : ∀ i, i < m → V i ≠ t) : memO V m t = false := by unfold memO; rw [decide_eq_false_iff_not]; rintro ⟨i, hi, e⟩; exact h i hi e
set_option maxHeartbeats 2000000 in
theorem indexO_any (a : Option Addr) (n c : Nat) (L : Nat → Int) (z : Int) (w : World) (hn : n ≤ 1000000) (hc : IntsO w a n L) :
    Calls Try.prog 25 #[.slice a n c, .int .i64 z] w fun e w' => (∃ r, e = .returned (.int .i64 r) ∧ decide (0 ≤ r) = memO L n z) ∧ w' = w := by
  have HC := Lib.hid hc
  clear hc
  go_enter Try.func25, Try.ntmps25
  go_wp2
  go_loop [8] (fun i => ∃ k : Nat, k ≤ n ∧ i = .int .i64 k ∧ (∀ j, j < k → (z == L j) = false)) (fun i => n - (intOf i).toNat)
  case atStart => exact ⟨0, by omega, rfl, fun j hj => by omega⟩
  case round =>
    obtain ⟨k, hk, rfl, hno⟩ := hrel
    have HN := Lib.hid hno
    clear hno
    by_cases hlt : k < n
    · rcases HC.out with h | ⟨b, off, rfl, hb, hL⟩
      · omega
      have c0 := hL k hlt
      clear hL
      rcases hP : (z == L k) with _ | _
      · have HP := Lib.hid (show ∀ j, j < k + 1 → (z == L j) = false from fun j hj => by
          rcases Nat.lt_or_ge j k with h | h
          · exact HN.out j h
          · obtain rfl : j = k := by omega
            exact hP)
        go_wp2
        go_round
        case rel => exact ⟨k + 1, by omega, by go_num, HP.out⟩
        case measure => simp [intOf]; omega
      · have HP := Lib.hid (memO_yes (V := L) hlt (by simpa using hP : z = L k).symm)
        go_wp2
        go_ret
        exact ⟨⟨_, rfl, by rw [HP.out]; simp⟩, rfl⟩
    · obtain rfl : n = k := by omega
      have HP := Lib.hid (memO_no (V := L) (m := n) (t := z) (fun i hi e => by have := HN.out i hi; simp [e] at this))
      go_wp2
      go_ret
      exact ⟨⟨_, rfl, by rw [HP.out]; rfl⟩, rfl⟩
set_option maxHeartbeats 2000000 in
theorem containsO_any (a : Option Addr) (n c : Nat) (L : Nat → Int) (z : Int) (w : World) (hn : n ≤ 1000000) (hc : IntsO w a n L) (b : Bool) (hb : memO L n z = b) :
    Calls Try.prog 9 #[.slice a n c, .int .i64 z] w fun e w' => e = .returned (.bool b) ∧ w' = w := by
  subst hb
  have HC := Lib.hid hc
  clear hc
  go_enter Try.func9, Try.ntmps9
  go_wp2_with (fail)
  refine (indexO_any a n c L z w hn HC.out).mono ?_
  rintro e w1 ⟨⟨r, rfl, hr⟩, rfl⟩
  have HR := Lib.hid hr
  clear hr
  go_wp2
  go_ret
  exact ⟨by rw [← HR.out]; rfl, rfl⟩
def FL (xs : List Value) (i : Nat) : Int := intOf (xs.getD i (.int .i64 0))
theorem ints_of_filt {w : World} {base : Nat} {a : Option Addr} {n c : Nat} {P : Nat → Bool} {m : Nat} (h : w.ownsRow base 3 1 (.slice a n c) n (filt P m)) (hn : n = (filt P m).length) (hx : ∀ u ∈ filt P m, ∃ z : Int, u = .int .i64 z) : IntsO w a n (FL (filt P m)) := by
  by_cases h0 : n = 0
  · exact .inl h0
  obtain ⟨g, cap', hv, _, hlt⟩ := h.form (by omega)
  cases hv
  refine .inr ⟨g, 0, rfl, hlt, fun i hi => ?_⟩
  rw [Nat.zero_add, h.cellAt i (by omega)]
  have hi' : i < (filt P m).length := by omega
  obtain ⟨z, hz⟩ := hx _ (List.getElem_mem hi')
  simp [FL, List.getElem?_eq_getElem hi', hz, intOf]
theorem filt_has {P : Nat → Bool} {u : Value} : ∀ {m : Nat}, u ∈ filt P m ↔ ∃ k : Nat, k < m ∧ P k = true ∧ u = .int .i64 (k : Int)
  | 0 => by simp [filt]
  | m + 1 => by
    rcases h : P m with _ | _
    · rw [filt_no h, filt_has]
      constructor
      · rintro ⟨k, h1, h2, h3⟩; exact ⟨k, by omega, h2, h3⟩
      · rintro ⟨k, h1, h2, h3⟩
        have : k ≠ m := fun e => by subst e; rw [h] at h2; cases h2
        exact ⟨k, by omega, h2, h3⟩
    · rw [filt_yes h, List.mem_append, filt_has]
      constructor
      · rintro (⟨k, h1, h2, h3⟩ | h3)
        · exact ⟨k, by omega, h2, h3⟩
        · exact ⟨m, by omega, h, by simpa using h3⟩
      · rintro ⟨k, h1, h2, h3⟩
        rcases Nat.lt_or_ge k m with h4 | h4
        · exact .inl ⟨k, h4, h2, h3⟩
        · obtain rfl : k = m := by omega
          exact .inr (by simpa using h3)
theorem filt_mem {P : Nat → Bool} {m k : Nat} (hk : k < m) : memO (FL (filt P m)) (filt P m).length (k : Int) = P k := by
  rcases h : P k with _ | _
  · refine memO_no fun i hi e => ?_
    obtain ⟨j, h1, h2, h3⟩ := filt_has.1 (List.getElem_mem hi)
    have : FL (filt P m) i = (j : Int) := by simp [FL, List.getElem?_eq_getElem hi, h3, intOf]
    obtain rfl : j = k := by omega
    rw [h] at h2; cases h2
  · have h1 : (Value.int .i64 (k : Int)) ∈ filt P m := filt_has.2 ⟨k, hk, h, rfl⟩
    obtain ⟨i, hi, e⟩ := List.getElem_of_mem h1
    exact memO_yes hi (by simp [FL, List.getElem?_eq_getElem hi, e, intOf])
end Go.Proofs.Ytmcebhjcaacbpaa

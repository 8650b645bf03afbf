/- Points turned round. -/
import Derived.Test.YtcahjkaphpeobaaYh
import Derived.RegionTactic
import Derived.BigRegion
set_option linter.unusedSimpArgs false
set_option linter.unusedVariables false
namespace Go.Proofs.Ytcahjkaphpeobaa
open Go.RowKit

def upd (f : Nat → Int) (j : Nat) (v : Int) (i : Nat) : Int := if i = j then v else f i
theorem cells2_set {X Y : Nat → Int} {i : Nat} {x y : Int} : ∀ {n : Nat}, i < n → ((cells2 X Y n).set (i * 2) (.int .i64 x)).set (i * 2 + 1) (.int .i64 y) = cells2 (upd X i x) (upd Y i y) n
  | 0, h => by omega
  | n + 1, h => by
    have hl := cells2_length X Y n
    simp only [cells2]
    by_cases e : i = n
    · subst e
      rw [List.set_append_right _ _ (by omega), hl, Nat.sub_self, List.set_append_right _ _ (by omega), hl, Nat.add_sub_cancel_left]
      rw [cells2_ext (X' := X) (Y' := Y) (X := upd X i x) (Y := upd Y i y) (fun j hj => by simp [upd]; omega)]
      simp [upd]
    · rw [List.set_append_left _ _ (by omega), List.set_append_left _ _ (by simp; omega), cells2_set (by omega)]
      simp [upd, Ne.symm e]
theorem own_set1 {w : World} {base n c g o size : Nat} {e : TypeId} {xs : List Value} {u : Value} (h : w.ownsRow base e size (.slice (some ⟨g, 0, none⟩) n c) n xs) : (w.setCell ⟨g, o, none⟩ u).ownsRow base e size (.slice (some ⟨g, 0, none⟩) n c) n (xs.set o u) := by
  obtain ⟨h1, h2⟩ := h
  refine ⟨by simpa using h1, ?_⟩
  rcases h2 with ⟨h2, _⟩ | ⟨g', cap, cur, hv, hb, hh, hn, hm, hs, hx⟩
  · cases h2
  · cases hv
    refine .inr ⟨g, c, cur.setIfInBounds o u, rfl, hb, ?_, hn, hm, by simpa using hs, ?_⟩
    · simp [World.setCell, Array.getElem?_modify, hh]
    · rw [← hx]
      simp [List.take_set]
theorem own_drew {w : World} {base n size : Nat} {e : TypeId} {v : Value} {xs : List Value} (h : w.ownsRow base e size v n xs) : w.drew.ownsRow base e size v n xs := h
theorem own_base {w : World} {base base' : Nat} {e : TypeId} {size : Nat} {v : Value} {n : Nat} {xs : List Value} (h : w.ownsRow base e size v n xs) (hb : base' ≤ base) : w.ownsRow base' e size v n xs := by
  obtain ⟨h1, h2⟩ := h
  refine ⟨h1, ?_⟩
  rcases h2 with h2 | ⟨g, cap, cur, hv, hg, r⟩
  · exact .inl h2
  · exact .inr ⟨g, cap, cur, hv, by omega, r⟩
/-- The other way round. -/
def rv (n : Nat) (X : Nat → Int) (i : Nat) : Int := X (n - 1 - i)
def rvT (n t : Nat) (X : Nat → Int) (i : Nat) : Int := if i < t ∨ n ≤ i + t then X (n - 1 - i) else X i
theorem rvT_step {n t : Nat} {X : Nat → Int} (h : 2 * t + 1 < n) : ∀ i, i < n → upd (upd (rvT n t X) t (X (n - 1 - t))) (n - 1 - t) (X t) i = rvT n (t + 1) X i := by
  intro i hi
  unfold upd rvT
  by_cases h1 : i = n - 1 - t
  · rw [if_pos h1, if_pos (by omega), h1, show n - 1 - (n - 1 - t) = t by omega]
  · rw [if_neg h1]
    by_cases h2 : i = t
    · rw [if_pos h2, if_pos (by omega), h2]
    · rw [if_neg h2]
      by_cases h3 : i < t ∨ n ≤ i + t
      · rw [if_pos h3, if_pos (by omega)]
      · rw [if_neg h3, if_neg (by omega)]
theorem rvT_step' {n t : Nat} {X : Nat → Int} (h : 2 * t + 1 < n) : ∀ i, i < n → upd (upd (rvT n t X) (n - 1 - t) (X t)) t (X (n - 1 - t)) i = rvT n (t + 1) X i := by
  intro i hi
  rw [← rvT_step h i hi]
  unfold upd
  by_cases h1 : i = n - 1 - t
  · rw [if_neg (by omega), if_pos h1, if_pos h1]
  · by_cases h2 : i = t
    · rw [if_pos h2, if_neg h1, if_pos h2]
    · rw [if_neg h2, if_neg h1, if_neg h1, if_neg h2]
theorem rvT_end {n t : Nat} {X : Nat → Int} (h : ¬ 2 * t + 1 < n) : ∀ i, i < n → rvT n t X i = rv n X i := by
  intro i hi
  unfold rvT rv
  by_cases h3 : i < t ∨ n ≤ i + t
  · rw [if_pos h3]
  · rw [if_neg h3, show n - 1 - i = i by omega]

set_option maxRecDepth 100000 in
set_option maxHeartbeats 8000000 in
theorem reverseP (base g n c : Nat) (X Y : Nat → Int) (w : World) (hn : n ≤ 1000) (h0 : 0 < n) (ho : w.ownsRow base 38 2 (.slice (some ⟨g, 0, none⟩) n c) n (cells2 X Y n)) (hgl : g < w.heap.size) :
    Calls Try.prog 7 #[.slice (some ⟨g, 0, none⟩) n c] w fun e w' => e = .returned (.tuple #[]) ∧ w'.ownsRow base 38 2 (.slice (some ⟨g, 0, none⟩) n c) n (cells2 (rv n X) (rv n Y) n) ∧ Mut (· = g) w w' := by
  have HO := Lib.hid ho
  clear ho
  have hw1 : IntKind.i64.wrap ((n : Int) - 1) = (n : Int) - 1 := by rw [IntKind.wrap_i64]; omega
  go_enter Try.func7, Try.ntmps7
  go_wp2_with (fail)
  go_loopw [2, 3] (fun i jv wr => ∃ (t : Nat) (J : Int), i = .int .i64 t ∧ jv = .int .i64 J ∧ 2 * t ≤ n ∧ J ≤ (n : Int) - 1 - t ∧ (n : Int) - 1 - t ≤ J ∧ wr.ownsRow base 38 2 (.slice (some ⟨g, 0, none⟩) n c) n (cells2 (rvT n t X) (rvT n t Y) n) ∧ Mut (· = g) w wr) (fun i _ _ => n - (intOf i).toNat)
  case atStart => exact ⟨0, _, rfl, rfl, by omega, by omega, by omega, by rw [cells2_ext (X' := X) (Y' := Y) (fun i hi => by unfold rvT; constructor <;> rw [if_neg (by omega)])]; exact HO.out, Mut.refl _ _⟩
  case round =>
    obtain ⟨t, J, rfl, rfl, ht, hJ1, hJ2, hown, hmt⟩ := hrel
    clear HO
    have HW := Lib.hid hown
    have HM := Lib.hid hmt
    have hszm := hmt.size
    clear hmt
    obtain ⟨j, rfl⟩ := Int.eq_ofNat_of_zero_le (show 0 ≤ J by omega)
    have hjn : j = n - 1 - t := by omega
    by_cases hlt : 2 * t + 1 < n
    · have cs : ∀ i u, i < n → u < 2 → wr.cell? ⟨g, i * 2 + u, none⟩ = some (.int .i64 (p2 (rvT n t X) (rvT n t Y) i u)) := fun i u hi hu => by
        rw [hown.cellAt (i * 2 + u) (by omega)]
        exact cells2_get _ _ n i u hi hu
      have fz := fun i => hown.frozenAt i
      have ct0 := cs t 0 (by omega) (by omega)
      have ct1 := cs t 1 (by omega) (by omega)
      have cj0 := cs j 0 (by omega) (by omega)
      have cj1 := cs j 1 (by omega) (by omega)
      have et : ∀ Z : Nat → Int, rvT n t Z t = Z t := fun Z => by unfold rvT; rw [if_neg (by omega)]
      have ej : ∀ Z : Nat → Int, rvT n t Z j = Z j := fun Z => by unfold rvT; rw [if_neg (by omega)]
      simp only [p2, if_true, et, ej, Nat.add_zero, if_neg (show ¬ (1 : Nat) = 0 by omega)] at ct0 ct1 cj0 cj1
      have f0 := fz (t * 2)
      have f1 := fz (t * 2 + 1)
      have f2 := fz (j * 2)
      have f3 := fz (j * 2 + 1)
      have hlj : t < j := by omega
      have hli : (t : Int) < (j : Int) := by omega
      have hti : (t : Int) < (n : Int) := by omega
      have hji : (j : Int) < (n : Int) := by omega
      have hgw : g < wr.heap.size := by omega
      have HJN := Lib.hid hjn
      have HLT := Lib.hid hlt
      clear cs fz hown et ej hjn hlt
      go_wp2_with (fail)
      go_region
      all_goals
        go_wp2
        go_roundw
        case rel =>
          have O := own_set1 (o := j * 2 + 1) (u := .int .i64 (Y t)) (own_set1 (o := j * 2) (u := .int .i64 (X t)) (own_set1 (o := t * 2 + 1) (u := .int .i64 (Y j)) (own_set1 (o := t * 2) (u := .int .i64 (X j)) HW.out)))
          rw [cells2_set (by omega), cells2_set (by have := HJN.out; omega)] at O
          have hJN := HJN.out
          have hLT := HLT.out
          subst hJN
          rw [cells2_ext (fun i hi => ⟨rvT_step (X := X) hLT i hi, rvT_step (X := Y) hLT i hi⟩)] at O
          exact ⟨t + 1, _, by go_num, rfl, by omega, by omega, by omega, own_drew O, ((((HM.out.setCell (fun _ => rfl) _).setCell (fun _ => rfl) _).setCell (fun _ => rfl) _).setCell (fun _ => rfl) _).drew⟩
        case measure => simp [intOf]; omega
    · go_wp2_with (fail)
      go_end0
      exact ⟨rfl, by rw [← cells2_ext (fun i hi => ⟨rvT_end (X := X) hlt i hi, rvT_end (X := Y) hlt i hi⟩)]; exact HW.out, HM.out⟩
end Go.Proofs.Ytcahjkaphpeobaa

/- The absolute form of a program: by the reference. -/
import Derived.Test.YtgmpmaiddombeaaGj
import Derived.BigRegion
import Derived.Deep.Cut
import Derived.Deep.CutRange
set_option linter.unusedSimpArgs false
set_option linter.unusedVariables false
namespace Go.Proofs.Ytgmpmaiddombeaa
open Go.RowKit
/-- A step with its place told absolutely. -/
def absS (s : St) (m : Ma) : St := if s.k = 3 ∨ s.k = 4 then { s with x := m.x, y := m.y } else if s.k = 5 then { s with z := m.z } else s
def absL (S : Nat → St) : Nat → List St
  | 0 => []
  | n + 1 => if (S n).k = 1 ∨ (S n).k = 2 then absL S n else absL S n ++ [absS (S n) (run S (n + 1))]
theorem absL_len (S : Nat → St) (n : Nat) : (absL S n).length ≤ n := by
  induction n with
  | zero => simp [absL]
  | succ n ih =>
    rw [absL]
    split
    · omega
    · rw [List.length_append]; simp; omega
/-- A list of steps as a function. -/
def lf (l : List St) (i : Nat) : St := l.getD i s00
def rowS (l : List St) : List Value := l.flatMap sV
theorem rowS_len (l : List St) : (rowS l).length = l.length * 6 := by
  induction l with
  | nil => rfl
  | cons a r ih => simp only [rowS, List.flatMap_cons, List.length_append, List.length_cons] at ih ⊢; rw [ih]; simp [sV]; omega
theorem rowS_app (l m : List St) : rowS (l ++ m) = rowS l ++ rowS m := by simp [rowS]
theorem rowS_get {l : List St} {i j : Nat} (hi : i < l.length) (hj : j < 6) : (rowS l)[i * 6 + j]? = (sV (lf l i))[j]? := by
  induction l generalizing i with
  | nil => simp at hi
  | cons a r ih =>
    have hl : (sV a).length = 6 := rfl
    simp only [rowS, List.flatMap_cons]
    match i with
    | 0 => rw [List.getElem?_append_left (by omega)]; simp [lf]
    | i + 1 =>
      rw [List.getElem?_append_right (by omega), hl, show (i + 1) * 6 + j - 6 = i * 6 + j by omega]
      have := ih (i := i) (by simpa using hi)
      simpa [rowS, lf] using this
theorem own_rowS {w : World} {base n c : Nat} {a : Option Addr} {l : List St} (h : w.ownsRow base 36 6 (.slice a n c) n (rowS l)) (hn : n = l.length) : StepsR w a n (lf l) := by
  by_cases h0 : n = 0
  · exact .inl h0
  · obtain ⟨g, cap', hv, _, hlt⟩ := h.form (by omega)
    cases hv
    refine .inr ⟨g, 0, rfl, hlt, fun i hi => ?_⟩
    have hk : ∀ j, j < 6 → w.cell? ⟨g, i * 6 + j, none⟩ = (sV (lf l i))[j]? := fun j hj => by
      rw [h.cellAt (i * 6 + j) (by omega)]
      exact rowS_get (by omega) hj
    simp only [Nat.zero_add]
    exact ⟨hk 0 (by omega), hk 1 (by omega), hk 2 (by omega), hk 3 (by omega), hk 4 (by omega), hk 5 (by omega)⟩
theorem own_base {w : World} {base base' n size : Nat} {e : TypeId} {v : Value} {xs : List Value} (h : w.ownsRow base e size v n xs) (hb : base' ≤ base) : w.ownsRow base' e size v n xs := by
  obtain ⟨h1, h2⟩ := h
  refine ⟨h1, ?_⟩
  rcases h2 with h2 | ⟨g, cap, cur, hv, hg, r⟩
  · exact .inl h2
  · exact .inr ⟨g, cap, cur, hv, Nat.le_trans hb hg, r⟩
theorem own_cap {w : World} {base n c size : Nat} {e : TypeId} {a : Option Addr} {xs : List Value} (h : w.ownsRow base e size (.slice a n c) n xs) : n ≤ c := by
  rcases h.2 with ⟨h1, h2⟩ | ⟨g, cap, cur, hv, _, _, hc, _⟩
  · cases h1; omega
  · cases hv; exact hc
set_option maxRecDepth 100000 in
set_option maxHeartbeats 8000000 in
theorem absolute_any (a : Option Addr) (n c : Nat) (S : Nat → St) (w : World) (hn : n ≤ 5000) (hok : ∀ i, i < n → SOk (S i)) (hp : StepsR w a n S) :
    Calls Try.prog 24 #[.slice a n c] w fun e w' => ∃ ao co, e = .returned (.slice ao (absL S n).length co) ∧ w'.ownsRow w.heap.size 36 6 (.slice ao (absL S n).length co) (absL S n).length (rowS (absL S n)) ∧ Below w.heap.size w w' := by
  obtain ⟨i0, hi0, hz0, hz1, hz2⟩ := info_parts2 info_st
  have HP := Lib.hid hp
  have HOK := Lib.hid hok
  clear hp hok
  have hb0 : Below w.heap.size w (w.alloc (.cells #[.int .i64 0, .int .i64 0, .int .i64 0, .int .i64 0, .int .i64 0, .int .i64 0, .int .i64 0, .bool false] 42)) := (by repeat (first | exact Below.refl _ _ | assumption | refine Below.drew ?_ | refine bdrewN ?_ _ | refine Below.setCell ?_ (by first | omega | (simp <;> omega)) _ | refine Below.alloc ?_ (by first | omega | (simp <;> omega)) _))
  have HX0 := Lib.hid (show (w.alloc (.cells #[.int .i64 0, .int .i64 0, .int .i64 0, .int .i64 0, .int .i64 0, .int .i64 0, .int .i64 0, .bool false] 42)).heap[w.heap.size]? = some (.cells #[.int .i64 (run S 0).x, .int .i64 (run S 0).y, .int .i64 (run S 0).z, .int .i64 (run S 0).s, .int .i64 (run S 0).h, .int .i64 (run S 0).t, .int .i64 (run S 0).f, .bool (run S 0).r] 42 (0, 0)) from heap_new rfl)
  have B0 := Lib.hid hb0
  have hs0 : (w.alloc (.cells #[.int .i64 0, .int .i64 0, .int .i64 0, .int .i64 0, .int .i64 0, .int .i64 0, .int .i64 0, .bool false] 42)).heap.size = w.heap.size + 1 := by simp
  clear hb0
  go_enter Try.func24, Try.ntmps24
  go_wp2_with (fail)
  generalize (w.alloc (.cells #[.int .i64 0, .int .i64 0, .int .i64 0, .int .i64 0, .int .i64 0, .int .i64 0, .int .i64 0, .bool false] 42)) = w0 at *
  obtain ⟨g, hg⟩ : ∃ g, w.heap.size = g := ⟨_, rfl⟩
  have HG := Lib.hid hg
  rw [hg] at HX0 hs0
  try rw [hg]
  clear hg
  go_loopw [3, 9] (fun v i wr => ∃ (k : Nat) (ao : Option Addr) (co : Nat), k ≤ n ∧ i = .int .i64 k ∧ v = .slice ao (absL S k).length co ∧ wr.heap[g]? = some (.cells #[.int .i64 (run S k).x, .int .i64 (run S k).y, .int .i64 (run S k).z, .int .i64 (run S k).s, .int .i64 (run S k).h, .int .i64 (run S k).t, .int .i64 (run S k).f, .bool (run S k).r] 42 (0, 0)) ∧ wr.ownsRow (g + 1) 36 6 (.slice ao (absL S k).length co) (absL S k).length (rowS (absL S k)) ∧ g + 1 ≤ wr.heap.size ∧ Below w.heap.size w wr) (fun _ i _ => n - (intOf i).toNat)
  case atStart => exact ⟨0, none, 0, by omega, rfl, rfl, HX0.out, World.ownsRow_nil _ _ _ _, by omega, B0.out⟩
  case round =>
    clear HX0 B0
    obtain ⟨k, ao, co, hk, rfl, rfl, hx, hown, hgs, hbel⟩ := hrel
    have HX := Lib.hid hx
    have HO := Lib.hid hown
    have HB := Lib.hid hbel
    have hgw := lt_of_heap hx
    have hsz := hbel.size
    have hklen := absL_len S k
    clear hx hown hbel
    by_cases hlt : k < n
    · rcases HP.out with h0 | ⟨b, off, rfl, hb, hd⟩
      · omega
      obtain ⟨c0, c1, c2, c3, c4, c5⟩ := hd k hlt
      replace c0 := cellk HB.out hb c0
      replace c1 := cellk HB.out hb c1
      replace c2 := cellk HB.out hb c2
      replace c3 := cellk HB.out hb c3
      replace c4 := cellk HB.out hb c4
      replace c5 := cellk HB.out hb c5
      have hbw : b < wr.heap.size := by omega
      have HOKk := Lib.hid (HOK.out k hlt)
      have HMBk := Lib.hid (run_mb (n := k) (fun i hi => HOK.out i (by omega)))
      clear hd
      obtain ⟨s, hs⟩ : ∃ s, S k = s := ⟨_, rfl⟩
      have RS := Lib.hid hs
      obtain ⟨l, hl⟩ : ∃ l, absL S k = l := ⟨_, rfl⟩
      have RL := Lib.hid hl
      obtain ⟨m1, hm1⟩ : ∃ m1, run S k = m1 := ⟨_, rfl⟩
      have hm2 : run S (k + 1) = aft m1 s := by rw [run_succ, hs, hm1]
      rw [hs] at c0 c1 c2 c3 c4 c5 HOKk
      rw [hm1] at HX HMBk
      rw [hl] at HO hklen ⊢
      have RM2 := Lib.hid hm2
      clear hs hm1 hm2 hl
      have d0 := cell_of HX.out (i := 0) rfl
      have d1 := cell_of HX.out (i := 1) rfl
      have d2 := cell_of HX.out (i := 2) rfl
      have d3 := cell_of HX.out (i := 3) rfl
      have d4 := cell_of HX.out (i := 4) rfl
      have d5 := cell_of HX.out (i := 5) rfl
      have d6 := cell_of HX.out (i := 6) rfl
      have d7 := cell_of HX.out (i := 7) rfl
      go_wp2_with (fail)
      have hb1 : Below wr.heap.size wr (wr.alloc (.cells #[.int .i64 s.k, .int .i64 s.x, .int .i64 s.y, .int .i64 s.z, .int .i64 s.f, .int .i64 s.n] 36)) := (Below.refl _ _).alloc (Nat.le_refl _) _
      have B1 := Lib.hid hb1
      have HS1 := Lib.hid (heap_alloc_new wr (.cells #[.int .i64 s.k, .int .i64 s.x, .int .i64 s.y, .int .i64 s.z, .int .i64 s.f, .int .i64 s.n] 36))
      clear hb1 c0 c1 c2 c3 c4 c5 d0 d1 d2 d3 d4 d5 d6 d7
      generalize (wr.alloc (.cells #[.int .i64 s.k, .int .i64 s.x, .int .i64 s.y, .int .i64 s.z, .int .i64 s.f, .int .i64 s.n] 36)) = w1 at *
      obtain ⟨q, hq⟩ : ∃ q, wr.heap.size = q := ⟨_, rfl⟩
      have HQ := Lib.hid hq
      rw [hq] at HS1
      try rw [hq]
      clear hq
      refine (after_any k m1 s _ HOKk.out HMBk.out (by omega)).mono ?_
      rintro e w2 ⟨rfl, hb2⟩
      have HS2 := Lib.hid (heap_keep hb2 HS1.out)
      replace B1 := Lib.hid (B1.out.trans (hb2.mono B1.out.size))
      clear hb2 HS1
      obtain ⟨m2, hm2⟩ : ∃ m2, aft m1 s = m2 := ⟨_, rfl⟩
      rw [hm2] at RM2 ⊢
      clear hm2
      have HX2 := Lib.hid (heap_keep B1.out HX.out)
      have HO2 := Lib.hid (ownsRow_below HO.out B1.out)
      have hown2 := HO.out.lt
      have B2 := Lib.hid (HB.out.trans (B1.out.mono hsz))
      have d0 := cell_of HX2.out (i := 0) rfl
      have d1 := cell_of HX2.out (i := 1) rfl
      have d2 := cell_of HX2.out (i := 2) rfl
      have d3 := cell_of HX2.out (i := 3) rfl
      have d4 := cell_of HX2.out (i := 4) rfl
      have d5 := cell_of HX2.out (i := 5) rfl
      have d6 := cell_of HX2.out (i := 6) rfl
      have d7 := cell_of HX2.out (i := 7) rfl
      have g0 := fun i => frozen_of (i := i) HX2.out
      go_upto_region 7 with (fail)
      obtain ⟨hx5, hm5⟩ := storeMa (W := ((((((((w2.setCell ⟨g, 0, none⟩ (.int .i64 m2.x)).setCell ⟨g, 1, none⟩ (.int .i64 m2.y)).setCell ⟨g, 2, none⟩ (.int .i64 m2.z)).setCell ⟨g, 3, none⟩ (.int .i64 m2.s)).setCell ⟨g, 4, none⟩ (.int .i64 m2.h)).setCell ⟨g, 5, none⟩ (.int .i64 m2.t)).setCell ⟨g, 6, none⟩ (.int .i64 m2.f)).setCell ⟨g, 7, none⟩ (.bool m2.r))) HX2.out (m2 := m2) rfl
      generalize ((((((((w2.setCell ⟨g, 0, none⟩ (.int .i64 m2.x)).setCell ⟨g, 1, none⟩ (.int .i64 m2.y)).setCell ⟨g, 2, none⟩ (.int .i64 m2.z)).setCell ⟨g, 3, none⟩ (.int .i64 m2.s)).setCell ⟨g, 4, none⟩ (.int .i64 m2.h)).setCell ⟨g, 5, none⟩ (.int .i64 m2.t)).setCell ⟨g, 6, none⟩ (.int .i64 m2.f)).setCell ⟨g, 7, none⟩ (.bool m2.r)) = w5 at *
      have hqg : q ≠ g := by have := HQ.out; omega
      have HX5 := Lib.hid hx5
      have HS5 := Lib.hid (heap_mut HS2.out hm5 hqg)
      have HO5 := Lib.hid (own_mut HO2.out hm5 (fun b hb e => by have := (HO2.out.lt b hb).1; omega))
      have B5 := Lib.hid (B2.out.trans (hm5.toBelow w.heap.size B2.out.size (fun b hb h => by have := HG.out; omega)))
      have hs5 := lt_of_heap HS5.out
      have HOQ := Lib.hid (show ∀ b, (Value.slice ao l.length co).ownBlock = some b → b < q from fun b hb => by have := hown2 b hb; have := HQ.out; omega)
      clear hx5 hm5 d0 d1 d2 d3 d4 d5 d6 d7 g0 HX2 HO2 B2 HS2 HX HO HB B1
      by_cases hk1 : s.k = 1
      · have HM := Lib.hid (show absL S (k + 1) = l by rw [absL, if_pos (by rw [RS.out]; exact .inl hk1), RL.out])
        rw [hk1] at HS5
        have s0 : w5.cell? ⟨q, 0, none⟩ = some (.int .i64 1) := cell_of HS5.out (i := 0) rfl
        have s1 : w5.cell? ⟨q, 1, none⟩ = some (.int .i64 s.x) := cell_of HS5.out (i := 1) rfl
        have s2 : w5.cell? ⟨q, 2, none⟩ = some (.int .i64 s.y) := cell_of HS5.out (i := 2) rfl
        have s3 : w5.cell? ⟨q, 3, none⟩ = some (.int .i64 s.z) := cell_of HS5.out (i := 3) rfl
        have s4 : w5.cell? ⟨q, 4, none⟩ = some (.int .i64 s.f) := cell_of HS5.out (i := 4) rfl
        have s5 : w5.cell? ⟨q, 5, none⟩ = some (.int .i64 s.n) := cell_of HS5.out (i := 5) rfl
        go_wp2_with (fail)
        go_roundw
        case rel => exact ⟨k + 1, ao, co, by omega, by go_num, by rw [HM.out], by rw [RM2.out]; exact HX5.out, by rw [HM.out]; exact HO5.out, by have := lt_of_heap HX5.out; omega, B5.out⟩
        case measure => simp [intOf] <;> omega
      by_cases hk2 : s.k = 2
      · have HM := Lib.hid (show absL S (k + 1) = l by rw [absL, if_pos (by rw [RS.out]; exact .inr hk2), RL.out])
        rw [hk2] at HS5
        have s0 : w5.cell? ⟨q, 0, none⟩ = some (.int .i64 2) := cell_of HS5.out (i := 0) rfl
        have s1 : w5.cell? ⟨q, 1, none⟩ = some (.int .i64 s.x) := cell_of HS5.out (i := 1) rfl
        have s2 : w5.cell? ⟨q, 2, none⟩ = some (.int .i64 s.y) := cell_of HS5.out (i := 2) rfl
        have s3 : w5.cell? ⟨q, 3, none⟩ = some (.int .i64 s.z) := cell_of HS5.out (i := 3) rfl
        have s4 : w5.cell? ⟨q, 4, none⟩ = some (.int .i64 s.f) := cell_of HS5.out (i := 4) rfl
        have s5 : w5.cell? ⟨q, 5, none⟩ = some (.int .i64 s.n) := cell_of HS5.out (i := 5) rfl
        go_wp2_with (fail)
        go_roundw
        case rel => exact ⟨k + 1, ao, co, by omega, by go_num, by rw [HM.out], by rw [RM2.out]; exact HX5.out, by rw [HM.out]; exact HO5.out, by have := lt_of_heap HX5.out; omega, B5.out⟩
        case measure => simp [intOf] <;> omega
      by_cases hk3 : s.k = 3
      · have HM := Lib.hid (show absL S (k + 1) = l ++ [⟨3, m2.x, m2.y, s.z, s.f, s.n⟩] by rw [absL, if_neg (by rw [RS.out]; omega), RS.out, RM2.out, RL.out]; unfold absS; rw [if_pos (by omega), hk3])
        rw [hk3] at HS5
        have s0 : w5.cell? ⟨q, 0, none⟩ = some (.int .i64 3) := cell_of HS5.out (i := 0) rfl
        have s1 : w5.cell? ⟨q, 1, none⟩ = some (.int .i64 s.x) := cell_of HS5.out (i := 1) rfl
        have s2 : w5.cell? ⟨q, 2, none⟩ = some (.int .i64 s.y) := cell_of HS5.out (i := 2) rfl
        have s3 : w5.cell? ⟨q, 3, none⟩ = some (.int .i64 s.z) := cell_of HS5.out (i := 3) rfl
        have s4 : w5.cell? ⟨q, 4, none⟩ = some (.int .i64 s.f) := cell_of HS5.out (i := 4) rfl
        have s5 : w5.cell? ⟨q, 5, none⟩ = some (.int .i64 s.n) := cell_of HS5.out (i := 5) rfl
        have d0 : w5.cell? ⟨g, 0, none⟩ = some (.int .i64 m2.x) := cell_of HX5.out (i := 0) rfl
        have d1 : w5.cell? ⟨g, 1, none⟩ = some (.int .i64 m2.y) := cell_of HX5.out (i := 1) rfl
        have d2 : w5.cell? ⟨g, 2, none⟩ = some (.int .i64 m2.z) := cell_of HX5.out (i := 2) rfl
        have d3 : w5.cell? ⟨g, 3, none⟩ = some (.int .i64 m2.s) := cell_of HX5.out (i := 3) rfl
        have d4 : w5.cell? ⟨g, 4, none⟩ = some (.int .i64 m2.h) := cell_of HX5.out (i := 4) rfl
        have d5 : w5.cell? ⟨g, 5, none⟩ = some (.int .i64 m2.t) := cell_of HX5.out (i := 5) rfl
        have d6 : w5.cell? ⟨g, 6, none⟩ = some (.int .i64 m2.f) := cell_of HX5.out (i := 6) rfl
        have d7 : w5.cell? ⟨g, 7, none⟩ = some (.bool m2.r) := cell_of HX5.out (i := 7) rfl
        have fq := fun i => frozen_of (i := i) HS5.out
        go_upto_region 12 with (fail)
        go_region
        go_upto_region 15 with (fail)
        have hm6 : Mut (· = q) w5 ((w5.setCell ⟨q, 1, none⟩ (.int .i64 m2.x)).setCell ⟨q, 2, none⟩ (.int .i64 m2.y)).drew := (Mut.setCell (p := ⟨q, 2, none⟩) (Mut.setCell (p := ⟨q, 1, none⟩) (Mut.refl (· = q) w5) (fun _ => rfl) _) (fun _ => rfl) _).drew
        have hs6 : ((w5.setCell ⟨q, 1, none⟩ (.int .i64 m2.x)).setCell ⟨q, 2, none⟩ (.int .i64 m2.y)).drew.heap[q]? = some (.cells #[.int .i64 3, .int .i64 m2.x, .int .i64 m2.y, .int .i64 s.z, .int .i64 s.f, .int .i64 s.n] 36 (0, 0)) := (cells_set (i := 2) (cells_set (i := 1) HS5.out (.int .i64 m2.x)) (.int .i64 m2.y)).trans (by simp only [List.setIfInBounds_toArray, List.set_cons_zero, List.set_cons_succ])
        have HS7 := Lib.hid hs6
        have HX7 := Lib.hid (heap_mut HX5.out hm6 (by omega))
        have HO7 := Lib.hid (own_mut HO5.out hm6 (fun b hb e => by have := HOQ.out b hb; omega))
        have B7 := Lib.hid (B5.out.trans (hm6.toBelow w.heap.size B5.out.size (fun b hb h => by have := HQ.out; omega)))
        clear hs6 hm6 s0 s1 s2 s3 s4 s5 d0 d1 d2 d3 d4 d5 d6 d7 fq
        generalize ((w5.setCell ⟨q, 1, none⟩ (.int .i64 m2.x)).setCell ⟨q, 2, none⟩ (.int .i64 m2.y)).drew = w7 at *
        have s0 : w7.cell? ⟨q, 0, none⟩ = some (.int .i64 (3)) := cell_of HS7.out (i := 0) rfl
        have s1 : w7.cell? ⟨q, 1, none⟩ = some (.int .i64 (m2.x)) := cell_of HS7.out (i := 1) rfl
        have s2 : w7.cell? ⟨q, 2, none⟩ = some (.int .i64 (m2.y)) := cell_of HS7.out (i := 2) rfl
        have s3 : w7.cell? ⟨q, 3, none⟩ = some (.int .i64 (s.z)) := cell_of HS7.out (i := 3) rfl
        have s4 : w7.cell? ⟨q, 4, none⟩ = some (.int .i64 (s.f)) := cell_of HS7.out (i := 4) rfl
        have s5 : w7.cell? ⟨q, 5, none⟩ = some (.int .i64 (s.n)) := cell_of HS7.out (i := 5) rfl
        have hs7 := lt_of_heap HX7.out
        go_wp2_with (at_builtin; refine wpList_append_lies _ rfl _ _ 26 rfl (g + 1) 36 i0 (.agg #[.int .i64 0, .int .i64 0, .int .i64 0, .int .i64 0, .int .i64 0, .int .i64 0]) 6 48 Try.underlying26 hi0 hz0 hz1 hz2 rfl (by decide) _ _ _ rfl (ownsRow_below (HO7.out) ((Below.refl _ w7).alloc (Nat.le_refl _) _)) ⟨w7.heap.size, 0, none⟩ 1 1 [.int .i64 3, .int .i64 m2.x, .int .i64 m2.y, .int .i64 s.z, .int .i64 s.f, .int .i64 s.n] rfl rfl (World.news_of_block (cs := #[.int .i64 3, .int .i64 m2.x, .int .i64 m2.y, .int .i64 s.z, .int .i64 s.f, .int .i64 s.n]) (t := 36) (fr := (0, 0)) (heap_alloc_new w7 (.cells #[.int .i64 3, .int .i64 m2.x, .int .i64 m2.y, .int .i64 s.z, .int .i64 s.f, .int .i64 s.n] 36))) (by simp [Value.oneCell']) (by omega) (by unfold maxLen; omega) (by omega) (by simp; omega) (w7.heap.size + 1) (by simp) ?_; intro g8 c8 w8 hown8 hgrow8 hge8 hlt8; have HO8 := Lib.hid hown8; have HB8 := Lib.hid (Below.grown (B := (g + 1)) (Below.alloc (B := (g + 1)) (Below.refl _ w7) (by omega) (.cells #[.int .i64 3, .int .i64 m2.x, .int .i64 m2.y, .int .i64 s.z, .int .i64 s.f, .int .i64 s.n] 36)) hgrow8 (by simp; omega) (fun b hb => ((HO7.out).lt b hb).1)); clear hown8 hgrow8 hge8)
        have B8 := Lib.hid (B7.out.trans (HB8.out.mono (by have := HG.out; omega)))
        have HX8 := Lib.hid ((HB8.out.block g (by omega)).trans HX7.out)
        have hs8 : g + 1 ≤ w8.heap.size := by have := lt_of_heap HX8.out; omega
        go_roundw
        case rel => exact ⟨k + 1, some ⟨g8, 0, none⟩, c8, by omega, by go_num, by rw [HM.out, List.length_append]; rfl, by rw [RM2.out]; exact HX8.out, by rw [HM.out, List.length_append, rowS_app]; exact HO8.out, hs8, B8.out⟩
        case measure => simp [intOf] <;> omega
      by_cases hk4 : s.k = 4
      · have HM := Lib.hid (show absL S (k + 1) = l ++ [⟨4, m2.x, m2.y, s.z, s.f, s.n⟩] by rw [absL, if_neg (by rw [RS.out]; omega), RS.out, RM2.out, RL.out]; unfold absS; rw [if_pos (by omega), hk4])
        rw [hk4] at HS5
        have s0 : w5.cell? ⟨q, 0, none⟩ = some (.int .i64 4) := cell_of HS5.out (i := 0) rfl
        have s1 : w5.cell? ⟨q, 1, none⟩ = some (.int .i64 s.x) := cell_of HS5.out (i := 1) rfl
        have s2 : w5.cell? ⟨q, 2, none⟩ = some (.int .i64 s.y) := cell_of HS5.out (i := 2) rfl
        have s3 : w5.cell? ⟨q, 3, none⟩ = some (.int .i64 s.z) := cell_of HS5.out (i := 3) rfl
        have s4 : w5.cell? ⟨q, 4, none⟩ = some (.int .i64 s.f) := cell_of HS5.out (i := 4) rfl
        have s5 : w5.cell? ⟨q, 5, none⟩ = some (.int .i64 s.n) := cell_of HS5.out (i := 5) rfl
        have d0 : w5.cell? ⟨g, 0, none⟩ = some (.int .i64 m2.x) := cell_of HX5.out (i := 0) rfl
        have d1 : w5.cell? ⟨g, 1, none⟩ = some (.int .i64 m2.y) := cell_of HX5.out (i := 1) rfl
        have d2 : w5.cell? ⟨g, 2, none⟩ = some (.int .i64 m2.z) := cell_of HX5.out (i := 2) rfl
        have d3 : w5.cell? ⟨g, 3, none⟩ = some (.int .i64 m2.s) := cell_of HX5.out (i := 3) rfl
        have d4 : w5.cell? ⟨g, 4, none⟩ = some (.int .i64 m2.h) := cell_of HX5.out (i := 4) rfl
        have d5 : w5.cell? ⟨g, 5, none⟩ = some (.int .i64 m2.t) := cell_of HX5.out (i := 5) rfl
        have d6 : w5.cell? ⟨g, 6, none⟩ = some (.int .i64 m2.f) := cell_of HX5.out (i := 6) rfl
        have d7 : w5.cell? ⟨g, 7, none⟩ = some (.bool m2.r) := cell_of HX5.out (i := 7) rfl
        have fq := fun i => frozen_of (i := i) HS5.out
        go_upto_region 12 with (fail)
        go_region
        go_upto_region 15 with (fail)
        have hm6 : Mut (· = q) w5 ((w5.setCell ⟨q, 1, none⟩ (.int .i64 m2.x)).setCell ⟨q, 2, none⟩ (.int .i64 m2.y)).drew := (Mut.setCell (p := ⟨q, 2, none⟩) (Mut.setCell (p := ⟨q, 1, none⟩) (Mut.refl (· = q) w5) (fun _ => rfl) _) (fun _ => rfl) _).drew
        have hs6 : ((w5.setCell ⟨q, 1, none⟩ (.int .i64 m2.x)).setCell ⟨q, 2, none⟩ (.int .i64 m2.y)).drew.heap[q]? = some (.cells #[.int .i64 4, .int .i64 m2.x, .int .i64 m2.y, .int .i64 s.z, .int .i64 s.f, .int .i64 s.n] 36 (0, 0)) := (cells_set (i := 2) (cells_set (i := 1) HS5.out (.int .i64 m2.x)) (.int .i64 m2.y)).trans (by simp only [List.setIfInBounds_toArray, List.set_cons_zero, List.set_cons_succ])
        have HS7 := Lib.hid hs6
        have HX7 := Lib.hid (heap_mut HX5.out hm6 (by omega))
        have HO7 := Lib.hid (own_mut HO5.out hm6 (fun b hb e => by have := HOQ.out b hb; omega))
        have B7 := Lib.hid (B5.out.trans (hm6.toBelow w.heap.size B5.out.size (fun b hb h => by have := HQ.out; omega)))
        clear hs6 hm6 s0 s1 s2 s3 s4 s5 d0 d1 d2 d3 d4 d5 d6 d7 fq
        generalize ((w5.setCell ⟨q, 1, none⟩ (.int .i64 m2.x)).setCell ⟨q, 2, none⟩ (.int .i64 m2.y)).drew = w7 at *
        have s0 : w7.cell? ⟨q, 0, none⟩ = some (.int .i64 (4)) := cell_of HS7.out (i := 0) rfl
        have s1 : w7.cell? ⟨q, 1, none⟩ = some (.int .i64 (m2.x)) := cell_of HS7.out (i := 1) rfl
        have s2 : w7.cell? ⟨q, 2, none⟩ = some (.int .i64 (m2.y)) := cell_of HS7.out (i := 2) rfl
        have s3 : w7.cell? ⟨q, 3, none⟩ = some (.int .i64 (s.z)) := cell_of HS7.out (i := 3) rfl
        have s4 : w7.cell? ⟨q, 4, none⟩ = some (.int .i64 (s.f)) := cell_of HS7.out (i := 4) rfl
        have s5 : w7.cell? ⟨q, 5, none⟩ = some (.int .i64 (s.n)) := cell_of HS7.out (i := 5) rfl
        have hs7 := lt_of_heap HX7.out
        go_wp2_with (at_builtin; refine wpList_append_lies _ rfl _ _ 26 rfl (g + 1) 36 i0 (.agg #[.int .i64 0, .int .i64 0, .int .i64 0, .int .i64 0, .int .i64 0, .int .i64 0]) 6 48 Try.underlying26 hi0 hz0 hz1 hz2 rfl (by decide) _ _ _ rfl (ownsRow_below (HO7.out) ((Below.refl _ w7).alloc (Nat.le_refl _) _)) ⟨w7.heap.size, 0, none⟩ 1 1 [.int .i64 4, .int .i64 m2.x, .int .i64 m2.y, .int .i64 s.z, .int .i64 s.f, .int .i64 s.n] rfl rfl (World.news_of_block (cs := #[.int .i64 4, .int .i64 m2.x, .int .i64 m2.y, .int .i64 s.z, .int .i64 s.f, .int .i64 s.n]) (t := 36) (fr := (0, 0)) (heap_alloc_new w7 (.cells #[.int .i64 4, .int .i64 m2.x, .int .i64 m2.y, .int .i64 s.z, .int .i64 s.f, .int .i64 s.n] 36))) (by simp [Value.oneCell']) (by omega) (by unfold maxLen; omega) (by omega) (by simp; omega) (w7.heap.size + 1) (by simp) ?_; intro g8 c8 w8 hown8 hgrow8 hge8 hlt8; have HO8 := Lib.hid hown8; have HB8 := Lib.hid (Below.grown (B := (g + 1)) (Below.alloc (B := (g + 1)) (Below.refl _ w7) (by omega) (.cells #[.int .i64 4, .int .i64 m2.x, .int .i64 m2.y, .int .i64 s.z, .int .i64 s.f, .int .i64 s.n] 36)) hgrow8 (by simp; omega) (fun b hb => ((HO7.out).lt b hb).1)); clear hown8 hgrow8 hge8)
        have B8 := Lib.hid (B7.out.trans (HB8.out.mono (by have := HG.out; omega)))
        have HX8 := Lib.hid ((HB8.out.block g (by omega)).trans HX7.out)
        have hs8 : g + 1 ≤ w8.heap.size := by have := lt_of_heap HX8.out; omega
        go_roundw
        case rel => exact ⟨k + 1, some ⟨g8, 0, none⟩, c8, by omega, by go_num, by rw [HM.out, List.length_append]; rfl, by rw [RM2.out]; exact HX8.out, by rw [HM.out, List.length_append, rowS_app]; exact HO8.out, hs8, B8.out⟩
        case measure => simp [intOf] <;> omega
      by_cases hk5 : s.k = 5
      · have HM := Lib.hid (show absL S (k + 1) = l ++ [⟨5, s.x, s.y, m2.z, s.f, s.n⟩] by rw [absL, if_neg (by rw [RS.out]; omega), RS.out, RM2.out, RL.out]; unfold absS; rw [if_neg (by omega), if_pos (by omega), hk5])
        rw [hk5] at HS5
        have s0 : w5.cell? ⟨q, 0, none⟩ = some (.int .i64 5) := cell_of HS5.out (i := 0) rfl
        have s1 : w5.cell? ⟨q, 1, none⟩ = some (.int .i64 s.x) := cell_of HS5.out (i := 1) rfl
        have s2 : w5.cell? ⟨q, 2, none⟩ = some (.int .i64 s.y) := cell_of HS5.out (i := 2) rfl
        have s3 : w5.cell? ⟨q, 3, none⟩ = some (.int .i64 s.z) := cell_of HS5.out (i := 3) rfl
        have s4 : w5.cell? ⟨q, 4, none⟩ = some (.int .i64 s.f) := cell_of HS5.out (i := 4) rfl
        have s5 : w5.cell? ⟨q, 5, none⟩ = some (.int .i64 s.n) := cell_of HS5.out (i := 5) rfl
        have d0 : w5.cell? ⟨g, 0, none⟩ = some (.int .i64 m2.x) := cell_of HX5.out (i := 0) rfl
        have d1 : w5.cell? ⟨g, 1, none⟩ = some (.int .i64 m2.y) := cell_of HX5.out (i := 1) rfl
        have d2 : w5.cell? ⟨g, 2, none⟩ = some (.int .i64 m2.z) := cell_of HX5.out (i := 2) rfl
        have d3 : w5.cell? ⟨g, 3, none⟩ = some (.int .i64 m2.s) := cell_of HX5.out (i := 3) rfl
        have d4 : w5.cell? ⟨g, 4, none⟩ = some (.int .i64 m2.h) := cell_of HX5.out (i := 4) rfl
        have d5 : w5.cell? ⟨g, 5, none⟩ = some (.int .i64 m2.t) := cell_of HX5.out (i := 5) rfl
        have d6 : w5.cell? ⟨g, 6, none⟩ = some (.int .i64 m2.f) := cell_of HX5.out (i := 6) rfl
        have d7 : w5.cell? ⟨g, 7, none⟩ = some (.bool m2.r) := cell_of HX5.out (i := 7) rfl
        have fq := fun i => frozen_of (i := i) HS5.out
        go_upto_region 15 with (fail)
        have hm6 : Mut (· = q) w5 (w5.setCell ⟨q, 3, none⟩ (.int .i64 m2.z)) := Mut.setCell (p := ⟨q, 3, none⟩) (Mut.refl (· = q) w5) (fun _ => rfl) _
        have hs6 : (w5.setCell ⟨q, 3, none⟩ (.int .i64 m2.z)).heap[q]? = some (.cells #[.int .i64 5, .int .i64 s.x, .int .i64 s.y, .int .i64 m2.z, .int .i64 s.f, .int .i64 s.n] 36 (0, 0)) := (cells_set (i := 3) HS5.out (.int .i64 m2.z)).trans (by simp only [List.setIfInBounds_toArray, List.set_cons_zero, List.set_cons_succ])
        have HS7 := Lib.hid hs6
        have HX7 := Lib.hid (heap_mut HX5.out hm6 (by omega))
        have HO7 := Lib.hid (own_mut HO5.out hm6 (fun b hb e => by have := HOQ.out b hb; omega))
        have B7 := Lib.hid (B5.out.trans (hm6.toBelow w.heap.size B5.out.size (fun b hb h => by have := HQ.out; omega)))
        clear hs6 hm6 s0 s1 s2 s3 s4 s5 d0 d1 d2 d3 d4 d5 d6 d7 fq
        generalize (w5.setCell ⟨q, 3, none⟩ (.int .i64 m2.z)) = w7 at *
        have s0 : w7.cell? ⟨q, 0, none⟩ = some (.int .i64 (5)) := cell_of HS7.out (i := 0) rfl
        have s1 : w7.cell? ⟨q, 1, none⟩ = some (.int .i64 (s.x)) := cell_of HS7.out (i := 1) rfl
        have s2 : w7.cell? ⟨q, 2, none⟩ = some (.int .i64 (s.y)) := cell_of HS7.out (i := 2) rfl
        have s3 : w7.cell? ⟨q, 3, none⟩ = some (.int .i64 (m2.z)) := cell_of HS7.out (i := 3) rfl
        have s4 : w7.cell? ⟨q, 4, none⟩ = some (.int .i64 (s.f)) := cell_of HS7.out (i := 4) rfl
        have s5 : w7.cell? ⟨q, 5, none⟩ = some (.int .i64 (s.n)) := cell_of HS7.out (i := 5) rfl
        have hs7 := lt_of_heap HX7.out
        go_wp2_with (at_builtin; refine wpList_append_lies _ rfl _ _ 26 rfl (g + 1) 36 i0 (.agg #[.int .i64 0, .int .i64 0, .int .i64 0, .int .i64 0, .int .i64 0, .int .i64 0]) 6 48 Try.underlying26 hi0 hz0 hz1 hz2 rfl (by decide) _ _ _ rfl (ownsRow_below (HO7.out) ((Below.refl _ w7).alloc (Nat.le_refl _) _)) ⟨w7.heap.size, 0, none⟩ 1 1 [.int .i64 5, .int .i64 s.x, .int .i64 s.y, .int .i64 m2.z, .int .i64 s.f, .int .i64 s.n] rfl rfl (World.news_of_block (cs := #[.int .i64 5, .int .i64 s.x, .int .i64 s.y, .int .i64 m2.z, .int .i64 s.f, .int .i64 s.n]) (t := 36) (fr := (0, 0)) (heap_alloc_new w7 (.cells #[.int .i64 5, .int .i64 s.x, .int .i64 s.y, .int .i64 m2.z, .int .i64 s.f, .int .i64 s.n] 36))) (by simp [Value.oneCell']) (by omega) (by unfold maxLen; omega) (by omega) (by simp; omega) (w7.heap.size + 1) (by simp) ?_; intro g8 c8 w8 hown8 hgrow8 hge8 hlt8; have HO8 := Lib.hid hown8; have HB8 := Lib.hid (Below.grown (B := (g + 1)) (Below.alloc (B := (g + 1)) (Below.refl _ w7) (by omega) (.cells #[.int .i64 5, .int .i64 s.x, .int .i64 s.y, .int .i64 m2.z, .int .i64 s.f, .int .i64 s.n] 36)) hgrow8 (by simp; omega) (fun b hb => ((HO7.out).lt b hb).1)); clear hown8 hgrow8 hge8)
        have B8 := Lib.hid (B7.out.trans (HB8.out.mono (by have := HG.out; omega)))
        have HX8 := Lib.hid ((HB8.out.block g (by omega)).trans HX7.out)
        have hs8 : g + 1 ≤ w8.heap.size := by have := lt_of_heap HX8.out; omega
        go_roundw
        case rel => exact ⟨k + 1, some ⟨g8, 0, none⟩, c8, by omega, by go_num, by rw [HM.out, List.length_append]; rfl, by rw [RM2.out]; exact HX8.out, by rw [HM.out, List.length_append, rowS_app]; exact HO8.out, hs8, B8.out⟩
        case measure => simp [intOf] <;> omega
      have HM := Lib.hid (show absL S (k + 1) = l ++ [⟨s.k, s.x, s.y, s.z, s.f, s.n⟩] by rw [absL, if_neg (by rw [RS.out]; omega), RS.out, RM2.out, RL.out]; unfold absS; rw [if_neg (by omega), if_neg (by omega)])
      have s0 : w5.cell? ⟨q, 0, none⟩ = some (.int .i64 s.k) := cell_of HS5.out (i := 0) rfl
      have s1 : w5.cell? ⟨q, 1, none⟩ = some (.int .i64 s.x) := cell_of HS5.out (i := 1) rfl
      have s2 : w5.cell? ⟨q, 2, none⟩ = some (.int .i64 s.y) := cell_of HS5.out (i := 2) rfl
      have s3 : w5.cell? ⟨q, 3, none⟩ = some (.int .i64 s.z) := cell_of HS5.out (i := 3) rfl
      have s4 : w5.cell? ⟨q, 4, none⟩ = some (.int .i64 s.f) := cell_of HS5.out (i := 4) rfl
      have s5 : w5.cell? ⟨q, 5, none⟩ = some (.int .i64 s.n) := cell_of HS5.out (i := 5) rfl
      go_upto_region 15 with (fail)
      have hm6 : Mut (· = q) w5 w5 := Mut.refl _ _
      have hs6 := HS5.out
      have HS7 := Lib.hid hs6
      have HX7 := Lib.hid (heap_mut HX5.out hm6 (by omega))
      have HO7 := Lib.hid (own_mut HO5.out hm6 (fun b hb e => by have := HOQ.out b hb; omega))
      have B7 := Lib.hid (B5.out.trans (hm6.toBelow w.heap.size B5.out.size (fun b hb h => by have := HQ.out; omega)))
      clear hs6 hm6 s0 s1 s2 s3 s4 s5
      generalize w5 = w7 at *
      have s0 : w7.cell? ⟨q, 0, none⟩ = some (.int .i64 (s.k)) := cell_of HS7.out (i := 0) rfl
      have s1 : w7.cell? ⟨q, 1, none⟩ = some (.int .i64 (s.x)) := cell_of HS7.out (i := 1) rfl
      have s2 : w7.cell? ⟨q, 2, none⟩ = some (.int .i64 (s.y)) := cell_of HS7.out (i := 2) rfl
      have s3 : w7.cell? ⟨q, 3, none⟩ = some (.int .i64 (s.z)) := cell_of HS7.out (i := 3) rfl
      have s4 : w7.cell? ⟨q, 4, none⟩ = some (.int .i64 (s.f)) := cell_of HS7.out (i := 4) rfl
      have s5 : w7.cell? ⟨q, 5, none⟩ = some (.int .i64 (s.n)) := cell_of HS7.out (i := 5) rfl
      have hs7 := lt_of_heap HX7.out
      go_wp2_with (at_builtin; refine wpList_append_lies _ rfl _ _ 26 rfl (g + 1) 36 i0 (.agg #[.int .i64 0, .int .i64 0, .int .i64 0, .int .i64 0, .int .i64 0, .int .i64 0]) 6 48 Try.underlying26 hi0 hz0 hz1 hz2 rfl (by decide) _ _ _ rfl (ownsRow_below (HO7.out) ((Below.refl _ w7).alloc (Nat.le_refl _) _)) ⟨w7.heap.size, 0, none⟩ 1 1 [.int .i64 s.k, .int .i64 s.x, .int .i64 s.y, .int .i64 s.z, .int .i64 s.f, .int .i64 s.n] rfl rfl (World.news_of_block (cs := #[.int .i64 s.k, .int .i64 s.x, .int .i64 s.y, .int .i64 s.z, .int .i64 s.f, .int .i64 s.n]) (t := 36) (fr := (0, 0)) (heap_alloc_new w7 (.cells #[.int .i64 s.k, .int .i64 s.x, .int .i64 s.y, .int .i64 s.z, .int .i64 s.f, .int .i64 s.n] 36))) (by simp [Value.oneCell']) (by omega) (by unfold maxLen; omega) (by omega) (by simp; omega) (w7.heap.size + 1) (by simp) ?_; intro g8 c8 w8 hown8 hgrow8 hge8 hlt8; have HO8 := Lib.hid hown8; have HB8 := Lib.hid (Below.grown (B := (g + 1)) (Below.alloc (B := (g + 1)) (Below.refl _ w7) (by omega) (.cells #[.int .i64 s.k, .int .i64 s.x, .int .i64 s.y, .int .i64 s.z, .int .i64 s.f, .int .i64 s.n] 36)) hgrow8 (by simp; omega) (fun b hb => ((HO7.out).lt b hb).1)); clear hown8 hgrow8 hge8)
      have B8 := Lib.hid (B7.out.trans (HB8.out.mono (by have := HG.out; omega)))
      have HX8 := Lib.hid ((HB8.out.block g (by omega)).trans HX7.out)
      have hs8 : g + 1 ≤ w8.heap.size := by have := lt_of_heap HX8.out; omega
      go_roundw
      case rel => exact ⟨k + 1, some ⟨g8, 0, none⟩, c8, by omega, by go_num, by rw [HM.out, List.length_append]; rfl, by rw [RM2.out]; exact HX8.out, by rw [HM.out, List.length_append, rowS_app]; exact HO8.out, hs8, B8.out⟩
      case measure => simp [intOf] <;> omega
    · obtain rfl : n = k := by omega
      go_wp2_with (fail)
      go_ret
      exact ⟨ao, co, rfl, own_base HO.out (by have := HG.out; omega), HB.out⟩
end Go.Proofs.Ytgmpmaiddombeaa

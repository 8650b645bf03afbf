/- Retracted: by the program and by the reference. -/
import Derived.Test.YtddnimbalfaieaaBh
set_option linter.unusedSimpArgs false
set_option linter.unusedVariables false
namespace Go.Proofs.Ytddnimbalfaieaa
open Go.RowKit
def IV (l : List Int) : List Value := l.map (Value.int .i64)
theorem ints_of_IV {w : World} {base m c : Nat} {a : Option Addr} {l : List Int} (h : w.ownsRow base 3 1 (.slice a m c) m (IV l)) : IntsR w a m (fun i => l.getD i 0) := by
  by_cases hm : m = 0
  · exact .inl hm
  · obtain ⟨g, cap', hv, _, hlt⟩ := h.form (by omega)
    cases hv
    refine .inr ⟨g, 0, rfl, hlt, fun i hi => ?_⟩
    have h1 := h.1
    have hl : l.length = m := by simpa [IV] using h1
    rw [Nat.zero_add, h.cellAt i (by omega)]
    simp [IV, List.getD, show i < l.length by omega]
/-- What the feeder does for the first t beads. -/
def rtL (back : Int) (V : Nat → Int) (m : Nat) (A : Nat → Int) : Nat → List Int
  | 0 => []
  | t + 1 => rtL back V m A t ++ (if memB V m t = true then [-back, back] else []) ++ [A t]
theorem rtL_len (back : Int) (V : Nat → Int) (m : Nat) (A : Nat → Int) : ∀ t, (rtL back V m A t).length ≤ 3 * t
  | 0 => Nat.le_refl _
  | t + 1 => by
    have := rtL_len back V m A t
    simp only [rtL, List.length_append, List.length_cons, List.length_nil]
    split <;> simp only [List.length_cons, List.length_nil] <;> omega
theorem rtL_no {back : Int} {V : Nat → Int} {m : Nat} {A : Nat → Int} {t : Nat} (h : memB V m t = false) : rtL back V m A (t + 1) = rtL back V m A t ++ [A t] := by
  show rtL back V m A t ++ (if memB V m t = true then _ else _) ++ _ = _
  rw [if_neg (by rw [h]; decide), List.append_nil]
theorem rtL_yes {back : Int} {V : Nat → Int} {m : Nat} {A : Nat → Int} {t : Nat} (h : memB V m t = true) : rtL back V m A (t + 1) = rtL back V m A t ++ [-back, back] ++ [A t] := by
  show rtL back V m A t ++ (if memB V m t = true then _ else _) ++ _ = _
  rw [if_pos h]
def rtE (n : Nat) (L W H : Nat → Int) (x back : Int) (V : Nat → Int) (m : Nat) : Int := if arE n L W H x = 0 then bkE back V n m else arE n L W H x
theorem bkE_ok {back : Int} {V : Nat → Int} {n m : Nat} (h : bkE back V n m = 0) : (1 ≤ back ∧ back ≤ 5000) ∧ plZ V n m = 0 := by
  unfold bkE at h
  split at h
  · rename_i h1
    exact ⟨inB_yes.1 h1, h⟩
  · cases h
set_option maxRecDepth 100000 in
set_option maxHeartbeats 8000000 in
theorem retractedOf_any (ab : Option Addr) (n cb : Nat) (L W H : Nat → Int) (x back : Int) (a : Option Addr) (m c : Nat) (V : Nat → Int) (w : World) (hn : n ≤ 100) (hp : BeadsR w ab n L W H) (ok : arE n L W H x = 0) (hcn : n ≤ cb) (hm : m ≤ 100) (hv : IntsR w a m V) (hbk : 1 ≤ back ∧ back ≤ 5000) :
    Calls Try.prog 35 #[.slice ab n cb, .int .i64 x, .int .i64 back, .slice a m c] w fun e w' => ∃ ao k co, e = .returned (.slice ao k co) ∧ k = (rtL back V m (amtF L W H x) n).length ∧ w'.ownsRow w.heap.size 3 1 (.slice ao k co) k (IV (rtL back V m (amtF L W H x) n)) ∧ Below w.heap.size w w' := by
  obtain ⟨i0, hi0, hz0, hz1, hz2⟩ := info_parts info_intV
  have HP := Lib.hid hp
  have HVV := Lib.hid hv
  have OK := Lib.hid ok
  have e0 : IntKind.i64.wrap (-back) = -back := i64w (by omega)
  clear hp ok hv hbk
  go_enter Try.func35, Try.ntmps35
  go_wp2_with (fail)
  refine (amountsOf_any ab n cb L W H x _ hn HP.out OK.out hcn).mono ?_
  rintro e w1 ⟨ai, ci, rfl, hown, hb1⟩
  have B1 := Lib.hid hb1
  have HI := Lib.hid (ints_of_own hown)
  clear hb1 hown
  go_wp2_with (fail)
  go_loopw [9, 16] (fun sv iv wr => (∃ (t k : Nat) (ao : Option Addr) (co : Nat), t ≤ n ∧ iv = .int .i64 t ∧ k = (rtL back V m (amtF L W H x) t).length ∧ sv = .slice ao k co ∧ wr.ownsRow w1.heap.size 3 1 (.slice ao k co) k (IV (rtL back V m (amtF L W H x) t)) ∧ Below w1.heap.size w1 wr)) (fun _ iv _ => n - (intOf iv).toNat)
  case atStart => exact ⟨0, 0, none, 0, by omega, rfl, rfl, rfl, World.ownsRow_nil _ _ _ _, Below.refl _ _⟩
  case round =>
    obtain ⟨t, k, ao, co, ht, rfl, hk, rfl, hown, hbel⟩ := hrel
    have HO := Lib.hid hown
    have HB := Lib.hid hbel
    have HK := Lib.hid hk
    have hkl := rtL_len back V m (amtF L W H x) t
    rw [← hk] at hkl
    have hsz := hbel.size
    have hs1 := B1.out.size
    clear hown hbel hk
    by_cases hlt : t < n
    · have HVW := Lib.hid (HVV.out.kept (B1.out.trans (HB.out.mono B1.out.size)))
      rcases HI.out with h | ⟨b1, off1, rfl, hb1, hd1⟩
      · omega
      have c0 := cellk HB.out hb1 (hd1 t hlt)
      have hb1w : b1 < wr.heap.size := by omega
      clear hd1
      obtain ⟨y, hy⟩ : ∃ y, amtF L W H x t = y := ⟨_, rfl⟩
      rw [hy] at c0
      have HYV := Lib.hid hy
      clear hy
      go_wp2_with (fail)
      refine (contains_any a m c V t wr (by omega) HVW.out).mono ?_
      rintro e w2 ⟨rfl, rfl⟩
      rcases hmem : memB V m t with _ | _
      · have HM := Lib.hid hmem
        clear hmem
        go_wp2_with (at_builtin; refine wpList_append_lies _ rfl _ _ 22 rfl w1.heap.size 3 i0 (.int .i64 0) 1 8 Try.underlying22 hi0 hz0 hz1 hz2 rfl (by decide) _ _ _ rfl (ownsRow_below HO.out ((Below.refl _ w2).alloc (Nat.le_refl _) _)) ⟨w2.heap.size, 0, none⟩ 1 1 [.int .i64 y] rfl rfl (World.news_of_block (cs := #[.int .i64 y]) (t := 3) (fr := (0, 0)) (heap_alloc_new w2 (.cells #[.int .i64 y] 3))) (by simp [Value.oneCell']) (by omega) (by unfold maxLen; omega) (by omega) (by simp; omega) (w2.heap.size + 1) (by simp) ?_; intro g5 c5 w5 hown5 hgrow5 _ hlt5; have HO5 := Lib.hid hown5; have HB5 := Lib.hid (Below.grown (B := w1.heap.size) (Below.alloc (B := w1.heap.size) (Below.refl _ w2) (by omega) (.cells #[.int .i64 y] 3)) hgrow5 (by simp; omega) (fun b hb => ((HO.out).lt b hb).1)); clear hown5 hgrow5)
        have HO6 := Lib.hid (show w5.ownsRow w1.heap.size 3 1 (.slice (some ⟨g5, 0, none⟩) (k + 1) c5) (k + 1) (IV (rtL back V m (amtF L W H x) (t + 1))) by rw [rtL_no HM.out, HYV.out]; simpa [IV] using HO5.out)
        have HK6 := Lib.hid (show k + 1 = (rtL back V m (amtF L W H x) (t + 1)).length by rw [rtL_no HM.out, List.length_append, ← HK.out]; rfl)
        have HB6 := Lib.hid (HB.out.trans HB5.out)
        clear HO5 HB5
        go_wp2_with (fail)
        go_roundw
        case rel => exact ⟨t + 1, k + 1, _, c5, by omega, by go_num, HK6.out, rfl, HO6.out, HB6.out⟩
        case measure => simp [intOf] <;> omega
      · have HM := Lib.hid hmem
        clear hmem
        go_wp2_with (first
          | (at_builtin; refine wpList_append_lies _ rfl _ _ 22 rfl w1.heap.size 3 i0 (.int .i64 0) 1 8 Try.underlying22 hi0 hz0 hz1 hz2 rfl (by decide) _ _ _ rfl (ownsRow_below HO.out ((Below.refl _ w2).alloc (Nat.le_refl _) _)) ⟨w2.heap.size, 0, none⟩ 2 2 [.int .i64 (-back), .int .i64 back] rfl rfl (World.news_of_block (cs := #[.int .i64 (-back), .int .i64 back]) (t := 3) (fr := (0, 0)) (heap_alloc_new w2 (.cells #[.int .i64 (-back), .int .i64 back] 3))) (by simp [Value.oneCell']) (by omega) (by unfold maxLen; omega) (by omega) (by simp; omega) (w2.heap.size + 1) (by simp) ?_; intro g7 c7 w7 hown7 hgrow7 _ hlt7; have HO7 := Lib.hid hown7; have HB7 := Lib.hid (Below.grown (B := w1.heap.size) (Below.alloc (B := w1.heap.size) (Below.refl _ w2) (by omega) (.cells #[.int .i64 (-back), .int .i64 back] 3)) hgrow7 (by simp; omega) (fun b hb => ((HO.out).lt b hb).1)); clear hown7 hgrow7; have HB8 := Lib.hid (HB.out.trans HB7.out); have hsz7 := HB8.out.size; have HO8 := Lib.hid (show w7.ownsRow w1.heap.size 3 1 (.slice (some ⟨g7, 0, none⟩) (k + 2) c7) (k + 2) (IV (rtL back V m (amtF L W H x) t ++ [-back, back])) by simpa [IV] using HO7.out); clear HO7 HB7)
          | (at_builtin; refine wpList_append_lies _ rfl _ _ 22 rfl w1.heap.size 3 i0 (.int .i64 0) 1 8 Try.underlying22 hi0 hz0 hz1 hz2 rfl (by decide) _ _ _ rfl (ownsRow_below HO8.out ((Below.refl _ w7).alloc (Nat.le_refl _) _)) ⟨w7.heap.size, 0, none⟩ 1 1 [.int .i64 y] rfl rfl (World.news_of_block (cs := #[.int .i64 y]) (t := 3) (fr := (0, 0)) (heap_alloc_new w7 (.cells #[.int .i64 y] 3))) (by simp [Value.oneCell']) (by omega) (by unfold maxLen; omega) (by omega) (by simp; omega) (w7.heap.size + 1) (by simp) ?_; intro g5 c5 w5 hown5 hgrow5 _ hlt5; have HO5 := Lib.hid hown5; have HB5 := Lib.hid (Below.grown (B := w1.heap.size) (Below.alloc (B := w1.heap.size) (Below.refl _ w7) (by omega) (.cells #[.int .i64 y] 3)) hgrow5 (by simp; omega) (fun b hb => ((HO8.out).lt b hb).1)); clear hown5 hgrow5))
        have HO6 := Lib.hid (show w5.ownsRow w1.heap.size 3 1 (.slice (some ⟨g5, 0, none⟩) (k + 2 + 1) c5) (k + 2 + 1) (IV (rtL back V m (amtF L W H x) (t + 1))) by rw [rtL_yes HM.out, HYV.out]; have h := HO5.out; simp only [IV, List.map_append] at h ⊢; exact h)
        have HK6 := Lib.hid (show k + 2 + 1 = (rtL back V m (amtF L W H x) (t + 1)).length by rw [rtL_yes HM.out, List.length_append, List.length_append, ← HK.out]; rfl)
        have HB6 := Lib.hid (HB8.out.trans HB5.out)
        clear HO5 HB5
        go_wp2_with (fail)
        go_roundw
        case rel => exact ⟨t + 1, k + 2 + 1, _, c5, by omega, by go_num, HK6.out, rfl, HO6.out, HB6.out⟩
        case measure => simp [intOf] <;> omega
    · obtain rfl : n = t := by omega
      go_wp2_with (fail)
      go_ret
      exact ⟨ao, k, co, rfl, HK.out, own_low HO.out B1.out.size, B1.out.trans (HB.out.mono B1.out.size)⟩
theorem rtE_ok {n : Nat} {L W H : Nat → Int} {x back : Int} {V : Nat → Int} {m : Nat} (h : rtE n L W H x back V m = 0) : arE n L W H x = 0 ∧ bkE back V n m = 0 := by
  unfold rtE at h
  split at h
  · exact ⟨by assumption, h⟩
  · rename_i h1; exact absurd h h1
set_option maxRecDepth 100000 in
set_option maxHeartbeats 8000000 in
theorem Retracted_any (ab : Option Addr) (n cb : Nat) (L W H : Nat → Int) (x back : Int) (a : Option Addr) (m c : Nat) (V : Nat → Int) (w : World) (hn : n ≤ 100) (hp : BeadsR w ab n L W H) (hm : m ≤ 100) (hmc : m ≤ c) (hv : IntsR w a m V) :
    Calls Try.prog 26 #[.slice ab n cb, .int .i64 x, .int .i64 back, .slice a m c] w fun e w' =>
      (rtE n L W H x back V m = 0 → ∃ ao k co, e = .returned (.tuple #[.slice ao k co, .int .i64 0]) ∧ k = (rtL back V m (amtF L W H x) n).length ∧ w'.ownsRow w.heap.size 3 1 (.slice ao k co) k (IV (rtL back V m (amtF L W H x) n))) ∧
      (rtE n L W H x back V m ≠ 0 → e = .returned (.tuple #[.slice none 0 0, .int .i64 (rtE n L W H x back V m)])) ∧ Below w.heap.size w w' := by
  obtain ⟨i0, hi0, hz0, hz1, hz2⟩ := info_parts info_intV
  have HP := Lib.hid hp
  have HVV := Lib.hid hv
  clear hp hv
  go_enter Try.func26, Try.ntmps26
  go_wp2_with (fail)
  refine (Amounts_any ab n cb L W H x _ hn HP.out).mono ?_
  rintro e w1 ⟨h1, h2, hb1⟩
  have B1 := Lib.hid hb1
  clear hb1
  by_cases hz : arE n L W H x = 0
  · obtain ⟨ai, ci, rfl, hown⟩ := h1 hz
    have HI := Lib.hid (ints_of_own hown)
    have HR1 := Lib.hid (show rtE n L W H x back V m = bkE back V n m by unfold rtE; rw [if_pos hz])
    clear h1 h2 hown hz
    rcases hx : inB back 1 5000 with _ | _
    · have R := Lib.hid (show rtE n L W H x back V m = 1 by rw [HR1.out]; unfold bkE; rw [hx]; rfl)
      have HX := Lib.hid hx
      clear hx
      go_wp2_with (go_at_call 42; refine (within_any _ _ _ _).mono ?_; rintro e w' ⟨rfl, rfl⟩; rw [HX.out])
      exact bodyPost_ret (v := .tuple #[.slice none 0 0, .int .i64 1]) (by simp [results, Try.results26, go_sem]) rfl ⟨fun h => absurd (R.out.symm.trans h) (by decide), fun _ => by rw [R.out], B1.out⟩
    · have hbk := inB_yes.1 hx
      have e0 : IntKind.i64.wrap (-back) = -back := i64w (by omega)
      have R := Lib.hid (show rtE n L W H x back V m = plZ V n m by rw [HR1.out]; unfold bkE; rw [hx]; rfl)
      have HX := Lib.hid hx
      clear hx hbk
      go_wp2_with (go_at_call 42; refine (within_any _ _ _ _).mono ?_; rintro e w' ⟨rfl, rfl⟩; rw [HX.out])
      refine (checkPlaces_any a m c V n w1 hm (by omega) (HVV.out.kept B1.out)).mono ?_
      rintro e w2 ⟨rfl, hb2⟩
      replace HI := Lib.hid (HI.out.kept hb2)
      replace B1 := Lib.hid (B1.out.trans (hb2.mono B1.out.size))
      clear hb2
      by_cases hpz : plZ V n m = 0
      · have HPZ := Lib.hid hpz
        have R0 := Lib.hid (R.out.trans hpz)
        rw [hpz]
        have hrise := plZ_lt hpz
        have hin := fun i hi => (plZ_rise m hpz i hi).1
        have HRI := Lib.hid hrise
        have HIN := Lib.hid hin
        clear hpz hrise hin R w1
        obtain ⟨w1, hw1⟩ : ∃ w1, w1 = w2 := ⟨_, rfl⟩
        subst hw1
        go_wp2_with (fail)
        go_loopw [3, 13, 37] (fun pv sv iv wr => (∃ (t k : Nat) (ao : Option Addr) (co : Nat), t ≤ n ∧ iv = .int .i64 t ∧ k = (rtL back V m (amtF L W H x) t).length ∧ sv = .slice ao k co ∧ wr.ownsRow w1.heap.size 3 1 (.slice ao k co) k (IV (rtL back V m (amtF L W H x) t)) ∧ Below w1.heap.size w1 wr ∧ ∃ (j l : Nat) (ax : Option Addr) (cx : Nat), m ≤ j + l ∧ j + l ≤ m ∧ pv = .slice ax l cx ∧ l ≤ cx ∧ IntsR w ax l (fun i => V (j + i)) ∧ (∀ i, i < j → V i < t) ∧ (∀ i, j ≤ i → i < m → (t : Int) ≤ V i))) (fun _ _ iv _ => n - (intOf iv).toNat)
        case atStart => exact ⟨0, 0, none, 0, by omega, rfl, rfl, rfl, World.ownsRow_nil _ _ _ _, Below.refl _ _, 0, m, a, c, by omega, by omega, rfl, hmc, by simpa using HVV.out, fun i hi => by omega, fun i _ hi => (HIN.out i hi).1⟩
        case round =>
          obtain ⟨t, k, ao, co, ht, rfl, hk, rfl, hown, hbel, j, l, ax, cx, hm1, hm2, rfl, hlc, hvx, hlo, hhi⟩ := hrel
          have HO := Lib.hid hown
          have HB := Lib.hid hbel
          have HK := Lib.hid hk
          have hkl := rtL_len back V m (amtF L W H x) t
          rw [← hk] at hkl
          have hsz := hbel.size
          have hs1 := B1.out.size
          clear hown hbel hk
          have HLO := Lib.hid hlo
          have HHI := Lib.hid hhi
          have HVX := Lib.hid hvx
          clear hlo hhi hvx
          by_cases hlt : t < n
          · rcases HI.out with h | ⟨b1, off1, rfl, hb1, hd1⟩
            · omega
            have c0 := cellk HB.out hb1 (hd1 t hlt)
            have hb1w : b1 < wr.heap.size := by omega
            clear hd1
            obtain ⟨y, hy⟩ : ∃ y, amtF L W H x t = y := ⟨_, rfl⟩
            rw [hy] at c0
            have HYV := Lib.hid hy
            clear hy
            have HVW := Lib.hid (HVX.out.kept (B1.out.trans (HB.out.mono B1.out.size)))
            by_cases hl0 : l = 0
            · subst hl0
              have HM := Lib.hid (memB_no (V := V) (m := m) (t := t) (fun i hi e => by have := HLO.out i (by omega); omega))
              go_wp2_with (at_builtin; refine wpList_append_lies _ rfl _ _ 22 rfl w1.heap.size 3 i0 (.int .i64 0) 1 8 Try.underlying22 hi0 hz0 hz1 hz2 rfl (by decide) _ _ _ rfl (ownsRow_below HO.out ((Below.refl _ wr).alloc (Nat.le_refl _) _)) ⟨wr.heap.size, 0, none⟩ 1 1 [.int .i64 y] rfl rfl (World.news_of_block (cs := #[.int .i64 y]) (t := 3) (fr := (0, 0)) (heap_alloc_new wr (.cells #[.int .i64 y] 3))) (by simp [Value.oneCell']) (by omega) (by unfold maxLen; omega) (by omega) (by simp; omega) (wr.heap.size + 1) (by simp) ?_; intro g5 c5 w5 hown5 hgrow5 _ hlt5; have HO5 := Lib.hid hown5; have HB5 := Lib.hid (Below.grown (B := w1.heap.size) (Below.alloc (B := w1.heap.size) (Below.refl _ wr) (by omega) (.cells #[.int .i64 y] 3)) hgrow5 (by simp; omega) (fun b hb => ((HO.out).lt b hb).1)); clear hown5 hgrow5)
              have HO6 := Lib.hid (show w5.ownsRow w1.heap.size 3 1 (.slice (some ⟨g5, 0, none⟩) (k + 1) c5) (k + 1) (IV (rtL back V m (amtF L W H x) (t + 1))) by rw [rtL_no HM.out, HYV.out]; simpa [IV] using HO5.out)
              have HK6 := Lib.hid (show k + 1 = (rtL back V m (amtF L W H x) (t + 1)).length by rw [rtL_no HM.out, List.length_append, ← HK.out]; rfl)
              have HB6 := Lib.hid (HB.out.trans HB5.out)
              clear HO5 HB5
              go_wp2_with (fail)
              go_roundw
              case rel => exact ⟨t + 1, k + 1, _, c5, by omega, by go_num, HK6.out, rfl, HO6.out, HB6.out, j, 0, ax, cx, hm1, hm2, rfl, hlc, HVX.out, fun i hi => by have := HLO.out i hi; omega, fun i h1 h2 => by omega⟩
              case measure => simp [intOf] <;> omega
            · obtain ⟨l, rfl⟩ : ∃ l', l = l' + 1 := ⟨l - 1, by omega⟩
              rcases HVW.out with h | ⟨b2, off2, rfl, hb2, hd2⟩
              · omega
              have d0 := hd2 0 (by omega)
              simp only [Nat.add_zero] at d0
              clear hd2
              have p1 : (0 : Int) < (l : Int) + 1 := by omega
              by_cases hvt : V j = t
              · have HM := Lib.hid (memB_yes (V := V) (m := m) (i := j) (by omega) hvt)
                rw [hvt] at d0
                have HVT := Lib.hid hvt
                clear hvt hl0
                by_cases hc1 : cx = 1
                · obtain rfl : l = 0 := by omega
                  subst hc1
                  go_wp2_with (first
                    | (at_builtin; refine wpList_append_lies _ rfl _ _ 22 rfl w1.heap.size 3 i0 (.int .i64 0) 1 8 Try.underlying22 hi0 hz0 hz1 hz2 rfl (by decide) _ _ _ rfl (ownsRow_below HO.out ((Below.refl _ wr).alloc (Nat.le_refl _) _)) ⟨wr.heap.size, 0, none⟩ 2 2 [.int .i64 (-back), .int .i64 back] rfl rfl (World.news_of_block (cs := #[.int .i64 (-back), .int .i64 back]) (t := 3) (fr := (0, 0)) (heap_alloc_new wr (.cells #[.int .i64 (-back), .int .i64 back] 3))) (by simp [Value.oneCell']) (by omega) (by unfold maxLen; omega) (by omega) (by simp; omega) (wr.heap.size + 1) (by simp) ?_; intro g7 c7 w7 hown7 hgrow7 _ hlt7; have HO7 := Lib.hid hown7; have HB7 := Lib.hid (Below.grown (B := w1.heap.size) (Below.alloc (B := w1.heap.size) (Below.refl _ wr) (by omega) (.cells #[.int .i64 (-back), .int .i64 back] 3)) hgrow7 (by simp; omega) (fun b hb => ((HO.out).lt b hb).1)); clear hown7 hgrow7; have HB8 := Lib.hid (HB.out.trans HB7.out); have hsz7 := HB8.out.size; have HO8 := Lib.hid (show w7.ownsRow w1.heap.size 3 1 (.slice (some ⟨g7, 0, none⟩) (k + 2) c7) (k + 2) (IV (rtL back V m (amtF L W H x) t ++ [-back, back])) by simpa [IV] using HO7.out); clear HO7 HB7)
                    | (at_builtin; refine wpList_append_lies _ rfl _ _ 22 rfl w1.heap.size 3 i0 (.int .i64 0) 1 8 Try.underlying22 hi0 hz0 hz1 hz2 rfl (by decide) _ _ _ rfl (ownsRow_below HO8.out ((Below.refl _ w7).alloc (Nat.le_refl _) _)) ⟨w7.heap.size, 0, none⟩ 1 1 [.int .i64 y] rfl rfl (World.news_of_block (cs := #[.int .i64 y]) (t := 3) (fr := (0, 0)) (heap_alloc_new w7 (.cells #[.int .i64 y] 3))) (by simp [Value.oneCell']) (by omega) (by unfold maxLen; omega) (by omega) (by simp; omega) (w7.heap.size + 1) (by simp) ?_; intro g5 c5 w5 hown5 hgrow5 _ hlt5; have HO5 := Lib.hid hown5; have HB5 := Lib.hid (Below.grown (B := w1.heap.size) (Below.alloc (B := w1.heap.size) (Below.refl _ w7) (by omega) (.cells #[.int .i64 y] 3)) hgrow5 (by simp; omega) (fun b hb => ((HO8.out).lt b hb).1)); clear hown5 hgrow5))
                  have HO6 := Lib.hid (show w5.ownsRow w1.heap.size 3 1 (.slice (some ⟨g5, 0, none⟩) (k + 2 + 1) c5) (k + 2 + 1) (IV (rtL back V m (amtF L W H x) (t + 1))) by rw [rtL_yes HM.out, HYV.out]; have h := HO5.out; simp only [IV, List.map_append] at h ⊢; exact h)
                  have HK6 := Lib.hid (show k + 2 + 1 = (rtL back V m (amtF L W H x) (t + 1)).length by rw [rtL_yes HM.out, List.length_append, List.length_append, ← HK.out]; rfl)
                  have HB6 := Lib.hid (HB8.out.trans HB5.out)
                  clear HO5 HB5
                  go_wp2_with (fail)
                  go_roundw
                  case rel => exact ⟨t + 1, k + 2 + 1, _, c5, by omega, by go_num, HK6.out, rfl, HO6.out, HB6.out, j + 1, 0, _, _, by omega, by omega, rfl, by omega, .inl rfl, fun i hi => by rcases Nat.lt_or_ge i j with h | h; (have := HLO.out i h; omega); (obtain rfl : i = j := by omega); (have := HVT.out; omega), fun i h1 h2 => by omega⟩
                  case measure => simp [intOf] <;> omega
                · have hc2 : ¬ 1 = cx := fun h => hc1 h.symm
                  have hc3 : (1 : Int) ≤ (l : Int) + 1 := by omega
                  go_wp2_with (first
                    | (at_builtin; refine wpList_append_lies _ rfl _ _ 22 rfl w1.heap.size 3 i0 (.int .i64 0) 1 8 Try.underlying22 hi0 hz0 hz1 hz2 rfl (by decide) _ _ _ rfl (ownsRow_below HO.out ((Below.refl _ wr).alloc (Nat.le_refl _) _)) ⟨wr.heap.size, 0, none⟩ 2 2 [.int .i64 (-back), .int .i64 back] rfl rfl (World.news_of_block (cs := #[.int .i64 (-back), .int .i64 back]) (t := 3) (fr := (0, 0)) (heap_alloc_new wr (.cells #[.int .i64 (-back), .int .i64 back] 3))) (by simp [Value.oneCell']) (by omega) (by unfold maxLen; omega) (by omega) (by simp; omega) (wr.heap.size + 1) (by simp) ?_; intro g7 c7 w7 hown7 hgrow7 _ hlt7; have HO7 := Lib.hid hown7; have HB7 := Lib.hid (Below.grown (B := w1.heap.size) (Below.alloc (B := w1.heap.size) (Below.refl _ wr) (by omega) (.cells #[.int .i64 (-back), .int .i64 back] 3)) hgrow7 (by simp; omega) (fun b hb => ((HO.out).lt b hb).1)); clear hown7 hgrow7; have HB8 := Lib.hid (HB.out.trans HB7.out); have hsz7 := HB8.out.size; have HO8 := Lib.hid (show w7.ownsRow w1.heap.size 3 1 (.slice (some ⟨g7, 0, none⟩) (k + 2) c7) (k + 2) (IV (rtL back V m (amtF L W H x) t ++ [-back, back])) by simpa [IV] using HO7.out); clear HO7 HB7)
                    | (at_builtin; refine wpList_append_lies _ rfl _ _ 22 rfl w1.heap.size 3 i0 (.int .i64 0) 1 8 Try.underlying22 hi0 hz0 hz1 hz2 rfl (by decide) _ _ _ rfl (ownsRow_below HO8.out ((Below.refl _ w7).alloc (Nat.le_refl _) _)) ⟨w7.heap.size, 0, none⟩ 1 1 [.int .i64 y] rfl rfl (World.news_of_block (cs := #[.int .i64 y]) (t := 3) (fr := (0, 0)) (heap_alloc_new w7 (.cells #[.int .i64 y] 3))) (by simp [Value.oneCell']) (by omega) (by unfold maxLen; omega) (by omega) (by simp; omega) (w7.heap.size + 1) (by simp) ?_; intro g5 c5 w5 hown5 hgrow5 _ hlt5; have HO5 := Lib.hid hown5; have HB5 := Lib.hid (Below.grown (B := w1.heap.size) (Below.alloc (B := w1.heap.size) (Below.refl _ w7) (by omega) (.cells #[.int .i64 y] 3)) hgrow5 (by simp; omega) (fun b hb => ((HO8.out).lt b hb).1)); clear hown5 hgrow5))
                  have HO6 := Lib.hid (show w5.ownsRow w1.heap.size 3 1 (.slice (some ⟨g5, 0, none⟩) (k + 2 + 1) c5) (k + 2 + 1) (IV (rtL back V m (amtF L W H x) (t + 1))) by rw [rtL_yes HM.out, HYV.out]; have h := HO5.out; simp only [IV, List.map_append] at h ⊢; exact h)
                  have HK6 := Lib.hid (show k + 2 + 1 = (rtL back V m (amtF L W H x) (t + 1)).length by rw [rtL_yes HM.out, List.length_append, List.length_append, ← HK.out]; rfl)
                  have HB6 := Lib.hid (HB8.out.trans HB5.out)
                  clear HO5 HB5
                  go_wp2_with (fail)
                  go_roundw
                  case rel => exact ⟨t + 1, k + 2 + 1, _, c5, by omega, by go_num, HK6.out, rfl, HO6.out, HB6.out, j + 1, l, _, _, by omega, by omega, rfl, by omega, (by
                      rcases HVX.out with h | ⟨b3, off3, he, hb3, hd3⟩
                      · omega
                      · cases he
                        exact .inr ⟨b2, off2 + 1, rfl, hb3, fun i hi => by have h4 := hd3 (i + 1) (by omega); show w.cell? ⟨b2, off2 + 1 + i, none⟩ = some (.int .i64 (V (j + 1 + i))); rw [show off2 + 1 + i = off2 + (i + 1) by omega, show j + 1 + i = j + (i + 1) by omega]; exact h4⟩), fun i hi => by rcases Nat.lt_or_ge i j with h | h; (have := HLO.out i h; omega); (obtain rfl : i = j := by omega); (have := HVT.out; omega), fun i h1 h2 => by have := HRI.out i j (by omega) h2; have := HVT.out; omega⟩
                  case measure => simp [intOf] <;> omega
              · have hge := HHI.out j (Nat.le_refl _) (by omega)
                have HM := Lib.hid (memB_no (V := V) (m := m) (t := t) (fun i hi e => by
                  rcases Nat.lt_or_ge i j with h | h
                  · have := HLO.out i h; omega
                  · rcases Nat.lt_or_ge j i with h' | h'
                    · have := HRI.out i j h' hi; omega
                    · obtain rfl : i = j := by omega
                      exact hvt e))
                have hvt' : (V j == (t : Int)) = false := by simpa using hvt
                have HGE := Lib.hid (show (t : Int) + 1 ≤ V j by omega)
                clear hvt hge hl0
                go_wp2_with (at_builtin; refine wpList_append_lies _ rfl _ _ 22 rfl w1.heap.size 3 i0 (.int .i64 0) 1 8 Try.underlying22 hi0 hz0 hz1 hz2 rfl (by decide) _ _ _ rfl (ownsRow_below HO.out ((Below.refl _ wr).alloc (Nat.le_refl _) _)) ⟨wr.heap.size, 0, none⟩ 1 1 [.int .i64 y] rfl rfl (World.news_of_block (cs := #[.int .i64 y]) (t := 3) (fr := (0, 0)) (heap_alloc_new wr (.cells #[.int .i64 y] 3))) (by simp [Value.oneCell']) (by omega) (by unfold maxLen; omega) (by omega) (by simp; omega) (wr.heap.size + 1) (by simp) ?_; intro g5 c5 w5 hown5 hgrow5 _ hlt5; have HO5 := Lib.hid hown5; have HB5 := Lib.hid (Below.grown (B := w1.heap.size) (Below.alloc (B := w1.heap.size) (Below.refl _ wr) (by omega) (.cells #[.int .i64 y] 3)) hgrow5 (by simp; omega) (fun b hb => ((HO.out).lt b hb).1)); clear hown5 hgrow5)
                have HO6 := Lib.hid (show w5.ownsRow w1.heap.size 3 1 (.slice (some ⟨g5, 0, none⟩) (k + 1) c5) (k + 1) (IV (rtL back V m (amtF L W H x) (t + 1))) by rw [rtL_no HM.out, HYV.out]; simpa [IV] using HO5.out)
                have HK6 := Lib.hid (show k + 1 = (rtL back V m (amtF L W H x) (t + 1)).length by rw [rtL_no HM.out, List.length_append, ← HK.out]; rfl)
                have HB6 := Lib.hid (HB.out.trans HB5.out)
                clear HO5 HB5
                go_wp2_with (fail)
                go_roundw
                case rel => exact ⟨t + 1, k + 1, _, c5, by omega, by go_num, HK6.out, rfl, HO6.out, HB6.out, j, l + 1, _, cx, hm1, hm2, rfl, hlc, HVX.out, fun i hi => by have := HLO.out i hi; omega, fun i h1 h2 => by rcases Nat.lt_or_ge j i with h' | h'; (have := HRI.out i j h' h2; have := HGE.out; omega); (obtain rfl : i = j := by omega); (have := HGE.out; omega)⟩
                case measure => simp [intOf] <;> omega
          · obtain rfl : n = t := by omega
            go_wp2_with (fail)
            exact bodyPost_ret (v := .tuple #[.slice ao k co, .int .i64 0]) (by simp [results, Try.results26, go_sem]) rfl ⟨fun _ => ⟨ao, k, co, rfl, HK.out, own_low HO.out B1.out.size⟩, fun h => absurd R0.out h, B1.out.trans (HB.out.mono B1.out.size)⟩
      · have hz' : (plZ V n m != 0) = true := by simpa using hpz
        have HZ := Lib.hid hpz
        clear hpz
        go_wp2_with (fail)
        exact bodyPost_ret (v := .tuple #[.slice none 0 0, .int .i64 (plZ V n m)]) (by simp [results, Try.results26, go_sem]) rfl ⟨fun h => absurd (R.out.symm.trans h) HZ.out, fun _ => by rw [R.out], B1.out⟩
  · obtain rfl := h2 hz
    have R := Lib.hid (show rtE n L W H x back V m = arE n L W H x by unfold rtE; rw [if_neg hz])
    have HZ := Lib.hid hz
    have hz' : (arE n L W H x != 0) = true := by simpa using hz
    clear h1 h2 hz
    go_wp2_with (fail)
    exact bodyPost_ret (v := .tuple #[.slice none 0 0, .int .i64 (arE n L W H x)]) (by simp [results, Try.results26, go_sem]) rfl ⟨fun h => absurd (R.out.symm.trans h) HZ.out, fun _ => by rw [R.out], B1.out⟩
end Go.Proofs.Ytddnimbalfaieaa

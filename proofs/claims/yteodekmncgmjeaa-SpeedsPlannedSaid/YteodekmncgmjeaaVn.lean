/- Speeds, Kept and Slow of the program. -/
import Derived.Test.YteodekmncgmjeaaVm
set_option linter.unusedSimpArgs false
set_option linter.unusedVariables false
namespace Go.Proofs.Yteodekmncgmjeaa
open Go.RowKit

theorem spdE_ok {n : Nat} {L M : Nat → Int} {m : Nat} {C : Nat → Int} {c : Int} {k : Nat} (h : spdE n L M m C c k = 0) : MOk n L M m C c ∧ k = n + 1 := by
  unfold spdE at h
  split at h
  · rename_i h1
    split at h
    · rename_i h2; exact ⟨mok h1, h2⟩
    · cases h
  · rename_i h1; exact absurd h h1
noncomputable def keptA (n : Nat) (L M C : Nat → Int) (c : Int) (V : Nat → Int) (e : Int) : Bool := if e = 0 then keptB n L M C c V else false
set_option maxRecDepth 100000 in
set_option maxHeartbeats 4000000 in
theorem Kept_any (a : Option Addr) (n cl : Nat) (L M : Nat → Int) (ac : Option Addr) (m cc : Nat) (C : Nat → Int) (av : Option Addr) (k cv : Nat) (V : Nat → Int) (c : Int) (w : World) (hn : n ≤ 100) (hm : m ≤ 100) (hk : k ≤ 100) (hp : LegsR w a n L M) (hc : IntsR w ac m C) (hv : IntsR w av k V) :
    Calls Try.prog 9 #[.slice a n cl, .slice ac m cc, .slice av k cv, .int .i64 c] w fun e w' => e = .returned (.tuple #[.bool (keptA n L M C c V (spdE n L M m C c k)), .int .i64 (spdE n L M m C c k)]) ∧ Below w.heap.size w w' := by
  have HP := Lib.hid hp
  have HC := Lib.hid hc
  have HV := Lib.hid hv
  clear hp hc hv
  go_enter Try.func9, Try.ntmps9
  go_wp2_with (fail)
  refine (checkSpeeds_any a n cl L M ac m cc C av k cv c _ hn hm hk HP.out HC.out).mono ?_
  rintro e w1 ⟨rfl, hb1⟩
  have B1 := Lib.hid hb1
  clear hb1
  by_cases hz : spdE n L M m C c k = 0
  · have HZ := Lib.hid hz
    have hz' : (spdE n L M m C c k != 0) = false := by simp [hz]
    obtain ⟨ok, hkn⟩ := spdE_ok hz
    have OK := Lib.hid ok
    clear hz ok
    subst hkn
    go_wp2_with (fail)
    refine (keep_any a n cl L M ac m cc C av cv V c _ hn (HP.out.kept B1.out) (HC.out.kept B1.out) (HV.out.kept B1.out) OK.out).mono ?_
    rintro e w2 ⟨rfl, hb2⟩
    have B2 := Lib.hid (B1.out.trans (hb2.mono B1.out.size))
    clear hb2
    go_wp2_with (fail)
    exact bodyPost_ret (v := .tuple #[.bool (keptB n L M C c V), .int .i64 0]) (by simp [results, Try.results9, go_sem]) rfl ⟨by rw [HZ.out]; rfl, B2.out⟩
  · have HZ := Lib.hid hz
    have hz' : (spdE n L M m C c k != 0) = true := by simpa using hz
    clear hz
    go_wp2_with (fail)
    exact bodyPost_ret (v := .tuple #[.bool false, .int .i64 (spdE n L M m C c k)]) (by simp [results, Try.results9, go_sem]) rfl ⟨by rw [keptA, if_neg HZ.out], B1.out⟩
set_option maxRecDepth 100000 in
set_option maxHeartbeats 4000000 in
theorem Speeds_any (a : Option Addr) (n cl : Nat) (L M : Nat → Int) (ac : Option Addr) (m cc : Nat) (C : Nat → Int) (c : Int) (w : World) (hn : n ≤ 100) (hm : m ≤ 100) (hp : LegsR w a n L M) (hc : IntsR w ac m C) :
    Calls Try.prog 8 #[.slice a n cl, .slice ac m cc, .int .i64 c] w fun e w' =>
      (movE n L M m C c = 0 → ∃ g cap, e = .returned (.tuple #[.slice (some ⟨g, 0, none⟩) (n + 1) cap, .int .i64 0]) ∧ BlkI w' g (n + 1) (spZ n L M C c)) ∧
      (movE n L M m C c ≠ 0 → e = .returned (.tuple #[.slice none 0 0, .int .i64 (movE n L M m C c)])) ∧ Below w.heap.size w w' := by
  have HP := Lib.hid hp
  have HC := Lib.hid hc
  clear hp hc
  go_enter Try.func8, Try.ntmps8
  go_wp2_with (fail)
  refine (checkMoves_any a n cl L M ac m cc C c _ hn hm HP.out HC.out).mono ?_
  rintro e w1 ⟨rfl, hb1⟩
  have B1 := Lib.hid hb1
  clear hb1
  by_cases hz : movE n L M m C c = 0
  · have HZ := Lib.hid hz
    have hz' : (movE n L M m C c != 0) = false := by simp [hz]
    have OK := Lib.hid (mok hz)
    clear hz
    go_wp2_with (fail)
    refine (plan_any a n cl L M ac m cc C c _ hn (HP.out.kept B1.out) (HC.out.kept B1.out) OK.out).mono ?_
    rintro e w2 ⟨g, cap, rfl, hbl, _, hb2⟩
    have HBL := Lib.hid hbl
    have B2 := Lib.hid (B1.out.trans (hb2.mono B1.out.size))
    clear hb2 hbl
    go_wp2_with (fail)
    exact bodyPost_ret (v := .tuple #[.slice (some ⟨g, 0, none⟩) (n + 1) cap, .int .i64 0]) (by simp [results, Try.results8, go_sem]) rfl ⟨fun _ => ⟨g, cap, rfl, HBL.out⟩, fun h => absurd HZ.out h, B2.out⟩
  · have HZ := Lib.hid hz
    have hz' : (movE n L M m C c != 0) = true := by simpa using hz
    clear hz
    go_wp2_with (fail)
    exact bodyPost_ret (v := .tuple #[.slice none 0 0, .int .i64 (movE n L M m C c)]) (by simp [results, Try.results8, go_sem]) rfl ⟨fun h => absurd h HZ.out, fun _ => rfl, B1.out⟩

/-! ### Slow -/
noncomputable def slowL (V S : Nat → Int) : Nat → List Int
  | 0 => []
  | t + 1 => if V t < S t then slowL V S t ++ [(t : Int)] else slowL V S t
theorem slowL_len (V S : Nat → Int) : ∀ t, (slowL V S t).length ≤ t
  | 0 => Nat.le_refl _
  | t + 1 => by
    have := slowL_len V S t
    simp only [slowL]
    split
    · simp; omega
    · omega
theorem slowL_ext {V S S' : Nat → Int} : ∀ {t : Nat}, (∀ i, i < t → S i = S' i) → slowL V S t = slowL V S' t
  | 0, _ => rfl
  | t + 1, h => by simp only [slowL]; rw [slowL_ext (fun i hi => h i (by omega)), h t (by omega)]
def iv (l : List Int) : List Value := l.map (Value.int .i64)
theorem iv_len (l : List Int) : (iv l).length = l.length := by simp [iv]
theorem ints_of_iv {w : World} {base m c : Nat} {a : Option Addr} {l : List Int} (hm : m = l.length) (h : w.ownsRow base 3 1 (.slice a m c) m (iv l)) : IntsR w a m (fun i => l.getD i 0) := by
  refine ints_of_own (base := base) (c := c) ?_
  rw [show vs (fun i => l.getD i 0) m = iv l by
    subst hm
    apply List.ext_getElem
    · simp [vs, iv]
    · intro i h1 h2
      have h3 : i < l.length := by simpa [iv] using h2
      simp [vs, iv, h3]]
  exact h
noncomputable def slwE (n : Nat) (L M C : Nat → Int) (c : Int) (V : Nat → Int) (e : Int) : Int := if e = 0 then (if keptB n L M C c V = true then 0 else 16) else e
set_option maxRecDepth 100000 in
set_option maxHeartbeats 8000000 in
theorem Slow_any (a : Option Addr) (n cl : Nat) (L M : Nat → Int) (ac : Option Addr) (m cc : Nat) (C : Nat → Int) (av : Option Addr) (k cv : Nat) (V : Nat → Int) (c : Int) (w : World) (hn : n ≤ 100) (hm : m ≤ 100) (hk : k ≤ 100) (hp : LegsR w a n L M) (hc : IntsR w ac m C) (hv : IntsR w av k V) :
    Calls Try.prog 10 #[.slice a n cl, .slice ac m cc, .slice av k cv, .int .i64 c] w fun e w' =>
      (slwE n L M C c V (spdE n L M m C c k) = 0 → ∃ ao q co, e = .returned (.tuple #[.slice ao q co, .int .i64 0]) ∧ q = (slowL V (spZ n L M C c) (n + 1)).length ∧ w'.ownsRow w.heap.size 3 1 (.slice ao q co) q (iv (slowL V (spZ n L M C c) (n + 1)))) ∧
      (slwE n L M C c V (spdE n L M m C c k) ≠ 0 → e = .returned (.tuple #[.slice none 0 0, .int .i64 (slwE n L M C c V (spdE n L M m C c k))])) ∧ Below w.heap.size w w' := by
  obtain ⟨i0, hi0, hz0, hz1, hz2⟩ := info_parts info_intV
  have HP := Lib.hid hp
  have HC := Lib.hid hc
  have HVR := Lib.hid hv
  clear hp hc hv
  go_enter Try.func10, Try.ntmps10
  go_wp2_with (fail)
  refine (checkSpeeds_any a n cl L M ac m cc C av k cv c _ hn hm hk HP.out HC.out).mono ?_
  rintro e w1 ⟨rfl, hb1⟩
  have B1 := Lib.hid hb1
  clear hb1
  by_cases hz : spdE n L M m C c k = 0
  · have HZ := Lib.hid hz
    have hz' : (spdE n L M m C c k != 0) = false := by simp [hz]
    obtain ⟨ok, hkn⟩ := spdE_ok hz
    have OK := Lib.hid ok
    clear hz ok
    subst hkn
    go_wp2_with (fail)
    refine (keep_any a n cl L M ac m cc C av cv V c _ hn (HP.out.kept B1.out) (HC.out.kept B1.out) (HVR.out.kept B1.out) OK.out).mono ?_
    rintro e w2 ⟨rfl, hb2⟩
    have B2 := Lib.hid (B1.out.trans (hb2.mono B1.out.size))
    clear hb2
    rcases hkp : keptB n L M C c V with _ | _
    · have HE := Lib.hid (show slwE n L M C c V (spdE n L M m C c (n + 1)) = 16 by rw [slwE, if_pos HZ.out, hkp]; rfl)
      clear hkp
      go_wp2_with (fail)
      exact bodyPost_ret (v := .tuple #[.slice none 0 0, .int .i64 16]) (by simp [results, Try.results10, go_sem]) rfl ⟨fun h => (by rw [HE.out] at h; cases h), fun _ => (by rw [HE.out]), B2.out⟩
    · have HE := Lib.hid (show slwE n L M C c V (spdE n L M m C c (n + 1)) = 0 by rw [slwE, if_pos HZ.out, hkp]; rfl)
      clear hkp
      obtain ⟨bv, ov, rfl, hbv, hdv⟩ : ∃ b off, av = some ⟨b, off, none⟩ ∧ b < w.heap.size ∧ ∀ i, i < n + 1 → w.cell? ⟨b, off + i, none⟩ = some (.int .i64 (V i)) := by
        rcases HVR.out with h | h
        · omega
        · exact h
      have HV := Lib.hid hdv
      clear hdv
      go_wp2_with (fail)
      refine (plan_any a n cl L M ac m cc C c _ hn (HP.out.kept B2.out) (HC.out.kept B2.out) OK.out).mono ?_
      rintro e w3 ⟨g, cap, rfl, hbl, hg0, hb3⟩
      have HBL := Lib.hid hbl
      replace B2 := Lib.hid (B2.out.trans (hb3.mono B2.out.size))
      clear hb3 hbl
      go_wp2_with (fail)

      go_loopw [11, 33] (fun sv i wr => ∃ (t q : Nat) (ao : Option Addr) (co : Nat), t ≤ n + 1 ∧ i = .int .i64 t ∧ sv = .slice ao q co ∧ q = (slowL V (spZ n L M C c) t).length ∧ wr.ownsRow w.heap.size 3 1 (.slice ao q co) q (iv (slowL V (spZ n L M C c) t)) ∧ BlkI wr g (n + 1) (spZ n L M C c) ∧ Below w.heap.size w wr ∧ (∀ x, ao = some x → x.block ≠ g)) (fun _ i _ => n + 1 - (intOf i).toNat)
      case atStart => exact ⟨0, 0, none, 0, by omega, rfl, rfl, rfl, World.ownsRow_nil _ _ _ _, HBL.out, B2.out, fun x h => by cases h⟩
      case round =>
        clear HBL B2
        obtain ⟨t, q, ao, co, ht, rfl, rfl, hq, hown, hbl, hbel, hne⟩ := hrel
        have HO := Lib.hid hown
        have HBL := Lib.hid hbl
        have HB := Lib.hid hbel
        have HQ := Lib.hid hq
        have HNE := Lib.hid hne
        have hql := slowL_len V (spZ n L M C c) t
        have hqt : q ≤ t := by omega
        clear hown hbl hbel hq hql hne
        by_cases hlt : t < n + 1
        · have v0 := cellk HB.out hbv (HV.out t hlt)
          have s0 := HBL.out.cell hlt
          have hbw : bv < wr.heap.size := Nat.lt_of_lt_of_le hbv HB.out.size
          have hgw := HBL.out.lt
          have hlt' : (t : Int) < (n : Int) + 1 := by omega
          obtain ⟨x, hx⟩ : ∃ x, V t = x := ⟨_, rfl⟩
          obtain ⟨y, hy⟩ : ∃ y, spZ n L M C c t = y := ⟨_, rfl⟩
          rw [hx] at v0
          rw [hy] at s0
          have HX := Lib.hid hx
          have HY := Lib.hid hy
          clear hx hy
          by_cases h1 : x < y
          · have HS := Lib.hid (show slowL V (spZ n L M C c) (t + 1) = slowL V (spZ n L M C c) t ++ [(t : Int)] by simp only [slowL]; rw [HX.out, HY.out, if_pos h1])
            go_wp2_with (at_builtin; refine wpList_append_lies _ rfl _ _ 22 rfl w.heap.size 3 i0 (.int .i64 0) 1 8 Try.underlying22 hi0 hz0 hz1 hz2 rfl (by decide) _ _ _ rfl (ownsRow_below HO.out ((Below.refl _ wr).alloc (Nat.le_refl _) _)) ⟨wr.heap.size, 0, none⟩ 1 1 [.int .i64 (t : Int)] rfl rfl (World.news_of_block (cs := #[.int .i64 (t : Int)]) (t := 3) (fr := (0, 0)) (heap_alloc_new wr (.cells #[.int .i64 (t : Int)] 3))) (by simp [Value.oneCell']) (by omega) (by unfold maxLen; omega) (by omega) (by have := HB.out.size; simp; omega) (wr.heap.size + 1) (by simp) ?_; intro g5 c5 w5 hown hgrow hor hlt5; have HOR := Lib.hid hor; clear hor)
            have B5 : Below w.heap.size w w5 := Below.grown (HB.out.alloc HB.out.size (.cells #[.int .i64 (t : Int)] 3)) hgrow (by have := HB.out.size; simp; omega) (fun b hb => (HO.out.lt b hb).1)
            have hbA : Below wr.heap.size wr (wr.alloc (.cells #[.int .i64 (t : Int)] 3)) := (Below.refl _ _).alloc (Nat.le_refl _) _
            have hblA := HBL.out.kept hbA
            have hgo : (Value.slice ao q co).ownBlock ≠ some g := fun e => by
              cases ao with
              | none => cases e
              | some x => simp only [Value.ownBlock, Option.some.injEq] at e; exact HNE.out x rfl e
            have hbl5 : BlkI w5 g (n + 1) (spZ n L M C c) := by
              obtain ⟨cur, hc1, hc2⟩ := hblA
              exact ⟨cur, (hgrow.block g (lt_of_heap hc1) (fun e => hgo e.symm)).trans hc1, hc2⟩
            have HBL5 := Lib.hid hbl5
            have HB5 := Lib.hid B5
            have HO5 := Lib.hid (show w5.ownsRow w.heap.size 3 1 (.slice (some ⟨g5, 0, none⟩) (q + 1) c5) (q + 1) (iv (slowL V (spZ n L M C c) (t + 1))) by rw [HS.out]; simpa [iv] using hown)
            have hg5 : g5 ≠ g := (fun e => by rcases HOR.out with h | h; exact hgo (e ▸ h); omega)
            have HQ5 := Lib.hid (show q + 1 = (slowL V (spZ n L M C c) (t + 1)).length by rw [HS.out]; simp; exact HQ.out)
            clear hbl5 hblA hbA B5 hown hgrow
            go_wp2_with (fail)
            go_roundw
            case rel => exact ⟨t + 1, q + 1, _, c5, by omega, by go_num, rfl, HQ5.out, HO5.out, HBL5.out, HB5.out, fun x h => by cases h; exact hg5⟩
            case measure => simp [intOf]; omega
          · have HS := Lib.hid (show slowL V (spZ n L M C c) (t + 1) = slowL V (spZ n L M C c) t by simp only [slowL]; rw [HX.out, HY.out, if_neg h1])
            go_wp2_with (fail)
            go_roundw
            case rel => exact ⟨t + 1, q, ao, co, by omega, by go_num, rfl, by rw [HS.out]; exact HQ.out, by rw [HS.out]; exact HO.out, HBL.out, HB.out, HNE.out⟩
            case measure => simp [intOf]; omega
        · obtain rfl : t = n + 1 := by omega
          go_wp2_with (fail)
          exact bodyPost_ret (v := .tuple #[.slice ao q co, .int .i64 0]) (by simp [results, Try.results10, go_sem]) rfl ⟨fun _ => ⟨ao, q, co, rfl, HQ.out, HO.out⟩, fun h => absurd HE.out h, HB.out⟩
  · have HZ := Lib.hid hz
    have hz' : (spdE n L M m C c k != 0) = true := by simpa using hz
    have HE := Lib.hid (show slwE n L M C c V (spdE n L M m C c k) = spdE n L M m C c k by rw [slwE, if_neg hz])
    clear hz
    go_wp2_with (fail)
    exact bodyPost_ret (v := .tuple #[.slice none 0 0, .int .i64 (spdE n L M m C c k)]) (by simp [results, Try.results10, go_sem]) rfl ⟨fun h => absurd (HE.out.symm.trans h) HZ.out, fun _ => (by rw [HE.out]), B1.out⟩
end Go.Proofs.Yteodekmncgmjeaa

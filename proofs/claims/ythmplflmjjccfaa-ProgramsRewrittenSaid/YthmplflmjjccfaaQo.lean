/- Joined of the program and of the reference. -/
import Derived.Test.YthmplflmjjccfaaQn
import Derived.Deep.Cut
set_option linter.unusedSimpArgs false
set_option linter.unusedVariables false
namespace Go.Proofs.Ythmplflmjjccfaa
open Go.RowKit
def sone : St := ⟨1, 0, 0, 0, 0, 0⟩
def joinL (n : Nat) (S : Nat → St) (m : Nat) (T : Nat → St) : List St := frL S n ++ (if (run S n).r = true then [sone] else []) ++ frL T m
theorem joinL_len (n : Nat) (S : Nat → St) (m : Nat) (T : Nat → St) : (joinL n S m T).length ≤ n + m + 1 := by
  unfold joinL
  simp only [List.length_append, frL_len]
  split <;> simp <;> omega
theorem joinL_ok {n : Nat} {S : Nat → St} {m : Nat} {T : Nat → St} (h1 : stepsE n S = 0) (h2 : stepsE m T = 0) : stepsE (joinL n S m T).length (lf (joinL n S m T)) = 0 := by
  refine stepsE_list fun s hs => ?_
  unfold joinL at hs
  rw [List.mem_append, List.mem_append] at hs
  rcases hs with (hs | hs) | hs
  · obtain ⟨i, hi, rfl⟩ := frL_mem hs
    exact stepsE_zero h1 i hi
  · split at hs
    · have : s = sone := by simpa using hs
      rw [this]; rfl
    · simp at hs
  · obtain ⟨i, hi, rfl⟩ := frL_mem hs
    exact stepsE_zero h2 i hi
def joinE (n : Nat) (S : Nat → St) (m : Nat) (T : Nat → St) : Int := if stepsE n S = 0 then stepsE m T else stepsE n S
theorem field_r (x y z s h t f : Int) (r : Bool) (w : World) : (Instr.field 44 (.agg #[.int .i64 x, .int .i64 y, .int .i64 z, .int .i64 s, .int .i64 h, .int .i64 t, .int .i64 f, .bool r]) 7).run Try.prog w = .ok (.bool r) w := by kernel_rfl
theorem steps_one {w : World} {g : Nat} (h : w.heap[g]? = some (.cells #[.int .i64 1, .int .i64 0, .int .i64 0, .int .i64 0, .int .i64 0, .int .i64 0] 36 (0, 0))) : StepsR w (some ⟨g, 0, none⟩) 1 (fun _ => sone) :=
  .inr ⟨g, 0, rfl, lt_of_heap h, fun i hi => by
    obtain rfl : i = 0 := by omega
    exact ⟨cell_of h (i := 0) rfl, cell_of h (i := 1) rfl, cell_of h (i := 2) rfl, cell_of h (i := 3) rfl, cell_of h (i := 4) rfl, cell_of h (i := 5) rfl⟩⟩
set_option maxRecDepth 100000 in
set_option maxHeartbeats 8000000 in
theorem Joined_any (a b : Option Addr) (n c m d : Nat) (S T : Nat → St) (w : World) (hn : n ≤ 1000) (hm : m ≤ 1000) (hp : StepsR w a n S) (hq : StepsR w b m T) :
    Calls Try.prog 8 #[.slice a n c, .slice b m d] w (MadeS w (joinE n S m T) (joinL n S m T)) := by
  have HP := Lib.hid hp
  have HQ := Lib.hid hq
  clear hp hq
  have hfd := field_r
  go_enter Try.func8, Try.ntmps8
  go_wp2_with (fail)
  refine (checkSteps_any a n c S w (by omega) HP.out).mono ?_
  rintro e w1 ⟨rfl, hb⟩
  replace HP := Lib.hid (HP.out.kept hb)
  replace HQ := Lib.hid (HQ.out.kept hb)
  have B1 := Lib.hid hb
  clear hb
  by_cases hz : stepsE n S = 0
  · have HZ1 := Lib.hid hz
    have HOK := Lib.hid (fun i hi => sok (stepsE_zero hz i hi))
    have hz' : (stepsE n S != 0) = false := by simp [hz]
    clear hz
    go_wp2_with (fail)
    refine (checkSteps_any b m d T w1 (by omega) HQ.out).mono ?_
    rintro e w2 ⟨rfl, hb⟩
    replace HP := Lib.hid (HP.out.kept hb)
    replace HQ := Lib.hid (HQ.out.kept hb)
    have B2 := Lib.hid (B1.out.trans (hb.mono B1.out.size))
    clear hb
    by_cases hz : stepsE m T = 0
    · have HZ2 := Lib.hid hz
      have HE := Lib.hid (show joinE n S m T = 0 by unfold joinE; rw [if_pos HZ1.out, HZ2.out])
      have hz2' : (stepsE m T != 0) = false := by simp [hz]
      clear hz
      go_wp2_with (fail)
      refine (end_any a n c S w2 (by omega) HOK.out HP.out).mono ?_
      rintro e w3 ⟨rfl, hb⟩
      replace HP := Lib.hid (HP.out.kept hb)
      replace HQ := Lib.hid (HQ.out.kept hb)
      have BW := Lib.hid (B2.out.trans (hb.mono B2.out.size))
      clear hb
      obtain ⟨r, hr⟩ : ∃ r, (run S n).r = r := ⟨_, rfl⟩
      have HR := Lib.hid hr
      rw [hr]
      clear hr
      rcases r with _ | _
      · go_wp2_with (fail)
        have HB3 := Lib.hid (Below.refl w3.heap.size w3)
        have hb : Below w3.heap.size w3 (w3.alloc (.cells #[.slice a n c, .slice none 0 0, .slice b m d] 26)) := (Below.refl _ _).alloc (Nat.le_refl _) _
        have HG := Lib.hid (heap_alloc_new w3 (.cells #[.slice a n c, .slice none 0 0, .slice b m d] 26))
        have HP5 := Lib.hid (HP.out.kept (HB3.out.trans (hb.mono HB3.out.size)))
        have HQ5 := Lib.hid (HQ.out.kept (HB3.out.trans (hb.mono HB3.out.size)))
        have HX5 := Lib.hid (StepsR.kept (.inl rfl : StepsR w3 none 0 S) hb)
        have B5 := Lib.hid (BW.out.trans ((HB3.out.trans (hb.mono HB3.out.size)).mono BW.out.size))
        clear hb
        go_wp2_with (fail)
        generalize (w3.alloc (.cells #[.slice a n c, .slice none 0 0, .slice b m d] 26)) = w5 at *
        obtain ⟨g5, hg5⟩ : ∃ g, w3.heap.size = g := ⟨_, rfl⟩
        rw [hg5] at HG
        try rw [hg5]
        clear hg5
        refine (concatS g5 a none b n 0 m c 0 d S S T w5 HG.out HP5.out HX5.out HQ5.out (by omega) (by omega) (by omega)).mono ?_
        rintro e w6 ⟨a6, c6, rfl, hown, hb⟩
        obtain ⟨N, hN⟩ : ∃ N, n + 0 + m = N := ⟨_, rfl⟩
        have HN := Lib.hid hN
        have hNb : N ≤ 2001 := by omega
        rw [hN] at hown ⊢
        clear hN
        have HL := Lib.hid (show joinL n S m T = frL S n ++ frL S 0 ++ frL T m by unfold joinL; rw [HR.out]; rfl)
        have HLL := Lib.hid (show N = (joinL n S m T).length by rw [HL.out, ← HN.out]; simp only [List.length_append, frL_len])
        have HE6 := Lib.hid (show stepsE N (lf (joinL n S m T)) = 0 by rw [HLL.out]; exact joinL_ok HZ1.out HZ2.out)
        have HO := Lib.hid (show w6.ownsRow w5.heap.size 36 6 (.slice a6 N c6) N (rowS (joinL n S m T)) from HL.out ▸ hown)
        have B6 := Lib.hid (B5.out.trans (hb.mono B5.out.size))
        clear hown hb
        go_wp2_with (fail)
        refine (checked_any a6 N c6 (lf (joinL n S m T)) w6 (by omega) (own_rowS HO.out HLL.out)).mono ?_
        rintro e w7 ⟨rfl, hb⟩
        replace HO := Lib.hid (ownsRow_below HO.out hb)
        have B7 := Lib.hid (B6.out.trans (hb.mono B6.out.size))
        clear hb
        rw [HE6.out, if_pos rfl]
        go_wp2_with (fail)
        exact bodyPost_ret (v := .tuple #[.slice a6 N c6, .int .i64 0]) (by simp [results, Try.results8, go_sem]) rfl ⟨a6, N, c6, _, by rw [HE.out], Nat.le_of_eq HLL.out, own_cap HO.out, own_rowS HO.out HLL.out, fun _ => ⟨HLL.out, rfl⟩, fun h => absurd HE.out h, B7.out⟩
      · go_upto_region 10 with (fail)
        have HB4 := Lib.hid (show Below w3.heap.size w3 (w3.alloc (.cells #[.int .i64 1, .int .i64 0, .int .i64 0, .int .i64 0, .int .i64 0, .int .i64 0] 36)) from (Below.refl _ _).alloc (Nat.le_refl _) _)
        have HX4 := Lib.hid (heap_alloc_new w3 (.cells #[.int .i64 1, .int .i64 0, .int .i64 0, .int .i64 0, .int .i64 0, .int .i64 0] 36))
        generalize (w3.alloc (.cells #[.int .i64 1, .int .i64 0, .int .i64 0, .int .i64 0, .int .i64 0, .int .i64 0] 36)) = w4 at *
        obtain ⟨g4, hg4⟩ : ∃ g, w3.heap.size = g := ⟨_, rfl⟩
        have HG4 := Lib.hid hg4
        rw [hg4] at HX4
        try rw [hg4]
        clear hg4
        have HPX := Lib.hid (steps_one HX4.out)
        have hb : Below w4.heap.size w4 (w4.alloc (.cells #[.slice a n c, .slice (some ⟨g4, 0, none⟩) 1 1, .slice b m d] 26)) := (Below.refl _ _).alloc (Nat.le_refl _) _
        have HG := Lib.hid (heap_alloc_new w4 (.cells #[.slice a n c, .slice (some ⟨g4, 0, none⟩) 1 1, .slice b m d] 26))
        have HP5 := Lib.hid (HP.out.kept (HB4.out.trans (hb.mono HB4.out.size)))
        have HQ5 := Lib.hid (HQ.out.kept (HB4.out.trans (hb.mono HB4.out.size)))
        have HX5 := Lib.hid (StepsR.kept HPX.out hb)
        have B5 := Lib.hid (BW.out.trans ((HB4.out.trans (hb.mono HB4.out.size)).mono BW.out.size))
        clear hb
        go_wp2_with (fail)
        generalize (w4.alloc (.cells #[.slice a n c, .slice (some ⟨g4, 0, none⟩) 1 1, .slice b m d] 26)) = w5 at *
        obtain ⟨g5, hg5⟩ : ∃ g, w4.heap.size = g := ⟨_, rfl⟩
        rw [hg5] at HG
        try rw [hg5]
        clear hg5
        refine (concatS g5 a (some ⟨g4, 0, none⟩) b n 1 m c 1 d S (fun _ => sone) T w5 HG.out HP5.out HX5.out HQ5.out (by omega) (by omega) (by omega)).mono ?_
        rintro e w6 ⟨a6, c6, rfl, hown, hb⟩
        obtain ⟨N, hN⟩ : ∃ N, n + 1 + m = N := ⟨_, rfl⟩
        have HN := Lib.hid hN
        have hNb : N ≤ 2001 := by omega
        rw [hN] at hown ⊢
        clear hN
        have HL := Lib.hid (show joinL n S m T = frL S n ++ frL (fun _ => sone) 1 ++ frL T m by unfold joinL; rw [HR.out]; rfl)
        have HLL := Lib.hid (show N = (joinL n S m T).length by rw [HL.out, ← HN.out]; simp only [List.length_append, frL_len])
        have HE6 := Lib.hid (show stepsE N (lf (joinL n S m T)) = 0 by rw [HLL.out]; exact joinL_ok HZ1.out HZ2.out)
        have HO := Lib.hid (show w6.ownsRow w5.heap.size 36 6 (.slice a6 N c6) N (rowS (joinL n S m T)) from HL.out ▸ hown)
        have B6 := Lib.hid (B5.out.trans (hb.mono B5.out.size))
        clear hown hb
        go_wp2_with (fail)
        refine (checked_any a6 N c6 (lf (joinL n S m T)) w6 (by omega) (own_rowS HO.out HLL.out)).mono ?_
        rintro e w7 ⟨rfl, hb⟩
        replace HO := Lib.hid (ownsRow_below HO.out hb)
        have B7 := Lib.hid (B6.out.trans (hb.mono B6.out.size))
        clear hb
        rw [HE6.out, if_pos rfl]
        go_wp2_with (fail)
        exact bodyPost_ret (v := .tuple #[.slice a6 N c6, .int .i64 0]) (by simp [results, Try.results8, go_sem]) rfl ⟨a6, N, c6, _, by rw [HE.out], Nat.le_of_eq HLL.out, own_cap HO.out, own_rowS HO.out HLL.out, fun _ => ⟨HLL.out, rfl⟩, fun h => absurd HE.out h, B7.out⟩
    · have HZ2 := Lib.hid hz
      have HE := Lib.hid (show joinE n S m T = stepsE m T by unfold joinE; rw [if_pos HZ1.out])
      have hz2' : (stepsE m T != 0) = true := by simpa using hz
      clear hz
      go_wp2_with (fail)
      exact bodyPost_ret (v := .tuple #[.slice none 0 0, .int .i64 (stepsE m T)]) (by simp [results, Try.results8, go_sem]) rfl ⟨none, 0, 0, fun _ => s00, by rw [HE.out], Nat.zero_le _, Nat.le_refl _, .inl rfl, fun h => absurd (HE.out.symm.trans h) HZ2.out, fun _ => rfl, B2.out⟩
  · have HZ1 := Lib.hid hz
    have HE := Lib.hid (show joinE n S m T = stepsE n S by unfold joinE; rw [if_neg HZ1.out])
    have hz' : (stepsE n S != 0) = true := by simpa using hz
    clear hz
    go_wp2_with (fail)
    exact bodyPost_ret (v := .tuple #[.slice none 0 0, .int .i64 (stepsE n S)]) (by simp [results, Try.results8, go_sem]) rfl ⟨none, 0, 0, fun _ => s00, by rw [HE.out], Nat.zero_le _, Nat.le_refl _, .inl rfl, fun h => absurd (HE.out.symm.trans h) HZ1.out, fun _ => rfl, B1.out⟩

set_option maxRecDepth 100000 in
set_option maxHeartbeats 8000000 in
theorem joinedOf_any (a b : Option Addr) (n c m d : Nat) (S T : Nat → St) (w : World) (hn : n ≤ 1000) (hm : m ≤ 1000) (hok : ∀ i, i < n → SOk (S i)) (hp : StepsR w a n S) (hq : StepsR w b m T) :
    Calls Try.prog 14 #[.slice a n c, .slice b m d] w (MadeS w 0 (joinL n S m T)) := by
  obtain ⟨i0, hi0, hz0, hz1, hz2⟩ := info_parts2 info_st
  have HP := Lib.hid hp
  have HQ := Lib.hid hq
  have HQ0 := Lib.hid hq
  have HOK := Lib.hid hok
  clear hp hq hok
  have hfd := field_r
  go_enter Try.func14, Try.ntmps14
  go_wp2_with (fail)
  refine (cloneS a n c S w HP.out hn).mono ?_
  rintro e w1 ⟨v1, rfl, hown, hb⟩
  have HO1 := Lib.hid hown
  replace HP := Lib.hid (HP.out.kept hb)
  replace HQ := Lib.hid (HQ.out.kept hb)
  have B1 := Lib.hid hb
  clear hown hb
  obtain ⟨a1, c1, rfl⟩ := own_sliceS HO1.out
  go_wp2_with (fail)
  refine (lastOf_any a n c S w1 (by omega) HOK.out HP.out).mono ?_
  rintro e w2 ⟨rfl, hb⟩
  have HO2 := Lib.hid (ownsRow_below HO1.out hb)
  replace HQ := Lib.hid (HQ.out.kept hb)
  have B2 := Lib.hid (B1.out.trans (hb.mono B1.out.size))
  have s2 := B2.out.size
  clear hb HP HO1
  obtain ⟨r, hr⟩ : ∃ r, (run S n).r = r := ⟨_, rfl⟩
  have HR := Lib.hid hr
  rw [hr]
  clear hr
  rcases r with _ | _
  · have HO3 := Lib.hid (show w2.ownsRow w.heap.size 36 6 (.slice a1 n c1) n (rowS (frL S n ++ [])) from (List.append_nil (frL S n)).symm ▸ HO2.out)
    go_upto_region 5 with (at_builtin; refine wpList_append_steps rfl _ _ rfl w.heap.size i0 (.agg #[.int .i64 0, .int .i64 0, .int .i64 0, .int .i64 0, .int .i64 0, .int .i64 0]) hi0 hz0 hz1 hz2 rfl _ _ _ rfl HO3.out b m d T rfl HQ.out (by omega) (by omega) ?_; intro v8 w8 hown hgrow; have HO8 := Lib.hid hown; have HG8 := Lib.hid hgrow; clear hown hgrow)
    have HL := Lib.hid (show joinL n S m T = frL S n ++ [] ++ frL T m by unfold joinL; rw [HR.out]; rfl)
    have HLL := Lib.hid (show n + m = (joinL n S m T).length by rw [HL.out]; simp only [List.length_append, List.length_cons, List.length_nil, frL_len]; try omega)
    obtain ⟨a8, c8, rfl⟩ := own_sliceS HO8.out
    have B8 := Lib.hid (B2.out.grown HG8.out B2.out.size (fun b hb => (HO3.out.lt b hb).1))
    have HO9 := Lib.hid (show w8.ownsRow w.heap.size 36 6 (.slice a8 (n + m) c8) (n + m) (rowS (joinL n S m T)) from HL.out ▸ HO8.out)
    obtain ⟨N, hN⟩ : ∃ N, n + m = N := ⟨_, rfl⟩
    have hNb : N ≤ 2001 := by omega
    have hNc : ¬ ((N : Int) > 5000) := by omega
    rw [hN] at HO9 HLL ⊢
    clear hN HO8
    go_wp2_with (fail)
    exact bodyPost_ret (v := .tuple #[.slice a8 N c8, .int .i64 0]) (by simp [results, Try.results14, go_sem]) rfl ⟨a8, N, c8, _, rfl, Nat.le_of_eq HLL.out, own_cap HO9.out, own_rowS HO9.out HLL.out, fun _ => ⟨HLL.out, rfl⟩, fun h => absurd rfl h, B8.out⟩
  · have hb : Below w2.heap.size w2 (w2.alloc (.cells #[.int .i64 1, .int .i64 0, .int .i64 0, .int .i64 0, .int .i64 0, .int .i64 0] 36)) := (Below.refl _ _).alloc (Nat.le_refl _) _
    have HX4 := Lib.hid (heap_alloc_new w2 (.cells #[.int .i64 1, .int .i64 0, .int .i64 0, .int .i64 0, .int .i64 0, .int .i64 0] 36))
    have HPX := Lib.hid (steps_one HX4.out)
    have HO3 := Lib.hid (ownsRow_below HO2.out hb)
    have HQ3 := Lib.hid (HQ.out.kept hb)
    have B3 := Lib.hid (B2.out.trans (hb.mono B2.out.size))
    have s3 := B3.out.size
    clear hb HO2 HQ HX4
    go_upto_region 4 with (at_builtin; refine wpList_append_steps rfl _ _ rfl w.heap.size i0 (.agg #[.int .i64 0, .int .i64 0, .int .i64 0, .int .i64 0, .int .i64 0, .int .i64 0]) hi0 hz0 hz1 hz2 rfl _ _ _ rfl HO3.out (some ⟨w2.heap.size, 0, none⟩) 1 1 (fun _ => sone) rfl HPX.out (by omega) (by simp <;> omega) ?_; intro v5 w5 hown hgrow; have HO5 := Lib.hid (show w5.ownsRow w.heap.size 36 6 v5 (n + 1) (rowS (frL S n ++ [sone])) from hown); have HG5 := Lib.hid hgrow; clear hown hgrow)
    have B5 := Lib.hid (B3.out.grown HG5.out B3.out.size (fun b hb => (HO3.out.lt b hb).1))
    have s5 := B5.out.size
    have HQ5 := Lib.hid (HQ0.out.kept B5.out)
    obtain ⟨a5, c5, rfl⟩ := own_sliceS HO5.out
    go_upto_region 5 with (at_builtin; refine wpList_append_steps rfl _ _ rfl w.heap.size i0 (.agg #[.int .i64 0, .int .i64 0, .int .i64 0, .int .i64 0, .int .i64 0, .int .i64 0]) hi0 hz0 hz1 hz2 rfl _ _ _ rfl HO5.out b m d T rfl HQ5.out (by omega) (by omega) ?_; intro v8 w8 hown hgrow; have HO8 := Lib.hid hown; have HG8 := Lib.hid hgrow; clear hown hgrow)
    have HL := Lib.hid (show joinL n S m T = frL S n ++ [sone] ++ frL T m by unfold joinL; rw [HR.out]; rfl)
    have HLL := Lib.hid (show n + 1 + m = (joinL n S m T).length by rw [HL.out]; simp only [List.length_append, List.length_cons, List.length_nil, frL_len]; try omega)
    obtain ⟨a8, c8, rfl⟩ := own_sliceS HO8.out
    have B8 := Lib.hid (B5.out.grown HG8.out B5.out.size (fun b hb => (HO5.out.lt b hb).1))
    have HO9 := Lib.hid (show w8.ownsRow w.heap.size 36 6 (.slice a8 (n + 1 + m) c8) (n + 1 + m) (rowS (joinL n S m T)) from HL.out ▸ HO8.out)
    obtain ⟨N, hN⟩ : ∃ N, n + 1 + m = N := ⟨_, rfl⟩
    have hNb : N ≤ 2001 := by omega
    have hNc : ¬ ((N : Int) > 5000) := by omega
    rw [hN] at HO9 HLL ⊢
    clear hN HO8
    go_wp2_with (fail)
    exact bodyPost_ret (v := .tuple #[.slice a8 N c8, .int .i64 0]) (by simp [results, Try.results14, go_sem]) rfl ⟨a8, N, c8, _, rfl, Nat.le_of_eq HLL.out, own_cap HO9.out, own_rowS HO9.out HLL.out, fun _ => ⟨HLL.out, rfl⟩, fun h => absurd rfl h, B8.out⟩
end Go.Proofs.Ythmplflmjjccfaa

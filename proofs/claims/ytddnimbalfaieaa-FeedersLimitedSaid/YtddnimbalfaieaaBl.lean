/- Slowed, Weight and their errors: by the program and by the reference. -/
import Derived.Test.YtddnimbalfaieaaBj
set_option linter.unusedSimpArgs false
set_option linter.unusedVariables false
namespace Go.Proofs.Ytddnimbalfaieaa
open Go.RowKit
set_option maxRecDepth 100000 in
set_option maxHeartbeats 8000000 in
theorem Slowed_any (a : Option Addr) (m c : Nat) (T : Nat → Int) (l : Int) (w : World) (hm : m ≤ 100) (ht : IntsR w a m T) :
    Calls Try.prog 28 #[.slice a m c, .int .i64 l] w fun e w' =>
      (tmE m T l = 0 → ∃ ao co, e = .returned (.tuple #[.slice ao m co, .int .i64 (gwZ T l m), .int .i64 0]) ∧ w'.ownsRow w.heap.size 3 1 (.slice ao m co) m (vs (slF T l) m)) ∧
      (tmE m T l ≠ 0 → e = .returned (.tuple #[.slice none 0 0, .int .i64 0, .int .i64 (tmE m T l)])) ∧ Below w.heap.size w w' := by
  obtain ⟨i0, hi0, hz0, hz1, hz2⟩ := info_parts info_intV
  have HT := Lib.hid ht
  clear ht
  have l2 : ¬ (5000 : Int) < (m : Int) := by omega
  go_enter Try.func28, Try.ntmps28
  go_wp2_with (fail)
  go_loopw [18] (fun iv wr => ∃ k : Nat, k ≤ m ∧ iv = .int .i64 k ∧ (∀ i, i < k → inB (T i) 0 86400000 = true) ∧ Below w.heap.size w wr) (fun iv _ => m - (intOf iv).toNat)
  case atStart => exact ⟨0, by omega, rfl, fun i hi => by omega, Below.refl _ _⟩
  case round =>
    obtain ⟨k, hk, rfl, hj, hbel⟩ := hrel
    have HJ := Lib.hid hj
    have HB := Lib.hid hbel
    have hsz := hbel.size
    clear hj hbel
    by_cases hlt : k < m
    · rcases HT.out with h0 | ⟨b, off, rfl, hb, hd⟩
      · omega
      have c0 := cellk HB.out hb (hd k hlt)
      have hbw : b < wr.heap.size := by omega
      clear hd
      obtain ⟨v, hv⟩ : ∃ v, T k = v := ⟨_, rfl⟩
      have HV := Lib.hid hv
      rw [hv] at c0
      clear hv
      rcases hx : inB v 0 86400000 with _ | _
      · have HX := Lib.hid hx
        have R := Lib.hid (tmE_no (T := T) (l := l) hlt (by rw [HV.out]; exact hx))
        clear hx
        go_wp2_with (go_at_call 42; refine (within_any _ _ _ _).mono ?_; rintro e w7 ⟨rfl, rfl⟩; rw [HX.out])
        exact bodyPost_ret (v := .tuple #[.slice none 0 0, .int .i64 0, .int .i64 1]) (by simp [results, Try.results28, go_sem]) rfl ⟨fun h => absurd (R.out.symm.trans h) (by decide), fun _ => by rw [R.out], HB.out⟩
      · have HX := Lib.hid hx
        have HS := Lib.hid (show ∀ i, i < k + 1 → inB (T i) 0 86400000 = true from fun i hi => by
          rcases Nat.lt_or_ge i k with h | h
          · exact HJ.out i h
          · obtain rfl : i = k := by omega
            rw [HV.out]; exact HX.out)
        clear hx
        go_wp2_with (go_at_call 42; refine (within_any _ _ _ _).mono ?_; rintro e w7 ⟨rfl, rfl⟩; rw [HX.out])
        go_roundw
        case rel => exact ⟨k + 1, by omega, by go_num, HS.out, HB.out⟩
        case measure => simp [intOf]; omega
    · obtain rfl : k = m := by omega
      clear hlt hk
      rcases hl : inB l 0 86400000 with _ | _
      · have R := Lib.hid (tmE_least (m := k) (T := T) hl)
        have HX := Lib.hid hl
        clear hl
        go_wp2_with (go_at_call 42; refine (within_any _ _ _ _).mono ?_; rintro e w7 ⟨rfl, rfl⟩; rw [HX.out])
        exact bodyPost_ret (v := .tuple #[.slice none 0 0, .int .i64 0, .int .i64 1]) (by simp [results, Try.results28, go_sem]) rfl ⟨fun h => absurd (R.out.symm.trans h) (by decide), fun _ => by rw [R.out], HB.out⟩
      · obtain ⟨m, hmk⟩ : ∃ m, m = k := ⟨_, rfl⟩
        have R := Lib.hid (tmE_yes HJ.out hl)
        have OK := Lib.hid (tmE_ok R.out)
        have HX := Lib.hid hl
        clear hl HJ hmk m
        obtain ⟨m, hmk⟩ : ∃ m, m = k := ⟨_, rfl⟩
        subst hmk
        have B1 := HB
        clear HB
        go_wp2_with (go_at_call 42; refine (within_any _ _ _ _).mono ?_; rintro e w7 ⟨rfl, rfl⟩; rw [HX.out])
        go_loopw [9, 10, 31] (fun sv gv iv wv => ∃ (k : Nat) (ao : Option Addr) (co : Nat), k ≤ m ∧ iv = .int .i64 k ∧ gv = .int .i64 (gwZ T l k) ∧ sv = .slice ao k co ∧ wv.ownsRow w.heap.size 3 1 (.slice ao k co) k (vs (slF T l) k) ∧ Below w.heap.size w wv) (fun _ _ iv _ => m - (intOf iv).toNat)
        case atStart => exact ⟨0, none, 0, by omega, rfl, rfl, rfl, World.ownsRow_nil _ _ _ _, B1.out⟩
        case round =>
          obtain ⟨k, ao, co, hk, rfl, rfl, rfl, hown, hbel⟩ := hrel
          have HO := Lib.hid hown
          have HB := Lib.hid hbel
          have hsz := hbel.size
          clear hown hbel
          by_cases hlt : k < m
          · rcases HT.out with h0 | ⟨b, off, rfl, hb, hd⟩
            · omega
            have c0 := cellk HB.out hb (hd k hlt)
            have hbw : b < wr.heap.size := by omega
            clear hd
            have ov := OK.out.1 k hlt
            have b0 := gwZ_bnd OK.out.1 OK.out.2 k hk
            have ol := OK.out.2
            obtain ⟨v, hv⟩ : ∃ v, T k = v := ⟨_, rfl⟩
            have HV := Lib.hid hv
            rw [hv] at c0 ov
            clear hv
            by_cases hc : v < l
            · have g1 : v < l := hc
              have HD := Lib.hid (show slF T l k = l by show mxZ (T k) l = _; rw [HV.out]; unfold mxZ; rw [if_pos hc])
              have HG := Lib.hid (show gwZ T l (k + 1) = gwZ T l k + (l - v) by show gwZ T l k + (mxZ (T k) l - T k) = _; rw [HV.out]; unfold mxZ; rw [if_pos hc])
              have e2 : IntKind.i64.wrap (l - v) = l - v := i64w (by omega)
              have e4 : IntKind.i64.wrap (gwZ T l k + (l - v)) = gwZ T l k + (l - v) := i64w (by omega)
              have e5 : (if l > v then l else v) = l := if_pos hc
              clear b0 ov
              go_wp2_with (at_builtin; refine wpList_append_lies _ rfl _ _ 22 rfl w.heap.size 3 i0 (.int .i64 0) 1 8 Try.underlying22 hi0 hz0 hz1 hz2 rfl (by decide) _ _ _ rfl (ownsRow_below HO.out ((Below.refl _ wr).alloc (Nat.le_refl _) _)) ⟨wr.heap.size, 0, none⟩ 1 1 [.int .i64 l] rfl rfl (World.news_of_block (cs := #[.int .i64 l]) (t := 3) (fr := (0, 0)) (heap_alloc_new wr (.cells #[.int .i64 l] 3))) (by simp [Value.oneCell']) (by omega) (by unfold maxLen; omega) (by omega) (by simp; omega) (wr.heap.size + 1) (by simp) ?_; intro g5 c5 w5 hown5 hgrow5 _ hlt5; have HO5 := Lib.hid hown5; have HB5 := Lib.hid (Below.grown (B := w.heap.size) (Below.alloc (B := w.heap.size) (Below.refl _ wr) (by omega) (.cells #[.int .i64 l] 3)) hgrow5 (by simp; omega) (fun b hb => ((HO.out).lt b hb).1)); clear hown5 hgrow5)
              have HO6 := Lib.hid (show w5.ownsRow w.heap.size 3 1 (.slice (some ⟨g5, 0, none⟩) (k + 1) c5) (k + 1) (vs (slF T l) (k + 1)) by rw [vs_succ, HD.out]; exact HO5.out)
              have HB6 := Lib.hid (HB.out.trans HB5.out)
              clear HO5 HB5
              go_wp2_with (fail)
              go_roundw
              case rel => exact ⟨k + 1, _, c5, by omega, by go_num, by rw [HG.out], rfl, HO6.out, HB6.out⟩
              case measure => simp [intOf] <;> omega
            · have g1 : ¬ v < l := hc
              have HD := Lib.hid (show slF T l k = v by show mxZ (T k) l = _; rw [HV.out]; unfold mxZ; rw [if_neg hc])
              have HG := Lib.hid (show gwZ T l (k + 1) = gwZ T l k + (v - v) by show gwZ T l k + (mxZ (T k) l - T k) = _; rw [HV.out]; unfold mxZ; rw [if_neg hc])
              have e2 : IntKind.i64.wrap (v - v) = 0 := by rw [Int.sub_self]; exact i64w (by omega)
              have e4 : IntKind.i64.wrap (gwZ T l k) = gwZ T l k := i64w (by omega)
              have e5 : (if l > v then l else v) = v := if_neg hc
              clear b0 ov
              go_wp2_with (at_builtin; refine wpList_append_lies _ rfl _ _ 22 rfl w.heap.size 3 i0 (.int .i64 0) 1 8 Try.underlying22 hi0 hz0 hz1 hz2 rfl (by decide) _ _ _ rfl (ownsRow_below HO.out ((Below.refl _ wr).alloc (Nat.le_refl _) _)) ⟨wr.heap.size, 0, none⟩ 1 1 [.int .i64 v] rfl rfl (World.news_of_block (cs := #[.int .i64 v]) (t := 3) (fr := (0, 0)) (heap_alloc_new wr (.cells #[.int .i64 v] 3))) (by simp [Value.oneCell']) (by omega) (by unfold maxLen; omega) (by omega) (by simp; omega) (wr.heap.size + 1) (by simp) ?_; intro g5 c5 w5 hown5 hgrow5 _ hlt5; have HO5 := Lib.hid hown5; have HB5 := Lib.hid (Below.grown (B := w.heap.size) (Below.alloc (B := w.heap.size) (Below.refl _ wr) (by omega) (.cells #[.int .i64 v] 3)) hgrow5 (by simp; omega) (fun b hb => ((HO.out).lt b hb).1)); clear hown5 hgrow5)
              have HO6 := Lib.hid (show w5.ownsRow w.heap.size 3 1 (.slice (some ⟨g5, 0, none⟩) (k + 1) c5) (k + 1) (vs (slF T l) (k + 1)) by rw [vs_succ, HD.out]; exact HO5.out)
              have HB6 := Lib.hid (HB.out.trans HB5.out)
              clear HO5 HB5
              go_wp2_with (fail)
              go_roundw
              case rel => exact ⟨k + 1, _, c5, by omega, by go_num, by rw [HG.out]; simp, rfl, HO6.out, HB6.out⟩
              case measure => simp [intOf] <;> omega
          · obtain rfl : m = k := by omega
            go_wp2_with (fail)
            exact bodyPost_ret (v := .tuple #[.slice ao m co, .int .i64 (gwZ T l m), .int .i64 0]) (by simp [results, Try.results28, go_sem]) rfl ⟨fun _ => ⟨ao, co, rfl, HO.out⟩, fun h => absurd R.out h, HB.out⟩
theorem run_app_zero {P : Program} (w : World) (t ty e : TypeId) (i : TypeInfo) (ht : P.underlying t = some (.slice e)) (hi : P.info? e = some i) (a : Option Addr) (n c : Nat) (hc : n ≤ c) (x : Addr) (c2 : Nat) :
    (Builtin.append_ #[t, t] ty #[.slice a n c, .slice (some x) 0 c2]).run P w = .ok (.slice a n c) w := by
  have hl : (loadCells x 0).run P w = .ok #[] w := by simpa using run_loadCells_list (P := P) w x [] (by simp)
  simp [Builtin.append_, run_underlying ht, sizeOf, typeInfo, hi, Builtin.lenOf, hc, Question.forced]
  cases a <;> simp [Builtin.firstCells, hl, storeCells]
theorem vs_oneB (X : Nat → Int) (n : Nat) : ∀ u ∈ vs X n, u.oneCell' = true := by
  intro u hu
  simp only [vs, List.mem_map] at hu
  obtain ⟨i, _, rfl⟩ := hu
  rfl
theorem vs_newsB {w : World} {b off n : Nat} {X : Nat → Int} (h : ∀ i, i < n → w.cell? ⟨b, off + i, none⟩ = some (.int .i64 (X i))) : ∀ j u, (vs X n)[j]? = some u → w.cell? ((⟨b, off, none⟩ : Addr).add j) = some u := by
  intro j u hu
  have hj : j < n := by
    have := (List.getElem?_eq_some_iff.1 hu).1
    simpa [vs] using this
  rw [vs_get X n j hj] at hu
  rw [Addr.add_lit, h j hj, hu]
def IntsPostB (w : World) (n : Nat) (X : Nat → Int) (e : Ending) (w' : World) : Prop := ∃ a c, e = .returned (.slice a n c) ∧ w'.ownsRow w.heap.size 3 1 (.slice a n c) n (vs X n) ∧ Below w.heap.size w w'
set_option maxRecDepth 100000 in
set_option maxHeartbeats 8000000 in
theorem cloneB (x : Addr) (n c : Nat) (X : Nat → Int) (w : World) (hr : IntsR w (some x) n X) (hn : n ≤ 1000000) :
    Calls Try.prog 52 #[.slice (some x) n c] w (IntsPostB w n X) := by
  obtain ⟨i0, hi0, hz0, hz1, hz2⟩ := info_parts info_intV
  have q22 := fun (w : World) (a : Option Addr) (n c n' c' : Nat) => Lib.run_eql_slice_nil (P := Try.prog) w _ _ a n c n' c' Try.underlying22
  by_cases h0 : n = 0
  · subst h0
    have q1 := fun ty c => run_app_zero (w.alloc (.cells #[] 3)) 22 ty 3 i0 Try.underlying22 hi0 (some ⟨w.heap.size, 0, none⟩) 0 0 (Nat.le_refl _) x c
    have O := Lib.hid (World.ownsRow_made (e := 3) (size := 1) w #[] 0 (Nat.le_refl _) (by unfold maxLen; omega) rfl)
    go_enter Try.func52, Try.ntmps52
    go_wp2_with (fail)
    go_ret
    exact ⟨_, _, rfl, O.out, (by repeat (first | exact Below.refl _ _ | assumption | refine Below.drew ?_ | refine bdrewN ?_ _ | refine Below.setCell ?_ (by first | omega | (simp <;> omega)) _ | refine Below.alloc ?_ (by first | omega | (simp <;> omega)) _))⟩
  · obtain ⟨b, off, he, hb, h⟩ : ∃ b off, some x = some ⟨b, off, none⟩ ∧ b < w.heap.size ∧ ∀ i, i < n → w.cell? ⟨b, off + i, none⟩ = some (.int .i64 (X i)) := by
      rcases hr with h | h
      · exact absurd h h0
      · exact h
    cases he
    have HT := Lib.hid h
    clear h hr
    go_enter Try.func52, Try.ntmps52
    go_wp2_with (at_builtin; refine wpList_append_lies _ rfl _ _ 22 rfl w.heap.size 3 i0 (.int .i64 0) 1 8 Try.underlying22 hi0 hz0 hz1 hz2 rfl (by decide) _ _ _ rfl (World.ownsRow_made w #[] 0 (Nat.le_refl _) (by unfold maxLen; omega) rfl) ⟨b, off, none⟩ n c (vs X n) rfl ((by simp [vs])) (vs_newsB (fun i hi => cellk ((Below.refl _ w).alloc (Nat.le_refl _) _) hb (HT.out i hi))) (vs_oneB X n) (by omega) (by unfold maxLen; omega) (by omega) (by simp) (w.heap.size + 1) (by simp) ?_; intro g cap' w' hown hgrow _ _; have HO := Lib.hid hown; have HG := Lib.hid (Below.grown ((Below.refl _ w).alloc (Nat.le_refl _) (.cells #[] 3)) hgrow (by simp) (fun b hb => by cases hb; exact Nat.le_refl _)); clear hown hgrow)
    go_ret
    have ho := HO.out
    simp only [Nat.zero_add, List.nil_append] at ho
    exact ⟨_, _, by (simp only [Nat.zero_add]; rfl), ho, HG.out⟩
def tpF (T : Nat → Int) (m : Nat) (l : Int) : Nat → Int := fun i => if i < m then T i else l
set_option maxRecDepth 100000 in
set_option maxHeartbeats 8000000 in
theorem timesFault_any (x : Addr) (m c : Nat) (T : Nat → Int) (l : Int) (w : World) (hm : m ≤ 100) (ht : IntsR w (some x) m T) :
    Calls Try.prog 32 #[.slice (some x) m c, .int .i64 l] w fun e w' => e = .returned (.int .i64 (tmE m T l)) ∧ Below w.heap.size w w' := by
  obtain ⟨i0, hi0, hz0, hz1, hz2⟩ := info_parts info_intV
  have HT := Lib.hid ht
  clear ht
  have l2 : ¬ (5000 : Int) < (m : Int) := by omega
  go_enter Try.func32, Try.ntmps32
  go_wp2_with (fail)
  refine (cloneB x m c T w HT.out (by omega)).mono ?_
  rintro e w1 ⟨a1, c1, rfl, hown, hb1⟩
  have HO1 := Lib.hid hown
  have B1 := Lib.hid hb1
  have hsz := hb1.size
  clear hown hb1
  go_wp2_with (at_builtin; refine wpList_append_lies _ rfl _ _ 22 rfl w.heap.size 3 i0 (.int .i64 0) 1 8 Try.underlying22 hi0 hz0 hz1 hz2 rfl (by decide) _ _ _ rfl (ownsRow_below HO1.out ((Below.refl _ w1).alloc (Nat.le_refl _) _)) ⟨w1.heap.size, 0, none⟩ 1 1 [.int .i64 l] rfl rfl (World.news_of_block (cs := #[.int .i64 l]) (t := 3) (fr := (0, 0)) (heap_alloc_new w1 (.cells #[.int .i64 l] 3))) (by simp [Value.oneCell']) (by omega) (by unfold maxLen; omega) (by omega) (by simp; omega) (w1.heap.size + 1) (by simp) ?_; intro g5 c5 w5 hown5 hgrow5 _ hlt5; have HO5 := Lib.hid hown5; have HB5 := Lib.hid (Below.grown (B := w.heap.size) (Below.alloc (B := w.heap.size) (Below.refl _ w1) (by omega) (.cells #[.int .i64 l] 3)) hgrow5 (by simp; omega) (fun b hb => ((HO1.out).lt b hb).1)); clear hown5 hgrow5)
  have HI := Lib.hid (ints_of_own (v := tpF T m l) (m := m + 1) (show w5.ownsRow w.heap.size 3 1 (.slice (some ⟨g5, 0, none⟩) (m + 1) c5) (m + 1) (vs (tpF T m l) (m + 1)) by
    rw [vs_succ, show tpF T m l m = l from if_neg (Nat.lt_irrefl m), vs_ext (u := tpF T m l) (v := T) (fun i hi => if_pos hi)]; exact HO5.out))
  have B5 := Lib.hid (B1.out.trans HB5.out)
  clear HO5 HB5 HO1 B1
  go_wp2_with (fail)
  go_loopw [16] (fun iv wr => ∃ k : Nat, k ≤ m + 1 ∧ iv = .int .i64 k ∧ (∀ i, i < k → inB (tpF T m l i) 0 86400000 = true) ∧ Below w5.heap.size w5 wr) (fun iv _ => m + 1 - (intOf iv).toNat)
  case atStart => exact ⟨0, by omega, rfl, fun i hi => by omega, Below.refl _ _⟩
  case round =>
    obtain ⟨k, hk, rfl, hj, hbel⟩ := hrel
    have HJ := Lib.hid hj
    have HB := Lib.hid hbel
    have hsz := hbel.size
    have HBW := Lib.hid (B5.out.trans (hbel.mono B5.out.size))
    clear hj hbel
    by_cases hlt : k < m + 1
    · rcases HI.out with h0 | ⟨b, off, he, hb, hd⟩
      · omega
      cases he
      have c0 := cellk HB.out hb (hd k hlt)
      simp only [Nat.zero_add] at c0
      have hlt2 : (k : Int) < (m : Int) + 1 := by omega
      clear hd
      obtain ⟨v, hv⟩ : ∃ v, tpF T m l k = v := ⟨_, rfl⟩
      have HV := Lib.hid hv
      rw [hv] at c0
      clear hv
      rcases hx : inB v 0 86400000 with _ | _
      · have HX := Lib.hid hx
        have R := Lib.hid (show tmE m T l = 1 by
          have hv := HV.out
          unfold tpF at hv
          split at hv
          · rename_i h; exact tmE_no h (by rw [hv]; exact hx)
          · exact tmE_least (by rw [hv]; exact hx))
        clear hx
        go_wp2_with (go_at_call 43; refine (in_any _ _ _ _).mono ?_; rintro e w7 ⟨rfl, rfl⟩; rw [HX.out])
        go_ret
        exact ⟨ret_int R.out.symm, HBW.out⟩
      · have HX := Lib.hid hx
        have HS := Lib.hid (show ∀ i, i < k + 1 → inB (tpF T m l i) 0 86400000 = true from fun i hi => by
          rcases Nat.lt_or_ge i k with h | h
          · exact HJ.out i h
          · obtain rfl : i = k := by omega
            rw [HV.out]; exact HX.out)
        clear hx
        go_wp2_with (go_at_call 43; refine (in_any _ _ _ _).mono ?_; rintro e w7 ⟨rfl, rfl⟩; rw [HX.out])
        go_roundw
        case rel => exact ⟨k + 1, by omega, by go_num, HS.out, HB.out⟩
        case measure => simp [intOf]; omega
    · have hke : (k : Int) = (m : Int) + 1 := by omega
      have hlt2 : ¬ (k : Int) < (m : Int) + 1 := by omega
      have R := Lib.hid (show tmE m T l = 0 from tmE_yes (fun i hi => by have h := HJ.out i (by omega); unfold tpF at h; rwa [if_pos hi] at h) (by have h := HJ.out m (by omega); unfold tpF at h; rwa [if_neg (Nat.lt_irrefl m)] at h))
      have HKE := Lib.hid hke
      clear hke
      go_wp2_with (fail)
      go_ret
      exact ⟨ret_int R.out.symm, HBW.out⟩
/-! ### Weights -/
def wtE (n : Nat) (L W H : Nat → Int) (x : Int) : Int := if fvE n L W H = 0 then (if inB x 1 1000000 = true then fullE (volZ L W H n) 1000000000000 else 1) else fvE n L W H
def wdN (n : Nat) (L W H : Nat → Int) (x : Int) : Int := volZ L W H n * x / gcZ (volZ L W H n * x) 1000000000000
def wdD (n : Nat) (L W H : Nat → Int) (x : Int) : Int := 1000000000000 / gcZ (volZ L W H n * x) 1000000000000
def wrN (n : Nat) (L W H : Nat → Int) (x : Int) : Int := if wtE n L W H x = 0 then wdN n L W H x else 0
def wrD (n : Nat) (L W H : Nat → Int) (x : Int) : Int := if wtE n L W H x = 0 then wdD n L W H x else 0
theorem wtE_ok {n : Nat} {L W H : Nat → Int} {x : Int} (h : wtE n L W H x = 0) : (n ≤ 5000 ∧ BdOk n L W H) ∧ (1 ≤ x ∧ x ≤ 1000000) ∧ volZ L W H n ≤ 1000000000000 := by
  unfold wtE fullE at h
  split at h
  · split at h
    · split at h
      · cases h
      · rename_i h1 h2 h3
        exact ⟨⟨(bdE_ok (fvE_ok h1).1).1, (bdE_ok (fvE_ok h1).1).2⟩, inB_yes.1 h2, by omega⟩
    · cases h
  · rename_i h1; exact absurd h h1
theorem wt_bnd {v x : Int} (hv : 0 ≤ v ∧ v ≤ 1000000000000) (hx : 1 ≤ x ∧ x ≤ 1000000) : 0 ≤ v * x ∧ v * x ≤ 1000000000000000000 := by
  refine ⟨Int.mul_nonneg hv.1 (by omega), ?_⟩
  have := Int.mul_le_mul hv.2 hx.2 (by omega) (by omega)
  omega
theorem wtE_no {n : Nat} {L W H : Nat → Int} {x e : Int} (h : wtE n L W H x = e) (he : e ≠ 0) : wrN n L W H x = 0 ∧ wrD n L W H x = 0 ∧ wtE n L W H x = e :=
  ⟨if_neg (by rw [h]; exact he), if_neg (by rw [h]; exact he), h⟩
set_option maxRecDepth 100000 in
set_option maxHeartbeats 4000000 in
theorem Weight_any (a : Option Addr) (n c : Nat) (L W H : Nat → Int) (x : Int) (w : World) (hn : n ≤ 100) (hp : BeadsR w a n L W H) :
    Calls Try.prog 29 #[.slice a n c, .int .i64 x] w fun e w' => e = .returned (.tuple #[.agg #[.int .i64 (wrN n L W H x), .int .i64 (wrD n L W H x)], .int .i64 (wtE n L W H x)]) ∧ Below w.heap.size w w' := by
  have HP := Lib.hid hp
  clear hp
  go_enter Try.func29, Try.ntmps29
  go_wp2_with (fail)
  have B0 : Below w.heap.size w (w.alloc (.cells #[.int .i64 0, .int .i64 0] 36)) := (by repeat (first | exact Below.refl _ _ | assumption | refine Below.drew ?_ | refine bdrewN ?_ _ | refine Below.setCell ?_ (by first | omega | (simp <;> omega)) _ | refine Below.alloc ?_ (by first | omega | (simp <;> omega)) _))
  have H8 := Lib.hid (heap_alloc_new w (.cells #[.int .i64 0, .int .i64 0] 36))
  replace HP := Lib.hid (HP.out.kept B0)
  have BX := Lib.hid B0
  clear B0
  generalize (w.alloc (.cells #[.int .i64 0, .int .i64 0] 36)) = w1 at *
  refine (Volume_any a n c L W H w1 (by omega) HP.out).mono ?_
  rintro e w2 ⟨rfl, hb2⟩
  replace H8 := Lib.hid (heap_keep hb2 H8.out)
  replace BX := Lib.hid (BX.out.trans (hb2.mono BX.out.size))
  clear hb2
  by_cases hz : fvE n L W H = 0
  · have hz' : (fvE n L W H != 0) = false := by simp [hz]
    rw [fvV_ok hz]
    rcases hx : inB x 1 1000000 with _ | _
    · have HV := Lib.hid (wtE_no (show wtE n L W H x = 1 by unfold wtE; rw [if_pos hz, hx]; rfl) (by decide))
      have HX := Lib.hid hx
      clear hz hx
      have d0 := cell_of H8.out (i := 0) rfl
      have d1 := cell_of H8.out (i := 1) rfl
      have f0 := frozen_of H8.out (i := 0)
      have f1 := frozen_of H8.out (i := 1)
      go_wp2_with (go_at_call 42; refine (within_any _ _ _ _).mono ?_; rintro e w7 ⟨rfl, rfl⟩; rw [HX.out])
      have hs := set2V_1 (u := .int .i64 0) (set2V_0 (u := .int .i64 0) H8.out)
      have s0 := cell_of hs (i := 0) rfl
      have s1 := cell_of hs (i := 1) rfl
      have B9 := Lib.hid ((Below.setCell (p := ⟨w.heap.size, 0, none⟩) BX.out (Nat.le_refl _) (.int .i64 0)).setCell (p := ⟨w.heap.size, 1, none⟩) (Nat.le_refl _) (.int .i64 0))
      generalize ((w2.setCell ⟨w.heap.size, 0, none⟩ (.int .i64 0)).setCell ⟨w.heap.size, 1, none⟩ (.int .i64 0)) = w9 at *
      exact bodyPost_ret (v := .tuple #[.agg #[.int .i64 0, .int .i64 0], .int .i64 1]) (by simp [results, Try.results29, go_sem, s0, s1]) rfl ⟨by rw [HV.out.1, HV.out.2.1, HV.out.2.2], B9.out⟩
    · have HX := Lib.hid hx
      by_cases hv : 1000000000000 < volZ L W H n
      · have HV := Lib.hid (wtE_no (show wtE n L W H x = 12 by unfold wtE fullE; rw [if_pos hz, hx, if_pos rfl, if_pos hv]) (by decide))
        clear hz hx
        have d0 := cell_of H8.out (i := 0) rfl
        have d1 := cell_of H8.out (i := 1) rfl
        have f0 := frozen_of H8.out (i := 0)
        have f1 := frozen_of H8.out (i := 1)
        go_wp2_with (go_at_call 42; refine (within_any _ _ _ _).mono ?_; rintro e w7 ⟨rfl, rfl⟩; rw [HX.out])
        have hs := set2V_1 (u := .int .i64 0) (set2V_0 (u := .int .i64 0) H8.out)
        have s0 := cell_of hs (i := 0) rfl
        have s1 := cell_of hs (i := 1) rfl
        have B9 := Lib.hid ((Below.setCell (p := ⟨w.heap.size, 0, none⟩) BX.out (Nat.le_refl _) (.int .i64 0)).setCell (p := ⟨w.heap.size, 1, none⟩) (Nat.le_refl _) (.int .i64 0))
        generalize ((w2.setCell ⟨w.heap.size, 0, none⟩ (.int .i64 0)).setCell ⟨w.heap.size, 1, none⟩ (.int .i64 0)) = w9 at *
        exact bodyPost_ret (v := .tuple #[.agg #[.int .i64 0, .int .i64 0], .int .i64 12]) (by simp [results, Try.results29, go_sem, s0, s1]) rfl ⟨by rw [HV.out.1, HV.out.2.1, HV.out.2.2], B9.out⟩
      · have HE := Lib.hid (show wtE n L W H x = 0 by unfold wtE fullE; rw [if_pos hz, hx, if_pos rfl, if_neg hv])
        have OK := wtE_ok HE.out
        have HV := Lib.hid (show wrN n L W H x = wdN n L W H x ∧ wrD n L W H x = wdD n L W H x from ⟨if_pos HE.out, if_pos HE.out⟩)
        have bv := volZ_bnd OK.1.2 n (Nat.le_refl _)
        have bw := wt_bnd ⟨bv.1, OK.2.2⟩ OK.2.1
        have BW := Lib.hid bw
        have e1 : IntKind.i64.wrap (volZ L W H n * x) = volZ L W H n * x := i64w (by omega)
        clear hz hx OK bv bw
        go_wp2_with (go_at_call 42; refine (within_any _ _ _ _).mono ?_; rintro e w7 ⟨rfl, rfl⟩; rw [HX.out])
        refine (LowestP_any _ _ w2 BW.out.1 (by have := BW.out; omega) (by decide) (by decide)).mono ?_
        rintro e w5 ⟨rfl, hb5⟩
        replace H8 := Lib.hid (heap_keep hb5 H8.out)
        replace BX := Lib.hid (BX.out.trans (hb5.mono BX.out.size))
        have HX2 := Lib.hid (show wdN n L W H x = volZ L W H n * x / gcZ (volZ L W H n * x) 1000000000000 ∧ wdD n L W H x = 1000000000000 / gcZ (volZ L W H n * x) 1000000000000 from ⟨rfl, rfl⟩)
        rw [← HX2.out.1, ← HX2.out.2]
        clear hb5 HX2 e1
        obtain ⟨y, hy⟩ : ∃ y, wdN n L W H x = y := ⟨_, rfl⟩
        obtain ⟨z, hz⟩ : ∃ z, wdD n L W H x = z := ⟨_, rfl⟩
        rw [hy, hz] at HV ⊢
        clear hy hz
        have d0 := cell_of H8.out (i := 0) rfl
        have d1 := cell_of H8.out (i := 1) rfl
        have f0 := frozen_of H8.out (i := 0)
        have f1 := frozen_of H8.out (i := 1)
        go_wp2_with (fail)
        have hs := set2V_1 (u := .int .i64 z) (set2V_0 (u := .int .i64 y) H8.out)
        have s0 := cell_of hs (i := 0) rfl
        have s1 := cell_of hs (i := 1) rfl
        have B9 := Lib.hid ((Below.setCell (p := ⟨w.heap.size, 0, none⟩) BX.out (Nat.le_refl _) (.int .i64 y)).setCell (p := ⟨w.heap.size, 1, none⟩) (Nat.le_refl _) (.int .i64 z))
        generalize ((w5.setCell ⟨w.heap.size, 0, none⟩ (.int .i64 y)).setCell ⟨w.heap.size, 1, none⟩ (.int .i64 z)) = w9 at *
        exact bodyPost_ret (v := .tuple #[.agg #[.int .i64 y, .int .i64 z], .int .i64 0]) (by simp [results, Try.results29, go_sem, s0, s1]) rfl ⟨by rw [HV.out.1, HV.out.2, HE.out], B9.out⟩
  · have hz' : (fvE n L W H != 0) = true := by simpa using hz
    have HV := Lib.hid (wtE_no (show wtE n L W H x = fvE n L W H by unfold wtE; rw [if_neg hz]) hz)
    clear hz
    have d0 := cell_of H8.out (i := 0) rfl
    have d1 := cell_of H8.out (i := 1) rfl
    have f0 := frozen_of H8.out (i := 0)
    have f1 := frozen_of H8.out (i := 1)
    go_wp2_with (fail)
    have hs := set2V_1 (u := .int .i64 0) (set2V_0 (u := .int .i64 0) H8.out)
    have s0 := cell_of hs (i := 0) rfl
    have s1 := cell_of hs (i := 1) rfl
    have B9 := Lib.hid ((Below.setCell (p := ⟨w.heap.size, 0, none⟩) BX.out (Nat.le_refl _) (.int .i64 0)).setCell (p := ⟨w.heap.size, 1, none⟩) (Nat.le_refl _) (.int .i64 0))
    generalize ((w2.setCell ⟨w.heap.size, 0, none⟩ (.int .i64 0)).setCell ⟨w.heap.size, 1, none⟩ (.int .i64 0)) = w9 at *
    exact bodyPost_ret (v := .tuple #[.agg #[.int .i64 0, .int .i64 0], .int .i64 (fvE n L W H)]) (by simp [results, Try.results29, go_sem, s0, s1]) rfl ⟨by rw [HV.out.1, HV.out.2.1, HV.out.2.2], B9.out⟩
set_option maxRecDepth 100000 in
set_option maxHeartbeats 4000000 in
theorem weightOf_any (a : Option Addr) (n c : Nat) (L W H : Nat → Int) (x : Int) (w : World) (hn : n ≤ 100) (hp : BeadsR w a n L W H) (ok : wtE n L W H x = 0) :
    Calls Try.prog 38 #[.slice a n c, .int .i64 x] w fun e w' => e = .returned (.agg #[.int .i64 (wdN n L W H x), .int .i64 (wdD n L W H x)]) ∧ Below w.heap.size w w' := by
    have HP := Lib.hid hp
    have OK := Lib.hid (wtE_ok ok)
    clear hp ok
    go_enter Try.func38, Try.ntmps38
    go_wp2_with (fail)
    have B0 : Below w.heap.size w (w.alloc (.cells #[.int .i64 0, .int .i64 0] 36)) := (by repeat (first | exact Below.refl _ _ | assumption | refine Below.drew ?_ | refine bdrewN ?_ _ | refine Below.setCell ?_ (by first | omega | (simp <;> omega)) _ | refine Below.alloc ?_ (by first | omega | (simp <;> omega)) _))
    have H8 := Lib.hid (heap_alloc_new w (.cells #[.int .i64 0, .int .i64 0] 36))
    replace HP := Lib.hid (HP.out.kept B0)
    have BX := Lib.hid B0
    clear B0
    generalize (w.alloc (.cells #[.int .i64 0, .int .i64 0] 36)) = w1 at *
    refine (volumeFed_any a n c L W H w1 (by omega) HP.out OK.out.1.2).mono ?_
    rintro e w2 ⟨rfl, hb2⟩
    replace H8 := Lib.hid (heap_keep hb2 H8.out)
    replace BX := Lib.hid (BX.out.trans (hb2.mono BX.out.size))
    clear hb2
    have bv := volZ_bnd OK.out.1.2 n (Nat.le_refl _)
    have bw := wt_bnd ⟨bv.1, OK.out.2.2⟩ OK.out.2.1
    have BW := Lib.hid bw
    have e1 : IntKind.i64.wrap (volZ L W H n * x) = volZ L W H n * x := i64w (by omega)
    clear bv bw
    go_wp2_with (fail)
    refine (LowestR_any _ _ w2 BW.out.1 (by have := BW.out; omega) (by decide) (by decide)).mono ?_
    rintro e w5 ⟨rfl, hb5⟩
    replace H8 := Lib.hid (heap_keep hb5 H8.out)
    replace BX := Lib.hid (BX.out.trans (hb5.mono BX.out.size))
    have HX2 := Lib.hid (show wdN n L W H x = volZ L W H n * x / gcZ (volZ L W H n * x) 1000000000000 ∧ wdD n L W H x = 1000000000000 / gcZ (volZ L W H n * x) 1000000000000 from ⟨rfl, rfl⟩)
    rw [← HX2.out.1, ← HX2.out.2]
    clear hb5 HX2 e1
    obtain ⟨y, hy⟩ : ∃ y, wdN n L W H x = y := ⟨_, rfl⟩
    obtain ⟨z, hz⟩ : ∃ z, wdD n L W H x = z := ⟨_, rfl⟩
    have HY := Lib.hid hy
    have HZ := Lib.hid hz
    rw [hy, hz]
    clear hy hz
    have d0 := cell_of H8.out (i := 0) rfl
    have d1 := cell_of H8.out (i := 1) rfl
    have f0 := frozen_of H8.out (i := 0)
    have f1 := frozen_of H8.out (i := 1)
    go_wp2_with (fail)
    have hs := set2V_1 (u := .int .i64 z) (set2V_0 (u := .int .i64 y) H8.out)
    have s0 := cell_of hs (i := 0) rfl
    have s1 := cell_of hs (i := 1) rfl
    have B9 := Lib.hid ((Below.setCell (p := ⟨w.heap.size, 0, none⟩) BX.out (Nat.le_refl _) (.int .i64 y)).setCell (p := ⟨w.heap.size, 1, none⟩) (Nat.le_refl _) (.int .i64 z))
    generalize ((w5.setCell ⟨w.heap.size, 0, none⟩ (.int .i64 y)).setCell ⟨w.heap.size, 1, none⟩ (.int .i64 z)) = w9 at *
    exact bodyPost_ret (v := .agg #[.int .i64 y, .int .i64 z]) (by simp [results, Try.results38, go_sem, s0, s1]) rfl ⟨by rw [HY.out, HZ.out], B9.out⟩
theorem wtE_or {n : Nat} {L W H : Nat → Int} {x : Int} : wtE n L W H x = if orE (fvE n L W H) (spanE x 1 1000000) = 0 then fullE (volZ L W H n) 1000000000000 else orE (fvE n L W H) (spanE x 1 1000000) := by
  unfold wtE orE spanE
  by_cases h1 : fvE n L W H = 0
  · rw [if_pos h1, if_pos h1]
    by_cases h2 : inB x 1 1000000 = true
    · simp [h2]
    · simp [h2]
  · simp [h1]
set_option maxHeartbeats 1000000 in
theorem weightFault_any (a : Option Addr) (n c : Nat) (L W H : Nat → Int) (x : Int) (w : World) (hn : n ≤ 100) (hp : BeadsR w a n L W H) :
    Calls Try.prog 33 #[.slice a n c, .int .i64 x] w fun e w' => e = .returned (.int .i64 (wtE n L W H x)) ∧ Below w.heap.size w w' := by
  have HP := Lib.hid hp
  clear hp
  go_enter Try.func33, Try.ntmps33
  go_wp2_with (fail)
  refine (fedFault_any a n c L W H _ (by omega) HP.out).mono ?_
  rintro e w1 ⟨rfl, hb1⟩
  have B1 := Lib.hid hb1
  replace HP := Lib.hid (HP.out.kept hb1)
  clear hb1
  go_wp2_with (go_at_call 31; refine (spanFault_any _ _ _ _).mono ?_; rintro e w' ⟨rfl, rfl⟩)
  refine (or_any _ _ _ _ rfl).mono ?_
  rintro e w2 ⟨rfl, hw2⟩
  have B2 := Lib.hid (show Below w.heap.size w w2 from hw2 ▸ B1.out.alloc B1.out.size _)
  replace HP := Lib.hid (HP.out.kept (w' := w2) (hw2 ▸ (Below.refl _ w1).alloc (Nat.le_refl _) _))
  clear hw2 B1
  have RR := Lib.hid (wtE_or (n := n) (L := L) (W := W) (H := H) (x := x))
  have HOK := Lib.hid (show orE (fvE n L W H) (spanE x 1 1000000) = 0 → BdOk n L W H from fun h => by
    unfold orE at h
    split at h
    · rename_i h1; exact (bdE_ok (fvE_ok h1).1).2
    · rename_i h1; exact absurd h h1)
  generalize orE (fvE n L W H) (spanE x 1 1000000) = o at *
  by_cases hz : o = 0
  · have OK := Lib.hid (HOK.out hz)
    subst hz
    have R := Lib.hid (show wtE n L W H x = fullE (volZ L W H n) 1000000000000 by rw [RR.out, if_pos rfl])
    go_wp2_with (fail)
    refine (fullFault_any a n c L W H _ _ (by omega) HP.out OK.out).mono ?_
    rintro e w3 ⟨rfl, hb3⟩
    have B3 := Lib.hid (B2.out.trans (hb3.mono B2.out.size))
    clear hb3
    go_wp2_with (fail)
    go_ret
    exact ⟨ret_int R.out.symm, B3.out⟩
  · have R := Lib.hid (show wtE n L W H x = o by rw [RR.out, if_neg hz])
    have hz' : (o != 0) = true := by simpa using hz
    clear hz
    go_wp2_with (fail)
    go_ret
    exact ⟨ret_int R.out.symm, B2.out⟩
end Go.Proofs.Ytddnimbalfaieaa

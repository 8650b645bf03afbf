/- Legs and numbers: copies, and turned round. -/
import Derived.Test.YtdanlnmdkneepaaYi
import Derived.Test.YtdanlnmdkneepaaVg
set_option linter.unusedSimpArgs false
set_option linter.unusedVariables false
namespace Go.Proofs.Ytdanlnmdkneepaa
open Go.RowKit

theorem info_leg : (Try.prog.info? 83).map (fun i => (i.zero, i.size, i.bytes)) = some (some (.agg #[.int .i64 0, .int .i64 0]), 2, 16) := by kernel_rfl
def LegsPost (w : World) (n : Nat) (X Y : Nat → Int) (e : Ending) (w' : World) : Prop := ∃ a c, e = .returned (.slice a n c) ∧ w'.ownsRow w.heap.size 83 2 (.slice a n c) n (cells2 X Y n) ∧ Below w.heap.size w w'
set_option maxRecDepth 100000 in
set_option maxHeartbeats 8000000 in
theorem cloneL (b off n c : Nat) (X Y : Nat → Int) (w : World) (hb : b < w.heap.size) (h : Du w b off n X Y) (h0 : 0 < n) (hn : n ≤ 1000000) :
    Calls Try.prog 99 #[.slice (some ⟨b, off, none⟩) n c] w (LegsPost w n X Y) := by
  obtain ⟨i0, hi0, hz0, hz1, hz2⟩ := info_parts info_leg
  have q22 := fun (w : World) (a : Option Addr) (n c n' c' : Nat) => Lib.run_eql_slice_nil (P := Try.prog) w _ _ a n c n' c' Try.underlying64
  have HT := Lib.hid h
  clear h
  go_enter Try.func99, Try.ntmps99
  go_wp2_with (at_builtin; refine wpList_append_lies _ rfl _ _ 64 rfl w.heap.size 83 i0 (.agg #[.int .i64 0, .int .i64 0]) 2 16 Try.underlying64 hi0 hz0 hz1 hz2 rfl (by decide) _ _ _ rfl (World.ownsRow_made w #[] 0 (Nat.le_refl _) (by unfold maxLen; omega) rfl) ⟨b, off, none⟩ n c (cells2 X Y n) rfl (cells2_length X Y n) (du_news (HT.out.kept ((Below.refl _ w).alloc (Nat.le_refl _) _) hb)) (cells2_one X Y n) (by omega) (by unfold maxLen; omega) (by omega) (by simp) (w.heap.size + 1) (by simp) ?_; intro g cap' w' hown hgrow _ _; have HO := Lib.hid hown; have HG := Lib.hid (Below.grown ((Below.refl _ w).alloc (Nat.le_refl _) (.cells #[] 83)) hgrow (by simp) (fun b hb => by cases hb; exact Nat.le_refl _)); clear hown hgrow)
  go_ret
  have ho := HO.out
  simp only [Nat.zero_add, List.nil_append] at ho
  exact ⟨_, _, by (simp only [Nat.zero_add]; rfl), ho, HG.out⟩
set_option maxRecDepth 100000 in
set_option maxHeartbeats 8000000 in
theorem reverseL (base g n c : Nat) (X Y : Nat → Int) (w : World) (hn : n ≤ 1000) (h0 : 0 < n) (ho : w.ownsRow base 83 2 (.slice (some ⟨g, 0, none⟩) n c) n (cells2 X Y n)) (hgl : g < w.heap.size) :
    Calls Try.prog 100 #[.slice (some ⟨g, 0, none⟩) n c] w fun e w' => e = .returned (.tuple #[]) ∧ w'.ownsRow base 83 2 (.slice (some ⟨g, 0, none⟩) n c) n (cells2 (rv n X) (rv n Y) n) ∧ Mut (· = g) w w' := by
  have HO := Lib.hid ho
  clear ho
  have hw1 : IntKind.i64.wrap ((n : Int) - 1) = (n : Int) - 1 := by rw [IntKind.wrap_i64]; omega
  go_enter Try.func100, Try.ntmps100
  go_wp2_with (fail)
  go_loopw [2, 3] (fun i jv wr => ∃ (t : Nat) (J : Int), i = .int .i64 t ∧ jv = .int .i64 J ∧ 2 * t ≤ n ∧ J ≤ (n : Int) - 1 - t ∧ (n : Int) - 1 - t ≤ J ∧ wr.ownsRow base 83 2 (.slice (some ⟨g, 0, none⟩) n c) n (cells2 (rvT n t X) (rvT n t Y) n) ∧ Mut (· = g) w wr) (fun i _ _ => n - (intOf i).toNat)
  case atStart => exact ⟨0, _, rfl, rfl, by omega, by omega, by omega, by rw [cells2_ext (X' := X) (Y' := Y) (fun i hi => by unfold rvT; constructor <;> rw [if_neg (by omega)])]; exact HO.out, Mut.refl _ _⟩
  case round =>
    obtain ⟨t, J, rfl, rfl, ht, hJ1, hJ2, hown, hmt⟩ := hrel
    clear HO
    have HW := Lib.hid hown
    have HM := Lib.hid hmt
    have hszm := hmt.size
    clear hmt
    obtain ⟨j, rfl⟩ := Int.eq_ofNat_of_zero_le (show 0 ≤ J by omega)
    have hjn : j = n - 1 - t := by omega
    by_cases hlt : 2 * t + 1 < n
    · have cs : ∀ i u, i < n → u < 2 → wr.cell? ⟨g, i * 2 + u, none⟩ = some (.int .i64 (p2 (rvT n t X) (rvT n t Y) i u)) := fun i u hi hu => by
        rw [hown.cellAt (i * 2 + u) (by omega)]
        exact cells2_get _ _ n i u hi hu
      have fz := fun i => hown.frozenAt i
      have ct0 := cs t 0 (by omega) (by omega)
      have ct1 := cs t 1 (by omega) (by omega)
      have cj0 := cs j 0 (by omega) (by omega)
      have cj1 := cs j 1 (by omega) (by omega)
      have et : ∀ Z : Nat → Int, rvT n t Z t = Z t := fun Z => by unfold rvT; rw [if_neg (by omega)]
      have ej : ∀ Z : Nat → Int, rvT n t Z j = Z j := fun Z => by unfold rvT; rw [if_neg (by omega)]
      simp only [p2, if_true, et, ej, Nat.add_zero, if_neg (show ¬ (1 : Nat) = 0 by omega)] at ct0 ct1 cj0 cj1
      have f0 := fz (t * 2)
      have f1 := fz (t * 2 + 1)
      have f2 := fz (j * 2)
      have f3 := fz (j * 2 + 1)
      have hlj : t < j := by omega
      have hli : (t : Int) < (j : Int) := by omega
      have hti : (t : Int) < (n : Int) := by omega
      have hji : (j : Int) < (n : Int) := by omega
      have hgw : g < wr.heap.size := by omega
      have HJN := Lib.hid hjn
      have HLT := Lib.hid hlt
      clear cs fz hown et ej hjn hlt
      go_wp2_with (fail)
      go_region
      all_goals
        go_wp2
        go_roundw
        case rel =>
          have O := own_set1 (o := j * 2 + 1) (u := .int .i64 (Y t)) (own_set1 (o := j * 2) (u := .int .i64 (X t)) (own_set1 (o := t * 2 + 1) (u := .int .i64 (Y j)) (own_set1 (o := t * 2) (u := .int .i64 (X j)) HW.out)))
          rw [cells2_set (by omega), cells2_set (by have := HJN.out; omega)] at O
          have hJN := HJN.out
          have hLT := HLT.out
          subst hJN
          rw [cells2_ext (fun i hi => ⟨rvT_step (X := X) hLT i hi, rvT_step (X := Y) hLT i hi⟩)] at O
          exact ⟨t + 1, _, by go_num, rfl, by omega, by omega, by omega, own_drew O, ((((HM.out.setCell (fun _ => rfl) _).setCell (fun _ => rfl) _).setCell (fun _ => rfl) _).setCell (fun _ => rfl) _).drew⟩
        case measure => simp [intOf]; omega
    · go_wp2_with (fail)
      go_end0
      exact ⟨rfl, by rw [← cells2_ext (fun i hi => ⟨rvT_end (X := X) hlt i hi, rvT_end (X := Y) hlt i hi⟩)]; exact HW.out, HM.out⟩
theorem vs_oneC (X : Nat → Int) (n : Nat) : ∀ u ∈ vs X n, u.oneCell' = true := by
  intro u hu
  simp only [vs, List.mem_map] at hu
  obtain ⟨i, _, rfl⟩ := hu
  rfl
theorem vs_news {w : World} {b off n : Nat} {X : Nat → Int} (h : ∀ i, i < n → w.cell? ⟨b, off + i, none⟩ = some (.int .i64 (X i))) : ∀ j u, (vs X n)[j]? = some u → w.cell? ((⟨b, off, none⟩ : Addr).add j) = some u := by
  intro j u hu
  have hj : j < n := by
    have := (List.getElem?_eq_some_iff.1 hu).1
    simpa [vs] using this
  rw [vs_get X n j hj] at hu
  rw [Addr.add_lit, h j hj, hu]
def IntsPost (w : World) (n : Nat) (X : Nat → Int) (e : Ending) (w' : World) : Prop := ∃ a c, e = .returned (.slice a n c) ∧ w'.ownsRow w.heap.size 3 1 (.slice a n c) n (vs X n) ∧ Below w.heap.size w w'
set_option maxRecDepth 100000 in
set_option maxHeartbeats 8000000 in
theorem cloneI (b off n c : Nat) (X : Nat → Int) (w : World) (hb : b < w.heap.size) (h : ∀ i, i < n → w.cell? ⟨b, off + i, none⟩ = some (.int .i64 (X i))) (h0 : 0 < n) (hn : n ≤ 1000000) :
    Calls Try.prog 78 #[.slice (some ⟨b, off, none⟩) n c] w (IntsPost w n X) := by
  obtain ⟨i0, hi0, hz0, hz1, hz2⟩ := info_parts info_intV
  have q22 := fun (w : World) (a : Option Addr) (n c n' c' : Nat) => Lib.run_eql_slice_nil (P := Try.prog) w _ _ a n c n' c' Try.underlying22
  have HT := Lib.hid h
  clear h
  go_enter Try.func78, Try.ntmps78
  go_wp2_with (at_builtin; refine wpList_append_lies _ rfl _ _ 22 rfl w.heap.size 3 i0 (.int .i64 0) 1 8 Try.underlying22 hi0 hz0 hz1 hz2 rfl (by decide) _ _ _ rfl (World.ownsRow_made w #[] 0 (Nat.le_refl _) (by unfold maxLen; omega) rfl) ⟨b, off, none⟩ n c (vs X n) rfl ((by simp [vs])) (vs_news (fun i hi => cellk ((Below.refl _ w).alloc (Nat.le_refl _) _) hb (HT.out i hi))) (vs_oneC X n) (by omega) (by unfold maxLen; omega) (by omega) (by simp) (w.heap.size + 1) (by simp) ?_; intro g cap' w' hown hgrow _ _; have HO := Lib.hid hown; have HG := Lib.hid (Below.grown ((Below.refl _ w).alloc (Nat.le_refl _) (.cells #[] 3)) hgrow (by simp) (fun b hb => by cases hb; exact Nat.le_refl _)); clear hown hgrow)
  go_ret
  have ho := HO.out
  simp only [Nat.zero_add, List.nil_append] at ho
  exact ⟨_, _, by (simp only [Nat.zero_add]; rfl), ho, HG.out⟩
theorem vs_set {X : Nat → Int} {i : Nat} {x : Int} {n : Nat} (h : i < n) : (vs X n).set i (.int .i64 x) = vs (upd X i x) n := by
  apply List.ext_getElem?
  intro j
  rw [List.getElem?_set]
  by_cases hj : j < n
  · rw [vs_get _ n j hj, vs_get _ n j hj, vs_length]
    unfold upd
    by_cases e : i = j
    · subst e; simp [h]
    · rw [if_neg e, if_neg (fun h => e h.symm)]
  · rw [List.getElem?_eq_none (by rw [vs_length]; omega), List.getElem?_eq_none (by rw [vs_length]; omega), if_neg (by omega)]
set_option maxRecDepth 100000 in
set_option maxHeartbeats 8000000 in
theorem reverseI (base g n c : Nat) (X : Nat → Int) (w : World) (hn : n ≤ 1000) (h0 : 0 < n) (ho : w.ownsRow base 3 1 (.slice (some ⟨g, 0, none⟩) n c) n (vs X n)) (hgl : g < w.heap.size) :
    Calls Try.prog 101 #[.slice (some ⟨g, 0, none⟩) n c] w fun e w' => e = .returned (.tuple #[]) ∧ w'.ownsRow base 3 1 (.slice (some ⟨g, 0, none⟩) n c) n (vs (rv n X) n) ∧ Mut (· = g) w w' := by
  have HO := Lib.hid ho
  clear ho
  have hw1 : IntKind.i64.wrap ((n : Int) - 1) = (n : Int) - 1 := by rw [IntKind.wrap_i64]; omega
  go_enter Try.func101, Try.ntmps101
  go_wp2_with (fail)
  go_loopw [2, 3] (fun i jv wr => ∃ (t : Nat) (J : Int), i = .int .i64 t ∧ jv = .int .i64 J ∧ 2 * t ≤ n ∧ J ≤ (n : Int) - 1 - t ∧ (n : Int) - 1 - t ≤ J ∧ wr.ownsRow base 3 1 (.slice (some ⟨g, 0, none⟩) n c) n (vs (rvT n t X) n) ∧ Mut (· = g) w wr) (fun i _ _ => n - (intOf i).toNat)
  case atStart => exact ⟨0, _, rfl, rfl, by omega, by omega, by omega, by rw [vs_ext (u := rvT n 0 X) (v := X) (fun i hi => by unfold rvT; rw [if_neg (by omega)])]; exact HO.out, Mut.refl _ _⟩
  case round =>
    obtain ⟨t, J, rfl, rfl, ht, hJ1, hJ2, hown, hmt⟩ := hrel
    clear HO
    have HW := Lib.hid hown
    have HM := Lib.hid hmt
    have hszm := hmt.size
    clear hmt
    obtain ⟨j, rfl⟩ := Int.eq_ofNat_of_zero_le (show 0 ≤ J by omega)
    have hjn : j = n - 1 - t := by omega
    by_cases hlt : 2 * t + 1 < n
    · have cs : ∀ i, i < n → wr.cell? ⟨g, i, none⟩ = some (.int .i64 (rvT n t X i)) := fun i hi => by
        rw [hown.cellAt i (by omega)]
        exact vs_get _ n i hi
      have fz := fun i => hown.frozenAt i
      have ct0 := cs t (by omega)
      have cj0 := cs j (by omega)
      have et : rvT n t X t = X t := by unfold rvT; rw [if_neg (by omega)]
      have ej : rvT n t X j = X j := by unfold rvT; rw [if_neg (by omega)]
      rw [et] at ct0
      rw [ej] at cj0
      have f0 := fz t
      have f2 := fz j
      have hlj : t < j := by omega
      have hli : (t : Int) < (j : Int) := by omega
      have hti : (t : Int) < (n : Int) := by omega
      have hji : (j : Int) < (n : Int) := by omega
      have hgw : g < wr.heap.size := by omega
      have HJN := Lib.hid hjn
      have HLT := Lib.hid hlt
      clear cs fz hown et ej hjn hlt
      go_wp2_with (fail)
      go_region
      all_goals
        go_wp2
        go_roundw
        case rel =>
          have O := own_set1 (o := j) (u := .int .i64 (X t)) (own_set1 (o := t) (u := .int .i64 (X j)) HW.out)
          rw [vs_set (by omega), vs_set (by have := HJN.out; omega)] at O
          have hJN := HJN.out
          have hLT := HLT.out
          subst hJN
          rw [vs_ext (fun i hi => rvT_step (X := X) hLT i hi)] at O
          exact ⟨t + 1, _, by go_num, rfl, by omega, by omega, by omega, own_drew O, ((HM.out.setCell (fun _ => rfl) _).setCell (fun _ => rfl) _).drew⟩
        case measure => simp [intOf]; omega
    · go_wp2_with (fail)
      go_end0
      exact ⟨rfl, by rw [← vs_ext (fun i hi => rvT_end (X := X) hlt i hi)]; exact HW.out, HM.out⟩
end Go.Proofs.Ytdanlnmdkneepaa

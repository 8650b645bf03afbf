/- Drawn meshes that are right. -/
import Derived.Test.YtmcebhjcaacbpaaWo2
import Derived.Deep.Cut
set_option linter.unusedSimpArgs false
set_option linter.unusedVariables false
namespace Go.Proofs.Ytmcebhjcaacbpaa
open Go.RowKit
theorem rowx_ne {w : World} {B r n : Nat} {a : Option Addr} {V : Nat → V3} {t : TypeId} {p q : Option Addr} {i j k l : Nat} (h : RowX w B a n V) (hr : w.heap[r]? = some (.cells #[.slice p i j, .slice q k l] t (0, 0))) : n = 0 ∨ ∃ b off, a = some ⟨b, off, none⟩ ∧ B < b ∧ b < w.heap.size ∧ Tri w b off n V ∧ b ≠ r := by
  rcases h with h | ⟨b, off, h1, h2, h3, h4⟩
  · exact .inl h
  · rcases Nat.eq_zero_or_pos n with h0 | h0
    · exact .inl h0
    · refine .inr ⟨b, off, h1, h2, h3, h4, fun e => ?_⟩
      subst e
      have c0 := (h4 0 h0).1
      simp [World.cell?, hr] at c0
      match off, c0 with
      | 0, c0 => simp at c0
      | 1, c0 => simp at c0
      | off + 2, c0 => simp at c0
theorem RowX.set {w w' : World} {B r n : Nat} {a : Option Addr} {V : Nat → V3} {t : TypeId} {p q : Option Addr} {i j k l : Nat} (h : RowX w B a n V) (hr : w.heap[r]? = some (.cells #[.slice p i j, .slice q k l] t (0, 0))) (hm : Mut (· = r) w w') : RowX w' B a n V := by
  rcases rowx_ne h hr with h | ⟨b, off, h1, h2, h3, h4, h5⟩
  · exact .inl h
  · refine .inr ⟨b, off, h1, h2, Nat.lt_of_lt_of_le h3 hm.size, fun i hi => ?_⟩
    obtain ⟨c0, c1, c2⟩ := h4 i hi
    have e := fun o => hm.cell (p := ⟨b, o, none⟩) h3 (by simpa using h5)
    exact ⟨(e _).trans c0, (e _).trans c1, (e _).trans c2⟩
theorem RowX.kept {w w' : World} {B n : Nat} {a : Option Addr} {V : Nat → V3} (h : RowX w B a n V) (hb : Below w.heap.size w w') : RowX w' B a n V := by
  rcases h with h | ⟨b, off, h1, h2, h3, h4⟩
  · exact .inl h
  · exact .inr ⟨b, off, h1, h2, Nat.lt_of_lt_of_le h3 hb.size, h4.kept hb h3⟩
theorem StrmO.below {w w' : World} {B k : Nat} (h : Strm w B k) (hb : Below w.heap.size w w') : Strm w' B k :=
  h.kept (S := fun _ => False) ⟨hb.os, hb.tape, hb.output, hb.size, fun k hk _ => hb.block k hk⟩ (fun _ _ h => h)
def tV (i : Nat) : V3 := [⟨0, 0, 0⟩, ⟨6, 0, 0⟩, ⟨0, 6, 0⟩, (⟨0, 0, 6⟩ : V3)].getD i ⟨0, 0, 0⟩
def tF (i : Nat) : V3 := [⟨0, 2, 1⟩, ⟨0, 1, 3⟩, ⟨1, 2, 3⟩, (⟨0, 3, 2⟩ : V3)].getD i ⟨0, 0, 0⟩
theorem tet_ok : fault 4 tV 4 tF = 0 := by kernel_rfl
theorem tri_of12 {w : World} {b : Nat} {t : TypeId} {x0 x1 x2 x3 x4 x5 x6 x7 x8 x9 x10 x11 : Int} {V : Nat → V3} (h : w.heap[b]? = some (.cells #[.int .i64 x0, .int .i64 x1, .int .i64 x2, .int .i64 x3, .int .i64 x4, .int .i64 x5, .int .i64 x6, .int .i64 x7, .int .i64 x8, .int .i64 x9, .int .i64 x10, .int .i64 x11] t (0, 0)))
    (h0 : V 0 = ⟨x0, x1, x2⟩) (h1 : V 1 = ⟨x3, x4, x5⟩) (h2 : V 2 = ⟨x6, x7, x8⟩) (h3 : V 3 = ⟨x9, x10, x11⟩) : Tri w b 0 4 V := by
  intro i hi
  have hi' : i = 0 ∨ i = 1 ∨ i = 2 ∨ i = 3 := by omega
  rcases hi' with rfl | rfl | rfl | rfl
  · rw [h0]; exact ⟨cell_of h rfl, cell_of h rfl, cell_of h rfl⟩
  · rw [h1]; exact ⟨cell_of h rfl, cell_of h rfl, cell_of h rfl⟩
  · rw [h2]; exact ⟨cell_of h rfl, cell_of h rfl, cell_of h rfl⟩
  · rw [h3]; exact ⟨cell_of h rfl, cell_of h rfl, cell_of h rfl⟩
set_option maxHeartbeats 1000000 in
theorem tetra_six (B : Nat) (w : World) (hB : B < w.heap.size) :
    Calls Try.prog 16 #[.agg #[.int .i64 0, .int .i64 0, .int .i64 0], .int .i64 6] w fun e w' => ∃ av af, e = .returned (.agg #[.slice av 4 4, .slice af 4 4]) ∧ RowX w' B av 4 tV ∧ RowX w' B af 4 tF ∧ Below w.heap.size w w' := by
  go_enter Try.func16, Try.ntmps16
  go_wp2
  exact bodyPost_ret (v := .agg #[.slice (some ⟨w.heap.size + 1 + 1, 0, none⟩) 4 4, .slice (some ⟨w.heap.size + 1 + 1 + 1, 0, none⟩) 4 4]) (by simp [results, Try.results16, go_sem]) rfl ⟨_, _, rfl, .inr ⟨w.heap.size + 1 + 1, 0, rfl, by omega, by simp <;> omega, tri_of12 (x0 := 0) (x1 := 0) (x2 := 0) (x3 := 6) (x4 := 0) (x5 := 0) (x6 := 0) (x7 := 6) (x8 := 0) (x9 := 0) (x10 := 0) (x11 := 6) (by repeat (first | (refine heap_new ?_; first | rfl | (simp; done)) | rw [Below.heap_setCell _ _ _ _ (by simp <;> omega)] | rw [Below.heap_alloc _ _ _ (by simp <;> omega)])) rfl rfl rfl rfl⟩, .inr ⟨w.heap.size + 1 + 1 + 1, 0, rfl, by omega, by simp, tri_of12 (x0 := 0) (x1 := 2) (x2 := 1) (x3 := 0) (x4 := 1) (x5 := 3) (x6 := 1) (x7 := 2) (x8 := 3) (x9 := 0) (x10 := 3) (x11 := 2) (by repeat (first | (refine heap_new ?_; first | rfl | (simp; done)) | rw [Below.heap_setCell _ _ _ _ (by simp <;> omega)] | rw [Below.heap_alloc _ _ _ (by simp <;> omega)])) rfl rfl rfl rfl⟩, (by repeat (first | exact Below.refl _ _ | assumption | refine Below.drew ?_ | refine bdrewN ?_ _ | refine Below.setCell ?_ (by first | omega | (simp <;> omega)) _ | refine Below.alloc ?_ (by first | omega | (simp <;> omega)) _))⟩
def RMesh (w : World) (B k : Nat) (e : Ending) (w' : World) : Prop :=
  ∃ av cv af cf nv nf V F, e = .returned (.agg #[.slice av nv cv, .slice af nf cf]) ∧ RowX w' B av nv V ∧ RowX w' B af nf F ∧ nv ≤ 100 ∧ nf ≤ 100 ∧ fault nv V nf F = 0 ∧ Strm w' B k ∧ Mut (· = B) w w'
set_option maxRecDepth 100000 in
set_option maxHeartbeats 8000000 in
theorem rightMesh_any (B k : Nat) (w : World) (hs : Strm w B k) (hk : k + 1000 ≤ 1000000) :
    Calls Try.prog 5 #[.pointer (some ⟨B, 0, none⟩)] w (RMesh w B (k + 800)) := by
  have hB := hs.lt
  have HS := Lib.hid (hs.alloc (.cells #[.slice none 0 0, .slice none 0 0] 29))
  have HR := Lib.hid (heap_alloc_new w (.cells #[.slice none 0 0, .slice none 0 0] 29))
  have HM := Lib.hid (show Mut (· = B) w (w.alloc (.cells #[.slice none 0 0, .slice none 0 0] 29)) from (Mut.refl _ w).alloc _)
  clear hs
  go_enter Try.func5, Try.ntmps5
  go_upto_region 1 with (fail)
  generalize (w.alloc (.cells #[.slice none 0 0, .slice none 0 0] 29)) = w0 at *
  obtain ⟨r, hr⟩ : ∃ r, w.heap.size = r := ⟨_, rfl⟩
  rw [hr] at HR hB
  try rw [hr]
  have HRW := Lib.hid hr
  clear hr
  go_wp2_with (fail)
  go_loopw [4] (fun i wr => ∃ j : Nat, j ≤ 8 ∧ i = .int .i64 j ∧ Strm wr B (k + 100 * j) ∧ Mut (· = B) w wr ∧ wr.heap[r]? = some (.cells #[.slice none 0 0, .slice none 0 0] 29 (0, 0))) (fun i _ => 8 - (intOf i).toNat)
  case atStart => exact ⟨0, by omega, rfl, HS.out, HM.out, HR.out⟩
  case round =>
    obtain ⟨j, hj, rfl, hst, hmt, hrr⟩ := hrel
    have HSj := Lib.hid hst
    have HMj := Lib.hid hmt
    have HRj := Lib.hid hrr
    clear hst hmt hrr HS HM HR
    by_cases hlt : j < 8
    · go_wp2_with (fail)
      refine (amesh_any B _ wr HSj.out (by omega)).mono ?_
      rintro e w1 ⟨av, cv, af, cf, nv, nf, V, F, rfl, hv, hf, hnv, hnf, hst, hmt⟩
      have HV := Lib.hid hv
      have HF := Lib.hid hf
      have HS1 := Lib.hid hst
      have HM1 := Lib.hid (HMj.out.trans hmt)
      have HR1 := Lib.hid ((hmt.block r (lt_of_heap HRj.out) (by omega)).trans HRj.out)
      have HW1 := Lib.hid hmt.size
      clear hv hf hst hmt
      go_upto_region 4 with (fail)
      have hb : Below w1.heap.size w1 (w1.alloc (.cells #[.slice av nv cv, .slice af nf cf] 29)) := (Below.refl _ _).alloc (Nat.le_refl _) _
      have HC := Lib.hid (heap_alloc_new w1 (.cells #[.slice av nv cv, .slice af nf cf] 29))
      replace HV := Lib.hid (HV.out.kept hb)
      replace HF := Lib.hid (HF.out.kept hb)
      replace HS1 := Lib.hid (StrmO.below HS1.out hb)
      replace HM1 := Lib.hid (HM1.out.below hb)
      have hr1 := lt_of_heap HR1.out
      replace HR1 := Lib.hid (heap_keep hb HR1.out)
      clear hb
      generalize (w1.alloc (.cells #[.slice av nv cv, .slice af nf cf] 29)) = w2 at *
      obtain ⟨q, hq⟩ : ∃ q, w1.heap.size = q := ⟨_, rfl⟩
      rw [hq] at HC hr1
      try rw [hq]
      clear hq
      have m0 : w2.cell? ⟨q, 0, none⟩ = some (.slice av nv cv) := cell_of HC.out (i := 0) rfl
      have m1 : w2.cell? ⟨q, 1, none⟩ = some (.slice af nf cf) := cell_of HC.out (i := 1) rfl
      go_wp2_with (fail)
      refine (meshFault_any av af nv cv nf cf V F w2 HV.out.row3 HF.out.row3 (by omega) (by omega)).mono ?_
      rintro e w3 ⟨rfl, hb⟩
      replace HC := Lib.hid (heap_keep hb HC.out)
      replace HV := Lib.hid (HV.out.kept hb)
      replace HF := Lib.hid (HF.out.kept hb)
      replace HS1 := Lib.hid (StrmO.below HS1.out hb)
      replace HM1 := Lib.hid (HM1.out.below hb)
      replace HR1 := Lib.hid (heap_keep hb HR1.out)
      clear hb m0 m1
      by_cases hz : fault nv V nf F = 0
      · have HZ := Lib.hid hz
        have hz' : (fault nv V nf F == 0) = true := by simpa using hz
        clear hz
        have m0 : w3.cell? ⟨q, 0, none⟩ = some (.slice av nv cv) := cell_of HC.out (i := 0) rfl
        have m1 : w3.cell? ⟨q, 1, none⟩ = some (.slice af nf cf) := cell_of HC.out (i := 1) rfl
        have r0 : w3.cell? ⟨r, 0, none⟩ = some (.slice none 0 0) := cell_of HR1.out (i := 0) rfl
        have r1 : w3.cell? ⟨r, 1, none⟩ = some (.slice none 0 0) := cell_of HR1.out (i := 1) rfl
        have f0 : w3.frozen? ⟨r, 0, none⟩ = false := frozen_of HR1.out
        have f1 : w3.frozen? ⟨r, 1, none⟩ = false := frozen_of HR1.out
        go_wp2_with (fail)
        have HR2 := Lib.hid (set2_1 (u := .slice af nf cf) (set2_0 (u := .slice av nv cv) HR1.out))
        have hmr : Mut (· = r) w3 ((w3.setCell ⟨r, 0, none⟩ (.slice av nv cv)).setCell ⟨r, 1, none⟩ (.slice af nf cf)) := ((Mut.refl (· = r) _).setCell (p := ⟨r, 0, none⟩) (fun _ => rfl) _).setCell (p := ⟨r, 1, none⟩) (fun _ => rfl) _
        have HV2 := Lib.hid (HV.out.set HR1.out hmr)
        have HF2 := Lib.hid (HF.out.set HR1.out hmr)
        have HS2 := Lib.hid (HS1.out.kept hmr (fun x hx e => by have e' : x = r := e; omega))
        have HM2 := Lib.hid (show Mut (· = B) w ((w3.setCell ⟨r, 0, none⟩ (.slice av nv cv)).setCell ⟨r, 1, none⟩ (.slice af nf cf)) from (HM1.out.setCell (p := ⟨r, 0, none⟩) (fun h => absurd h (by have := HRW.out; show ¬ r < w.heap.size; omega)) _).setCell (p := ⟨r, 1, none⟩) (fun h => absurd h (by have := HRW.out; show ¬ r < w.heap.size; omega)) _)
        clear hmr m0 m1 r0 r1 f0 f1
        generalize ((w3.setCell ⟨r, 0, none⟩ (.slice av nv cv)).setCell ⟨r, 1, none⟩ (.slice af nf cf)) = w4 at *
        have r0 : w4.cell? ⟨r, 0, none⟩ = some (.slice av nv cv) := cell_of HR2.out (i := 0) rfl
        have r1 : w4.cell? ⟨r, 1, none⟩ = some (.slice af nf cf) := cell_of HR2.out (i := 1) rfl
        exact bodyPost_ret (v := .agg #[.slice av nv cv, .slice af nf cf]) (by simp [results, Try.results5, go_sem, r0, r1]) rfl ⟨av, cv, af, cf, nv, nf, V, F, rfl, HV2.out, HF2.out, hnv, hnf, HZ.out, HS2.out.more (by omega) (by omega), HM2.out⟩
      · have hz' : (fault nv V nf F == 0) = false := by simpa using hz
        clear hz
        go_wp2_with (fail)
        go_roundw
        case rel => exact ⟨j + 1, by omega, by go_num, HS1.out.more (by omega) (by omega), HM1.out, HR1.out⟩
        case measure => simp [intOf] <;> omega
    · obtain rfl : j = 8 := by omega
      have hBr : B < wr.heap.size := HSj.out.lt
      go_wp2_with (fail)
      refine (tetra_six B wr hBr).mono ?_
      rintro e w1 ⟨av, af, rfl, hv, hf, hb⟩
      have HV := Lib.hid hv
      have HF := Lib.hid hf
      replace HSj := Lib.hid (StrmO.below HSj.out hb)
      replace HMj := Lib.hid (HMj.out.below hb)
      replace HRj := Lib.hid (heap_keep hb HRj.out)
      clear hv hf hb
      have r0 : w1.cell? ⟨r, 0, none⟩ = some (.slice none 0 0) := cell_of HRj.out (i := 0) rfl
      have r1 : w1.cell? ⟨r, 1, none⟩ = some (.slice none 0 0) := cell_of HRj.out (i := 1) rfl
      have f0 : w1.frozen? ⟨r, 0, none⟩ = false := frozen_of HRj.out
      have f1 : w1.frozen? ⟨r, 1, none⟩ = false := frozen_of HRj.out
      go_wp2_with (fail)
      have HR2 := Lib.hid (set2_1 (u := .slice af 4 4) (set2_0 (u := .slice av 4 4) HRj.out))
      have hmr : Mut (· = r) w1 ((w1.setCell ⟨r, 0, none⟩ (.slice av 4 4)).setCell ⟨r, 1, none⟩ (.slice af 4 4)) := ((Mut.refl (· = r) _).setCell (p := ⟨r, 0, none⟩) (fun _ => rfl) _).setCell (p := ⟨r, 1, none⟩) (fun _ => rfl) _
      have HV2 := Lib.hid (HV.out.set HRj.out hmr)
      have HF2 := Lib.hid (HF.out.set HRj.out hmr)
      have HS2 := Lib.hid (HSj.out.kept hmr (fun x hx e => by have e' : x = r := e; omega))
      have HM2 := Lib.hid (show Mut (· = B) w ((w1.setCell ⟨r, 0, none⟩ (.slice av 4 4)).setCell ⟨r, 1, none⟩ (.slice af 4 4)) from (HMj.out.setCell (p := ⟨r, 0, none⟩) (fun h => absurd h (by have := HRW.out; show ¬ r < w.heap.size; omega)) _).setCell (p := ⟨r, 1, none⟩) (fun h => absurd h (by have := HRW.out; show ¬ r < w.heap.size; omega)) _)
      clear hmr r0 r1 f0 f1
      generalize ((w1.setCell ⟨r, 0, none⟩ (.slice av 4 4)).setCell ⟨r, 1, none⟩ (.slice af 4 4)) = w4 at *
      have r0 : w4.cell? ⟨r, 0, none⟩ = some (.slice av 4 4) := cell_of HR2.out (i := 0) rfl
      have r1 : w4.cell? ⟨r, 1, none⟩ = some (.slice af 4 4) := cell_of HR2.out (i := 1) rfl
      exact bodyPost_ret (v := .agg #[.slice av 4 4, .slice af 4 4]) (by simp [results, Try.results5, go_sem, r0, r1]) rfl ⟨av, 4, af, 4, 4, 4, tV, tF, rfl, HV2.out, HF2.out, by omega, by omega, tet_ok, HS2.out.more (by omega) (by omega), HM2.out⟩
end Go.Proofs.Ytmcebhjcaacbpaa

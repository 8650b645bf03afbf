/- Mirrored. -/
import Derived.Test.YtmcebhjcaacbpaaTn
set_option linter.unusedSimpArgs false
set_option linter.unusedVariables false
namespace Go.Proofs.Ytmcebhjcaacbpaa
open Go.RowKit

/-- A face the other way round. -/
def sw (f : V3) : V3 := ⟨f.x, f.z, f.y⟩
/-- The first k faces the other way round. -/
def swk (k : Nat) (F : Nat → V3) (j : Nat) : V3 := if j < k then sw (F j) else F j
theorem cells3_ext {V W : Nat → V3} {n : Nat} (h : ∀ i, i < n → V i = W i) : cells3 V n = cells3 W n := by
  induction n with
  | zero => rfl
  | succ n ih => simp only [cells3]; rw [ih fun i hi => h i (by omega), h n (by omega)]
theorem swk_self (F : Nat → V3) (k : Nat) : swk k F k = F k := by simp [swk]
theorem swk_zero (F : Nat → V3) (n : Nat) : cells3 (swk 0 F) n = cells3 F n := cells3_ext fun i hi => by simp [swk]
theorem swk_all (F : Nat → V3) (n : Nat) : cells3 (swk n F) n = cells3 (fun i => sw (F i)) n := cells3_ext fun i hi => by simp [swk, hi]
theorem cells3_nth (V : Nat → V3) (n j : Nat) (hj : j < n * 3) : (cells3 V n)[j]? = some (.int .i64 (c3 (V (j / 3)) (j % 3))) := by
  have := cells3_get V n (j / 3) (j % 3) (by omega) (by omega)
  rwa [show j / 3 * 3 + j % 3 = j by omega] at this
theorem swk_step (F : Nat → V3) (n k : Nat) (hk : k < n) : (((cells3 (swk k F) n).set (k * 3) (.int .i64 (F k).x)).set (k * 3 + 1) (.int .i64 (F k).z)).set (k * 3 + 2) (.int .i64 (F k).y) = cells3 (swk (k + 1) F) n := by
  apply List.ext_getElem?
  intro j
  have hl := cells3_length (swk k F) n
  by_cases hj : j < n * 3
  · rw [cells3_nth _ n j hj, List.getElem?_set, List.getElem?_set, List.getElem?_set, cells3_nth _ n j hj]
    simp only [List.length_set, hl]
    by_cases h2 : k * 3 + 2 = j
    · subst h2
      rw [if_pos rfl, if_pos hj, show (k * 3 + 2) / 3 = k by omega, show (k * 3 + 2) % 3 = 2 by omega]
      simp [swk, c3, sw]
    rw [if_neg h2]
    by_cases h1 : k * 3 + 1 = j
    · subst h1
      rw [if_pos rfl, if_pos hj, show (k * 3 + 1) / 3 = k by omega, show (k * 3 + 1) % 3 = 1 by omega]
      simp [swk, c3, sw]
    rw [if_neg h1]
    by_cases h0 : k * 3 = j
    · subst h0
      rw [if_pos rfl, if_pos hj, show k * 3 / 3 = k by omega, show k * 3 % 3 = 0 by omega]
      simp [swk, c3, sw]
    rw [if_neg h0]
    have : j / 3 ≠ k := by omega
    simp only [swk]
    by_cases hlt : j / 3 < k
    · rw [if_pos hlt, if_pos (by omega)]
    · rw [if_neg hlt, if_neg (by omega)]
  · rw [List.getElem?_eq_none (by simp [hl]; omega), List.getElem?_eq_none (by rw [cells3_length]; omega)]
/-- A store into a row. -/
theorem own_setIn {w : World} {base n c g o size : Nat} {e : TypeId} {xs : List Value} {u : Value} (h : w.ownsRow base e size (.slice (some ⟨g, 0, none⟩) n c) n xs) : (w.setCell ⟨g, o, none⟩ u).ownsRow base e size (.slice (some ⟨g, 0, none⟩) n c) n (xs.set o u) := by
  obtain ⟨h1, h2⟩ := h
  refine ⟨by simpa using h1, ?_⟩
  rcases h2 with ⟨h2, _⟩ | ⟨g', cap, cur, hv, hb, hh, hn, hm, hs, hx⟩
  · cases h2
  · cases hv
    refine .inr ⟨g, c, cur.setIfInBounds o u, rfl, hb, ?_, hn, hm, by simpa using hs, ?_⟩
    · simp [World.setCell, Array.getElem?_modify, hh]
    · rw [← hx]
      simp [List.take_set]
theorem own_heap {w : World} {base n c g size : Nat} {e : TypeId} {xs : List Value} (h : w.ownsRow base e size (.slice (some ⟨g, 0, none⟩) n c) n xs) : ∃ cur, w.heap[g]? = some (.cells cur e (0, 0)) := by
  rcases h.2 with ⟨h2, _⟩ | ⟨g', cap, cur, hv, hb, hh, _⟩
  · cases h2
  · cases hv
    exact ⟨cur, hh⟩

set_option maxRecDepth 100000 in
set_option maxHeartbeats 4000000 in
theorem mir_f (av af : Option Addr) (nv cv nf cf : Nat) (V F : Nat → V3) (a : Int) (w : World) (hv : Row3 w av nv V) (hf : Row3 w af nf F) (hnv : nv ≤ 1000000) (hnf : nf ≤ 1000000) (h0 : fault nv V nf F ≠ 0) (G K : Nat → V3) :
    Calls Try.prog 7 #[.agg #[.slice av nv cv, .slice af nf cf], .int .i64 a] w (MeshR w (fault nv V nf F) nv G nf K) := by
  have HV := Lib.hid hv
  have HF := Lib.hid hf
  clear hv hf
  go_enter Try.func7, Try.ntmps7
  go_wp2_with (fail)
  refine (checkMesh_any av af nv cv nf cf V F _ (HV.out.kept (by repeat (first | exact Below.refl _ _ | assumption | refine Below.drew ?_ | refine bdrewN ?_ _ | refine Below.setCell ?_ (by first | omega | (simp <;> omega)) _ | refine Below.alloc ?_ (by first | omega | (simp <;> omega)) _))) (HF.out.kept (by repeat (first | exact Below.refl _ _ | assumption | refine Below.drew ?_ | refine bdrewN ?_ _ | refine Below.setCell ?_ (by first | omega | (simp <;> omega)) _ | refine Below.alloc ?_ (by first | omega | (simp <;> omega)) _))) hnv hnf).mono ?_
  rintro e w1 ⟨rfl, hb1⟩
  have z1 : w.heap.size + 1 + 1 ≤ w1.heap.size := by have := hb1.size; simpa using this
  have B1 : Below w.heap.size w w1 := Below.trans (by repeat (first | exact Below.refl _ _ | assumption | refine Below.drew ?_ | refine bdrewN ?_ _ | refine Below.setCell ?_ (by first | omega | (simp <;> omega)) _ | refine Below.alloc ?_ (by first | omega | (simp <;> omega)) _)) (hb1.mono (by simp <;> omega))
  have lt0 : w.heap.size < w1.heap.size := by omega
  have hb_0 : w1.heap[w.heap.size]? = some (.cells #[.slice av nv cv, .slice af nf cf] 29 (0, 0)) := heap_keep hb1 (by repeat (first | (refine heap_new ?_; first | rfl | (simp; done)) | rw [Below.heap_setCell _ _ _ _ (by simp <;> omega)] | rw [Below.heap_alloc _ _ _ (by simp <;> omega)]))
  have b0c0 : w1.cell? ⟨w.heap.size, 0, none⟩ = some (.slice av nv cv) := by simp [World.cell?, hb_0]
  have b0f0 : w1.frozen? ⟨w.heap.size, 0, none⟩ = false := by simp [World.frozen?, hb_0]
  have b0c1 : w1.cell? ⟨w.heap.size, 1, none⟩ = some (.slice af nf cf) := by simp [World.cell?, hb_0]
  have b0f1 : w1.frozen? ⟨w.heap.size, 1, none⟩ = false := by simp [World.frozen?, hb_0]
  have BX0 := Lib.hid hb_0
  clear hb_0
  have lt1 : w.heap.size + 1 < w1.heap.size := by omega
  have hb_1 : w1.heap[w.heap.size + 1]? = some (.cells #[.slice none 0 0, .slice none 0 0] 29 (0, 0)) := heap_keep hb1 (by repeat (first | (refine heap_new ?_; first | rfl | (simp; done)) | rw [Below.heap_setCell _ _ _ _ (by simp <;> omega)] | rw [Below.heap_alloc _ _ _ (by simp <;> omega)]))
  have b1c0 : w1.cell? ⟨w.heap.size + 1, 0, none⟩ = some (.slice none 0 0) := by simp [World.cell?, hb_1]
  have b1f0 : w1.frozen? ⟨w.heap.size + 1, 0, none⟩ = false := by simp [World.frozen?, hb_1]
  have b1c1 : w1.cell? ⟨w.heap.size + 1, 1, none⟩ = some (.slice none 0 0) := by simp [World.cell?, hb_1]
  have b1f1 : w1.frozen? ⟨w.heap.size + 1, 1, none⟩ = false := by simp [World.frozen?, hb_1]
  have BX1 := Lib.hid hb_1
  clear hb_1
  have HB := Lib.hid B1
  clear hb1 B1
  have e0 : (fault nv V nf F != 0) = true := by simpa using h0
  go_wp2
  exact bodyPost_ret (v := .tuple #[.agg #[.slice none 0 0, .slice none 0 0], .int .i64 (fault nv V nf F)]) (by simp [results, Try.results7, go_sem, b1c0, b1c1, lt1]) rfl (meshR_no rfl (by first | assumption | decide) (by repeat (first | exact Below.refl _ _ | assumption | refine Below.drew ?_ | refine bdrewN ?_ _ | refine Below.setCell ?_ (by first | omega | (simp <;> omega)) _ | refine Below.alloc ?_ (by first | omega | (simp <;> omega)) _)))
set_option maxRecDepth 100000 in
set_option maxHeartbeats 4000000 in
theorem mir_x (av af : Option Addr) (nv cv nf cf : Nat) (V F : Nat → V3) (a : Int) (w : World) (hv : Row3 w av nv V) (hf : Row3 w af nf F) (hnv : nv ≤ 1000000) (hnf : nf ≤ 1000000) (h0 : fault nv V nf F = 0) (ha : ¬ (0 ≤ a ∧ a ≤ 2)) (G K : Nat → V3) :
    Calls Try.prog 7 #[.agg #[.slice av nv cv, .slice af nf cf], .int .i64 a] w (MeshR w 4 nv G nf K) := by
  have HV := Lib.hid hv
  have HF := Lib.hid hf
  clear hv hf
  go_enter Try.func7, Try.ntmps7
  go_wp2_with (fail)
  refine (checkMesh_any av af nv cv nf cf V F _ (HV.out.kept (by repeat (first | exact Below.refl _ _ | assumption | refine Below.drew ?_ | refine bdrewN ?_ _ | refine Below.setCell ?_ (by first | omega | (simp <;> omega)) _ | refine Below.alloc ?_ (by first | omega | (simp <;> omega)) _))) (HF.out.kept (by repeat (first | exact Below.refl _ _ | assumption | refine Below.drew ?_ | refine bdrewN ?_ _ | refine Below.setCell ?_ (by first | omega | (simp <;> omega)) _ | refine Below.alloc ?_ (by first | omega | (simp <;> omega)) _))) hnv hnf).mono ?_
  rintro e w1 ⟨rfl, hb1⟩
  have z1 : w.heap.size + 1 + 1 ≤ w1.heap.size := by have := hb1.size; simpa using this
  have B1 : Below w.heap.size w w1 := Below.trans (by repeat (first | exact Below.refl _ _ | assumption | refine Below.drew ?_ | refine bdrewN ?_ _ | refine Below.setCell ?_ (by first | omega | (simp <;> omega)) _ | refine Below.alloc ?_ (by first | omega | (simp <;> omega)) _)) (hb1.mono (by simp <;> omega))
  have lt0 : w.heap.size < w1.heap.size := by omega
  have hb_0 : w1.heap[w.heap.size]? = some (.cells #[.slice av nv cv, .slice af nf cf] 29 (0, 0)) := heap_keep hb1 (by repeat (first | (refine heap_new ?_; first | rfl | (simp; done)) | rw [Below.heap_setCell _ _ _ _ (by simp <;> omega)] | rw [Below.heap_alloc _ _ _ (by simp <;> omega)]))
  have b0c0 : w1.cell? ⟨w.heap.size, 0, none⟩ = some (.slice av nv cv) := by simp [World.cell?, hb_0]
  have b0f0 : w1.frozen? ⟨w.heap.size, 0, none⟩ = false := by simp [World.frozen?, hb_0]
  have b0c1 : w1.cell? ⟨w.heap.size, 1, none⟩ = some (.slice af nf cf) := by simp [World.cell?, hb_0]
  have b0f1 : w1.frozen? ⟨w.heap.size, 1, none⟩ = false := by simp [World.frozen?, hb_0]
  have BX0 := Lib.hid hb_0
  clear hb_0
  have lt1 : w.heap.size + 1 < w1.heap.size := by omega
  have hb_1 : w1.heap[w.heap.size + 1]? = some (.cells #[.slice none 0 0, .slice none 0 0] 29 (0, 0)) := heap_keep hb1 (by repeat (first | (refine heap_new ?_; first | rfl | (simp; done)) | rw [Below.heap_setCell _ _ _ _ (by simp <;> omega)] | rw [Below.heap_alloc _ _ _ (by simp <;> omega)]))
  have b1c0 : w1.cell? ⟨w.heap.size + 1, 0, none⟩ = some (.slice none 0 0) := by simp [World.cell?, hb_1]
  have b1f0 : w1.frozen? ⟨w.heap.size + 1, 0, none⟩ = false := by simp [World.frozen?, hb_1]
  have b1c1 : w1.cell? ⟨w.heap.size + 1, 1, none⟩ = some (.slice none 0 0) := by simp [World.cell?, hb_1]
  have b1f1 : w1.frozen? ⟨w.heap.size + 1, 1, none⟩ = false := by simp [World.frozen?, hb_1]
  have BX1 := Lib.hid hb_1
  clear hb_1
  have HB := Lib.hid B1
  clear hb1 B1
  have e0 : (fault nv V nf F != 0) = false := by simp [h0]
  clear h0
  have hq := fun w => eq_nil w
  go_wp2_with (go_at_call 22; refine (mnone a _ ha).mono ?_; rintro e w' ⟨rfl, rfl⟩)
  exact bodyPost_ret (v := .tuple #[.agg #[.slice none 0 0, .slice none 0 0], .int .i64 4]) (by simp [results, Try.results7, go_sem, b1c0, b1c1, lt1]) rfl (meshR_no rfl (by first | assumption | decide) (by repeat (first | exact Below.refl _ _ | assumption | refine Below.drew ?_ | refine bdrewN ?_ _ | refine Below.setCell ?_ (by first | omega | (simp <;> omega)) _ | refine Below.alloc ?_ (by first | omega | (simp <;> omega)) _)))

set_option maxRecDepth 100000 in
set_option maxHeartbeats 4000000 in
theorem mir_0 (av af : Option Addr) (nv cv nf cf : Nat) (V F : Nat → V3) (w : World) (hv : Row3 w av nv V) (hf : Row3 w af nf F) (hnv : nv ≤ 1000000) (hnf : nf ≤ 1000000) (h0 : fault nv V nf F = 0) :
    Calls Try.prog 7 #[.agg #[.slice av nv cv, .slice af nf cf], .int .i64 0] w (MeshR w (fault nv (fun i => mv 0 (V i)) nf (fun i => sw (F i))) nv (fun i => mv 0 (V i)) nf (fun i => sw (F i))) := by
  have HV := Lib.hid hv
  have HF := Lib.hid hf
  clear hv hf
  go_enter Try.func7, Try.ntmps7
  go_wp2_with (fail)
  refine (checkMesh_any av af nv cv nf cf V F _ (HV.out.kept (by repeat (first | exact Below.refl _ _ | assumption | refine Below.drew ?_ | refine bdrewN ?_ _ | refine Below.setCell ?_ (by first | omega | (simp <;> omega)) _ | refine Below.alloc ?_ (by first | omega | (simp <;> omega)) _))) (HF.out.kept (by repeat (first | exact Below.refl _ _ | assumption | refine Below.drew ?_ | refine bdrewN ?_ _ | refine Below.setCell ?_ (by first | omega | (simp <;> omega)) _ | refine Below.alloc ?_ (by first | omega | (simp <;> omega)) _))) hnv hnf).mono ?_
  rintro e w1 ⟨rfl, hb1⟩
  have z1 : w.heap.size + 1 + 1 ≤ w1.heap.size := by have := hb1.size; simpa using this
  have B1 : Below w.heap.size w w1 := Below.trans (by repeat (first | exact Below.refl _ _ | assumption | refine Below.drew ?_ | refine bdrewN ?_ _ | refine Below.setCell ?_ (by first | omega | (simp <;> omega)) _ | refine Below.alloc ?_ (by first | omega | (simp <;> omega)) _)) (hb1.mono (by simp <;> omega))
  have lt0 : w.heap.size < w1.heap.size := by omega
  have hb_0 : w1.heap[w.heap.size]? = some (.cells #[.slice av nv cv, .slice af nf cf] 29 (0, 0)) := heap_keep hb1 (by repeat (first | (refine heap_new ?_; first | rfl | (simp; done)) | rw [Below.heap_setCell _ _ _ _ (by simp <;> omega)] | rw [Below.heap_alloc _ _ _ (by simp <;> omega)]))
  have b0c0 : w1.cell? ⟨w.heap.size, 0, none⟩ = some (.slice av nv cv) := by simp [World.cell?, hb_0]
  have b0f0 : w1.frozen? ⟨w.heap.size, 0, none⟩ = false := by simp [World.frozen?, hb_0]
  have b0c1 : w1.cell? ⟨w.heap.size, 1, none⟩ = some (.slice af nf cf) := by simp [World.cell?, hb_0]
  have b0f1 : w1.frozen? ⟨w.heap.size, 1, none⟩ = false := by simp [World.frozen?, hb_0]
  have BX0 := Lib.hid hb_0
  clear hb_0
  have lt1 : w.heap.size + 1 < w1.heap.size := by omega
  have hb_1 : w1.heap[w.heap.size + 1]? = some (.cells #[.slice none 0 0, .slice none 0 0] 29 (0, 0)) := heap_keep hb1 (by repeat (first | (refine heap_new ?_; first | rfl | (simp; done)) | rw [Below.heap_setCell _ _ _ _ (by simp <;> omega)] | rw [Below.heap_alloc _ _ _ (by simp <;> omega)]))
  have b1c0 : w1.cell? ⟨w.heap.size + 1, 0, none⟩ = some (.slice none 0 0) := by simp [World.cell?, hb_1]
  have b1f0 : w1.frozen? ⟨w.heap.size + 1, 0, none⟩ = false := by simp [World.frozen?, hb_1]
  have b1c1 : w1.cell? ⟨w.heap.size + 1, 1, none⟩ = some (.slice none 0 0) := by simp [World.cell?, hb_1]
  have b1f1 : w1.frozen? ⟨w.heap.size + 1, 1, none⟩ = false := by simp [World.frozen?, hb_1]
  have BX1 := Lib.hid hb_1
  clear hb_1
  have HB := Lib.hid B1
  clear hb1 B1
  have e0 : (fault nv V nf F != 0) = false := by simp [h0]
  clear h0
  have hfn := fun w => eq_m1 w
  go_wp2_with (first | (go_at_call 22; refine (mat0 _).mono ?_; rintro e w' ⟨rfl, rfl⟩) | fail)
  refine (placed_1 (fun i => mv 0 (V i)) av af nv cv nf cf V F _ (HV.out.kept HB.out) (HF.out.kept HB.out) hnv hnf (fun W hb k hk => (m1_any (V k).x (V k).y (V k).z W).mono fun e w' h => ⟨h.1.trans (by simp [mv]), h.2⟩)).mono ?_
  rintro e w2 ⟨a2, c2, a3, c3, rfl, ho2, ho3, hb2⟩
  have HO2 := Lib.hid ho2
  have HO3 := Lib.hid ho3
  have HB2 := Lib.hid hb2
  have HR2 := Lib.hid (heap_keep hb2 BX1.out)
  have z2 := hb2.size
  clear ho2 ho3 hb2
  go_wp2_with (fail)
  have hG0 : (w2.alloc (.cells #[.slice a2 nv c2, .slice a3 nf c3] 29)).heap[w2.heap.size]? = some (.cells #[.slice a2 nv c2, .slice a3 nf c3] 29 (0, 0)) := heap_new rfl
  have HG0 := Lib.hid hG0
  clear hG0
  go_loopw [28] (fun i wr => ∃ k : Nat, k ≤ nf ∧ i = .int .i64 k ∧ wr.heap[w2.heap.size]? = some (.cells #[.slice a2 nv c2, .slice a3 nf c3] 29 (0, 0)) ∧ wr.ownsRow w1.heap.size 39 3 (.slice a2 nv c2) nv (cells3 (fun i => mv 0 (V i)) nv) ∧ wr.ownsRow w1.heap.size 47 3 (.slice a3 nf c3) nf (cells3 (swk k F) nf) ∧ Below w1.heap.size w1 wr) (fun i _ => nf - (intOf i).toNat)
  case atStart => exact ⟨0, by omega, rfl, HG0.out, HO2.out.alloc _, by rw [swk_zero]; exact HO3.out.alloc _, HB2.out.alloc (by omega) _⟩
  case round =>
    obtain ⟨k, hk, rfl, hm, hov, hof, hbel⟩ := hrel
    have hsz := hbel.size
    have hlm := lt_of_heap hm
    have mc0 : wr.cell? ⟨w2.heap.size, 0, none⟩ = some (.slice a2 nv c2) := (by simp [World.cell?, hm]); have mf0 : wr.frozen? ⟨w2.heap.size, 0, none⟩ = false := (by simp [World.frozen?, hm]); have mc1 : wr.cell? ⟨w2.heap.size, 1, none⟩ = some (.slice a3 nf c3) := (by simp [World.cell?, hm]); have mf1 : wr.frozen? ⟨w2.heap.size, 1, none⟩ = false := (by simp [World.frozen?, hm])
    have HMW := Lib.hid hm
    have HOV := Lib.hid hov
    have HOF := Lib.hid hof
    have HBL := Lib.hid hbel
    by_cases hlt : k < nf
    · obtain ⟨g, cap', hv, hg, hlg⟩ := hof.form (by omega)
      cases hv
      have hne : g ≠ w2.heap.size := fun e => own_ne hof hm (by decide) (by simp [Value.ownBlock, e])
      have c0 : wr.cell? ⟨g, k * 3, none⟩ = some (.int .i64 (F k).x) := by rw [hof.cellAt (k * 3) (by omega), show k * 3 = k * 3 + 0 by omega, cells3_get _ _ k 0 hlt (by omega)]; rw [swk_self]; rfl
      have c1 : wr.cell? ⟨g, k * 3 + 1, none⟩ = some (.int .i64 (F k).y) := by rw [hof.cellAt (k * 3 + 1) (by omega), cells3_get _ _ k 1 hlt (by omega)]; rw [swk_self]; rfl
      have c2' : wr.cell? ⟨g, k * 3 + 2, none⟩ = some (.int .i64 (F k).z) := by rw [hof.cellAt (k * 3 + 2) (by omega), cells3_get _ _ k 2 hlt (by omega)]; rw [swk_self]; rfl
      have f0 := hof.frozenAt (k * 3)
      have f1 := hof.frozenAt (k * 3 + 1)
      have f2 := hof.frozenAt (k * 3 + 2)
      clear hov hof hbel hm
      go_wp2
      go_roundw
      case rel =>
        have O1 := own_setIn (o := k * 3 + 2) (u := .int .i64 (F k).y) (own_setIn (o := k * 3 + 1) (u := .int .i64 (F k).z) (own_setIn (o := k * 3) (u := .int .i64 (F k).x) HOF.out))
        rw [swk_step F nf k hlt] at O1
        have M3 := ((((Mut.refl (· = g) wr).setCell (p := ⟨g, k * 3, none⟩) (fun _ => rfl) (.int .i64 (F k).x)).setCell (p := ⟨g, k * 3 + 1, none⟩) (fun _ => rfl) (.int .i64 (F k).z)).setCell (p := ⟨g, k * 3 + 2, none⟩) (fun _ => rfl) (.int .i64 (F k).y))
        have B3 := ((HBL.out.setCell (p := ⟨g, k * 3, none⟩) hg (.int .i64 (F k).x)).setCell (p := ⟨g, k * 3 + 1, none⟩) hg (.int .i64 (F k).z)).setCell (p := ⟨g, k * 3 + 2, none⟩) hg (.int .i64 (F k).y)
        obtain ⟨cur, hcur⟩ := own_heap HOF.out
        exact ⟨k + 1, by omega, by go_num, (Below.heap_alloc _ _ _ (Nat.lt_of_lt_of_le hlm M3.size)).trans ((M3.block _ hlm (fun e => hne e.symm)).trans HMW.out), (own_mut HOV.out M3 (fun b hb e => own_ne HOV.out hcur (by decide) (e ▸ hb))).alloc _, O1.alloc _, B3.alloc B3.size _⟩
      case measure => simp [intOf]; omega
    · obtain rfl : nf = k := by omega
      clear HO2 HO3 HB2 HMW
      have ho2 := HOV.out
      have ho3 := HOF.out
      rw [swk_all] at ho3
      have hb2 := HBL.out
      clear hov hof hbel HOV HOF HBL hm

      have HO2 := Lib.hid ho2
      have HO3 := Lib.hid ho3
      have HB2 := Lib.hid hb2
      clear ho2 ho3 hb2
      go_wp2_with (fail)
      refine (checked_any a2 a3 nv c2 nf c3 (fun i => mv 0 (V i)) (fun i => sw (F i)) _ (own_row3 HO2.out) (own_row3 HO3.out) hnv hnf).mono ?_
      rintro e w3 ⟨rfl, hb3⟩
      have hr := heap_keep hb3 (heap_keep HB2.out BX1.out)
      have hlr := lt_of_heap hr
      have rc0 : w3.cell? ⟨w.heap.size + 1, 0, none⟩ = some (.slice none 0 0) := (by simp [World.cell?, hr]); have rf0 : w3.frozen? ⟨w.heap.size + 1, 0, none⟩ = false := (by simp [World.frozen?, hr]); have rc1 : w3.cell? ⟨w.heap.size + 1, 1, none⟩ = some (.slice none 0 0) := (by simp [World.cell?, hr]); have rf1 : w3.frozen? ⟨w.heap.size + 1, 1, none⟩ = false := (by simp [World.frozen?, hr])
      have HR7 := Lib.hid hr
      generalize hE : fault nv (fun i => mv 0 (V i)) nf (fun i => sw (F i)) = E
      have R := Lib.hid (((HB.out.trans (HB2.out.mono HB.out.size)).trans (hb3.mono (Nat.le_trans HB.out.size HB2.out.size))).setCell (p := ⟨w.heap.size + 1, 0, none⟩) (by show _ ≤ w.heap.size + 1; omega) (.slice (za E a2) (zr E nv) (zr E c2)) |>.setCell (p := ⟨w.heap.size + 1, 1, none⟩) (by show _ ≤ w.heap.size + 1; omega) (.slice (za E a3) (zr E nf) (zr E c3)))
      have P1 := Lib.hid (own_set (o := 1) (u := .slice (za E a3) (zr E nf) (zr E c3)) (own_set (o := 0) (u := .slice (za E a2) (zr E nv) (zr E c2)) (ownsRow_below HO2.out hb3) HR7.out (by decide)) (set2_0 HR7.out) (by decide))
      have P2 := Lib.hid (own_set (o := 1) (u := .slice (za E a3) (zr E nf) (zr E c3)) (own_set (o := 0) (u := .slice (za E a2) (zr E nv) (zr E c2)) (ownsRow_below HO3.out hb3) HR7.out (by decide)) (set2_0 HR7.out) (by decide))
      have HE := Lib.hid hE
      clear hE hr hb3
      have hzz : w.heap.size ≤ w1.heap.size := HB.out.size
      go_wp2
      exact bodyPost_ret (v := .tuple #[.agg #[.slice (za E a2) (zr E nv) (zr E c2), .slice (za E a3) (zr E nf) (zr E c3)], .int .i64 E]) (by simp [results, Try.results7, go_sem, rc0, rc1]) rfl (MeshR.from (meshR_of P1.out P2.out (by first | omega | (simp; omega)) (by first | omega | (simp; omega)) R.out) (Below.refl _ _) HE.out.symm)


set_option maxRecDepth 100000 in
set_option maxHeartbeats 4000000 in
theorem mir_1 (av af : Option Addr) (nv cv nf cf : Nat) (V F : Nat → V3) (w : World) (hv : Row3 w av nv V) (hf : Row3 w af nf F) (hnv : nv ≤ 1000000) (hnf : nf ≤ 1000000) (h0 : fault nv V nf F = 0) :
    Calls Try.prog 7 #[.agg #[.slice av nv cv, .slice af nf cf], .int .i64 1] w (MeshR w (fault nv (fun i => mv 1 (V i)) nf (fun i => sw (F i))) nv (fun i => mv 1 (V i)) nf (fun i => sw (F i))) := by
  have HV := Lib.hid hv
  have HF := Lib.hid hf
  clear hv hf
  go_enter Try.func7, Try.ntmps7
  go_wp2_with (fail)
  refine (checkMesh_any av af nv cv nf cf V F _ (HV.out.kept (by repeat (first | exact Below.refl _ _ | assumption | refine Below.drew ?_ | refine bdrewN ?_ _ | refine Below.setCell ?_ (by first | omega | (simp <;> omega)) _ | refine Below.alloc ?_ (by first | omega | (simp <;> omega)) _))) (HF.out.kept (by repeat (first | exact Below.refl _ _ | assumption | refine Below.drew ?_ | refine bdrewN ?_ _ | refine Below.setCell ?_ (by first | omega | (simp <;> omega)) _ | refine Below.alloc ?_ (by first | omega | (simp <;> omega)) _))) hnv hnf).mono ?_
  rintro e w1 ⟨rfl, hb1⟩
  have z1 : w.heap.size + 1 + 1 ≤ w1.heap.size := by have := hb1.size; simpa using this
  have B1 : Below w.heap.size w w1 := Below.trans (by repeat (first | exact Below.refl _ _ | assumption | refine Below.drew ?_ | refine bdrewN ?_ _ | refine Below.setCell ?_ (by first | omega | (simp <;> omega)) _ | refine Below.alloc ?_ (by first | omega | (simp <;> omega)) _)) (hb1.mono (by simp <;> omega))
  have lt0 : w.heap.size < w1.heap.size := by omega
  have hb_0 : w1.heap[w.heap.size]? = some (.cells #[.slice av nv cv, .slice af nf cf] 29 (0, 0)) := heap_keep hb1 (by repeat (first | (refine heap_new ?_; first | rfl | (simp; done)) | rw [Below.heap_setCell _ _ _ _ (by simp <;> omega)] | rw [Below.heap_alloc _ _ _ (by simp <;> omega)]))
  have b0c0 : w1.cell? ⟨w.heap.size, 0, none⟩ = some (.slice av nv cv) := by simp [World.cell?, hb_0]
  have b0f0 : w1.frozen? ⟨w.heap.size, 0, none⟩ = false := by simp [World.frozen?, hb_0]
  have b0c1 : w1.cell? ⟨w.heap.size, 1, none⟩ = some (.slice af nf cf) := by simp [World.cell?, hb_0]
  have b0f1 : w1.frozen? ⟨w.heap.size, 1, none⟩ = false := by simp [World.frozen?, hb_0]
  have BX0 := Lib.hid hb_0
  clear hb_0
  have lt1 : w.heap.size + 1 < w1.heap.size := by omega
  have hb_1 : w1.heap[w.heap.size + 1]? = some (.cells #[.slice none 0 0, .slice none 0 0] 29 (0, 0)) := heap_keep hb1 (by repeat (first | (refine heap_new ?_; first | rfl | (simp; done)) | rw [Below.heap_setCell _ _ _ _ (by simp <;> omega)] | rw [Below.heap_alloc _ _ _ (by simp <;> omega)]))
  have b1c0 : w1.cell? ⟨w.heap.size + 1, 0, none⟩ = some (.slice none 0 0) := by simp [World.cell?, hb_1]
  have b1f0 : w1.frozen? ⟨w.heap.size + 1, 0, none⟩ = false := by simp [World.frozen?, hb_1]
  have b1c1 : w1.cell? ⟨w.heap.size + 1, 1, none⟩ = some (.slice none 0 0) := by simp [World.cell?, hb_1]
  have b1f1 : w1.frozen? ⟨w.heap.size + 1, 1, none⟩ = false := by simp [World.frozen?, hb_1]
  have BX1 := Lib.hid hb_1
  clear hb_1
  have HB := Lib.hid B1
  clear hb1 B1
  have e0 : (fault nv V nf F != 0) = false := by simp [h0]
  clear h0
  have hfn := fun w => eq_m2 w
  go_wp2_with (first | (go_at_call 22; refine (mat1 _).mono ?_; rintro e w' ⟨rfl, rfl⟩) | fail)
  refine (placed_2 (fun i => mv 1 (V i)) av af nv cv nf cf V F _ (HV.out.kept HB.out) (HF.out.kept HB.out) hnv hnf (fun W hb k hk => (m2_any (V k).x (V k).y (V k).z W).mono fun e w' h => ⟨h.1.trans (by simp [mv]), h.2⟩)).mono ?_
  rintro e w2 ⟨a2, c2, a3, c3, rfl, ho2, ho3, hb2⟩
  have HO2 := Lib.hid ho2
  have HO3 := Lib.hid ho3
  have HB2 := Lib.hid hb2
  have HR2 := Lib.hid (heap_keep hb2 BX1.out)
  have z2 := hb2.size
  clear ho2 ho3 hb2
  go_wp2_with (fail)
  have hG0 : (w2.alloc (.cells #[.slice a2 nv c2, .slice a3 nf c3] 29)).heap[w2.heap.size]? = some (.cells #[.slice a2 nv c2, .slice a3 nf c3] 29 (0, 0)) := heap_new rfl
  have HG0 := Lib.hid hG0
  clear hG0
  go_loopw [28] (fun i wr => ∃ k : Nat, k ≤ nf ∧ i = .int .i64 k ∧ wr.heap[w2.heap.size]? = some (.cells #[.slice a2 nv c2, .slice a3 nf c3] 29 (0, 0)) ∧ wr.ownsRow w1.heap.size 39 3 (.slice a2 nv c2) nv (cells3 (fun i => mv 1 (V i)) nv) ∧ wr.ownsRow w1.heap.size 47 3 (.slice a3 nf c3) nf (cells3 (swk k F) nf) ∧ Below w1.heap.size w1 wr) (fun i _ => nf - (intOf i).toNat)
  case atStart => exact ⟨0, by omega, rfl, HG0.out, HO2.out.alloc _, by rw [swk_zero]; exact HO3.out.alloc _, HB2.out.alloc (by omega) _⟩
  case round =>
    obtain ⟨k, hk, rfl, hm, hov, hof, hbel⟩ := hrel
    have hsz := hbel.size
    have hlm := lt_of_heap hm
    have mc0 : wr.cell? ⟨w2.heap.size, 0, none⟩ = some (.slice a2 nv c2) := (by simp [World.cell?, hm]); have mf0 : wr.frozen? ⟨w2.heap.size, 0, none⟩ = false := (by simp [World.frozen?, hm]); have mc1 : wr.cell? ⟨w2.heap.size, 1, none⟩ = some (.slice a3 nf c3) := (by simp [World.cell?, hm]); have mf1 : wr.frozen? ⟨w2.heap.size, 1, none⟩ = false := (by simp [World.frozen?, hm])
    have HMW := Lib.hid hm
    have HOV := Lib.hid hov
    have HOF := Lib.hid hof
    have HBL := Lib.hid hbel
    by_cases hlt : k < nf
    · obtain ⟨g, cap', hv, hg, hlg⟩ := hof.form (by omega)
      cases hv
      have hne : g ≠ w2.heap.size := fun e => own_ne hof hm (by decide) (by simp [Value.ownBlock, e])
      have c0 : wr.cell? ⟨g, k * 3, none⟩ = some (.int .i64 (F k).x) := by rw [hof.cellAt (k * 3) (by omega), show k * 3 = k * 3 + 0 by omega, cells3_get _ _ k 0 hlt (by omega)]; rw [swk_self]; rfl
      have c1 : wr.cell? ⟨g, k * 3 + 1, none⟩ = some (.int .i64 (F k).y) := by rw [hof.cellAt (k * 3 + 1) (by omega), cells3_get _ _ k 1 hlt (by omega)]; rw [swk_self]; rfl
      have c2' : wr.cell? ⟨g, k * 3 + 2, none⟩ = some (.int .i64 (F k).z) := by rw [hof.cellAt (k * 3 + 2) (by omega), cells3_get _ _ k 2 hlt (by omega)]; rw [swk_self]; rfl
      have f0 := hof.frozenAt (k * 3)
      have f1 := hof.frozenAt (k * 3 + 1)
      have f2 := hof.frozenAt (k * 3 + 2)
      clear hov hof hbel hm
      go_wp2
      go_roundw
      case rel =>
        have O1 := own_setIn (o := k * 3 + 2) (u := .int .i64 (F k).y) (own_setIn (o := k * 3 + 1) (u := .int .i64 (F k).z) (own_setIn (o := k * 3) (u := .int .i64 (F k).x) HOF.out))
        rw [swk_step F nf k hlt] at O1
        have M3 := ((((Mut.refl (· = g) wr).setCell (p := ⟨g, k * 3, none⟩) (fun _ => rfl) (.int .i64 (F k).x)).setCell (p := ⟨g, k * 3 + 1, none⟩) (fun _ => rfl) (.int .i64 (F k).z)).setCell (p := ⟨g, k * 3 + 2, none⟩) (fun _ => rfl) (.int .i64 (F k).y))
        have B3 := ((HBL.out.setCell (p := ⟨g, k * 3, none⟩) hg (.int .i64 (F k).x)).setCell (p := ⟨g, k * 3 + 1, none⟩) hg (.int .i64 (F k).z)).setCell (p := ⟨g, k * 3 + 2, none⟩) hg (.int .i64 (F k).y)
        obtain ⟨cur, hcur⟩ := own_heap HOF.out
        exact ⟨k + 1, by omega, by go_num, (Below.heap_alloc _ _ _ (Nat.lt_of_lt_of_le hlm M3.size)).trans ((M3.block _ hlm (fun e => hne e.symm)).trans HMW.out), (own_mut HOV.out M3 (fun b hb e => own_ne HOV.out hcur (by decide) (e ▸ hb))).alloc _, O1.alloc _, B3.alloc B3.size _⟩
      case measure => simp [intOf]; omega
    · obtain rfl : nf = k := by omega
      clear HO2 HO3 HB2 HMW
      have ho2 := HOV.out
      have ho3 := HOF.out
      rw [swk_all] at ho3
      have hb2 := HBL.out
      clear hov hof hbel HOV HOF HBL hm

      have HO2 := Lib.hid ho2
      have HO3 := Lib.hid ho3
      have HB2 := Lib.hid hb2
      clear ho2 ho3 hb2
      go_wp2_with (fail)
      refine (checked_any a2 a3 nv c2 nf c3 (fun i => mv 1 (V i)) (fun i => sw (F i)) _ (own_row3 HO2.out) (own_row3 HO3.out) hnv hnf).mono ?_
      rintro e w3 ⟨rfl, hb3⟩
      have hr := heap_keep hb3 (heap_keep HB2.out BX1.out)
      have hlr := lt_of_heap hr
      have rc0 : w3.cell? ⟨w.heap.size + 1, 0, none⟩ = some (.slice none 0 0) := (by simp [World.cell?, hr]); have rf0 : w3.frozen? ⟨w.heap.size + 1, 0, none⟩ = false := (by simp [World.frozen?, hr]); have rc1 : w3.cell? ⟨w.heap.size + 1, 1, none⟩ = some (.slice none 0 0) := (by simp [World.cell?, hr]); have rf1 : w3.frozen? ⟨w.heap.size + 1, 1, none⟩ = false := (by simp [World.frozen?, hr])
      have HR7 := Lib.hid hr
      generalize hE : fault nv (fun i => mv 1 (V i)) nf (fun i => sw (F i)) = E
      have R := Lib.hid (((HB.out.trans (HB2.out.mono HB.out.size)).trans (hb3.mono (Nat.le_trans HB.out.size HB2.out.size))).setCell (p := ⟨w.heap.size + 1, 0, none⟩) (by show _ ≤ w.heap.size + 1; omega) (.slice (za E a2) (zr E nv) (zr E c2)) |>.setCell (p := ⟨w.heap.size + 1, 1, none⟩) (by show _ ≤ w.heap.size + 1; omega) (.slice (za E a3) (zr E nf) (zr E c3)))
      have P1 := Lib.hid (own_set (o := 1) (u := .slice (za E a3) (zr E nf) (zr E c3)) (own_set (o := 0) (u := .slice (za E a2) (zr E nv) (zr E c2)) (ownsRow_below HO2.out hb3) HR7.out (by decide)) (set2_0 HR7.out) (by decide))
      have P2 := Lib.hid (own_set (o := 1) (u := .slice (za E a3) (zr E nf) (zr E c3)) (own_set (o := 0) (u := .slice (za E a2) (zr E nv) (zr E c2)) (ownsRow_below HO3.out hb3) HR7.out (by decide)) (set2_0 HR7.out) (by decide))
      have HE := Lib.hid hE
      clear hE hr hb3
      have hzz : w.heap.size ≤ w1.heap.size := HB.out.size
      go_wp2
      exact bodyPost_ret (v := .tuple #[.agg #[.slice (za E a2) (zr E nv) (zr E c2), .slice (za E a3) (zr E nf) (zr E c3)], .int .i64 E]) (by simp [results, Try.results7, go_sem, rc0, rc1]) rfl (MeshR.from (meshR_of P1.out P2.out (by first | omega | (simp; omega)) (by first | omega | (simp; omega)) R.out) (Below.refl _ _) HE.out.symm)


set_option maxRecDepth 100000 in
set_option maxHeartbeats 4000000 in
theorem mir_2 (av af : Option Addr) (nv cv nf cf : Nat) (V F : Nat → V3) (w : World) (hv : Row3 w av nv V) (hf : Row3 w af nf F) (hnv : nv ≤ 1000000) (hnf : nf ≤ 1000000) (h0 : fault nv V nf F = 0) :
    Calls Try.prog 7 #[.agg #[.slice av nv cv, .slice af nf cf], .int .i64 2] w (MeshR w (fault nv (fun i => mv 2 (V i)) nf (fun i => sw (F i))) nv (fun i => mv 2 (V i)) nf (fun i => sw (F i))) := by
  have HV := Lib.hid hv
  have HF := Lib.hid hf
  clear hv hf
  go_enter Try.func7, Try.ntmps7
  go_wp2_with (fail)
  refine (checkMesh_any av af nv cv nf cf V F _ (HV.out.kept (by repeat (first | exact Below.refl _ _ | assumption | refine Below.drew ?_ | refine bdrewN ?_ _ | refine Below.setCell ?_ (by first | omega | (simp <;> omega)) _ | refine Below.alloc ?_ (by first | omega | (simp <;> omega)) _))) (HF.out.kept (by repeat (first | exact Below.refl _ _ | assumption | refine Below.drew ?_ | refine bdrewN ?_ _ | refine Below.setCell ?_ (by first | omega | (simp <;> omega)) _ | refine Below.alloc ?_ (by first | omega | (simp <;> omega)) _))) hnv hnf).mono ?_
  rintro e w1 ⟨rfl, hb1⟩
  have z1 : w.heap.size + 1 + 1 ≤ w1.heap.size := by have := hb1.size; simpa using this
  have B1 : Below w.heap.size w w1 := Below.trans (by repeat (first | exact Below.refl _ _ | assumption | refine Below.drew ?_ | refine bdrewN ?_ _ | refine Below.setCell ?_ (by first | omega | (simp <;> omega)) _ | refine Below.alloc ?_ (by first | omega | (simp <;> omega)) _)) (hb1.mono (by simp <;> omega))
  have lt0 : w.heap.size < w1.heap.size := by omega
  have hb_0 : w1.heap[w.heap.size]? = some (.cells #[.slice av nv cv, .slice af nf cf] 29 (0, 0)) := heap_keep hb1 (by repeat (first | (refine heap_new ?_; first | rfl | (simp; done)) | rw [Below.heap_setCell _ _ _ _ (by simp <;> omega)] | rw [Below.heap_alloc _ _ _ (by simp <;> omega)]))
  have b0c0 : w1.cell? ⟨w.heap.size, 0, none⟩ = some (.slice av nv cv) := by simp [World.cell?, hb_0]
  have b0f0 : w1.frozen? ⟨w.heap.size, 0, none⟩ = false := by simp [World.frozen?, hb_0]
  have b0c1 : w1.cell? ⟨w.heap.size, 1, none⟩ = some (.slice af nf cf) := by simp [World.cell?, hb_0]
  have b0f1 : w1.frozen? ⟨w.heap.size, 1, none⟩ = false := by simp [World.frozen?, hb_0]
  have BX0 := Lib.hid hb_0
  clear hb_0
  have lt1 : w.heap.size + 1 < w1.heap.size := by omega
  have hb_1 : w1.heap[w.heap.size + 1]? = some (.cells #[.slice none 0 0, .slice none 0 0] 29 (0, 0)) := heap_keep hb1 (by repeat (first | (refine heap_new ?_; first | rfl | (simp; done)) | rw [Below.heap_setCell _ _ _ _ (by simp <;> omega)] | rw [Below.heap_alloc _ _ _ (by simp <;> omega)]))
  have b1c0 : w1.cell? ⟨w.heap.size + 1, 0, none⟩ = some (.slice none 0 0) := by simp [World.cell?, hb_1]
  have b1f0 : w1.frozen? ⟨w.heap.size + 1, 0, none⟩ = false := by simp [World.frozen?, hb_1]
  have b1c1 : w1.cell? ⟨w.heap.size + 1, 1, none⟩ = some (.slice none 0 0) := by simp [World.cell?, hb_1]
  have b1f1 : w1.frozen? ⟨w.heap.size + 1, 1, none⟩ = false := by simp [World.frozen?, hb_1]
  have BX1 := Lib.hid hb_1
  clear hb_1
  have HB := Lib.hid B1
  clear hb1 B1
  have e0 : (fault nv V nf F != 0) = false := by simp [h0]
  clear h0
  have hfn := fun w => eq_m3 w
  go_wp2_with (first | (go_at_call 22; refine (mat2 _).mono ?_; rintro e w' ⟨rfl, rfl⟩) | fail)
  refine (placed_3 (fun i => mv 2 (V i)) av af nv cv nf cf V F _ (HV.out.kept HB.out) (HF.out.kept HB.out) hnv hnf (fun W hb k hk => (m3_any (V k).x (V k).y (V k).z W).mono fun e w' h => ⟨h.1.trans (by simp [mv]), h.2⟩)).mono ?_
  rintro e w2 ⟨a2, c2, a3, c3, rfl, ho2, ho3, hb2⟩
  have HO2 := Lib.hid ho2
  have HO3 := Lib.hid ho3
  have HB2 := Lib.hid hb2
  have HR2 := Lib.hid (heap_keep hb2 BX1.out)
  have z2 := hb2.size
  clear ho2 ho3 hb2
  go_wp2_with (fail)
  have hG0 : (w2.alloc (.cells #[.slice a2 nv c2, .slice a3 nf c3] 29)).heap[w2.heap.size]? = some (.cells #[.slice a2 nv c2, .slice a3 nf c3] 29 (0, 0)) := heap_new rfl
  have HG0 := Lib.hid hG0
  clear hG0
  go_loopw [28] (fun i wr => ∃ k : Nat, k ≤ nf ∧ i = .int .i64 k ∧ wr.heap[w2.heap.size]? = some (.cells #[.slice a2 nv c2, .slice a3 nf c3] 29 (0, 0)) ∧ wr.ownsRow w1.heap.size 39 3 (.slice a2 nv c2) nv (cells3 (fun i => mv 2 (V i)) nv) ∧ wr.ownsRow w1.heap.size 47 3 (.slice a3 nf c3) nf (cells3 (swk k F) nf) ∧ Below w1.heap.size w1 wr) (fun i _ => nf - (intOf i).toNat)
  case atStart => exact ⟨0, by omega, rfl, HG0.out, HO2.out.alloc _, by rw [swk_zero]; exact HO3.out.alloc _, HB2.out.alloc (by omega) _⟩
  case round =>
    obtain ⟨k, hk, rfl, hm, hov, hof, hbel⟩ := hrel
    have hsz := hbel.size
    have hlm := lt_of_heap hm
    have mc0 : wr.cell? ⟨w2.heap.size, 0, none⟩ = some (.slice a2 nv c2) := (by simp [World.cell?, hm]); have mf0 : wr.frozen? ⟨w2.heap.size, 0, none⟩ = false := (by simp [World.frozen?, hm]); have mc1 : wr.cell? ⟨w2.heap.size, 1, none⟩ = some (.slice a3 nf c3) := (by simp [World.cell?, hm]); have mf1 : wr.frozen? ⟨w2.heap.size, 1, none⟩ = false := (by simp [World.frozen?, hm])
    have HMW := Lib.hid hm
    have HOV := Lib.hid hov
    have HOF := Lib.hid hof
    have HBL := Lib.hid hbel
    by_cases hlt : k < nf
    · obtain ⟨g, cap', hv, hg, hlg⟩ := hof.form (by omega)
      cases hv
      have hne : g ≠ w2.heap.size := fun e => own_ne hof hm (by decide) (by simp [Value.ownBlock, e])
      have c0 : wr.cell? ⟨g, k * 3, none⟩ = some (.int .i64 (F k).x) := by rw [hof.cellAt (k * 3) (by omega), show k * 3 = k * 3 + 0 by omega, cells3_get _ _ k 0 hlt (by omega)]; rw [swk_self]; rfl
      have c1 : wr.cell? ⟨g, k * 3 + 1, none⟩ = some (.int .i64 (F k).y) := by rw [hof.cellAt (k * 3 + 1) (by omega), cells3_get _ _ k 1 hlt (by omega)]; rw [swk_self]; rfl
      have c2' : wr.cell? ⟨g, k * 3 + 2, none⟩ = some (.int .i64 (F k).z) := by rw [hof.cellAt (k * 3 + 2) (by omega), cells3_get _ _ k 2 hlt (by omega)]; rw [swk_self]; rfl
      have f0 := hof.frozenAt (k * 3)
      have f1 := hof.frozenAt (k * 3 + 1)
      have f2 := hof.frozenAt (k * 3 + 2)
      clear hov hof hbel hm
      go_wp2
      go_roundw
      case rel =>
        have O1 := own_setIn (o := k * 3 + 2) (u := .int .i64 (F k).y) (own_setIn (o := k * 3 + 1) (u := .int .i64 (F k).z) (own_setIn (o := k * 3) (u := .int .i64 (F k).x) HOF.out))
        rw [swk_step F nf k hlt] at O1
        have M3 := ((((Mut.refl (· = g) wr).setCell (p := ⟨g, k * 3, none⟩) (fun _ => rfl) (.int .i64 (F k).x)).setCell (p := ⟨g, k * 3 + 1, none⟩) (fun _ => rfl) (.int .i64 (F k).z)).setCell (p := ⟨g, k * 3 + 2, none⟩) (fun _ => rfl) (.int .i64 (F k).y))
        have B3 := ((HBL.out.setCell (p := ⟨g, k * 3, none⟩) hg (.int .i64 (F k).x)).setCell (p := ⟨g, k * 3 + 1, none⟩) hg (.int .i64 (F k).z)).setCell (p := ⟨g, k * 3 + 2, none⟩) hg (.int .i64 (F k).y)
        obtain ⟨cur, hcur⟩ := own_heap HOF.out
        exact ⟨k + 1, by omega, by go_num, (Below.heap_alloc _ _ _ (Nat.lt_of_lt_of_le hlm M3.size)).trans ((M3.block _ hlm (fun e => hne e.symm)).trans HMW.out), (own_mut HOV.out M3 (fun b hb e => own_ne HOV.out hcur (by decide) (e ▸ hb))).alloc _, O1.alloc _, B3.alloc B3.size _⟩
      case measure => simp [intOf]; omega
    · obtain rfl : nf = k := by omega
      clear HO2 HO3 HB2 HMW
      have ho2 := HOV.out
      have ho3 := HOF.out
      rw [swk_all] at ho3
      have hb2 := HBL.out
      clear hov hof hbel HOV HOF HBL hm

      have HO2 := Lib.hid ho2
      have HO3 := Lib.hid ho3
      have HB2 := Lib.hid hb2
      clear ho2 ho3 hb2
      go_wp2_with (fail)
      refine (checked_any a2 a3 nv c2 nf c3 (fun i => mv 2 (V i)) (fun i => sw (F i)) _ (own_row3 HO2.out) (own_row3 HO3.out) hnv hnf).mono ?_
      rintro e w3 ⟨rfl, hb3⟩
      have hr := heap_keep hb3 (heap_keep HB2.out BX1.out)
      have hlr := lt_of_heap hr
      have rc0 : w3.cell? ⟨w.heap.size + 1, 0, none⟩ = some (.slice none 0 0) := (by simp [World.cell?, hr]); have rf0 : w3.frozen? ⟨w.heap.size + 1, 0, none⟩ = false := (by simp [World.frozen?, hr]); have rc1 : w3.cell? ⟨w.heap.size + 1, 1, none⟩ = some (.slice none 0 0) := (by simp [World.cell?, hr]); have rf1 : w3.frozen? ⟨w.heap.size + 1, 1, none⟩ = false := (by simp [World.frozen?, hr])
      have HR7 := Lib.hid hr
      generalize hE : fault nv (fun i => mv 2 (V i)) nf (fun i => sw (F i)) = E
      have R := Lib.hid (((HB.out.trans (HB2.out.mono HB.out.size)).trans (hb3.mono (Nat.le_trans HB.out.size HB2.out.size))).setCell (p := ⟨w.heap.size + 1, 0, none⟩) (by show _ ≤ w.heap.size + 1; omega) (.slice (za E a2) (zr E nv) (zr E c2)) |>.setCell (p := ⟨w.heap.size + 1, 1, none⟩) (by show _ ≤ w.heap.size + 1; omega) (.slice (za E a3) (zr E nf) (zr E c3)))
      have P1 := Lib.hid (own_set (o := 1) (u := .slice (za E a3) (zr E nf) (zr E c3)) (own_set (o := 0) (u := .slice (za E a2) (zr E nv) (zr E c2)) (ownsRow_below HO2.out hb3) HR7.out (by decide)) (set2_0 HR7.out) (by decide))
      have P2 := Lib.hid (own_set (o := 1) (u := .slice (za E a3) (zr E nf) (zr E c3)) (own_set (o := 0) (u := .slice (za E a2) (zr E nv) (zr E c2)) (ownsRow_below HO3.out hb3) HR7.out (by decide)) (set2_0 HR7.out) (by decide))
      have HE := Lib.hid hE
      clear hE hr hb3
      have hzz : w.heap.size ≤ w1.heap.size := HB.out.size
      go_wp2
      exact bodyPost_ret (v := .tuple #[.agg #[.slice (za E a2) (zr E nv) (zr E c2), .slice (za E a3) (zr E nf) (zr E c3)], .int .i64 E]) (by simp [results, Try.results7, go_sem, rc0, rc1]) rfl (MeshR.from (meshR_of P1.out P2.out (by first | omega | (simp; omega)) (by first | omega | (simp; omega)) R.out) (Below.refl _ _) HE.out.symm)

end Go.Proofs.Ytmcebhjcaacbpaa

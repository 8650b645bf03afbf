/- Steps copied and deleted; the absolute form with its error; statuses compared; the first of two errors; the package does something. -/
import Derived.Test.YthmplflmjjccfaaGt
import Derived.Test.YthmplflmjjccfaaGp
import Derived.Deep.RegionLaw
import Derived.Lib.SliceRun
set_option linter.unusedSimpArgs false
set_option linter.unusedVariables false
namespace Go.Proofs.Ythmplflmjjccfaa
open Go.RowKit
/-- Integers that fulfil P. -/
def AllInt (P : Int → Prop) (xs : List Value) : Prop := ∀ u ∈ xs, ∃ z : Int, u = .int .i64 z ∧ P z
theorem setCells_mut (b : Nat) : ∀ (vs : List Value) (o : Nat) (w : World), Mut (· = b) w (w.setCells b o vs)
  | [], _, w => Mut.refl _ _
  | v :: r, o, w => ((Mut.refl (· = b) w).setCell (p := ⟨b, o, none⟩) (fun _ => rfl) v).trans (setCells_mut b r (o + 1) _)
theorem setCells_heap (b : Nat) : ∀ (vs : List Value) (o : Nat) (w : World) (cur : Array Value) (t : TypeId), w.heap[b]? = some (.cells cur t (0, 0)) → ∃ cur', (w.setCells b o vs).heap[b]? = some (.cells cur' t (0, 0)) ∧ cur'.size = cur.size
  | [], _, w, cur, t, h => ⟨cur, h, rfl⟩
  | v :: r, o, w, cur, t, h => by
    have h1 : (w.setCell ⟨b, o, none⟩ v).heap[b]? = some (.cells (cur.setIfInBounds o v) t (0, 0)) := by simp [World.setCell, Array.getElem?_modify, h]
    obtain ⟨c', h2, h3⟩ := setCells_heap b r (o + 1) _ _ t h1
    exact ⟨c', h2, by simpa using h3⟩
theorem own_of_cells {w : World} {base g n cap : Nat} {e : TypeId} {cur : Array Value} {P : Int → Prop} (hh : w.heap[g]? = some (.cells cur e (0, 0))) (hs : cur.size = cap * 6) (hn : n ≤ cap) (hm : cap ≤ maxLen) (hb : base ≤ g)
    (hc : ∀ t, t < n * 6 → ∃ z : Int, w.cell? ⟨g, t, none⟩ = some (.int .i64 z) ∧ P z) : ∃ xs, w.ownsRow base e 6 (.slice (some ⟨g, 0, none⟩) n cap) n xs ∧ AllInt P xs := by
  refine ⟨cur.toList.take (n * 6), ⟨by simp; omega, .inr ⟨g, cap, cur, rfl, hb, hh, hn, hm, hs, rfl⟩⟩, fun u hu => ?_⟩
  obtain ⟨t, ht, rfl⟩ := List.getElem_of_mem hu
  have ht' : t < n * 6 := by simp at ht; omega
  obtain ⟨z, h1, h2⟩ := hc t ht'
  refine ⟨z, ?_, h2⟩
  simp only [World.cell?, hh] at h1
  simp only [List.getElem_take, Array.getElem_toList]
  have : cur[t]? = some (Value.int .i64 z) := by simpa using h1
  rw [Array.getElem?_eq_some_iff] at this
  obtain ⟨_, h3⟩ := this
  exact h3
theorem own_cells {w : World} {base g n cap : Nat} {e : TypeId} {xs : List Value} {P : Int → Prop} (h : w.ownsRow base e 6 (.slice (some ⟨g, 0, none⟩) n cap) n xs) (hP : AllInt P xs) :
    ∀ t, t < n * 6 → ∃ z : Int, w.cell? ⟨g, t, none⟩ = some (.int .i64 z) ∧ P z ∧ xs[t]? = some (.int .i64 z) := by
  intro t ht
  have h1 := h.cellAt t ht
  have hl : t < xs.length := by rw [h.1]; exact ht
  obtain ⟨z, h2, h3⟩ := hP xs[t] (List.getElem_mem hl)
  have h4 : xs[t]? = some (.int .i64 z) := by rw [List.getElem?_eq_getElem hl, h2]
  exact ⟨z, h1.trans h4, h3, h4⟩

theorem is_some' {w : World} {q : Addr} {v : Value} (h : w.cell? q = some v) : (w.cell? q).isSome = true := by rw [h]; rfl
theorem run_clear6 (w : World) (ty : TypeId) (b o c : Nat) (hc : ∀ j, j < 6 → (w.cell? ⟨b, o + j, none⟩).isSome = true) (hf : ∀ j, j < 6 → w.frozen? ⟨b, o + j, none⟩ = false) :
    (Builtin.clear_ #[26] ty #[.slice (some ⟨b, o, none⟩) 1 c]).run Try.prog w = .ok (.tuple #[]) (w.setCells b o [.int .i64 0, .int .i64 0, .int .i64 0, .int .i64 0, .int .i64 0, .int .i64 0]) := by
  have hst := run_storeCells_cells (P := Try.prog) b o [.int .i64 0, .int .i64 0, .int .i64 0, .int .i64 0, .int .i64 0, .int .i64 0] 0 w (by simpa using hc) (by simpa using hf) (by simp [Value.oneCell'])
  have hv : ∀ w, (zeroValue 36).run Try.prog w = .ok (.agg #[.int .i64 0, .int .i64 0, .int .i64 0, .int .i64 0, .int .i64 0, .int .i64 0]) w := fun w => by kernel_rfl
  have hzc : (Builtin.zeroCells (Value.agg #[.int .i64 0, .int .i64 0, .int .i64 0, .int .i64 0, .int .i64 0, .int .i64 0]).cells 1).toList = [.int .i64 0, .int .i64 0, .int .i64 0, .int .i64 0, .int .i64 0, .int .i64 0] := by kernel_rfl
  simp only [Nat.add_zero] at hst
  simp [Builtin.clear_, run_underlying Try.underlying26, hv, hzc, hst]

def DelPost (w : World) (base g n cap : Nat) (P : Int → Prop) (e : Ending) (w' : World) : Prop :=
  ∃ xs, e = .returned (.slice (some ⟨g, 0, none⟩) (n - 1) cap) ∧ w'.ownsRow base 36 6 (.slice (some ⟨g, 0, none⟩) (n - 1) cap) (n - 1) xs ∧ AllInt P xs ∧ Mut (· = g) w w'

theorem sV_int (S : Nat → St) (n : Nat) : AllInt (fun _ => True) (flat (fun i => sV (S i)) n) := by
  induction n with
  | zero => intro u hu; cases hu
  | succ n ih =>
    intro u hu
    simp only [flat, List.mem_append] at hu
    rcases hu with hu | hu
    · exact ih u hu
    · simp only [sV, List.mem_cons, List.not_mem_nil, or_false] at hu
      rcases hu with rfl | rfl | rfl | rfl | rfl | rfl <;> exact ⟨_, rfl, trivial⟩
theorem steps_of_int {w : World} {base m c : Nat} {a : Option Addr} {xs : List Value} {P : Int → Prop} (h : w.ownsRow base 36 6 (.slice a m c) m xs) (hx : AllInt P xs) : ∃ S, StepsR w a m S := by
  refine ⟨fun i => ⟨intOf (xs.getD (i * 6) undef), intOf (xs.getD (i * 6 + 1) undef), intOf (xs.getD (i * 6 + 2) undef), intOf (xs.getD (i * 6 + 3) undef), intOf (xs.getD (i * 6 + 4) undef), intOf (xs.getD (i * 6 + 5) undef)⟩, ?_⟩
  by_cases hm : m = 0
  · exact .inl hm
  · obtain ⟨g, cap', hv, _, hlt⟩ := h.form (by omega)
    cases hv
    refine .inr ⟨g, 0, rfl, hlt, fun i hi => ?_⟩
    have hk : ∀ j, j < m * 6 → w.cell? ⟨g, j, none⟩ = some (.int .i64 (intOf (xs.getD j undef))) := fun j hj => by
      rw [h.cellAt j (by omega)]
      have hl : j < xs.length := by rw [h.1]; omega
      obtain ⟨z, hz, _⟩ := hx xs[j] (List.getElem_mem hl)
      simp [hl, hz, intOf]
    simp only [Nat.zero_add]
    exact ⟨hk _ (by omega), hk _ (by omega), hk _ (by omega), hk _ (by omega), hk _ (by omega), hk _ (by omega)⟩
theorem steps_news {w : World} {b off n : Nat} {S : Nat → St} (h : StepsR w (some ⟨b, off, none⟩) n S) : ∀ j u, (flat (fun i => sV (S i)) n)[j]? = some u → w.cell? (Addr.add ⟨b, off, none⟩ j) = some u := by
  intro j u hu
  rcases h with h | ⟨b', off', he, _, hd⟩
  · subst h; simp [flat] at hu
  · cases he
    have hl := flat_len (f := fun i => sV (S i)) (n := n) (k := 6) (fun _ => rfl)
    have hj : j < n * 6 := by rw [← hl]; exact (List.getElem?_eq_some_iff.1 hu).1
    have hd' := hd (j / 6) (by omega)
    have hg := flat_get (f := fun i => sV (S i)) (n := n) (i := j / 6) (j := j % 6) (k := 6) (fun _ => rfl) (by omega) (by omega)
    rw [show j / 6 * 6 + j % 6 = j by omega, hu] at hg
    rw [Addr.add_lit]
    have hm : j % 6 = 0 ∨ j % 6 = 1 ∨ j % 6 = 2 ∨ j % 6 = 3 ∨ j % 6 = 4 ∨ j % 6 = 5 := by omega
    obtain ⟨p0, p1, p2, p3, p4, p5⟩ := hd'
    rcases hm with hm | hm | hm | hm | hm | hm <;> rw [hm] at hg <;> simp only [sV, List.getElem?_cons_zero, List.getElem?_cons_succ] at hg <;> rw [hg]
    · rw [← p0]; congr 2; omega
    · rw [← p1]; congr 2; omega
    · rw [← p2]; congr 2; omega
    · rw [← p3]; congr 2; omega
    · rw [← p4]; congr 2; omega
    · rw [← p5]; congr 2; omega
theorem sV_one (S : Nat → St) (n : Nat) : ∀ u ∈ flat (fun i => sV (S i)) n, u.oneCell' = true := by
  intro u hu
  obtain ⟨z, rfl, _⟩ := sV_int S n u hu
  rfl
set_option maxHeartbeats 1000000 in
theorem clone_any (b off n c : Nat) (S : Nat → St) (w : World) (hb : b < w.heap.size) (h : StepsR w (some ⟨b, off, none⟩) n S) (h0 : 0 < n) (hn : n ≤ 1000) :
    Calls Try.prog 35 #[.slice (some ⟨b, off, none⟩) n c] w fun e w' => ∃ g c', e = .returned (.slice (some ⟨g, 0, none⟩) n c') ∧ w'.ownsRow w.heap.size 36 6 (.slice (some ⟨g, 0, none⟩) n c') n (flat (fun i => sV (S i)) n) ∧ Below w.heap.size w w' := by
  obtain ⟨i0, hi0, hz0, hz1, hz2⟩ := info_parts2 info_st
  have q22 := fun (w : World) (a : Option Addr) (n c n' c' : Nat) => Lib.run_eql_slice_nil (P := Try.prog) w _ _ a n c n' c' Try.underlying26
  have HT := Lib.hid h
  clear h
  go_enter Try.func35, Try.ntmps35
  go_wp2_with (at_builtin; refine wpList_append_lies _ rfl _ _ 26 rfl w.heap.size 36 i0 (.agg #[.int .i64 0, .int .i64 0, .int .i64 0, .int .i64 0, .int .i64 0, .int .i64 0]) 6 48 Try.underlying26 hi0 hz0 hz1 hz2 rfl (by decide) _ _ _ rfl (World.ownsRow_made w #[] 0 (Nat.le_refl _) (by unfold maxLen; omega) rfl) ⟨b, off, none⟩ n c (flat (fun i => sV (S i)) n) rfl (flat_len (fun _ => rfl)) (steps_news (HT.out.kept ((Below.refl _ w).alloc (Nat.le_refl _) _))) (sV_one S n) (by omega) (by unfold maxLen; omega) (by omega) (by simp) (w.heap.size + 1) (by simp) ?_; intro g cap' w' hown hgrow _ _; have HO := Lib.hid hown; have HG := Lib.hid (Below.grown ((Below.refl _ w).alloc (Nat.le_refl _) (.cells #[] 36)) hgrow (by simp) (fun b hb => by cases hb; exact Nat.le_refl _)); clear hown hgrow)
  go_ret
  have ho := HO.out
  simp only [Nat.zero_add, List.nil_append] at ho
  exact ⟨_, _, by (simp only [Nat.zero_add]; rfl), ho, HG.out⟩

/-! ### The absolute form, with its error -/
def absE (n : Nat) (S : Nat → St) : Int := stepsE (absL S n).length (lf (absL S n))
set_option maxRecDepth 100000 in
set_option maxHeartbeats 4000000 in
theorem absoluteOf_any (a : Option Addr) (n c : Nat) (S : Nat → St) (w : World) (hn : n ≤ 5000) (hok : ∀ i, i < n → SOk (S i)) (hp : StepsR w a n S) :
    Calls Try.prog 11 #[.slice a n c] w fun e w' => ∃ ao no co T, e = .returned (.tuple #[.slice ao no co, .int .i64 (absE n S)]) ∧ no ≤ n ∧ no ≤ co ∧ StepsR w' ao no T ∧ Below w.heap.size w w' ∧ (absE n S = 0 → no = (absL S n).length ∧ T = lf (absL S n)) ∧ (absE n S ≠ 0 → no = 0) ∧ (0 < no → ∀ x, ao = some x → w.heap.size ≤ x.block) := by
  go_enter Try.func11, Try.ntmps11
  go_wp2_with (fail)
  refine (absolute_any a n c S w hn hok hp).mono ?_
  rintro e w1 ⟨ao, co, rfl, hown, hb⟩
  have HO := Lib.hid hown
  have B1 := Lib.hid hb
  have hL := absL_len S n
  have HL := Lib.hid hL
  have HEE := Lib.hid (show stepsE (absL S n).length (lf (absL S n)) = absE n S from rfl)
  clear hown hb
  obtain ⟨L, hLL⟩ : ∃ L, (absL S n).length = L := ⟨_, rfl⟩
  have HLL := Lib.hid hLL
  rw [hLL] at HO hL HEE ⊢
  clear hLL
  go_wp2_with (fail)
  refine (stepsFault_any ao L co (lf (absL S n)) w1 (by omega) (own_rowS HO.out HLL.out.symm)).mono ?_
  rintro e w2 ⟨rfl, hb⟩
  replace HO := Lib.hid (ownsRow_below HO.out hb)
  have B2 := Lib.hid (B1.out.trans (hb.mono B1.out.size))
  clear hb
  rw [HEE.out]
  by_cases hz : absE n S = 0
  · have HZ := Lib.hid hz
    have hz' : (absE n S != 0) = false := by simp [hz]
    clear hz
    go_wp2_with (fail)
    exact bodyPost_ret (v := .tuple #[.slice ao L co, .int .i64 0]) (by simp [results, Try.results11, go_sem]) rfl ⟨ao, L, co, _, by rw [HZ.out], hL, own_cap HO.out, own_rowS HO.out HLL.out.symm, B2.out, fun _ => ⟨HLL.out.symm, rfl⟩, fun h => absurd HZ.out h, fun _ x hx => (HO.out.lt x.block (by rw [hx]; rfl)).1⟩
  · have HZ := Lib.hid hz
    have hz' : (absE n S != 0) = true := by simpa using hz
    clear hz
    go_wp2_with (fail)
    exact bodyPost_ret (v := .tuple #[.slice none 0 0, .int .i64 (absE n S)]) (by simp [results, Try.results11, go_sem]) rfl ⟨none, 0, 0, fun _ => s00, rfl, by omega, by omega, .inl rfl, B2.out, fun h => absurd h HZ.out, fun _ => rfl, fun h => absurd h (by omega)⟩
theorem errs2_any (g : Nat) (a b : Int) (w : World) (hg : w.heap.size = g) : Calls Try.prog 10 #[.slice (some ⟨g, 0, none⟩) 2 2] (w.alloc (.cells #[.int .i64 a, .int .i64 b] 28)) fun e w' => e = .returned (.int .i64 (if a = 0 then b else a)) ∧ w.alloc (.cells #[.int .i64 a, .int .i64 b] 28) = w' := by
  subst hg
  by_cases ha : a = 0
  · subst ha
    by_cases hb : b = 0
    · subst hb
      go_enter Try.func10, Try.ntmps10
      go_wp2
      refine wp_loop_rounds 3 ?_
      rw [rounds_succ]; go_wp2
      rw [rounds_succ]; go_wp2
      rw [rounds_succ]; go_wp2
      go_ret
      exact ⟨rfl, rfl⟩
    · have e1 : (b != 0) = true := by simpa using hb
      have HB := Lib.hid hb
      clear hb
      go_enter Try.func10, Try.ntmps10
      go_wp2
      refine wp_loop_rounds 3 ?_
      rw [rounds_succ]; go_wp2
      rw [rounds_succ]; go_wp2
      go_ret
      exact ⟨ret_int (by simp), rfl⟩
  · have e1 : (a != 0) = true := by simpa using ha
    have HA := Lib.hid ha
    clear ha
    go_enter Try.func10, Try.ntmps10
    go_wp2
    refine wp_loop_rounds 3 ?_
    rw [rounds_succ]; go_wp2
    go_ret
    exact ⟨ret_int (by simp [HA.out]), rfl⟩
set_option maxRecDepth 100000 in
set_option maxHeartbeats 4000000 in
theorem coded_any (w : World) : Calls Try.prog 16 #[] w fun e w' => e = .returned (.bool true) ∧ Below w.heap.size w w' := by
  have hb1 : Below w.heap.size w (w.alloc (.cells #[.int .i64 3, .int .i64 5, .int .i64 0, .int .i64 0, .int .i64 0, .int .i64 0] 36)) := (by repeat (first | exact Below.refl _ _ | assumption | refine Below.drew ?_ | refine bdrewN ?_ _ | refine Below.setCell ?_ (by first | omega | (simp <;> omega)) _ | refine Below.alloc ?_ (by first | omega | (simp <;> omega)) _))
  have B1 := Lib.hid hb1
  have hh := heap_alloc_new w (.cells #[.int .i64 3, .int .i64 5, .int .i64 0, .int .i64 0, .int .i64 0, .int .i64 0] 36)
  have HS : Hid (StepsR (w.alloc (.cells #[.int .i64 3, .int .i64 5, .int .i64 0, .int .i64 0, .int .i64 0, .int .i64 0] 36)) (some ⟨w.heap.size, 0, none⟩) 1 (fun _ => ⟨3, 5, 0, 0, 0, 0⟩)) := Lib.hid (.inr ⟨w.heap.size, 0, rfl, lt_of_heap hh, fun i hi => by
    obtain rfl : i = 0 := by omega
    exact ⟨cell_of hh rfl, cell_of hh rfl, cell_of hh rfl, cell_of hh rfl, cell_of hh rfl, cell_of hh rfl⟩⟩)
  clear hb1 hh
  have hE1 : stepsE 1 (fun _ => ⟨3, 5, 0, 0, 0, 0⟩) = 0 := by decide
  have hL1 : lastM 1 (fun _ => ⟨3, 5, 0, 0, 0, 0⟩) = ⟨5, 0, 0, 0, 0, 0, 0, false⟩ := by unfold lastM; rw [if_pos hE1]; decide
  have HE1 := Lib.hid hE1
  have HL1 := Lib.hid hL1
  clear hE1 hL1
  go_enter Try.func16, Try.ntmps16
  go_wp2_with (fail)
  refine (last_any _ 1 1 _ _ (by omega) HS.out).mono ?_
  rintro e w2 ⟨rfl, hb⟩
  rw [HE1.out, HL1.out]
  have B2 := Lib.hid (B1.out.trans (hb.mono B1.out.size))
  clear hb
  have B3 := Lib.hid (B2.out.trans ((Below.refl w2.heap.size w2).alloc (Nat.le_refl _) (.cells #[.int .i64 5, .int .i64 0, .int .i64 0, .int .i64 0, .int .i64 0, .int .i64 0, .int .i64 0, .bool false] 44) |>.mono B2.out.size))
  go_wp2_with (fail)
  go_ret
  exact ⟨rfl, B3.out⟩
end Go.Proofs.Ythmplflmjjccfaa

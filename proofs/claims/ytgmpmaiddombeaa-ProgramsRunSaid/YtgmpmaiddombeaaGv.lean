/- Steps copied and deleted; the absolute form with its error; statuses compared; the first of two errors; the package does something. -/
import Derived.Test.YtgmpmaiddombeaaGt
import Derived.Test.YtgmpmaiddombeaaGp
import Derived.Deep.RegionLaw
import Derived.Lib.SliceRun
set_option linter.unusedSimpArgs false
set_option linter.unusedVariables false
namespace Go.Proofs.Ytgmpmaiddombeaa
open Go.RowKit
/-- Integers that fulfil P. -/
def AllInt (P : Int → Prop) (xs : List Value) : Prop := ∀ u ∈ xs, ∃ z : Int, u = .int .i64 z ∧ P z
theorem setCells_mut (b : Nat) : ∀ (vs : List Value) (o : Nat) (w : World), Mut (· = b) w (w.setCells b o vs)
  | [], _, w => Mut.refl _ _
  | v :: r, o, w => ((Mut.refl (· = b) w).setCell (p := ⟨b, o, none⟩) (fun _ => rfl) v).trans (setCells_mut b r (o + 1) _)
theorem setCells_heap (b : Nat) : ∀ (vs : List Value) (o : Nat) (w : World) (cur : Array Value) (t : TypeId), w.heap[b]? = some (.cells cur t (0, 0)) → ∃ cur', (w.setCells b o vs).heap[b]? = some (.cells cur' t (0, 0)) ∧ cur'.size = cur.size
  | [], _, w, cur, t, h => ⟨cur, h, rfl⟩
  | v :: r, o, w, cur, t, h => by
    have h1 : (w.setCell ⟨b, o, none⟩ v).heap[b]? = some (.cells (cur.setIfInBounds o v) t (0, 0)) := by simp [World.setCell, Array.getElem?_modify, h]
    obtain ⟨c', h2, h3⟩ := setCells_heap b r (o + 1) _ _ t h1
    exact ⟨c', h2, by simpa using h3⟩
theorem own_of_cells {w : World} {base g n cap : Nat} {e : TypeId} {cur : Array Value} {P : Int → Prop} (hh : w.heap[g]? = some (.cells cur e (0, 0))) (hs : cur.size = cap * 6) (hn : n ≤ cap) (hm : cap ≤ maxLen) (hb : base ≤ g)
    (hc : ∀ t, t < n * 6 → ∃ z : Int, w.cell? ⟨g, t, none⟩ = some (.int .i64 z) ∧ P z) : ∃ xs, w.ownsRow base e 6 (.slice (some ⟨g, 0, none⟩) n cap) n xs ∧ AllInt P xs := by
  refine ⟨cur.toList.take (n * 6), ⟨by simp; omega, .inr ⟨g, cap, cur, rfl, hb, hh, hn, hm, hs, rfl⟩⟩, fun u hu => ?_⟩
  obtain ⟨t, ht, rfl⟩ := List.getElem_of_mem hu
  have ht' : t < n * 6 := by simp at ht; omega
  obtain ⟨z, h1, h2⟩ := hc t ht'
  refine ⟨z, ?_, h2⟩
  simp only [World.cell?, hh] at h1
  simp only [List.getElem_take, Array.getElem_toList]
  have : cur[t]? = some (Value.int .i64 z) := by simpa using h1
  rw [Array.getElem?_eq_some_iff] at this
  obtain ⟨_, h3⟩ := this
  exact h3
theorem own_cells {w : World} {base g n cap : Nat} {e : TypeId} {xs : List Value} {P : Int → Prop} (h : w.ownsRow base e 6 (.slice (some ⟨g, 0, none⟩) n cap) n xs) (hP : AllInt P xs) :
    ∀ t, t < n * 6 → ∃ z : Int, w.cell? ⟨g, t, none⟩ = some (.int .i64 z) ∧ P z ∧ xs[t]? = some (.int .i64 z) := by
  intro t ht
  have h1 := h.cellAt t ht
  have hl : t < xs.length := by rw [h.1]; exact ht
  obtain ⟨z, h2, h3⟩ := hP xs[t] (List.getElem_mem hl)
  have h4 : xs[t]? = some (.int .i64 z) := by rw [List.getElem?_eq_getElem hl, h2]
  exact ⟨z, h1.trans h4, h3, h4⟩

theorem is_some' {w : World} {q : Addr} {v : Value} (h : w.cell? q = some v) : (w.cell? q).isSome = true := by rw [h]; rfl
theorem run_clear6 (w : World) (ty : TypeId) (b o c : Nat) (hc : ∀ j, j < 6 → (w.cell? ⟨b, o + j, none⟩).isSome = true) (hf : ∀ j, j < 6 → w.frozen? ⟨b, o + j, none⟩ = false) :
    (Builtin.clear_ #[26] ty #[.slice (some ⟨b, o, none⟩) 1 c]).run Try.prog w = .ok (.tuple #[]) (w.setCells b o [.int .i64 0, .int .i64 0, .int .i64 0, .int .i64 0, .int .i64 0, .int .i64 0]) := by
  have hst := run_storeCells_cells (P := Try.prog) b o [.int .i64 0, .int .i64 0, .int .i64 0, .int .i64 0, .int .i64 0, .int .i64 0] 0 w (by simpa using hc) (by simpa using hf) (by simp [Value.oneCell'])
  have hv : ∀ w, (zeroValue 36).run Try.prog w = .ok (.agg #[.int .i64 0, .int .i64 0, .int .i64 0, .int .i64 0, .int .i64 0, .int .i64 0]) w := fun w => by kernel_rfl
  have hzc : (Builtin.zeroCells (Value.agg #[.int .i64 0, .int .i64 0, .int .i64 0, .int .i64 0, .int .i64 0, .int .i64 0]).cells 1).toList = [.int .i64 0, .int .i64 0, .int .i64 0, .int .i64 0, .int .i64 0, .int .i64 0] := by kernel_rfl
  simp only [Nat.add_zero] at hst
  simp [Builtin.clear_, run_underlying Try.underlying26, hv, hzc, hst]

def DelPost (w : World) (base g n cap : Nat) (P : Int → Prop) (e : Ending) (w' : World) : Prop :=
  ∃ xs, e = .returned (.slice (some ⟨g, 0, none⟩) (n - 1) cap) ∧ w'.ownsRow base 36 6 (.slice (some ⟨g, 0, none⟩) (n - 1) cap) (n - 1) xs ∧ AllInt P xs ∧ Mut (· = g) w w'

set_option maxRecDepth 100000 in
set_option maxHeartbeats 4000000 in
theorem delete_any (base g m cap i : Nat) (P : Int → Prop) (xs : List Value) (w : World) (h : w.ownsRow base 36 6 (.slice (some ⟨g, 0, none⟩) (i + 1 + m) cap) (i + 1 + m) xs) (hP : AllInt P xs) (hn : i + 1 + m ≤ 1000) :
    Calls Try.prog 9 #[.slice (some ⟨g, 0, none⟩) (i + 1 + m) cap, .int .i64 i, .int .i64 ((i : Int) + 1)] w (DelPost w base g (i + 1 + m) cap P) := by
  obtain ⟨i1, hi1, hy0, hy1, hy2⟩ := info_parts2 info_st
  have hcs := own_cells h hP
  have hfz := fun t => h.frozenAt t
  obtain ⟨hxl, hx⟩ := h
  obtain ⟨cur, hh, hnc, hcm, hcz, hbg⟩ : ∃ cur, w.heap[g]? = some (.cells cur 36 (0, 0)) ∧ i + 1 + m ≤ cap ∧ cap ≤ maxLen ∧ cur.size = cap * 6 ∧ base ≤ g := by
    rcases hx with ⟨h1, _⟩ | ⟨g', cap', cur, h1, h2, h3, h4, h5, h6, _⟩
    · cases h1
    · simp only [Value.slice.injEq, Option.some.injEq, Addr.mk.injEq, true_and, and_true] at h1
      obtain ⟨rfl, rfl⟩ := h1
      exact ⟨cur, h3, h4, h5, h6, h2⟩
  obtain ⟨news, hnews⟩ : ∃ news, news = xs.drop ((i + 1) * 6) := ⟨_, rfl⟩
  have hlen : news.length = m * 6 := by rw [hnews]; simp [hxl]; omega
  obtain ⟨A, hA, hsrc⟩ : ∃ A : Addr, (if cap = i + 1 then (some (⟨g, 0, none⟩ : Addr)) else some ⟨g, (i + 1) * 6, none⟩) = some A ∧ Hid (∀ t u, news[t]? = some u → w.drew.cell? (A.add t) = some u) := by
    by_cases hc : cap = i + 1
    · refine ⟨⟨g, 0, none⟩, by simp [hc], fun t u hu => ?_⟩
      have h0 : news.length = 0 := by rw [hlen, show m = 0 by omega]
      rw [List.length_eq_zero_iff.1 h0] at hu
      simp at hu
    · refine ⟨⟨g, (i + 1) * 6, none⟩, by simp [hc], fun t u hu => ?_⟩
      have ht : t < m * 6 := by
        have := (List.getElem?_eq_some_iff.1 hu).1
        rwa [hlen] at this
      obtain ⟨z, h1, _, h3⟩ := hcs ((i + 1) * 6 + t) (by omega)
      rw [hnews, List.getElem?_drop, h3] at hu
      rw [Addr.add_lit]
      exact h1.trans hu
  have s1 : Hid (news.length = m * 6) := hlen
  have s2 : Hid (∀ u ∈ news, u.oneCell' = true) := by
    intro u hu
    rw [hnews] at hu
    obtain ⟨z, rfl, _⟩ := hP u (List.mem_of_mem_drop hu)
    rfl
  have hso : ∀ t, t < news.length → (w.drew.cell? ⟨g, 0 + i * 6 + t, none⟩).isSome = true := by
    intro t ht
    rw [hlen] at ht
    obtain ⟨z, h1, _⟩ := hcs (0 + i * 6 + t) (by omega)
    exact is_some' h1
  have s3 : Hid (∀ t, t < news.length → (w.drew.cell? ⟨g, 0 + i * 6 + t, none⟩).isSome = true ∧ w.drew.frozen? ⟨g, 0 + i * 6 + t, none⟩ = false) := fun t ht => ⟨hso t ht, hfz _⟩
  obtain ⟨W1, hW1⟩ : ∃ W1, W1 = w.drew.setCells g (0 + i * 6) news := ⟨_, rfl⟩
  have hM1 : Mut (· = g) w W1 := by rw [hW1]; exact (Mut.refl _ w).drew.trans (setCells_mut g news _ _)
  obtain ⟨cur1, hh1, hz1⟩ : ∃ cur1, W1.heap[g]? = some (.cells cur1 36 (0, 0)) ∧ cur1.size = cur.size := by
    rw [hW1]; exact setCells_heap g news _ w.drew cur _ hh
  have hc1 : ∀ t, t < (i + 1 + m) * 6 → ∃ z : Int, W1.cell? ⟨g, t, none⟩ = some (.int .i64 z) ∧ P z := by
    intro t ht
    by_cases hr : i * 6 ≤ t ∧ t < i * 6 + m * 6
    · obtain ⟨z, _, h2, h3⟩ := hcs ((i + 1) * 6 + (t - i * 6)) (by omega)
      refine ⟨z, ?_, h2⟩
      have := World.cell?_setCells_in g news (0 + i * 6) w.drew hso (t - i * 6) (by rw [hlen]; omega)
      rw [show 0 + i * 6 + (t - i * 6) = t by omega] at this
      rw [hW1, this]
      have h5 : news[t - i * 6]? = some (Value.int .i64 z) := by rw [hnews, List.getElem?_drop]; exact h3
      rw [List.getElem?_eq_getElem (by rw [hlen]; omega)] at h5
      exact h5
    · obtain ⟨z, h1, h2, _⟩ := hcs t ht
      refine ⟨z, ?_, h2⟩
      rw [hW1, World.cell?_setCells_out g news (0 + i * 6) w.drew ⟨g, t, none⟩ (fun _ _ => by dsimp only; rw [hlen]; omega)]
      exact h1
  have hf1 : ∀ t, W1.frozen? ⟨g, t, none⟩ = false := fun t => by rw [hW1, World.frozen?_setCells]; exact hfz t
  have hcl : ∀ ty, (Builtin.clear_ #[26] ty #[.slice (some ⟨g, (i + m) * 6, none⟩) (i + 1 + m - (i + m)) (cap - (i + m))]).run Try.prog W1 = .ok (.tuple #[]) (W1.setCells g ((i + m) * 6) [.int .i64 0, .int .i64 0, .int .i64 0, .int .i64 0, .int .i64 0, .int .i64 0]) := fun ty => by
    rw [show i + 1 + m - (i + m) = 1 by omega]
    exact run_clear6 W1 ty g ((i + m) * 6) (cap - (i + m)) (fun j hj => by obtain ⟨z, h1, _⟩ := hc1 ((i + m) * 6 + j) (by omega); exact is_some' h1) (fun j _ => hf1 _)
  have HE : Hid (DelPost w base g (i + 1 + m) cap P (.returned (.slice (some ⟨g, 0, none⟩) (i + m) cap)) (W1.setCells g ((i + m) * 6) [.int .i64 0, .int .i64 0, .int .i64 0, .int .i64 0, .int .i64 0, .int .i64 0])) := by
    obtain ⟨cur2, hh2, hz2⟩ := setCells_heap g [.int .i64 0, .int .i64 0, .int .i64 0, .int .i64 0, .int .i64 0, .int .i64 0] ((i + m) * 6) W1 cur1 _ hh1
    obtain ⟨ys, o1, o2⟩ := own_of_cells (n := i + m) (P := P) hh2 (by rw [hz2, hz1, hcz]) (by omega) hcm hbg (fun t ht => by
      obtain ⟨z, h1, h2⟩ := hc1 t (by omega)
      refine ⟨z, ?_, h2⟩
      rw [World.cell?_setCells_out g _ _ W1 ⟨g, t, none⟩ (fun _ _ => .inl (by dsimp only; omega))]
      exact h1)
    exact ⟨ys, by rw [show i + 1 + m - 1 = i + m by omega], by rw [show i + 1 + m - 1 = i + m by omega]; exact o1, o2, hM1.trans (setCells_mut g _ _ _)⟩
  have hW : Hid (W1 = w.drew.setCells g (0 + i * 6) news) := hW1
  have hic : i ≤ cap := by omega
  have hjc : i + 1 ≤ cap := by omega
  have b0 : (0 : Int) ≤ (i : Int) + 1 := by omega
  have b1 : (i : Int) + 1 ≤ (i : Int) + 1 + (m : Int) := by omega
  have hcm' : cap ≤ 9223372036854775807 := by unfold maxLen at hcm; omega
  clear hW1 hc1 hf1 hcs hfz hso hx hh hh1 hM1 hnews hlen hP hxl hcz hz1
  go_enter Try.func9, Try.ntmps9
  go_wp2_with fail
  go_region_law (refine step_append_room rfl (.tmp 22) (.tmp 25) 26 rfl 36 i1 6 Try.underlying26 hi1 hy1 g 0 i cap (by simp [Act.eval, Act.put]) A m (cap - (i + 1)) news (by simp [Act.eval, Act.put]) s1.out hsrc.out s2.out (by omega) s3.out ?_; rw [← hW.out])
  go_wp2
  go_ret
  exact HE.out
theorem sV_int (S : Nat → St) (n : Nat) : AllInt (fun _ => True) (flat (fun i => sV (S i)) n) := by
  induction n with
  | zero => intro u hu; cases hu
  | succ n ih =>
    intro u hu
    simp only [flat, List.mem_append] at hu
    rcases hu with hu | hu
    · exact ih u hu
    · simp only [sV, List.mem_cons, List.not_mem_nil, or_false] at hu
      rcases hu with rfl | rfl | rfl | rfl | rfl | rfl <;> exact ⟨_, rfl, trivial⟩
theorem steps_of_int {w : World} {base m c : Nat} {a : Option Addr} {xs : List Value} {P : Int → Prop} (h : w.ownsRow base 36 6 (.slice a m c) m xs) (hx : AllInt P xs) : ∃ S, StepsR w a m S := by
  refine ⟨fun i => ⟨intOf (xs.getD (i * 6) undef), intOf (xs.getD (i * 6 + 1) undef), intOf (xs.getD (i * 6 + 2) undef), intOf (xs.getD (i * 6 + 3) undef), intOf (xs.getD (i * 6 + 4) undef), intOf (xs.getD (i * 6 + 5) undef)⟩, ?_⟩
  by_cases hm : m = 0
  · exact .inl hm
  · obtain ⟨g, cap', hv, _, hlt⟩ := h.form (by omega)
    cases hv
    refine .inr ⟨g, 0, rfl, hlt, fun i hi => ?_⟩
    have hk : ∀ j, j < m * 6 → w.cell? ⟨g, j, none⟩ = some (.int .i64 (intOf (xs.getD j undef))) := fun j hj => by
      rw [h.cellAt j (by omega)]
      have hl : j < xs.length := by rw [h.1]; omega
      obtain ⟨z, hz, _⟩ := hx xs[j] (List.getElem_mem hl)
      simp [hl, hz, intOf]
    simp only [Nat.zero_add]
    exact ⟨hk _ (by omega), hk _ (by omega), hk _ (by omega), hk _ (by omega), hk _ (by omega), hk _ (by omega)⟩
theorem steps_news {w : World} {b off n : Nat} {S : Nat → St} (h : StepsR w (some ⟨b, off, none⟩) n S) : ∀ j u, (flat (fun i => sV (S i)) n)[j]? = some u → w.cell? (Addr.add ⟨b, off, none⟩ j) = some u := by
  intro j u hu
  rcases h with h | ⟨b', off', he, _, hd⟩
  · subst h; simp [flat] at hu
  · cases he
    have hl := flat_len (f := fun i => sV (S i)) (n := n) (k := 6) (fun _ => rfl)
    have hj : j < n * 6 := by rw [← hl]; exact (List.getElem?_eq_some_iff.1 hu).1
    have hd' := hd (j / 6) (by omega)
    have hg := flat_get (f := fun i => sV (S i)) (n := n) (i := j / 6) (j := j % 6) (k := 6) (fun _ => rfl) (by omega) (by omega)
    rw [show j / 6 * 6 + j % 6 = j by omega, hu] at hg
    rw [Addr.add_lit]
    have hm : j % 6 = 0 ∨ j % 6 = 1 ∨ j % 6 = 2 ∨ j % 6 = 3 ∨ j % 6 = 4 ∨ j % 6 = 5 := by omega
    obtain ⟨p0, p1, p2, p3, p4, p5⟩ := hd'
    rcases hm with hm | hm | hm | hm | hm | hm <;> rw [hm] at hg <;> simp only [sV, List.getElem?_cons_zero, List.getElem?_cons_succ] at hg <;> rw [hg]
    · rw [← p0]; congr 2; omega
    · rw [← p1]; congr 2; omega
    · rw [← p2]; congr 2; omega
    · rw [← p3]; congr 2; omega
    · rw [← p4]; congr 2; omega
    · rw [← p5]; congr 2; omega
theorem sV_one (S : Nat → St) (n : Nat) : ∀ u ∈ flat (fun i => sV (S i)) n, u.oneCell' = true := by
  intro u hu
  obtain ⟨z, rfl, _⟩ := sV_int S n u hu
  rfl
set_option maxHeartbeats 1000000 in
theorem clone_any (b off n c : Nat) (S : Nat → St) (w : World) (hb : b < w.heap.size) (h : StepsR w (some ⟨b, off, none⟩) n S) (h0 : 0 < n) (hn : n ≤ 1000) :
    Calls Try.prog 10 #[.slice (some ⟨b, off, none⟩) n c] w fun e w' => ∃ g c', e = .returned (.slice (some ⟨g, 0, none⟩) n c') ∧ w'.ownsRow w.heap.size 36 6 (.slice (some ⟨g, 0, none⟩) n c') n (flat (fun i => sV (S i)) n) ∧ Below w.heap.size w w' := by
  obtain ⟨i0, hi0, hz0, hz1, hz2⟩ := info_parts2 info_st
  have q22 := fun (w : World) (a : Option Addr) (n c n' c' : Nat) => Lib.run_eql_slice_nil (P := Try.prog) w _ _ a n c n' c' Try.underlying26
  have HT := Lib.hid h
  clear h
  go_enter Try.func10, Try.ntmps10
  go_wp2_with (at_builtin; refine wpList_append_lies _ rfl _ _ 26 rfl w.heap.size 36 i0 (.agg #[.int .i64 0, .int .i64 0, .int .i64 0, .int .i64 0, .int .i64 0, .int .i64 0]) 6 48 Try.underlying26 hi0 hz0 hz1 hz2 rfl (by decide) _ _ _ rfl (World.ownsRow_made w #[] 0 (Nat.le_refl _) (by unfold maxLen; omega) rfl) ⟨b, off, none⟩ n c (flat (fun i => sV (S i)) n) rfl (flat_len (fun _ => rfl)) (steps_news (HT.out.kept ((Below.refl _ w).alloc (Nat.le_refl _) _))) (sV_one S n) (by omega) (by unfold maxLen; omega) (by omega) (by simp) (w.heap.size + 1) (by simp) ?_; intro g cap' w' hown hgrow _ _; have HO := Lib.hid hown; have HG := Lib.hid (Below.grown ((Below.refl _ w).alloc (Nat.le_refl _) (.cells #[] 36)) hgrow (by simp) (fun b hb => by cases hb; exact Nat.le_refl _)); clear hown hgrow)
  go_ret
  have ho := HO.out
  simp only [Nat.zero_add, List.nil_append] at ho
  exact ⟨_, _, by (simp only [Nat.zero_add]; rfl), ho, HG.out⟩

/-! ### The absolute form, with its error -/
def absE (n : Nat) (S : Nat → St) : Int := stepsE (absL S n).length (lf (absL S n))
set_option maxRecDepth 100000 in
set_option maxHeartbeats 4000000 in
theorem absoluteOf_any (a : Option Addr) (n c : Nat) (S : Nat → St) (w : World) (hn : n ≤ 5000) (hok : ∀ i, i < n → SOk (S i)) (hp : StepsR w a n S) :
    Calls Try.prog 7 #[.slice a n c] w fun e w' => ∃ ao no co T, e = .returned (.tuple #[.slice ao no co, .int .i64 (absE n S)]) ∧ no ≤ n ∧ no ≤ co ∧ StepsR w' ao no T ∧ Below w.heap.size w w' ∧ (absE n S = 0 → no = (absL S n).length ∧ T = lf (absL S n)) ∧ (absE n S ≠ 0 → no = 0) ∧ (0 < no → ∀ x, ao = some x → w.heap.size ≤ x.block) := by
  go_enter Try.func7, Try.ntmps7
  go_wp2_with (fail)
  refine (absolute_any a n c S w hn hok hp).mono ?_
  rintro e w1 ⟨ao, co, rfl, hown, hb⟩
  have HO := Lib.hid hown
  have B1 := Lib.hid hb
  have hL := absL_len S n
  have HL := Lib.hid hL
  have HEE := Lib.hid (show stepsE (absL S n).length (lf (absL S n)) = absE n S from rfl)
  clear hown hb
  obtain ⟨L, hLL⟩ : ∃ L, (absL S n).length = L := ⟨_, rfl⟩
  have HLL := Lib.hid hLL
  rw [hLL] at HO hL HEE ⊢
  clear hLL
  go_wp2_with (fail)
  refine (stepsFault_any ao L co (lf (absL S n)) w1 (by omega) (own_rowS HO.out HLL.out.symm)).mono ?_
  rintro e w2 ⟨rfl, hb⟩
  replace HO := Lib.hid (ownsRow_below HO.out hb)
  have B2 := Lib.hid (B1.out.trans (hb.mono B1.out.size))
  clear hb
  rw [HEE.out]
  by_cases hz : absE n S = 0
  · have HZ := Lib.hid hz
    have hz' : (absE n S != 0) = false := by simp [hz]
    clear hz
    go_wp2_with (fail)
    exact bodyPost_ret (v := .tuple #[.slice ao L co, .int .i64 0]) (by simp [results, Try.results7, go_sem]) rfl ⟨ao, L, co, _, by rw [HZ.out], hL, own_cap HO.out, own_rowS HO.out HLL.out.symm, B2.out, fun _ => ⟨HLL.out.symm, rfl⟩, fun h => absurd HZ.out h, fun _ x hx => (HO.out.lt x.block (by rw [hx]; rfl)).1⟩
  · have HZ := Lib.hid hz
    have hz' : (absE n S != 0) = true := by simpa using hz
    clear hz
    go_wp2_with (fail)
    exact bodyPost_ret (v := .tuple #[.slice none 0 0, .int .i64 (absE n S)]) (by simp [results, Try.results7, go_sem]) rfl ⟨none, 0, 0, fun _ => s00, rfl, by omega, by omega, .inl rfl, B2.out, fun h => absurd h HZ.out, fun _ => rfl, fun h => absurd h (by omega)⟩
set_option maxRecDepth 100000 in
set_option maxHeartbeats 4000000 in
theorem equalM_any (a1 a2 : Option Addr) (n c1 c2 : Nat) (U : Nat → Ma) (w : World) (hn : n ≤ 5000) (h1 : MasR w a1 n U) (h2 : MasR w a2 n U) :
    Calls Try.prog 19 #[.slice a1 n c1, .slice a2 n c2] w fun e w' => e = .returned (.bool true) ∧ Below w.heap.size w w' := by
  have H1 := Lib.hid h1
  have H2 := Lib.hid h2
  clear h1 h2
  go_enter Try.func19, Try.ntmps19
  go_wp2_with (fail)
  go_loopw [13] (fun i wr => ∃ t : Nat, t ≤ n ∧ i = .int .i64 t ∧ Below w.heap.size w wr) (fun i _ => n - (intOf i).toNat)
  case atStart => exact ⟨0, by omega, rfl, Below.refl _ _⟩
  case round =>
    obtain ⟨t, ht, rfl, hbel⟩ := hrel
    have HB := Lib.hid hbel
    have hsz := hbel.size
    clear hbel
    by_cases hlt : t < n
    · rcases H1.out with h | ⟨b, off, rfl, hb, hd⟩
      · omega
      rcases H2.out with h | ⟨b2, off2, rfl, hb2, hd2⟩
      · omega
      obtain ⟨p0, p1, p2, p3, p4, p5, p6, p7⟩ := hd t hlt
      obtain ⟨q0, q1, q2, q3, q4, q5, q6, q7⟩ := hd2 t hlt
      obtain ⟨x, hx⟩ : ∃ x, U t = x := ⟨_, rfl⟩
      rw [hx] at p0 p1 p2 p3 p4 p5 p6 p7 q0 q1 q2 q3 q4 q5 q6 q7
      replace p0 := cellk HB.out hb p0
      replace q0 := cellk HB.out hb2 q0
      replace p1 := cellk HB.out hb p1
      replace q1 := cellk HB.out hb2 q1
      replace p2 := cellk HB.out hb p2
      replace q2 := cellk HB.out hb2 q2
      replace p3 := cellk HB.out hb p3
      replace q3 := cellk HB.out hb2 q3
      replace p4 := cellk HB.out hb p4
      replace q4 := cellk HB.out hb2 q4
      replace p5 := cellk HB.out hb p5
      replace q5 := cellk HB.out hb2 q5
      replace p6 := cellk HB.out hb p6
      replace q6 := cellk HB.out hb2 q6
      replace p7 := cellk HB.out hb p7
      replace q7 := cellk HB.out hb2 q7
      have hE := fun wx => neq_ma x x wx
      have hv : (!decide (x = x)) = false := by simp
      rw [hv] at hE
      have hG := gd_ma
      have hi0 : (0 : Int) ≤ (t : Int) := by omega
      have hi1 : (t : Int) < (n : Int) := by omega
      have hbw : b < wr.heap.size := by omega
      have hbw2 : b2 < wr.heap.size := by omega
      clear hd hd2 hx hv
      go_wp2_with (fail)
      go_quiet (fail)
      have HB2 := Lib.hid (bdrewN HB.out nq)
      clear p0 p1 p2 p3 p4 p5 p6 p7 q0 q1 q2 q3 q4 q5 q6 q7 hE
      go_wp2_with (fail)
      go_roundw
      case rel => exact ⟨t + 1, by omega, by go_num, HB2.out⟩
      case measure => simp [intOf] <;> omega
    · obtain rfl : n = t := by omega
      go_wp2_with (fail)
      go_ret
      exact ⟨rfl, HB.out⟩
theorem errs2_any (g : Nat) (a b : Int) (w : World) (hg : w.heap.size = g) : Calls Try.prog 14 #[.slice (some ⟨g, 0, none⟩) 2 2] (w.alloc (.cells #[.int .i64 a, .int .i64 b] 28)) fun e w' => e = .returned (.int .i64 (if a = 0 then b else a)) ∧ w.alloc (.cells #[.int .i64 a, .int .i64 b] 28) = w' := by
  subst hg
  by_cases ha : a = 0
  · subst ha
    by_cases hb : b = 0
    · subst hb
      go_enter Try.func14, Try.ntmps14
      go_wp2
      refine wp_loop_rounds 3 ?_
      rw [rounds_succ]; go_wp2
      rw [rounds_succ]; go_wp2
      rw [rounds_succ]; go_wp2
      go_ret
      exact ⟨rfl, rfl⟩
    · have e1 : (b != 0) = true := by simpa using hb
      have HB := Lib.hid hb
      clear hb
      go_enter Try.func14, Try.ntmps14
      go_wp2
      refine wp_loop_rounds 3 ?_
      rw [rounds_succ]; go_wp2
      rw [rounds_succ]; go_wp2
      go_ret
      exact ⟨ret_int (by simp), rfl⟩
  · have e1 : (a != 0) = true := by simpa using ha
    have HA := Lib.hid ha
    clear ha
    go_enter Try.func14, Try.ntmps14
    go_wp2
    refine wp_loop_rounds 3 ?_
    rw [rounds_succ]; go_wp2
    go_ret
    exact ⟨ret_int (by simp [HA.out]), rfl⟩
set_option maxRecDepth 100000 in
set_option maxHeartbeats 4000000 in
theorem coded_any (w : World) : Calls Try.prog 20 #[] w fun e w' => e = .returned (.bool true) ∧ Below w.heap.size w w' := by
  have hb1 : Below w.heap.size w (w.alloc (.cells #[.int .i64 3, .int .i64 5, .int .i64 0, .int .i64 0, .int .i64 0, .int .i64 0] 36)) := (by repeat (first | exact Below.refl _ _ | assumption | refine Below.drew ?_ | refine bdrewN ?_ _ | refine Below.setCell ?_ (by first | omega | (simp <;> omega)) _ | refine Below.alloc ?_ (by first | omega | (simp <;> omega)) _))
  have B1 := Lib.hid hb1
  have hh := heap_alloc_new w (.cells #[.int .i64 3, .int .i64 5, .int .i64 0, .int .i64 0, .int .i64 0, .int .i64 0] 36)
  have HS : Hid (StepsR (w.alloc (.cells #[.int .i64 3, .int .i64 5, .int .i64 0, .int .i64 0, .int .i64 0, .int .i64 0] 36)) (some ⟨w.heap.size, 0, none⟩) 1 (fun _ => ⟨3, 5, 0, 0, 0, 0⟩)) := Lib.hid (.inr ⟨w.heap.size, 0, rfl, lt_of_heap hh, fun i hi => by
    obtain rfl : i = 0 := by omega
    exact ⟨cell_of hh rfl, cell_of hh rfl, cell_of hh rfl, cell_of hh rfl, cell_of hh rfl, cell_of hh rfl⟩⟩)
  clear hb1 hh
  have hE1 : stepsE 1 (fun _ => ⟨3, 5, 0, 0, 0, 0⟩) = 0 := by decide
  have hL1 : lastM 1 (fun _ => ⟨3, 5, 0, 0, 0, 0⟩) = ⟨5, 0, 0, 0, 0, 0, 0, false⟩ := by unfold lastM; rw [if_pos hE1]; decide
  have HE1 := Lib.hid hE1
  have HL1 := Lib.hid hL1
  clear hE1 hL1
  go_enter Try.func20, Try.ntmps20
  go_wp2_with (fail)
  refine (last_any _ 1 1 _ _ (by omega) HS.out).mono ?_
  rintro e w2 ⟨rfl, hb⟩
  rw [HE1.out, HL1.out]
  have B2 := Lib.hid (B1.out.trans (hb.mono B1.out.size))
  clear hb
  have B3 := Lib.hid (B2.out.trans ((Below.refl w2.heap.size w2).alloc (Nat.le_refl _) (.cells #[.int .i64 5, .int .i64 0, .int .i64 0, .int .i64 0, .int .i64 0, .int .i64 0, .int .i64 0, .bool false] 42) |>.mono B2.out.size))
  go_wp2_with (fail)
  go_ret
  exact ⟨rfl, B3.out⟩
end Go.Proofs.Ytgmpmaiddombeaa

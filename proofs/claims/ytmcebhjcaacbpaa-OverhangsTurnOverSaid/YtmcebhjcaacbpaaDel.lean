/- slices.Delete of one face. -/
import Derived.Test.YtmcebhjcaacbpaaMk3
import Derived.Deep.RegionLaw
import Derived.Lib.SliceRun
set_option linter.unusedSimpArgs false
set_option linter.unusedVariables false
namespace Go.Proofs.Ytmcebhjcaacbpaa
open Go.RowKit

theorem setCells_mut (b : Nat) : ∀ (vs : List Value) (o : Nat) (w : World), Mut (· = b) w (w.setCells b o vs)
  | [], _, w => Mut.refl _ _
  | v :: r, o, w => ((Mut.refl (· = b) w).setCell (p := ⟨b, o, none⟩) (fun _ => rfl) v).trans (setCells_mut b r (o + 1) _)
theorem setCells_heap (b : Nat) : ∀ (vs : List Value) (o : Nat) (w : World) (cur : Array Value) (t : TypeId), w.heap[b]? = some (.cells cur t (0, 0)) → ∃ cur', (w.setCells b o vs).heap[b]? = some (.cells cur' t (0, 0)) ∧ cur'.size = cur.size
  | [], _, w, cur, t, h => ⟨cur, h, rfl⟩
  | v :: r, o, w, cur, t, h => by
    have h1 : (w.setCell ⟨b, o, none⟩ v).heap[b]? = some (.cells (cur.setIfInBounds o v) t (0, 0)) := by simp [World.setCell, Array.getElem?_modify, h]
    obtain ⟨c', h2, h3⟩ := setCells_heap b r (o + 1) _ _ t h1
    exact ⟨c', h2, by simpa using h3⟩
theorem own_of_cells {w : World} {base g n cap : Nat} {e : TypeId} {cur : Array Value} {P : Int → Prop} (hh : w.heap[g]? = some (.cells cur e (0, 0))) (hs : cur.size = cap * 3) (hn : n ≤ cap) (hm : cap ≤ maxLen) (hb : base ≤ g)
    (hc : ∀ t, t < n * 3 → ∃ z : Int, w.cell? ⟨g, t, none⟩ = some (.int .i64 z) ∧ P z) : ∃ xs, w.ownsRow base e 3 (.slice (some ⟨g, 0, none⟩) n cap) n xs ∧ AllInt P xs := by
  refine ⟨cur.toList.take (n * 3), ⟨by simp; omega, .inr ⟨g, cap, cur, rfl, hb, hh, hn, hm, hs, rfl⟩⟩, fun u hu => ?_⟩
  obtain ⟨t, ht, rfl⟩ := List.getElem_of_mem hu
  have ht' : t < n * 3 := by simp at ht; omega
  obtain ⟨z, h1, h2⟩ := hc t ht'
  refine ⟨z, ?_, h2⟩
  simp only [World.cell?, hh] at h1
  simp only [List.getElem_take, Array.getElem_toList]
  have : cur[t]? = some (Value.int .i64 z) := by simpa using h1
  rw [Array.getElem?_eq_some_iff] at this
  obtain ⟨_, h3⟩ := this
  exact h3
theorem own_cells {w : World} {base g n cap : Nat} {e : TypeId} {xs : List Value} {P : Int → Prop} (h : w.ownsRow base e 3 (.slice (some ⟨g, 0, none⟩) n cap) n xs) (hP : AllInt P xs) :
    ∀ t, t < n * 3 → ∃ z : Int, w.cell? ⟨g, t, none⟩ = some (.int .i64 z) ∧ P z ∧ xs[t]? = some (.int .i64 z) := by
  intro t ht
  have h1 := h.cellAt t ht
  have hl : t < xs.length := by rw [h.1]; exact ht
  obtain ⟨z, h2, h3⟩ := hP xs[t] (List.getElem_mem hl)
  have h4 : xs[t]? = some (.int .i64 z) := by rw [List.getElem?_eq_getElem hl, h2]
  exact ⟨z, h1.trans h4, h3, h4⟩

theorem is_some' {w : World} {q : Addr} {v : Value} (h : w.cell? q = some v) : (w.cell? q).isSome = true := by rw [h]; rfl
theorem run_clear3 (w : World) (ty : TypeId) (b o c : Nat) (hc : ∀ j, j < 3 → (w.cell? ⟨b, o + j, none⟩).isSome = true) (hf : ∀ j, j < 3 → w.frozen? ⟨b, o + j, none⟩ = false) :
    (Builtin.clear_ #[27] ty #[.slice (some ⟨b, o, none⟩) 1 c]).run Try.prog w = .ok (.tuple #[]) (w.setCells b o [.int .i64 0, .int .i64 0, .int .i64 0]) := by
  have hst := run_storeCells_cells (P := Try.prog) b o [.int .i64 0, .int .i64 0, .int .i64 0] 0 w (by simpa using hc) (by simpa using hf) (by simp [Value.oneCell'])
  have hv : ∀ w, (zeroValue 47).run Try.prog w = .ok (.agg #[.int .i64 0, .int .i64 0, .int .i64 0]) w := fun w => by kernel_rfl
  have hzc : (Builtin.zeroCells (Value.agg #[.int .i64 0, .int .i64 0, .int .i64 0]).cells 1).toList = [.int .i64 0, .int .i64 0, .int .i64 0] := by kernel_rfl
  simp only [Nat.add_zero] at hst
  simp [Builtin.clear_, run_underlying Try.underlying27, hv, hzc, hst]

def DelPost (w : World) (base g n cap : Nat) (P : Int → Prop) (e : Ending) (w' : World) : Prop :=
  ∃ xs, e = .returned (.slice (some ⟨g, 0, none⟩) (n - 1) cap) ∧ w'.ownsRow base 47 3 (.slice (some ⟨g, 0, none⟩) (n - 1) cap) (n - 1) xs ∧ AllInt P xs ∧ Mut (· = g) w w'

set_option maxRecDepth 100000 in
set_option maxHeartbeats 4000000 in
theorem delete_any (base g m cap i : Nat) (P : Int → Prop) (xs : List Value) (w : World) (h : w.ownsRow base 47 3 (.slice (some ⟨g, 0, none⟩) (i + 1 + m) cap) (i + 1 + m) xs) (hP : AllInt P xs) (hn : i + 1 + m ≤ 1000) :
    Calls Try.prog 42 #[.slice (some ⟨g, 0, none⟩) (i + 1 + m) cap, .int .i64 i, .int .i64 ((i : Int) + 1)] w (DelPost w base g (i + 1 + m) cap P) := by
  obtain ⟨i1, hi1, hy0, hy1, hy2⟩ := info_parts info_face
  have hcs := own_cells h hP
  have hfz := fun t => h.frozenAt t
  obtain ⟨hxl, hx⟩ := h
  obtain ⟨cur, hh, hnc, hcm, hcz, hbg⟩ : ∃ cur, w.heap[g]? = some (.cells cur 47 (0, 0)) ∧ i + 1 + m ≤ cap ∧ cap ≤ maxLen ∧ cur.size = cap * 3 ∧ base ≤ g := by
    rcases hx with ⟨h1, _⟩ | ⟨g', cap', cur, h1, h2, h3, h4, h5, h6, _⟩
    · cases h1
    · simp only [Value.slice.injEq, Option.some.injEq, Addr.mk.injEq, true_and, and_true] at h1
      obtain ⟨rfl, rfl⟩ := h1
      exact ⟨cur, h3, h4, h5, h6, h2⟩
  obtain ⟨news, hnews⟩ : ∃ news, news = xs.drop ((i + 1) * 3) := ⟨_, rfl⟩
  have hlen : news.length = m * 3 := by rw [hnews]; simp [hxl]; omega
  obtain ⟨A, hA, hsrc⟩ : ∃ A : Addr, (if cap = i + 1 then (some (⟨g, 0, none⟩ : Addr)) else some ⟨g, (i + 1) * 3, none⟩) = some A ∧ Hid (∀ t u, news[t]? = some u → w.drew.cell? (A.add t) = some u) := by
    by_cases hc : cap = i + 1
    · refine ⟨⟨g, 0, none⟩, by simp [hc], fun t u hu => ?_⟩
      have h0 : news.length = 0 := by rw [hlen, show m = 0 by omega]
      rw [List.length_eq_zero_iff.1 h0] at hu
      simp at hu
    · refine ⟨⟨g, (i + 1) * 3, none⟩, by simp [hc], fun t u hu => ?_⟩
      have ht : t < m * 3 := by
        have := (List.getElem?_eq_some_iff.1 hu).1
        rwa [hlen] at this
      obtain ⟨z, h1, _, h3⟩ := hcs ((i + 1) * 3 + t) (by omega)
      rw [hnews, List.getElem?_drop, h3] at hu
      rw [Addr.add_lit]
      exact h1.trans hu
  have s1 : Hid (news.length = m * 3) := hlen
  have s2 : Hid (∀ u ∈ news, u.oneCell' = true) := by
    intro u hu
    rw [hnews] at hu
    obtain ⟨z, rfl, _⟩ := hP u (List.mem_of_mem_drop hu)
    rfl
  have hso : ∀ t, t < news.length → (w.drew.cell? ⟨g, 0 + i * 3 + t, none⟩).isSome = true := by
    intro t ht
    rw [hlen] at ht
    obtain ⟨z, h1, _⟩ := hcs (0 + i * 3 + t) (by omega)
    exact is_some' h1
  have s3 : Hid (∀ t, t < news.length → (w.drew.cell? ⟨g, 0 + i * 3 + t, none⟩).isSome = true ∧ w.drew.frozen? ⟨g, 0 + i * 3 + t, none⟩ = false) := fun t ht => ⟨hso t ht, hfz _⟩
  obtain ⟨W1, hW1⟩ : ∃ W1, W1 = w.drew.setCells g (0 + i * 3) news := ⟨_, rfl⟩
  have hM1 : Mut (· = g) w W1 := by rw [hW1]; exact (Mut.refl _ w).drew.trans (setCells_mut g news _ _)
  obtain ⟨cur1, hh1, hz1⟩ : ∃ cur1, W1.heap[g]? = some (.cells cur1 47 (0, 0)) ∧ cur1.size = cur.size := by
    rw [hW1]; exact setCells_heap g news _ w.drew cur _ hh
  have hc1 : ∀ t, t < (i + 1 + m) * 3 → ∃ z : Int, W1.cell? ⟨g, t, none⟩ = some (.int .i64 z) ∧ P z := by
    intro t ht
    by_cases hr : i * 3 ≤ t ∧ t < i * 3 + m * 3
    · obtain ⟨z, _, h2, h3⟩ := hcs ((i + 1) * 3 + (t - i * 3)) (by omega)
      refine ⟨z, ?_, h2⟩
      have := World.cell?_setCells_in g news (0 + i * 3) w.drew hso (t - i * 3) (by rw [hlen]; omega)
      rw [show 0 + i * 3 + (t - i * 3) = t by omega] at this
      rw [hW1, this]
      have h5 : news[t - i * 3]? = some (Value.int .i64 z) := by rw [hnews, List.getElem?_drop]; exact h3
      rw [List.getElem?_eq_getElem (by rw [hlen]; omega)] at h5
      exact h5
    · obtain ⟨z, h1, h2, _⟩ := hcs t ht
      refine ⟨z, ?_, h2⟩
      rw [hW1, World.cell?_setCells_out g news (0 + i * 3) w.drew ⟨g, t, none⟩ (fun _ _ => by dsimp only; rw [hlen]; omega)]
      exact h1
  have hf1 : ∀ t, W1.frozen? ⟨g, t, none⟩ = false := fun t => by rw [hW1, World.frozen?_setCells]; exact hfz t
  have hcl : ∀ ty, (Builtin.clear_ #[27] ty #[.slice (some ⟨g, (i + m) * 3, none⟩) (i + 1 + m - (i + m)) (cap - (i + m))]).run Try.prog W1 = .ok (.tuple #[]) (W1.setCells g ((i + m) * 3) [.int .i64 0, .int .i64 0, .int .i64 0]) := fun ty => by
    rw [show i + 1 + m - (i + m) = 1 by omega]
    exact run_clear3 W1 ty g ((i + m) * 3) (cap - (i + m)) (fun j hj => by obtain ⟨z, h1, _⟩ := hc1 ((i + m) * 3 + j) (by omega); exact is_some' h1) (fun j _ => hf1 _)
  have HE : Hid (DelPost w base g (i + 1 + m) cap P (.returned (.slice (some ⟨g, 0, none⟩) (i + m) cap)) (W1.setCells g ((i + m) * 3) [.int .i64 0, .int .i64 0, .int .i64 0])) := by
    obtain ⟨cur2, hh2, hz2⟩ := setCells_heap g [.int .i64 0, .int .i64 0, .int .i64 0] ((i + m) * 3) W1 cur1 _ hh1
    obtain ⟨ys, o1, o2⟩ := own_of_cells (n := i + m) (P := P) hh2 (by rw [hz2, hz1, hcz]) (by omega) hcm hbg (fun t ht => by
      obtain ⟨z, h1, h2⟩ := hc1 t (by omega)
      refine ⟨z, ?_, h2⟩
      rw [World.cell?_setCells_out g _ _ W1 ⟨g, t, none⟩ (fun _ _ => .inl (by dsimp only; omega))]
      exact h1)
    exact ⟨ys, by rw [show i + 1 + m - 1 = i + m by omega], by rw [show i + 1 + m - 1 = i + m by omega]; exact o1, o2, hM1.trans (setCells_mut g _ _ _)⟩
  have hW : Hid (W1 = w.drew.setCells g (0 + i * 3) news) := hW1
  have hic : i ≤ cap := by omega
  have hjc : i + 1 ≤ cap := by omega
  have b0 : (0 : Int) ≤ (i : Int) + 1 := by omega
  have b1 : (i : Int) + 1 ≤ (i : Int) + 1 + (m : Int) := by omega
  have hcm' : cap ≤ 9223372036854775807 := by unfold maxLen at hcm; omega
  clear hW1 hc1 hf1 hcs hfz hso hx hh hh1 hM1 hnews hlen hP hxl hcz hz1
  go_enter Try.func42, Try.ntmps42
  go_wp2_with fail
  go_region_law (refine step_append_room rfl (.tmp 22) (.tmp 25) 27 rfl 47 i1 3 Try.underlying27 hi1 hy1 g 0 i cap (by simp [Act.eval, Act.put]) A m (cap - (i + 1)) news (by simp [Act.eval, Act.put]) s1.out hsrc.out s2.out (by omega) s3.out ?_; rw [← hW.out])
  go_wp2
  go_ret
  exact HE.out
end Go.Proofs.Ytmcebhjcaacbpaa

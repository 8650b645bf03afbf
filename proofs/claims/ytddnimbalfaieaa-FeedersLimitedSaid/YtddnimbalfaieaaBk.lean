/- slices.Repeat of one bead. -/
import Derived.Test.YtddnimbalfaieaaBa
import Derived.Laws.CopyRow
import Derived.OwnWalk
set_option linter.unusedSimpArgs false
set_option linter.unusedVariables false
namespace Go.Proofs.Ytddnimbalfaieaa
open Go.RowKit
/-- copy of elements of k cells. -/
theorem run_copy_k {P : Program} (w : World) (dT sT ty elem : TypeId) (k g o dLen dCap : Nat) (a : Addr) (sLen sCap : Nat) (cur : Array Value) (t : TypeId) (cs : List Value)
    (hu : P.underlying dT = some (.slice elem)) (hs : (P.info? elem).map (·.size) = some k)
    (hg : w.heap[g]? = some (.cells cur t (0, 0))) (hn : cs.length = Nat.min sLen dLen * k)
    (hsrc : ∀ j v, cs[j]? = some v → w.cell? (a.add j) = some v) (hfit : o + cs.length ≤ cur.size) (h1 : ∀ v ∈ cs, v.oneCell' = true) :
    (Builtin.copy_ #[dT, sT] ty #[.slice (some ⟨g, o, none⟩) dLen dCap, .slice (some a) sLen sCap]).run P w =
      .ok (goInt (Nat.min sLen dLen : Nat)) (w.setRow g (cur.toList.take o ++ cs ++ cur.toList.drop (o + cs.length)).toArray) := by
  have hl := run_loadCells_list (P := P) w a cs hsrc
  have hst := run_storeCells_at P g o t cs 0 cur w hg (by simpa using hfit) h1
  cases hq : P.info? elem with
  | none => simp [hq] at hs
  | some i =>
    have hi : i.size = k := by simpa [hq] using hs
    simp [Builtin.copy_, run_underlying hu, Builtin.lenOf, Builtin.firstCells, sizeOf, typeInfo, hq, hi, ← hn, hl, hst]
theorem wp_copy_runK {P : Program} (w : World) {o : Oper} {a : Act} {K : Act → World → Prop} {Q : Exit → Act → World → Prop} (d s : Operand) (t t' : TypeId)
    (ho : o.op = .call { callee := .builtin .copy, args := #[d, s], argTypes := #[t, t'] }) (v u : Value) (hd : a.eval d = v) (hs : a.eval s = u) {v' : Value} {w' : World}
    (hr : (Builtin.copy_ #[t, t'] o.type #[v, u]).run P w = .ok v' w') (h : K (a.put o.dst v') w') : o.wp P a w K Q := by
  unfold Oper.wp execOp
  simp only [ho, resolve, invoke, builtin, Sem.run_bind, Sem.run_pure, Result.andThen_ok, List.map_toArray, List.map_cons, List.map_nil, hd, hs, hr]
  exact h
theorem wpList_copy_runK {P : Program} (w : World) {ops : Array Oper} {rest : List Oper} {o : Oper} {a : Act} {Q : Exit → Act → World → Prop} (hgd : o.guard = none) (d s : Operand) (t t' : TypeId)
    (ho : o.op = .call { callee := .builtin .copy, args := #[d, s], argTypes := #[t, t'] }) (v u : Value) (hd : a.eval d = v) (hs : a.eval s = u) {v' : Value} {w' : World}
    (hr : (Builtin.copy_ #[t, t'] o.type #[v, u]).run P w = .ok v' w') (h : wpList P ops Q rest (a.put o.dst v') w') : wpList P ops Q (o :: rest) a w :=
  wpList_plain hgd fun _ hK => wp_copy_runK w d s t t' ho v u hd hs hr (hK _ _ h)
theorem below_rowK {B g : Nat} {w0 w : World} (hb : Below B w0 w) (hBg : B ≤ g) (cs : Array Value) : Below B w0 (w.setRow g cs) :=
  hb.trans ⟨rfl, rfl, rfl, by simp [World.setRow], fun k hk => setRow_other w g k cs (by omega)⟩
/-- The first m of N elements of a block are alike. -/
def Pat (w : World) (g N m : Nat) (x y z : Int) : Prop := ∃ cur : Array Value, w.heap[g]? = some (.cells cur 61 (0, 0)) ∧ cur.size = N * 3 ∧ ∀ i, i < m → cur[i * 3 + 0]? = some (.int .i64 x) ∧ cur[i * 3 + 1]? = some (.int .i64 y) ∧ cur[i * 3 + 2]? = some (.int .i64 z)
theorem Pat.kept {w w' : World} {g N m : Nat} {x y z : Int} (h : Pat w g N m x y z) (hb : Below w.heap.size w w') : Pat w' g N m x y z := by
  obtain ⟨cur, h1, h2⟩ := h
  exact ⟨cur, heap_keep hb h1, h2⟩
theorem Pat.lt {w : World} {g N m : Nat} {x y z : Int} (h : Pat w g N m x y z) : g < w.heap.size := by
  obtain ⟨cur, h1, h2⟩ := h
  exact lt_of_heap h1
/-- As many cells as q elements want, from the first on, laid behind m of them. -/
theorem pat_grow {cur : Array Value} {N m q : Nat} {x y z : Int} (hs : cur.size = N * 3) (hm : ∀ i, i < m → cur[i * 3 + 0]? = some (.int .i64 x) ∧ cur[i * 3 + 1]? = some (.int .i64 y) ∧ cur[i * 3 + 2]? = some (.int .i64 z)) {cs : List Value} (hc : cs.length = q * 3) (hcv : ∀ i, i < q → cs[i * 3 + 0]? = some (.int .i64 x) ∧ cs[i * 3 + 1]? = some (.int .i64 y) ∧ cs[i * 3 + 2]? = some (.int .i64 z)) (hq : m + q ≤ N) :
    (cur.toList.take (m * 3) ++ cs ++ cur.toList.drop (m * 3 + cs.length)).toArray.size = N * 3 ∧ ∀ i, i < m + q → (cur.toList.take (m * 3) ++ cs ++ cur.toList.drop (m * 3 + cs.length)).toArray[i * 3 + 0]? = some (.int .i64 x) ∧ (cur.toList.take (m * 3) ++ cs ++ cur.toList.drop (m * 3 + cs.length)).toArray[i * 3 + 1]? = some (.int .i64 y) ∧ (cur.toList.take (m * 3) ++ cs ++ cur.toList.drop (m * 3 + cs.length)).toArray[i * 3 + 2]? = some (.int .i64 z) := by
  have hl : cur.toList.length = N * 3 := by simpa using hs
  have key : ∀ k v, k < 3 → (∀ i, i < m → cur[i * 3 + k]? = some v) → (∀ i, i < q → cs[i * 3 + k]? = some v) → ∀ i, i < m + q → (cur.toList.take (m * 3) ++ cs ++ cur.toList.drop (m * 3 + cs.length)).toArray[i * 3 + k]? = some v := by
    intro k v hk h1 h2 i hi
    rw [List.getElem?_toArray, List.append_assoc]
    by_cases him : i < m
    · rw [List.getElem?_append_left (by simp [List.length_take]; omega), List.getElem?_take_of_lt (by omega), Array.getElem?_toList]
      exact h1 i him
    · have hlt : (cur.toList.take (m * 3)).length = m * 3 := by rw [List.length_take]; omega
      rw [List.getElem?_append_right (by omega), hlt, List.getElem?_append_left (by omega), show i * 3 + k - m * 3 = (i - m) * 3 + k by omega]
      exact h2 (i - m) (by omega)
  refine ⟨?_, fun i hi => ⟨key 0 _ (by omega) (fun i hi => (hm i hi).1) (fun i hi => (hcv i hi).1) i hi, key 1 _ (by omega) (fun i hi => (hm i hi).2.1) (fun i hi => (hcv i hi).2.1) i hi, key 2 _ (by omega) (fun i hi => (hm i hi).2.2) (fun i hi => (hcv i hi).2.2) i hi⟩⟩
  simp [List.length_append, List.length_take, List.length_drop]
  omega
theorem mul64_any (n : Nat) (w : World) (hn : n = 4000 ∨ n = 4001) : Calls Try.prog 59 #[.int .u64 1, .int .u64 n] w fun e w' => e = .returned (.tuple #[.int .u64 0, .int .u64 n]) ∧ w = w' := by
  rcases hn with rfl | rfl
  · go_enter Try.func59, Try.ntmps59
    go_wp2
    exact bodyPost_ret (v := .tuple #[.int .u64 0, .int .u64 4000]) (by simp [results, Try.results59, go_sem]; all_goals (first | rfl | decide | kernel_rfl)) rfl ⟨rfl, rfl⟩
  · go_enter Try.func59, Try.ntmps59
    go_wp2
    exact bodyPost_ret (v := .tuple #[.int .u64 0, .int .u64 4001]) (by simp [results, Try.results59, go_sem]; all_goals (first | rfl | decide | kernel_rfl)) rfl ⟨rfl, rfl⟩
theorem mul_any (n : Nat) (w : World) (hn : n = 4000 ∨ n = 4001) : Calls Try.prog 55 #[.int .u64 1, .int .u64 n] w fun e w' => e = .returned (.tuple #[.int .u64 0, .int .u64 n]) ∧ w = w' := by
  rcases hn with rfl | rfl
  · go_enter Try.func55, Try.ntmps55
    go_wp2_with (go_at_call 59; refine (mul64_any _ _ (by decide)).mono ?_; rintro e w' ⟨rfl, rfl⟩)
    exact bodyPost_ret (v := .tuple #[.int .u64 0, .int .u64 4000]) (by simp [results, Try.results55, go_sem]) rfl ⟨rfl, rfl⟩
  · go_enter Try.func55, Try.ntmps55
    go_wp2_with (go_at_call 59; refine (mul64_any _ _ (by decide)).mono ?_; rintro e w' ⟨rfl, rfl⟩)
    exact bodyPost_ret (v := .tuple #[.int .u64 0, .int .u64 4001]) (by simp [results, Try.results55, go_sem]) rfl ⟨rfl, rfl⟩
theorem info_rep : (Try.prog.info? 61).map (fun i => (i.zero, i.size, i.bytes)) = some (some (.agg #[.int .i64 0, .int .i64 0, .int .i64 0]), 3, 24) := by kernel_rfl
set_option maxRecDepth 100000 in
set_option maxHeartbeats 8000000 in
theorem repeat_any (gx n : Nat) (x y z : Int) (w : World) (hn : n = 4000 ∨ n = 4001) (c0 : w.cell? ⟨gx, 0, none⟩ = some (.int .i64 x)) (c1 : w.cell? ⟨gx, 1, none⟩ = some (.int .i64 y)) (c2 : w.cell? ⟨gx, 2, none⟩ = some (.int .i64 z)) :
    Calls Try.prog 41 #[.slice (some ⟨gx, 0, none⟩) 1 1, .int .i64 n] w fun e w' => ∃ g, e = .returned (.slice (some ⟨g, 0, none⟩) n n) ∧ Pat w' g n n x y z ∧ w.heap.size ≤ g ∧ Below w.heap.size w w' := by
  obtain ⟨i0, hi0, hz0, hz1, hz2⟩ := info_parts info_rep
  have hn5 : n ≤ 5000 := by omega
  have hn1 : 1 ≤ n := by omega
  have hmn : Nat.min 1 n = 1 := Nat.min_eq_left hn1
  have HN := Lib.hid hn
  have hgx := cell_lt c0
  have n0 : ¬ (n : Int) < 0 := by omega
  have n1 : IntKind.u64.wrap (n : Int) = (n : Int) := by rw [IntKind.wrap_u64]; omega
  have n2 : IntKind.i64.wrap (n : Int) = (n : Int) := i64w (by omega)
  have n3 : ¬ (9223372036854775807 : Int) < (n : Int) := by omega
  have hsz : (Try.prog.info? 61).map (·.size) = some 3 := by rw [hi0]; simp [hz1]
  clear hn
  go_enter Try.func41, Try.ntmps41
  go_wp2_with (fail)
  refine (mul_any n _ HN.out).mono ?_
  rintro e w1 ⟨rfl, rfl⟩
  go_wp2_with (at_make; refine wpList_make_full _ rfl _ _ 26 rfl w.heap.size 61 i0 (.agg #[.int .i64 0, .int .i64 0, .int .i64 0]) 3 rfl hi0 hz0 hz1 .i64 .i64 (n : Int) (n : Int) n rfl rfl rfl rfl (by rw [hz2]; omega) (by unfold maxLen; omega) (Nat.le_refl _) ?_; intro w2 hown2 hgr2; have HO2 := Lib.hid hown2; have B2 := Lib.hid (show Below w.heap.size w w2 from Below.grown (Below.refl _ w) hgr2 (Nat.le_refl _) (fun b hb => by cases hb)); clear hown2 hgr2)
  obtain ⟨g, hg⟩ : ∃ g, g = w.heap.size := ⟨_, rfl⟩
  rw [← hg] at HO2
  try rw [← hg]
  have HG := Lib.hid hg
  obtain ⟨cur, hh, hcs⟩ : ∃ cur : Array Value, w2.heap[g]? = some (.cells cur 61 (0, 0)) ∧ cur.size = n * 3 := by
    rcases HO2.out.2 with ⟨h1, h2⟩ | ⟨g', cap, cur, hv, hb, hh, hc, hm, hs, hx⟩
    · cases h1
    · cases hv
      exact ⟨cur, hh, hs⟩
  have HH := Lib.hid hh
  have HCS := Lib.hid hcs
  clear hh hcs hg
  have CP := Lib.hid (run_copy_k (P := Try.prog) w2 26 26 3 61 3 g 0 n n ⟨gx, 0, none⟩ 1 1 cur 61 [.int .i64 x, .int .i64 y, .int .i64 z] rfl hsz HH.out (by rw [hmn]; rfl) (by
      intro j v hj
      have e : Addr.add ⟨gx, 0, none⟩ j = ⟨gx, j, none⟩ := by unfold Addr.add; split <;> simp_all
      rw [e]
      match j, hj with
      | 0, hj => cases hj; exact cellk B2.out hgx c0
      | 1, hj => cases hj; exact cellk B2.out hgx c1
      | 2, hj => cases hj; exact cellk B2.out hgx c2
      | j + 3, hj => simp at hj) (by rw [HCS.out]; simp; omega) (by simp [Value.oneCell']))
  rw [hmn] at CP
  obtain ⟨hs3, hp3⟩ := pat_grow (cur := cur) (N := n) (m := 0) (q := 1) (x := x) (y := y) (z := z) HCS.out (fun i hi => by omega) (cs := [.int .i64 x, .int .i64 y, .int .i64 z]) rfl (by intro i hi; obtain rfl : i = 0 := (by omega); exact ⟨rfl, rfl, rfl⟩) (by omega)
  have HP3 := Lib.hid (show Pat (w2.setRow g (cur.toList.take 0 ++ ([.int .i64 x, .int .i64 y, .int .i64 z] : List Value) ++ cur.toList.drop (0 + 3)).toArray) g n 1 x y z from ⟨_, setRow_heap w2 g cur _ _ _ HH.out, hs3, fun i hi => hp3 i (by omega)⟩)
  have B3 := Lib.hid (below_rowK B2.out (show w.heap.size ≤ g by rw [HG.out]; exact Nat.le_refl _) (cur.toList.take 0 ++ ([.int .i64 x, .int .i64 y, .int .i64 z] : List Value) ++ cur.toList.drop (0 + 3)).toArray)
  have CP2 := Lib.hid (CP.out.trans rfl)
  clear hs3 hp3 B2 HO2 CP
  rw [CP2.out]
  simp only [goInt]
  clear CP2 HH HCS
  generalize (w2.setRow g (cur.toList.take 0 ++ ([.int .i64 x, .int .i64 y, .int .i64 z] : List Value) ++ cur.toList.drop (0 + 3)).toArray) = w3 at *
  clear c0 c1 c2 hgx n0 n1 n3
  have n4 : IntKind.i64.wrap 1 = 1 := by decide
  go_wp2_with (fail)
  have HSZ := Lib.hid hsz
  clear hsz
  go_loopw [8] (fun v wr => ∃ m : Nat, 1 ≤ m ∧ m ≤ n ∧ v = .int .i64 m ∧ Pat wr g n m x y z ∧ Below w.heap.size w wr) (fun v _ => n - (intOf v).toNat)
  case atStart => exact ⟨1, by omega, hn1, rfl, HP3.out, B3.out⟩
  case round =>
    clear HP3 B3
    obtain ⟨m, hm1, hmn2, rfl, hpat, hbel⟩ := hrel
    have HB := Lib.hid hbel
    clear hbel
    by_cases hlt : m < n
    · obtain ⟨cur, hh, hcs, hpp⟩ := hpat
      obtain ⟨q, hq⟩ : ∃ q, q = Nat.min m (n - m) := ⟨_, rfl⟩
      have hq1 : 1 ≤ q := by rw [hq]; show 1 ≤ min m (n - m); omega
      have hq2 : q ≤ m := by rw [hq]; exact Nat.min_le_left _ _
      have hq3 : q ≤ n - m := by rw [hq]; exact Nat.min_le_right _ _
      have HQ := Lib.hid hq
      have HH := Lib.hid hh
      have HCS := Lib.hid hcs
      have HPP := Lib.hid hpp
      clear hq hh hcs hpp
      have l1 : (m : Int) < (n : Int) := by omega
      have l2 : (0 : Int) ≤ (m : Int) := by omega
      have l3 : (m : Int) ≤ (n : Int) := by omega
      have l4 : ¬ n = m := by omega
      have w1 : IntKind.i64.wrap ((m : Int) + (q : Int)) = (m : Int) + (q : Int) := i64w (by omega)
      go_wp2_with (fail)
      refine wp_region_held_drew (S := (fun _ => True)) (by kernel_rfl) True.intro (fun hHeld => ?_)
      refine tkH (by assumption) 0 (oi := ?_) (v := ?_) ?_ ?_ ?_ ?_ ?_ ?_ ?_ ?_; rotate_left 2; (simp only [gA, gB, gC]; exact rfl); kernel_rfl; kernel_rfl; kernel_rfl; exact fun _ _ _ h => h; rfl; (intro w' hSw; (try dsimp only at hSw); go_simp; with_reducible rfl); simp only [Act.put, pB, pC, pD]
      refine tkH (by assumption) 1 (oi := ?_) (v := ?_) ?_ ?_ ?_ ?_ ?_ ?_ ?_ ?_; rotate_left 2; (simp only [gA, gB, gC]; exact rfl); kernel_rfl; kernel_rfl; kernel_rfl; exact fun _ _ _ h => h; rfl; (intro w' hSw; (try dsimp only at hSw); go_simp; with_reducible rfl); simp only [Act.put, pB, pC, pD]
      refine tkH (by assumption) 2 (oi := ?_) (v := ?_) ?_ ?_ ?_ ?_ ?_ ?_ ?_ ?_; rotate_left 2; (simp only [gA, gB, gC]; exact rfl); kernel_rfl; kernel_rfl; kernel_rfl; exact fun _ _ _ h => h; rfl; (intro w' hSw; (try dsimp only at hSw); go_simp; with_reducible rfl); simp only [Act.put, pB, pC, pD]
      refine tkH (by assumption) 3 (oi := ?_) (v := ?_) ?_ ?_ ?_ ?_ ?_ ?_ ?_ ?_; rotate_left 2; (simp only [gA, gB, gC]; exact rfl); kernel_rfl; kernel_rfl; kernel_rfl; exact fun _ _ _ h => h; rfl; (intro w' hSw; (try dsimp only at hSw); go_simp; with_reducible rfl); simp only [Act.put, pB, pC, pD]
      refine tkH (by assumption) 4 (oi := ?_) (v := ?_) ?_ ?_ ?_ ?_ ?_ ?_ ?_ ?_; rotate_left 2; (simp only [gA, gB, gC]; exact rfl); kernel_rfl; kernel_rfl; kernel_rfl; exact fun _ _ _ h => h; rfl; (intro w' hSw; (try dsimp only at hSw); go_simp; with_reducible rfl); simp only [Act.put, pB, pC, pD]
      refine tkH (by assumption) 5 (oi := ?_) (v := ?_) ?_ ?_ ?_ ?_ ?_ ?_ ?_ ?_; rotate_left 2; (simp only [gA, gB, gC]; exact rfl); kernel_rfl; kernel_rfl; kernel_rfl; exact fun _ _ _ h => h; rfl; (intro w' hSw; (try dsimp only at hSw); go_simp; with_reducible rfl); simp only [Act.put, pB, pC, pD]
      refine tkH (by assumption) 6 (oi := ?_) (v := ?_) ?_ ?_ ?_ ?_ ?_ ?_ ?_ ?_; rotate_left 2; (simp only [gA, gB, gC]; exact rfl); kernel_rfl; kernel_rfl; kernel_rfl; exact fun _ _ _ h => h; rfl; (intro w' hSw; (try dsimp only at hSw); go_simp; with_reducible rfl); simp only [Act.put, pB, pC, pD]
      refine onH 7 (oi := ?_) (by kernel_rfl) ?_ ?_ (fun K hK => ?_); rotate_left; (simp only [gA, gB, gC]; exact rfl); rfl
      go_wp2_with (fail)
      have hcl : (cur.toList.take (q * 3)).length = q * 3 := by rw [List.length_take, Array.length_toList, HCS.out]; omega
      have hcv : ∀ i, i < q → (cur.toList.take (q * 3))[i * 3 + 0]? = some (.int .i64 x) ∧ (cur.toList.take (q * 3))[i * 3 + 1]? = some (.int .i64 y) ∧ (cur.toList.take (q * 3))[i * 3 + 2]? = some (.int .i64 z) := fun i hi => by
        have h := HPP.out i (by omega)
        refine ⟨?_, ?_, ?_⟩
        all_goals rw [List.getElem?_take_of_lt (by omega), Array.getElem?_toList]
        · exact h.1
        · exact h.2.1
        · exact h.2.2
      have hc1 : ∀ v ∈ cur.toList.take (q * 3), v.oneCell' = true := fun v hv => by
        obtain ⟨j, hj, rfl⟩ := List.getElem_of_mem hv
        have hj2 : j < q * 3 := by omega
        have h := HPP.out (j / 3) (by omega)
        have hget : (cur.toList.take (q * 3))[j] = cur[j]'(by rw [HCS.out]; omega) := by rw [List.getElem_take, Array.getElem_toList]
        rw [hget]
        have hr : j % 3 < 3 := Nat.mod_lt _ (by omega)
        have hjj : j / 3 * 3 + j % 3 = j := by have := Nat.div_add_mod j 3; omega
        have hv2 : ∃ z, cur[j]? = some (.int .i64 z) := by
          rw [← hjj]
          generalize j % 3 = r at *
          match r, hr with
          | 0, _ => exact ⟨_, h.1⟩
          | 1, _ => exact ⟨_, h.2.1⟩
          | 2, _ => exact ⟨_, h.2.2⟩
        obtain ⟨z, hz⟩ := hv2
        rw [Array.getElem?_eq_getElem (by rw [HCS.out]; omega)] at hz
        injection hz with hz
        rw [hz]
        rfl
      have CP := Lib.hid (run_copy_k (P := Try.prog) wr.drew 26 26 3 61 3 g (m * 3) (n - m) (n - m) ⟨g, 0, none⟩ m n cur 61 (cur.toList.take (q * 3)) rfl HSZ.out HH.out (by rw [hcl, HQ.out]) (by
        intro j v hj
        have e : Addr.add ⟨g, 0, none⟩ j = ⟨g, j, none⟩ := by unfold Addr.add; split <;> simp_all
        rw [e]
        have hjl : j < q * 3 := by
          obtain ⟨h1, _⟩ := List.getElem?_eq_some_iff.1 hj
          omega
        rw [List.getElem?_take_of_lt hjl, Array.getElem?_toList] at hj
        exact cell_of (w := wr.drew) HH.out hj) (by rw [hcl, HCS.out]; omega) hc1)
      rw [hcl, ← HQ.out] at CP
      have hg0 := pat_grow (cur := cur) (N := n) (m := m) (q := q) (x := x) (y := y) (z := z) HCS.out HPP.out (cs := cur.toList.take (q * 3)) hcl hcv (by omega)
      rw [hcl] at hg0
      rw [CP.out]
      simp only [goInt]
      have HP4 := Lib.hid (show Pat ((wr.drew).setRow g (cur.toList.take (m * 3) ++ cur.toList.take (q * 3) ++ cur.toList.drop (m * 3 + q * 3)).toArray) g n (m + q) x y z from ⟨_, setRow_heap wr.drew g cur _ _ _ HH.out, hg0.1, hg0.2⟩)
      have B4 := Lib.hid (below_rowK (Below.next_drew HB.out) (show w.heap.size ≤ g by rw [HG.out]; exact Nat.le_refl _) (cur.toList.take (m * 3) ++ cur.toList.take (q * 3) ++ cur.toList.drop (m * 3 + q * 3)).toArray)
      clear hg0 CP hcl hcv hc1 HPP HCS HH
      generalize ((wr.drew).setRow g (cur.toList.take (m * 3) ++ cur.toList.take (q * 3) ++ cur.toList.drop (m * 3 + q * 3)).toArray) = W4 at *
      go_wp2_with (fail)
      refine hK.out _ _ True.intro (fun hHeldN => ?_)
      clear hK K hHeld
      have hHeld := hHeldN
      clear hHeldN
      try simp only [Act.put, pB, pC, pD]
      refine tkH (by assumption) 8 (oi := ?_) (v := ?_) ?_ ?_ ?_ ?_ ?_ ?_ ?_ ?_; rotate_left 2; (simp only [gA, gB, gC]; exact rfl); kernel_rfl; kernel_rfl; kernel_rfl; exact fun _ _ _ h => h; rfl; (intro w' hSw; (try dsimp only at hSw); go_simp; with_reducible rfl); simp only [Act.put, pB, pC, pD]
      refine tkH (by assumption) 9 (oi := ?_) (v := ?_) ?_ ?_ ?_ ?_ ?_ ?_ ?_ ?_; rotate_left 2; (simp only [gA, gB, gC]; exact rfl); kernel_rfl; kernel_rfl; kernel_rfl; exact fun _ _ _ h => h; rfl; (intro w' hSw; (try dsimp only at hSw); go_simp; with_reducible rfl); simp only [Act.put, pB, pC, pD]
      refine wpAnyH_done (by kernel_rfl) ?_ _
      go_wp2_with (fail)
      go_roundw
      case rel => exact ⟨m + q, by omega, by omega, by go_num, HP4.out, B4.out⟩
      case measure => simp [intOf]; omega
    · obtain rfl : m = n := by omega
      go_wp2_with (fail)
      go_ret
      exact ⟨g, rfl, hpat, by rw [HG.out]; exact Nat.le_refl _, HB.out⟩
end Go.Proofs.Ytddnimbalfaieaa

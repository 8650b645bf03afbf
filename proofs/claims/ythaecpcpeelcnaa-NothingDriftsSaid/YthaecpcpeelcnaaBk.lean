/- slices.Repeat of one bead. -/
import Derived.Test.YthaecpcpeelcnaaBa
import Derived.Laws.CopyRow
import Derived.OwnWalk
set_option linter.unusedSimpArgs false
set_option linter.unusedVariables false
namespace Go.Proofs.Ythaecpcpeelcnaa
open Go.RowKit
/-- copy of elements of k cells. -/
theorem run_copy_k {P : Program} (w : World) (dT sT ty elem : TypeId) (k g o dLen dCap : Nat) (a : Addr) (sLen sCap : Nat) (cur : Array Value) (t : TypeId) (cs : List Value)
    (hu : P.underlying dT = some (.slice elem)) (hs : (P.info? elem).map (·.size) = some k)
    (hg : w.heap[g]? = some (.cells cur t (0, 0))) (hn : cs.length = Nat.min sLen dLen * k)
    (hsrc : ∀ j v, cs[j]? = some v → w.cell? (a.add j) = some v) (hfit : o + cs.length ≤ cur.size) (h1 : ∀ v ∈ cs, v.oneCell' = true) :
    (Builtin.copy_ #[dT, sT] ty #[.slice (some ⟨g, o, none⟩) dLen dCap, .slice (some a) sLen sCap]).run P w =
      .ok (goInt (Nat.min sLen dLen : Nat)) (w.setRow g (cur.toList.take o ++ cs ++ cur.toList.drop (o + cs.length)).toArray) := by
  have hl := run_loadCells_list (P := P) w a cs hsrc
  have hst := run_storeCells_at P g o t cs 0 cur w hg (by simpa using hfit) h1
  cases hq : P.info? elem with
  | none => simp [hq] at hs
  | some i =>
    have hi : i.size = k := by simpa [hq] using hs
    simp [Builtin.copy_, run_underlying hu, Builtin.lenOf, Builtin.firstCells, sizeOf, typeInfo, hq, hi, ← hn, hl, hst]
theorem wp_copy_runK {P : Program} (w : World) {o : Oper} {a : Act} {K : Act → World → Prop} {Q : Exit → Act → World → Prop} (d s : Operand) (t t' : TypeId)
    (ho : o.op = .call { callee := .builtin .copy, args := #[d, s], argTypes := #[t, t'] }) (v u : Value) (hd : a.eval d = v) (hs : a.eval s = u) {v' : Value} {w' : World}
    (hr : (Builtin.copy_ #[t, t'] o.type #[v, u]).run P w = .ok v' w') (h : K (a.put o.dst v') w') : o.wp P a w K Q := by
  unfold Oper.wp execOp
  simp only [ho, resolve, invoke, builtin, Sem.run_bind, Sem.run_pure, Result.andThen_ok, List.map_toArray, List.map_cons, List.map_nil, hd, hs, hr]
  exact h
theorem wpList_copy_runK {P : Program} (w : World) {ops : Array Oper} {rest : List Oper} {o : Oper} {a : Act} {Q : Exit → Act → World → Prop} (hgd : o.guard = none) (d s : Operand) (t t' : TypeId)
    (ho : o.op = .call { callee := .builtin .copy, args := #[d, s], argTypes := #[t, t'] }) (v u : Value) (hd : a.eval d = v) (hs : a.eval s = u) {v' : Value} {w' : World}
    (hr : (Builtin.copy_ #[t, t'] o.type #[v, u]).run P w = .ok v' w') (h : wpList P ops Q rest (a.put o.dst v') w') : wpList P ops Q (o :: rest) a w :=
  wpList_plain hgd fun _ hK => wp_copy_runK w d s t t' ho v u hd hs hr (hK _ _ h)
theorem below_rowK {B g : Nat} {w0 w : World} (hb : Below B w0 w) (hBg : B ≤ g) (cs : Array Value) : Below B w0 (w.setRow g cs) :=
  hb.trans ⟨rfl, rfl, rfl, by simp [World.setRow], fun k hk => setRow_other w g k cs (by omega)⟩
/-- The first m of N elements of a block are alike. -/
def Pat (w : World) (g N m : Nat) (x y z : Int) : Prop := ∃ cur : Array Value, w.heap[g]? = some (.cells cur 35 (0, 0)) ∧ cur.size = N * 3 ∧ ∀ i, i < m → cur[i * 3 + 0]? = some (.int .i64 x) ∧ cur[i * 3 + 1]? = some (.int .i64 y) ∧ cur[i * 3 + 2]? = some (.int .i64 z)
theorem Pat.kept {w w' : World} {g N m : Nat} {x y z : Int} (h : Pat w g N m x y z) (hb : Below w.heap.size w w') : Pat w' g N m x y z := by
  obtain ⟨cur, h1, h2⟩ := h
  exact ⟨cur, heap_keep hb h1, h2⟩
theorem Pat.lt {w : World} {g N m : Nat} {x y z : Int} (h : Pat w g N m x y z) : g < w.heap.size := by
  obtain ⟨cur, h1, h2⟩ := h
  exact lt_of_heap h1
/-- As many cells as q elements want, from the first on, laid behind m of them. -/
theorem pat_grow {cur : Array Value} {N m q : Nat} {x y z : Int} (hs : cur.size = N * 3) (hm : ∀ i, i < m → cur[i * 3 + 0]? = some (.int .i64 x) ∧ cur[i * 3 + 1]? = some (.int .i64 y) ∧ cur[i * 3 + 2]? = some (.int .i64 z)) {cs : List Value} (hc : cs.length = q * 3) (hcv : ∀ i, i < q → cs[i * 3 + 0]? = some (.int .i64 x) ∧ cs[i * 3 + 1]? = some (.int .i64 y) ∧ cs[i * 3 + 2]? = some (.int .i64 z)) (hq : m + q ≤ N) :
    (cur.toList.take (m * 3) ++ cs ++ cur.toList.drop (m * 3 + cs.length)).toArray.size = N * 3 ∧ ∀ i, i < m + q → (cur.toList.take (m * 3) ++ cs ++ cur.toList.drop (m * 3 + cs.length)).toArray[i * 3 + 0]? = some (.int .i64 x) ∧ (cur.toList.take (m * 3) ++ cs ++ cur.toList.drop (m * 3 + cs.length)).toArray[i * 3 + 1]? = some (.int .i64 y) ∧ (cur.toList.take (m * 3) ++ cs ++ cur.toList.drop (m * 3 + cs.length)).toArray[i * 3 + 2]? = some (.int .i64 z) := by
  have hl : cur.toList.length = N * 3 := by simpa using hs
  have key : ∀ k v, k < 3 → (∀ i, i < m → cur[i * 3 + k]? = some v) → (∀ i, i < q → cs[i * 3 + k]? = some v) → ∀ i, i < m + q → (cur.toList.take (m * 3) ++ cs ++ cur.toList.drop (m * 3 + cs.length)).toArray[i * 3 + k]? = some v := by
    intro k v hk h1 h2 i hi
    rw [List.getElem?_toArray, List.append_assoc]
    by_cases him : i < m
    · rw [List.getElem?_append_left (by simp [List.length_take]; omega), List.getElem?_take_of_lt (by omega), Array.getElem?_toList]
      exact h1 i him
    · have hlt : (cur.toList.take (m * 3)).length = m * 3 := by rw [List.length_take]; omega
      rw [List.getElem?_append_right (by omega), hlt, List.getElem?_append_left (by omega), show i * 3 + k - m * 3 = (i - m) * 3 + k by omega]
      exact h2 (i - m) (by omega)
  refine ⟨?_, fun i hi => ⟨key 0 _ (by omega) (fun i hi => (hm i hi).1) (fun i hi => (hcv i hi).1) i hi, key 1 _ (by omega) (fun i hi => (hm i hi).2.1) (fun i hi => (hcv i hi).2.1) i hi, key 2 _ (by omega) (fun i hi => (hm i hi).2.2) (fun i hi => (hcv i hi).2.2) i hi⟩⟩
  simp [List.length_append, List.length_take, List.length_drop]
  omega
theorem info_rep : (Try.prog.info? 35).map (fun i => (i.zero, i.size, i.bytes)) = some (some (.agg #[.int .i64 0, .int .i64 0, .int .i64 0]), 3, 24) := by kernel_rfl
end Go.Proofs.Ythaecpcpeelcnaa

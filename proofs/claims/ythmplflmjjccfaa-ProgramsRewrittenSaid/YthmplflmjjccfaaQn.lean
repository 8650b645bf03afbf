/- Programs behind one another. -/
import Derived.Test.YthmplflmjjccfaaQe
import Derived.Laws.AppendOwnNone
import Derived.Lib.AppendZerosOnto
import Derived.Maps.AppendAt
set_option linter.unusedSimpArgs false
set_option linter.unusedVariables false
namespace Go.Proofs.Ythmplflmjjccfaa
open Go.RowKit
theorem own_sliceS {w : World} {base : Nat} {e : TypeId} {size : Nat} {v : Value} {n : Nat} {xs : List Value} (h : w.ownsRow base e size v n xs) : ∃ ao cap, v = .slice ao n cap := by
  rcases h.2 with ⟨rfl, h0⟩ | ⟨g, cap, cur, hv, _⟩
  · exact ⟨none, 0, by rw [h0]⟩
  · exact ⟨_, _, hv⟩
/-- The first n steps, as a list. -/
def frL (S : Nat → St) : Nat → List St
  | 0 => []
  | n + 1 => frL S n ++ [S n]
theorem frL_len (S : Nat → St) (n : Nat) : (frL S n).length = n := by
  induction n with
  | zero => rfl
  | succ n ih => simp [frL, ih]
theorem rowS_frL (S : Nat → St) (n : Nat) : rowS (frL S n) = flat (fun i => sV (S i)) n := by
  induction n with
  | zero => rfl
  | succ n ih => rw [frL, rowS_app, ih, flat]; simp [rowS]
theorem frL_get (S : Nat → St) (n i : Nat) (h : i < n) : lf (frL S n) i = S i := by
  induction n with
  | zero => omega
  | succ n ih =>
    unfold lf at *
    rw [frL, List.getD_eq_getElem?_getD]
    by_cases hi : i < n
    · rw [List.getElem?_append_left (by rw [frL_len]; exact hi), ← List.getD_eq_getElem?_getD]; exact ih hi
    · have : i = n := by omega
      subst this
      rw [List.getElem?_append_right (by rw [frL_len]; exact Nat.le_refl _), frL_len]
      simp
theorem frL_mem {S : Nat → St} {n : Nat} {s : St} (h : s ∈ frL S n) : ∃ i, i < n ∧ s = S i := by
  induction n with
  | zero => simp [frL] at h
  | succ n ih =>
    rw [frL, List.mem_append] at h
    rcases h with h | h
    · obtain ⟨i, hi, e⟩ := ih h
      exact ⟨i, by omega, e⟩
    · exact ⟨n, by omega, by simpa using h⟩
theorem stepsE_list {l : List St} (h : ∀ s ∈ l, stepE s = 0) : stepsE l.length (lf l) = 0 := by
  refine stepsE_ok fun i hi => ?_
  unfold lf
  rw [List.getD_eq_getElem?_getD, List.getElem?_eq_getElem hi]
  exact h _ (List.getElem_mem hi)
theorem run_append_zero {P : Program} {w : World} (base : Nat) (t ty e : TypeId) (i : TypeInfo) (size : Nat) (ht : P.underlying t = some (.slice e)) (hi : P.info? e = some i)
    (v : Value) (n : Nat) (xs : List Value) (hown : w.ownsRow base e size v n xs) (a : Option Addr) (c : Nat) :
    (Builtin.append_ #[t, t] ty #[v, .slice a 0 c]).run P w = .ok v w := by
  have hl := fun ad => run_loadCells_list (P := P) w ad [] (fun j v hj => by simp at hj)
  rcases hown.2 with ⟨rfl, rfl⟩ | ⟨g, cap, cur, rfl, _, _, hnc, _⟩
  · cases a <;> simp [Builtin.append_, run_underlying ht, sizeOf, typeInfo, hi, Builtin.lenOf, Builtin.firstCells]
    simp only [List.length_nil] at hl
    simp [hl]
  · cases a <;> simp [Builtin.append_, run_underlying ht, sizeOf, typeInfo, hi, Builtin.lenOf, Builtin.firstCells, hnc, storeCells]
    simp only [List.length_nil] at hl
    simp [hl, storeCells]

/-- Steps, whatever they are, appended to a row of one's own. -/
theorem wpList_append_steps {w : World} {ops : Array Oper} {rest : List Oper} {o : Oper} {a : Act} {Q : Exit → Act → World → Prop} (hgd : o.guard = none) (s x : Operand)
    (ho : o.op = .call { callee := .builtin .append, args := #[s, x], argTypes := #[26, 26] })
    (base : Nat) (i : TypeInfo) (z : Value) (hi : Try.prog.info? 36 = some i) (hz : i.zero = some z)
    (hsize : i.size = 6) (hby : i.bytes = 48) (hzs : z.cells.size = 6)
    (v : Value) (n : Nat) (l : List St) (hs : a.eval s = v) (hown : w.ownsRow base 36 6 v n (rowS l))
    (ad : Option Addr) (m c : Nat) (S : Nat → St) (hx : a.eval x = .slice ad m c) (hp : StepsR w ad m S)
    (h63 : n + m ≤ 20000) (hbase : base ≤ w.heap.size)
    (h : ∀ v' w', w'.ownsRow base 36 6 v' (n + m) (rowS (l ++ frL S m)) → w.grownBy w' v.ownBlock → wpList Try.prog ops Q rest (a.put o.dst v') w') :
    wpList Try.prog ops Q (o :: rest) a w := by
  rcases Nat.eq_zero_or_pos m with h0 | h0
  · subst h0
    refine wpList_plain hgd fun K hK => ?_
    have hr := run_append_zero (P := Try.prog) base 26 o.type 36 i 6 Try.underlying26 hi v n _ hown ad c
    unfold Oper.wp execOp
    simp only [ho, resolve, invoke, builtin, Sem.run_bind, Sem.run_pure, Result.andThen_ok, List.map_toArray, List.map_cons, List.map_nil, hs, hx, hr]
    exact hK _ _ (h v w (by simpa [frL] using hown) (World.grownBy.refl _ _))
  · rcases id hp with h1 | ⟨b, off, rfl, -, -⟩
    · omega
    · refine wpList_append_own_at _ hgd s x 26 ho base 36 i z 6 48 Try.underlying26 hi hz hsize hby hzs (by decide) v n (rowS l) hs hown ⟨b, off, none⟩ m c (flat (fun i => sV (S i)) m) hx (flat_len (fun _ => rfl)) (steps_news hp) (sV_one S m) (by unfold maxLen; omega) (by omega) hbase ?_
      intro v' w' h2 h3 _ _
      exact h v' w' (by rw [rowS_app, rowS_frL]; exact h2) h3

set_option maxRecDepth 100000 in
set_option maxHeartbeats 4000000 in
theorem growS (n : Nat) (w : World) (hn : n ≤ 20000) :
    Calls Try.prog 49 #[.slice none 0 0, .int .i64 n] w fun e w' => ∃ a c, e = .returned (.slice a 0 c) ∧ w'.ownsRow w.heap.size 36 6 (.slice a 0 c) 0 [] ∧ Below w.heap.size w w' := by
  obtain ⟨i0, hi0, hz0, hz1, hz2⟩ := info_parts2 info_st
  by_cases h0 : n = 0
  · subst h0
    go_enter Try.func49, Try.ntmps49
    go_wp2
    go_ret
    exact ⟨_, _, rfl, World.ownsRow_nil _ _ _ _, (by repeat (first | exact Below.refl _ _ | assumption | refine Below.drew ?_ | refine bdrewN ?_ _ | refine Below.setCell ?_ (by first | omega | (simp <;> omega)) _ | refine Below.alloc ?_ (by first | omega | (simp <;> omega)) _))⟩
  have h1 : ¬ ((n : Int) < 0) := by omega
  have h4 : (n : Int) > 0 := by omega
  have hold : (Builtin.firstCells i0.size 0 (.slice none 0 0)).run Try.prog w.drew = .ok (#[] : Array Value) w.drew := run_firstCells_none w.drew i0.size 0 0 0
  have hG3 : grownCap w n 0 36 ≤ 9223372036854775807 := by
    have := grownCap_le_maxLen w n 0 36 (by unfold maxLen; omega)
    unfold maxLen at this
    omega
  have hGn : n ≤ grownCap w n 0 36 := grownCap_ge w _ _ _
  have hrz : ∀ ty, (Builtin.append_ #[26, 3] ty #[.slice none 0 0, .int .i64 (n : Int)]).run Try.prog w =
      .ok (.slice (some ⟨w.heap.size, 0, none⟩) n (grownCap w n 0 36)) (w.drew.alloc (.cells ((#[] : Array Value) ++ Builtin.zeroCells (Value.agg #[.int .i64 0, .int .i64 0, .int .i64 0, .int .i64 0, .int .i64 0, .int .i64 0]).cells n ++ Builtin.zeroCells (Value.agg #[.int .i64 0, .int .i64 0, .int .i64 0, .int .i64 0, .int .i64 0, .int .i64 0]).cells (grownCap w n 0 36 - n)) 36)) := fun ty => by
    have h := Lib.run_append_grow_zeros w 26 3 ty 36 i0 (.agg #[.int .i64 0, .int .i64 0, .int .i64 0, .int .i64 0, .int .i64 0, .int .i64 0]) .i64 .i64 Try.underlying26 Try.underlying3 hi0 hz0 none 0 0 [] hold n (by omega) (by omega) (by omega) (by omega) (by rw [hz2]; omega) (by rw [hz2]; exact growslice_fits (by omega) (by omega))
    simpa using h
  have hsize : ((#[] : Array Value) ++ Builtin.zeroCells (Value.agg #[.int .i64 0, .int .i64 0, .int .i64 0, .int .i64 0, .int .i64 0, .int .i64 0]).cells n ++ Builtin.zeroCells (Value.agg #[.int .i64 0, .int .i64 0, .int .i64 0, .int .i64 0, .int .i64 0, .int .i64 0]).cells (grownCap w n 0 36 - n)).size = grownCap w n 0 36 * 6 := by
    simp only [Array.size_append, size_zeroCells]
    have : (Value.agg #[.int .i64 0, .int .i64 0, .int .i64 0, .int .i64 0, .int .i64 0, .int .i64 0]).cells.size = 6 := by rfl
    rw [this]
    simp
    omega
  generalize ((#[] : Array Value) ++ Builtin.zeroCells (Value.agg #[.int .i64 0, .int .i64 0, .int .i64 0, .int .i64 0, .int .i64 0, .int .i64 0]).cells n ++ Builtin.zeroCells (Value.agg #[.int .i64 0, .int .i64 0, .int .i64 0, .int .i64 0, .int .i64 0, .int .i64 0]).cells (grownCap w n 0 36 - n)) = CS at *
  generalize grownCap w n 0 36 = G at *
  have HS := Lib.hid hsize
  clear hsize hold
  go_enter Try.func49, Try.ntmps49
  go_wp2_with (at_builtin; refine Lib.wpList_append_run _ rfl _ _ _ _ rfl _ _ rfl rfl _ _ (hrz _) ?_)
  all_goals
    go_ret
    exact ⟨_, _, rfl, World.ownsRow_made w.drew CS G (Nat.le_refl _) (by unfold maxLen; omega) HS.out, (by repeat (first | exact Below.refl _ _ | assumption | refine Below.drew ?_ | refine bdrewN ?_ _ | refine Below.setCell ?_ (by first | omega | (simp <;> omega)) _ | refine Below.alloc ?_ (by first | omega | (simp <;> omega)) _))⟩

set_option maxRecDepth 100000 in
set_option maxHeartbeats 4000000 in
theorem concatS (g : Nat) (d1 d2 d3 : Option Addr) (n1 n2 n3 c1 c2 c3 : Nat) (X1 X2 X3 : Nat → St) (w : World) (h0 : w.heap[g]? = some (.cells #[.slice d1 n1 c1, .slice d2 n2 c2, .slice d3 n3 c3] 26 (0, 0)))
    (r1 : StepsR w d1 n1 X1) (r2 : StepsR w d2 n2 X2) (r3 : StepsR w d3 n3 X3) (hm1 : n1 ≤ 5000) (hm2 : n2 ≤ 5000) (hm3 : n3 ≤ 5000) :
    Calls Try.prog 30 #[.slice (some ⟨g, 0, none⟩) 3 3] w fun e w' => ∃ a c, e = .returned (.slice a (n1 + n2 + n3) c) ∧ w'.ownsRow w.heap.size 36 6 (.slice a (n1 + n2 + n3) c) (n1 + n2 + n3) (rowS (frL X1 n1 ++ frL X2 n2 ++ frL X3 n3)) ∧ Below w.heap.size w w' := by
  obtain ⟨i0, hi0, hz0, hz1, hz2⟩ := info_parts2 info_st
  have T1 := Lib.hid r1
  have T2 := Lib.hid r2
  have T3 := Lib.hid r3
  have HG := Lib.hid h0
  have hg := lt_of_heap h0
  have k0 := cell_of h0 (i := 0) rfl
  have k1 := cell_of h0 (i := 1) rfl
  have k2 := cell_of h0 (i := 2) rfl
  clear r1 r2 r3 h0
  go_enter Try.func30, Try.ntmps30
  go_wp2
  refine wp_loop_rounds 4 ?_
  rw [rounds_succ]; go_wp2
  rw [rounds_succ]; go_wp2
  rw [rounds_succ]; go_wp2
  rw [rounds_succ]; go_wp2_with (fail)
  refine (growS (n1 + n2 + n3) w (by omega)).mono ?_
  rintro e w1 ⟨a, c, rfl, ho, hb⟩
  have H0 := cellk hb hg k0
  have H1 := cellk hb hg k1
  have H2 := cellk hb hg k2
  have hs := hb.size
  have O1 := Lib.hid (show w1.ownsRow w.heap.size 36 6 (.slice a 0 c) 0 (rowS []) from ho)
  have B1 := Lib.hid hb
  have hg1 : g < w1.heap.size := by omega
  clear ho hb k0 k1 k2
  go_wp2
  refine wp_loop_rounds 4 ?_
  rw [rounds_succ]
  go_wp2_with (at_builtin; refine wpList_append_steps rfl _ _ rfl w.heap.size i0 (.agg #[.int .i64 0, .int .i64 0, .int .i64 0, .int .i64 0, .int .i64 0, .int .i64 0]) hi0 hz0 hz1 hz2 rfl _ _ _ rfl O1.out d1 n1 c1 X1 rfl (T1.out.kept B1.out) (by omega) (by omega) ?_; intro v2 w2 hown hgrow; have HO2 := Lib.hid hown; have HG2 := Lib.hid hgrow; clear hown hgrow)
  have B2 := Lib.hid (B1.out.grown HG2.out B1.out.size (fun b hb => (O1.out.lt b hb).1))
  have s2 := B2.out.size
  have hg2 : g < w2.heap.size := by omega
  have hne1 : (Value.slice a 0 c).ownBlock ≠ some g := fun e => by have := (O1.out.lt _ e).1; omega
  have H11 := (HG2.out.cell_far ⟨g, 1, none⟩ hg1 (fun e => hne1 e.symm)).trans H1
  have H21 := (HG2.out.cell_far ⟨g, 2, none⟩ hg1 (fun e => hne1 e.symm)).trans H2
  clear H0 H1 H2
  go_wp2
  rw [rounds_succ]
  go_wp2_with (at_builtin; refine wpList_append_steps rfl _ _ rfl w.heap.size i0 (.agg #[.int .i64 0, .int .i64 0, .int .i64 0, .int .i64 0, .int .i64 0, .int .i64 0]) hi0 hz0 hz1 hz2 rfl _ _ _ rfl HO2.out d2 n2 c2 X2 rfl (T2.out.kept B2.out) (by omega) (by omega) ?_; intro v3 w3 hown hgrow; have HO3 := Lib.hid hown; have HG3 := Lib.hid hgrow; clear hown hgrow)
  have B3 := Lib.hid (B2.out.grown HG3.out B2.out.size (fun b hb => (HO2.out.lt b hb).1))
  have s3 := B3.out.size
  have hg3 : g < w3.heap.size := by omega
  have hne2 : v2.ownBlock ≠ some g := fun e => by have := (HO2.out.lt _ e).1; omega
  have H22 := (HG3.out.cell_far ⟨g, 2, none⟩ hg2 (fun e => hne2 e.symm)).trans H21
  go_wp2
  rw [rounds_succ]
  go_wp2_with (at_builtin; refine wpList_append_steps rfl _ _ rfl w.heap.size i0 (.agg #[.int .i64 0, .int .i64 0, .int .i64 0, .int .i64 0, .int .i64 0, .int .i64 0]) hi0 hz0 hz1 hz2 rfl _ _ _ rfl HO3.out d3 n3 c3 X3 rfl (T3.out.kept B3.out) (by omega) (by omega) ?_; intro v4 w4 hown hgrow; have HO4 := Lib.hid hown; have HG4 := Lib.hid hgrow; clear hown hgrow)
  have B4 := Lib.hid (B3.out.grown HG4.out B3.out.size (fun b hb => (HO3.out.lt b hb).1))
  have s4 := B4.out.size
  have hg4 : g < w4.heap.size := by omega
  obtain ⟨ao, cap, rfl⟩ := own_sliceS HO4.out
  have O4 := HO4.out
  simp only [Nat.zero_add, List.nil_append] at O4
  replace O4 := Lib.hid O4
  go_wp2
  rw [rounds_succ]; go_wp2
  go_ret
  exact ⟨_, _, by (simp only [Nat.zero_add]; rfl), O4.out, B4.out⟩

set_option maxHeartbeats 1000000 in
theorem cloneS (a : Option Addr) (n c : Nat) (S : Nat → St) (w : World) (h : StepsR w a n S) (hn : n ≤ 1000) :
    Calls Try.prog 35 #[.slice a n c] w fun e w' => ∃ v, e = .returned v ∧ w'.ownsRow w.heap.size 36 6 v n (rowS (frL S n)) ∧ Below w.heap.size w w' := by
  rcases Nat.eq_zero_or_pos n with h0 | h0
  · subst h0
    obtain ⟨i0, hi0, hz0, hz1, hz2⟩ := info_parts2 info_st
    have q22 := fun (w : World) (a : Option Addr) (n c n' c' : Nat) => Lib.run_eql_slice_nil (P := Try.prog) w _ _ a n c n' c' Try.underlying26
    rcases a with _ | ad
    · go_enter Try.func35, Try.ntmps35
      go_wp2_with (fail)
      go_ret
      exact ⟨_, rfl, World.ownsRow_nil _ _ _ _, Below.refl _ _⟩
    · go_enter Try.func35, Try.ntmps35
      go_wp2_with (at_builtin; refine wpList_append_steps rfl _ _ rfl w.heap.size i0 (.agg #[.int .i64 0, .int .i64 0, .int .i64 0, .int .i64 0, .int .i64 0, .int .i64 0]) hi0 hz0 hz1 hz2 rfl _ 0 [] rfl (World.ownsRow_made w #[] 0 (Nat.le_refl _) (by unfold maxLen; omega) rfl) (some ad) 0 c S rfl (.inl rfl) (by omega) (by simp) ?_; intro v' w' hown hgrow; have HO := Lib.hid hown; have HG := Lib.hid (Below.grown ((Below.refl _ w).alloc (Nat.le_refl _) (.cells #[] 36)) hgrow (by simp) (fun b hb => by cases hb; exact Nat.le_refl _)); clear hown hgrow)
      go_ret
      exact ⟨_, rfl, by simpa using HO.out, HG.out⟩
  · rcases id h with h1 | ⟨b, off, rfl, hb, -⟩
    · omega
    · refine (clone_any b off n c S w hb h h0 hn).mono ?_
      rintro e w' ⟨g, c', rfl, h2, h3⟩
      exact ⟨_, rfl, by rw [rowS_frL]; exact h2, h3⟩
end Go.Proofs.Ythmplflmjjccfaa

/- slices.Insert of one step ahead of a row of steps. -/
import Derived.Test.YthmplflmjjccfaaQc
import Derived.Deep.AppendLies
import Derived.Lib.AppendZerosOnto
import Derived.Lib.Overlaps
import Derived.Laws.CopyRow
import Derived.OwnWalk
set_option linter.unusedSimpArgs false
set_option linter.unusedVariables false
namespace Go.Proofs.Ythmplflmjjccfaa
open Go.RowKit
/-- copy of elements of k cells. -/
theorem run_copy_k {P : Program} (w : World) (dT sT ty elem : TypeId) (k g o dLen dCap : Nat) (a : Addr) (sLen sCap : Nat) (cur : Array Value) (t : TypeId) (cs : List Value)
    (hu : P.underlying dT = some (.slice elem)) (hs : (P.info? elem).map (·.size) = some k)
    (hg : w.heap[g]? = some (.cells cur t (0, 0))) (hn : cs.length = Nat.min sLen dLen * k)
    (hsrc : ∀ j v, cs[j]? = some v → w.cell? (a.add j) = some v) (hfit : o + cs.length ≤ cur.size) (h1 : ∀ v ∈ cs, v.oneCell' = true) :
    (Builtin.copy_ #[dT, sT] ty #[.slice (some ⟨g, o, none⟩) dLen dCap, .slice (some a) sLen sCap]).run P w =
      .ok (goInt (Nat.min sLen dLen : Nat)) (w.setRow g (cur.toList.take o ++ cs ++ cur.toList.drop (o + cs.length)).toArray) := by
  have hl := run_loadCells_list (P := P) w a cs hsrc
  have hst := run_storeCells_at P g o t cs 0 cur w hg (by simpa using hfit) h1
  cases hq : P.info? elem with
  | none => simp [hq] at hs
  | some i =>
    have hi : i.size = k := by simpa [hq] using hs
    simp [Builtin.copy_, run_underlying hu, Builtin.lenOf, Builtin.firstCells, sizeOf, typeInfo, hq, hi, ← hn, hl, hst]
theorem wp_copy_runK {P : Program} (w : World) {o : Oper} {a : Act} {K : Act → World → Prop} {Q : Exit → Act → World → Prop} (d s : Operand) (t t' : TypeId)
    (ho : o.op = .call { callee := .builtin .copy, args := #[d, s], argTypes := #[t, t'] }) (v u : Value) (hd : a.eval d = v) (hs : a.eval s = u) {v' : Value} {w' : World}
    (hr : (Builtin.copy_ #[t, t'] o.type #[v, u]).run P w = .ok v' w') (h : K (a.put o.dst v') w') : o.wp P a w K Q := by
  unfold Oper.wp execOp
  simp only [ho, resolve, invoke, builtin, Sem.run_bind, Sem.run_pure, Result.andThen_ok, List.map_toArray, List.map_cons, List.map_nil, hd, hs, hr]
  exact h
theorem wpList_copy_runK {P : Program} (w : World) {ops : Array Oper} {rest : List Oper} {o : Oper} {a : Act} {Q : Exit → Act → World → Prop} (hgd : o.guard = none) (d s : Operand) (t t' : TypeId)
    (ho : o.op = .call { callee := .builtin .copy, args := #[d, s], argTypes := #[t, t'] }) (v u : Value) (hd : a.eval d = v) (hs : a.eval s = u) {v' : Value} {w' : World}
    (hr : (Builtin.copy_ #[t, t'] o.type #[v, u]).run P w = .ok v' w') (h : wpList P ops Q rest (a.put o.dst v') w') : wpList P ops Q (o :: rest) a w :=
  wpList_plain hgd fun _ hK => wp_copy_runK w d s t t' ho v u hd hs hr (hK _ _ h)
theorem below_rowK {B g : Nat} {w0 w : World} (hb : Below B w0 w) (hBg : B ≤ g) (cs : Array Value) : Below B w0 (w.setRow g cs) :=
  hb.trans ⟨rfl, rfl, rfl, by simp [World.setRow], fun k hk => setRow_other w g k cs (by omega)⟩
set_option maxRecDepth 100000 in
set_option maxHeartbeats 4000000 in
theorem insert_any (base n c gv : Nat) (a : Option Addr) (l : List St) (s : St) (w : World) (hown : w.ownsRow base 36 6 (.slice a n c) n (rowS l)) (hln : l.length = n) (h0 : 0 < n) (hn : n ≤ 4001) (hb : base ≤ w.heap.size)
    (hv : w.heap[gv]? = some (.cells #[.int .i64 s.k, .int .i64 s.x, .int .i64 s.y, .int .i64 s.z, .int .i64 s.f, .int .i64 s.n] 36 (0, 0))) (hne : ∀ b, (Value.slice a n c).ownBlock = some b → b ≠ gv) :
    Calls Try.prog 25 #[.slice a n c, .int .i64 0, .slice (some ⟨gv, 0, none⟩) 1 1] w fun e w' => ∃ g c', e = .returned (.slice (some ⟨g, 0, none⟩) (n + 1) c') ∧ w'.ownsRow base 36 6 (.slice (some ⟨g, 0, none⟩) (n + 1) c') (n + 1) (rowS (s :: l)) ∧ Below base w w' := by
  obtain ⟨i0, hi0, hz0, hz1, hz2⟩ := info_parts2 info_st
  have hc := own_cap hown
  obtain ⟨gT, cap', hvv, -, hgTl⟩ := hown.form h0
  cases hvv
  have hz2' : ¬ ((0 : Int) = (n : Int)) := by omega
  have ew : IntKind.i64.wrap ((n : Int) + 1) = (n : Int) + 1 := i64w (by omega)
  have hgv := lt_of_heap hv
  have hg0 : (0 : Int) ≤ (n : Int) := by omega
  go_enter Try.func25, Try.ntmps25
  by_cases hroom : n + 1 ≤ c
  · have e1 : decide ((c : Int) < (n : Int) + 1) = false := by rw [decide_eq_false_iff_not]; omega
    obtain ⟨hrl, hrow⟩ := hown
    have hown : w.ownsRow base 36 6 (.slice (some ⟨gT, 0, none⟩) n c) n (rowS l) := ⟨hrl, hrow⟩
    have HCA := Lib.hid (fun (j : Nat) (hj : j < n * 6) => hown.cellAt j hj)
    rcases hrow with ⟨hx, -⟩ | ⟨g, cap, cur, hvv, hgb, hgh, hgc, hgm, hgs, hgx⟩
    · cases hx
    cases hvv
    clear hown
    have hne2 : gT ≠ gv := hne gT rfl
    have hcur0 : cur.size ≠ 0 := by omega
    have hov : (callFunc 45 #[.slice (some ⟨gv, 0, none⟩) 1 1, .slice (some ⟨gT, 6, none⟩) n (c - 1)]).run Try.prog w = .ok (.value (.bool false)) w := by
      rw [run_callFunc_extern Try.func45 (by kernel_rfl) (by kernel_rfl) (by kernel_rfl) (e := Extern.SlicesOverlaps.overlaps #[26, 26] #[4]) (by kernel_rfl),
        Lib.run_overlaps_apart w 26 4 36 Try.underlying26 6 (fun w => by simp [Go.sizeOf, typeInfo, hi0, hz1]) ⟨gv, 0, none⟩ ⟨gT, 6, none⟩ 1 1 n (c - 1) (fun h => hne2 h.symm) 36 36 6 cur.size (by simp [World.shape?, hv]) (by simp [World.shape?, hgh]) hcur0 (frozen_of hv) (frozen_of hv)]
      rfl
    have ew1 : IntKind.i64.wrap 1 = 1 := by decide
    have hp1 : (1 : Int) ≤ (n : Int) + 1 := by omega
    have hp0 : (0 : Int) ≤ (n : Int) + 1 := by omega
    have hc1 : ¬ (c = 1) := by omega
    have hc0 : ¬ (c = 0) := by omega
    have hsz : (Try.prog.info? 36).map (·.size) = some 6 := by rw [hi0]; simp [hz1]
    have hm1 : Nat.min 1 (n + 1) = 1 := Nat.min_eq_left (by omega)
    have hm2 : Nat.min (n + 1) n = n := Nat.min_eq_right (by omega)
    go_upto_region 15 with (simp only [hov])
    have hcp2 : ∀ ty, (Builtin.copy_ #[26, 26] ty #[.slice (some ⟨gT, 6, none⟩) n (c - 1), .slice (some ⟨gT, 0, none⟩) (n + 1) c]).run Try.prog w.drew = _ := fun ty =>
      run_copy_k w.drew 26 26 ty 36 6 gT 6 n (c - 1) ⟨gT, 0, none⟩ (n + 1) c cur 36 (rowS l) rfl hsz hgh (by rw [hm2, rowS_len, hln]) (fun j v hj => by
        rw [show Addr.add ⟨gT, 0, none⟩ j = ⟨gT, j, none⟩ by unfold Addr.add; split <;> simp_all]
        have hjl : j < n * 6 := by
          have := (List.getElem?_eq_some_iff.1 hj).1
          rwa [rowS_len, hln] at this
        exact (HCA.out j hjl).trans hj) (by rw [hgs, rowS_len]; omega) (fun v hv => by
        simp only [rowS, List.mem_flatMap] at hv
        obtain ⟨u, -, h⟩ := hv
        simp only [sV, List.mem_cons, List.not_mem_nil, or_false] at h
        rcases h with rfl | rfl | rfl | rfl | rfl | rfl <;> rfl)
    refine wp_region_held_drew (S := (fun _ => True)) (by kernel_rfl) True.intro (fun hHeld => ?_)
    refine tkH (by assumption) 0 (oi := ?_) (v := ?_) ?_ ?_ ?_ ?_ ?_ ?_ ?_ ?_; rotate_left 2; (simp only [gA, gB, gC]; exact rfl); kernel_rfl; kernel_rfl; kernel_rfl; exact fun _ _ _ h => h; rfl; (intro w' hSw; (try dsimp only at hSw); go_simp; with_reducible rfl); simp only [Act.put, pB, pC, pD]
    refine tkH (by assumption) 1 (oi := ?_) (v := ?_) ?_ ?_ ?_ ?_ ?_ ?_ ?_ ?_; rotate_left 2; (simp only [gA, gB, gC]; exact rfl); kernel_rfl; kernel_rfl; kernel_rfl; exact fun _ _ _ h => h; rfl; (intro w' hSw; (try dsimp only at hSw); go_simp; with_reducible rfl); simp only [Act.put, pB, pC, pD]
    refine tkH (by assumption) 2 (oi := ?_) (v := ?_) ?_ ?_ ?_ ?_ ?_ ?_ ?_ ?_; rotate_left 2; (simp only [gA, gB, gC]; exact rfl); kernel_rfl; kernel_rfl; kernel_rfl; exact fun _ _ _ h => h; rfl; (intro w' hSw; (try dsimp only at hSw); go_simp; with_reducible rfl); simp only [Act.put, pB, pC, pD]
    refine tkH (by assumption) 3 (oi := ?_) (v := ?_) ?_ ?_ ?_ ?_ ?_ ?_ ?_ ?_; rotate_left 2; (simp only [gA, gB, gC]; exact rfl); kernel_rfl; kernel_rfl; kernel_rfl; exact fun _ _ _ h => h; rfl; (intro w' hSw; (try dsimp only at hSw); go_simp; with_reducible rfl); simp only [Act.put, pB, pC, pD]
    refine tkH (by assumption) 4 (oi := ?_) (v := ?_) ?_ ?_ ?_ ?_ ?_ ?_ ?_ ?_; rotate_left 2; (simp only [gA, gB, gC]; exact rfl); kernel_rfl; kernel_rfl; kernel_rfl; exact fun _ _ _ h => h; rfl; (intro w' hSw; (try dsimp only at hSw); go_simp; with_reducible rfl); simp only [Act.put, pB, pC, pD]
    refine tkH (by assumption) 5 (oi := ?_) (v := ?_) ?_ ?_ ?_ ?_ ?_ ?_ ?_ ?_; rotate_left 2; (simp only [gA, gB, gC]; exact rfl); kernel_rfl; kernel_rfl; kernel_rfl; exact fun _ _ _ h => h; rfl; (intro w' hSw; (try dsimp only at hSw); go_simp; with_reducible rfl); simp only [Act.put, pB, pC, pD]
    refine tkH (by assumption) 6 (oi := ?_) (v := ?_) ?_ ?_ ?_ ?_ ?_ ?_ ?_ ?_; rotate_left 2; (simp only [gA, gB, gC]; exact rfl); kernel_rfl; kernel_rfl; kernel_rfl; exact fun _ _ _ h => h; rfl; (intro w' hSw; (try dsimp only at hSw); go_simp; with_reducible rfl); simp only [Act.put, pB, pC, pD]
    refine tkH (by assumption) 7 (oi := ?_) (v := ?_) ?_ ?_ ?_ ?_ ?_ ?_ ?_ ?_; rotate_left 2; (simp only [gA, gB, gC]; exact rfl); kernel_rfl; kernel_rfl; kernel_rfl; exact fun _ _ _ h => h; rfl; (intro w' hSw; (try dsimp only at hSw); go_simp; with_reducible rfl); simp only [Act.put, pB, pC, pD]
    refine onH 8 (oi := ?_) (by kernel_rfl) ?_ ?_ (fun K hK => ?_); rotate_left; (simp only [gA, gB, gC]; exact rfl); rfl
    refine wp_copy_runK _ _ _ 26 26 rfl (.slice (some ⟨gT, 6, none⟩) n (c - 1)) (.slice (some ⟨gT, 0, none⟩) (n + 1) c) rfl rfl (hcp2 _) ?_
    refine hK.out _ _ True.intro (fun hHeldN => ?_)
    clear hK K hHeld hHeldN
    try simp only [Act.put, pB, pC, pD]
    refine wpAnyH_done (by kernel_rfl) ?_ _
    have HN1 := setRow_heap w.drew gT cur ((cur.toList.take 6 ++ rowS l ++ cur.toList.drop (6 + (rowS l).length)).toArray) _ _ hgh
    have B1 : Below gT w (w.drew.setRow gT ((cur.toList.take 6 ++ rowS l ++ cur.toList.drop (6 + (rowS l).length)).toArray)) := below_rowK (Below.drew (Below.refl _ _)) (Nat.le_refl gT) ((cur.toList.take 6 ++ rowS l ++ cur.toList.drop (6 + (rowS l).length)).toArray)
    have HV1 : (w.drew.setRow gT ((cur.toList.take 6 ++ rowS l ++ cur.toList.drop (6 + (rowS l).length)).toArray)).heap[gv]? = _ := (setRow_other w.drew gT gv ((cur.toList.take 6 ++ rowS l ++ cur.toList.drop (6 + (rowS l).length)).toArray) (fun h => hne2 h.symm)).trans hv
    generalize (w.drew.setRow gT ((cur.toList.take 6 ++ rowS l ++ cur.toList.drop (6 + (rowS l).length)).toArray)) = w1 at *
    obtain ⟨R1, hR⟩ : ∃ R, ((cur.toList.take 6 ++ rowS l ++ cur.toList.drop (6 + (rowS l).length)).toArray) = R := ⟨_, rfl⟩
    rw [hR] at HN1
    have hRs : R1.size = c * 6 := by rw [← hR]; have := rowS_len l; simp [hgs]; omega
    have hRl : (R1.toList.drop 6).take (n * 6) = rowS l := by
      rw [← hR, List.toList_toArray, List.append_assoc, List.drop_append_of_le_length (by rw [List.length_take]; simp [hgs]; omega)]
      rw [show (List.take 6 cur.toList).drop 6 = [] by rw [List.drop_eq_nil_iff, List.length_take]; omega, List.nil_append, List.take_append_of_le_length (by rw [rowS_len]; omega), List.take_of_length_le (by rw [rowS_len]; omega)]
    clear hR hcp2
    have hcp : ∀ ty, (Builtin.copy_ #[26, 26] ty #[.slice (some ⟨gT, 0, none⟩) (n + 1) c, .slice (some ⟨gv, 0, none⟩) 1 1]).run Try.prog w1 = _ := fun ty =>
      run_copy_k w1 26 26 ty 36 6 gT 0 (n + 1) c ⟨gv, 0, none⟩ 1 1 R1 36 (sV s) rfl hsz HN1 (by rw [hm1]; rfl) (fun j v hj => by
        rw [show Addr.add ⟨gv, 0, none⟩ j = ⟨gv, j, none⟩ by unfold Addr.add; split <;> simp_all]
        exact cell_of HV1 (by simpa [sV] using hj)) (by rw [hRs]; simp [sV]; omega) (by simp [sV, Value.oneCell'])
    have HN2 := setRow_heap w1 gT R1 ((sV s ++ R1.toList.drop (sV s).length).toArray) _ _ HN1
    have B2 := below_rowK B1 (Nat.le_refl gT) ((sV s ++ R1.toList.drop (sV s).length).toArray)
    go_wp2_with (at_builtin; refine wpList_copy_runK _ rfl _ _ 26 26 rfl _ _ rfl rfl (hcp _) ?_)
    exact bodyPost_ret (v := .slice (some ⟨gT, 0, none⟩) (n + 1) c) (by simp [results, Try.results25, go_sem]) rfl ⟨gT, c, rfl, ⟨by rw [rowS_len]; simp [hln], .inr ⟨gT, c, _, rfl, hgb, HN2, hroom, hgm, by
      simp [hRs, sV]; omega, by
      rw [List.toList_toArray, show (n + 1) * 6 = (sV s).length + n * 6 by simp [sV]; omega, List.take_length_add_append]
      rw [show (sV s).length = 6 from rfl, hRl]
      rfl⟩⟩, B2.mono hgb⟩
  · have e1 : (c : Int) < (n : Int) + 1 := by omega
    have hroom' : c < 0 + (n + 1) := by omega
    have hrz : ∃ (ROW : Array Value) (G : Nat), ROW.size = G * 6 ∧ n + 1 ≤ G ∧ G ≤ maxLen ∧ ∀ ty, (Builtin.append_ #[26, 3] ty #[.slice (some ⟨gT, 0, none⟩) 0 c, .int .i64 ((n : Int) + 1)]).run Try.prog w = .ok (.slice (some ⟨w.heap.size, 0, none⟩) (n + 1) G) (w.drew.alloc (.cells ROW 36)) := by
      refine ⟨([] : List Value).toArray ++ Builtin.zeroCells (Value.agg #[.int .i64 0, .int .i64 0, .int .i64 0, .int .i64 0, .int .i64 0, .int .i64 0]).cells (0 + (n + 1) - 0) ++ Builtin.zeroCells (Value.agg #[.int .i64 0, .int .i64 0, .int .i64 0, .int .i64 0, .int .i64 0, .int .i64 0]).cells (grownCap w (0 + (n + 1)) c 36 - (0 + (n + 1))), grownCap w (0 + (n + 1)) c 36, ?_, ?_, ?_, fun ty => ?_⟩
      · have := grownCap_ge w (0 + (n + 1)) c 36
        rw [Nat.zero_add] at this ⊢
        simp [Builtin.zeroCells, Value.cells]
        omega
      · have := grownCap_ge w (0 + (n + 1)) c 36
        omega
      · exact grownCap_le_maxLen w (0 + (n + 1)) c 36 (by unfold maxLen; omega)
      · have h := Lib.run_append_grow_zeros (P := Try.prog) w 26 3 ty 36 i0 _ .i64 .i64 Try.underlying26 (by kernel_rfl) hi0 hz0 (some ⟨gT, 0, none⟩) 0 c [] (run_firstCells_some w.drew _ 0 _ 0 c [] (by simp) (fun j v hj => by simp at hj)) (n + 1) (by omega) (by omega) (by omega) (by omega) (by rw [hz2]; omega) (by rw [hz2]; exact growslice_fits hroom' (by omega))
        rw [Nat.sub_zero]
        rw [Nat.zero_add] at h ⊢
        exact h
    obtain ⟨ROW, G, hR1, hR2, hR3, hrz⟩ := hrz
    go_upto_region 10 with (at_builtin; refine Lib.wpList_append_run _ rfl _ _ _ _ rfl _ _ rfl rfl _ _ (hrz _) ?_)
    have hb1 : Below w.heap.size w (w.alloc (.cells ROW 36)).drew := Below.drew (Below.alloc (Below.refl _ _) (Nat.le_refl _) _)
    have HN1 : (w.alloc (.cells ROW 36)).drew.heap[w.heap.size]? = some (.cells ROW 36 (0, 0)) := heap_alloc_new w (.cells ROW 36)
    have HV1 := heap_keep hb1 hv
    have HO1 := ownsRow_below hown hb1
    clear hrz
    generalize (w.alloc (.cells ROW 36)).drew = w1 at *
    obtain ⟨g, hg⟩ : ∃ g, w.heap.size = g := ⟨_, rfl⟩
    rw [hg] at HN1 hb1 hgv hgTl
    try rw [hg]
    have hsz : (Try.prog.info? 36).map (·.size) = some 6 := by rw [hi0]; simp [hz1]
    have ew1 : IntKind.i64.wrap 1 = 1 := by decide
    have hp1 : (1 : Int) ≤ (n : Int) + 1 := by omega
    have hG0 : ¬ (G = 0) := by omega
    have hG1 : ¬ (G = 1) := by omega
    have hc0 : ¬ (c = 0) := by omega
    have hm1 : Nat.min 1 (n + 1) = 1 := Nat.min_eq_left (by omega)
    have hm2 : Nat.min n n = n := Nat.min_self n
    have hcp : ∀ ty, (Builtin.copy_ #[26, 26] ty #[.slice (some ⟨g, 0, none⟩) (n + 1) G, .slice (some ⟨gv, 0, none⟩) 1 1]).run Try.prog w1 = _ := fun ty =>
      run_copy_k w1 26 26 ty 36 6 g 0 (n + 1) G ⟨gv, 0, none⟩ 1 1 ROW 36 (sV s) rfl hsz HN1 (by rw [hm1]; rfl) (fun j v hj => by
        rw [show Addr.add ⟨gv, 0, none⟩ j = ⟨gv, j, none⟩ by unfold Addr.add; split <;> simp_all]
        exact cell_of HV1 (by simpa [sV] using hj)) (by rw [hR1]; simp [sV]; omega) (by simp [sV, Value.oneCell'])
    go_upto_region 11 with (at_builtin; refine wpList_copy_runK _ rfl _ _ 26 26 rfl _ _ rfl rfl (hcp _) ?_)
    have HN2 := setRow_heap w1 g ROW ((sV s ++ ROW.toList.drop (sV s).length).toArray) _ _ HN1
    have B2 := below_rowK hb1 (Nat.le_refl g) ((sV s ++ ROW.toList.drop (sV s).length).toArray)
    generalize (w1.setRow g ((sV s ++ ROW.toList.drop (sV s).length).toArray)) = w2 at *
    obtain ⟨R1, hR⟩ : ∃ R, ((sV s ++ ROW.toList.drop (sV s).length).toArray) = R := ⟨_, rfl⟩
    rw [hR] at HN2
    have hRs : R1.size = G * 6 := by rw [← hR]; simp [sV, hR1]; omega
    have hRl : R1.toList.take 6 = sV s := by rw [← hR]; simp [sV]
    have HO2 := ownsRow_below hown (show Below w.heap.size w w2 by rw [hg]; exact B2)
    have hb3 : (n : Int) + 1 ≤ (G : Int) := by omega
    clear hcp HN1 HV1 HO1 hb1 hR
    have hcp2 : ∀ ty, (Builtin.copy_ #[26, 26] ty #[.slice (some ⟨g, 6, none⟩) n (G - 1), .slice (some ⟨gT, 0, none⟩) n c]).run Try.prog w2.drew = _ := fun ty =>
      run_copy_k w2.drew 26 26 ty 36 6 g 6 n (G - 1) ⟨gT, 0, none⟩ n c R1 36 (rowS l) rfl hsz HN2 (by rw [hm2, rowS_len, hln]) (fun j v hj => by
        rw [show Addr.add ⟨gT, 0, none⟩ j = ⟨gT, j, none⟩ by unfold Addr.add; split <;> simp_all]
        have hjl : j < n * 6 := by
          have := (List.getElem?_eq_some_iff.1 hj).1
          rwa [rowS_len, hln] at this
        exact (HO2.cellAt j hjl).trans hj) (by rw [hRs, rowS_len]; omega) (fun v hv => by
        simp only [rowS, List.mem_flatMap] at hv
        obtain ⟨u, -, h⟩ := hv
        simp only [sV, List.mem_cons, List.not_mem_nil, or_false] at h
        rcases h with rfl | rfl | rfl | rfl | rfl | rfl <;> rfl)
    refine wp_region_held_drew (S := (fun _ => True)) (by kernel_rfl) True.intro (fun hHeld => ?_)
    refine tkH (by assumption) 0 (oi := ?_) (v := ?_) ?_ ?_ ?_ ?_ ?_ ?_ ?_ ?_; rotate_left 2; (simp only [gA, gB, gC]; exact rfl); kernel_rfl; kernel_rfl; kernel_rfl; exact fun _ _ _ h => h; rfl; (intro w' hSw; (try dsimp only at hSw); go_simp; with_reducible rfl); simp only [Act.put, pB, pC, pD]
    refine tkH (by assumption) 1 (oi := ?_) (v := ?_) ?_ ?_ ?_ ?_ ?_ ?_ ?_ ?_; rotate_left 2; (simp only [gA, gB, gC]; exact rfl); kernel_rfl; kernel_rfl; kernel_rfl; exact fun _ _ _ h => h; rfl; (intro w' hSw; (try dsimp only at hSw); go_simp; with_reducible rfl); simp only [Act.put, pB, pC, pD]
    refine tkH (by assumption) 2 (oi := ?_) (v := ?_) ?_ ?_ ?_ ?_ ?_ ?_ ?_ ?_; rotate_left 2; (simp only [gA, gB, gC]; exact rfl); kernel_rfl; kernel_rfl; kernel_rfl; exact fun _ _ _ h => h; rfl; (intro w' hSw; (try dsimp only at hSw); go_simp; with_reducible rfl); simp only [Act.put, pB, pC, pD]
    refine tkH (by assumption) 3 (oi := ?_) (v := ?_) ?_ ?_ ?_ ?_ ?_ ?_ ?_ ?_; rotate_left 2; (simp only [gA, gB, gC]; exact rfl); kernel_rfl; kernel_rfl; kernel_rfl; exact fun _ _ _ h => h; rfl; (intro w' hSw; (try dsimp only at hSw); go_simp; with_reducible rfl); simp only [Act.put, pB, pC, pD]
    refine tkH (by assumption) 4 (oi := ?_) (v := ?_) ?_ ?_ ?_ ?_ ?_ ?_ ?_ ?_; rotate_left 2; (simp only [gA, gB, gC]; exact rfl); kernel_rfl; kernel_rfl; kernel_rfl; exact fun _ _ _ h => h; rfl; (intro w' hSw; (try dsimp only at hSw); go_simp; with_reducible rfl); simp only [Act.put, pB, pC, pD]
    refine tkH (by assumption) 5 (oi := ?_) (v := ?_) ?_ ?_ ?_ ?_ ?_ ?_ ?_ ?_; rotate_left 2; (simp only [gA, gB, gC]; exact rfl); kernel_rfl; kernel_rfl; kernel_rfl; exact fun _ _ _ h => h; rfl; (intro w' hSw; (try dsimp only at hSw); go_simp; with_reducible rfl); simp only [Act.put, pB, pC, pD]
    refine tkH (by assumption) 6 (oi := ?_) (v := ?_) ?_ ?_ ?_ ?_ ?_ ?_ ?_ ?_; rotate_left 2; (simp only [gA, gB, gC]; exact rfl); kernel_rfl; kernel_rfl; kernel_rfl; exact fun _ _ _ h => h; rfl; (intro w' hSw; (try dsimp only at hSw); go_simp; with_reducible rfl); simp only [Act.put, pB, pC, pD]
    refine tkH (by assumption) 7 (oi := ?_) (v := ?_) ?_ ?_ ?_ ?_ ?_ ?_ ?_ ?_; rotate_left 2; (simp only [gA, gB, gC]; exact rfl); kernel_rfl; kernel_rfl; kernel_rfl; exact fun _ _ _ h => h; rfl; (intro w' hSw; (try dsimp only at hSw); go_simp; with_reducible rfl); simp only [Act.put, pB, pC, pD]
    refine onH 8 (oi := ?_) (by kernel_rfl) ?_ ?_ (fun K hK => ?_); rotate_left; (simp only [gA, gB, gC]; exact rfl); rfl
    refine wp_copy_runK _ _ _ 26 26 rfl (.slice (some ⟨g, 6, none⟩) n (G - 1)) (.slice (some ⟨gT, 0, none⟩) n c) rfl rfl (hcp2 _) ?_
    refine hK.out _ _ True.intro (fun hHeldN => ?_)
    clear hK K hHeld hHeldN
    try simp only [Act.put, pB, pC, pD]
    refine wpAnyH_done (by kernel_rfl) ?_ _
    have HN3 := setRow_heap w2.drew g R1 ((R1.toList.take 6 ++ rowS l ++ R1.toList.drop (6 + (rowS l).length)).toArray) _ _ HN2
    have B3 := below_rowK (Below.drew B2) (Nat.le_refl g) ((R1.toList.take 6 ++ rowS l ++ R1.toList.drop (6 + (rowS l).length)).toArray)
    go_wp2_with (fail)
    exact bodyPost_ret (v := .slice (some ⟨g, 0, none⟩) (n + 1) G) (by simp [results, Try.results25, go_sem]) rfl ⟨g, G, rfl, ⟨by rw [rowS_len]; simp [hln], .inr ⟨g, G, _, rfl, by omega, HN3, hR2, hR3, by
      have := rowS_len l
      simp [hRs]; omega, by
      rw [hRl, List.toList_toArray]
      have e : (sV s ++ rowS l).length = (n + 1) * 6 := by rw [List.length_append, rowS_len, hln]; simp [sV]; omega
      rw [List.take_append_of_le_length (by omega), List.take_of_length_le (by omega)]
      rfl⟩⟩, B3.mono (by omega)⟩
end Go.Proofs.Ythmplflmjjccfaa

/- Legs behind one another. -/
import Derived.Test.YtdanlnmdkneepaaUf
set_option linter.unusedSimpArgs false
set_option linter.unusedVariables false
namespace Go.Proofs.Ytdanlnmdkneepaa
open Go.RowKit

theorem news_L {w : World} {ad : Addr} {n : Nat} {L M : Nat → Int} (h : LegsR w (some ad) n L M) : ∀ j u, (cells2 L M n)[j]? = some u → w.cell? (ad.add j) = some u := by
  intro j u hu
  rcases h with rfl | ⟨b, off, he, _, hd⟩
  · simp [cells2] at hu
  · cases he
    exact du_news hd j u hu
theorem news_I {w : World} {ad : Addr} {n : Nat} {V : Nat → Int} (h : IntsR w (some ad) n V) : ∀ j u, (vs V n)[j]? = some u → w.cell? (ad.add j) = some u := by
  intro j u hu
  rcases h with rfl | ⟨b, off, he, _, hd⟩
  · simp [vs] at hu
  · cases he
    exact vs_news hd j u hu
theorem vs_app (n m : Nat) (X Y : Nat → Int) : vs (ap n X Y) (n + m) = vs X n ++ vs Y m := by
  induction m with
  | zero =>
    rw [Nat.add_zero, vs_ext (u := ap n X Y) (v := X) (fun i hi => by simp [ap, hi])]
    simp [vs]
  | succ m ih =>
    rw [← Nat.add_assoc, vs_succ, vs_succ, ih]
    simp [ap, show ¬ n + m < n by omega]
set_option maxRecDepth 100000 in
set_option maxHeartbeats 4000000 in
theorem growL (n : Nat) (w : World) (hn : n ≤ 2000000) :
    Calls Try.prog 113 #[.slice none 0 0, .int .i64 n] w fun e w' => ∃ a c, e = .returned (.slice a 0 c) ∧ w'.ownsRow w.heap.size 83 2 (.slice a 0 c) 0 [] ∧ Below w.heap.size w w' := by
  obtain ⟨i0, hi0, hz0, hz1, hz2⟩ := info_parts info_leg
  by_cases h0 : n = 0
  · subst h0
    go_enter Try.func113, Try.ntmps113
    go_wp2
    go_ret
    exact ⟨_, _, rfl, World.ownsRow_nil _ _ _ _, (by repeat (first | exact Below.refl _ _ | assumption | refine Below.drew ?_ | refine bdrewN ?_ _ | refine Below.setCell ?_ (by first | omega | (simp <;> omega)) _ | refine Below.alloc ?_ (by first | omega | (simp <;> omega)) _))⟩
  have h1 : ¬ ((n : Int) < 0) := by omega
  have h4 : (n : Int) > 0 := by omega
  have hold : (Builtin.firstCells i0.size 0 (.slice none 0 0)).run Try.prog w.drew = .ok (#[] : Array Value) w.drew := run_firstCells_none w.drew i0.size 0 0 0
  have hG3 : grownCap w n 0 83 ≤ 9223372036854775807 := by
    have := grownCap_le_maxLen w n 0 83 (by unfold maxLen; omega)
    unfold maxLen at this
    omega
  have hGn : n ≤ grownCap w n 0 83 := grownCap_ge w _ _ _
  have hrz : ∀ ty, (Builtin.append_ #[64, 3] ty #[.slice none 0 0, .int .i64 (n : Int)]).run Try.prog w =
      .ok (.slice (some ⟨w.heap.size, 0, none⟩) n (grownCap w n 0 83)) (w.drew.alloc (.cells ((#[] : Array Value) ++ Builtin.zeroCells (Value.agg #[.int .i64 0, .int .i64 0]).cells n ++ Builtin.zeroCells (Value.agg #[.int .i64 0, .int .i64 0]).cells (grownCap w n 0 83 - n)) 83)) := fun ty => by
    have h := Lib.run_append_grow_zeros w 64 3 ty 83 i0 (.agg #[.int .i64 0, .int .i64 0]) .i64 .i64 Try.underlying64 Try.underlying3 hi0 hz0 none 0 0 [] hold n (by omega) (by omega) (by omega) (by omega) (by rw [hz2]; omega) (by rw [hz2]; exact growslice_fits (by omega) (by omega))
    simpa using h
  have hsize : ((#[] : Array Value) ++ Builtin.zeroCells (Value.agg #[.int .i64 0, .int .i64 0]).cells n ++ Builtin.zeroCells (Value.agg #[.int .i64 0, .int .i64 0]).cells (grownCap w n 0 83 - n)).size = grownCap w n 0 83 * 2 := by
    simp only [Array.size_append, size_zeroCells]
    have : (Value.agg #[.int .i64 0, .int .i64 0]).cells.size = 2 := by rfl
    rw [this]
    simp
    omega
  generalize ((#[] : Array Value) ++ Builtin.zeroCells (Value.agg #[.int .i64 0, .int .i64 0]).cells n ++ Builtin.zeroCells (Value.agg #[.int .i64 0, .int .i64 0]).cells (grownCap w n 0 83 - n)) = CS at *
  generalize grownCap w n 0 83 = G at *
  have HS := Lib.hid hsize
  clear hsize hold
  go_enter Try.func113, Try.ntmps113
  go_wp2_with (at_builtin; refine Lib.wpList_append_run _ rfl _ _ _ _ rfl _ _ rfl rfl _ _ (hrz _) ?_)
  all_goals
    go_ret
    exact ⟨_, _, rfl, World.ownsRow_made w.drew CS G (Nat.le_refl _) (by unfold maxLen; omega) HS.out, (by repeat (first | exact Below.refl _ _ | assumption | refine Below.drew ?_ | refine bdrewN ?_ _ | refine Below.setCell ?_ (by first | omega | (simp <;> omega)) _ | refine Below.alloc ?_ (by first | omega | (simp <;> omega)) _))⟩

set_option maxRecDepth 100000 in
set_option maxHeartbeats 4000000 in
theorem growI (n : Nat) (w : World) (hn : n ≤ 2000000) :
    Calls Try.prog 114 #[.slice none 0 0, .int .i64 n] w fun e w' => ∃ a c, e = .returned (.slice a 0 c) ∧ w'.ownsRow w.heap.size 3 1 (.slice a 0 c) 0 [] ∧ Below w.heap.size w w' := by
  obtain ⟨i0, hi0, hz0, hz1, hz2⟩ := info_parts info_intV
  by_cases h0 : n = 0
  · subst h0
    go_enter Try.func114, Try.ntmps114
    go_wp2
    go_ret
    exact ⟨_, _, rfl, World.ownsRow_nil _ _ _ _, (by repeat (first | exact Below.refl _ _ | assumption | refine Below.drew ?_ | refine bdrewN ?_ _ | refine Below.setCell ?_ (by first | omega | (simp <;> omega)) _ | refine Below.alloc ?_ (by first | omega | (simp <;> omega)) _))⟩
  have h1 : ¬ ((n : Int) < 0) := by omega
  have h4 : (n : Int) > 0 := by omega
  have hold : (Builtin.firstCells i0.size 0 (.slice none 0 0)).run Try.prog w.drew = .ok (#[] : Array Value) w.drew := run_firstCells_none w.drew i0.size 0 0 0
  have hG3 : grownCap w n 0 3 ≤ 9223372036854775807 := by
    have := grownCap_le_maxLen w n 0 3 (by unfold maxLen; omega)
    unfold maxLen at this
    omega
  have hGn : n ≤ grownCap w n 0 3 := grownCap_ge w _ _ _
  have hrz : ∀ ty, (Builtin.append_ #[22, 3] ty #[.slice none 0 0, .int .i64 (n : Int)]).run Try.prog w =
      .ok (.slice (some ⟨w.heap.size, 0, none⟩) n (grownCap w n 0 3)) (w.drew.alloc (.cells ((#[] : Array Value) ++ Builtin.zeroCells (Value.int .i64 0).cells n ++ Builtin.zeroCells (Value.int .i64 0).cells (grownCap w n 0 3 - n)) 3)) := fun ty => by
    have h := Lib.run_append_grow_zeros w 22 3 ty 3 i0 (.int .i64 0) .i64 .i64 Try.underlying22 Try.underlying3 hi0 hz0 none 0 0 [] hold n (by omega) (by omega) (by omega) (by omega) (by rw [hz2]; omega) (by rw [hz2]; exact growslice_fits (by omega) (by omega))
    simpa using h
  have hsize : ((#[] : Array Value) ++ Builtin.zeroCells (Value.int .i64 0).cells n ++ Builtin.zeroCells (Value.int .i64 0).cells (grownCap w n 0 3 - n)).size = grownCap w n 0 3 * 1 := by
    simp only [Array.size_append, size_zeroCells]
    have : (Value.int .i64 0).cells.size = 1 := by rfl
    rw [this]
    simp
    omega
  generalize ((#[] : Array Value) ++ Builtin.zeroCells (Value.int .i64 0).cells n ++ Builtin.zeroCells (Value.int .i64 0).cells (grownCap w n 0 3 - n)) = CS at *
  generalize grownCap w n 0 3 = G at *
  have HS := Lib.hid hsize
  clear hsize hold
  go_enter Try.func114, Try.ntmps114
  go_wp2_with (at_builtin; refine Lib.wpList_append_run _ rfl _ _ _ _ rfl _ _ rfl rfl _ _ (hrz _) ?_)
  all_goals
    go_ret
    exact ⟨_, _, rfl, World.ownsRow_made w.drew CS G (Nat.le_refl _) (by unfold maxLen; omega) HS.out, (by repeat (first | exact Below.refl _ _ | assumption | refine Below.drew ?_ | refine bdrewN ?_ _ | refine Below.setCell ?_ (by first | omega | (simp <;> omega)) _ | refine Below.alloc ?_ (by first | omega | (simp <;> omega)) _))⟩

set_option maxRecDepth 100000 in
set_option maxHeartbeats 4000000 in
theorem concatL (g : Nat) (d1 d2 d3 : Addr) (n1 n2 n3 c1 c2 c3 : Nat) (X1 Y1 X2 Y2 X3 Y3 : Nat → Int) (w : World) (h0 : w.heap[g]? = some (.cells #[.slice (some d1) n1 c1, .slice (some d2) n2 c2, .slice (some d3) n3 c3] 64 (0, 0)))
    (r1 : LegsR w (some d1) n1 X1 Y1) (r2 : LegsR w (some d2) n2 X2 Y2) (r3 : LegsR w (some d3) n3 X3 Y3) (hm1 : n1 ≤ 1000) (hm2 : n2 ≤ 1000) (hm3 : n3 ≤ 1000) :
    Calls Try.prog 87 #[.slice (some ⟨g, 0, none⟩) 3 3] w (LegsPost w (n1 + n2 + n3) (ap (n1 + n2) (ap n1 X1 X2) X3) (ap (n1 + n2) (ap n1 Y1 Y2) Y3)) := by
  obtain ⟨i0, hi0, hz0, hz1, hz2⟩ := info_parts info_leg
  have T1 := Lib.hid r1
  have T2 := Lib.hid r2
  have T3 := Lib.hid r3
  have HG := Lib.hid h0
  have hg := lt_of_heap h0
  have k0 := cell_of h0 (i := 0) rfl
  have k1 := cell_of h0 (i := 1) rfl
  have k2 := cell_of h0 (i := 2) rfl
  clear r1 r2 r3 h0
  go_enter Try.func87, Try.ntmps87
  go_wp2
  refine wp_loop_rounds 4 ?_
  rw [rounds_succ]; go_wp2
  rw [rounds_succ]; go_wp2
  rw [rounds_succ]; go_wp2
  rw [rounds_succ]; go_wp2_with (fail)
  refine (growL (n1 + n2 + n3) w (by omega)).mono ?_
  rintro e w1 ⟨a, c, rfl, ho, hb⟩
  have H0 := cellk hb hg k0
  have H1 := cellk hb hg k1
  have H2 := cellk hb hg k2
  have hs := hb.size
  have O1 := Lib.hid ho
  have B1 := Lib.hid hb
  have hg1 : g < w1.heap.size := by omega
  clear ho hb k0 k1 k2
  go_wp2
  refine wp_loop_rounds 4 ?_
  rw [rounds_succ]
  go_wp2_with (at_builtin; refine wpList_append_own_at _ rfl _ _ 64 rfl w.heap.size 83 i0 (.agg #[.int .i64 0, .int .i64 0]) 2 16 Try.underlying64 hi0 hz0 hz1 hz2 rfl (by decide) _ _ _ rfl O1.out d1 n1 c1 (cells2 X1 Y1 n1) rfl (cells2_length X1 Y1 n1) (news_L (T1.out.kept B1.out)) (cells2_one X1 Y1 n1) (by unfold maxLen; omega) (by omega) (by omega) ?_; intro v2 w2 hown hgrow _ _; have HO2 := Lib.hid hown; have HG2 := Lib.hid hgrow; clear hown hgrow)
  have B2 := Lib.hid (B1.out.grown HG2.out B1.out.size (fun b hb => (O1.out.lt b hb).1))
  have s2 := B2.out.size
  have hg2 : g < w2.heap.size := by omega
  have hne1 : (Value.slice a 0 c).ownBlock ≠ some g := fun e => by have := (O1.out.lt _ e).1; omega
  have H11 := (HG2.out.cell_far ⟨g, 1, none⟩ hg1 (fun e => hne1 e.symm)).trans H1
  have H21 := (HG2.out.cell_far ⟨g, 2, none⟩ hg1 (fun e => hne1 e.symm)).trans H2
  clear H0 H1 H2
  go_wp2
  rw [rounds_succ]
  go_wp2_with (at_builtin; refine wpList_append_own_at _ rfl _ _ 64 rfl w.heap.size 83 i0 (.agg #[.int .i64 0, .int .i64 0]) 2 16 Try.underlying64 hi0 hz0 hz1 hz2 rfl (by decide) _ _ _ rfl HO2.out d2 n2 c2 (cells2 X2 Y2 n2) rfl (cells2_length X2 Y2 n2) (news_L (T2.out.kept B2.out)) (cells2_one X2 Y2 n2) (by unfold maxLen; omega) (by omega) (by omega) ?_; intro v3 w3 hown hgrow _ _; have HO3 := Lib.hid hown; have HG3 := Lib.hid hgrow; clear hown hgrow)
  have B3 := Lib.hid (B2.out.grown HG3.out B2.out.size (fun b hb => (HO2.out.lt b hb).1))
  have s3 := B3.out.size
  have hg3 : g < w3.heap.size := by omega
  have hne2 : v2.ownBlock ≠ some g := fun e => by have := (HO2.out.lt _ e).1; omega
  have H22 := (HG3.out.cell_far ⟨g, 2, none⟩ hg2 (fun e => hne2 e.symm)).trans H21
  go_wp2
  rw [rounds_succ]
  go_wp2_with (at_builtin; refine wpList_append_own_at _ rfl _ _ 64 rfl w.heap.size 83 i0 (.agg #[.int .i64 0, .int .i64 0]) 2 16 Try.underlying64 hi0 hz0 hz1 hz2 rfl (by decide) _ _ _ rfl HO3.out d3 n3 c3 (cells2 X3 Y3 n3) rfl (cells2_length X3 Y3 n3) (news_L (T3.out.kept B3.out)) (cells2_one X3 Y3 n3) (by unfold maxLen; omega) (by omega) (by omega) ?_; intro v4 w4 hown hgrow _ _; have HO4 := Lib.hid hown; have HG4 := Lib.hid hgrow; clear hown hgrow)
  have B4 := Lib.hid (B3.out.grown HG4.out B3.out.size (fun b hb => (HO3.out.lt b hb).1))
  have s4 := B4.out.size
  have hg4 : g < w4.heap.size := by omega
  obtain ⟨ao, cap, rfl⟩ := own_sliceV HO4.out
  have O4 := HO4.out
  simp only [Nat.zero_add, List.nil_append] at O4
  rw [← cells2_app, ← cells2_app] at O4
  replace O4 := Lib.hid O4
  go_wp2
  rw [rounds_succ]; go_wp2
  go_ret
  exact ⟨_, _, by (simp only [Nat.zero_add]; rfl), O4.out, B4.out⟩
set_option maxRecDepth 100000 in
set_option maxHeartbeats 4000000 in
theorem concatI (g : Nat) (d1 d2 d3 : Addr) (n1 n2 n3 c1 c2 c3 : Nat) (X1 X2 X3 : Nat → Int) (w : World) (h0 : w.heap[g]? = some (.cells #[.slice (some d1) n1 c1, .slice (some d2) n2 c2, .slice (some d3) n3 c3] 22 (0, 0)))
    (r1 : IntsR w (some d1) n1 X1) (r2 : IntsR w (some d2) n2 X2) (r3 : IntsR w (some d3) n3 X3) (hm1 : n1 ≤ 1000) (hm2 : n2 ≤ 1000) (hm3 : n3 ≤ 1000) :
    Calls Try.prog 88 #[.slice (some ⟨g, 0, none⟩) 3 3] w (IntsPost w (n1 + n2 + n3) (ap (n1 + n2) (ap n1 X1 X2) X3)) := by
  obtain ⟨i0, hi0, hz0, hz1, hz2⟩ := info_parts info_intV
  have T1 := Lib.hid r1
  have T2 := Lib.hid r2
  have T3 := Lib.hid r3
  have HG := Lib.hid h0
  have hg := lt_of_heap h0
  have k0 := cell_of h0 (i := 0) rfl
  have k1 := cell_of h0 (i := 1) rfl
  have k2 := cell_of h0 (i := 2) rfl
  clear r1 r2 r3 h0
  go_enter Try.func88, Try.ntmps88
  go_wp2
  refine wp_loop_rounds 4 ?_
  rw [rounds_succ]; go_wp2
  rw [rounds_succ]; go_wp2
  rw [rounds_succ]; go_wp2
  rw [rounds_succ]; go_wp2_with (fail)
  refine (growI (n1 + n2 + n3) w (by omega)).mono ?_
  rintro e w1 ⟨a, c, rfl, ho, hb⟩
  have H0 := cellk hb hg k0
  have H1 := cellk hb hg k1
  have H2 := cellk hb hg k2
  have hs := hb.size
  have O1 := Lib.hid ho
  have B1 := Lib.hid hb
  have hg1 : g < w1.heap.size := by omega
  clear ho hb k0 k1 k2
  go_wp2
  refine wp_loop_rounds 4 ?_
  rw [rounds_succ]
  go_wp2_with (at_builtin; refine wpList_append_own_at _ rfl _ _ 22 rfl w.heap.size 3 i0 (.int .i64 0) 1 8 Try.underlying22 hi0 hz0 hz1 hz2 rfl (by decide) _ _ _ rfl O1.out d1 n1 c1 (vs X1 n1) rfl (by simp [vs]) (news_I (T1.out.kept B1.out)) (vs_oneC X1 n1) (by unfold maxLen; omega) (by omega) (by omega) ?_; intro v2 w2 hown hgrow _ _; have HO2 := Lib.hid hown; have HG2 := Lib.hid hgrow; clear hown hgrow)
  have B2 := Lib.hid (B1.out.grown HG2.out B1.out.size (fun b hb => (O1.out.lt b hb).1))
  have s2 := B2.out.size
  have hg2 : g < w2.heap.size := by omega
  have hne1 : (Value.slice a 0 c).ownBlock ≠ some g := fun e => by have := (O1.out.lt _ e).1; omega
  have H11 := (HG2.out.cell_far ⟨g, 1, none⟩ hg1 (fun e => hne1 e.symm)).trans H1
  have H21 := (HG2.out.cell_far ⟨g, 2, none⟩ hg1 (fun e => hne1 e.symm)).trans H2
  clear H0 H1 H2
  go_wp2
  rw [rounds_succ]
  go_wp2_with (at_builtin; refine wpList_append_own_at _ rfl _ _ 22 rfl w.heap.size 3 i0 (.int .i64 0) 1 8 Try.underlying22 hi0 hz0 hz1 hz2 rfl (by decide) _ _ _ rfl HO2.out d2 n2 c2 (vs X2 n2) rfl (by simp [vs]) (news_I (T2.out.kept B2.out)) (vs_oneC X2 n2) (by unfold maxLen; omega) (by omega) (by omega) ?_; intro v3 w3 hown hgrow _ _; have HO3 := Lib.hid hown; have HG3 := Lib.hid hgrow; clear hown hgrow)
  have B3 := Lib.hid (B2.out.grown HG3.out B2.out.size (fun b hb => (HO2.out.lt b hb).1))
  have s3 := B3.out.size
  have hg3 : g < w3.heap.size := by omega
  have hne2 : v2.ownBlock ≠ some g := fun e => by have := (HO2.out.lt _ e).1; omega
  have H22 := (HG3.out.cell_far ⟨g, 2, none⟩ hg2 (fun e => hne2 e.symm)).trans H21
  go_wp2
  rw [rounds_succ]
  go_wp2_with (at_builtin; refine wpList_append_own_at _ rfl _ _ 22 rfl w.heap.size 3 i0 (.int .i64 0) 1 8 Try.underlying22 hi0 hz0 hz1 hz2 rfl (by decide) _ _ _ rfl HO3.out d3 n3 c3 (vs X3 n3) rfl (by simp [vs]) (news_I (T3.out.kept B3.out)) (vs_oneC X3 n3) (by unfold maxLen; omega) (by omega) (by omega) ?_; intro v4 w4 hown hgrow _ _; have HO4 := Lib.hid hown; have HG4 := Lib.hid hgrow; clear hown hgrow)
  have B4 := Lib.hid (B3.out.grown HG4.out B3.out.size (fun b hb => (HO3.out.lt b hb).1))
  have s4 := B4.out.size
  have hg4 : g < w4.heap.size := by omega
  obtain ⟨ao, cap, rfl⟩ := own_sliceV HO4.out
  have O4 := HO4.out
  simp only [Nat.zero_add, List.nil_append] at O4
  rw [← vs_app, ← vs_app] at O4
  replace O4 := Lib.hid O4
  go_wp2
  rw [rounds_succ]; go_wp2
  go_ret
  exact ⟨_, _, by (simp only [Nat.zero_add]; rfl), O4.out, B4.out⟩
end Go.Proofs.Ytdanlnmdkneepaa

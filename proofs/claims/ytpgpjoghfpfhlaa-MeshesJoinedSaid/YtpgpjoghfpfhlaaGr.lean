/- slices.Grow of nil; slices.Concat of two rows. -/
import Derived.Test.YtpgpjoghfpfhlaaPl
import Derived.Lib.Walk
import Derived.Lib.SliceRun
import Derived.Lib.AppendZerosOnto
set_option linter.unusedSimpArgs false
set_option linter.unusedVariables false
namespace Go.Proofs.Ytpgpjoghfpfhlaa
open Go.RowKit

set_option maxRecDepth 100000 in
set_option maxHeartbeats 4000000 in
theorem growV (n : Nat) (w : World) (hn : n ≤ 2000000) :
    Calls Try.prog 60 #[.slice none 0 0, .int .i64 n] w fun e w' => ∃ a c, e = .returned (.slice a 0 c) ∧ w'.ownsRow w.heap.size 47 3 (.slice a 0 c) 0 [] ∧ Below w.heap.size w w' := by
  obtain ⟨i0, hi0, hz0, hz1, hz2⟩ := info_parts info_vec
  by_cases h0 : n = 0
  · subst h0
    go_enter Try.func60, Try.ntmps60
    go_wp2
    go_ret
    exact ⟨_, _, rfl, World.ownsRow_nil _ _ _ _, (by repeat (first | exact Below.refl _ _ | assumption | refine Below.drew ?_ | refine bdrewN ?_ _ | refine Below.setCell ?_ (by first | omega | (simp <;> omega)) _ | refine Below.alloc ?_ (by first | omega | (simp <;> omega)) _))⟩
  have h1 : ¬ ((n : Int) < 0) := by omega
  have h4 : (n : Int) > 0 := by omega
  have hold : (Builtin.firstCells i0.size 0 (.slice none 0 0)).run Try.prog w.drew = .ok (#[] : Array Value) w.drew := run_firstCells_none w.drew i0.size 0 0 0
  have hG3 : grownCap w n 0 47 ≤ 9223372036854775807 := by
    have := grownCap_le_maxLen w n 0 47 (by unfold maxLen; omega)
    unfold maxLen at this
    omega
  have hGn : n ≤ grownCap w n 0 47 := grownCap_ge w _ _ _
  have hrz : ∀ ty, (Builtin.append_ #[26, 3] ty #[.slice none 0 0, .int .i64 (n : Int)]).run Try.prog w =
      .ok (.slice (some ⟨w.heap.size, 0, none⟩) n (grownCap w n 0 47)) (w.drew.alloc (.cells ((#[] : Array Value) ++ Builtin.zeroCells (Value.agg #[.int .i64 0, .int .i64 0, .int .i64 0]).cells n ++ Builtin.zeroCells (Value.agg #[.int .i64 0, .int .i64 0, .int .i64 0]).cells (grownCap w n 0 47 - n)) 47)) := fun ty => by
    have h := Lib.run_append_grow_zeros w 26 3 ty 47 i0 (.agg #[.int .i64 0, .int .i64 0, .int .i64 0]) .i64 .i64 Try.underlying26 Try.underlying3 hi0 hz0 none 0 0 [] hold n (by omega) (by omega) (by omega) (by omega) (by rw [hz2]; omega) (by rw [hz2]; exact growslice_fits (by omega) (by omega))
    simpa using h
  have hsize : ((#[] : Array Value) ++ Builtin.zeroCells (Value.agg #[.int .i64 0, .int .i64 0, .int .i64 0]).cells n ++ Builtin.zeroCells (Value.agg #[.int .i64 0, .int .i64 0, .int .i64 0]).cells (grownCap w n 0 47 - n)).size = grownCap w n 0 47 * 3 := by
    simp only [Array.size_append, size_zeroCells]
    have : (Value.agg #[.int .i64 0, .int .i64 0, .int .i64 0]).cells.size = 3 := by rfl
    rw [this]
    simp
    omega
  generalize ((#[] : Array Value) ++ Builtin.zeroCells (Value.agg #[.int .i64 0, .int .i64 0, .int .i64 0]).cells n ++ Builtin.zeroCells (Value.agg #[.int .i64 0, .int .i64 0, .int .i64 0]).cells (grownCap w n 0 47 - n)) = CS at *
  generalize grownCap w n 0 47 = G at *
  have HS := Lib.hid hsize
  clear hsize hold
  go_enter Try.func60, Try.ntmps60
  go_wp2_with (at_builtin; refine Lib.wpList_append_run _ rfl _ _ _ _ rfl _ _ rfl rfl _ _ (hrz _) ?_)
  all_goals
    go_ret
    exact ⟨_, _, rfl, World.ownsRow_made w.drew CS G (Nat.le_refl _) (by unfold maxLen; omega) HS.out, (by repeat (first | exact Below.refl _ _ | assumption | refine Below.drew ?_ | refine bdrewN ?_ _ | refine Below.setCell ?_ (by first | omega | (simp <;> omega)) _ | refine Below.alloc ?_ (by first | omega | (simp <;> omega)) _))⟩

set_option maxRecDepth 100000 in
set_option maxHeartbeats 4000000 in
theorem growF (n : Nat) (w : World) (hn : n ≤ 2000000) :
    Calls Try.prog 61 #[.slice none 0 0, .int .i64 n] w fun e w' => ∃ a c, e = .returned (.slice a 0 c) ∧ w'.ownsRow w.heap.size 52 3 (.slice a 0 c) 0 [] ∧ Below w.heap.size w w' := by
  obtain ⟨i0, hi0, hz0, hz1, hz2⟩ := info_parts info_face
  by_cases h0 : n = 0
  · subst h0
    go_enter Try.func61, Try.ntmps61
    go_wp2
    go_ret
    exact ⟨_, _, rfl, World.ownsRow_nil _ _ _ _, (by repeat (first | exact Below.refl _ _ | assumption | refine Below.drew ?_ | refine bdrewN ?_ _ | refine Below.setCell ?_ (by first | omega | (simp <;> omega)) _ | refine Below.alloc ?_ (by first | omega | (simp <;> omega)) _))⟩
  have h1 : ¬ ((n : Int) < 0) := by omega
  have h4 : (n : Int) > 0 := by omega
  have hold : (Builtin.firstCells i0.size 0 (.slice none 0 0)).run Try.prog w.drew = .ok (#[] : Array Value) w.drew := run_firstCells_none w.drew i0.size 0 0 0
  have hG3 : grownCap w n 0 52 ≤ 9223372036854775807 := by
    have := grownCap_le_maxLen w n 0 52 (by unfold maxLen; omega)
    unfold maxLen at this
    omega
  have hGn : n ≤ grownCap w n 0 52 := grownCap_ge w _ _ _
  have hrz : ∀ ty, (Builtin.append_ #[27, 3] ty #[.slice none 0 0, .int .i64 (n : Int)]).run Try.prog w =
      .ok (.slice (some ⟨w.heap.size, 0, none⟩) n (grownCap w n 0 52)) (w.drew.alloc (.cells ((#[] : Array Value) ++ Builtin.zeroCells (Value.agg #[.int .i64 0, .int .i64 0, .int .i64 0]).cells n ++ Builtin.zeroCells (Value.agg #[.int .i64 0, .int .i64 0, .int .i64 0]).cells (grownCap w n 0 52 - n)) 52)) := fun ty => by
    have h := Lib.run_append_grow_zeros w 27 3 ty 52 i0 (.agg #[.int .i64 0, .int .i64 0, .int .i64 0]) .i64 .i64 Try.underlying27 Try.underlying3 hi0 hz0 none 0 0 [] hold n (by omega) (by omega) (by omega) (by omega) (by rw [hz2]; omega) (by rw [hz2]; exact growslice_fits (by omega) (by omega))
    simpa using h
  have hsize : ((#[] : Array Value) ++ Builtin.zeroCells (Value.agg #[.int .i64 0, .int .i64 0, .int .i64 0]).cells n ++ Builtin.zeroCells (Value.agg #[.int .i64 0, .int .i64 0, .int .i64 0]).cells (grownCap w n 0 52 - n)).size = grownCap w n 0 52 * 3 := by
    simp only [Array.size_append, size_zeroCells]
    have : (Value.agg #[.int .i64 0, .int .i64 0, .int .i64 0]).cells.size = 3 := by rfl
    rw [this]
    simp
    omega
  generalize ((#[] : Array Value) ++ Builtin.zeroCells (Value.agg #[.int .i64 0, .int .i64 0, .int .i64 0]).cells n ++ Builtin.zeroCells (Value.agg #[.int .i64 0, .int .i64 0, .int .i64 0]).cells (grownCap w n 0 52 - n)) = CS at *
  generalize grownCap w n 0 52 = G at *
  have HS := Lib.hid hsize
  clear hsize hold
  go_enter Try.func61, Try.ntmps61
  go_wp2_with (at_builtin; refine Lib.wpList_append_run _ rfl _ _ _ _ rfl _ _ rfl rfl _ _ (hrz _) ?_)
  all_goals
    go_ret
    exact ⟨_, _, rfl, World.ownsRow_made w.drew CS G (Nat.le_refl _) (by unfold maxLen; omega) HS.out, (by repeat (first | exact Below.refl _ _ | assumption | refine Below.drew ?_ | refine bdrewN ?_ _ | refine Below.setCell ?_ (by first | omega | (simp <;> omega)) _ | refine Below.alloc ?_ (by first | omega | (simp <;> omega)) _))⟩

/-- Two rows, one behind the other. -/
def app3 (n : Nat) (V W : Nat → V3) (i : Nat) : V3 := if i < n then V i else W (i - n)
theorem cells3_app (n m : Nat) (V W : Nat → V3) : cells3 (app3 n V W) (n + m) = cells3 V n ++ cells3 W m := by
  induction m with
  | zero =>
    simp only [Nat.add_zero, cells3, List.append_nil]
    have : ∀ k, k ≤ n → cells3 (app3 n V W) k = cells3 V k := fun k => by
      induction k with
      | zero => intro _; rfl
      | succ k ih => intro hk; simp only [cells3]; rw [ih (by omega)]; simp [app3, show k < n by omega]
    exact this n (Nat.le_refl _)
  | succ m ih =>
    rw [← Nat.add_assoc]
    simp only [cells3]
    rw [ih]
    simp [app3, show ¬ n + m < n by omega]

set_option maxRecDepth 100000 in
set_option maxHeartbeats 4000000 in
theorem concatV (g : Nat) (a1 a2 : Option Addr) (n1 n2 c1 c2 : Nat) (V W : Nat → V3) (w : World) (h0 : w.cell? ⟨g, 0, none⟩ = some (.slice a1 n1 c1)) (h1 : w.cell? ⟨g, 1, none⟩ = some (.slice a2 n2 c2)) (hg : g < w.heap.size)
    (r1 : Row3 w a1 n1 V) (r2 : Row3 w a2 n2 W) (hn1 : 0 < n1) (hn2 : 0 < n2) (hm1 : n1 ≤ 1000000) (hm2 : n2 ≤ 1000000) :
    Calls Try.prog 36 #[.slice (some ⟨g, 0, none⟩) 2 2] w (RowsPost w 47 (n1 + n2) (app3 n1 V W)) := by
  obtain ⟨i0, hi0, hz0, hz1, hz2⟩ := info_parts info_vec
  rcases r1 with h | ⟨b1, o1, rfl, hb1, t1⟩
  · omega
  rcases r2 with h | ⟨b2, o2, rfl, hb2, t2⟩
  · omega
  have T1 := Lib.hid t1
  have T2 := Lib.hid t2
  clear t1 t2
  go_enter Try.func36, Try.ntmps36
  go_wp2
  refine wp_loop_rounds 3 ?_
  rw [rounds_succ]; go_wp2
  rw [rounds_succ]; go_wp2
  rw [rounds_succ]; go_wp2_with (fail)
  refine (growV (n1 + n2) w (by omega)).mono ?_
  rintro e w1 ⟨a, c, rfl, ho, hb⟩
  have H0 := cellk hb hg h0
  have H1 := cellk hb hg h1
  have hs := hb.size
  have O1 := Lib.hid ho
  have B1 := Lib.hid hb
  have hg1 : g < w1.heap.size := by omega
  clear ho hb h0 h1
  go_wp2
  refine wp_loop_rounds 3 ?_
  rw [rounds_succ]
  go_wp2_with (at_builtin; refine wpList_append_lies _ rfl _ _ 26 rfl w.heap.size 47 i0 (.agg #[.int .i64 0, .int .i64 0, .int .i64 0]) 3 24 Try.underlying26 hi0 hz0 hz1 hz2 rfl (by decide) _ _ _ rfl O1.out ⟨b1, o1, none⟩ n1 c1 (cells3 V n1) rfl (cells3_length V n1) (tri_news (T1.out.kept B1.out hb1)) (cells3_one V n1) (by omega) (by unfold maxLen; omega) (by omega) (by omega) w1.heap.size rfl ?_; intro g2 cap2 w2 hown2 hgrow hat hlt2; have HO2 := Lib.hid hown2; have HG2 := Lib.hid hgrow; clear hown2 hgrow hat)
  have B2 := Lib.hid (B1.out.grown HG2.out B1.out.size (fun b hb => (O1.out.lt b hb).1))
  have s2 := B2.out.size
  have hne : (Value.slice a 0 c).ownBlock ≠ some g := fun e => by have := (O1.out.lt _ e).1; omega
  have k1 : w2.cell? ⟨g, 1, none⟩ = some (.slice (some ⟨b2, o2, none⟩) n2 c2) := (HG2.out.cell_far ⟨g, 1, none⟩ hg1 (fun e => hne e.symm)).trans H1
  have hg2 : g < w2.heap.size := by omega
  have O2 := HO2.out
  simp only [Nat.zero_add, List.nil_append] at O2
  replace O2 := Lib.hid O2
  clear H0 H1
  go_wp2
  rw [rounds_succ]
  go_wp2_with (at_builtin; refine wpList_append_lies _ rfl _ _ 26 rfl w.heap.size 47 i0 (.agg #[.int .i64 0, .int .i64 0, .int .i64 0]) 3 24 Try.underlying26 hi0 hz0 hz1 hz2 rfl (by decide) _ _ _ rfl O2.out ⟨b2, o2, none⟩ n2 c2 (cells3 W n2) rfl (cells3_length W n2) (tri_news (T2.out.kept B2.out hb2)) (cells3_one W n2) (by omega) (by unfold maxLen; omega) (by omega) (by omega) w2.heap.size rfl ?_; intro g3 cap3 w3 hown3 hgrow hat hlt3; have HO3 := Lib.hid hown3; have HG3 := Lib.hid hgrow; clear hown3 hgrow hat)
  have B3 := Lib.hid (B2.out.grown HG3.out B2.out.size (fun b hb => (O2.out.lt b hb).1))
  have O3 := HO3.out
  rw [← cells3_app] at O3
  replace O3 := Lib.hid O3
  go_wp2
  rw [rounds_succ]; go_wp2
  go_ret
  exact ⟨_, _, rfl, O3.out, B3.out⟩

set_option maxRecDepth 100000 in
set_option maxHeartbeats 4000000 in
theorem concatF (g : Nat) (a1 a2 : Option Addr) (n1 n2 c1 c2 : Nat) (V W : Nat → V3) (w : World) (h0 : w.cell? ⟨g, 0, none⟩ = some (.slice a1 n1 c1)) (h1 : w.cell? ⟨g, 1, none⟩ = some (.slice a2 n2 c2)) (hg : g < w.heap.size)
    (r1 : Row3 w a1 n1 V) (r2 : Row3 w a2 n2 W) (hn1 : 0 < n1) (hn2 : 0 < n2) (hm1 : n1 ≤ 1000000) (hm2 : n2 ≤ 1000000) :
    Calls Try.prog 37 #[.slice (some ⟨g, 0, none⟩) 2 2] w (RowsPost w 52 (n1 + n2) (app3 n1 V W)) := by
  obtain ⟨i0, hi0, hz0, hz1, hz2⟩ := info_parts info_face
  rcases r1 with h | ⟨b1, o1, rfl, hb1, t1⟩
  · omega
  rcases r2 with h | ⟨b2, o2, rfl, hb2, t2⟩
  · omega
  have T1 := Lib.hid t1
  have T2 := Lib.hid t2
  clear t1 t2
  go_enter Try.func37, Try.ntmps37
  go_wp2
  refine wp_loop_rounds 3 ?_
  rw [rounds_succ]; go_wp2
  rw [rounds_succ]; go_wp2
  rw [rounds_succ]; go_wp2_with (fail)
  refine (growF (n1 + n2) w (by omega)).mono ?_
  rintro e w1 ⟨a, c, rfl, ho, hb⟩
  have H0 := cellk hb hg h0
  have H1 := cellk hb hg h1
  have hs := hb.size
  have O1 := Lib.hid ho
  have B1 := Lib.hid hb
  have hg1 : g < w1.heap.size := by omega
  clear ho hb h0 h1
  go_wp2
  refine wp_loop_rounds 3 ?_
  rw [rounds_succ]
  go_wp2_with (at_builtin; refine wpList_append_lies _ rfl _ _ 27 rfl w.heap.size 52 i0 (.agg #[.int .i64 0, .int .i64 0, .int .i64 0]) 3 24 Try.underlying27 hi0 hz0 hz1 hz2 rfl (by decide) _ _ _ rfl O1.out ⟨b1, o1, none⟩ n1 c1 (cells3 V n1) rfl (cells3_length V n1) (tri_news (T1.out.kept B1.out hb1)) (cells3_one V n1) (by omega) (by unfold maxLen; omega) (by omega) (by omega) w1.heap.size rfl ?_; intro g2 cap2 w2 hown2 hgrow hat hlt2; have HO2 := Lib.hid hown2; have HG2 := Lib.hid hgrow; clear hown2 hgrow hat)
  have B2 := Lib.hid (B1.out.grown HG2.out B1.out.size (fun b hb => (O1.out.lt b hb).1))
  have s2 := B2.out.size
  have hne : (Value.slice a 0 c).ownBlock ≠ some g := fun e => by have := (O1.out.lt _ e).1; omega
  have k1 : w2.cell? ⟨g, 1, none⟩ = some (.slice (some ⟨b2, o2, none⟩) n2 c2) := (HG2.out.cell_far ⟨g, 1, none⟩ hg1 (fun e => hne e.symm)).trans H1
  have hg2 : g < w2.heap.size := by omega
  have O2 := HO2.out
  simp only [Nat.zero_add, List.nil_append] at O2
  replace O2 := Lib.hid O2
  clear H0 H1
  go_wp2
  rw [rounds_succ]
  go_wp2_with (at_builtin; refine wpList_append_lies _ rfl _ _ 27 rfl w.heap.size 52 i0 (.agg #[.int .i64 0, .int .i64 0, .int .i64 0]) 3 24 Try.underlying27 hi0 hz0 hz1 hz2 rfl (by decide) _ _ _ rfl O2.out ⟨b2, o2, none⟩ n2 c2 (cells3 W n2) rfl (cells3_length W n2) (tri_news (T2.out.kept B2.out hb2)) (cells3_one W n2) (by omega) (by unfold maxLen; omega) (by omega) (by omega) w2.heap.size rfl ?_; intro g3 cap3 w3 hown3 hgrow hat hlt3; have HO3 := Lib.hid hown3; have HG3 := Lib.hid hgrow; clear hown3 hgrow hat)
  have B3 := Lib.hid (B2.out.grown HG3.out B2.out.size (fun b hb => (O2.out.lt b hb).1))
  have O3 := HO3.out
  rw [← cells3_app] at O3
  replace O3 := Lib.hid O3
  go_wp2
  rw [rounds_succ]; go_wp2
  go_ret
  exact ⟨_, _, rfl, O3.out, B3.out⟩
end Go.Proofs.Ytpgpjoghfpfhlaa

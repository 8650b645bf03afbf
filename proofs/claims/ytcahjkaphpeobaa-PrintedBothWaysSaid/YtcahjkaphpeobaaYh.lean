/- Rows of points: copies, two behind one another. -/
import Derived.Test.YtcahjkaphpeobaaYg
import Derived.WalkSpells
import Derived.Lib.SliceRun
import Derived.Lib.Walk
import Derived.Lib.AppendZerosOnto
import Derived.Deep.AppendLies
set_option linter.unusedSimpArgs false
set_option linter.unusedVariables false
namespace Go.Proofs.Ytcahjkaphpeobaa
open Go.RowKit

theorem info_parts {f : Option TypeInfo} {z : Value} {s b : Nat} (h : f.map (fun i => (i.zero, i.size, i.bytes)) = some (some z, s, b)) : ∃ i, f = some i ∧ i.zero = some z ∧ i.size = s ∧ i.bytes = b := by
  cases f with
  | none => cases h
  | some i => exact ⟨i, rfl, by simp at h; exact h.1, by simp at h; exact h.2.1, by simp at h; exact h.2.2⟩
theorem info_point : (Try.prog.info? 38).map (fun i => (i.zero, i.size, i.bytes)) = some (some (.agg #[.int .i64 0, .int .i64 0]), 2, 16) := by kernel_rfl
/-- The cells of the first n points. -/
def cells2 (X Y : Nat → Int) : Nat → List Value
  | 0 => []
  | n + 1 => cells2 X Y n ++ [.int .i64 (X n), .int .i64 (Y n)]
theorem cells2_length (X Y : Nat → Int) (n : Nat) : (cells2 X Y n).length = n * 2 := by
  induction n with
  | zero => rfl
  | succ n ih => simp [cells2, ih]; omega
def p2 (X Y : Nat → Int) (i t : Nat) : Int := if t = 0 then X i else Y i
theorem cells2_get (X Y : Nat → Int) (n i t : Nat) (hi : i < n) (ht : t < 2) : (cells2 X Y n)[i * 2 + t]? = some (.int .i64 (p2 X Y i t)) := by
  induction n with
  | zero => omega
  | succ n ih =>
    have hl := cells2_length X Y n
    simp only [cells2]
    by_cases h : i = n
    · subst h
      rw [List.getElem?_append_right (by omega), hl, show i * 2 + t - i * 2 = t by omega]
      match t, ht with
      | 0, _ => rfl
      | 1, _ => rfl
    · rw [List.getElem?_append_left (by omega)]
      exact ih (by omega)
theorem cells2_one (X Y : Nat → Int) (n : Nat) : ∀ u ∈ cells2 X Y n, u.oneCell' = true := by
  induction n with
  | zero => intro u hu; cases hu
  | succ n ih =>
    intro u hu
    simp only [cells2, List.mem_append, List.mem_cons, List.not_mem_nil, or_false] at hu
    rcases hu with hu | rfl | rfl
    · exact ih u hu
    all_goals rfl
theorem cells2_ext {X Y X' Y' : Nat → Int} : ∀ {n : Nat}, (∀ i, i < n → X i = X' i ∧ Y i = Y' i) → cells2 X Y n = cells2 X' Y' n
  | 0, _ => rfl
  | n + 1, h => by simp only [cells2]; rw [cells2_ext (fun i hi => h i (by omega)), (h n (by omega)).1, (h n (by omega)).2]
theorem du_cell {w : World} {b off n : Nat} {X Y : Nat → Int} (h : Du w b off n X Y) (i t : Nat) (hi : i < n) (ht : t < 2) : w.cell? ⟨b, off + (i * 2 + t), none⟩ = some (.int .i64 (p2 X Y i t)) := by
  obtain ⟨h0, h1⟩ := h i hi
  match t, ht with
  | 0, _ => exact h0
  | 1, _ => exact h1
theorem du_news {w : World} {b off n : Nat} {X Y : Nat → Int} (h : Du w b off n X Y) : ∀ j u, (cells2 X Y n)[j]? = some u → w.cell? ((⟨b, off, none⟩ : Addr).add j) = some u := by
  intro j u hu
  have hj : j < n * 2 := by
    have := (List.getElem?_eq_some_iff.1 hu).1
    rwa [cells2_length] at this
  have e : j / 2 * 2 + j % 2 = j := by omega
  have h1 := cells2_get X Y n (j / 2) (j % 2) (by omega) (by omega)
  have h2 := du_cell h (j / 2) (j % 2) (by omega) (by omega)
  rw [e] at h1 h2
  rw [Addr.add_lit, h2, ← h1, hu]
theorem Du.from {w : World} {b off n : Nat} {X Y : Nat → Int} (h : Du w b off n X Y) (s : Nat) : Du w b (off + s * 2) (n - s) (fun i => X (s + i)) (fun i => Y (s + i)) := fun i hi => by
  have := h (s + i) (by omega)
  rw [show off + s * 2 + i * 2 = off + (s + i) * 2 by omega]
  exact this
theorem Du.less {w : World} {b off n k : Nat} {X Y : Nat → Int} (h : Du w b off n X Y) (hk : k ≤ n) : Du w b off k X Y := fun i hi => h i (by omega)
theorem own_slice' {w : World} {base : Nat} {e : TypeId} {size : Nat} {v : Value} {n : Nat} {xs : List Value} (h : w.ownsRow base e size v n xs) : ∃ ao cap, v = .slice ao n cap := by
  rcases h.2 with ⟨rfl, h0⟩ | ⟨g, cap, cur, hv, _⟩
  · exact ⟨none, 0, by rw [h0]⟩
  · exact ⟨_, _, hv⟩
theorem own_pts {w : World} {base : Nat} {e : TypeId} {a : Option Addr} {c n : Nat} {X Y : Nat → Int} (h : w.ownsRow base e 2 (.slice a n c) n (cells2 X Y n)) : PtsR w a n X Y := by
  by_cases hn : n = 0
  · exact .inl hn
  obtain ⟨g, cap', hv, _, hlt⟩ := h.form (by omega)
  cases hv
  refine .inr ⟨g, 0, rfl, hlt, fun i hi => ?_⟩
  have k : ∀ t, t < 2 → w.cell? ⟨g, i * 2 + t, none⟩ = some (.int .i64 (p2 X Y i t)) := fun t ht => by
    rw [h.cellAt (i * 2 + t) (by omega)]
    exact cells2_get X Y n i t hi ht
  rw [Nat.zero_add]
  exact ⟨k 0 (by omega), k 1 (by omega)⟩
/-- New memory with the points, or none. -/
def PtsPost (w : World) (n : Nat) (X Y : Nat → Int) (e : Ending) (w' : World) : Prop := ∃ a c, e = .returned (.slice a n c) ∧ w'.ownsRow w.heap.size 38 2 (.slice a n c) n (cells2 X Y n) ∧ Below w.heap.size w w'
set_option maxHeartbeats 1000000 in
theorem cloneP (b off n c : Nat) (X Y : Nat → Int) (w : World) (hb : b < w.heap.size) (h : Du w b off n X Y) (h0 : 0 < n) (hn : n ≤ 1000000) :
    Calls Try.prog 26 #[.slice (some ⟨b, off, none⟩) n c] w (PtsPost w n X Y) := by
  obtain ⟨i0, hi0, hz0, hz1, hz2⟩ := info_parts info_point
  have q22 := fun (w : World) (a : Option Addr) (n c n' c' : Nat) => Lib.run_eql_slice_nil (P := Try.prog) w _ _ a n c n' c' Try.underlying28
  have HT := Lib.hid h
  clear h
  go_enter Try.func26, Try.ntmps26
  go_wp2_with (at_builtin; refine wpList_append_lies _ rfl _ _ 28 rfl w.heap.size 38 i0 (.agg #[.int .i64 0, .int .i64 0]) 2 16 Try.underlying28 hi0 hz0 hz1 hz2 rfl (by decide) _ _ _ rfl (World.ownsRow_made w #[] 0 (Nat.le_refl _) (by unfold maxLen; omega) rfl) ⟨b, off, none⟩ n c (cells2 X Y n) rfl (cells2_length X Y n) (du_news (HT.out.kept ((Below.refl _ w).alloc (Nat.le_refl _) _) hb)) (cells2_one X Y n) (by omega) (by unfold maxLen; omega) (by omega) (by simp) (w.heap.size + 1) (by simp) ?_; intro g cap' w' hown hgrow _ _; have HO := Lib.hid hown; have HG := Lib.hid (Below.grown ((Below.refl _ w).alloc (Nat.le_refl _) (.cells #[] 38)) hgrow (by simp) (fun b hb => by cases hb; exact Nat.le_refl _)); clear hown hgrow)
  go_ret
  have ho := HO.out
  simp only [Nat.zero_add, List.nil_append] at ho
  exact ⟨_, _, by (simp only [Nat.zero_add]; rfl), ho, HG.out⟩
/-- Numbers behind one another. -/
def ap (n : Nat) (X X2 : Nat → Int) (i : Nat) : Int := if i < n then X i else X2 (i - n)
theorem cells2_app (n m : Nat) (X Y X2 Y2 : Nat → Int) : cells2 (ap n X X2) (ap n Y Y2) (n + m) = cells2 X Y n ++ cells2 X2 Y2 m := by
  induction m with
  | zero =>
    simp only [Nat.add_zero, cells2, List.append_nil]
    exact cells2_ext fun i hi => by simp [ap, hi]
  | succ m ih =>
    rw [← Nat.add_assoc]
    simp only [cells2]
    rw [ih]
    simp [ap, show ¬ n + m < n by omega]

set_option maxRecDepth 100000 in
set_option maxHeartbeats 4000000 in
theorem growP (n : Nat) (w : World) (hn : n ≤ 2000000) :
    Calls Try.prog 38 #[.slice none 0 0, .int .i64 n] w fun e w' => ∃ a c, e = .returned (.slice a 0 c) ∧ w'.ownsRow w.heap.size 38 2 (.slice a 0 c) 0 [] ∧ Below w.heap.size w w' := by
  obtain ⟨i0, hi0, hz0, hz1, hz2⟩ := info_parts info_point
  by_cases h0 : n = 0
  · subst h0
    go_enter Try.func38, Try.ntmps38
    go_wp2
    go_ret
    exact ⟨_, _, rfl, World.ownsRow_nil _ _ _ _, (by repeat (first | exact Below.refl _ _ | assumption | refine Below.drew ?_ | refine bdrewN ?_ _ | refine Below.setCell ?_ (by first | omega | (simp <;> omega)) _ | refine Below.alloc ?_ (by first | omega | (simp <;> omega)) _))⟩
  have h1 : ¬ ((n : Int) < 0) := by omega
  have h4 : (n : Int) > 0 := by omega
  have hold : (Builtin.firstCells i0.size 0 (.slice none 0 0)).run Try.prog w.drew = .ok (#[] : Array Value) w.drew := run_firstCells_none w.drew i0.size 0 0 0
  have hG3 : grownCap w n 0 38 ≤ 9223372036854775807 := by
    have := grownCap_le_maxLen w n 0 38 (by unfold maxLen; omega)
    unfold maxLen at this
    omega
  have hGn : n ≤ grownCap w n 0 38 := grownCap_ge w _ _ _
  have hrz : ∀ ty, (Builtin.append_ #[28, 3] ty #[.slice none 0 0, .int .i64 (n : Int)]).run Try.prog w =
      .ok (.slice (some ⟨w.heap.size, 0, none⟩) n (grownCap w n 0 38)) (w.drew.alloc (.cells ((#[] : Array Value) ++ Builtin.zeroCells (Value.agg #[.int .i64 0, .int .i64 0]).cells n ++ Builtin.zeroCells (Value.agg #[.int .i64 0, .int .i64 0]).cells (grownCap w n 0 38 - n)) 38)) := fun ty => by
    have h := Lib.run_append_grow_zeros w 28 3 ty 38 i0 (.agg #[.int .i64 0, .int .i64 0]) .i64 .i64 Try.underlying28 Try.underlying3 hi0 hz0 none 0 0 [] hold n (by omega) (by omega) (by omega) (by omega) (by rw [hz2]; omega) (by rw [hz2]; exact growslice_fits (by omega) (by omega))
    simpa using h
  have hsize : ((#[] : Array Value) ++ Builtin.zeroCells (Value.agg #[.int .i64 0, .int .i64 0]).cells n ++ Builtin.zeroCells (Value.agg #[.int .i64 0, .int .i64 0]).cells (grownCap w n 0 38 - n)).size = grownCap w n 0 38 * 2 := by
    simp only [Array.size_append, size_zeroCells]
    have : (Value.agg #[.int .i64 0, .int .i64 0]).cells.size = 2 := by rfl
    rw [this]
    simp
    omega
  generalize ((#[] : Array Value) ++ Builtin.zeroCells (Value.agg #[.int .i64 0, .int .i64 0]).cells n ++ Builtin.zeroCells (Value.agg #[.int .i64 0, .int .i64 0]).cells (grownCap w n 0 38 - n)) = CS at *
  generalize grownCap w n 0 38 = G at *
  have HS := Lib.hid hsize
  clear hsize hold
  go_enter Try.func38, Try.ntmps38
  go_wp2_with (at_builtin; refine Lib.wpList_append_run _ rfl _ _ _ _ rfl _ _ rfl rfl _ _ (hrz _) ?_)
  all_goals
    go_ret
    exact ⟨_, _, rfl, World.ownsRow_made w.drew CS G (Nat.le_refl _) (by unfold maxLen; omega) HS.out, (by repeat (first | exact Below.refl _ _ | assumption | refine Below.drew ?_ | refine bdrewN ?_ _ | refine Below.setCell ?_ (by first | omega | (simp <;> omega)) _ | refine Below.alloc ?_ (by first | omega | (simp <;> omega)) _))⟩

set_option maxRecDepth 100000 in
set_option maxHeartbeats 4000000 in
theorem concatP (g : Nat) (a1 a2 : Option Addr) (n1 n2 c1 c2 : Nat) (X Y X2 Y2 : Nat → Int) (w : World) (h0 : w.cell? ⟨g, 0, none⟩ = some (.slice a1 n1 c1)) (h1 : w.cell? ⟨g, 1, none⟩ = some (.slice a2 n2 c2)) (hg : g < w.heap.size)
    (r1 : PtsR w a1 n1 X Y) (r2 : PtsR w a2 n2 X2 Y2) (hn1 : 0 < n1) (hn2 : 0 < n2) (hm1 : n1 ≤ 1000000) (hm2 : n2 ≤ 1000000) :
    Calls Try.prog 25 #[.slice (some ⟨g, 0, none⟩) 2 2] w (PtsPost w (n1 + n2) (ap n1 X X2) (ap n1 Y Y2)) := by
  obtain ⟨i0, hi0, hz0, hz1, hz2⟩ := info_parts info_point
  rcases r1 with h | ⟨b1, o1, rfl, hb1, t1⟩
  · omega
  rcases r2 with h | ⟨b2, o2, rfl, hb2, t2⟩
  · omega
  have T1 := Lib.hid t1
  have T2 := Lib.hid t2
  clear t1 t2
  go_enter Try.func25, Try.ntmps25
  go_wp2
  refine wp_loop_rounds 3 ?_
  rw [rounds_succ]; go_wp2
  rw [rounds_succ]; go_wp2
  rw [rounds_succ]; go_wp2_with (fail)
  refine (growP (n1 + n2) w (by omega)).mono ?_
  rintro e w1 ⟨a, c, rfl, ho, hb⟩
  have H0 := cellk hb hg h0
  have H1 := cellk hb hg h1
  have hs := hb.size
  have O1 := Lib.hid ho
  have B1 := Lib.hid hb
  have hg1 : g < w1.heap.size := by omega
  clear ho hb h0 h1
  go_wp2
  refine wp_loop_rounds 3 ?_
  rw [rounds_succ]
  go_wp2_with (at_builtin; refine wpList_append_lies _ rfl _ _ 28 rfl w.heap.size 38 i0 (.agg #[.int .i64 0, .int .i64 0]) 2 16 Try.underlying28 hi0 hz0 hz1 hz2 rfl (by decide) _ _ _ rfl O1.out ⟨b1, o1, none⟩ n1 c1 (cells2 X Y n1) rfl (cells2_length X Y n1) (du_news (T1.out.kept B1.out hb1)) (cells2_one X Y n1) (by omega) (by unfold maxLen; omega) (by omega) (by omega) w1.heap.size rfl ?_; intro g2 cap2 w2 hown2 hgrow hat hlt2; have HO2 := Lib.hid hown2; have HG2 := Lib.hid hgrow; clear hown2 hgrow hat)
  have B2 := Lib.hid (B1.out.grown HG2.out B1.out.size (fun b hb => (O1.out.lt b hb).1))
  have s2 := B2.out.size
  have hne : (Value.slice a 0 c).ownBlock ≠ some g := fun e => by have := (O1.out.lt _ e).1; omega
  have k1 : w2.cell? ⟨g, 1, none⟩ = some (.slice (some ⟨b2, o2, none⟩) n2 c2) := (HG2.out.cell_far ⟨g, 1, none⟩ hg1 (fun e => hne e.symm)).trans H1
  have hg2 : g < w2.heap.size := by omega
  have O2 := HO2.out
  simp only [Nat.zero_add, List.nil_append] at O2
  replace O2 := Lib.hid O2
  clear H0 H1
  go_wp2
  rw [rounds_succ]
  go_wp2_with (at_builtin; refine wpList_append_lies _ rfl _ _ 28 rfl w.heap.size 38 i0 (.agg #[.int .i64 0, .int .i64 0]) 2 16 Try.underlying28 hi0 hz0 hz1 hz2 rfl (by decide) _ _ _ rfl O2.out ⟨b2, o2, none⟩ n2 c2 (cells2 X2 Y2 n2) rfl (cells2_length X2 Y2 n2) (du_news (T2.out.kept B2.out hb2)) (cells2_one X2 Y2 n2) (by omega) (by unfold maxLen; omega) (by omega) (by omega) w2.heap.size rfl ?_; intro g3 cap3 w3 hown3 hgrow hat hlt3; have HO3 := Lib.hid hown3; have HG3 := Lib.hid hgrow; clear hown3 hgrow hat)
  have B3 := Lib.hid (B2.out.grown HG3.out B2.out.size (fun b hb => (O2.out.lt b hb).1))
  have O3 := HO3.out
  rw [← cells2_app] at O3
  replace O3 := Lib.hid O3
  go_wp2
  rw [rounds_succ]; go_wp2
  go_ret
  exact ⟨_, _, rfl, O3.out, B3.out⟩
end Go.Proofs.Ytcahjkaphpeobaa

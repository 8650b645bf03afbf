/- What the reference leaves out, step by step; idle. -/
import Derived.Test.YthmplflmjjccfaaQe
set_option linter.unusedSimpArgs false
set_option linter.unusedVariables false
namespace Go.Proofs.Ythmplflmjjccfaa
open Go.RowKit
theorem filtL_snoc (m : Ma) (l : List St) (s : St) : filtL m (l ++ [s]) = filtL m l ++ (if aft (l.foldl aft m) s = l.foldl aft m ∧ timeB s = false then [] else [s]) := by
  induction l generalizing m with
  | nil =>
    show filtL m [s] = [] ++ (if aft m s = m ∧ timeB s = false then [] else [s])
    by_cases h : aft m s = m ∧ timeB s = false
    · rw [if_pos h, filtL, if_pos h]; rfl
    · rw [if_neg h, filtL, if_neg h]; rfl
  | cons a r ih =>
    simp only [List.cons_append, filtL, List.foldl_cons]
    split
    · exact ih _
    · rw [ih]; rfl
/-- The steps that are left of the first k of a list. -/
def dropK (l : List St) : Nat → List St
  | 0 => []
  | k + 1 => if k + 1 < l.length ∧ pairB (lf l k) (lf l (k + 1)) = true then dropK l k else dropK l k ++ [lf l k]
theorem dropK_len (l : List St) (k : Nat) : (dropK l k).length ≤ k := by
  induction k with
  | zero => simp [dropK]
  | succ k ih =>
    rw [dropK]
    split
    · omega
    · rw [List.length_append]; simp; omega
theorem dropK_cons (a : St) (l : List St) (k : Nat) (hk : k ≤ l.length) : dropK (a :: l) (k + 1) = (if l.length = 0 then [a] else if pairB a (lf l 0) = true then [] else [a]) ++ dropK l k := by
  induction k with
  | zero =>
    rw [dropK]
    simp only [dropK, List.nil_append, List.append_nil, List.length_cons]
    by_cases h : l.length = 0
    · rw [if_pos h, if_neg (by omega)]; rfl
    · rw [if_neg h]
      by_cases hp : pairB a (lf l 0) = true
      · rw [if_pos hp, if_pos ⟨by omega, hp⟩]
      · rw [if_neg hp, if_neg (fun h' => hp h'.2)]; rfl
  | succ k ih =>
    rw [dropK, ih (by omega)]
    have e1 : lf (a :: l) (k + 1) = lf l k := rfl
    have e2 : lf (a :: l) (k + 1 + 1) = lf l (k + 1) := rfl
    rw [e1, e2, dropK.eq_2 l k]
    simp only [List.length_cons]
    by_cases h : k + 1 < l.length ∧ pairB (lf l k) (lf l (k + 1)) = true
    · rw [if_pos ⟨by omega, h.2⟩, if_pos h]
    · rw [if_neg (fun h' => h ⟨by omega, h'.2⟩), if_neg h, List.append_assoc]
theorem dropK_all (l : List St) : dropK l l.length = dropL l := by
  induction l with
  | nil => rfl
  | cons a r ih =>
    rw [List.length_cons, dropK_cons a r r.length (Nat.le_refl _), ih]
    cases r with
    | nil => rfl
    | cons b q =>
      rw [dropL, if_neg (by simp)]
      show (if pairB a b = true then [] else [a]) ++ dropL (b :: q) = _
      split <;> rfl
theorem filtL_ab {l : List St} {m : Ma} (h : ∀ s ∈ l, AB s) : ∀ s ∈ filtL m l, AB s := fun s hs => h s (filt_mem hs)
theorem dropL_ab {l : List St} (h : ∀ s ∈ l, AB s) : ∀ s ∈ dropL l, AB s := fun s hs => h s (drop_mem hs)
def idleB (m : Ma) (s : St) : Bool := decide (aft m s = m)
set_option maxRecDepth 100000 in
set_option maxHeartbeats 4000000 in
theorem idle_any (m : Ma) (s : St) (w : World) (g0 : 1 ≤ s.k ∧ s.k ≤ 9) (hF : Fit m.x m.y m.z m.f s.x s.y s.z s.f) :
    Calls Try.prog 34 #[(.agg #[.int .i64 m.x, .int .i64 m.y, .int .i64 m.z, .int .i64 m.s, .int .i64 m.h, .int .i64 m.t, .int .i64 m.f, .bool m.r]), (.agg #[.int .i64 s.k, .int .i64 s.x, .int .i64 s.y, .int .i64 s.z, .int .i64 s.f, .int .i64 s.n])] w fun e w' => e = .returned (.bool (idleB m s)) ∧ Below w.heap.size w w' := by
  have hb1 : Below w.heap.size w ((w.alloc (.cells #[.int .i64 m.x, .int .i64 m.y, .int .i64 m.z, .int .i64 m.s, .int .i64 m.h, .int .i64 m.t, .int .i64 m.f, .bool m.r] 44)).alloc (.cells #[.int .i64 s.k, .int .i64 s.x, .int .i64 s.y, .int .i64 s.z, .int .i64 s.f, .int .i64 s.n] 36)) := (by repeat (first | exact Below.refl _ _ | assumption | refine Below.drew ?_ | refine bdrewN ?_ _ | refine Below.setCell ?_ (by first | omega | (simp <;> omega)) _ | refine Below.alloc ?_ (by first | omega | (simp <;> omega)) _))
  have B1 := Lib.hid hb1
  have HN0 : Hid (((w.alloc (.cells #[.int .i64 m.x, .int .i64 m.y, .int .i64 m.z, .int .i64 m.s, .int .i64 m.h, .int .i64 m.t, .int .i64 m.f, .bool m.r] 44)).alloc (.cells #[.int .i64 s.k, .int .i64 s.x, .int .i64 s.y, .int .i64 s.z, .int .i64 s.f, .int .i64 s.n] 36)).heap[w.heap.size]? = some (.cells #[.int .i64 m.x, .int .i64 m.y, .int .i64 m.z, .int .i64 m.s, .int .i64 m.h, .int .i64 m.t, .int .i64 m.f, .bool m.r] 44 (0, 0))) := Lib.hid ((Below.heap_alloc _ _ _ (by simp)).trans (heap_new rfl))
  have HN1 : Hid (((w.alloc (.cells #[.int .i64 m.x, .int .i64 m.y, .int .i64 m.z, .int .i64 m.s, .int .i64 m.h, .int .i64 m.t, .int .i64 m.f, .bool m.r] 44)).alloc (.cells #[.int .i64 s.k, .int .i64 s.x, .int .i64 s.y, .int .i64 s.z, .int .i64 s.f, .int .i64 s.n] 36)).heap[w.heap.size + 1]? = some (.cells #[.int .i64 s.k, .int .i64 s.x, .int .i64 s.y, .int .i64 s.z, .int .i64 s.f, .int .i64 s.n] 36 (0, 0))) := Lib.hid (heap_new (by simp))
  have hE := fun wx => eql_ma (aft m s) m wx
  obtain ⟨vb, hvb⟩ : ∃ vb, decide (aft m s = m) = vb := ⟨_, rfl⟩
  rw [hvb] at hE
  have HVB := Lib.hid (show idleB m s = vb from hvb)
  have HF := Lib.hid hF
  have hG := gd_ma
  clear hb1 hvb hF
  go_enter Try.func34, Try.ntmps34
  go_wp2_with (fail)
  generalize ((w.alloc (.cells #[.int .i64 m.x, .int .i64 m.y, .int .i64 m.z, .int .i64 m.s, .int .i64 m.h, .int .i64 m.t, .int .i64 m.f, .bool m.r] 44)).alloc (.cells #[.int .i64 s.k, .int .i64 s.x, .int .i64 s.y, .int .i64 s.z, .int .i64 s.f, .int .i64 s.n] 36)) = W0 at *
  obtain ⟨r0, hr0⟩ : ∃ r, w.heap.size = r := ⟨_, rfl⟩
  rw [hr0] at HN0 HN1
  try rw [hr0]
  have HR0 := Lib.hid hr0
  clear hr0
  have HSK : Hid (∀ W, Below W0.heap.size W0 W → (fun w' => (w'.cell? ⟨r0, 0, none⟩ = some (.int .i64 m.x) ∧ w'.cell? ⟨r0, 1, none⟩ = some (.int .i64 m.y) ∧ w'.cell? ⟨r0, 2, none⟩ = some (.int .i64 m.z) ∧ w'.cell? ⟨r0, 3, none⟩ = some (.int .i64 m.s) ∧ w'.cell? ⟨r0, 4, none⟩ = some (.int .i64 m.h) ∧ w'.cell? ⟨r0, 5, none⟩ = some (.int .i64 m.t) ∧ w'.cell? ⟨r0, 6, none⟩ = some (.int .i64 m.f) ∧ w'.cell? ⟨r0, 7, none⟩ = some (.bool m.r)) ∧ (w'.cell? ⟨r0 + 1, 0, none⟩ = some (.int .i64 s.k) ∧ w'.cell? ⟨r0 + 1, 1, none⟩ = some (.int .i64 s.x) ∧ w'.cell? ⟨r0 + 1, 2, none⟩ = some (.int .i64 s.y) ∧ w'.cell? ⟨r0 + 1, 3, none⟩ = some (.int .i64 s.z) ∧ w'.cell? ⟨r0 + 1, 4, none⟩ = some (.int .i64 s.f) ∧ w'.cell? ⟨r0 + 1, 5, none⟩ = some (.int .i64 s.n))) W) := Lib.hid (fun W hB => ⟨⟨cell_of (heap_keep hB HN0.out) (i := 0) rfl, cell_of (heap_keep hB HN0.out) (i := 1) rfl, cell_of (heap_keep hB HN0.out) (i := 2) rfl, cell_of (heap_keep hB HN0.out) (i := 3) rfl, cell_of (heap_keep hB HN0.out) (i := 4) rfl, cell_of (heap_keep hB HN0.out) (i := 5) rfl, cell_of (heap_keep hB HN0.out) (i := 6) rfl, cell_of (heap_keep hB HN0.out) (i := 7) rfl⟩, ⟨cell_of (heap_keep hB HN1.out) (i := 0) rfl, cell_of (heap_keep hB HN1.out) (i := 1) rfl, cell_of (heap_keep hB HN1.out) (i := 2) rfl, cell_of (heap_keep hB HN1.out) (i := 3) rfl, cell_of (heap_keep hB HN1.out) (i := 4) rfl, cell_of (heap_keep hB HN1.out) (i := 5) rfl⟩⟩)
  refine wp_region_held_drew (S := (fun w' => (w'.cell? ⟨r0, 0, none⟩ = some (.int .i64 m.x) ∧ w'.cell? ⟨r0, 1, none⟩ = some (.int .i64 m.y) ∧ w'.cell? ⟨r0, 2, none⟩ = some (.int .i64 m.z) ∧ w'.cell? ⟨r0, 3, none⟩ = some (.int .i64 m.s) ∧ w'.cell? ⟨r0, 4, none⟩ = some (.int .i64 m.h) ∧ w'.cell? ⟨r0, 5, none⟩ = some (.int .i64 m.t) ∧ w'.cell? ⟨r0, 6, none⟩ = some (.int .i64 m.f) ∧ w'.cell? ⟨r0, 7, none⟩ = some (.bool m.r)) ∧ (w'.cell? ⟨r0 + 1, 0, none⟩ = some (.int .i64 s.k) ∧ w'.cell? ⟨r0 + 1, 1, none⟩ = some (.int .i64 s.x) ∧ w'.cell? ⟨r0 + 1, 2, none⟩ = some (.int .i64 s.y) ∧ w'.cell? ⟨r0 + 1, 3, none⟩ = some (.int .i64 s.z) ∧ w'.cell? ⟨r0 + 1, 4, none⟩ = some (.int .i64 s.f) ∧ w'.cell? ⟨r0 + 1, 5, none⟩ = some (.int .i64 s.n)))) (by kernel_rfl) (HSK.out _ (bdrewN (Below.refl _ _) 1)) (fun hHeld => ?_)
  refine tkH (by assumption) 0 (oi := ?_) (v := ?_) ?_ ?_ ?_ ?_ ?_ ?_ ?_ ?_; rotate_left 2; (simp only [gA, gB, gC]; exact rfl); kernel_rfl; kernel_rfl; kernel_rfl; exact fun _ _ _ h => h; rfl; (intro w' hSw; (try dsimp only at hSw); go_simp; with_reducible rfl); simp only [Act.put, pB, pC, pD]
  refine tkH (by assumption) 1 (oi := ?_) (v := ?_) ?_ ?_ ?_ ?_ ?_ ?_ ?_ ?_; rotate_left 2; (simp only [gA, gB, gC]; exact rfl); kernel_rfl; kernel_rfl; kernel_rfl; exact fun _ _ _ h => h; rfl; (intro w' hSw; (try dsimp only at hSw); go_simp; with_reducible rfl); simp only [Act.put, pB, pC, pD]
  refine tkH (by assumption) 3 (oi := ?_) (v := ?_) ?_ ?_ ?_ ?_ ?_ ?_ ?_ ?_; rotate_left 2; (simp only [gA, gB, gC]; exact rfl); kernel_rfl; kernel_rfl; kernel_rfl; exact fun _ _ _ h => h; rfl; (intro w' hSw; (try dsimp only at hSw); go_simp; with_reducible rfl); simp only [Act.put, pB, pC, pD]
  refine onH 2 (oi := ?_) (by kernel_rfl) ?_ ?_ (fun K hK => ?_); rotate_left; (simp only [gA, gB, gC]; exact rfl); rfl
  go_wp2_with (fail)
  refine (after_fit m s _ g0 HF.out).mono ?_
  rintro e w5 ⟨rfl, hb5⟩
  have hb6 : Below W0.heap.size W0 w5 := (bdrewN (Below.refl _ W0) 1).trans hb5
  refine hK.out _ _ (HSK.out _ hb6) (fun hHeldN => ?_)
  clear hK K hHeld
  have hHeld := hHeldN
  clear hHeldN
  try simp only [Act.put, pB, pC, pD]
  have B6 := Lib.hid (B1.out.trans (hb6.mono B1.out.size))
  clear hb5 hb6
  refine tkH (by assumption) 4 (oi := ?_) (v := ?_) ?_ ?_ ?_ ?_ ?_ ?_ ?_ ?_; rotate_left 2; (simp only [gA, gB, gC]; exact rfl); kernel_rfl; kernel_rfl; kernel_rfl; exact fun _ _ _ h => h; rfl; (intro w' hSw; (try dsimp only at hSw); go_simp; with_reducible rfl); simp only [Act.put, pB, pC, pD]
  refine tkH (by assumption) 5 (oi := ?_) (v := ?_) ?_ ?_ ?_ ?_ ?_ ?_ ?_ ?_; rotate_left 2; (simp only [gA, gB, gC]; exact rfl); kernel_rfl; kernel_rfl; kernel_rfl; exact fun _ _ _ h => h; rfl; (intro w' hSw; (try dsimp only at hSw); go_simp; with_reducible rfl); simp only [Act.put, pB, pC, pD]
  refine wpAnyH_done (by kernel_rfl) ?_ _
  go_wp2_with (fail)
  go_ret
  exact ⟨by rw [HVB.out]; rfl, B6.out⟩
end Go.Proofs.Ythmplflmjjccfaa

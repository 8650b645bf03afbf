/- A drawn step. -/
import Derived.Test.YtgmpmaiddombeaaGq
import Derived.Test.YtgmpmaiddombeaaTk
import Derived.Deep.Cut
import Derived.Deep.CutRange
import Derived.Deep.CutBlock
set_option linter.unusedSimpArgs false
set_option linter.unusedVariables false
namespace Go.Proofs.Ytgmpmaiddombeaa
open Go.RowKit
theorem absH {P : Program} {md : Region.Mode} {ops : Array Oper} {Q : Exit → Act → World → Prop} {S : World → Prop} {fuel : Nat} {listed : Array Bool} {a : Act} {w : World}
    (h : ∀ (G : Nat → Array Bool → Act → World → Prop) (A : Act), (∀ f l b v, G f l b v ↔ wpAnyH P md ops Q S f l b v) → A = a → G fuel listed A w) : wpAnyH P md ops Q S fuel listed a w :=
  (h _ a (fun _ _ _ _ => Iff.rfl) rfl)
theorem listedEq {P : Program} {md : Region.Mode} {ops : Array Oper} {Q : Exit → Act → World → Prop} {S : World → Prop} {fuel : Nat} {l l' : Array Bool} {a : Act} {w : World}
    (h : l = l') (hw : wpAnyH P md ops Q S fuel l' a w) : wpAnyH P md ops Q S fuel l a w := h ▸ hw
theorem StrmG.setCell {w : World} {B k : Nat} (h : Strm w B k) {a : Addr} (ha : B < a.block) (v : Value) : Strm (w.setCell a v) B k :=
  h.kept ((Mut.refl (· = a.block) w).setCell (p := a) (fun _ => rfl) v) (fun x hx => by omega)
theorem StrmG.drew {w : World} {B k : Nat} (h : Strm w B k) : Strm w.drew B k :=
  h.kept (S := fun _ => False) ⟨rfl, rfl, rfl, Nat.le_refl _, fun _ _ _ => rfl⟩ (fun _ _ h => h)
theorem StrmG.below {w w' : World} {B k : Nat} (h : Strm w B k) (hb : Below w.heap.size w w') : Strm w' B k :=
  h.kept (S := fun _ => False) ⟨hb.os, hb.tape, hb.output, hb.size, fun k hk _ => hb.block k hk⟩ (fun _ _ h => h)
theorem mutG_of_bel {S : Nat → Prop} {w w' : World} (h : Below w.heap.size w w') : Mut S w w' := ⟨h.os, h.tape, h.output, h.size, fun k hk _ => h.block k hk⟩
theorem pick_at (B k : Nat) (l : List Int) (n : Nat) (P : Int → Prop) (w : World) (g : Nat) (hg : w.heap.size = g) (hs : Strm w B k) (hk : k + 1 ≤ 1000000) (hn : l.length = n) (h3 : 1 ≤ n) (h4 : n ≤ 1000000) (hP : ∀ z ∈ l, P z) :
    Calls Try.prog 35 #[.pointer (some ⟨B, 0, none⟩), .slice (some ⟨g, 0, none⟩) n n] (w.alloc (.cells (l.map (Value.int .i64)).toArray 3)) (StrmPost w B k 1 (IntE P)) := by
  subst hg; exact pick_new B k l n P w hs hk hn h3 h4 hP
set_option maxHeartbeats 400000 in
theorem oddG_any (B k : Nat) (lo hi : Int) (w : World) (hs : Strm w B k) (hk : k + 2 ≤ 1000000) (h3 : lo ≤ hi) (h4 : -1000000000000 ≤ lo) (h5 : hi ≤ 1000000000000) :
    Calls Try.prog 36 #[.pointer (some ⟨B, 0, none⟩), .int .i64 lo, .int .i64 hi] w (StrmPost w B k 2 (IntE fun z => -1100000000000 ≤ z ∧ z ≤ 1100000000000)) := by
  go_enter Try.func36, Try.ntmps36
  go_wp2_with (first
    | (go_at_call 6; refine (flip_any B k _ w hs (by omega) (by omega) (by omega)).mono ?_; rintro e w1 ⟨⟨b, rfl⟩, hst, hmt⟩; cases b)
    | (go_at_call 21; refine (range_any B (k + 1) _ _ w1 hst (by omega) (by omega) (by omega) (by omega)).mono ?_; rintro e w2 ⟨⟨z, rfl, h6, h7⟩, hst2, hmt2⟩)
    | (go_at_call 35; refine (pick_new B (k + 1) [lo - 1, hi + 1, lo, hi, -1099511627776, 1099511627776] 6 (fun z => -1100000000000 ≤ z ∧ z ≤ 1100000000000) w1 hst (by omega) rfl (by omega) (by omega) (by intro z hz; simp only [List.mem_cons, List.not_mem_nil, or_false] at hz; omega)).mono ?_; rintro e w2 ⟨⟨z, rfl, h6, h7⟩, hst2, hmt2⟩))
  all_goals
    go_ret
    exact StrmPost.trans hmt (d := 1) ⟨⟨_, rfl, by omega, by omega⟩, hst2, hmt2⟩
/-- A drawn step: any. -/
def StepE (w : World) (B k : Nat) (e : Ending) (w' : World) : Prop := ∃ s : St, e = .returned (.agg #[.int .i64 s.k, .int .i64 s.x, .int .i64 s.y, .int .i64 s.z, .int .i64 s.f, .int .i64 s.n]) ∧ Strm w' B k ∧ Mut (· = B) w w'
set_option maxRecDepth 100000 in
set_option maxHeartbeats 16000000 in
theorem aStepOf_any (B k : Nat) (w : World) (hs : Strm w B k) (hk : k + 20 ≤ 1000000) :
    Calls Try.prog 22 #[.pointer (some ⟨B, 0, none⟩)] w (StepE w B (k + 12)) := by
  have hl := hs.lt
  have hb0 : Below w.heap.size w (w.alloc (.cells #[.int .i64 s00.k, .int .i64 s00.x, .int .i64 s00.y, .int .i64 s00.z, .int .i64 s00.f, .int .i64 s00.n] 36)) := (by repeat (first | exact Below.refl _ _ | assumption | refine Below.drew ?_ | refine bdrewN ?_ _ | refine Below.setCell ?_ (by first | omega | (simp <;> omega)) _ | refine Below.alloc ?_ (by first | omega | (simp <;> omega)) _))
  have HS0 := Lib.hid (StrmG.below hs hb0)
  have HM0 : Hid (Mut (· = B) w (w.alloc (.cells #[.int .i64 s00.k, .int .i64 s00.x, .int .i64 s00.y, .int .i64 s00.z, .int .i64 s00.f, .int .i64 s00.n] 36))) := Lib.hid (mutG_of_bel hb0)
  have HR0 := Lib.hid (heap_alloc_new w (.cells #[.int .i64 s00.k, .int .i64 s00.x, .int .i64 s00.y, .int .i64 s00.z, .int .i64 s00.f, .int .i64 s00.n] 36))
  have hs0 : (w.alloc (.cells #[.int .i64 s00.k, .int .i64 s00.x, .int .i64 s00.y, .int .i64 s00.z, .int .i64 s00.f, .int .i64 s00.n] 36)).heap.size = w.heap.size + 1 := by simp
  dsimp only [s00] at HS0 HM0 HR0 hs0
  clear hb0 hs
  go_enter Try.func22, Try.ntmps22
  go_wp2_with (fail)
  generalize (w.alloc (.cells #[.int .i64 0, .int .i64 0, .int .i64 0, .int .i64 0, .int .i64 0, .int .i64 0] 36)) = w0 at *
  obtain ⟨r0, hr0⟩ : ∃ r, w.heap.size = r := ⟨_, rfl⟩
  have HRW := Lib.hid hr0
  rw [hr0] at HR0 hs0 hl
  try rw [hr0]
  clear hr0
  refine (pick_at B k [3, 3, 4, 4, 4, 5, 1, 2, 6, 7, 8, 9] 12 (fun _ => True) w0 (r0 + 1) hs0 HS0.out (by omega) rfl (by omega) (by omega) (by simp)).mono ?_
  rintro e w1 ⟨⟨z, rfl, _⟩, hst, hmt⟩
  have HS1 := Lib.hid hst
  have HM1 := Lib.hid (HM0.out.trans (hmt.mono fun _ _ h => h))
  have HR1 := Lib.hid ((hmt.block r0 (lt_of_heap HR0.out) (by show ¬ r0 = B; omega)).trans HR0.out)
  have hrw1 := lt_of_heap HR1.out
  clear hst hmt HS0 HM0 HR0 hs0
  have hb2 : Below w1.heap.size w1 (w1.alloc (.cells #[.int .i64 z, .int .i64 0, .int .i64 0, .int .i64 0, .int .i64 0, .int .i64 0] 36)) := (Below.refl _ _).alloc (Nat.le_refl _) _
  have HS := Lib.hid (StrmG.below HS1.out hb2)
  have HM := Lib.hid (HM1.out.below hb2)
  have HR := Lib.hid (heap_keep hb2 HR1.out)
  have HH := Lib.hid (heap_alloc_new w1 (.cells #[.int .i64 z, .int .i64 0, .int .i64 0, .int .i64 0, .int .i64 0, .int .i64 0] 36))
  have hBg := HS1.out.lt
  clear hb2 HS1 HM1 HR1
  go_upto_block 0 with (fail)
  generalize (w1.alloc (.cells #[.int .i64 z, .int .i64 0, .int .i64 0, .int .i64 0, .int .i64 0, .int .i64 0] 36)) = w2 at *
  obtain ⟨g, hg⟩ : ∃ g, w1.heap.size = g := ⟨_, rfl⟩
  rw [hg] at HH hrw1 hBg
  try rw [hg]
  clear hg
  go_cut [] from 8 to 62 (fun wx => ∃ s : St, wx.heap[g]? = some (.cells #[.int .i64 s.k, .int .i64 s.x, .int .i64 s.y, .int .i64 s.z, .int .i64 s.f, .int .i64 s.n] 36 (0, 0)) ∧ Strm wx B (k + 4) ∧ Mut (fun b => b = B ∨ b = g) w2 wx)
  case first =>
    have s0 : w2.cell? ⟨g, 0, none⟩ = some (.int .i64 z) := cell_of HH.out (i := 0) rfl
    replace HM : Hid (Mut (fun b => b = B ∨ b = g) w2 w2) := Lib.hid (Mut.refl _ _)
    by_cases hz3 : z = 3
    · subst hz3
      go_wp2_with (fail)
      refine (pick_at B _ [0, 5, 10, -5, 15] 5 (fun _ => True) w2 _ rfl HS.out (by omega) rfl (by omega) (by omega) (by simp)).mono ?_
      rintro e v1 ⟨⟨z0, rfl, _⟩, hst, hmt⟩
      replace HS := Lib.hid hst
      replace HM := Lib.hid (HM.out.trans (hmt.mono fun _ _ h => .inl h))
      replace HH := Lib.hid ((hmt.block g (lt_of_heap HH.out) (by show ¬ g = B; omega)).trans HH.out)
      clear hst hmt
      go_wp2_with (fail)
      refine (pick_at B _ [0, 0, 10] 3 (fun _ => True) v1 _ rfl HS.out (by omega) rfl (by omega) (by omega) (by simp)).mono ?_
      rintro e v2 ⟨⟨z1, rfl, _⟩, hst, hmt⟩
      replace HS := Lib.hid hst
      replace HM := Lib.hid (HM.out.trans (hmt.mono fun _ _ h => .inl h))
      replace HH := Lib.hid ((hmt.block g (lt_of_heap HH.out) (by show ¬ g = B; omega)).trans HH.out)
      clear hst hmt
      have s0 : v2.cell? ⟨g, 0, none⟩ = some (.int .i64 3) := cell_of HH.out (i := 0) rfl
      have s1 : v2.cell? ⟨g, 1, none⟩ = some (.int .i64 0) := cell_of HH.out (i := 1) rfl
      have s2 : v2.cell? ⟨g, 2, none⟩ = some (.int .i64 0) := cell_of HH.out (i := 2) rfl
      have s3 : v2.cell? ⟨g, 3, none⟩ = some (.int .i64 0) := cell_of HH.out (i := 3) rfl
      have s4 : v2.cell? ⟨g, 4, none⟩ = some (.int .i64 0) := cell_of HH.out (i := 4) rfl
      have s5 : v2.cell? ⟨g, 5, none⟩ = some (.int .i64 0) := cell_of HH.out (i := 5) rfl
      have fg := fun i => frozen_of (i := i) HH.out
      go_wp2_with (fail)
      have hm9 : Mut (· = g) v2 ((v2.setCell ⟨g, 1, none⟩ (.int .i64 z0)).setCell ⟨g, 2, none⟩ (.int .i64 z1)) := Mut.setCell (p := ⟨g, 2, none⟩) (Mut.setCell (p := ⟨g, 1, none⟩) (Mut.refl (· = g) v2) (fun _ => rfl) _) (fun _ => rfl) _
      have hh9 : ((v2.setCell ⟨g, 1, none⟩ (.int .i64 z0)).setCell ⟨g, 2, none⟩ (.int .i64 z1)).heap[g]? = some (.cells #[.int .i64 3, .int .i64 z0, .int .i64 z1, .int .i64 0, .int .i64 0, .int .i64 0] 36 (0, 0)) := (cells_set (i := 2) (cells_set (i := 1) HH.out (.int .i64 z0)) (.int .i64 z1)).trans (by simp only [List.setIfInBounds_toArray, List.set_cons_zero, List.set_cons_succ])
      go_meet
      exact ⟨⟨3, z0, z1, 0, 0, 0⟩, hh9, (HS.out.kept hm9 (fun x hx e => by omega)).more (by omega) (by omega), HM.out.after hm9 (fun x hx h => .inr h)⟩
    by_cases hz4 : z = 4
    · subst hz4
      go_wp2_with (fail)
      refine (pick_at B _ [0, 5, 10, 20] 4 (fun _ => True) w2 _ rfl HS.out (by omega) rfl (by omega) (by omega) (by simp)).mono ?_
      rintro e v3 ⟨⟨z0, rfl, _⟩, hst, hmt⟩
      replace HS := Lib.hid hst
      replace HM := Lib.hid (HM.out.trans (hmt.mono fun _ _ h => .inl h))
      replace HH := Lib.hid ((hmt.block g (lt_of_heap HH.out) (by show ¬ g = B; omega)).trans HH.out)
      clear hst hmt
      go_wp2_with (fail)
      refine (pick_at B _ [0, 0, 10] 3 (fun _ => True) v3 _ rfl HS.out (by omega) rfl (by omega) (by omega) (by simp)).mono ?_
      rintro e v4 ⟨⟨z1, rfl, _⟩, hst, hmt⟩
      replace HS := Lib.hid hst
      replace HM := Lib.hid (HM.out.trans (hmt.mono fun _ _ h => .inl h))
      replace HH := Lib.hid ((hmt.block g (lt_of_heap HH.out) (by show ¬ g = B; omega)).trans HH.out)
      clear hst hmt
      go_wp2_with (fail)
      refine (pick_at B _ [0, 1, 7, 30] 4 (fun _ => True) v4 _ rfl HS.out (by omega) rfl (by omega) (by omega) (by simp)).mono ?_
      rintro e v5 ⟨⟨z2, rfl, _⟩, hst, hmt⟩
      replace HS := Lib.hid hst
      replace HM := Lib.hid (HM.out.trans (hmt.mono fun _ _ h => .inl h))
      replace HH := Lib.hid ((hmt.block g (lt_of_heap HH.out) (by show ¬ g = B; omega)).trans HH.out)
      clear hst hmt
      have s0 : v5.cell? ⟨g, 0, none⟩ = some (.int .i64 4) := cell_of HH.out (i := 0) rfl
      have s1 : v5.cell? ⟨g, 1, none⟩ = some (.int .i64 0) := cell_of HH.out (i := 1) rfl
      have s2 : v5.cell? ⟨g, 2, none⟩ = some (.int .i64 0) := cell_of HH.out (i := 2) rfl
      have s3 : v5.cell? ⟨g, 3, none⟩ = some (.int .i64 0) := cell_of HH.out (i := 3) rfl
      have s4 : v5.cell? ⟨g, 4, none⟩ = some (.int .i64 0) := cell_of HH.out (i := 4) rfl
      have s5 : v5.cell? ⟨g, 5, none⟩ = some (.int .i64 0) := cell_of HH.out (i := 5) rfl
      have fg := fun i => frozen_of (i := i) HH.out
      go_wp2_with (fail)
      have hm9 : Mut (· = g) v5 (((v5.setCell ⟨g, 1, none⟩ (.int .i64 z0)).setCell ⟨g, 2, none⟩ (.int .i64 z1)).setCell ⟨g, 4, none⟩ (.int .i64 z2)) := Mut.setCell (p := ⟨g, 4, none⟩) (Mut.setCell (p := ⟨g, 2, none⟩) (Mut.setCell (p := ⟨g, 1, none⟩) (Mut.refl (· = g) v5) (fun _ => rfl) _) (fun _ => rfl) _) (fun _ => rfl) _
      have hh9 : (((v5.setCell ⟨g, 1, none⟩ (.int .i64 z0)).setCell ⟨g, 2, none⟩ (.int .i64 z1)).setCell ⟨g, 4, none⟩ (.int .i64 z2)).heap[g]? = some (.cells #[.int .i64 4, .int .i64 z0, .int .i64 z1, .int .i64 0, .int .i64 z2, .int .i64 0] 36 (0, 0)) := (cells_set (i := 4) (cells_set (i := 2) (cells_set (i := 1) HH.out (.int .i64 z0)) (.int .i64 z1)) (.int .i64 z2)).trans (by simp only [List.setIfInBounds_toArray, List.set_cons_zero, List.set_cons_succ])
      go_meet
      exact ⟨⟨4, z0, z1, 0, z2, 0⟩, hh9, (HS.out.kept hm9 (fun x hx e => by omega)).more (by omega) (by omega), HM.out.after hm9 (fun x hx h => .inr h)⟩
    by_cases hz5 : z = 5
    · subst hz5
      go_wp2_with (fail)
      refine (pick_at B _ [0, 1, 2, 5, 200] 5 (fun _ => True) w2 _ rfl HS.out (by omega) rfl (by omega) (by omega) (by simp)).mono ?_
      rintro e v6 ⟨⟨z0, rfl, _⟩, hst, hmt⟩
      replace HS := Lib.hid hst
      replace HM := Lib.hid (HM.out.trans (hmt.mono fun _ _ h => .inl h))
      replace HH := Lib.hid ((hmt.block g (lt_of_heap HH.out) (by show ¬ g = B; omega)).trans HH.out)
      clear hst hmt
      have s0 : v6.cell? ⟨g, 0, none⟩ = some (.int .i64 5) := cell_of HH.out (i := 0) rfl
      have s1 : v6.cell? ⟨g, 1, none⟩ = some (.int .i64 0) := cell_of HH.out (i := 1) rfl
      have s2 : v6.cell? ⟨g, 2, none⟩ = some (.int .i64 0) := cell_of HH.out (i := 2) rfl
      have s3 : v6.cell? ⟨g, 3, none⟩ = some (.int .i64 0) := cell_of HH.out (i := 3) rfl
      have s4 : v6.cell? ⟨g, 4, none⟩ = some (.int .i64 0) := cell_of HH.out (i := 4) rfl
      have s5 : v6.cell? ⟨g, 5, none⟩ = some (.int .i64 0) := cell_of HH.out (i := 5) rfl
      have fg := fun i => frozen_of (i := i) HH.out
      go_wp2_with (fail)
      have hm9 : Mut (· = g) v6 (v6.setCell ⟨g, 3, none⟩ (.int .i64 z0)) := Mut.setCell (p := ⟨g, 3, none⟩) (Mut.refl (· = g) v6) (fun _ => rfl) _
      have hh9 : (v6.setCell ⟨g, 3, none⟩ (.int .i64 z0)).heap[g]? = some (.cells #[.int .i64 5, .int .i64 0, .int .i64 0, .int .i64 z0, .int .i64 0, .int .i64 0] 36 (0, 0)) := (cells_set (i := 3) HH.out (.int .i64 z0)).trans (by simp only [List.setIfInBounds_toArray, List.set_cons_zero, List.set_cons_succ])
      go_meet
      exact ⟨⟨5, 0, 0, z0, 0, 0⟩, hh9, (HS.out.kept hm9 (fun x hx e => by omega)).more (by omega) (by omega), HM.out.after hm9 (fun x hx h => .inr h)⟩
    by_cases hz6 : z = 6
    · subst hz6
      go_wp2_with (fail)
      refine (pick_at B _ [100, 50, 7] 3 (fun _ => True) w2 _ rfl HS.out (by omega) rfl (by omega) (by omega) (by simp)).mono ?_
      rintro e v7 ⟨⟨z0, rfl, _⟩, hst, hmt⟩
      replace HS := Lib.hid hst
      replace HM := Lib.hid (HM.out.trans (hmt.mono fun _ _ h => .inl h))
      replace HH := Lib.hid ((hmt.block g (lt_of_heap HH.out) (by show ¬ g = B; omega)).trans HH.out)
      clear hst hmt
      have s0 : v7.cell? ⟨g, 0, none⟩ = some (.int .i64 6) := cell_of HH.out (i := 0) rfl
      have s1 : v7.cell? ⟨g, 1, none⟩ = some (.int .i64 0) := cell_of HH.out (i := 1) rfl
      have s2 : v7.cell? ⟨g, 2, none⟩ = some (.int .i64 0) := cell_of HH.out (i := 2) rfl
      have s3 : v7.cell? ⟨g, 3, none⟩ = some (.int .i64 0) := cell_of HH.out (i := 3) rfl
      have s4 : v7.cell? ⟨g, 4, none⟩ = some (.int .i64 0) := cell_of HH.out (i := 4) rfl
      have s5 : v7.cell? ⟨g, 5, none⟩ = some (.int .i64 0) := cell_of HH.out (i := 5) rfl
      have fg := fun i => frozen_of (i := i) HH.out
      go_wp2_with (fail)
      have hm9 : Mut (· = g) v7 (v7.setCell ⟨g, 5, none⟩ (.int .i64 z0)) := Mut.setCell (p := ⟨g, 5, none⟩) (Mut.refl (· = g) v7) (fun _ => rfl) _
      have hh9 : (v7.setCell ⟨g, 5, none⟩ (.int .i64 z0)).heap[g]? = some (.cells #[.int .i64 6, .int .i64 0, .int .i64 0, .int .i64 0, .int .i64 0, .int .i64 z0] 36 (0, 0)) := (cells_set (i := 5) HH.out (.int .i64 z0)).trans (by simp only [List.setIfInBounds_toArray, List.set_cons_zero, List.set_cons_succ])
      go_meet
      exact ⟨⟨6, 0, 0, 0, 0, z0⟩, hh9, (HS.out.kept hm9 (fun x hx e => by omega)).more (by omega) (by omega), HM.out.after hm9 (fun x hx h => .inr h)⟩
    by_cases hz7 : z = 7
    · subst hz7
      go_wp2_with (fail)
      refine (pick_at B _ [0, 0, 5, 100] 4 (fun _ => True) w2 _ rfl HS.out (by omega) rfl (by omega) (by omega) (by simp)).mono ?_
      rintro e v8 ⟨⟨z0, rfl, _⟩, hst, hmt⟩
      replace HS := Lib.hid hst
      replace HM := Lib.hid (HM.out.trans (hmt.mono fun _ _ h => .inl h))
      replace HH := Lib.hid ((hmt.block g (lt_of_heap HH.out) (by show ¬ g = B; omega)).trans HH.out)
      clear hst hmt
      have s0 : v8.cell? ⟨g, 0, none⟩ = some (.int .i64 7) := cell_of HH.out (i := 0) rfl
      have s1 : v8.cell? ⟨g, 1, none⟩ = some (.int .i64 0) := cell_of HH.out (i := 1) rfl
      have s2 : v8.cell? ⟨g, 2, none⟩ = some (.int .i64 0) := cell_of HH.out (i := 2) rfl
      have s3 : v8.cell? ⟨g, 3, none⟩ = some (.int .i64 0) := cell_of HH.out (i := 3) rfl
      have s4 : v8.cell? ⟨g, 4, none⟩ = some (.int .i64 0) := cell_of HH.out (i := 4) rfl
      have s5 : v8.cell? ⟨g, 5, none⟩ = some (.int .i64 0) := cell_of HH.out (i := 5) rfl
      have fg := fun i => frozen_of (i := i) HH.out
      go_wp2_with (fail)
      have hm9 : Mut (· = g) v8 (v8.setCell ⟨g, 5, none⟩ (.int .i64 z0)) := Mut.setCell (p := ⟨g, 5, none⟩) (Mut.refl (· = g) v8) (fun _ => rfl) _
      have hh9 : (v8.setCell ⟨g, 5, none⟩ (.int .i64 z0)).heap[g]? = some (.cells #[.int .i64 7, .int .i64 0, .int .i64 0, .int .i64 0, .int .i64 0, .int .i64 z0] 36 (0, 0)) := (cells_set (i := 5) HH.out (.int .i64 z0)).trans (by simp only [List.setIfInBounds_toArray, List.set_cons_zero, List.set_cons_succ])
      go_meet
      exact ⟨⟨7, 0, 0, 0, 0, z0⟩, hh9, (HS.out.kept hm9 (fun x hx e => by omega)).more (by omega) (by omega), HM.out.after hm9 (fun x hx h => .inr h)⟩
    by_cases hz8 : z = 8
    · subst hz8
      go_wp2_with (fail)
      refine (pick_at B _ [0, 200, 220] 3 (fun _ => True) w2 _ rfl HS.out (by omega) rfl (by omega) (by omega) (by simp)).mono ?_
      rintro e v9 ⟨⟨z0, rfl, _⟩, hst, hmt⟩
      replace HS := Lib.hid hst
      replace HM := Lib.hid (HM.out.trans (hmt.mono fun _ _ h => .inl h))
      replace HH := Lib.hid ((hmt.block g (lt_of_heap HH.out) (by show ¬ g = B; omega)).trans HH.out)
      clear hst hmt
      have s0 : v9.cell? ⟨g, 0, none⟩ = some (.int .i64 8) := cell_of HH.out (i := 0) rfl
      have s1 : v9.cell? ⟨g, 1, none⟩ = some (.int .i64 0) := cell_of HH.out (i := 1) rfl
      have s2 : v9.cell? ⟨g, 2, none⟩ = some (.int .i64 0) := cell_of HH.out (i := 2) rfl
      have s3 : v9.cell? ⟨g, 3, none⟩ = some (.int .i64 0) := cell_of HH.out (i := 3) rfl
      have s4 : v9.cell? ⟨g, 4, none⟩ = some (.int .i64 0) := cell_of HH.out (i := 4) rfl
      have s5 : v9.cell? ⟨g, 5, none⟩ = some (.int .i64 0) := cell_of HH.out (i := 5) rfl
      have fg := fun i => frozen_of (i := i) HH.out
      go_wp2_with (fail)
      have hm9 : Mut (· = g) v9 (v9.setCell ⟨g, 5, none⟩ (.int .i64 z0)) := Mut.setCell (p := ⟨g, 5, none⟩) (Mut.refl (· = g) v9) (fun _ => rfl) _
      have hh9 : (v9.setCell ⟨g, 5, none⟩ (.int .i64 z0)).heap[g]? = some (.cells #[.int .i64 8, .int .i64 0, .int .i64 0, .int .i64 0, .int .i64 0, .int .i64 z0] 36 (0, 0)) := (cells_set (i := 5) HH.out (.int .i64 z0)).trans (by simp only [List.setIfInBounds_toArray, List.set_cons_zero, List.set_cons_succ])
      go_meet
      exact ⟨⟨8, 0, 0, 0, 0, z0⟩, hh9, (HS.out.kept hm9 (fun x hx e => by omega)).more (by omega) (by omega), HM.out.after hm9 (fun x hx h => .inr h)⟩
    by_cases hz9 : z = 9
    · subst hz9
      go_wp2_with (fail)
      refine (range_any B _ 0 2 w2 HS.out (by omega) (by omega) (by omega) (by omega)).mono ?_
      rintro e v10 ⟨⟨z0, rfl, _, _⟩, hst, hmt⟩
      replace HS := Lib.hid hst
      replace HM := Lib.hid (HM.out.trans (hmt.mono fun _ _ h => .inl h))
      replace HH := Lib.hid ((hmt.block g (lt_of_heap HH.out) (by show ¬ g = B; omega)).trans HH.out)
      clear hst hmt
      have s0 : v10.cell? ⟨g, 0, none⟩ = some (.int .i64 9) := cell_of HH.out (i := 0) rfl
      have s1 : v10.cell? ⟨g, 1, none⟩ = some (.int .i64 0) := cell_of HH.out (i := 1) rfl
      have s2 : v10.cell? ⟨g, 2, none⟩ = some (.int .i64 0) := cell_of HH.out (i := 2) rfl
      have s3 : v10.cell? ⟨g, 3, none⟩ = some (.int .i64 0) := cell_of HH.out (i := 3) rfl
      have s4 : v10.cell? ⟨g, 4, none⟩ = some (.int .i64 0) := cell_of HH.out (i := 4) rfl
      have s5 : v10.cell? ⟨g, 5, none⟩ = some (.int .i64 0) := cell_of HH.out (i := 5) rfl
      have fg := fun i => frozen_of (i := i) HH.out
      go_wp2_with (fail)
      have hm9 : Mut (· = g) v10 (v10.setCell ⟨g, 5, none⟩ (.int .i64 z0)) := Mut.setCell (p := ⟨g, 5, none⟩) (Mut.refl (· = g) v10) (fun _ => rfl) _
      have hh9 : (v10.setCell ⟨g, 5, none⟩ (.int .i64 z0)).heap[g]? = some (.cells #[.int .i64 9, .int .i64 0, .int .i64 0, .int .i64 0, .int .i64 0, .int .i64 z0] 36 (0, 0)) := (cells_set (i := 5) HH.out (.int .i64 z0)).trans (by simp only [List.setIfInBounds_toArray, List.set_cons_zero, List.set_cons_succ])
      go_meet
      exact ⟨⟨9, 0, 0, 0, 0, z0⟩, hh9, (HS.out.kept hm9 (fun x hx e => by omega)).more (by omega) (by omega), HM.out.after hm9 (fun x hx h => .inr h)⟩
    go_wp2_with (fail)
    go_meet
    exact ⟨⟨z, 0, 0, 0, 0, 0⟩, HH.out, HS.out.more (by omega) (by omega), HM.out⟩
  case rest =>
    obtain ⟨s, hh, hst, hmt⟩ := hcut
    replace HH := Lib.hid hh
    replace HS := Lib.hid hst
    replace HR := Lib.hid (heap_mut HR.out hmt (by omega))
    replace HM := Lib.hid (HM.out.after hmt (fun x hx h => by have := HRW.out; omega))
    clear hh hst hmt
    go_wp2_with (fail)
    refine (flip_any B _ 80 wc HS.out (by omega) (by omega) (by omega)).mono ?_
    rintro e x1 ⟨⟨b, rfl⟩, hst, hmt⟩
    replace HS := Lib.hid hst
    replace HM := Lib.hid (HM.out.trans (hmt.mono fun _ _ h => h))
    replace HH := Lib.hid ((hmt.block g (lt_of_heap HH.out) (by show ¬ g = B; omega)).trans HH.out)
    replace HR := Lib.hid ((hmt.block r0 (lt_of_heap HR.out) (by show ¬ r0 = B; omega)).trans HR.out)
    clear hst hmt
    rcases b with _ | _
    · have s0 : x1.cell? ⟨g, 0, none⟩ = some (.int .i64 s.k) := cell_of HH.out (i := 0) rfl
      have s1 : x1.cell? ⟨g, 1, none⟩ = some (.int .i64 s.x) := cell_of HH.out (i := 1) rfl
      have s2 : x1.cell? ⟨g, 2, none⟩ = some (.int .i64 s.y) := cell_of HH.out (i := 2) rfl
      have s3 : x1.cell? ⟨g, 3, none⟩ = some (.int .i64 s.z) := cell_of HH.out (i := 3) rfl
      have s4 : x1.cell? ⟨g, 4, none⟩ = some (.int .i64 s.f) := cell_of HH.out (i := 4) rfl
      have s5 : x1.cell? ⟨g, 5, none⟩ = some (.int .i64 s.n) := cell_of HH.out (i := 5) rfl
      have fg := fun i => frozen_of (i := i) HH.out
      have e0 : x1.cell? ⟨r0, 0, none⟩ = some (.int .i64 0) := cell_of HR.out (i := 0) rfl
      have e1 : x1.cell? ⟨r0, 1, none⟩ = some (.int .i64 0) := cell_of HR.out (i := 1) rfl
      have e2 : x1.cell? ⟨r0, 2, none⟩ = some (.int .i64 0) := cell_of HR.out (i := 2) rfl
      have e3 : x1.cell? ⟨r0, 3, none⟩ = some (.int .i64 0) := cell_of HR.out (i := 3) rfl
      have e4 : x1.cell? ⟨r0, 4, none⟩ = some (.int .i64 0) := cell_of HR.out (i := 4) rfl
      have e5 : x1.cell? ⟨r0, 5, none⟩ = some (.int .i64 0) := cell_of HR.out (i := 5) rfl
      have fr := fun i => frozen_of (i := i) HR.out
      go_wp2_with (fail)
      have hm9 : Mut (· = r0) x1 ((((((x1.setCell ⟨r0, 0, none⟩ (.int .i64 s.k)).setCell ⟨r0, 1, none⟩ (.int .i64 s.x)).setCell ⟨r0, 2, none⟩ (.int .i64 s.y)).setCell ⟨r0, 3, none⟩ (.int .i64 s.z)).setCell ⟨r0, 4, none⟩ (.int .i64 s.f)).setCell ⟨r0, 5, none⟩ (.int .i64 s.n)) := Mut.setCell (p := ⟨r0, 5, none⟩) (Mut.setCell (p := ⟨r0, 4, none⟩) (Mut.setCell (p := ⟨r0, 3, none⟩) (Mut.setCell (p := ⟨r0, 2, none⟩) (Mut.setCell (p := ⟨r0, 1, none⟩) (Mut.setCell (p := ⟨r0, 0, none⟩) (Mut.refl (· = r0) x1) (fun _ => rfl) _) (fun _ => rfl) _) (fun _ => rfl) _) (fun _ => rfl) _) (fun _ => rfl) _) (fun _ => rfl) _
      have hh9 : ((((((x1.setCell ⟨r0, 0, none⟩ (.int .i64 s.k)).setCell ⟨r0, 1, none⟩ (.int .i64 s.x)).setCell ⟨r0, 2, none⟩ (.int .i64 s.y)).setCell ⟨r0, 3, none⟩ (.int .i64 s.z)).setCell ⟨r0, 4, none⟩ (.int .i64 s.f)).setCell ⟨r0, 5, none⟩ (.int .i64 s.n)).heap[r0]? = some (.cells #[.int .i64 s.k, .int .i64 s.x, .int .i64 s.y, .int .i64 s.z, .int .i64 s.f, .int .i64 s.n] 36 (0, 0)) := (cells_set (i := 5) (cells_set (i := 4) (cells_set (i := 3) (cells_set (i := 2) (cells_set (i := 1) (cells_set (i := 0) HR.out (.int .i64 s.k)) (.int .i64 s.x)) (.int .i64 s.y)) (.int .i64 s.z)) (.int .i64 s.f)) (.int .i64 s.n)).trans (by simp only [List.setIfInBounds_toArray, List.set_cons_zero, List.set_cons_succ])
      generalize ((((((x1.setCell ⟨r0, 0, none⟩ (.int .i64 s.k)).setCell ⟨r0, 1, none⟩ (.int .i64 s.x)).setCell ⟨r0, 2, none⟩ (.int .i64 s.y)).setCell ⟨r0, 3, none⟩ (.int .i64 s.z)).setCell ⟨r0, 4, none⟩ (.int .i64 s.f)).setCell ⟨r0, 5, none⟩ (.int .i64 s.n)) = w9 at *
      have d0 : w9.cell? ⟨r0, 0, none⟩ = some (.int .i64 s.k) := cell_of hh9 (i := 0) rfl
      have d1 : w9.cell? ⟨r0, 1, none⟩ = some (.int .i64 s.x) := cell_of hh9 (i := 1) rfl
      have d2 : w9.cell? ⟨r0, 2, none⟩ = some (.int .i64 s.y) := cell_of hh9 (i := 2) rfl
      have d3 : w9.cell? ⟨r0, 3, none⟩ = some (.int .i64 s.z) := cell_of hh9 (i := 3) rfl
      have d4 : w9.cell? ⟨r0, 4, none⟩ = some (.int .i64 s.f) := cell_of hh9 (i := 4) rfl
      have d5 : w9.cell? ⟨r0, 5, none⟩ = some (.int .i64 s.n) := cell_of hh9 (i := 5) rfl
      exact bodyPost_ret (v := .agg #[.int .i64 s.k, .int .i64 s.x, .int .i64 s.y, .int .i64 s.z, .int .i64 s.f, .int .i64 s.n]) (by simp [results, Try.results22, go_sem, d0, d1, d2, d3, d4, d5]) rfl ⟨⟨s.k, s.x, s.y, s.z, s.f, s.n⟩, rfl, (HS.out.kept hm9 (fun x hx e => by omega)).more (by omega) (by omega), HM.out.after hm9 (fun x hx h => by have := HRW.out; omega)⟩
    · go_wp2_with (fail)
      refine (next_any B _ 4 x1 HS.out (by omega) (by omega) (by omega)).mono ?_
      rintro e x2 ⟨⟨r, rfl, hr0, hr1⟩, hst, hmt⟩
      replace HS := Lib.hid hst
      replace HM := Lib.hid (HM.out.trans (hmt.mono fun _ _ h => h))
      replace HH := Lib.hid ((hmt.block g (lt_of_heap HH.out) (by show ¬ g = B; omega)).trans HH.out)
      replace HR := Lib.hid ((hmt.block r0 (lt_of_heap HR.out) (by show ¬ r0 = B; omega)).trans HR.out)
      clear hst hmt
      by_cases h0 : r = 0
      · subst h0
        go_wp2_with (fail)
        refine (oddG_any B _ 1 9 x2 HS.out (by omega) (by omega) (by omega) (by omega)).mono ?_
        rintro e x3 ⟨⟨y, rfl, _⟩, hst, hmt⟩
        replace HS := Lib.hid hst
        replace HM := Lib.hid (HM.out.trans (hmt.mono fun _ _ h => h))
        replace HH := Lib.hid ((hmt.block g (lt_of_heap HH.out) (by show ¬ g = B; omega)).trans HH.out)
        replace HR := Lib.hid ((hmt.block r0 (lt_of_heap HR.out) (by show ¬ r0 = B; omega)).trans HR.out)
        clear hst hmt
        have s0 : x3.cell? ⟨g, 0, none⟩ = some (.int .i64 s.k) := cell_of HH.out (i := 0) rfl
        have s1 : x3.cell? ⟨g, 1, none⟩ = some (.int .i64 s.x) := cell_of HH.out (i := 1) rfl
        have s2 : x3.cell? ⟨g, 2, none⟩ = some (.int .i64 s.y) := cell_of HH.out (i := 2) rfl
        have s3 : x3.cell? ⟨g, 3, none⟩ = some (.int .i64 s.z) := cell_of HH.out (i := 3) rfl
        have s4 : x3.cell? ⟨g, 4, none⟩ = some (.int .i64 s.f) := cell_of HH.out (i := 4) rfl
        have s5 : x3.cell? ⟨g, 5, none⟩ = some (.int .i64 s.n) := cell_of HH.out (i := 5) rfl
        have fg := fun i => frozen_of (i := i) HH.out
        go_upto_region 26 with (fail)
        have hm8 : Mut (· = g) x3 (x3.setCell ⟨g, 0, none⟩ (.int .i64 y)) := Mut.setCell (p := ⟨g, 0, none⟩) (Mut.refl (· = g) x3) (fun _ => rfl) _
        have hh8 : (x3.setCell ⟨g, 0, none⟩ (.int .i64 y)).heap[g]? = some (.cells #[.int .i64 y, .int .i64 s.x, .int .i64 s.y, .int .i64 s.z, .int .i64 s.f, .int .i64 s.n] 36 (0, 0)) := (cells_set (i := 0) HH.out (.int .i64 y)).trans (by simp only [List.setIfInBounds_toArray, List.set_cons_zero, List.set_cons_succ])
        generalize (x3.setCell ⟨g, 0, none⟩ (.int .i64 y)) = w8 at *
        replace HH := Lib.hid hh8
        replace HR := Lib.hid (heap_mut HR.out hm8 (by omega))
        replace HS := Lib.hid (HS.out.kept hm8 (fun x hx e => by omega))
        replace HM := Lib.hid (HM.out.after hm8 (fun x hx h => by have := HRW.out; omega))
        clear hm8 hh8 s0 s1 s2 s3 s4 s5 fg
        have s0 : w8.cell? ⟨g, 0, none⟩ = some (.int .i64 y) := cell_of HH.out (i := 0) rfl
        have s1 : w8.cell? ⟨g, 1, none⟩ = some (.int .i64 s.x) := cell_of HH.out (i := 1) rfl
        have s2 : w8.cell? ⟨g, 2, none⟩ = some (.int .i64 s.y) := cell_of HH.out (i := 2) rfl
        have s3 : w8.cell? ⟨g, 3, none⟩ = some (.int .i64 s.z) := cell_of HH.out (i := 3) rfl
        have s4 : w8.cell? ⟨g, 4, none⟩ = some (.int .i64 s.f) := cell_of HH.out (i := 4) rfl
        have s5 : w8.cell? ⟨g, 5, none⟩ = some (.int .i64 s.n) := cell_of HH.out (i := 5) rfl
        have fg := fun i => frozen_of (i := i) HH.out
        have e0 : w8.cell? ⟨r0, 0, none⟩ = some (.int .i64 0) := cell_of HR.out (i := 0) rfl
        have e1 : w8.cell? ⟨r0, 1, none⟩ = some (.int .i64 0) := cell_of HR.out (i := 1) rfl
        have e2 : w8.cell? ⟨r0, 2, none⟩ = some (.int .i64 0) := cell_of HR.out (i := 2) rfl
        have e3 : w8.cell? ⟨r0, 3, none⟩ = some (.int .i64 0) := cell_of HR.out (i := 3) rfl
        have e4 : w8.cell? ⟨r0, 4, none⟩ = some (.int .i64 0) := cell_of HR.out (i := 4) rfl
        have e5 : w8.cell? ⟨r0, 5, none⟩ = some (.int .i64 0) := cell_of HR.out (i := 5) rfl
        have fr := fun i => frozen_of (i := i) HR.out
        go_wp2_with (fail)
        have hm9 : Mut (· = r0) w8 ((((((w8.setCell ⟨r0, 0, none⟩ (.int .i64 y)).setCell ⟨r0, 1, none⟩ (.int .i64 s.x)).setCell ⟨r0, 2, none⟩ (.int .i64 s.y)).setCell ⟨r0, 3, none⟩ (.int .i64 s.z)).setCell ⟨r0, 4, none⟩ (.int .i64 s.f)).setCell ⟨r0, 5, none⟩ (.int .i64 s.n)) := Mut.setCell (p := ⟨r0, 5, none⟩) (Mut.setCell (p := ⟨r0, 4, none⟩) (Mut.setCell (p := ⟨r0, 3, none⟩) (Mut.setCell (p := ⟨r0, 2, none⟩) (Mut.setCell (p := ⟨r0, 1, none⟩) (Mut.setCell (p := ⟨r0, 0, none⟩) (Mut.refl (· = r0) w8) (fun _ => rfl) _) (fun _ => rfl) _) (fun _ => rfl) _) (fun _ => rfl) _) (fun _ => rfl) _) (fun _ => rfl) _
        have hh9 : ((((((w8.setCell ⟨r0, 0, none⟩ (.int .i64 y)).setCell ⟨r0, 1, none⟩ (.int .i64 s.x)).setCell ⟨r0, 2, none⟩ (.int .i64 s.y)).setCell ⟨r0, 3, none⟩ (.int .i64 s.z)).setCell ⟨r0, 4, none⟩ (.int .i64 s.f)).setCell ⟨r0, 5, none⟩ (.int .i64 s.n)).heap[r0]? = some (.cells #[.int .i64 y, .int .i64 s.x, .int .i64 s.y, .int .i64 s.z, .int .i64 s.f, .int .i64 s.n] 36 (0, 0)) := (cells_set (i := 5) (cells_set (i := 4) (cells_set (i := 3) (cells_set (i := 2) (cells_set (i := 1) (cells_set (i := 0) HR.out (.int .i64 y)) (.int .i64 s.x)) (.int .i64 s.y)) (.int .i64 s.z)) (.int .i64 s.f)) (.int .i64 s.n)).trans (by simp only [List.setIfInBounds_toArray, List.set_cons_zero, List.set_cons_succ])
        generalize ((((((w8.setCell ⟨r0, 0, none⟩ (.int .i64 y)).setCell ⟨r0, 1, none⟩ (.int .i64 s.x)).setCell ⟨r0, 2, none⟩ (.int .i64 s.y)).setCell ⟨r0, 3, none⟩ (.int .i64 s.z)).setCell ⟨r0, 4, none⟩ (.int .i64 s.f)).setCell ⟨r0, 5, none⟩ (.int .i64 s.n)) = w9 at *
        have d0 : w9.cell? ⟨r0, 0, none⟩ = some (.int .i64 y) := cell_of hh9 (i := 0) rfl
        have d1 : w9.cell? ⟨r0, 1, none⟩ = some (.int .i64 s.x) := cell_of hh9 (i := 1) rfl
        have d2 : w9.cell? ⟨r0, 2, none⟩ = some (.int .i64 s.y) := cell_of hh9 (i := 2) rfl
        have d3 : w9.cell? ⟨r0, 3, none⟩ = some (.int .i64 s.z) := cell_of hh9 (i := 3) rfl
        have d4 : w9.cell? ⟨r0, 4, none⟩ = some (.int .i64 s.f) := cell_of hh9 (i := 4) rfl
        have d5 : w9.cell? ⟨r0, 5, none⟩ = some (.int .i64 s.n) := cell_of hh9 (i := 5) rfl
        exact bodyPost_ret (v := .agg #[.int .i64 y, .int .i64 s.x, .int .i64 s.y, .int .i64 s.z, .int .i64 s.f, .int .i64 s.n]) (by simp [results, Try.results22, go_sem, d0, d1, d2, d3, d4, d5]) rfl ⟨⟨y, s.x, s.y, s.z, s.f, s.n⟩, rfl, (HS.out.kept hm9 (fun x hx e => by omega)).more (by omega) (by omega), HM.out.after hm9 (fun x hx h => by have := HRW.out; omega)⟩
      by_cases h1 : r = 1
      · subst h1
        have s0 : x2.cell? ⟨g, 0, none⟩ = some (.int .i64 s.k) := cell_of HH.out (i := 0) rfl
        have s1 : x2.cell? ⟨g, 1, none⟩ = some (.int .i64 s.x) := cell_of HH.out (i := 1) rfl
        have s2 : x2.cell? ⟨g, 2, none⟩ = some (.int .i64 s.y) := cell_of HH.out (i := 2) rfl
        have s3 : x2.cell? ⟨g, 3, none⟩ = some (.int .i64 s.z) := cell_of HH.out (i := 3) rfl
        have s4 : x2.cell? ⟨g, 4, none⟩ = some (.int .i64 s.f) := cell_of HH.out (i := 4) rfl
        have s5 : x2.cell? ⟨g, 5, none⟩ = some (.int .i64 s.n) := cell_of HH.out (i := 5) rfl
        have fg := fun i => frozen_of (i := i) HH.out
        go_upto_region 23 with (fail)
        have HHX := Lib.hid HH.out
        have HMX := Lib.hid HM.out
        have HRX := Lib.hid HR.out
        have lgx := lt_of_heap HH.out
        have ngb : ¬ g = B := by omega
        refine wp_region_held_drew (S := (fun _ => True)) (by kernel_rfl) True.intro (fun hHeld => ?_)
        refine tkH (by assumption) 0 (oi := ?_) (v := ?_) ?_ ?_ ?_ ?_ ?_ ?_ ?_ ?_; rotate_left 2; (simp only [gA, gB, gC]; exact rfl); kernel_rfl; kernel_rfl; kernel_rfl; exact fun _ _ _ h => h; rfl; (intro w' hSw; (try dsimp only at hSw); go_simp; with_reducible rfl); simp only [Act.put, pB, pC, pD]
        refine tkH (by assumption) 1 (oi := ?_) (v := ?_) ?_ ?_ ?_ ?_ ?_ ?_ ?_ ?_; rotate_left 2; (simp only [gA, gB, gC]; exact rfl); kernel_rfl; kernel_rfl; kernel_rfl; exact fun _ _ _ h => h; rfl; (intro w' hSw; (try dsimp only at hSw); go_simp; with_reducible rfl); simp only [Act.put, pB, pC, pD]
        refine tkH (by assumption) 5 (oi := ?_) (v := ?_) ?_ ?_ ?_ ?_ ?_ ?_ ?_ ?_; rotate_left 2; (simp only [gA, gB, gC]; exact rfl); kernel_rfl; kernel_rfl; kernel_rfl; exact fun _ _ _ h => h; rfl; (intro w' hSw; (try dsimp only at hSw); go_simp; with_reducible rfl); simp only [Act.put, pB, pC, pD]
        refine tkH (by assumption) 6 (oi := ?_) (v := ?_) ?_ ?_ ?_ ?_ ?_ ?_ ?_ ?_; rotate_left 2; (simp only [gA, gB, gC]; exact rfl); kernel_rfl; kernel_rfl; kernel_rfl; exact fun _ _ _ h => h; rfl; (intro w' hSw; (try dsimp only at hSw); go_simp; with_reducible rfl); simp only [Act.put, pB, pC, pD]
        clear hHeld s0 s1 s2 s3 s4 s5 fg
        refine absH (fun G A hG hA => ?_)
        suffices h_2_3_4_7_8_9 : ∀ (g3 : Nat) (z4 : Int) (g8 : Nat) (z9 : Int) (W : World), Hid (Strm W B ((k + 4 + 1 + 1) + 2)) → Hid (Mut (· = B) x2 W) → G 3 #[true, true, true, true, true, true, true, true, true, true, true, false, false, false] (((((((A.put (some 80) (.int .i64 s.x)).put (some 81) (.slice (some ⟨g3, 0, none⟩) 3 3)).put (some 82) (.int .i64 z4)).put (some 85) (.int .i64 s.y)).put (some 86) (.slice (some ⟨g8, 0, none⟩) 2 2)).put (some 87) (.int .i64 z9)).put (some 88) (.pointer (some ⟨g, 1, none⟩))) W by
          have h_2_3_4_7_8 : ∀ (g3 : Nat) (z4 : Int) (g8 : Nat) (W : World), Hid (Strm W B ((k + 4 + 1 + 1) + 1)) → Hid (Mut (· = B) x2 W) → Hid (W.heap[g8]? = some (.cells #[.int .i64 s.y, .int .i64 (-200001)] 3 (0, 0))) → B < g8 → G 4 #[true, true, true, true, true, true, true, true, true, false, true, false, false, false] ((((((A.put (some 80) (.int .i64 s.x)).put (some 81) (.slice (some ⟨g3, 0, none⟩) 3 3)).put (some 82) (.int .i64 z4)).put (some 85) (.int .i64 s.y)).put (some 86) (.slice (some ⟨g8, 0, none⟩) 2 2)).put (some 88) (.pointer (some ⟨g, 1, none⟩))) W := by
            intro g3 z4 g8 W HS HM HG8 hb8
            subst hA
            rw [hG]
            simp only [Act.put, pB, pC, pD]
            have hlW := HS.out.lt
            refine wpAnyH_ready (rs := [9]) (by kernel_rfl) (by simp) ?_
            refine coH 9 (oi := ?_) ?_ ?_ (fun K hK => ?_) ?_; rotate_left; (simp only [gA, gB, gC]; exact rfl); rfl
            · go_wp2_with (fail)
              refine (pick_any B _ g8 2 2 (fun _ => True) W HS.out (by omega) (by omega) (by omega) (by omega) (lt_of_heap HG8.out) (by
                intro i hi
                match i, hi with
                | 0, _ => exact ⟨_, cell_of HG8.out (i := 0) rfl, trivial⟩
                | 1, _ => exact ⟨_, cell_of HG8.out (i := 1) rfl, trivial⟩
                | j + 2, h => omega)).mono ?_
              rintro e Wn ⟨⟨z9, rfl, _⟩, hst, hmt⟩
              have HSn := Lib.hid hst
              have HMn := Lib.hid (HM.out.trans (hmt.mono fun _ _ h => h))
              clear hst hmt
              refine hK.out _ _ True.intro (fun hHeldN => ?_)
              clear hK K
              try simp only [Act.put, pB, pC, pD]
              refine listedEq (l' := #[true, true, true, true, true, true, true, true, true, true, true, false, false, false]) (by kernel_rfl) ?_
              have h := h_2_3_4_7_8_9 g3 z4 g8 z9 Wn HSn HMn
              rw [hG] at h
              simp only [Act.put, pB, pC, pD] at h
              exact h
            exact AllReadyH.nil
          have h_2_3_4_7 : ∀ (g3 : Nat) (z4 : Int) (W : World), Hid (Strm W B ((k + 4 + 1 + 1) + 1)) → Hid (Mut (· = B) x2 W) → G 5 #[true, true, true, true, true, true, true, true, false, false, true, false, false, false] (((((A.put (some 80) (.int .i64 s.x)).put (some 81) (.slice (some ⟨g3, 0, none⟩) 3 3)).put (some 82) (.int .i64 z4)).put (some 85) (.int .i64 s.y)).put (some 88) (.pointer (some ⟨g, 1, none⟩))) W := by
            intro g3 z4 W HS HM
            subst hA
            rw [hG]
            simp only [Act.put, pB, pC, pD]
            have hlW := HS.out.lt
            refine wpAnyH_ready (rs := [8]) (by kernel_rfl) (by simp) ?_
            refine coH 8 (oi := ?_) ?_ ?_ (fun K hK => ?_) ?_; rotate_left; (simp only [gA, gB, gC]; exact rfl); rfl
            · go_wp2_with (fail)
              have HSn := Lib.hid (HS.out.alloc (.cells #[.int .i64 s.y, .int .i64 (-200001)] 3))
              have HMn := Lib.hid (HM.out.alloc (.cells #[.int .i64 s.y, .int .i64 (-200001)] 3))
              have HGn := Lib.hid (heap_alloc_new W (.cells #[.int .i64 s.y, .int .i64 (-200001)] 3))
              refine hK.out _ _ True.intro (fun hHeldN => ?_)
              clear hK K
              try simp only [Act.put, pB, pC, pD]
              refine listedEq (l' := #[true, true, true, true, true, true, true, true, true, false, true, false, false, false]) (by kernel_rfl) ?_
              have h := h_2_3_4_7_8 g3 z4 W.heap.size (W.alloc (.cells #[.int .i64 s.y, .int .i64 (-200001)] 3)) HSn HMn HGn hlW
              rw [hG] at h
              simp only [Act.put, pB, pC, pD] at h
              exact h
            exact AllReadyH.nil
          have h_2_3_7_8 : ∀ (g3 : Nat) (g8 : Nat) (W : World), Hid (Strm W B ((k + 4 + 1 + 1) + 0)) → Hid (Mut (· = B) x2 W) → Hid (W.heap[g3]? = some (.cells #[.int .i64 200000, .int .i64 200001, .int .i64 s.x] 3 (0, 0))) → B < g3 → Hid (W.heap[g8]? = some (.cells #[.int .i64 s.y, .int .i64 (-200001)] 3 (0, 0))) → B < g8 → G 6 #[true, true, true, true, false, true, true, true, true, false, false, false, false, false] ((((A.put (some 80) (.int .i64 s.x)).put (some 81) (.slice (some ⟨g3, 0, none⟩) 3 3)).put (some 85) (.int .i64 s.y)).put (some 86) (.slice (some ⟨g8, 0, none⟩) 2 2)) W := by
            intro g3 g8 W HS HM HG3 hb3 HG8 hb8
            subst hA
            rw [hG]
            simp only [Act.put, pB, pC, pD]
            have hlW := HS.out.lt
            refine wpAnyH_ready (rs := [4]) (by kernel_rfl) (by simp) ?_
            refine coH 4 (oi := ?_) ?_ ?_ (fun K hK => ?_) ?_; rotate_left; (simp only [gA, gB, gC]; exact rfl); rfl
            · go_wp2_with (fail)
              refine (pick_any B _ g3 3 3 (fun _ => True) W HS.out (by omega) (by omega) (by omega) (by omega) (lt_of_heap HG3.out) (by
                intro i hi
                match i, hi with
                | 0, _ => exact ⟨_, cell_of HG3.out (i := 0) rfl, trivial⟩
                | 1, _ => exact ⟨_, cell_of HG3.out (i := 1) rfl, trivial⟩
                | 2, _ => exact ⟨_, cell_of HG3.out (i := 2) rfl, trivial⟩
                | j + 3, h => omega)).mono ?_
              rintro e Wn ⟨⟨z4, rfl, _⟩, hst, hmt⟩
              have HSn := Lib.hid hst
              have HMn := Lib.hid (HM.out.trans (hmt.mono fun _ _ h => h))
              have HK8 := Lib.hid ((hmt.block g8 (lt_of_heap HG8.out) (by show ¬ g8 = B; omega)).trans HG8.out)
              clear hst hmt
              refine hK.out _ _ True.intro (fun hHeldN => ?_)
              clear hK K
              try simp only [Act.put, pB, pC, pD]
              refine tkH True.intro 10 (oi := ?_) (v := ?_) ?_ ?_ ?_ ?_ ?_ ?_ ?_ ?_; rotate_left 2; (simp only [gA, gB, gC]; exact rfl); kernel_rfl; kernel_rfl; kernel_rfl; exact fun _ _ _ h => h; rfl; (intro w' hSw; go_simp; with_reducible rfl); simp only [Act.put, pB, pC, pD]
              refine listedEq (l' := #[true, true, true, true, true, true, true, true, true, false, true, false, false, false]) (by kernel_rfl) ?_
              have h := h_2_3_4_7_8 g3 z4 g8 Wn HSn HMn HK8 hb8
              rw [hG] at h
              simp only [Act.put, pB, pC, pD] at h
              exact h
            exact AllReadyH.nil
          have h_2_3_4 : ∀ (g3 : Nat) (z4 : Int) (W : World), Hid (Strm W B ((k + 4 + 1 + 1) + 1)) → Hid (Mut (· = B) x2 W) → G 7 #[true, true, true, true, true, true, true, false, false, false, false, false, false, false] (((A.put (some 80) (.int .i64 s.x)).put (some 81) (.slice (some ⟨g3, 0, none⟩) 3 3)).put (some 82) (.int .i64 z4)) W := by
            intro g3 z4 W HS HM
            subst hA
            rw [hG]
            simp only [Act.put, pB, pC, pD]
            have hlW := HS.out.lt
            refine wpAnyH_ready (rs := [7]) (by kernel_rfl) (by simp) ?_
            refine coH 7 (oi := ?_) ?_ ?_ (fun K hK => ?_) ?_; rotate_left; (simp only [gA, gB, gC]; exact rfl); rfl
            · have cx : W.cell? ⟨g, 2, none⟩ = some (.int .i64 s.y) := cell_of ((HM.out.block g lgx ngb).trans HHX.out) (i := 2) rfl
              go_wp2_with (fail)
              have HSn := HS
              have HMn := HM
              refine hK.out _ _ True.intro (fun hHeldN => ?_)
              clear hK K
              try simp only [Act.put, pB, pC, pD]
              refine tkH True.intro 10 (oi := ?_) (v := ?_) ?_ ?_ ?_ ?_ ?_ ?_ ?_ ?_; rotate_left 2; (simp only [gA, gB, gC]; exact rfl); kernel_rfl; kernel_rfl; kernel_rfl; exact fun _ _ _ h => h; rfl; (intro w' hSw; go_simp; with_reducible rfl); simp only [Act.put, pB, pC, pD]
              refine listedEq (l' := #[true, true, true, true, true, true, true, true, false, false, true, false, false, false]) (by kernel_rfl) ?_
              have h := h_2_3_4_7 g3 z4 W HSn HMn
              rw [hG] at h
              simp only [Act.put, pB, pC, pD] at h
              exact h
            exact AllReadyH.nil
          have h_2_3_7 : ∀ (g3 : Nat) (W : World), Hid (Strm W B ((k + 4 + 1 + 1) + 0)) → Hid (Mut (· = B) x2 W) → Hid (W.heap[g3]? = some (.cells #[.int .i64 200000, .int .i64 200001, .int .i64 s.x] 3 (0, 0))) → B < g3 → G 7 #[true, true, true, true, false, true, true, true, false, false, false, false, false, false] (((A.put (some 80) (.int .i64 s.x)).put (some 81) (.slice (some ⟨g3, 0, none⟩) 3 3)).put (some 85) (.int .i64 s.y)) W := by
            intro g3 W HS HM HG3 hb3
            subst hA
            rw [hG]
            simp only [Act.put, pB, pC, pD]
            have hlW := HS.out.lt
            refine wpAnyH_ready (rs := [4, 8]) (by kernel_rfl) (by simp) ?_
            refine coH 4 (oi := ?_) ?_ ?_ (fun K hK => ?_) ?_; rotate_left; (simp only [gA, gB, gC]; exact rfl); rfl
            · go_wp2_with (fail)
              refine (pick_any B _ g3 3 3 (fun _ => True) W HS.out (by omega) (by omega) (by omega) (by omega) (lt_of_heap HG3.out) (by
                intro i hi
                match i, hi with
                | 0, _ => exact ⟨_, cell_of HG3.out (i := 0) rfl, trivial⟩
                | 1, _ => exact ⟨_, cell_of HG3.out (i := 1) rfl, trivial⟩
                | 2, _ => exact ⟨_, cell_of HG3.out (i := 2) rfl, trivial⟩
                | j + 3, h => omega)).mono ?_
              rintro e Wn ⟨⟨z4, rfl, _⟩, hst, hmt⟩
              have HSn := Lib.hid hst
              have HMn := Lib.hid (HM.out.trans (hmt.mono fun _ _ h => h))
              clear hst hmt
              refine hK.out _ _ True.intro (fun hHeldN => ?_)
              clear hK K
              try simp only [Act.put, pB, pC, pD]
              refine tkH True.intro 10 (oi := ?_) (v := ?_) ?_ ?_ ?_ ?_ ?_ ?_ ?_ ?_; rotate_left 2; (simp only [gA, gB, gC]; exact rfl); kernel_rfl; kernel_rfl; kernel_rfl; exact fun _ _ _ h => h; rfl; (intro w' hSw; go_simp; with_reducible rfl); simp only [Act.put, pB, pC, pD]
              refine listedEq (l' := #[true, true, true, true, true, true, true, true, false, false, true, false, false, false]) (by kernel_rfl) ?_
              have h := h_2_3_4_7 g3 z4 Wn HSn HMn
              rw [hG] at h
              simp only [Act.put, pB, pC, pD] at h
              exact h
            refine coH 8 (oi := ?_) ?_ ?_ (fun K hK => ?_) ?_; rotate_left; (simp only [gA, gB, gC]; exact rfl); rfl
            · go_wp2_with (fail)
              have HSn := Lib.hid (HS.out.alloc (.cells #[.int .i64 s.y, .int .i64 (-200001)] 3))
              have HMn := Lib.hid (HM.out.alloc (.cells #[.int .i64 s.y, .int .i64 (-200001)] 3))
              have HGn := Lib.hid (heap_alloc_new W (.cells #[.int .i64 s.y, .int .i64 (-200001)] 3))
              have HK3 := Lib.hid (heap_keep ((Below.refl _ W).alloc (Nat.le_refl _) (.cells #[.int .i64 s.y, .int .i64 (-200001)] 3)) HG3.out)
              refine hK.out _ _ True.intro (fun hHeldN => ?_)
              clear hK K
              try simp only [Act.put, pB, pC, pD]
              refine listedEq (l' := #[true, true, true, true, false, true, true, true, true, false, false, false, false, false]) (by kernel_rfl) ?_
              have h := h_2_3_7_8 g3 W.heap.size (W.alloc (.cells #[.int .i64 s.y, .int .i64 (-200001)] 3)) HSn HMn HK3 hb3 HGn hlW
              rw [hG] at h
              simp only [Act.put, pB, pC, pD] at h
              exact h
            exact AllReadyH.nil
          have h_2_7_8 : ∀ (g8 : Nat) (W : World), Hid (Strm W B ((k + 4 + 1 + 1) + 0)) → Hid (Mut (· = B) x2 W) → Hid (W.heap[g8]? = some (.cells #[.int .i64 s.y, .int .i64 (-200001)] 3 (0, 0))) → B < g8 → G 7 #[true, true, true, false, false, true, true, true, true, false, false, false, false, false] (((A.put (some 80) (.int .i64 s.x)).put (some 85) (.int .i64 s.y)).put (some 86) (.slice (some ⟨g8, 0, none⟩) 2 2)) W := by
            intro g8 W HS HM HG8 hb8
            subst hA
            rw [hG]
            simp only [Act.put, pB, pC, pD]
            have hlW := HS.out.lt
            refine wpAnyH_ready (rs := [3]) (by kernel_rfl) (by simp) ?_
            refine coH 3 (oi := ?_) ?_ ?_ (fun K hK => ?_) ?_; rotate_left; (simp only [gA, gB, gC]; exact rfl); rfl
            · go_wp2_with (fail)
              have HSn := Lib.hid (HS.out.alloc (.cells #[.int .i64 200000, .int .i64 200001, .int .i64 s.x] 3))
              have HMn := Lib.hid (HM.out.alloc (.cells #[.int .i64 200000, .int .i64 200001, .int .i64 s.x] 3))
              have HGn := Lib.hid (heap_alloc_new W (.cells #[.int .i64 200000, .int .i64 200001, .int .i64 s.x] 3))
              have HK8 := Lib.hid (heap_keep ((Below.refl _ W).alloc (Nat.le_refl _) (.cells #[.int .i64 200000, .int .i64 200001, .int .i64 s.x] 3)) HG8.out)
              refine hK.out _ _ True.intro (fun hHeldN => ?_)
              clear hK K
              try simp only [Act.put, pB, pC, pD]
              refine listedEq (l' := #[true, true, true, true, false, true, true, true, true, false, false, false, false, false]) (by kernel_rfl) ?_
              have h := h_2_3_7_8 W.heap.size g8 (W.alloc (.cells #[.int .i64 200000, .int .i64 200001, .int .i64 s.x] 3)) HSn HMn HGn hlW HK8 hb8
              rw [hG] at h
              simp only [Act.put, pB, pC, pD] at h
              exact h
            exact AllReadyH.nil
          have h_2_3 : ∀ (g3 : Nat) (W : World), Hid (Strm W B ((k + 4 + 1 + 1) + 0)) → Hid (Mut (· = B) x2 W) → Hid (W.heap[g3]? = some (.cells #[.int .i64 200000, .int .i64 200001, .int .i64 s.x] 3 (0, 0))) → B < g3 → G 8 #[true, true, true, true, false, true, true, false, false, false, false, false, false, false] ((A.put (some 80) (.int .i64 s.x)).put (some 81) (.slice (some ⟨g3, 0, none⟩) 3 3)) W := by
            intro g3 W HS HM HG3 hb3
            subst hA
            rw [hG]
            simp only [Act.put, pB, pC, pD]
            have hlW := HS.out.lt
            refine wpAnyH_ready (rs := [4, 7]) (by kernel_rfl) (by simp) ?_
            refine coH 4 (oi := ?_) ?_ ?_ (fun K hK => ?_) ?_; rotate_left; (simp only [gA, gB, gC]; exact rfl); rfl
            · go_wp2_with (fail)
              refine (pick_any B _ g3 3 3 (fun _ => True) W HS.out (by omega) (by omega) (by omega) (by omega) (lt_of_heap HG3.out) (by
                intro i hi
                match i, hi with
                | 0, _ => exact ⟨_, cell_of HG3.out (i := 0) rfl, trivial⟩
                | 1, _ => exact ⟨_, cell_of HG3.out (i := 1) rfl, trivial⟩
                | 2, _ => exact ⟨_, cell_of HG3.out (i := 2) rfl, trivial⟩
                | j + 3, h => omega)).mono ?_
              rintro e Wn ⟨⟨z4, rfl, _⟩, hst, hmt⟩
              have HSn := Lib.hid hst
              have HMn := Lib.hid (HM.out.trans (hmt.mono fun _ _ h => h))
              clear hst hmt
              refine hK.out _ _ True.intro (fun hHeldN => ?_)
              clear hK K
              try simp only [Act.put, pB, pC, pD]
              refine listedEq (l' := #[true, true, true, true, true, true, true, false, false, false, false, false, false, false]) (by kernel_rfl) ?_
              have h := h_2_3_4 g3 z4 Wn HSn HMn
              rw [hG] at h
              simp only [Act.put, pB, pC, pD] at h
              exact h
            refine coH 7 (oi := ?_) ?_ ?_ (fun K hK => ?_) ?_; rotate_left; (simp only [gA, gB, gC]; exact rfl); rfl
            · have cx : W.cell? ⟨g, 2, none⟩ = some (.int .i64 s.y) := cell_of ((HM.out.block g lgx ngb).trans HHX.out) (i := 2) rfl
              go_wp2_with (fail)
              have HSn := HS
              have HMn := HM
              refine hK.out _ _ True.intro (fun hHeldN => ?_)
              clear hK K
              try simp only [Act.put, pB, pC, pD]
              refine listedEq (l' := #[true, true, true, true, false, true, true, true, false, false, false, false, false, false]) (by kernel_rfl) ?_
              have h := h_2_3_7 g3 W HSn HMn HG3 hb3
              rw [hG] at h
              simp only [Act.put, pB, pC, pD] at h
              exact h
            exact AllReadyH.nil
          have h_2_7 : ∀  (W : World), Hid (Strm W B ((k + 4 + 1 + 1) + 0)) → Hid (Mut (· = B) x2 W) → G 8 #[true, true, true, false, false, true, true, true, false, false, false, false, false, false] ((A.put (some 80) (.int .i64 s.x)).put (some 85) (.int .i64 s.y)) W := by
            intro W HS HM
            subst hA
            rw [hG]
            simp only [Act.put, pB, pC, pD]
            have hlW := HS.out.lt
            refine wpAnyH_ready (rs := [3, 8]) (by kernel_rfl) (by simp) ?_
            refine coH 3 (oi := ?_) ?_ ?_ (fun K hK => ?_) ?_; rotate_left; (simp only [gA, gB, gC]; exact rfl); rfl
            · go_wp2_with (fail)
              have HSn := Lib.hid (HS.out.alloc (.cells #[.int .i64 200000, .int .i64 200001, .int .i64 s.x] 3))
              have HMn := Lib.hid (HM.out.alloc (.cells #[.int .i64 200000, .int .i64 200001, .int .i64 s.x] 3))
              have HGn := Lib.hid (heap_alloc_new W (.cells #[.int .i64 200000, .int .i64 200001, .int .i64 s.x] 3))
              refine hK.out _ _ True.intro (fun hHeldN => ?_)
              clear hK K
              try simp only [Act.put, pB, pC, pD]
              refine listedEq (l' := #[true, true, true, true, false, true, true, true, false, false, false, false, false, false]) (by kernel_rfl) ?_
              have h := h_2_3_7 W.heap.size (W.alloc (.cells #[.int .i64 200000, .int .i64 200001, .int .i64 s.x] 3)) HSn HMn HGn hlW
              rw [hG] at h
              simp only [Act.put, pB, pC, pD] at h
              exact h
            refine coH 8 (oi := ?_) ?_ ?_ (fun K hK => ?_) ?_; rotate_left; (simp only [gA, gB, gC]; exact rfl); rfl
            · go_wp2_with (fail)
              have HSn := Lib.hid (HS.out.alloc (.cells #[.int .i64 s.y, .int .i64 (-200001)] 3))
              have HMn := Lib.hid (HM.out.alloc (.cells #[.int .i64 s.y, .int .i64 (-200001)] 3))
              have HGn := Lib.hid (heap_alloc_new W (.cells #[.int .i64 s.y, .int .i64 (-200001)] 3))
              refine hK.out _ _ True.intro (fun hHeldN => ?_)
              clear hK K
              try simp only [Act.put, pB, pC, pD]
              refine listedEq (l' := #[true, true, true, false, false, true, true, true, true, false, false, false, false, false]) (by kernel_rfl) ?_
              have h := h_2_7_8 W.heap.size (W.alloc (.cells #[.int .i64 s.y, .int .i64 (-200001)] 3)) HSn HMn HGn hlW
              rw [hG] at h
              simp only [Act.put, pB, pC, pD] at h
              exact h
            exact AllReadyH.nil
          have h_7_8 : ∀ (g8 : Nat) (W : World), Hid (Strm W B ((k + 4 + 1 + 1) + 0)) → Hid (Mut (· = B) x2 W) → Hid (W.heap[g8]? = some (.cells #[.int .i64 s.y, .int .i64 (-200001)] 3 (0, 0))) → B < g8 → G 8 #[true, true, false, false, false, true, true, true, true, false, false, false, false, false] ((A.put (some 85) (.int .i64 s.y)).put (some 86) (.slice (some ⟨g8, 0, none⟩) 2 2)) W := by
            intro g8 W HS HM HG8 hb8
            subst hA
            rw [hG]
            simp only [Act.put, pB, pC, pD]
            have hlW := HS.out.lt
            refine wpAnyH_ready (rs := [2]) (by kernel_rfl) (by simp) ?_
            refine coH 2 (oi := ?_) ?_ ?_ (fun K hK => ?_) ?_; rotate_left; (simp only [gA, gB, gC]; exact rfl); rfl
            · have cx : W.cell? ⟨g, 1, none⟩ = some (.int .i64 s.x) := cell_of ((HM.out.block g lgx ngb).trans HHX.out) (i := 1) rfl
              go_wp2_with (fail)
              have HSn := HS
              have HMn := HM
              refine hK.out _ _ True.intro (fun hHeldN => ?_)
              clear hK K
              try simp only [Act.put, pB, pC, pD]
              refine listedEq (l' := #[true, true, true, false, false, true, true, true, true, false, false, false, false, false]) (by kernel_rfl) ?_
              have h := h_2_7_8 g8 W HSn HMn HG8 hb8
              rw [hG] at h
              simp only [Act.put, pB, pC, pD] at h
              exact h
            exact AllReadyH.nil
          have h_2 : ∀  (W : World), Hid (Strm W B ((k + 4 + 1 + 1) + 0)) → Hid (Mut (· = B) x2 W) → G 9 #[true, true, true, false, false, true, true, false, false, false, false, false, false, false] (A.put (some 80) (.int .i64 s.x)) W := by
            intro W HS HM
            subst hA
            rw [hG]
            simp only [Act.put, pB, pC, pD]
            have hlW := HS.out.lt
            refine wpAnyH_ready (rs := [3, 7]) (by kernel_rfl) (by simp) ?_
            refine coH 3 (oi := ?_) ?_ ?_ (fun K hK => ?_) ?_; rotate_left; (simp only [gA, gB, gC]; exact rfl); rfl
            · go_wp2_with (fail)
              have HSn := Lib.hid (HS.out.alloc (.cells #[.int .i64 200000, .int .i64 200001, .int .i64 s.x] 3))
              have HMn := Lib.hid (HM.out.alloc (.cells #[.int .i64 200000, .int .i64 200001, .int .i64 s.x] 3))
              have HGn := Lib.hid (heap_alloc_new W (.cells #[.int .i64 200000, .int .i64 200001, .int .i64 s.x] 3))
              refine hK.out _ _ True.intro (fun hHeldN => ?_)
              clear hK K
              try simp only [Act.put, pB, pC, pD]
              refine listedEq (l' := #[true, true, true, true, false, true, true, false, false, false, false, false, false, false]) (by kernel_rfl) ?_
              have h := h_2_3 W.heap.size (W.alloc (.cells #[.int .i64 200000, .int .i64 200001, .int .i64 s.x] 3)) HSn HMn HGn hlW
              rw [hG] at h
              simp only [Act.put, pB, pC, pD] at h
              exact h
            refine coH 7 (oi := ?_) ?_ ?_ (fun K hK => ?_) ?_; rotate_left; (simp only [gA, gB, gC]; exact rfl); rfl
            · have cx : W.cell? ⟨g, 2, none⟩ = some (.int .i64 s.y) := cell_of ((HM.out.block g lgx ngb).trans HHX.out) (i := 2) rfl
              go_wp2_with (fail)
              have HSn := HS
              have HMn := HM
              refine hK.out _ _ True.intro (fun hHeldN => ?_)
              clear hK K
              try simp only [Act.put, pB, pC, pD]
              refine listedEq (l' := #[true, true, true, false, false, true, true, true, false, false, false, false, false, false]) (by kernel_rfl) ?_
              have h := h_2_7  W HSn HMn
              rw [hG] at h
              simp only [Act.put, pB, pC, pD] at h
              exact h
            exact AllReadyH.nil
          have h_7 : ∀  (W : World), Hid (Strm W B ((k + 4 + 1 + 1) + 0)) → Hid (Mut (· = B) x2 W) → G 9 #[true, true, false, false, false, true, true, true, false, false, false, false, false, false] (A.put (some 85) (.int .i64 s.y)) W := by
            intro W HS HM
            subst hA
            rw [hG]
            simp only [Act.put, pB, pC, pD]
            have hlW := HS.out.lt
            refine wpAnyH_ready (rs := [2, 8]) (by kernel_rfl) (by simp) ?_
            refine coH 2 (oi := ?_) ?_ ?_ (fun K hK => ?_) ?_; rotate_left; (simp only [gA, gB, gC]; exact rfl); rfl
            · have cx : W.cell? ⟨g, 1, none⟩ = some (.int .i64 s.x) := cell_of ((HM.out.block g lgx ngb).trans HHX.out) (i := 1) rfl
              go_wp2_with (fail)
              have HSn := HS
              have HMn := HM
              refine hK.out _ _ True.intro (fun hHeldN => ?_)
              clear hK K
              try simp only [Act.put, pB, pC, pD]
              refine listedEq (l' := #[true, true, true, false, false, true, true, true, false, false, false, false, false, false]) (by kernel_rfl) ?_
              have h := h_2_7  W HSn HMn
              rw [hG] at h
              simp only [Act.put, pB, pC, pD] at h
              exact h
            refine coH 8 (oi := ?_) ?_ ?_ (fun K hK => ?_) ?_; rotate_left; (simp only [gA, gB, gC]; exact rfl); rfl
            · go_wp2_with (fail)
              have HSn := Lib.hid (HS.out.alloc (.cells #[.int .i64 s.y, .int .i64 (-200001)] 3))
              have HMn := Lib.hid (HM.out.alloc (.cells #[.int .i64 s.y, .int .i64 (-200001)] 3))
              have HGn := Lib.hid (heap_alloc_new W (.cells #[.int .i64 s.y, .int .i64 (-200001)] 3))
              refine hK.out _ _ True.intro (fun hHeldN => ?_)
              clear hK K
              try simp only [Act.put, pB, pC, pD]
              refine listedEq (l' := #[true, true, false, false, false, true, true, true, true, false, false, false, false, false]) (by kernel_rfl) ?_
              have h := h_7_8 W.heap.size (W.alloc (.cells #[.int .i64 s.y, .int .i64 (-200001)] 3)) HSn HMn HGn hlW
              rw [hG] at h
              simp only [Act.put, pB, pC, pD] at h
              exact h
            exact AllReadyH.nil
          have h_0 : ∀  (W : World), Hid (Strm W B ((k + 4 + 1 + 1) + 0)) → Hid (Mut (· = B) x2 W) → G 10 #[true, true, false, false, false, true, true, false, false, false, false, false, false, false] A W := by
            intro W HS HM
            subst hA
            rw [hG]
            have hlW := HS.out.lt
            refine wpAnyH_ready (rs := [2, 7]) (by kernel_rfl) (by simp) ?_
            refine coH 2 (oi := ?_) ?_ ?_ (fun K hK => ?_) ?_; rotate_left; (simp only [gA, gB, gC]; exact rfl); rfl
            · have cx : W.cell? ⟨g, 1, none⟩ = some (.int .i64 s.x) := cell_of ((HM.out.block g lgx ngb).trans HHX.out) (i := 1) rfl
              go_wp2_with (fail)
              have HSn := HS
              have HMn := HM
              refine hK.out _ _ True.intro (fun hHeldN => ?_)
              clear hK K
              try simp only [Act.put, pB, pC, pD]
              refine listedEq (l' := #[true, true, true, false, false, true, true, false, false, false, false, false, false, false]) (by kernel_rfl) ?_
              have h := h_2  W HSn HMn
              rw [hG] at h
              simp only [Act.put, pB, pC, pD] at h
              exact h
            refine coH 7 (oi := ?_) ?_ ?_ (fun K hK => ?_) ?_; rotate_left; (simp only [gA, gB, gC]; exact rfl); rfl
            · have cx : W.cell? ⟨g, 2, none⟩ = some (.int .i64 s.y) := cell_of ((HM.out.block g lgx ngb).trans HHX.out) (i := 2) rfl
              go_wp2_with (fail)
              have HSn := HS
              have HMn := HM
              refine hK.out _ _ True.intro (fun hHeldN => ?_)
              clear hK K
              try simp only [Act.put, pB, pC, pD]
              refine listedEq (l' := #[true, true, false, false, false, true, true, true, false, false, false, false, false, false]) (by kernel_rfl) ?_
              have h := h_7  W HSn HMn
              rw [hG] at h
              simp only [Act.put, pB, pC, pD] at h
              exact h
            exact AllReadyH.nil
          have h := h_0 x2.drew (Lib.hid (StrmG.drew HS.out)) (Lib.hid (Mut.refl (· = B) x2).drew)
          exact h
        intro g3 z4 g8 z9 W HS HM
        subst hA
        rw [hG]
        simp only [Act.put, pB, pC, pD]
        replace HH := Lib.hid ((HM.out.block g lgx ngb).trans HHX.out)
        replace HR := Lib.hid ((HM.out.block r0 (lt_of_heap HRX.out) (by omega)).trans HRX.out)
        replace HM := Lib.hid (HMX.out.trans HM.out)
        have s0 : W.cell? ⟨g, 0, none⟩ = some (.int .i64 s.k) := cell_of HH.out (i := 0) rfl
        have s1 : W.cell? ⟨g, 1, none⟩ = some (.int .i64 s.x) := cell_of HH.out (i := 1) rfl
        have s2 : W.cell? ⟨g, 2, none⟩ = some (.int .i64 s.y) := cell_of HH.out (i := 2) rfl
        have s3 : W.cell? ⟨g, 3, none⟩ = some (.int .i64 s.z) := cell_of HH.out (i := 3) rfl
        have s4 : W.cell? ⟨g, 4, none⟩ = some (.int .i64 s.f) := cell_of HH.out (i := 4) rfl
        have s5 : W.cell? ⟨g, 5, none⟩ = some (.int .i64 s.n) := cell_of HH.out (i := 5) rfl
        have fg := fun i => frozen_of (i := i) HH.out
        refine onH 11 (oi := ?_) (by kernel_rfl) ?_ ?_ (fun K hK => ?_); rotate_left; (simp only [gA, gB, gC]; exact rfl); rfl
        go_wp2_with (fail)
        refine hK.out _ _ True.intro (fun hHeldN => ?_)
        clear hK K
        try simp only [Act.put, pB, pC, pD]
        refine tkH True.intro 12 (oi := ?_) (v := ?_) ?_ ?_ ?_ ?_ ?_ ?_ ?_ ?_; rotate_left 2; (simp only [gA, gB, gC]; exact rfl); kernel_rfl; kernel_rfl; kernel_rfl; exact fun _ _ _ h => h; rfl; (intro w' hSw; go_simp; with_reducible rfl); simp only [Act.put, pB, pC, pD]
        refine onH 13 (oi := ?_) (by kernel_rfl) ?_ ?_ (fun K hK => ?_); rotate_left; (simp only [gA, gB, gC]; exact rfl); rfl
        go_wp2_with (fail)
        refine hK.out _ _ True.intro (fun hHeldN2 => ?_)
        clear hK K
        try simp only [Act.put, pB, pC, pD]
        refine wpAnyH_done (by kernel_rfl) ?_ _
        clear s0 s1 s2 s3 s4 s5 fg
        have s0 : W.cell? ⟨g, 0, none⟩ = some (.int .i64 s.k) := cell_of HH.out (i := 0) rfl
        have s1 : W.cell? ⟨g, 1, none⟩ = some (.int .i64 s.x) := cell_of HH.out (i := 1) rfl
        have s2 : W.cell? ⟨g, 2, none⟩ = some (.int .i64 s.y) := cell_of HH.out (i := 2) rfl
        have s3 : W.cell? ⟨g, 3, none⟩ = some (.int .i64 s.z) := cell_of HH.out (i := 3) rfl
        have s4 : W.cell? ⟨g, 4, none⟩ = some (.int .i64 s.f) := cell_of HH.out (i := 4) rfl
        have s5 : W.cell? ⟨g, 5, none⟩ = some (.int .i64 s.n) := cell_of HH.out (i := 5) rfl
        have fg := fun i => frozen_of (i := i) HH.out
        go_upto_region 26 with (fail)
        have hm8 : Mut (· = g) W ((W.setCell ⟨g, 1, none⟩ (.int .i64 z4)).setCell ⟨g, 2, none⟩ (.int .i64 z9)) := Mut.setCell (p := ⟨g, 2, none⟩) (Mut.setCell (p := ⟨g, 1, none⟩) (Mut.refl (· = g) W) (fun _ => rfl) _) (fun _ => rfl) _
        have hh8 : ((W.setCell ⟨g, 1, none⟩ (.int .i64 z4)).setCell ⟨g, 2, none⟩ (.int .i64 z9)).heap[g]? = some (.cells #[.int .i64 s.k, .int .i64 z4, .int .i64 z9, .int .i64 s.z, .int .i64 s.f, .int .i64 s.n] 36 (0, 0)) := (cells_set (i := 2) (cells_set (i := 1) HH.out (.int .i64 z4)) (.int .i64 z9)).trans (by simp only [List.setIfInBounds_toArray, List.set_cons_zero, List.set_cons_succ])
        generalize ((W.setCell ⟨g, 1, none⟩ (.int .i64 z4)).setCell ⟨g, 2, none⟩ (.int .i64 z9)) = w8 at *
        replace HH := Lib.hid hh8
        replace HR := Lib.hid (heap_mut HR.out hm8 (by omega))
        replace HS := Lib.hid (HS.out.kept hm8 (fun x hx e => by omega))
        replace HM := Lib.hid (HM.out.after hm8 (fun x hx h => by have := HRW.out; omega))
        clear hm8 hh8 s0 s1 s2 s3 s4 s5 fg
        have s0 : w8.cell? ⟨g, 0, none⟩ = some (.int .i64 s.k) := cell_of HH.out (i := 0) rfl
        have s1 : w8.cell? ⟨g, 1, none⟩ = some (.int .i64 z4) := cell_of HH.out (i := 1) rfl
        have s2 : w8.cell? ⟨g, 2, none⟩ = some (.int .i64 z9) := cell_of HH.out (i := 2) rfl
        have s3 : w8.cell? ⟨g, 3, none⟩ = some (.int .i64 s.z) := cell_of HH.out (i := 3) rfl
        have s4 : w8.cell? ⟨g, 4, none⟩ = some (.int .i64 s.f) := cell_of HH.out (i := 4) rfl
        have s5 : w8.cell? ⟨g, 5, none⟩ = some (.int .i64 s.n) := cell_of HH.out (i := 5) rfl
        have fg := fun i => frozen_of (i := i) HH.out
        have e0 : w8.cell? ⟨r0, 0, none⟩ = some (.int .i64 0) := cell_of HR.out (i := 0) rfl
        have e1 : w8.cell? ⟨r0, 1, none⟩ = some (.int .i64 0) := cell_of HR.out (i := 1) rfl
        have e2 : w8.cell? ⟨r0, 2, none⟩ = some (.int .i64 0) := cell_of HR.out (i := 2) rfl
        have e3 : w8.cell? ⟨r0, 3, none⟩ = some (.int .i64 0) := cell_of HR.out (i := 3) rfl
        have e4 : w8.cell? ⟨r0, 4, none⟩ = some (.int .i64 0) := cell_of HR.out (i := 4) rfl
        have e5 : w8.cell? ⟨r0, 5, none⟩ = some (.int .i64 0) := cell_of HR.out (i := 5) rfl
        have fr := fun i => frozen_of (i := i) HR.out
        go_wp2_with (fail)
        have hm9 : Mut (· = r0) w8 ((((((w8.setCell ⟨r0, 0, none⟩ (.int .i64 s.k)).setCell ⟨r0, 1, none⟩ (.int .i64 z4)).setCell ⟨r0, 2, none⟩ (.int .i64 z9)).setCell ⟨r0, 3, none⟩ (.int .i64 s.z)).setCell ⟨r0, 4, none⟩ (.int .i64 s.f)).setCell ⟨r0, 5, none⟩ (.int .i64 s.n)) := Mut.setCell (p := ⟨r0, 5, none⟩) (Mut.setCell (p := ⟨r0, 4, none⟩) (Mut.setCell (p := ⟨r0, 3, none⟩) (Mut.setCell (p := ⟨r0, 2, none⟩) (Mut.setCell (p := ⟨r0, 1, none⟩) (Mut.setCell (p := ⟨r0, 0, none⟩) (Mut.refl (· = r0) w8) (fun _ => rfl) _) (fun _ => rfl) _) (fun _ => rfl) _) (fun _ => rfl) _) (fun _ => rfl) _) (fun _ => rfl) _
        have hh9 : ((((((w8.setCell ⟨r0, 0, none⟩ (.int .i64 s.k)).setCell ⟨r0, 1, none⟩ (.int .i64 z4)).setCell ⟨r0, 2, none⟩ (.int .i64 z9)).setCell ⟨r0, 3, none⟩ (.int .i64 s.z)).setCell ⟨r0, 4, none⟩ (.int .i64 s.f)).setCell ⟨r0, 5, none⟩ (.int .i64 s.n)).heap[r0]? = some (.cells #[.int .i64 s.k, .int .i64 z4, .int .i64 z9, .int .i64 s.z, .int .i64 s.f, .int .i64 s.n] 36 (0, 0)) := (cells_set (i := 5) (cells_set (i := 4) (cells_set (i := 3) (cells_set (i := 2) (cells_set (i := 1) (cells_set (i := 0) HR.out (.int .i64 s.k)) (.int .i64 z4)) (.int .i64 z9)) (.int .i64 s.z)) (.int .i64 s.f)) (.int .i64 s.n)).trans (by simp only [List.setIfInBounds_toArray, List.set_cons_zero, List.set_cons_succ])
        generalize ((((((w8.setCell ⟨r0, 0, none⟩ (.int .i64 s.k)).setCell ⟨r0, 1, none⟩ (.int .i64 z4)).setCell ⟨r0, 2, none⟩ (.int .i64 z9)).setCell ⟨r0, 3, none⟩ (.int .i64 s.z)).setCell ⟨r0, 4, none⟩ (.int .i64 s.f)).setCell ⟨r0, 5, none⟩ (.int .i64 s.n)) = w9 at *
        have d0 : w9.cell? ⟨r0, 0, none⟩ = some (.int .i64 s.k) := cell_of hh9 (i := 0) rfl
        have d1 : w9.cell? ⟨r0, 1, none⟩ = some (.int .i64 z4) := cell_of hh9 (i := 1) rfl
        have d2 : w9.cell? ⟨r0, 2, none⟩ = some (.int .i64 z9) := cell_of hh9 (i := 2) rfl
        have d3 : w9.cell? ⟨r0, 3, none⟩ = some (.int .i64 s.z) := cell_of hh9 (i := 3) rfl
        have d4 : w9.cell? ⟨r0, 4, none⟩ = some (.int .i64 s.f) := cell_of hh9 (i := 4) rfl
        have d5 : w9.cell? ⟨r0, 5, none⟩ = some (.int .i64 s.n) := cell_of hh9 (i := 5) rfl
        exact bodyPost_ret (v := .agg #[.int .i64 s.k, .int .i64 z4, .int .i64 z9, .int .i64 s.z, .int .i64 s.f, .int .i64 s.n]) (by simp [results, Try.results22, go_sem, d0, d1, d2, d3, d4, d5]) rfl ⟨⟨s.k, z4, z9, s.z, s.f, s.n⟩, rfl, (HS.out.kept hm9 (fun x hx e => by omega)).more (by omega) (by omega), HM.out.after hm9 (fun x hx h => by have := HRW.out; omega)⟩
      by_cases h2 : r = 2
      · subst h2
        go_wp2_with (fail)
        refine (oddG_any B _ (-1000000) 1000000 x2 HS.out (by omega) (by omega) (by omega) (by omega)).mono ?_
        rintro e x3 ⟨⟨y, rfl, _⟩, hst, hmt⟩
        replace HS := Lib.hid hst
        replace HM := Lib.hid (HM.out.trans (hmt.mono fun _ _ h => h))
        replace HH := Lib.hid ((hmt.block g (lt_of_heap HH.out) (by show ¬ g = B; omega)).trans HH.out)
        replace HR := Lib.hid ((hmt.block r0 (lt_of_heap HR.out) (by show ¬ r0 = B; omega)).trans HR.out)
        clear hst hmt
        go_wp2_with (fail)
        refine (oddG_any B _ 0 100000000 x3 HS.out (by omega) (by omega) (by omega) (by omega)).mono ?_
        rintro e x4 ⟨⟨y2, rfl, _⟩, hst, hmt⟩
        replace HS := Lib.hid hst
        replace HM := Lib.hid (HM.out.trans (hmt.mono fun _ _ h => h))
        replace HH := Lib.hid ((hmt.block g (lt_of_heap HH.out) (by show ¬ g = B; omega)).trans HH.out)
        replace HR := Lib.hid ((hmt.block r0 (lt_of_heap HR.out) (by show ¬ r0 = B; omega)).trans HR.out)
        clear hst hmt
        have s0 : x4.cell? ⟨g, 0, none⟩ = some (.int .i64 s.k) := cell_of HH.out (i := 0) rfl
        have s1 : x4.cell? ⟨g, 1, none⟩ = some (.int .i64 s.x) := cell_of HH.out (i := 1) rfl
        have s2 : x4.cell? ⟨g, 2, none⟩ = some (.int .i64 s.y) := cell_of HH.out (i := 2) rfl
        have s3 : x4.cell? ⟨g, 3, none⟩ = some (.int .i64 s.z) := cell_of HH.out (i := 3) rfl
        have s4 : x4.cell? ⟨g, 4, none⟩ = some (.int .i64 s.f) := cell_of HH.out (i := 4) rfl
        have s5 : x4.cell? ⟨g, 5, none⟩ = some (.int .i64 s.n) := cell_of HH.out (i := 5) rfl
        have fg := fun i => frozen_of (i := i) HH.out
        go_upto_region 26 with (fail)
        have hm8 : Mut (· = g) x4 ((x4.setCell ⟨g, 3, none⟩ (.int .i64 y)).setCell ⟨g, 4, none⟩ (.int .i64 y2)) := Mut.setCell (p := ⟨g, 4, none⟩) (Mut.setCell (p := ⟨g, 3, none⟩) (Mut.refl (· = g) x4) (fun _ => rfl) _) (fun _ => rfl) _
        have hh8 : ((x4.setCell ⟨g, 3, none⟩ (.int .i64 y)).setCell ⟨g, 4, none⟩ (.int .i64 y2)).heap[g]? = some (.cells #[.int .i64 s.k, .int .i64 s.x, .int .i64 s.y, .int .i64 y, .int .i64 y2, .int .i64 s.n] 36 (0, 0)) := (cells_set (i := 4) (cells_set (i := 3) HH.out (.int .i64 y)) (.int .i64 y2)).trans (by simp only [List.setIfInBounds_toArray, List.set_cons_zero, List.set_cons_succ])
        generalize ((x4.setCell ⟨g, 3, none⟩ (.int .i64 y)).setCell ⟨g, 4, none⟩ (.int .i64 y2)) = w8 at *
        replace HH := Lib.hid hh8
        replace HR := Lib.hid (heap_mut HR.out hm8 (by omega))
        replace HS := Lib.hid (HS.out.kept hm8 (fun x hx e => by omega))
        replace HM := Lib.hid (HM.out.after hm8 (fun x hx h => by have := HRW.out; omega))
        clear hm8 hh8 s0 s1 s2 s3 s4 s5 fg
        have s0 : w8.cell? ⟨g, 0, none⟩ = some (.int .i64 s.k) := cell_of HH.out (i := 0) rfl
        have s1 : w8.cell? ⟨g, 1, none⟩ = some (.int .i64 s.x) := cell_of HH.out (i := 1) rfl
        have s2 : w8.cell? ⟨g, 2, none⟩ = some (.int .i64 s.y) := cell_of HH.out (i := 2) rfl
        have s3 : w8.cell? ⟨g, 3, none⟩ = some (.int .i64 y) := cell_of HH.out (i := 3) rfl
        have s4 : w8.cell? ⟨g, 4, none⟩ = some (.int .i64 y2) := cell_of HH.out (i := 4) rfl
        have s5 : w8.cell? ⟨g, 5, none⟩ = some (.int .i64 s.n) := cell_of HH.out (i := 5) rfl
        have fg := fun i => frozen_of (i := i) HH.out
        have e0 : w8.cell? ⟨r0, 0, none⟩ = some (.int .i64 0) := cell_of HR.out (i := 0) rfl
        have e1 : w8.cell? ⟨r0, 1, none⟩ = some (.int .i64 0) := cell_of HR.out (i := 1) rfl
        have e2 : w8.cell? ⟨r0, 2, none⟩ = some (.int .i64 0) := cell_of HR.out (i := 2) rfl
        have e3 : w8.cell? ⟨r0, 3, none⟩ = some (.int .i64 0) := cell_of HR.out (i := 3) rfl
        have e4 : w8.cell? ⟨r0, 4, none⟩ = some (.int .i64 0) := cell_of HR.out (i := 4) rfl
        have e5 : w8.cell? ⟨r0, 5, none⟩ = some (.int .i64 0) := cell_of HR.out (i := 5) rfl
        have fr := fun i => frozen_of (i := i) HR.out
        go_wp2_with (fail)
        have hm9 : Mut (· = r0) w8 ((((((w8.setCell ⟨r0, 0, none⟩ (.int .i64 s.k)).setCell ⟨r0, 1, none⟩ (.int .i64 s.x)).setCell ⟨r0, 2, none⟩ (.int .i64 s.y)).setCell ⟨r0, 3, none⟩ (.int .i64 y)).setCell ⟨r0, 4, none⟩ (.int .i64 y2)).setCell ⟨r0, 5, none⟩ (.int .i64 s.n)) := Mut.setCell (p := ⟨r0, 5, none⟩) (Mut.setCell (p := ⟨r0, 4, none⟩) (Mut.setCell (p := ⟨r0, 3, none⟩) (Mut.setCell (p := ⟨r0, 2, none⟩) (Mut.setCell (p := ⟨r0, 1, none⟩) (Mut.setCell (p := ⟨r0, 0, none⟩) (Mut.refl (· = r0) w8) (fun _ => rfl) _) (fun _ => rfl) _) (fun _ => rfl) _) (fun _ => rfl) _) (fun _ => rfl) _) (fun _ => rfl) _
        have hh9 : ((((((w8.setCell ⟨r0, 0, none⟩ (.int .i64 s.k)).setCell ⟨r0, 1, none⟩ (.int .i64 s.x)).setCell ⟨r0, 2, none⟩ (.int .i64 s.y)).setCell ⟨r0, 3, none⟩ (.int .i64 y)).setCell ⟨r0, 4, none⟩ (.int .i64 y2)).setCell ⟨r0, 5, none⟩ (.int .i64 s.n)).heap[r0]? = some (.cells #[.int .i64 s.k, .int .i64 s.x, .int .i64 s.y, .int .i64 y, .int .i64 y2, .int .i64 s.n] 36 (0, 0)) := (cells_set (i := 5) (cells_set (i := 4) (cells_set (i := 3) (cells_set (i := 2) (cells_set (i := 1) (cells_set (i := 0) HR.out (.int .i64 s.k)) (.int .i64 s.x)) (.int .i64 s.y)) (.int .i64 y)) (.int .i64 y2)) (.int .i64 s.n)).trans (by simp only [List.setIfInBounds_toArray, List.set_cons_zero, List.set_cons_succ])
        generalize ((((((w8.setCell ⟨r0, 0, none⟩ (.int .i64 s.k)).setCell ⟨r0, 1, none⟩ (.int .i64 s.x)).setCell ⟨r0, 2, none⟩ (.int .i64 s.y)).setCell ⟨r0, 3, none⟩ (.int .i64 y)).setCell ⟨r0, 4, none⟩ (.int .i64 y2)).setCell ⟨r0, 5, none⟩ (.int .i64 s.n)) = w9 at *
        have d0 : w9.cell? ⟨r0, 0, none⟩ = some (.int .i64 s.k) := cell_of hh9 (i := 0) rfl
        have d1 : w9.cell? ⟨r0, 1, none⟩ = some (.int .i64 s.x) := cell_of hh9 (i := 1) rfl
        have d2 : w9.cell? ⟨r0, 2, none⟩ = some (.int .i64 s.y) := cell_of hh9 (i := 2) rfl
        have d3 : w9.cell? ⟨r0, 3, none⟩ = some (.int .i64 y) := cell_of hh9 (i := 3) rfl
        have d4 : w9.cell? ⟨r0, 4, none⟩ = some (.int .i64 y2) := cell_of hh9 (i := 4) rfl
        have d5 : w9.cell? ⟨r0, 5, none⟩ = some (.int .i64 s.n) := cell_of hh9 (i := 5) rfl
        exact bodyPost_ret (v := .agg #[.int .i64 s.k, .int .i64 s.x, .int .i64 s.y, .int .i64 y, .int .i64 y2, .int .i64 s.n]) (by simp [results, Try.results22, go_sem, d0, d1, d2, d3, d4, d5]) rfl ⟨⟨s.k, s.x, s.y, y, y2, s.n⟩, rfl, (HS.out.kept hm9 (fun x hx e => by omega)).more (by omega) (by omega), HM.out.after hm9 (fun x hx h => by have := HRW.out; omega)⟩
      have h3 : r = 3 := by omega
      subst h3
      go_wp2_with (fail)
      refine (pick_at B _ [-1, 0, 100001, 10000001, 10] 5 (fun _ => True) x2 _ rfl HS.out (by omega) rfl (by omega) (by omega) (by simp)).mono ?_
      rintro e x3 ⟨⟨y, rfl, _⟩, hst, hmt⟩
      replace HS := Lib.hid hst
      replace HM := Lib.hid (HM.out.trans (hmt.mono fun _ _ h => h))
      replace HH := Lib.hid ((hmt.block g (lt_of_heap HH.out) (by show ¬ g = B; omega)).trans HH.out)
      replace HR := Lib.hid ((hmt.block r0 (lt_of_heap HR.out) (by show ¬ r0 = B; omega)).trans HR.out)
      clear hst hmt
      have s0 : x3.cell? ⟨g, 0, none⟩ = some (.int .i64 s.k) := cell_of HH.out (i := 0) rfl
      have s1 : x3.cell? ⟨g, 1, none⟩ = some (.int .i64 s.x) := cell_of HH.out (i := 1) rfl
      have s2 : x3.cell? ⟨g, 2, none⟩ = some (.int .i64 s.y) := cell_of HH.out (i := 2) rfl
      have s3 : x3.cell? ⟨g, 3, none⟩ = some (.int .i64 s.z) := cell_of HH.out (i := 3) rfl
      have s4 : x3.cell? ⟨g, 4, none⟩ = some (.int .i64 s.f) := cell_of HH.out (i := 4) rfl
      have s5 : x3.cell? ⟨g, 5, none⟩ = some (.int .i64 s.n) := cell_of HH.out (i := 5) rfl
      have fg := fun i => frozen_of (i := i) HH.out
      go_upto_region 26 with (fail)
      have hm8 : Mut (· = g) x3 (x3.setCell ⟨g, 5, none⟩ (.int .i64 y)) := Mut.setCell (p := ⟨g, 5, none⟩) (Mut.refl (· = g) x3) (fun _ => rfl) _
      have hh8 : (x3.setCell ⟨g, 5, none⟩ (.int .i64 y)).heap[g]? = some (.cells #[.int .i64 s.k, .int .i64 s.x, .int .i64 s.y, .int .i64 s.z, .int .i64 s.f, .int .i64 y] 36 (0, 0)) := (cells_set (i := 5) HH.out (.int .i64 y)).trans (by simp only [List.setIfInBounds_toArray, List.set_cons_zero, List.set_cons_succ])
      generalize (x3.setCell ⟨g, 5, none⟩ (.int .i64 y)) = w8 at *
      replace HH := Lib.hid hh8
      replace HR := Lib.hid (heap_mut HR.out hm8 (by omega))
      replace HS := Lib.hid (HS.out.kept hm8 (fun x hx e => by omega))
      replace HM := Lib.hid (HM.out.after hm8 (fun x hx h => by have := HRW.out; omega))
      clear hm8 hh8 s0 s1 s2 s3 s4 s5 fg
      have s0 : w8.cell? ⟨g, 0, none⟩ = some (.int .i64 s.k) := cell_of HH.out (i := 0) rfl
      have s1 : w8.cell? ⟨g, 1, none⟩ = some (.int .i64 s.x) := cell_of HH.out (i := 1) rfl
      have s2 : w8.cell? ⟨g, 2, none⟩ = some (.int .i64 s.y) := cell_of HH.out (i := 2) rfl
      have s3 : w8.cell? ⟨g, 3, none⟩ = some (.int .i64 s.z) := cell_of HH.out (i := 3) rfl
      have s4 : w8.cell? ⟨g, 4, none⟩ = some (.int .i64 s.f) := cell_of HH.out (i := 4) rfl
      have s5 : w8.cell? ⟨g, 5, none⟩ = some (.int .i64 y) := cell_of HH.out (i := 5) rfl
      have fg := fun i => frozen_of (i := i) HH.out
      have e0 : w8.cell? ⟨r0, 0, none⟩ = some (.int .i64 0) := cell_of HR.out (i := 0) rfl
      have e1 : w8.cell? ⟨r0, 1, none⟩ = some (.int .i64 0) := cell_of HR.out (i := 1) rfl
      have e2 : w8.cell? ⟨r0, 2, none⟩ = some (.int .i64 0) := cell_of HR.out (i := 2) rfl
      have e3 : w8.cell? ⟨r0, 3, none⟩ = some (.int .i64 0) := cell_of HR.out (i := 3) rfl
      have e4 : w8.cell? ⟨r0, 4, none⟩ = some (.int .i64 0) := cell_of HR.out (i := 4) rfl
      have e5 : w8.cell? ⟨r0, 5, none⟩ = some (.int .i64 0) := cell_of HR.out (i := 5) rfl
      have fr := fun i => frozen_of (i := i) HR.out
      go_wp2_with (fail)
      have hm9 : Mut (· = r0) w8 ((((((w8.setCell ⟨r0, 0, none⟩ (.int .i64 s.k)).setCell ⟨r0, 1, none⟩ (.int .i64 s.x)).setCell ⟨r0, 2, none⟩ (.int .i64 s.y)).setCell ⟨r0, 3, none⟩ (.int .i64 s.z)).setCell ⟨r0, 4, none⟩ (.int .i64 s.f)).setCell ⟨r0, 5, none⟩ (.int .i64 y)) := Mut.setCell (p := ⟨r0, 5, none⟩) (Mut.setCell (p := ⟨r0, 4, none⟩) (Mut.setCell (p := ⟨r0, 3, none⟩) (Mut.setCell (p := ⟨r0, 2, none⟩) (Mut.setCell (p := ⟨r0, 1, none⟩) (Mut.setCell (p := ⟨r0, 0, none⟩) (Mut.refl (· = r0) w8) (fun _ => rfl) _) (fun _ => rfl) _) (fun _ => rfl) _) (fun _ => rfl) _) (fun _ => rfl) _) (fun _ => rfl) _
      have hh9 : ((((((w8.setCell ⟨r0, 0, none⟩ (.int .i64 s.k)).setCell ⟨r0, 1, none⟩ (.int .i64 s.x)).setCell ⟨r0, 2, none⟩ (.int .i64 s.y)).setCell ⟨r0, 3, none⟩ (.int .i64 s.z)).setCell ⟨r0, 4, none⟩ (.int .i64 s.f)).setCell ⟨r0, 5, none⟩ (.int .i64 y)).heap[r0]? = some (.cells #[.int .i64 s.k, .int .i64 s.x, .int .i64 s.y, .int .i64 s.z, .int .i64 s.f, .int .i64 y] 36 (0, 0)) := (cells_set (i := 5) (cells_set (i := 4) (cells_set (i := 3) (cells_set (i := 2) (cells_set (i := 1) (cells_set (i := 0) HR.out (.int .i64 s.k)) (.int .i64 s.x)) (.int .i64 s.y)) (.int .i64 s.z)) (.int .i64 s.f)) (.int .i64 y)).trans (by simp only [List.setIfInBounds_toArray, List.set_cons_zero, List.set_cons_succ])
      generalize ((((((w8.setCell ⟨r0, 0, none⟩ (.int .i64 s.k)).setCell ⟨r0, 1, none⟩ (.int .i64 s.x)).setCell ⟨r0, 2, none⟩ (.int .i64 s.y)).setCell ⟨r0, 3, none⟩ (.int .i64 s.z)).setCell ⟨r0, 4, none⟩ (.int .i64 s.f)).setCell ⟨r0, 5, none⟩ (.int .i64 y)) = w9 at *
      have d0 : w9.cell? ⟨r0, 0, none⟩ = some (.int .i64 s.k) := cell_of hh9 (i := 0) rfl
      have d1 : w9.cell? ⟨r0, 1, none⟩ = some (.int .i64 s.x) := cell_of hh9 (i := 1) rfl
      have d2 : w9.cell? ⟨r0, 2, none⟩ = some (.int .i64 s.y) := cell_of hh9 (i := 2) rfl
      have d3 : w9.cell? ⟨r0, 3, none⟩ = some (.int .i64 s.z) := cell_of hh9 (i := 3) rfl
      have d4 : w9.cell? ⟨r0, 4, none⟩ = some (.int .i64 s.f) := cell_of hh9 (i := 4) rfl
      have d5 : w9.cell? ⟨r0, 5, none⟩ = some (.int .i64 y) := cell_of hh9 (i := 5) rfl
      exact bodyPost_ret (v := .agg #[.int .i64 s.k, .int .i64 s.x, .int .i64 s.y, .int .i64 s.z, .int .i64 s.f, .int .i64 y]) (by simp [results, Try.results22, go_sem, d0, d1, d2, d3, d4, d5]) rfl ⟨⟨s.k, s.x, s.y, s.z, s.f, y⟩, rfl, (HS.out.kept hm9 (fun x hx e => by omega)).more (by omega) (by omega), HM.out.after hm9 (fun x hx h => by have := HRW.out; omega)⟩
end Go.Proofs.Ytgmpmaiddombeaa

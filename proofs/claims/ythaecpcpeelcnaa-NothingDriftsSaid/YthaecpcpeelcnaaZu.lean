/- The plan of one printer and one job: when it ends. -/
import Derived.Test.YthaecpcpeelcnaaZt
import Derived.StillTailTactics
import Derived.Deep.Cut
set_option linter.unusedSimpArgs false
set_option linter.unusedVariables false
namespace Go.Proofs.Ythaecpcpeelcnaa
open Go.RowKit Go.Maps
set_option maxRecDepth 100000 in
set_option maxHeartbeats 4000000 in
theorem shiftOf_one (w : World) : Calls Try.prog 36 #[.agg #[.string ⟨#[112]⟩, .string ⟨#[97]⟩]] w fun e w' => e = .returned (.agg #[.string ⟨#[97]⟩, .int .i64 0]) ∧ Below w.heap.size w w' := by
  go_enter Try.func36, Try.ntmps36
  go_wp2_with (fail)
  exact bodyPost_ret (v := .agg #[.string ⟨#[97]⟩, .int .i64 0]) (by simp [results, Try.results36, go_sem]) rfl ⟨rfl, (by repeat (first | exact Below.refl _ _ | assumption | refine Below.drew ?_ | refine bdrewN ?_ _ | refine Below.setCell ?_ (by first | omega | (simp <;> omega)) _ | refine Below.alloc ?_ (by first | omega | (simp <;> omega)) _))⟩
set_option maxRecDepth 100000 in
set_option maxHeartbeats 4000000 in
theorem after_one (w : World) : Calls Try.prog 37 #[.agg #[.string ⟨#[97]⟩, .int .i64 0], .agg #[.string ⟨#[106]⟩, .string ⟨#[98]⟩, .int .i64 20, .int .i64 0], .int .i64 5] w fun e w' => e = .returned (.agg #[.string ⟨#[98]⟩, .int .i64 25]) ∧ Below w.heap.size w w' := by
  go_enter Try.func37, Try.ntmps37
  go_wp2_with (fail)
  exact bodyPost_ret (v := .agg #[.string ⟨#[98]⟩, .int .i64 25]) (by simp [results, Try.results37, go_sem]) rfl ⟨rfl, (by repeat (first | exact Below.refl _ _ | assumption | refine Below.drew ?_ | refine bdrewN ?_ _ | refine Below.setCell ?_ (by first | omega | (simp <;> omega)) _ | refine Below.alloc ?_ (by first | omega | (simp <;> omega)) _))⟩
theorem checkChange_one (w : World) : Calls Try.prog 35 #[.int .i64 5] w fun e w' => e = .returned (.int .i64 0) ∧ w = w' := by
  go_enter Try.func35, Try.ntmps35
  go_wp2_with (go_at_call 24; refine (withinC _ _ _ _ (by decide) (by decide)).mono ?_; rintro e w' ⟨rfl, rfl⟩)
  go_ret
  exact ⟨rfl, rfl⟩
theorem setZ_0 {w : World} {b : Nat} {v0 v1 u : Value} {t : TypeId} (h : w.heap[b]? = some (.cells #[v0, v1] t (0, 0))) : (w.setCell ⟨b, 0, none⟩ u).heap[b]? = some (.cells #[u, v1] t (0, 0)) := by
  simp [World.setCell, Array.getElem?_modify, h]
theorem setZ_1 {w : World} {b : Nat} {v0 v1 u : Value} {t : TypeId} (h : w.heap[b]? = some (.cells #[v0, v1] t (0, 0))) : (w.setCell ⟨b, 1, none⟩ u).heap[b]? = some (.cells #[v0, u] t (0, 0)) := by
  simp [World.setCell, Array.getElem?_modify, h]
theorem setZ_o {w : World} {b c o : Nat} {u : Value} {q : Obj} (hne : ¬ b = c) (h : w.heap[b]? = some q) : (w.setCell ⟨c, o, none⟩ u).heap[b]? = some q := by
  rw [Below.heap_setCell _ _ _ _ hne]; exact h
set_option maxRecDepth 100000 in
set_option maxHeartbeats 4000000 in
theorem ends_one (g k l i : Nat) (w : World) (h : w.heap[g]? = some (.cells #[.string ⟨#[112]⟩, .string ⟨#[97]⟩] 56 (0, 0))) (h2 : w.heap[k]? = some (.cells #[.string ⟨#[106]⟩, .string ⟨#[98]⟩, .int .i64 20, .int .i64 0] 59 (0, 0)))
    (h3 : w.heap[l]? = some (.cells #[.slice (some ⟨i, 0, none⟩) 1 1] 22 (0, 0))) (h4 : w.heap[i]? = some (.cells #[.int .i64 0] 3 (0, 0))) :
    Calls Try.prog 22 #[.slice (some ⟨g, 0, none⟩) 1 1, .slice (some ⟨k, 0, none⟩) 1 1, .slice (some ⟨l, 0, none⟩) 1 1, .int .i64 5] w fun e w' => (∃ a c, e = .returned (.tuple #[.slice (some a) 1 c, .int .i64 25, .int .i64 0])) ∧ Below w.heap.size w w' := by
  have HP := Lib.hid h
  have HJ := Lib.hid h2
  have HL := Lib.hid h3
  have HI := Lib.hid h4
  clear h h2 h3 h4
  go_enter Try.func22, Try.ntmps22
  go_wp2_with (fail)
  refine (checkPlan_one g k l i w HP.out HJ.out HL.out HI.out).mono ?_
  rintro e w1 ⟨rfl, hb⟩
  replace HP := Lib.hid (heap_keep hb HP.out)
  replace HJ := Lib.hid (heap_keep hb HJ.out)
  replace HL := Lib.hid (heap_keep hb HL.out)
  replace HI := Lib.hid (heap_keep hb HI.out)
  have B1 := Lib.hid hb
  clear hb
  have hmk : ∀ w, (Instr.makeSlice 22 (.int .i64 1) (.int .i64 1)).run Try.prog w = .ok (.slice (some ⟨w.heap.size, 0, none⟩) 1 1) (w.alloc (.cells #[.int .i64 0] 3)) := fun _ => by kernel_rfl
  go_upto_region 8 with (go_at_call 35; refine (checkChange_one _).mono ?_; rintro e w' ⟨rfl, rfl⟩)
  have HE := Lib.hid (heap_alloc_new w1 (.cells #[.int .i64 0] 3))
  have hb : Below w1.heap.size w1 (w1.alloc (.cells #[.int .i64 0] 3)) := (Below.refl _ _).alloc (Nat.le_refl _) _
  replace HP := Lib.hid (heap_keep hb HP.out)
  replace HJ := Lib.hid (heap_keep hb HJ.out)
  replace HL := Lib.hid (heap_keep hb HL.out)
  replace HI := Lib.hid (heap_keep hb HI.out)
  have B2 := Lib.hid (B1.out.trans (hb.mono B1.out.size))
  have hew := B1.out.size
  clear hb hmk
  generalize (w1.alloc (.cells #[.int .i64 0] 3)) = w2 at *
  obtain ⟨x, hx⟩ : ∃ x, w1.heap.size = x := ⟨_, rfl⟩
  rw [hx] at HE hew
  try rw [hx]
  clear hx B1
  have p0 : w2.cell? ⟨g, 0, none⟩ = some (.string ⟨#[112]⟩) := cell_of HP.out (i := 0) rfl
  have p1 : w2.cell? ⟨g, 1, none⟩ = some (.string ⟨#[97]⟩) := cell_of HP.out (i := 1) rfl
  have l0 : w2.cell? ⟨l, 0, none⟩ = some (.slice (some ⟨i, 0, none⟩) 1 1) := cell_of HL.out (i := 0) rfl
  go_wp2_with (fail)
  refine wp_loop_rounds 2 ?_
  rw [rounds_succ]
  go_wp2_with (fail)
  refine (shiftOf_one w2).mono ?_
  rintro e w3 ⟨rfl, hb⟩
  replace HE := Lib.hid (heap_keep hb HE.out)
  replace HJ := Lib.hid (heap_keep hb HJ.out)
  replace HI := Lib.hid (heap_keep hb HI.out)
  have B3 := Lib.hid (B2.out.trans (hb.mono B2.out.size))
  clear hb HP HL p0 p1 l0 B2
  have hk3 := lt_of_heap HJ.out
  have hx3 := lt_of_heap HE.out
  go_upto_region 13 with (fail)
  have hb : Below w3.heap.size w3 (w3.alloc (.cells #[.string ⟨#[97]⟩, .int .i64 0] 74)) := (Below.refl _ _).alloc (Nat.le_refl _) _
  replace HE := Lib.hid (heap_keep hb HE.out)
  replace HJ := Lib.hid (heap_keep hb HJ.out)
  replace HI := Lib.hid (heap_keep hb HI.out)
  have B4 := Lib.hid (B3.out.trans (hb.mono B3.out.size))
  have HSH := Lib.hid (heap_alloc_new w3 (.cells #[.string ⟨#[97]⟩, .int .i64 0] 74))
  have hsw := B3.out.size
  clear hb B3
  generalize (w3.alloc (.cells #[.string ⟨#[97]⟩, .int .i64 0] 74)) = w4 at *
  obtain ⟨sb, hsb⟩ : ∃ x, w3.heap.size = x := ⟨_, rfl⟩
  rw [hsb] at HSH hsw hk3 hx3
  try rw [hsb]
  clear hsb
  have hkn : ¬ (k = sb) := by omega
  have hne : ¬ (x = sb) := by omega
  have i0 : w4.cell? ⟨i, 0, none⟩ = some (.int .i64 0) := cell_of HI.out (i := 0) rfl
  have j0 : w4.cell? ⟨k, 0, none⟩ = some (.string ⟨#[106]⟩) := cell_of HJ.out (i := 0) rfl
  have j1 : w4.cell? ⟨k, 1, none⟩ = some (.string ⟨#[98]⟩) := cell_of HJ.out (i := 1) rfl
  have j2 : w4.cell? ⟨k, 2, none⟩ = some (.int .i64 20) := cell_of HJ.out (i := 2) rfl
  have j3 : w4.cell? ⟨k, 3, none⟩ = some (.int .i64 0) := cell_of HJ.out (i := 3) rfl
  have s0 : w4.cell? ⟨sb, 0, none⟩ = some (.string ⟨#[97]⟩) := cell_of HSH.out (i := 0) rfl
  have s1 : w4.cell? ⟨sb, 1, none⟩ = some (.int .i64 0) := cell_of HSH.out (i := 1) rfl
  go_wp2_with (fail)
  refine wp_loop_rounds 2 ?_
  rw [rounds_succ]
  go_wp2_with (fail)
  have hk4 := lt_of_heap HJ.out
  have hs4 := lt_of_heap HSH.out
  have hx4 := lt_of_heap HE.out
  refine wp_region_held_drew (S := (fun w' => w'.cell? ⟨k, 0, none⟩ = some (.string ⟨#[106]⟩) ∧ w'.cell? ⟨k, 1, none⟩ = some (.string ⟨#[98]⟩) ∧ w'.cell? ⟨k, 2, none⟩ = some (.int .i64 20) ∧ w'.cell? ⟨k, 3, none⟩ = some (.int .i64 0))) (by kernel_rfl) ⟨j0, j1, j2, j3⟩ (fun hHeld => ?_)
  refine tkH (by assumption) 1 (oi := ?_) (v := ?_) ?_ ?_ ?_ ?_ ?_ ?_ ?_ ?_; rotate_left 2; (simp only [gA, gB, gC]; exact rfl); kernel_rfl; kernel_rfl; kernel_rfl; exact fun _ _ _ h => h; rfl; (intro w' hSw; (try dsimp only at hSw); go_simp; with_reducible rfl); simp only [Act.put, pB, pC, pD]
  refine tkH (by assumption) 2 (oi := ?_) (v := ?_) ?_ ?_ ?_ ?_ ?_ ?_ ?_ ?_; rotate_left 2; (simp only [gA, gB, gC]; exact rfl); kernel_rfl; kernel_rfl; kernel_rfl; exact fun _ _ _ h => h; rfl; (intro w' hSw; (try dsimp only at hSw); go_simp; with_reducible rfl); simp only [Act.put, pB, pC, pD]
  refine tkH (by assumption) 3 (oi := ?_) (v := ?_) ?_ ?_ ?_ ?_ ?_ ?_ ?_ ?_; rotate_left 2; (simp only [gA, gB, gC]; exact rfl); kernel_rfl; kernel_rfl; kernel_rfl; exact fun _ _ _ h => h; rfl; (intro w' hSw; (try dsimp only at hSw); go_simp; with_reducible rfl); simp only [Act.put, pB, pC, pD]
  refine tkH (by assumption) 4 (oi := ?_) (v := ?_) ?_ ?_ ?_ ?_ ?_ ?_ ?_ ?_; rotate_left 2; (simp only [gA, gB, gC]; exact rfl); kernel_rfl; kernel_rfl; kernel_rfl; exact fun _ _ _ h => h; rfl; (intro w' hSw; obtain ⟨q0, q1, q2, q3⟩ := hSw;go_simp; with_reducible rfl); simp only [Act.put, pB, pC, pD]
  refine tkH (by assumption) 5 (oi := ?_) (v := ?_) ?_ ?_ ?_ ?_ ?_ ?_ ?_ ?_; rotate_left 2; (simp only [gA, gB, gC]; exact rfl); kernel_rfl; kernel_rfl; kernel_rfl; exact fun _ _ _ h => h; rfl; (intro w' hSw; (try dsimp only at hSw); go_simp; with_reducible rfl); simp only [Act.put, pB, pC, pD]
  refine onH 0 (oi := ?_) (by kernel_rfl) ?_ ?_ (fun K hK => ?_); rotate_left; (simp only [gA, gB, gC]; exact rfl); rfl
  go_wp2_with (fail)
  refine hK.out _ _ ⟨j0, j1, j2, j3⟩ (fun hHeldN => ?_)
  clear hK K hHeld
  have hHeld := hHeldN
  clear hHeldN
  try simp only [Act.put, pB, pC, pD]
  refine onH 6 (oi := ?_) (by kernel_rfl) ?_ ?_ (fun K hK => ?_); rotate_left; (simp only [gA, gB, gC]; exact rfl); rfl
  go_wp2_with (fail)
  refine (after_one _).mono ?_
  rintro e w5 ⟨rfl, hb⟩
  replace hb : Below w4.heap.size w4 w5 := (Below.drew (Below.refl _ _)).trans hb
  have HE5 := Lib.hid (heap_keep hb HE.out)
  have HJ5 := Lib.hid (heap_keep hb HJ.out)
  have HS5 := Lib.hid (heap_keep hb HSH.out)
  have B5 := Lib.hid (B4.out.trans (hb.mono B4.out.size))
  clear hb
  refine hK.out _ _ ⟨cell_of HJ5.out (i := 0) rfl, cell_of HJ5.out (i := 1) rfl, cell_of HJ5.out (i := 2) rfl, cell_of HJ5.out (i := 3) rfl⟩ (fun hHeldN => ?_)
  clear hK K hHeld
  have hHeld := hHeldN
  clear hHeldN
  try simp only [Act.put, pB, pC, pD]
  refine onH 7 (oi := ?_) (by kernel_rfl) ?_ ?_ (fun K hK => ?_); rotate_left; (simp only [gA, gB, gC]; exact rfl); rfl
  have e0 : w5.cell? ⟨sb, 0, none⟩ = some (.string ⟨#[97]⟩) := cell_of HS5.out (i := 0) rfl
  have e1 : w5.cell? ⟨sb, 1, none⟩ = some (.int .i64 0) := cell_of HS5.out (i := 1) rfl
  have f0 : w5.frozen? ⟨sb, 0, none⟩ = false := frozen_of HS5.out
  have f1 : w5.frozen? ⟨sb, 1, none⟩ = false := frozen_of HS5.out
  go_wp2_with (fail)
  have HS6 := Lib.hid (setZ_1 (u := .int .i64 25) (setZ_0 (u := .string ⟨#[98]⟩) HS5.out))
  have HE6 := Lib.hid (setZ_o (u := .int .i64 25) (o := 1) hne (setZ_o (u := .string ⟨#[98]⟩) (o := 0) hne HE5.out))
  have HJ6 := Lib.hid (setZ_o (u := .int .i64 25) (o := 1) hkn (setZ_o (u := .string ⟨#[98]⟩) (o := 0) hkn HJ5.out))
  have B6 := Lib.hid (Below.setCell (Below.setCell B5.out (p := ⟨sb, 0, none⟩) hsw (.string ⟨#[98]⟩)) (p := ⟨sb, 1, none⟩) hsw (.int .i64 25))
  refine hK.out _ _ ⟨cell_of HJ6.out (i := 0) rfl, cell_of HJ6.out (i := 1) rfl, cell_of HJ6.out (i := 2) rfl, cell_of HJ6.out (i := 3) rfl⟩ (fun hHeldN => ?_)
  clear hK K hHeld
  clear hHeldN
  try simp only [Act.put, pB, pC, pD]
  refine wpAnyH_done (by kernel_rfl) ?_ _
  clear e0 e1 f0 f1 i0 j0 j1 j2 j3 s0 s1
  generalize ((w5.setCell ⟨sb, 0, none⟩ (.string ⟨#[98]⟩)).setCell ⟨sb, 1, none⟩ (.int .i64 25)) = w6 at *
  have e1 : w6.cell? ⟨sb, 1, none⟩ = some (.int .i64 25) := cell_of HS6.out (i := 1) rfl
  have e2 : w6.cell? ⟨x, 0, none⟩ = some (.int .i64 0) := cell_of HE6.out (i := 0) rfl
  have f2 : w6.frozen? ⟨x, 0, none⟩ = false := frozen_of HE6.out
  have B7 := Lib.hid (Below.setCell B6.out (p := ⟨x, 0, none⟩) hew (.int .i64 25))
  have e3 := cell_of (setZ_o (u := .int .i64 25) (o := 0) (fun e => hne e.symm) HS6.out) (i := 1) rfl
  go_wp2_with (fail)
  rw [rounds_succ]
  go_wp2_with (fail)
  rw [rounds_succ]
  go_wp2_with (fail)
  exact bodyPost_ret (v := .tuple #[.slice (some ⟨x, 0, none⟩) 1 1, .int .i64 25, .int .i64 0]) (by simp [results, Try.results22, go_sem]) rfl ⟨⟨_, _, rfl⟩, B7.out⟩
end Go.Proofs.Ythaecpcpeelcnaa

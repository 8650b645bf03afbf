/- The normal of a face, as it is exported. -/
import Derived.Test.YtmcebhjcaacbpaaWo3
import Derived.StillTailTactics
set_option linter.unusedSimpArgs false
set_option linter.unusedVariables false
namespace Go.Proofs.Ytmcebhjcaacbpaa
open Go.RowKit
theorem rows_at {w : World} {a : Option Addr} {n : Nat} {V : Nat → V3} (h : Row3 w a n V) {k : Nat} (hk : k < n) : ∃ b off, a = some ⟨b, off, none⟩ ∧ b < w.heap.size ∧ Tri w b off n V := by
  rcases h with h | h
  · omega
  · exact h
set_option maxRecDepth 100000 in
set_option maxHeartbeats 8000000 in
theorem Normal_ok (av af : Option Addr) (nv cv nf cf : Nat) (V F : Nat → V3) (k : Nat) (w : World) (hv : Row3 w av nv V) (hf : Row3 w af nf F) (hnv : nv ≤ 1000000) (hnf : nf ≤ 1000000) (h0 : fault nv V nf F = 0) (hk : k < nf) :
    Calls Try.prog 8 #[.agg #[.slice av nv cv, .slice af nf cf], .int .i64 k] w fun e w' => ∃ x y : Int, e = .returned (.tuple #[.agg #[.int .i64 x, .int .i64 y, .int .i64 (fNrm V (F k)).z], .int .i64 0]) ∧ Below w.heap.size w w' := by
  obtain ⟨bv, ov, rfl, hbv, -⟩ := rows_at hv (k := (F k).x.toNat) (by have := (good_of h0 k hk).1; omega)
  obtain ⟨bf, off, rfl, hbf, -⟩ := rows_at hf hk
  have HV := Lib.hid hv
  have HF := Lib.hid hf
  have HZ := Lib.hid h0
  clear hv hf h0
  go_enter Try.func8, Try.ntmps8
  go_upto_region 1 with (fail)
  have hb : Below w.heap.size w ((w.alloc (.cells #[.slice (some ⟨bv, ov, none⟩) nv cv, .slice (some ⟨bf, off, none⟩) nf cf] 29)).alloc (.cells #[.int .i64 0, .int .i64 0, .int .i64 0] 39)) := (by repeat (first | exact Below.refl _ _ | assumption | refine Below.drew ?_ | refine bdrewN ?_ _ | refine Below.setCell ?_ (by first | omega | (simp <;> omega)) _ | refine Below.alloc ?_ (by first | omega | (simp <;> omega)) _))
  have HX := Lib.hid (show ((w.alloc (.cells #[.slice (some ⟨bv, ov, none⟩) nv cv, .slice (some ⟨bf, off, none⟩) nf cf] 29)).alloc (.cells #[.int .i64 0, .int .i64 0, .int .i64 0] 39)).heap[w.heap.size]? = some (.cells #[.slice (some ⟨bv, ov, none⟩) nv cv, .slice (some ⟨bf, off, none⟩) nf cf] 29 (0, 0)) from (by repeat (first | (refine heap_new ?_; first | rfl | (simp; done)) | rw [Below.heap_setCell _ _ _ _ (by simp <;> omega)] | rw [Below.heap_alloc _ _ _ (by simp <;> omega)])))
  have HR := Lib.hid (show ((w.alloc (.cells #[.slice (some ⟨bv, ov, none⟩) nv cv, .slice (some ⟨bf, off, none⟩) nf cf] 29)).alloc (.cells #[.int .i64 0, .int .i64 0, .int .i64 0] 39)).heap[w.heap.size + 1]? = some (.cells #[.int .i64 0, .int .i64 0, .int .i64 0] 39 (0, 0)) from (by repeat (first | (refine heap_new ?_; first | rfl | (simp; done)) | rw [Below.heap_setCell _ _ _ _ (by simp <;> omega)] | rw [Below.heap_alloc _ _ _ (by simp <;> omega)])))
  replace HV := Lib.hid (HV.out.kept hb)
  replace HF := Lib.hid (HF.out.kept hb)
  have B0 := Lib.hid hb
  clear hb
  generalize ((w.alloc (.cells #[.slice (some ⟨bv, ov, none⟩) nv cv, .slice (some ⟨bf, off, none⟩) nf cf] 29)).alloc (.cells #[.int .i64 0, .int .i64 0, .int .i64 0] 39)) = w0 at *
  obtain ⟨q, hq⟩ : ∃ q, w.heap.size = q := ⟨_, rfl⟩
  rw [hq] at HX HR hbv hbf
  try rw [hq]
  have HQ := Lib.hid hq
  clear hq
  have x0 : w0.cell? ⟨q, 0, none⟩ = some (.slice (some ⟨bv, ov, none⟩) nv cv) := cell_of HX.out (i := 0) rfl
  have x1 : w0.cell? ⟨q, 1, none⟩ = some (.slice (some ⟨bf, off, none⟩) nf cf) := cell_of HX.out (i := 1) rfl
  go_wp2_with (fail)
  refine (checkMesh_any _ _ nv cv nf cf V F w0 HV.out HF.out hnv hnf).mono ?_
  rintro e w1 ⟨rfl, hb⟩
  rw [HZ.out]
  replace HX := Lib.hid (heap_keep hb HX.out)
  replace HR := Lib.hid (heap_keep hb HR.out)
  replace HV := Lib.hid (HV.out.kept hb)
  replace HF := Lib.hid (HF.out.kept hb)
  have B1 := Lib.hid (B0.out.trans (hb.mono B0.out.size))
  clear hb x0 x1 B0
  obtain ⟨⟨g0, g1⟩, ⟨g2, g3⟩, g4, g5⟩ := good_of HZ.out k hk
  have x0 : w1.cell? ⟨q, 0, none⟩ = some (.slice (some ⟨bv, ov, none⟩) nv cv) := cell_of HX.out (i := 0) rfl
  have x1 : w1.cell? ⟨q, 1, none⟩ = some (.slice (some ⟨bf, off, none⟩) nf cf) := cell_of HX.out (i := 1) rfl
  obtain ⟨bf', off', e9, hbf1, hTf⟩ := rows_at HF.out hk
  cases e9
  obtain ⟨c0, c1, c2⟩ := hTf k hk
  obtain ⟨i, hi⟩ := Int.eq_ofNat_of_zero_le g0
  obtain ⟨j, hj⟩ := Int.eq_ofNat_of_zero_le g2
  obtain ⟨l, hl⟩ := Int.eq_ofNat_of_zero_le g4
  rw [hi] at c0
  rw [hj] at c1
  rw [hl] at c2
  have hi' : i < nv := by omega
  have hj' : j < nv := by omega
  have hl' : l < nv := by omega
  have HN := Lib.hid (show fNrm V (F k) = vnorm (V i) (V j) (V l) by unfold fNrm; rw [hi, hj, hl]; rfl)
  clear g0 g1 g2 g3 g4 g5 hi hj hl hTf
  have hq1 := lt_of_heap HX.out
  have hk0 : (0 : Int) ≤ (k : Int) := by omega
  have hk1 : (k : Int) < (nf : Int) := by omega
  go_upto_region 6 with (fail)
  refine wp_region_held_drew (S := (fun w' => w'.cell? ⟨q, 0, none⟩ = some (.slice (some ⟨bv, ov, none⟩) nv cv) ∧ w'.cell? ⟨q, 1, none⟩ = some (.slice (some ⟨bf, off, none⟩) nf cf) ∧ w'.cell? ⟨bf, off + k * 3, none⟩ = some (.int .i64 i) ∧ w'.cell? ⟨bf, off + k * 3 + 1, none⟩ = some (.int .i64 j) ∧ w'.cell? ⟨bf, off + k * 3 + 2, none⟩ = some (.int .i64 l))) (by kernel_rfl) ⟨x0, x1, c0, c1, c2⟩ (fun hHeld => ?_)
  refine tkH (by assumption) 0 (oi := ?_) (v := ?_) ?_ ?_ ?_ ?_ ?_ ?_ ?_ ?_; rotate_left 2; (simp only [gA, gB, gC]; exact rfl); kernel_rfl; kernel_rfl; kernel_rfl; exact fun _ _ _ h => h; rfl; (intro w' hSw; (try dsimp only at hSw); go_simp; with_reducible rfl); simp only [Act.put, pB, pC, pD]
  refine tkH (by assumption) 1 (oi := ?_) (v := ?_) ?_ ?_ ?_ ?_ ?_ ?_ ?_ ?_; rotate_left 2; (simp only [gA, gB, gC]; exact rfl); kernel_rfl; kernel_rfl; kernel_rfl; exact fun _ _ _ h => h; rfl; (intro w' hSw; obtain ⟨s0, s1, s2, s3, s4⟩ := hSw;go_simp; with_reducible rfl); simp only [Act.put, pB, pC, pD]
  refine tkH (by assumption) 2 (oi := ?_) (v := ?_) ?_ ?_ ?_ ?_ ?_ ?_ ?_ ?_; rotate_left 2; (simp only [gA, gB, gC]; exact rfl); kernel_rfl; kernel_rfl; kernel_rfl; exact fun _ _ _ h => h; rfl; (intro w' hSw; (try dsimp only at hSw); go_simp; with_reducible rfl); simp only [Act.put, pB, pC, pD]
  refine tkH (by assumption) 3 (oi := ?_) (v := ?_) ?_ ?_ ?_ ?_ ?_ ?_ ?_ ?_; rotate_left 2; (simp only [gA, gB, gC]; exact rfl); kernel_rfl; kernel_rfl; kernel_rfl; exact fun _ _ _ h => h; rfl; (intro w' hSw; obtain ⟨s0, s1, s2, s3, s4⟩ := hSw;go_simp; with_reducible rfl); simp only [Act.put, pB, pC, pD]
  refine tkH (by assumption) 4 (oi := ?_) (v := ?_) ?_ ?_ ?_ ?_ ?_ ?_ ?_ ?_; rotate_left 2; (simp only [gA, gB, gC]; exact rfl); kernel_rfl; kernel_rfl; kernel_rfl; exact fun _ _ _ h => h; rfl; (intro w' hSw; (try dsimp only at hSw); go_simp; with_reducible rfl); simp only [Act.put, pB, pC, pD]
  refine tkH (by assumption) 5 (oi := ?_) (v := ?_) ?_ ?_ ?_ ?_ ?_ ?_ ?_ ?_; rotate_left 2; (simp only [gA, gB, gC]; exact rfl); kernel_rfl; kernel_rfl; kernel_rfl; exact fun _ _ _ h => h; rfl; (intro w' hSw; (try dsimp only at hSw); go_simp; with_reducible rfl); simp only [Act.put, pB, pC, pD]
  refine tkH (by assumption) 6 (oi := ?_) (v := ?_) ?_ ?_ ?_ ?_ ?_ ?_ ?_ ?_; rotate_left 2; (simp only [gA, gB, gC]; exact rfl); kernel_rfl; kernel_rfl; kernel_rfl; exact fun _ _ _ h => h; rfl; (intro w' hSw; obtain ⟨s0, s1, s2, s3, s4⟩ := hSw;go_simp; with_reducible rfl); simp only [Act.put, pB, pC, pD]
  refine onH 7 (oi := ?_) (by kernel_rfl) ?_ ?_ (fun K hK => ?_); rotate_left; (simp only [gA, gB, gC]; exact rfl); rfl
  have hTv := rows_at HV.out hi'
  obtain ⟨bv', ov', e9, hbv1, hTv⟩ := hTv
  cases e9
  go_wp2_with (fail)
  refine (normal_any bv ov nv cv V i j l hi' hj' hl' (by omega) w1.drew hbv1 hTv).mono ?_
  rintro e w2 ⟨rfl, hb⟩
  replace hb : Below w1.heap.size w1 w2 := (Below.drew (Below.refl _ _)).trans hb
  have HX2 := Lib.hid (heap_keep hb HX.out)
  have HR2 := Lib.hid (heap_keep hb HR.out)
  have B2 := Lib.hid (B1.out.trans (hb.mono B1.out.size))
  replace c0 := cellk hb hbf1 c0
  replace c1 := cellk hb hbf1 c1
  replace c2 := cellk hb hbf1 c2
  have hbf2 : bf < w2.heap.size := Nat.lt_of_lt_of_le hbf1 hb.size
  clear hb hTv x0 x1
  rw [← HN.out]
  refine hK.out _ _ ⟨cell_of HX2.out (i := 0) rfl, cell_of HX2.out (i := 1) rfl, c0, c1, c2⟩ (fun hHeldN => ?_)
  clear hK K hHeld
  have hHeld := hHeldN
  clear hHeldN
  try simp only [Act.put, pB, pC, pD]
  refine onH 8 (oi := ?_) (by kernel_rfl) ?_ ?_ (fun K hK => ?_); rotate_left; (simp only [gA, gB, gC]; exact rfl); rfl
  obtain ⟨x, hx⟩ : ∃ x, (fNrm V (F k)).x = x := ⟨_, rfl⟩
  obtain ⟨y, hy⟩ : ∃ y, (fNrm V (F k)).y = y := ⟨_, rfl⟩
  obtain ⟨z, hz⟩ : ∃ z, (fNrm V (F k)).z = z := ⟨_, rfl⟩
  have HZZ := Lib.hid hz
  try rw [hx]
  try rw [hy]
  try rw [hz]
  clear hx hy hz
  have r0 : w2.cell? ⟨q + 1, 0, none⟩ = some (.int .i64 0) := cell_of HR2.out (i := 0) rfl
  have r1 : w2.cell? ⟨q + 1, 1, none⟩ = some (.int .i64 0) := cell_of HR2.out (i := 1) rfl
  have r2 : w2.cell? ⟨q + 1, 2, none⟩ = some (.int .i64 0) := cell_of HR2.out (i := 2) rfl
  have f0 : w2.frozen? ⟨q + 1, 0, none⟩ = false := frozen_of HR2.out
  have f1 : w2.frozen? ⟨q + 1, 1, none⟩ = false := frozen_of HR2.out
  have f2 : w2.frozen? ⟨q + 1, 2, none⟩ = false := frozen_of HR2.out
  go_wp2_with (fail)
  have hm : Mut (· = q + 1) w2 (((w2.setCell ⟨q + 1, 0, none⟩ (.int .i64 x)).setCell ⟨q + 1, 1, none⟩ (.int .i64 y)).setCell ⟨q + 1, 2, none⟩ (.int .i64 z)) := (((Mut.refl (· = q + 1) _).setCell (p := ⟨q + 1, 0, none⟩) (fun _ => rfl) _).setCell (p := ⟨q + 1, 1, none⟩) (fun _ => rfl) _).setCell (p := ⟨q + 1, 2, none⟩) (fun _ => rfl) _
  have HX3 := Lib.hid ((hm.block q (lt_of_heap HX2.out) (by omega)).trans HX2.out)
  have c0' := (hm.cell (p := ⟨bf, off + k * 3, none⟩) hbf2 (by show ¬ bf = q + 1; omega)).trans c0
  have c1' := (hm.cell (p := ⟨bf, off + k * 3 + 1, none⟩) hbf2 (by show ¬ bf = q + 1; omega)).trans c1
  have c2' := (hm.cell (p := ⟨bf, off + k * 3 + 2, none⟩) hbf2 (by show ¬ bf = q + 1; omega)).trans c2
  have HR3 : Hid ((((w2.setCell ⟨q + 1, 0, none⟩ (.int .i64 x)).setCell ⟨q + 1, 1, none⟩ (.int .i64 y)).setCell ⟨q + 1, 2, none⟩ (.int .i64 z)).heap[q + 1]? = some (.cells #[.int .i64 x, .int .i64 y, .int .i64 z] 39 (0, 0))) := Lib.hid (by simp [World.setCell, Array.getElem?_modify, HR2.out])
  have B3 := Lib.hid (show Below w.heap.size w (((w2.setCell ⟨q + 1, 0, none⟩ (.int .i64 x)).setCell ⟨q + 1, 1, none⟩ (.int .i64 y)).setCell ⟨q + 1, 2, none⟩ (.int .i64 z)) from ((B2.out.setCell (p := ⟨q + 1, 0, none⟩) (by have := HQ.out; show _ ≤ q + 1; omega) _).setCell (p := ⟨q + 1, 1, none⟩) (by have := HQ.out; show _ ≤ q + 1; omega) _).setCell (p := ⟨q + 1, 2, none⟩) (by have := HQ.out; show _ ≤ q + 1; omega) _)
  refine hK.out _ _ ⟨cell_of HX3.out (i := 0) rfl, cell_of HX3.out (i := 1) rfl, c0', c1', c2'⟩ (fun hHeldN => ?_)
  clear hK K hHeld hm c0 c1 c2 c0' c1' c2' r0 r1 r2 f0 f1 f2
  have hHeld := hHeldN
  clear hHeldN
  try simp only [Act.put, pB, pC, pD]
  generalize (((w2.setCell ⟨q + 1, 0, none⟩ (.int .i64 x)).setCell ⟨q + 1, 1, none⟩ (.int .i64 y)).setCell ⟨q + 1, 2, none⟩ (.int .i64 z)) = w3 at *
  refine tkH (by assumption) 9 (oi := ?_) (v := ?_) ?_ ?_ ?_ ?_ ?_ ?_ ?_ ?_; rotate_left 2; (simp only [gA, gB, gC]; exact rfl); kernel_rfl; kernel_rfl; kernel_rfl; exact fun _ _ _ h => h; rfl; (intro w' hSw; (try dsimp only at hSw); go_simp; with_reducible rfl); simp only [Act.put, pB, pC, pD]
  refine wpAnyH_done (by kernel_rfl) ?_ _
  have r0 : w3.cell? ⟨q + 1, 0, none⟩ = some (.int .i64 x) := cell_of HR3.out (i := 0) rfl
  have r1 : w3.cell? ⟨q + 1, 1, none⟩ = some (.int .i64 y) := cell_of HR3.out (i := 1) rfl
  have r2 : w3.cell? ⟨q + 1, 2, none⟩ = some (.int .i64 z) := cell_of HR3.out (i := 2) rfl
  go_wp2_with (fail)
  exact bodyPost_ret (v := .tuple #[.agg #[.int .i64 x, .int .i64 y, .int .i64 z], .int .i64 0]) (by simp [results, Try.results8, go_sem, r0, r1, r2]) rfl ⟨x, y, by rw [HZZ.out], B3.out⟩
end Go.Proofs.Ytmcebhjcaacbpaa

/- The closure of stays. -/
import Derived.Test.YtgmpmaiddombeaaGk
import Derived.Test.YtgmpmaiddombeaaTk
import Derived.BigRegion
set_option linter.unusedSimpArgs false
set_option linter.unusedVariables false
namespace Go.Proofs.Ytgmpmaiddombeaa
open Go.RowKit
set_option maxRecDepth 100000 in
set_option maxHeartbeats 8000000 in
theorem stays1_any (p q r0 base i : Nat) (a : Option Addr) (n c : Nat) (S : Nat → St) (m : Ma) (w0 w : World) (hi : i < n) (hn : n ≤ 5000) (hok : ∀ i, i < n → SOk (S i)) (hI : StayInv p q r0 base a n c S i w0) (hqr : q < r0) (hrp : r0 < p) (hpb : p < base) (hab : 0 < n → ∀ x, a = some x → x.block < r0) (hb2 : base + 2 ≤ w0.heap.size) (hb : Below w0.heap.size w0 w) :
    Calls Try.prog 40 #[.int .i64 i, (.agg #[.int .i64 m.x, .int .i64 m.y, .int .i64 m.z, .int .i64 m.s, .int .i64 m.h, .int .i64 m.t, .int .i64 m.f, .bool m.r]), (.agg #[.int .i64 (run S (i + 1)).x, .int .i64 (run S (i + 1)).y, .int .i64 (run S (i + 1)).z, .int .i64 (run S (i + 1)).s, .int .i64 (run S (i + 1)).h, .int .i64 (run S (i + 1)).t, .int .i64 (run S (i + 1)).f, .bool (run S (i + 1)).r]), .pointer (some ⟨p, 0, none⟩), .pointer (some ⟨q, 0, none⟩)] w fun e w' => e = .returned (.tuple #[]) ∧ StayInv p q r0 base a n c S (i + 1) w' ∧ Mut (fun b => b < w0.heap.size ∧ ((b = p ∨ b = r0) ∨ base + 2 ≤ b)) w w' := by
  obtain ⟨i0, hi0, hz0, hz1, hz2⟩ := info_parts2 info_stay
  obtain ⟨g, co, hhp, hhq, hown, hg, hsr⟩ := hI
  have HOK := Lib.hid hok
  have hklen := mo_len S i
  have hlen := syL_len S i
  obtain ⟨L, hL⟩ : ∃ L, syL S i = L := ⟨_, rfl⟩
  obtain ⟨k, hk⟩ : ∃ k, (mo S i).1.length = k := ⟨_, rfl⟩
  have HL := Lib.hid hL
  have HK := Lib.hid hk
  rw [hL] at hhp hown hlen
  rw [hk] at hlen hklen
  rw [hlen] at hhp hown
  have HLEN := Lib.hid hlen
  clear hok hL hk hlen
  have hsz := hb.size
  replace hhp := heap_keep hb hhp
  replace hhq := heap_keep hb hhq
  have hlo := hown.lt g rfl
  have hpl := lt_of_heap hhp
  have hql := lt_of_heap hhq
  have HOW := Lib.hid (ownsRow_below hown hb)
  have HSR := Lib.hid (hsr.kept hb)
  have HHP := Lib.hid hhp
  have HHQ := Lib.hid hhq
  have HLT := Lib.hid hown.lt
  clear hhp hhq hown hsr
  obtain ⟨m9, hm9⟩ : ∃ m9, run S (i + 1) = m9 := ⟨_, rfl⟩
  have HMM := Lib.hid hm9
  rw [hm9]
  clear hm9
  have hb1 : Below w.heap.size w ((w.alloc (.cells #[.int .i64 m.x, .int .i64 m.y, .int .i64 m.z, .int .i64 m.s, .int .i64 m.h, .int .i64 m.t, .int .i64 m.f, .bool m.r] 42)).alloc (.cells #[.int .i64 m9.x, .int .i64 m9.y, .int .i64 m9.z, .int .i64 m9.s, .int .i64 m9.h, .int .i64 m9.t, .int .i64 m9.f, .bool false] 42)) := (by repeat (first | exact Below.refl _ _ | assumption | refine Below.drew ?_ | refine bdrewN ?_ _ | refine Below.setCell ?_ (by first | omega | (simp <;> omega)) _ | refine Below.alloc ?_ (by first | omega | (simp <;> omega)) _))
  have hbn : ((w.alloc (.cells #[.int .i64 m.x, .int .i64 m.y, .int .i64 m.z, .int .i64 m.s, .int .i64 m.h, .int .i64 m.t, .int .i64 m.f, .bool m.r] 42)).alloc (.cells #[.int .i64 m9.x, .int .i64 m9.y, .int .i64 m9.z, .int .i64 m9.s, .int .i64 m9.h, .int .i64 m9.t, .int .i64 m9.f, .bool false] 42)).heap[w.heap.size + 1]? = some (.cells #[.int .i64 (nor m9).x, .int .i64 (nor m9).y, .int .i64 (nor m9).z, .int .i64 (nor m9).s, .int .i64 (nor m9).h, .int .i64 (nor m9).t, .int .i64 (nor m9).f, .bool (nor m9).r] 42 (0, 0)) := heap_new (by simp)
  have HB1 := Lib.hid hb1
  have HN := Lib.hid hbn
  clear hb1 hbn
  go_enter Try.func40, Try.ntmps40
  go_wp2_with (fail)
  generalize ((w.alloc (.cells #[.int .i64 m.x, .int .i64 m.y, .int .i64 m.z, .int .i64 m.s, .int .i64 m.h, .int .i64 m.t, .int .i64 m.f, .bool m.r] 42)).alloc (.cells #[.int .i64 m9.x, .int .i64 m9.y, .int .i64 m9.z, .int .i64 m9.s, .int .i64 m9.h, .int .i64 m9.t, .int .i64 m9.f, .bool false] 42)) = W at *
  have hsW := HB1.out.size
  replace HHP := Lib.hid (heap_keep HB1.out HHP.out)
  replace HHQ := Lib.hid (heap_keep HB1.out HHQ.out)
  replace HOW := Lib.hid (ownsRow_below HOW.out HB1.out)
  replace HSR := Lib.hid (HSR.out.kept HB1.out)
  have p0 : W.cell? ⟨p, 0, none⟩ = some (.slice (some ⟨g, 0, none⟩) (k + 1) co) := cell_of HHP.out (i := 0) rfl
  obtain ⟨D, hD⟩ : ∃ D, bd m00 (mo S i).1 = D := ⟨_, rfl⟩
  obtain ⟨c9, hc9⟩ : ∃ c, nor (run S i) = c := ⟨_, rfl⟩
  obtain ⟨t9, ht9⟩ : ∃ t, (mo S i).2 = t := ⟨_, rfl⟩
  have hLe : L = D ++ [(c9, t9)] := by rw [← HL.out, syL_eq, hD, hc9, ht9]
  have hDl : D.length = k := by rw [← hD, bd_len, HK.out]
  have HLE := Lib.hid hLe
  have HDL := Lib.hid hDl
  have hlast : ∀ j, j < 9 → W.cell? ⟨g, k * 9 + j, none⟩ = (yV (c9, t9))[j]? := fun j hj => by
    rw [HOW.out.cellAt (k * 9 + j) (by omega), rowL_get (by rw [HLEN.out]; omega) hj, HLE.out]
    congr 2
    rw [List.getD_eq_getElem?_getD, List.getElem?_append_right (by omega), HDL.out]
    simp
  have l0 : W.cell? ⟨g, k * 9, none⟩ = some (.int .i64 c9.x) := hlast 0 (by omega)
  have l1 : W.cell? ⟨g, k * 9 + 1, none⟩ = some (.int .i64 c9.y) := hlast 1 (by omega)
  have l2 : W.cell? ⟨g, k * 9 + 2, none⟩ = some (.int .i64 c9.z) := hlast 2 (by omega)
  have l3 : W.cell? ⟨g, k * 9 + 3, none⟩ = some (.int .i64 c9.s) := hlast 3 (by omega)
  have l4 : W.cell? ⟨g, k * 9 + 4, none⟩ = some (.int .i64 c9.h) := hlast 4 (by omega)
  have l5 : W.cell? ⟨g, k * 9 + 5, none⟩ = some (.int .i64 c9.t) := hlast 5 (by omega)
  have l6 : W.cell? ⟨g, k * 9 + 6, none⟩ = some (.int .i64 c9.f) := hlast 6 (by omega)
  have l7 : W.cell? ⟨g, k * 9 + 7, none⟩ = some (.bool c9.r) := hlast 7 (by omega)
  have l8 : W.cell? ⟨g, k * 9 + 8, none⟩ = some (.int .i64 t9) := hlast 8 (by omega)
  have HL8 := Lib.hid l8
  have hw1 : IntKind.i64.wrap ((k : Int) + 1 - 1) = (k : Int) := i64w (by omega) |>.trans (by omega)
  have hw2 : IntKind.i64.wrap ((k : Int)) = (k : Int) := i64w (by omega)
  have hE := fun wx => neq_ma (nor m9) c9 wx
  obtain ⟨vb, hvb⟩ : ∃ vb, (!decide (nor m9 = c9)) = vb := ⟨_, rfl⟩
  rw [hvb] at hE
  have HVB := Lib.hid hvb
  clear hvb
  dsimp only [nor] at hE
  have hG := gd_ma
  have HD9 := Lib.hid hD
  have HC9 := Lib.hid hc9
  have HT99 := Lib.hid ht9
  clear hlast l8 hD hc9 ht9 hLe hDl
  have d0 : W.cell? ⟨w.heap.size + 1, 0, none⟩ = some (.int .i64 m9.x) := cell_of HN.out (i := 0) rfl
  have d1 : W.cell? ⟨w.heap.size + 1, 1, none⟩ = some (.int .i64 m9.y) := cell_of HN.out (i := 1) rfl
  have d2 : W.cell? ⟨w.heap.size + 1, 2, none⟩ = some (.int .i64 m9.z) := cell_of HN.out (i := 2) rfl
  have d3 : W.cell? ⟨w.heap.size + 1, 3, none⟩ = some (.int .i64 m9.s) := cell_of HN.out (i := 3) rfl
  have d4 : W.cell? ⟨w.heap.size + 1, 4, none⟩ = some (.int .i64 m9.h) := cell_of HN.out (i := 4) rfl
  have d5 : W.cell? ⟨w.heap.size + 1, 5, none⟩ = some (.int .i64 m9.t) := cell_of HN.out (i := 5) rfl
  have d6 : W.cell? ⟨w.heap.size + 1, 6, none⟩ = some (.int .i64 m9.f) := cell_of HN.out (i := 6) rfl
  have d7 : W.cell? ⟨w.heap.size + 1, 7, none⟩ = some (.bool false) := cell_of HN.out (i := 7) rfl
  go_quiet (fail)
  have hb3 : Below W.heap.size W (W.drewN nq) := bdrewN (Below.refl _ _) _
  have HN3 := Lib.hid (heap_keep hb3 HN.out)
  replace HHP := Lib.hid (heap_keep hb3 HHP.out)
  replace HHQ := Lib.hid (heap_keep hb3 HHQ.out)
  replace HOW := Lib.hid (ownsRow_below HOW.out hb3)
  replace HSR := Lib.hid (HSR.out.kept hb3)
  replace HB1 := Lib.hid (HB1.out.trans (hb3.mono hsW))
  replace HL8 := Lib.hid (cellk hb3 (by omega) HL8.out)
  clear hb3 p0 d0 d1 d2 d3 d4 d5 d6 d7 l0 l1 l2 l3 l4 l5 l6 l7 hE hG HN
  generalize W.drewN nq = W3 at *
  have hs3 := HB1.out.size
  rcases HSR.out with h0 | ⟨b, off, rfl, hbl, hd⟩
  · omega
  have hbr : b < r0 := hab (by omega) _ rfl
  obtain ⟨s, hs⟩ : ∃ s, S i = s := ⟨_, rfl⟩
  have RS := Lib.hid hs
  obtain ⟨s0, -, -, -, -, s5⟩ := hd i hi
  rw [hs] at s0 s5
  have hsn := (HOK.out i hi).n
  rw [hs] at hsn
  have HT9 := Lib.hid (mo_bnd (n := i) (fun j hj => HOK.out j (by omega)))
  clear hs hd
  have q0 : W3.cell? ⟨q, 0, none⟩ = some (.slice (some ⟨b, off, none⟩) n c) := cell_of HHQ.out (i := 0) rfl
  have p0 : W3.cell? ⟨p, 0, none⟩ = some (.slice (some ⟨g, 0, none⟩) (k + 1) co) := cell_of HHP.out (i := 0) rfl
  have hn0 : (0 : Int) ≤ (i : Int) := by omega
  have hn1 : (i : Int) < (n : Int) := by omega
  have HTT : ∀ x, (x < w0.heap.size ∧ ((x = p ∨ x = r0) ∨ base + 2 ≤ x)) → True := fun _ _ => trivial
  by_cases hk7 : s.k = 7
  · have hc : vb = false := by
      rw [← HVB.out]
      have : run S (i + 1) = run S i := run_wait (by rw [RS.out]; exact hk7)
      rw [HMM.out] at this
      rw [this, HC9.out]
      simp
    subst hc
    have HW := Lib.hid (syL_wait (S := S) (n := i) (by rw [RS.out]; exact hk7))
    rw [HD9.out, HC9.out, HT99.out, RS.out] at HW
    have ht9 := HT9.out
    rw [HT99.out] at ht9
    have e1 : IntKind.i64.wrap (t9 + s.n) = t9 + s.n := i64w (by omega)
    have l8 := HL8.out
    have f8 := HOW.out.frozenAt (k * 9 + 8)
    go_wp2_with (fail)
    go_region
    go_end0
    have hm4 : Mut (· = g) W3 (W3.setCell ⟨g, k * 9 + 8, none⟩ (.int .i64 (t9 + s.n))).drew := ((Mut.refl (· = g) W3).setCell (p := ⟨g, k * 9 + 8, none⟩) (fun _ => rfl) _).drew
    have ho4 := own_mut (S := fun _ => False) (w' := (W3.setCell ⟨g, k * 9 + 8, none⟩ (.int .i64 (t9 + s.n))).drew) (own_set (o := k * 9 + 8) (u := .int .i64 (t9 + s.n)) HOW.out) ⟨rfl, rfl, rfl, Nat.le_refl _, fun _ _ _ => rfl⟩ (fun _ _ h => h)
    rw [HLE.out, ← HDL.out, rowL_last, HDL.out] at ho4
    have hl4 : (syL S (i + 1)).length = k + 1 := by rw [HW.out, List.length_append, HDL.out]; rfl
    refine ⟨rfl, ⟨g, co, ?_, heap_mut HHQ.out hm4 (by omega), ?_, hg, HSR.out.mutC hm4 (fun _ x hx => by cases hx; show ¬ b = g; omega)⟩, ((Mut.refl _ w).below HB1.out).after hm4 (fun x hx h => by subst h; exact ⟨by omega, by omega⟩)⟩
    · rw [hl4]; exact heap_mut HHP.out hm4 (by omega)
    · rw [hl4, HW.out]; exact ho4
  · have HK7 := Lib.hid (show (S i).k ≠ 7 by rw [RS.out]; exact hk7)
    rcases vb with _ | _
    · have he : nor m9 = c9 := by have := HVB.out; simpa using this
      have HW := Lib.hid (syL_same (S := S) (n := i) HK7.out (by rw [HMM.out, HC9.out]; exact he))
      go_wp2_with (fail)
      go_end0
      refine ⟨rfl, ⟨g, co, ?_, HHQ.out, ?_, hg, HSR.out⟩, HB1.out.os, HB1.out.tape, HB1.out.output, HB1.out.size, fun x hx _ => HB1.out.block x hx⟩
      · rw [HW.out, HL.out, HLEN.out]; exact HHP.out
      · rw [HW.out, HL.out, HLEN.out]; exact HOW.out
    · have he : nor m9 ≠ c9 := by have := HVB.out; simpa using this
      have HW := Lib.hid (syL_new (S := S) (n := i) HK7.out (by rw [HMM.out, HC9.out]; exact he))
      rw [HL.out, HMM.out] at HW
      have d0 : W3.cell? ⟨w.heap.size + 1, 0, none⟩ = some (.int .i64 m9.x) := cell_of HN3.out (i := 0) rfl
      have d1 : W3.cell? ⟨w.heap.size + 1, 1, none⟩ = some (.int .i64 m9.y) := cell_of HN3.out (i := 1) rfl
      have d2 : W3.cell? ⟨w.heap.size + 1, 2, none⟩ = some (.int .i64 m9.z) := cell_of HN3.out (i := 2) rfl
      have d3 : W3.cell? ⟨w.heap.size + 1, 3, none⟩ = some (.int .i64 m9.s) := cell_of HN3.out (i := 3) rfl
      have d4 : W3.cell? ⟨w.heap.size + 1, 4, none⟩ = some (.int .i64 m9.h) := cell_of HN3.out (i := 4) rfl
      have d5 : W3.cell? ⟨w.heap.size + 1, 5, none⟩ = some (.int .i64 m9.t) := cell_of HN3.out (i := 5) rfl
      have d6 : W3.cell? ⟨w.heap.size + 1, 6, none⟩ = some (.int .i64 m9.f) := cell_of HN3.out (i := 6) rfl
      have d7 : W3.cell? ⟨w.heap.size + 1, 7, none⟩ = some (.bool false) := cell_of HN3.out (i := 7) rfl
      have hgp : g ≠ p := by omega
      go_wp2_with (at_builtin; refine wpList_append_lies _ rfl _ _ 60 rfl r0 62 i0 (.agg #[.int .i64 0, .int .i64 0, .int .i64 0, .int .i64 0, .int .i64 0, .int .i64 0, .int .i64 0, .bool false, .int .i64 0]) 9 72 Try.underlying60 hi0 hz0 hz1 hz2 rfl (by decide) _ _ _ rfl (ownsRow_below (HOW.out) ((Below.refl _ W3).alloc (Nat.le_refl _) _)) ⟨W3.heap.size, 0, none⟩ 1 1 [.int .i64 m9.x, .int .i64 m9.y, .int .i64 m9.z, .int .i64 m9.s, .int .i64 m9.h, .int .i64 m9.t, .int .i64 m9.f, .bool false, .int .i64 0] rfl rfl (World.news_of_block (cs := #[.int .i64 m9.x, .int .i64 m9.y, .int .i64 m9.z, .int .i64 m9.s, .int .i64 m9.h, .int .i64 m9.t, .int .i64 m9.f, .bool false, .int .i64 0]) (t := 62) (fr := (0, 0)) (heap_alloc_new W3 (.cells #[.int .i64 m9.x, .int .i64 m9.y, .int .i64 m9.z, .int .i64 m9.s, .int .i64 m9.h, .int .i64 m9.t, .int .i64 m9.f, .bool false, .int .i64 0] 62))) (by simp [Value.oneCell']) (by omega) (by unfold maxLen; omega) (by omega) (by simp; omega) (W3.heap.size + 1) (by simp) ?_; intro g5 c5 w5 hown5 hgrow5 hge5 hlt5; have HO5 := Lib.hid hown5; have HB5 := Lib.hid (Below.grown (B := r0) (Below.alloc (B := r0) (Below.refl _ W3) (by omega) (.cells #[.int .i64 m9.x, .int .i64 m9.y, .int .i64 m9.z, .int .i64 m9.s, .int .i64 m9.h, .int .i64 m9.t, .int .i64 m9.f, .bool false, .int .i64 0] 62)) hgrow5 (by simp; omega) (fun b hb => ((HOW.out).lt b hb).1)); have HG5 := Lib.hid hgrow5; have HGE := Lib.hid hge5; clear hown5 hgrow5 hge5; have hH5 : w5.heap[p]? = some (.cells #[.slice (some ⟨g, 0, none⟩) (k + 1) co] 60 (0, 0)) := (HG5.out.block p (by simp; omega) (fun e => hgp (Option.some.inj e).symm)).trans ((Below.heap_alloc _ _ _ (by omega)).trans HHP.out); have q5 : w5.cell? ⟨p, 0, none⟩ = some (.slice (some ⟨g, 0, none⟩) (k + 1) co) := cell_of hH5 (i := 0) rfl; have f5 := frozen_of (i := 0) hH5; have HH5 := Lib.hid hH5; have q6 : w5.cell? ⟨q, 0, none⟩ = some (.slice (some ⟨b, off, none⟩) n c) := (HB5.out.cell (p := ⟨q, 0, none⟩) (by show q < r0; omega)).trans q0; have s6 : w5.cell? ⟨b, off + i * 6, none⟩ = some (.int .i64 s.k) := (HB5.out.cell (p := ⟨b, off + i * 6, none⟩) (by show b < r0; omega)).trans s0; have hbp : b ≠ p := (by omega); have hqp : q ≠ p := (by omega); clear hH5)
      have HB2 := Lib.hid ((Mut.refl (· = p) w5).setCell (p := ⟨p, 0, none⟩) (fun _ => rfl) (.slice (some ⟨g5, 0, none⟩) (k + 1 + 1) c5))
      have HH6 := Lib.hid (cells_set (i := 0) HH5.out (.slice (some ⟨g5, 0, none⟩) (k + 1 + 1) c5))
      have hl4 : (syL S (i + 1)).length = k + 1 + 1 := by rw [HW.out, List.length_append, HLEN.out]; rfl
      have hg5 : g5 = r0 ∨ base + 2 ≤ g5 := by
        rcases HGE.out with h | h
        · have h' : g = g5 := Option.some.inj h
          omega
        · omega
      have hg5p : g5 ≠ p := by omega
      have hm5 : Mut (fun b => b < w0.heap.size ∧ ((b = p ∨ b = r0) ∨ base + 2 ≤ b)) w w5 := by
        refine ⟨HG5.out.os.trans HB1.out.os, HG5.out.tape.trans HB1.out.tape, HG5.out.output.trans HB1.out.output, ?_, fun x hx1 hn => ?_⟩
        · have h1 := HG5.out.size
          have h3 : (W3.alloc (.cells #[.int .i64 m9.x, .int .i64 m9.y, .int .i64 m9.z, .int .i64 m9.s, .int .i64 m9.h, .int .i64 m9.t, .int .i64 m9.f, .bool false, .int .i64 0] 62)).heap.size = W3.heap.size + 1 := by simp
          omega
        · rw [HG5.out.block x (by rw [show (W3.alloc (.cells #[.int .i64 m9.x, .int .i64 m9.y, .int .i64 m9.z, .int .i64 m9.s, .int .i64 m9.h, .int .i64 m9.t, .int .i64 m9.f, .bool false, .int .i64 0] 62)).heap.size = W3.heap.size + 1 by simp]; omega) (fun e => hn (by have h' : g = x := (Option.some.inj e).symm; omega)), Below.heap_alloc _ _ _ (by omega), HB1.out.block x hx1]
      have hs5 : StepsR w5 (some ⟨b, off, none⟩) n S := by
        rcases HSR.out with h | ⟨b', off', he, h1, h2⟩
        · exact .inl h
        · cases he
          exact .inr ⟨b, off, rfl, by have := HB5.out.size; omega, fun j hj => by
            obtain ⟨p0, p1, p2, p3, p4, p5⟩ := h2 j hj
            exact ⟨(HB5.out.cell (p := ⟨b, _, none⟩) hbr).trans p0, (HB5.out.cell (p := ⟨b, _, none⟩) hbr).trans p1, (HB5.out.cell (p := ⟨b, _, none⟩) hbr).trans p2, (HB5.out.cell (p := ⟨b, _, none⟩) hbr).trans p3, (HB5.out.cell (p := ⟨b, _, none⟩) hbr).trans p4, (HB5.out.cell (p := ⟨b, _, none⟩) hbr).trans p5⟩⟩
      have hq5 := (HB5.out.block q (by omega)).trans HHQ.out
      go_end0
      refine ⟨rfl, ⟨g5, c5, ?_, heap_mut hq5 HB2.out (by omega), ?_, hg5, hs5.mutC HB2.out (fun _ x hx => by cases hx; show ¬ b = p; omega)⟩, hm5.after HB2.out (fun x hx h => by subst h; exact ⟨by omega, by omega⟩)⟩
      · rw [hl4]; exact HH6.out
      · rw [hl4, HW.out, rowL_app]
        exact own_mut HO5.out HB2.out (fun x hx e => hg5p ((Option.some.inj hx).trans e))
end Go.Proofs.Ytgmpmaiddombeaa

/- The reference's meshes made anew, vertex by vertex. -/
import Derived.Test.YtbkipjceglpmcaaPm
import Derived.Deep.RegionLaw
set_option linter.unusedSimpArgs false
set_option linter.unusedVariables false
namespace Go.Proofs.Ytbkipjceglpmcaa
open Go.RowKit

set_option maxRecDepth 100000 in
set_option maxHeartbeats 4000000 in
theorem made_T (p q : Nat) (G : Nat → V3) (av af : Option Addr) (nv cv nf cf : Nat) (V F : Nat → V3) (w : World) (hv : Row3 w av nv V) (hf : Row3 w af nf F) (hnv : nv ≤ 1000000) (hnf : nf ≤ 1000000)
    (hcl : ∀ W, Below w.heap.size w W → ∀ k, k < nv → Calls Try.prog 57 #[.agg #[.int .i64 (V k).x, .int .i64 (V k).y, .int .i64 (V k).z], .pointer (some ⟨p, 0, none⟩), .pointer (some ⟨q, 0, none⟩)] W fun e w' => e = .returned (.agg #[.int .i64 (G k).x, .int .i64 (G k).y, .int .i64 (G k).z]) ∧ Below W.heap.size W w') :
    Calls Try.prog 56 #[.agg #[.slice av nv cv, .slice af nf cf], .func (.func 57) #[] #[.pointer (some ⟨p, 0, none⟩), .pointer (some ⟨q, 0, none⟩)]] w (MeshR w (fault nv G nf F) nv G nf F) := by
  obtain ⟨i0, hi0, hz0, hz1, hz2⟩ := info_parts info_vec
  have HC := Lib.hid hcl
  have HV := Lib.hid hv
  have HF := Lib.hid hf
  clear hcl hv hf
  go_enter Try.func56, Try.ntmps56
  go_wp2_with (fail)
  refine (cloneF_any af nf cf F _ (HF.out.kept (by repeat (first | exact Below.refl _ _ | assumption | refine Below.drew ?_ | refine bdrewN ?_ _ | refine Below.setCell ?_ (by first | omega | (simp <;> omega)) _ | refine Below.alloc ?_ (by first | omega | (simp <;> omega)) _))) hnf).mono ?_
  rintro e w5 ⟨a5, c5, rfl, ho5, hb5⟩
  have z5 : w.heap.size + 1 + 1 ≤ w5.heap.size := by have := hb5.size; simpa using this
  have z5' : w.heap.size < w5.heap.size := by omega
  have z5'' : w.heap.size + 1 < w5.heap.size := by omega
  have hM : w5.heap[w.heap.size]? = some (.cells #[.slice av nv cv, .slice af nf cf] 29 (0, 0)) := heap_keep hb5 (by repeat (first | (refine heap_new ?_; first | rfl | (simp; done)) | rw [Below.heap_setCell _ _ _ _ (by simp <;> omega)] | rw [Below.heap_alloc _ _ _ (by simp <;> omega)]))
  have hR : w5.heap[w.heap.size + 1]? = some (.cells #[.slice none 0 0, .slice none 0 0] 29 (0, 0)) := heap_keep hb5 (by repeat (first | (refine heap_new ?_; first | rfl | (simp; done)) | rw [Below.heap_setCell _ _ _ _ (by simp <;> omega)] | rw [Below.heap_alloc _ _ _ (by simp <;> omega)]))
  have B5 : Below w.heap.size w w5 := Below.trans (by repeat (first | exact Below.refl _ _ | assumption | refine Below.drew ?_ | refine bdrewN ?_ _ | refine Below.setCell ?_ (by first | omega | (simp <;> omega)) _ | refine Below.alloc ?_ (by first | omega | (simp <;> omega)) _)) (hb5.mono (by simp; omega))
  have HM := Lib.hid hM
  have HR := Lib.hid hR
  have HO5 := Lib.hid (own_base ho5 (base' := w.heap.size) (by simp; omega))
  have HB5 := Lib.hid B5
  have mc0 : w5.cell? ⟨w.heap.size, 0, none⟩ = some (.slice av nv cv) := (by simp [World.cell?, hM]); have mf0 : w5.frozen? ⟨w.heap.size, 0, none⟩ = false := (by simp [World.frozen?, hM]); have mc1 : w5.cell? ⟨w.heap.size, 1, none⟩ = some (.slice af nf cf) := (by simp [World.cell?, hM]); have mf1 : w5.frozen? ⟨w.heap.size, 1, none⟩ = false := (by simp [World.frozen?, hM])
  clear hM hR ho5 hb5 B5
  go_wp2_with (fail)
  go_loopw [16] (fun i wr => ∃ k : Nat, k ≤ nv ∧ i = .int .i64 k ∧ ∃ ao co, wr.heap[w5.heap.size]? = some (.cells #[.slice ao k co, .slice a5 nf c5] 29 (0, 0)) ∧ wr.ownsRow w5.heap.size 33 3 (.slice ao k co) k (cells3 G k) ∧ Below w5.heap.size w5 wr) (fun i _ => nv - (intOf i).toNat)
  case atStart => exact ⟨0, by omega, rfl, none, 0, heap_new rfl, World.ownsRow_nil _ _ _ _, (by repeat (first | exact Below.refl _ _ | assumption | refine Below.drew ?_ | refine bdrewN ?_ _ | refine Below.setCell ?_ (by first | omega | (simp <;> omega)) _ | refine Below.alloc ?_ (by first | omega | (simp <;> omega)) _))⟩
  case round =>
    obtain ⟨k, hk, rfl, ao, co, hm, hown, hbel⟩ := hrel
    have hsz := hbel.size
    have hlm := lt_of_heap hm
    have HO := Lib.hid hown
    have HMW := Lib.hid hm
    have HBL := Lib.hid hbel
    have HBW := Lib.hid (HB5.out.trans (hbel.mono HB5.out.size))
    have oc0 : wr.cell? ⟨w5.heap.size, 0, none⟩ = some (.slice ao k co) := (by simp [World.cell?, hm]); have of0 : wr.frozen? ⟨w5.heap.size, 0, none⟩ = false := (by simp [World.frozen?, hm]); have oc1 : wr.cell? ⟨w5.heap.size, 1, none⟩ = some (.slice a5 nf c5) := (by simp [World.cell?, hm]); have of1 : wr.frozen? ⟨w5.heap.size, 1, none⟩ = false := (by simp [World.frozen?, hm])
    clear hown hm hbel
    by_cases hlt : k < nv
    · rcases HV.out with h | ⟨bf, of, rfl, hbf, hF⟩
      · omega
      obtain ⟨c0, c1, c2⟩ := (hF.kept HBW.out hbf) k hlt
      have hbw : bf < wr.heap.size := by have := HBW.out.size; omega
      clear hF
      go_wp2_with (fail)
      go_region_law (first
        | (refine step_append_lies _ rfl (.tmp 21) (.tmp 25) 26 rfl w5.heap.size 33 i0 (.agg #[.int .i64 0, .int .i64 0, .int .i64 0]) 3 24 Try.underlying26 hi0 hz0 hz1 hz2 rfl (by decide) (.slice ao k co) k (cells3 G k) (by simp [Act.eval, Act.put]) (HO1.out.alloc _) ⟨w1.heap.size, 0, none⟩ 1 1 [.int .i64 (G k).x, .int .i64 (G k).y, .int .i64 (G k).z] (by simp [Act.eval, Act.put]) rfl (World.news_of_block (cs := #[.int .i64 (G k).x, .int .i64 (G k).y, .int .i64 (G k).z]) (t := 33) (fr := (0, 0)) (heap_alloc_new w1 _)) (by simp [Value.oneCell']) (by omega) (by unfold maxLen; omega) (by omega) (by simp; omega) (w1.heap.size + 1) (by simp) ?_; intro g cap' w4 hown4 hgrow hat hlt4; have hm4 := grow_keep hgrow ((Below.heap_alloc w1 _ _ (lt_of_heap HM1.out)).trans HM1.out) (own_ne HO1.out HM1.out (by decide)); have pc0 : w4.cell? ⟨w5.heap.size, 0, none⟩ = some (.slice ao k co) := (by simp [World.cell?, hm4]); have pf0 : w4.frozen? ⟨w5.heap.size, 0, none⟩ = false := (by simp [World.frozen?, hm4]); have pc1 : w4.cell? ⟨w5.heap.size, 1, none⟩ = some (.slice a5 nf c5) := (by simp [World.cell?, hm4]); have pf1 : w4.frozen? ⟨w5.heap.size, 1, none⟩ = false := (by simp [World.frozen?, hm4]); have HM4 := Lib.hid hm4; have HG4 := Lib.hid hgrow; have HO4 := Lib.hid hown4; clear hm4 hgrow hown4)
        | (go_simp; go_at_call 57; refine (HC.out _ (by first | exact (Below.alloc HBW.out (by have := HBW.out.size; omega) _).drew | exact Below.alloc HBW.out (by have := HBW.out.size; omega) _) k hlt).mono ?_; rintro e w1 ⟨rfl, hb1⟩; have B1 : Below wr.heap.size wr w1 := Below.trans (by repeat (first | exact Below.refl _ _ | assumption | refine Below.drew ?_ | refine bdrewN ?_ _ | refine Below.setCell ?_ (by first | omega | (simp <;> omega)) _ | refine Below.alloc ?_ (by first | omega | (simp <;> omega)) _)) (hb1.mono (by simp)); have z1 : wr.heap.size + 1 ≤ w1.heap.size := (by have := hb1.size; simpa using this); have HO1 := Lib.hid (ownsRow_below HO.out B1); have hm1 := heap_keep B1 HMW.out; have HM1 := Lib.hid hm1; have hl1 := lt_of_heap hm1; have qc0 : w1.cell? ⟨w5.heap.size, 0, none⟩ = some (.slice ao k co) := (by simp [World.cell?, hm1]); have qf0 : w1.frozen? ⟨w5.heap.size, 0, none⟩ = false := (by simp [World.frozen?, hm1]); have qc1 : w1.cell? ⟨w5.heap.size, 1, none⟩ = some (.slice a5 nf c5) := (by simp [World.cell?, hm1]); have qf1 : w1.frozen? ⟨w5.heap.size, 1, none⟩ = false := (by simp [World.frozen?, hm1]); have HB1 := Lib.hid (HBL.out.trans (B1.mono hsz)); clear hb1 B1 hm1))
      all_goals
        have HB4 := Lib.hid (Below.grown (Below.alloc HB1.out (by have := HB1.out.size; omega) _) HG4.out (by simp; omega) (fun b hb => (HO1.out.lt b hb).1))
        go_wp2
        go_roundw
        case rel => exact ⟨k + 1, by omega, by go_num, _, _, set2_0 HM4.out, own_set HO4.out HM4.out (by decide), HB4.out.setCell (by show _ ≤ w5.heap.size; omega) _⟩
        case measure => simp [intOf]; omega
    · obtain rfl : nv = k := by omega
      have HF6 := Lib.hid (ownsRow_below HO5.out HBL.out)
      have hr := (HBL.out.block (w.heap.size + 1) (by omega)).trans HR.out
      have HR6 := Lib.hid hr
      clear hr
      go_wp2_with (fail)
      refine (right_any ao a5 nv co nf c5 G F _ (own_row3 HO.out) (own_row3 HF6.out) hnv hnf).mono ?_
      rintro e w6 ⟨rfl, hb6⟩
      have HB6 := Lib.hid hb6
      have hr := heap_keep hb6 HR6.out
      have hlr := lt_of_heap hr
      have rc0 : w6.cell? ⟨w.heap.size + 1, 0, none⟩ = some (.slice none 0 0) := (by simp [World.cell?, hr]); have rf0 : w6.frozen? ⟨w.heap.size + 1, 0, none⟩ = false := (by simp [World.frozen?, hr]); have rc1 : w6.cell? ⟨w.heap.size + 1, 1, none⟩ = some (.slice none 0 0) := (by simp [World.cell?, hr]); have rf1 : w6.frozen? ⟨w.heap.size + 1, 1, none⟩ = false := (by simp [World.frozen?, hr])
      have HR7 := Lib.hid hr
      clear hr hb6
      generalize hE : fault nv G nf F = E
      have R := Lib.hid ((HBW.out.trans (HB6.out.mono HBW.out.size)).setCell (p := ⟨w.heap.size + 1, 0, none⟩) (by show _ ≤ w.heap.size + 1; omega) (.slice (za E ao) (zr E nv) (zr E co)) |>.setCell (p := ⟨w.heap.size + 1, 1, none⟩) (by show _ ≤ w.heap.size + 1; omega) (.slice (za E a5) (zr E nf) (zr E c5)))
      have P1 := Lib.hid (own_set (o := 1) (u := .slice (za E a5) (zr E nf) (zr E c5)) (own_set (o := 0) (u := .slice (za E ao) (zr E nv) (zr E co)) (ownsRow_below HO.out HB6.out) HR7.out (by decide)) (set2_0 HR7.out) (by decide))
      have P2 := Lib.hid (own_set (o := 1) (u := .slice (za E a5) (zr E nf) (zr E c5)) (own_set (o := 0) (u := .slice (za E ao) (zr E nv) (zr E co)) (ownsRow_below HF6.out HB6.out) HR7.out (by decide)) (set2_0 HR7.out) (by decide))
      have HE := Lib.hid hE
      clear hE
      go_wp2
      exact bodyPost_ret (v := .tuple #[.agg #[.slice (za E ao) (zr E nv) (zr E co), .slice (za E a5) (zr E nf) (zr E c5)], .int .i64 E]) (by simp [results, Try.results56, go_sem, rc0, rc1]) rfl (MeshR.from (meshR_of P1.out P2.out (by omega) (by omega) R.out) (Below.refl _ _) HE.out.symm)

set_option maxRecDepth 100000 in
set_option maxHeartbeats 4000000 in
theorem made_M (p : Nat) (G : Nat → V3) (av af : Option Addr) (nv cv nf cf : Nat) (V F : Nat → V3) (w : World) (hv : Row3 w av nv V) (hf : Row3 w af nf F) (hnv : nv ≤ 1000000) (hnf : nf ≤ 1000000)
    (hcl : ∀ W, Below w.heap.size w W → ∀ k, k < nv → Calls Try.prog 58 #[.agg #[.int .i64 (V k).x, .int .i64 (V k).y, .int .i64 (V k).z], .pointer (some ⟨p, 0, none⟩)] W fun e w' => e = .returned (.agg #[.int .i64 (G k).x, .int .i64 (G k).y, .int .i64 (G k).z]) ∧ Below W.heap.size W w') :
    Calls Try.prog 56 #[.agg #[.slice av nv cv, .slice af nf cf], .func (.func 58) #[] #[.pointer (some ⟨p, 0, none⟩)]] w (MeshR w (fault nv G nf F) nv G nf F) := by
  obtain ⟨i0, hi0, hz0, hz1, hz2⟩ := info_parts info_vec
  have HC := Lib.hid hcl
  have HV := Lib.hid hv
  have HF := Lib.hid hf
  clear hcl hv hf
  go_enter Try.func56, Try.ntmps56
  go_wp2_with (fail)
  refine (cloneF_any af nf cf F _ (HF.out.kept (by repeat (first | exact Below.refl _ _ | assumption | refine Below.drew ?_ | refine bdrewN ?_ _ | refine Below.setCell ?_ (by first | omega | (simp <;> omega)) _ | refine Below.alloc ?_ (by first | omega | (simp <;> omega)) _))) hnf).mono ?_
  rintro e w5 ⟨a5, c5, rfl, ho5, hb5⟩
  have z5 : w.heap.size + 1 + 1 ≤ w5.heap.size := by have := hb5.size; simpa using this
  have z5' : w.heap.size < w5.heap.size := by omega
  have z5'' : w.heap.size + 1 < w5.heap.size := by omega
  have hM : w5.heap[w.heap.size]? = some (.cells #[.slice av nv cv, .slice af nf cf] 29 (0, 0)) := heap_keep hb5 (by repeat (first | (refine heap_new ?_; first | rfl | (simp; done)) | rw [Below.heap_setCell _ _ _ _ (by simp <;> omega)] | rw [Below.heap_alloc _ _ _ (by simp <;> omega)]))
  have hR : w5.heap[w.heap.size + 1]? = some (.cells #[.slice none 0 0, .slice none 0 0] 29 (0, 0)) := heap_keep hb5 (by repeat (first | (refine heap_new ?_; first | rfl | (simp; done)) | rw [Below.heap_setCell _ _ _ _ (by simp <;> omega)] | rw [Below.heap_alloc _ _ _ (by simp <;> omega)]))
  have B5 : Below w.heap.size w w5 := Below.trans (by repeat (first | exact Below.refl _ _ | assumption | refine Below.drew ?_ | refine bdrewN ?_ _ | refine Below.setCell ?_ (by first | omega | (simp <;> omega)) _ | refine Below.alloc ?_ (by first | omega | (simp <;> omega)) _)) (hb5.mono (by simp; omega))
  have HM := Lib.hid hM
  have HR := Lib.hid hR
  have HO5 := Lib.hid (own_base ho5 (base' := w.heap.size) (by simp; omega))
  have HB5 := Lib.hid B5
  have mc0 : w5.cell? ⟨w.heap.size, 0, none⟩ = some (.slice av nv cv) := (by simp [World.cell?, hM]); have mf0 : w5.frozen? ⟨w.heap.size, 0, none⟩ = false := (by simp [World.frozen?, hM]); have mc1 : w5.cell? ⟨w.heap.size, 1, none⟩ = some (.slice af nf cf) := (by simp [World.cell?, hM]); have mf1 : w5.frozen? ⟨w.heap.size, 1, none⟩ = false := (by simp [World.frozen?, hM])
  clear hM hR ho5 hb5 B5
  go_wp2_with (fail)
  go_loopw [16] (fun i wr => ∃ k : Nat, k ≤ nv ∧ i = .int .i64 k ∧ ∃ ao co, wr.heap[w5.heap.size]? = some (.cells #[.slice ao k co, .slice a5 nf c5] 29 (0, 0)) ∧ wr.ownsRow w5.heap.size 33 3 (.slice ao k co) k (cells3 G k) ∧ Below w5.heap.size w5 wr) (fun i _ => nv - (intOf i).toNat)
  case atStart => exact ⟨0, by omega, rfl, none, 0, heap_new rfl, World.ownsRow_nil _ _ _ _, (by repeat (first | exact Below.refl _ _ | assumption | refine Below.drew ?_ | refine bdrewN ?_ _ | refine Below.setCell ?_ (by first | omega | (simp <;> omega)) _ | refine Below.alloc ?_ (by first | omega | (simp <;> omega)) _))⟩
  case round =>
    obtain ⟨k, hk, rfl, ao, co, hm, hown, hbel⟩ := hrel
    have hsz := hbel.size
    have hlm := lt_of_heap hm
    have HO := Lib.hid hown
    have HMW := Lib.hid hm
    have HBL := Lib.hid hbel
    have HBW := Lib.hid (HB5.out.trans (hbel.mono HB5.out.size))
    have oc0 : wr.cell? ⟨w5.heap.size, 0, none⟩ = some (.slice ao k co) := (by simp [World.cell?, hm]); have of0 : wr.frozen? ⟨w5.heap.size, 0, none⟩ = false := (by simp [World.frozen?, hm]); have oc1 : wr.cell? ⟨w5.heap.size, 1, none⟩ = some (.slice a5 nf c5) := (by simp [World.cell?, hm]); have of1 : wr.frozen? ⟨w5.heap.size, 1, none⟩ = false := (by simp [World.frozen?, hm])
    clear hown hm hbel
    by_cases hlt : k < nv
    · rcases HV.out with h | ⟨bf, of, rfl, hbf, hF⟩
      · omega
      obtain ⟨c0, c1, c2⟩ := (hF.kept HBW.out hbf) k hlt
      have hbw : bf < wr.heap.size := by have := HBW.out.size; omega
      clear hF
      go_wp2_with (fail)
      go_region_law (first
        | (refine step_append_lies _ rfl (.tmp 21) (.tmp 25) 26 rfl w5.heap.size 33 i0 (.agg #[.int .i64 0, .int .i64 0, .int .i64 0]) 3 24 Try.underlying26 hi0 hz0 hz1 hz2 rfl (by decide) (.slice ao k co) k (cells3 G k) (by simp [Act.eval, Act.put]) (HO1.out.alloc _) ⟨w1.heap.size, 0, none⟩ 1 1 [.int .i64 (G k).x, .int .i64 (G k).y, .int .i64 (G k).z] (by simp [Act.eval, Act.put]) rfl (World.news_of_block (cs := #[.int .i64 (G k).x, .int .i64 (G k).y, .int .i64 (G k).z]) (t := 33) (fr := (0, 0)) (heap_alloc_new w1 _)) (by simp [Value.oneCell']) (by omega) (by unfold maxLen; omega) (by omega) (by simp; omega) (w1.heap.size + 1) (by simp) ?_; intro g cap' w4 hown4 hgrow hat hlt4; have hm4 := grow_keep hgrow ((Below.heap_alloc w1 _ _ (lt_of_heap HM1.out)).trans HM1.out) (own_ne HO1.out HM1.out (by decide)); have pc0 : w4.cell? ⟨w5.heap.size, 0, none⟩ = some (.slice ao k co) := (by simp [World.cell?, hm4]); have pf0 : w4.frozen? ⟨w5.heap.size, 0, none⟩ = false := (by simp [World.frozen?, hm4]); have pc1 : w4.cell? ⟨w5.heap.size, 1, none⟩ = some (.slice a5 nf c5) := (by simp [World.cell?, hm4]); have pf1 : w4.frozen? ⟨w5.heap.size, 1, none⟩ = false := (by simp [World.frozen?, hm4]); have HM4 := Lib.hid hm4; have HG4 := Lib.hid hgrow; have HO4 := Lib.hid hown4; clear hm4 hgrow hown4)
        | (go_simp; go_at_call 58; refine (HC.out _ (by first | exact (Below.alloc HBW.out (by have := HBW.out.size; omega) _).drew | exact Below.alloc HBW.out (by have := HBW.out.size; omega) _) k hlt).mono ?_; rintro e w1 ⟨rfl, hb1⟩; have B1 : Below wr.heap.size wr w1 := Below.trans (by repeat (first | exact Below.refl _ _ | assumption | refine Below.drew ?_ | refine bdrewN ?_ _ | refine Below.setCell ?_ (by first | omega | (simp <;> omega)) _ | refine Below.alloc ?_ (by first | omega | (simp <;> omega)) _)) (hb1.mono (by simp)); have z1 : wr.heap.size + 1 ≤ w1.heap.size := (by have := hb1.size; simpa using this); have HO1 := Lib.hid (ownsRow_below HO.out B1); have hm1 := heap_keep B1 HMW.out; have HM1 := Lib.hid hm1; have hl1 := lt_of_heap hm1; have qc0 : w1.cell? ⟨w5.heap.size, 0, none⟩ = some (.slice ao k co) := (by simp [World.cell?, hm1]); have qf0 : w1.frozen? ⟨w5.heap.size, 0, none⟩ = false := (by simp [World.frozen?, hm1]); have qc1 : w1.cell? ⟨w5.heap.size, 1, none⟩ = some (.slice a5 nf c5) := (by simp [World.cell?, hm1]); have qf1 : w1.frozen? ⟨w5.heap.size, 1, none⟩ = false := (by simp [World.frozen?, hm1]); have HB1 := Lib.hid (HBL.out.trans (B1.mono hsz)); clear hb1 B1 hm1))
      all_goals
        have HB4 := Lib.hid (Below.grown (Below.alloc HB1.out (by have := HB1.out.size; omega) _) HG4.out (by simp; omega) (fun b hb => (HO1.out.lt b hb).1))
        go_wp2
        go_roundw
        case rel => exact ⟨k + 1, by omega, by go_num, _, _, set2_0 HM4.out, own_set HO4.out HM4.out (by decide), HB4.out.setCell (by show _ ≤ w5.heap.size; omega) _⟩
        case measure => simp [intOf]; omega
    · obtain rfl : nv = k := by omega
      have HF6 := Lib.hid (ownsRow_below HO5.out HBL.out)
      have hr := (HBL.out.block (w.heap.size + 1) (by omega)).trans HR.out
      have HR6 := Lib.hid hr
      clear hr
      go_wp2_with (fail)
      refine (right_any ao a5 nv co nf c5 G F _ (own_row3 HO.out) (own_row3 HF6.out) hnv hnf).mono ?_
      rintro e w6 ⟨rfl, hb6⟩
      have HB6 := Lib.hid hb6
      have hr := heap_keep hb6 HR6.out
      have hlr := lt_of_heap hr
      have rc0 : w6.cell? ⟨w.heap.size + 1, 0, none⟩ = some (.slice none 0 0) := (by simp [World.cell?, hr]); have rf0 : w6.frozen? ⟨w.heap.size + 1, 0, none⟩ = false := (by simp [World.frozen?, hr]); have rc1 : w6.cell? ⟨w.heap.size + 1, 1, none⟩ = some (.slice none 0 0) := (by simp [World.cell?, hr]); have rf1 : w6.frozen? ⟨w.heap.size + 1, 1, none⟩ = false := (by simp [World.frozen?, hr])
      have HR7 := Lib.hid hr
      clear hr hb6
      generalize hE : fault nv G nf F = E
      have R := Lib.hid ((HBW.out.trans (HB6.out.mono HBW.out.size)).setCell (p := ⟨w.heap.size + 1, 0, none⟩) (by show _ ≤ w.heap.size + 1; omega) (.slice (za E ao) (zr E nv) (zr E co)) |>.setCell (p := ⟨w.heap.size + 1, 1, none⟩) (by show _ ≤ w.heap.size + 1; omega) (.slice (za E a5) (zr E nf) (zr E c5)))
      have P1 := Lib.hid (own_set (o := 1) (u := .slice (za E a5) (zr E nf) (zr E c5)) (own_set (o := 0) (u := .slice (za E ao) (zr E nv) (zr E co)) (ownsRow_below HO.out HB6.out) HR7.out (by decide)) (set2_0 HR7.out) (by decide))
      have P2 := Lib.hid (own_set (o := 1) (u := .slice (za E a5) (zr E nf) (zr E c5)) (own_set (o := 0) (u := .slice (za E ao) (zr E nv) (zr E co)) (ownsRow_below HF6.out HB6.out) HR7.out (by decide)) (set2_0 HR7.out) (by decide))
      have HE := Lib.hid hE
      clear hE
      go_wp2
      exact bodyPost_ret (v := .tuple #[.agg #[.slice (za E ao) (zr E nv) (zr E co), .slice (za E a5) (zr E nf) (zr E c5)], .int .i64 E]) (by simp [results, Try.results56, go_sem, rc0, rc1]) rfl (MeshR.from (meshR_of P1.out P2.out (by omega) (by omega) R.out) (Below.refl _ _) HE.out.symm)

set_option maxRecDepth 100000 in
set_option maxHeartbeats 4000000 in
theorem made_R (p : Nat) (G : Nat → V3) (av af : Option Addr) (nv cv nf cf : Nat) (V F : Nat → V3) (w : World) (hv : Row3 w av nv V) (hf : Row3 w af nf F) (hnv : nv ≤ 1000000) (hnf : nf ≤ 1000000)
    (hcl : ∀ W, Below w.heap.size w W → ∀ k, k < nv → Calls Try.prog 60 #[.agg #[.int .i64 (V k).x, .int .i64 (V k).y, .int .i64 (V k).z], .pointer (some ⟨p, 0, none⟩)] W fun e w' => e = .returned (.agg #[.int .i64 (G k).x, .int .i64 (G k).y, .int .i64 (G k).z]) ∧ Below W.heap.size W w') :
    Calls Try.prog 56 #[.agg #[.slice av nv cv, .slice af nf cf], .func (.func 60) #[] #[.pointer (some ⟨p, 0, none⟩)]] w (MeshR w (fault nv G nf F) nv G nf F) := by
  obtain ⟨i0, hi0, hz0, hz1, hz2⟩ := info_parts info_vec
  have HC := Lib.hid hcl
  have HV := Lib.hid hv
  have HF := Lib.hid hf
  clear hcl hv hf
  go_enter Try.func56, Try.ntmps56
  go_wp2_with (fail)
  refine (cloneF_any af nf cf F _ (HF.out.kept (by repeat (first | exact Below.refl _ _ | assumption | refine Below.drew ?_ | refine bdrewN ?_ _ | refine Below.setCell ?_ (by first | omega | (simp <;> omega)) _ | refine Below.alloc ?_ (by first | omega | (simp <;> omega)) _))) hnf).mono ?_
  rintro e w5 ⟨a5, c5, rfl, ho5, hb5⟩
  have z5 : w.heap.size + 1 + 1 ≤ w5.heap.size := by have := hb5.size; simpa using this
  have z5' : w.heap.size < w5.heap.size := by omega
  have z5'' : w.heap.size + 1 < w5.heap.size := by omega
  have hM : w5.heap[w.heap.size]? = some (.cells #[.slice av nv cv, .slice af nf cf] 29 (0, 0)) := heap_keep hb5 (by repeat (first | (refine heap_new ?_; first | rfl | (simp; done)) | rw [Below.heap_setCell _ _ _ _ (by simp <;> omega)] | rw [Below.heap_alloc _ _ _ (by simp <;> omega)]))
  have hR : w5.heap[w.heap.size + 1]? = some (.cells #[.slice none 0 0, .slice none 0 0] 29 (0, 0)) := heap_keep hb5 (by repeat (first | (refine heap_new ?_; first | rfl | (simp; done)) | rw [Below.heap_setCell _ _ _ _ (by simp <;> omega)] | rw [Below.heap_alloc _ _ _ (by simp <;> omega)]))
  have B5 : Below w.heap.size w w5 := Below.trans (by repeat (first | exact Below.refl _ _ | assumption | refine Below.drew ?_ | refine bdrewN ?_ _ | refine Below.setCell ?_ (by first | omega | (simp <;> omega)) _ | refine Below.alloc ?_ (by first | omega | (simp <;> omega)) _)) (hb5.mono (by simp; omega))
  have HM := Lib.hid hM
  have HR := Lib.hid hR
  have HO5 := Lib.hid (own_base ho5 (base' := w.heap.size) (by simp; omega))
  have HB5 := Lib.hid B5
  have mc0 : w5.cell? ⟨w.heap.size, 0, none⟩ = some (.slice av nv cv) := (by simp [World.cell?, hM]); have mf0 : w5.frozen? ⟨w.heap.size, 0, none⟩ = false := (by simp [World.frozen?, hM]); have mc1 : w5.cell? ⟨w.heap.size, 1, none⟩ = some (.slice af nf cf) := (by simp [World.cell?, hM]); have mf1 : w5.frozen? ⟨w.heap.size, 1, none⟩ = false := (by simp [World.frozen?, hM])
  clear hM hR ho5 hb5 B5
  go_wp2_with (fail)
  go_loopw [16] (fun i wr => ∃ k : Nat, k ≤ nv ∧ i = .int .i64 k ∧ ∃ ao co, wr.heap[w5.heap.size]? = some (.cells #[.slice ao k co, .slice a5 nf c5] 29 (0, 0)) ∧ wr.ownsRow w5.heap.size 33 3 (.slice ao k co) k (cells3 G k) ∧ Below w5.heap.size w5 wr) (fun i _ => nv - (intOf i).toNat)
  case atStart => exact ⟨0, by omega, rfl, none, 0, heap_new rfl, World.ownsRow_nil _ _ _ _, (by repeat (first | exact Below.refl _ _ | assumption | refine Below.drew ?_ | refine bdrewN ?_ _ | refine Below.setCell ?_ (by first | omega | (simp <;> omega)) _ | refine Below.alloc ?_ (by first | omega | (simp <;> omega)) _))⟩
  case round =>
    obtain ⟨k, hk, rfl, ao, co, hm, hown, hbel⟩ := hrel
    have hsz := hbel.size
    have hlm := lt_of_heap hm
    have HO := Lib.hid hown
    have HMW := Lib.hid hm
    have HBL := Lib.hid hbel
    have HBW := Lib.hid (HB5.out.trans (hbel.mono HB5.out.size))
    have oc0 : wr.cell? ⟨w5.heap.size, 0, none⟩ = some (.slice ao k co) := (by simp [World.cell?, hm]); have of0 : wr.frozen? ⟨w5.heap.size, 0, none⟩ = false := (by simp [World.frozen?, hm]); have oc1 : wr.cell? ⟨w5.heap.size, 1, none⟩ = some (.slice a5 nf c5) := (by simp [World.cell?, hm]); have of1 : wr.frozen? ⟨w5.heap.size, 1, none⟩ = false := (by simp [World.frozen?, hm])
    clear hown hm hbel
    by_cases hlt : k < nv
    · rcases HV.out with h | ⟨bf, of, rfl, hbf, hF⟩
      · omega
      obtain ⟨c0, c1, c2⟩ := (hF.kept HBW.out hbf) k hlt
      have hbw : bf < wr.heap.size := by have := HBW.out.size; omega
      clear hF
      go_wp2_with (fail)
      go_region_law (first
        | (refine step_append_lies _ rfl (.tmp 21) (.tmp 25) 26 rfl w5.heap.size 33 i0 (.agg #[.int .i64 0, .int .i64 0, .int .i64 0]) 3 24 Try.underlying26 hi0 hz0 hz1 hz2 rfl (by decide) (.slice ao k co) k (cells3 G k) (by simp [Act.eval, Act.put]) (HO1.out.alloc _) ⟨w1.heap.size, 0, none⟩ 1 1 [.int .i64 (G k).x, .int .i64 (G k).y, .int .i64 (G k).z] (by simp [Act.eval, Act.put]) rfl (World.news_of_block (cs := #[.int .i64 (G k).x, .int .i64 (G k).y, .int .i64 (G k).z]) (t := 33) (fr := (0, 0)) (heap_alloc_new w1 _)) (by simp [Value.oneCell']) (by omega) (by unfold maxLen; omega) (by omega) (by simp; omega) (w1.heap.size + 1) (by simp) ?_; intro g cap' w4 hown4 hgrow hat hlt4; have hm4 := grow_keep hgrow ((Below.heap_alloc w1 _ _ (lt_of_heap HM1.out)).trans HM1.out) (own_ne HO1.out HM1.out (by decide)); have pc0 : w4.cell? ⟨w5.heap.size, 0, none⟩ = some (.slice ao k co) := (by simp [World.cell?, hm4]); have pf0 : w4.frozen? ⟨w5.heap.size, 0, none⟩ = false := (by simp [World.frozen?, hm4]); have pc1 : w4.cell? ⟨w5.heap.size, 1, none⟩ = some (.slice a5 nf c5) := (by simp [World.cell?, hm4]); have pf1 : w4.frozen? ⟨w5.heap.size, 1, none⟩ = false := (by simp [World.frozen?, hm4]); have HM4 := Lib.hid hm4; have HG4 := Lib.hid hgrow; have HO4 := Lib.hid hown4; clear hm4 hgrow hown4)
        | (go_simp; go_at_call 60; refine (HC.out _ (by first | exact (Below.alloc HBW.out (by have := HBW.out.size; omega) _).drew | exact Below.alloc HBW.out (by have := HBW.out.size; omega) _) k hlt).mono ?_; rintro e w1 ⟨rfl, hb1⟩; have B1 : Below wr.heap.size wr w1 := Below.trans (by repeat (first | exact Below.refl _ _ | assumption | refine Below.drew ?_ | refine bdrewN ?_ _ | refine Below.setCell ?_ (by first | omega | (simp <;> omega)) _ | refine Below.alloc ?_ (by first | omega | (simp <;> omega)) _)) (hb1.mono (by simp)); have z1 : wr.heap.size + 1 ≤ w1.heap.size := (by have := hb1.size; simpa using this); have HO1 := Lib.hid (ownsRow_below HO.out B1); have hm1 := heap_keep B1 HMW.out; have HM1 := Lib.hid hm1; have hl1 := lt_of_heap hm1; have qc0 : w1.cell? ⟨w5.heap.size, 0, none⟩ = some (.slice ao k co) := (by simp [World.cell?, hm1]); have qf0 : w1.frozen? ⟨w5.heap.size, 0, none⟩ = false := (by simp [World.frozen?, hm1]); have qc1 : w1.cell? ⟨w5.heap.size, 1, none⟩ = some (.slice a5 nf c5) := (by simp [World.cell?, hm1]); have qf1 : w1.frozen? ⟨w5.heap.size, 1, none⟩ = false := (by simp [World.frozen?, hm1]); have HB1 := Lib.hid (HBL.out.trans (B1.mono hsz)); clear hb1 B1 hm1))
      all_goals
        have HB4 := Lib.hid (Below.grown (Below.alloc HB1.out (by have := HB1.out.size; omega) _) HG4.out (by simp; omega) (fun b hb => (HO1.out.lt b hb).1))
        go_wp2
        go_roundw
        case rel => exact ⟨k + 1, by omega, by go_num, _, _, set2_0 HM4.out, own_set HO4.out HM4.out (by decide), HB4.out.setCell (by show _ ≤ w5.heap.size; omega) _⟩
        case measure => simp [intOf]; omega
    · obtain rfl : nv = k := by omega
      have HF6 := Lib.hid (ownsRow_below HO5.out HBL.out)
      have hr := (HBL.out.block (w.heap.size + 1) (by omega)).trans HR.out
      have HR6 := Lib.hid hr
      clear hr
      go_wp2_with (fail)
      refine (right_any ao a5 nv co nf c5 G F _ (own_row3 HO.out) (own_row3 HF6.out) hnv hnf).mono ?_
      rintro e w6 ⟨rfl, hb6⟩
      have HB6 := Lib.hid hb6
      have hr := heap_keep hb6 HR6.out
      have hlr := lt_of_heap hr
      have rc0 : w6.cell? ⟨w.heap.size + 1, 0, none⟩ = some (.slice none 0 0) := (by simp [World.cell?, hr]); have rf0 : w6.frozen? ⟨w.heap.size + 1, 0, none⟩ = false := (by simp [World.frozen?, hr]); have rc1 : w6.cell? ⟨w.heap.size + 1, 1, none⟩ = some (.slice none 0 0) := (by simp [World.cell?, hr]); have rf1 : w6.frozen? ⟨w.heap.size + 1, 1, none⟩ = false := (by simp [World.frozen?, hr])
      have HR7 := Lib.hid hr
      clear hr hb6
      generalize hE : fault nv G nf F = E
      have R := Lib.hid ((HBW.out.trans (HB6.out.mono HBW.out.size)).setCell (p := ⟨w.heap.size + 1, 0, none⟩) (by show _ ≤ w.heap.size + 1; omega) (.slice (za E ao) (zr E nv) (zr E co)) |>.setCell (p := ⟨w.heap.size + 1, 1, none⟩) (by show _ ≤ w.heap.size + 1; omega) (.slice (za E a5) (zr E nf) (zr E c5)))
      have P1 := Lib.hid (own_set (o := 1) (u := .slice (za E a5) (zr E nf) (zr E c5)) (own_set (o := 0) (u := .slice (za E ao) (zr E nv) (zr E co)) (ownsRow_below HO.out HB6.out) HR7.out (by decide)) (set2_0 HR7.out) (by decide))
      have P2 := Lib.hid (own_set (o := 1) (u := .slice (za E a5) (zr E nf) (zr E c5)) (own_set (o := 0) (u := .slice (za E ao) (zr E nv) (zr E co)) (ownsRow_below HF6.out HB6.out) HR7.out (by decide)) (set2_0 HR7.out) (by decide))
      have HE := Lib.hid hE
      clear hE
      go_wp2
      exact bodyPost_ret (v := .tuple #[.agg #[.slice (za E ao) (zr E nv) (zr E co), .slice (za E a5) (zr E nf) (zr E c5)], .int .i64 E]) (by simp [results, Try.results56, go_sem, rc0, rc1]) rfl (MeshR.from (meshR_of P1.out P2.out (by omega) (by omega) R.out) (Below.refl _ _) HE.out.symm)
end Go.Proofs.Ytbkipjceglpmcaa

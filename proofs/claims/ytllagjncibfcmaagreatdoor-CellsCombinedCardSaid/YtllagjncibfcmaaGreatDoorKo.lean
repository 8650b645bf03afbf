/- A set of cells as a value. -/
import Derived.Test.YtllagjncibfcmaaGreatDoorKn
import Derived.Test.YtllagjncibfcmaaGreatDoorKf
set_option linter.unusedSimpArgs false
set_option linter.unusedVariables false
namespace Go.Proofs.YtllagjncibfcmaaGreatDoor
open Go.RowKit Go.Maps

theorem own_below {w w' : World} {bm nn : Nat} {l : List (Int × Int)} (h : w.ownsMap Tryz.prog 72 (plainElem Tryz.prog 4) bm nn (DS l)) (hb : Below w.heap.size w w') : w'.ownsMap Tryz.prog 72 (plainElem Tryz.prog 4) bm nn (DS l) := by
  obtain ⟨es, clock, h1, F, hs, hD⟩ := h
  exact ⟨es, clock, heap_keep hb h1, F, hs, hD⟩
theorem own_lt {w w' : World} {B bm nn : Nat} {l : List (Int × Int)} (h : w.ownsMap Tryz.prog 72 (plainElem Tryz.prog 4) bm nn (DS l)) (hlt : bm < B) (hb : Below B w w') : w'.ownsMap Tryz.prog 72 (plainElem Tryz.prog 4) bm nn (DS l) := by
  obtain ⟨es, clock, h1, F, hs, hD⟩ := h
  exact ⟨es, clock, (hb.block bm hlt).trans h1, F, hs, hD⟩
theorem str_snoc (T : List UInt8) (b : UInt8) : (⟨T.toArray⟩ : ByteArray) ++ ⟨#[b]⟩ = ⟨(T ++ [b]).toArray⟩ := by
  apply ByteArray.ext
  rw [ByteArray.data_append]
  simp
theorem truth_any (b : Bool) (w : World) : Calls Tryz.prog 52 #[.bool b] w fun e w' => e = .returned (.int .i64 (if b then 1 else 0)) ∧ w' = w := by
  rcases b with _ | _
  all_goals
    go_enter Tryz.func52, Tryz.ntmps52
    go_wp2
    go_ret
    exact ⟨rfl, rfl⟩
theorem truth_no (w : World) : Calls Tryz.prog 52 #[.bool false] w fun e w' => e = .returned (.int .i64 0) ∧ w' = w := truth_any false w
theorem truth_yes (w : World) : Calls Tryz.prog 52 #[.bool true] w fun e w' => e = .returned (.int .i64 1) ∧ w' = w := truth_any true w
theorem ds_at {c r : Int} (hc : smx c) (hr : smx r) : ∀ (l : List (Int × Int)) (D : DataW Unit) (z : Bool), Tidy D → D.atKey (SPK c r) (.lit (.bool false)) = .lit (.bool z) → (∀ p ∈ l, smx p.1 ∧ smx p.2) → (l.foldl dput D).atKey (SPK c r) (.lit (.bool false)) = .lit (.bool (z || decide ((c, r) ∈ l)))
  | [], D, z, _, h, _ => by simpa using h
  | p :: l, D, z, hD, h, hl => by
    have hp := hl p (by simp)
    have hT : Tidy (dput D p) := hD.put (spk_lit _ _) _
    by_cases e : SPK c r = SPK p.1 p.2
    · obtain ⟨e1, e2⟩ := spk_inj (smx_wf hc) (smx_wf hr) (smx_wf hp.1) (smx_wf hp.2) e
      have h1 : (dput D p).atKey (SPK c r) (.lit (.bool false)) = .lit (.bool true) := by
        rw [e]; exact atKey_put_same hD.isMap (spk_lit _ _) _ _
      rw [List.foldl_cons, ds_at hc hr l _ true hT h1 (fun q hq => hl q (by simp [hq]))]
      have : (c, r) = p := by rw [e1, e2]
      simp [this]
    · have h1 : (dput D p).atKey (SPK c r) (.lit (.bool false)) = .lit (.bool z) := by
        unfold dput; rw [atKey_put_other e]; exact h
      rw [List.foldl_cons, ds_at hc hr l _ z hT h1 (fun q hq => hl q (by simp [hq]))]
      have : (c, r) ≠ p := fun h => e (by rw [← h])
      simp [this]
theorem zeroBool_ (w : World) : (zeroValue 4).run Tryz.prog w = .ok (.bool false) w := by kernel_rfl
theorem look_spot {w : World} {bm nn : Nat} {l : List (Int × Int)} (h : w.ownsMap Tryz.prog 72 (plainElem Tryz.prog 4) bm nn (DS l)) (hl : ∀ p ∈ l, smx p.1 ∧ smx p.2) {x y : Int} (hx : smx x) (hy : smx y) : (Instr.lookup 65 (.map (some bm)) (.agg #[.int .i64 x, .int .i64 y]) false).run Tryz.prog w = .ok (.bool (decide ((x, y) ∈ l))) w := by
  obtain ⟨v, ps, hrun, hv⟩ := h.lookup spotKeyed Tryz.underlying65 (zeroBool_ _) (plainElem_bool Tryz.underlying4 false) (key_spot x y (smx_wf hx) (smx_wf hy))
  obtain ⟨z, rfl, hz⟩ := boolS_inv Tryz.underlying4 hv
  have h1 := ds_at hx hy l (.map []) false tidy_empty rfl hl
  simp only [Prod.mk.injEq] at hz
  have h2 : (DataW.lit (.bool (false || decide ((x, y) ∈ l))) : DataW Unit) = .lit (.bool z) := h1.symm.trans hz.1
  simp at h2
  rw [hrun, ← h2]
theorem cut_str (b : Bool) : (⟨#[46, 35]⟩ : ByteArray).extract (if b then 1 else 0) ((if b then 1 else 0) + 1) = ⟨#[if b then 35 else 46]⟩ := by cases b <;> rfl
set_option maxRecDepth 100000 in
set_option maxHeartbeats 16000000 in
theorem cellsOf_any (bm nn : Nat) (l : List (Int × Int)) (s : Int) (w : World) (hown : w.ownsMap Tryz.prog 72 (plainElem Tryz.prog 4) bm nn (DS l)) (hl : ∀ p ∈ l, smx p.1 ∧ smx p.2) (hs : 2 ≤ s ∧ s ≤ 10000) :
    Calls Tryz.prog 35 #[.map (some bm), .int .i64 s] w (CellsRes (fun p q => decide ((p, q) ∈ l)) s w) := by
  have HO := Lib.hid hown
  have HL := Lib.hid hl
  have hbm := hown.lt
  obtain ⟨i0, hi0, hz0, hz1, hz2⟩ := info_parts info_str
  clear hown hl
  go_enter Tryz.func35, Tryz.ntmps35
  go_wp2_with (fail)
  have HW : Hid (Below w.heap.size w (w.alloc (.cells #[.int .i64 0, .int .i64 0, .int .i64 0, .slice none 0 0] 28))) := Lib.hid ((Below.refl _ _).alloc (Nat.le_refl _) _)
  have HZ : Hid ((w.alloc (.cells #[.int .i64 0, .int .i64 0, .int .i64 0, .slice none 0 0] 28)).heap[w.heap.size]? = some (.cells #[.int .i64 0, .int .i64 0, .int .i64 0, .slice none 0 0] 28 (0, 0))) := Lib.hid (heap_new rfl)
  have HO1 := Lib.hid (HO.out.alloc (.cells #[.int .i64 0, .int .i64 0, .int .i64 0, .slice none 0 0] 28))
  generalize (w.alloc (.cells #[.int .i64 0, .int .i64 0, .int .i64 0, .slice none 0 0] 28)) = w0 at *
  refine (span_any bm nn l _ HO1.out HL.out).mono ?_
  rintro e w1 ⟨z, lc, lr, hc, hr, rfl, hbnd, hb1⟩
  have HBD := Lib.hid hbnd
  have B1 := Lib.hid (HW.out.trans (hb1.mono HW.out.size))
  have HZ1 := Lib.hid (heap_keep hb1 HZ.out)
  have HO2 := Lib.hid (own_below HO1.out hb1)
  clear hbnd hb1
  have ls := B1.out.size
  rcases z with _ | _
  · have HN := HBD.out.none
    subst HN
    have HZa : Hid (((w1.alloc (.cells #[.int .i64 lc, .int .i64 lr] 72)).alloc (.cells #[.int .i64 hc, .int .i64 hr] 72)).heap[w.heap.size]? = some (.cells #[.int .i64 0, .int .i64 0, .int .i64 0, .slice none 0 0] 28 (0, 0))) := Lib.hid (heap_keep (((Below.refl _ w1).alloc (Nat.le_refl _) _).alloc (by simp) _) HZ1.out)
    have Ba : Hid (Below w.heap.size w ((w1.alloc (.cells #[.int .i64 lc, .int .i64 lr] 72)).alloc (.cells #[.int .i64 hc, .int .i64 hr] 72))) := Lib.hid ((B1.out.alloc ls _).alloc (by simp; omega) _)
    go_upto_region 3 with (fail)
    change Code.wp _ _ _ _ ((w1.alloc (.cells #[.int .i64 lc, .int .i64 lr] 72)).alloc (.cells #[.int .i64 hc, .int .i64 hr] 72))
    generalize ((w1.alloc (.cells #[.int .i64 lc, .int .i64 lr] 72)).alloc (.cells #[.int .i64 hc, .int .i64 hr] 72)) = v0 at *
    have z0 : v0.cell? ⟨w.heap.size, 0, none⟩ = some (.int .i64 0) := cell_of HZa.out rfl
    have zf0 : v0.frozen? ⟨w.heap.size, 0, none⟩ = false := frozen_of HZa.out
    have z1 : v0.cell? ⟨w.heap.size, 1, none⟩ = some (.int .i64 0) := cell_of HZa.out rfl
    have zf1 : v0.frozen? ⟨w.heap.size, 1, none⟩ = false := frozen_of HZa.out
    have z2 : v0.cell? ⟨w.heap.size, 2, none⟩ = some (.int .i64 0) := cell_of HZa.out rfl
    have zf2 : v0.frozen? ⟨w.heap.size, 2, none⟩ = false := frozen_of HZa.out
    have z3 : v0.cell? ⟨w.heap.size, 3, none⟩ = some (.slice none 0 0) := cell_of HZa.out rfl
    have zf3 : v0.frozen? ⟨w.heap.size, 3, none⟩ = false := frozen_of HZa.out
    clear hz0
    go_wp2_with (fail)
    obtain ⟨r0, r1, r2, r3⟩ := set4 (w := v0) (R := w.heap.size) (x0 := (.int .i64 s)) (x1 := (.int .i64 0)) (x2 := (.int .i64 0)) (x3 := (.slice none 0 0)) (is4 (is_some z0) (is_some z1) (is_some z2) (is_some z3)) rfl
    have HF : Hid (Below w.heap.size w ((((v0.setCell ⟨w.heap.size, 0, none⟩ (.int .i64 s)).setCell ⟨w.heap.size, 1, none⟩ (.int .i64 0)).setCell ⟨w.heap.size, 2, none⟩ (.int .i64 0)).setCell ⟨w.heap.size, 3, none⟩ (.slice none 0 0))) := Lib.hid ((((Ba.out.setCell (by show _ ≤ w.heap.size; omega) _).setCell (by show _ ≤ w.heap.size; omega) _).setCell (by show _ ≤ w.heap.size; omega) _).setCell (by show _ ≤ w.heap.size; omega) _)
    generalize ((((v0.setCell ⟨w.heap.size, 0, none⟩ (.int .i64 s)).setCell ⟨w.heap.size, 1, none⟩ (.int .i64 0)).setCell ⟨w.heap.size, 2, none⟩ (.int .i64 0)).setCell ⟨w.heap.size, 3, none⟩ (.slice none 0 0)) = WW at *
    exact bodyPost_ret (v := .tuple #[.agg #[.int .i64 s, .int .i64 0, .int .i64 0, .slice none 0 0], .int .i64 0]) (by simp [results, Tryz.results35, go_sem, r0, r1, r2, r3]) rfl ⟨s, 0, 0, none, 0, 0, fun _ => [], 0, rfl, .inl ⟨fun _ _ => by simp, rfl, rfl, rfl, rfl, rfl⟩, .inl rfl, fun _ _ h => by (cases h), Nat.le_refl _, by unfold maxLen; omega, fun i hi => absurd hi (by omega), HF.out⟩
  · have HT := Lib.hid HBD.out.tight
    obtain ⟨⟨q1, m1, g1⟩, ⟨q2, m2, g2⟩, ⟨q3, m3, g3⟩, ⟨q4, m4, g4⟩⟩ := HBD.out.got rfl
    have k1 := (HL.out _ m1).1
    have k2 := (HL.out _ m2).2
    have k3 := (HL.out _ m3).1
    have k4 := (HL.out _ m4).2
    unfold smx at k1 k2 k3 k4
    rw [g1] at k1
    rw [g2] at k2
    rw [g3] at k3
    rw [g4] at k4
    have hle := HT.out.le
    clear m1 m2 m3 m4 g1 g2 g3 g4 q1 q2 q3 q4 HBD
    have HZa : Hid (((w1.alloc (.cells #[.int .i64 lc, .int .i64 lr] 72)).alloc (.cells #[.int .i64 hc, .int .i64 hr] 72)).heap[w.heap.size]? = some (.cells #[.int .i64 0, .int .i64 0, .int .i64 0, .slice none 0 0] 28 (0, 0))) := Lib.hid (heap_keep (((Below.refl _ w1).alloc (Nat.le_refl _) _).alloc (by simp) _) HZ1.out)
    have Ba : Hid (Below w.heap.size w ((w1.alloc (.cells #[.int .i64 lc, .int .i64 lr] 72)).alloc (.cells #[.int .i64 hc, .int .i64 hr] 72))) := Lib.hid ((B1.out.alloc ls _).alloc (by simp; omega) _)
    have Ha : Hid (((w1.alloc (.cells #[.int .i64 lc, .int .i64 lr] 72)).alloc (.cells #[.int .i64 hc, .int .i64 hr] 72)).heap[w1.heap.size]? = some (.cells #[.int .i64 lc, .int .i64 lr] 72 (0, 0))) := Lib.hid ((Below.heap_alloc _ _ _ (by simp)).trans (heap_new rfl))
    have Hb : Hid (((w1.alloc (.cells #[.int .i64 lc, .int .i64 lr] 72)).alloc (.cells #[.int .i64 hc, .int .i64 hr] 72)).heap[w1.heap.size + 1]? = some (.cells #[.int .i64 hc, .int .i64 hr] 72 (0, 0))) := Lib.hid (heap_new (by simp))
    have HO3 := Lib.hid ((HO2.out.alloc (.cells #[.int .i64 lc, .int .i64 lr] 72)).alloc (.cells #[.int .i64 hc, .int .i64 hr] 72))
    have hv0 : w1.heap.size + 2 = ((w1.alloc (.cells #[.int .i64 lc, .int .i64 lr] 72)).alloc (.cells #[.int .i64 hc, .int .i64 hr] 72)).heap.size := by simp
    have HV0 := Lib.hid hv0
    have hwl : w.heap.size < w1.heap.size := lt_of_heap HZ1.out
    clear hv0
    go_upto_region 4 with (fail)
    change Code.wp _ _ _ _ ((w1.alloc (.cells #[.int .i64 lc, .int .i64 lr] 72)).alloc (.cells #[.int .i64 hc, .int .i64 hr] 72))
    generalize ((w1.alloc (.cells #[.int .i64 lc, .int .i64 lr] 72)).alloc (.cells #[.int .i64 hc, .int .i64 hr] 72)) = v0 at *
    have a0 : v0.cell? ⟨w1.heap.size, 0, none⟩ = some (.int .i64 lc) := cell_of Ha.out rfl
    have a1 : v0.cell? ⟨w1.heap.size, 1, none⟩ = some (.int .i64 lr) := cell_of Ha.out rfl
    have b0 : v0.cell? ⟨w1.heap.size + 1, 0, none⟩ = some (.int .i64 hc) := cell_of Hb.out rfl
    have b1 : v0.cell? ⟨w1.heap.size + 1, 1, none⟩ = some (.int .i64 hr) := cell_of Hb.out rfl
    have x1 : IntKind.i64.wrap (hc - lc) = hc - lc := by rw [IntKind.wrap_i64]; omega
    have x2 : IntKind.i64.wrap (hr - lr) = hr - lr := by rw [IntKind.wrap_i64]; omega
    by_cases hw : 199 < hc - lc ∨ 199 < hr - lr
    · have z0 : v0.cell? ⟨w.heap.size, 0, none⟩ = some (.int .i64 0) := cell_of HZa.out rfl
      have zf0 : v0.frozen? ⟨w.heap.size, 0, none⟩ = false := frozen_of HZa.out
      have z1 : v0.cell? ⟨w.heap.size, 1, none⟩ = some (.int .i64 0) := cell_of HZa.out rfl
      have zf1 : v0.frozen? ⟨w.heap.size, 1, none⟩ = false := frozen_of HZa.out
      have z2 : v0.cell? ⟨w.heap.size, 2, none⟩ = some (.int .i64 0) := cell_of HZa.out rfl
      have zf2 : v0.frozen? ⟨w.heap.size, 2, none⟩ = false := frozen_of HZa.out
      have z3 : v0.cell? ⟨w.heap.size, 3, none⟩ = some (.slice none 0 0) := cell_of HZa.out rfl
      have zf3 : v0.frozen? ⟨w.heap.size, 3, none⟩ = false := frozen_of HZa.out
      have HRES : Hid (CellsAre (fun p q => decide ((p, q) ∈ l)) s 12 0 0 0 0 (fun _ => [])) := Lib.hid (.inr ⟨lc, lr, hc, hr, HT.out, by unfold picE; rw [if_pos hw], fun _ => ⟨rfl, rfl, rfl, rfl⟩, fun h => by omega⟩)
      clear hz0
      by_cases hw1 : 200 ≤ hc - lc
      · clear hw
        go_wp2_with (fail)
        obtain ⟨r0, r1, r2, r3⟩ := set4 (w := v0) (R := w.heap.size) (x0 := (.int .i64 0)) (x1 := (.int .i64 0)) (x2 := (.int .i64 0)) (x3 := (.slice none 0 0)) (is4 (is_some z0) (is_some z1) (is_some z2) (is_some z3)) rfl
        have HF : Hid (Below w.heap.size w ((((v0.setCell ⟨w.heap.size, 0, none⟩ (.int .i64 0)).setCell ⟨w.heap.size, 1, none⟩ (.int .i64 0)).setCell ⟨w.heap.size, 2, none⟩ (.int .i64 0)).setCell ⟨w.heap.size, 3, none⟩ (.slice none 0 0))) := Lib.hid ((((Ba.out.setCell (by show _ ≤ w.heap.size; omega) _).setCell (by show _ ≤ w.heap.size; omega) _).setCell (by show _ ≤ w.heap.size; omega) _).setCell (by show _ ≤ w.heap.size; omega) _)
        generalize ((((v0.setCell ⟨w.heap.size, 0, none⟩ (.int .i64 0)).setCell ⟨w.heap.size, 1, none⟩ (.int .i64 0)).setCell ⟨w.heap.size, 2, none⟩ (.int .i64 0)).setCell ⟨w.heap.size, 3, none⟩ (.slice none 0 0)) = WW at *
        exact bodyPost_ret (v := .tuple #[.agg #[.int .i64 0, .int .i64 0, .int .i64 0, .slice none 0 0], .int .i64 12]) (by simp [results, Tryz.results35, go_sem, r0, r1, r2, r3]) rfl ⟨0, 0, 0, none, 0, 0, _, 12, rfl, HRES.out, .inl rfl, fun _ _ h => by (cases h), Nat.le_refl _, by unfold maxLen; omega, fun i hi => absurd hi (by omega), HF.out⟩
      · have hw2 : 200 ≤ hr - lr := by omega
        clear hw
        go_wp2_with (fail)
        obtain ⟨r0, r1, r2, r3⟩ := set4 (w := v0) (R := w.heap.size) (x0 := (.int .i64 0)) (x1 := (.int .i64 0)) (x2 := (.int .i64 0)) (x3 := (.slice none 0 0)) (is4 (is_some z0) (is_some z1) (is_some z2) (is_some z3)) rfl
        have HF : Hid (Below w.heap.size w ((((v0.setCell ⟨w.heap.size, 0, none⟩ (.int .i64 0)).setCell ⟨w.heap.size, 1, none⟩ (.int .i64 0)).setCell ⟨w.heap.size, 2, none⟩ (.int .i64 0)).setCell ⟨w.heap.size, 3, none⟩ (.slice none 0 0))) := Lib.hid ((((Ba.out.setCell (by show _ ≤ w.heap.size; omega) _).setCell (by show _ ≤ w.heap.size; omega) _).setCell (by show _ ≤ w.heap.size; omega) _).setCell (by show _ ≤ w.heap.size; omega) _)
        generalize ((((v0.setCell ⟨w.heap.size, 0, none⟩ (.int .i64 0)).setCell ⟨w.heap.size, 1, none⟩ (.int .i64 0)).setCell ⟨w.heap.size, 2, none⟩ (.int .i64 0)).setCell ⟨w.heap.size, 3, none⟩ (.slice none 0 0)) = WW at *
        exact bodyPost_ret (v := .tuple #[.agg #[.int .i64 0, .int .i64 0, .int .i64 0, .slice none 0 0], .int .i64 12]) (by simp [results, Tryz.results35, go_sem, r0, r1, r2, r3]) rfl ⟨0, 0, 0, none, 0, 0, _, 12, rfl, HRES.out, .inl rfl, fun _ _ h => by (cases h), Nat.le_refl _, by unfold maxLen; omega, fun i hi => absurd hi (by omega), HF.out⟩
    · have hw1 : ¬ 200 ≤ hc - lc := by omega
      have hw2 : ¬ 200 ≤ hr - lr := by omega
      have HP : Hid (picE (fun p q => decide ((p, q) ∈ l)) s lc lr hc hr = cellsE s (lc * s) (lr * s) (hr - lr + 1).toNat (fun i : Nat => rowP (fun p q => decide ((p, q) ∈ l)) lc (hc - lc + 1).toNat (lr + i))) := Lib.hid (by unfold picE; rw [if_neg hw])
      have mb1 := mul_bd (a := lc) (s := s) (by omega) (by omega)
      have mb2 := mul_bd (a := lr) (s := s) (by omega) (by omega)
      have x3 : IntKind.i64.wrap (lc * s) = lc * s := by rw [IntKind.wrap_i64]; omega
      have x4 : IntKind.i64.wrap (lr * s) = lr * s := by rw [IntKind.wrap_i64]; omega
      obtain ⟨X, hX⟩ : ∃ X, lc * s = X := ⟨_, rfl⟩
      obtain ⟨Y, hY⟩ : ∃ X, lr * s = X := ⟨_, rfl⟩
      rw [hX] at x3
      rw [hY] at x4
      rw [hX, hY] at HP
      clear hw mb1 mb2
      go_upto_region 7 with (fail)
      obtain ⟨M, hM⟩ : ∃ M : Nat, hc = lc + M - 1 := ⟨(hc - lc + 1).toNat, by omega⟩
      obtain ⟨N, hN⟩ : ∃ N : Nat, hr = lr + N - 1 := ⟨(hr - lr + 1).toNat, by omega⟩
      have hM1 : 1 ≤ M ∧ M ≤ 200 := by omega
      have hN1 : 1 ≤ N ∧ N ≤ 200 := by omega
      have HMM : Hid ((hc - lc + 1).toNat = M) := Lib.hid (by omega)
      have HNN : Hid ((hr - lr + 1).toNat = N) := Lib.hid (by omega)
      have HHM := Lib.hid hM
      have HHN := Lib.hid hN
      clear hM hN
      have W1 : Hid (Below w.heap.size w (v0.alloc (.cells #[.int .i64 s, .int .i64 X, .int .i64 Y, .slice none 0 0] 28))) := Lib.hid (Ba.out.alloc (Ba.out.size) _)
      have HQ : Hid ((v0.alloc (.cells #[.int .i64 s, .int .i64 X, .int .i64 Y, .slice none 0 0] 28)).heap[v0.heap.size]? = some (.cells #[.int .i64 s, .int .i64 X, .int .i64 Y, .slice none 0 0] 28 (0, 0))) := Lib.hid (heap_new rfl)
      have HA1 := Lib.hid ((Below.heap_alloc v0 (.cells #[.int .i64 s, .int .i64 X, .int .i64 Y, .slice none 0 0] 28) _ (lt_of_heap Ha.out)).trans Ha.out)
      have HB1 := Lib.hid ((Below.heap_alloc v0 (.cells #[.int .i64 s, .int .i64 X, .int .i64 Y, .slice none 0 0] 28) _ (lt_of_heap Hb.out)).trans Hb.out)
      have HZ2 := Lib.hid ((Below.heap_alloc v0 (.cells #[.int .i64 s, .int .i64 X, .int .i64 Y, .slice none 0 0] 28) _ (lt_of_heap HZa.out)).trans HZa.out)
      have HO4 := Lib.hid (HO3.out.alloc (.cells #[.int .i64 s, .int .i64 X, .int .i64 Y, .slice none 0 0] 28))
      have hbo := HO3.out.lt
      have hlo := lt_of_heap Ha.out
      have hhi := lt_of_heap Hb.out
      have hlz := lt_of_heap HZa.out
      clear HZa Ba Ha Hb HO3 HO2 HZ1 a0 a1 b0 b1
      generalize hv1 : v0.alloc (.cells #[.int .i64 s, .int .i64 X, .int .i64 Y, .slice none 0 0] 28) = v1 at *
      have hob : v0.heap.size < v1.heap.size := by rw [← hv1]; simp
      clear hv1
      have a1 : v1.cell? ⟨w1.heap.size, 1, none⟩ = some (.int .i64 lr) := cell_of HA1.out rfl
      go_wp2_with (fail)
      clear a1
      go_loopw [10] (fun v wr => ∃ (i : Nat) (ao : Option Addr) (co : Nat), i ≤ N ∧ v = .int .i64 (lr + i) ∧ wr.heap[v0.heap.size]? = some (.cells #[.int .i64 s, .int .i64 X, .int .i64 Y, .slice ao i co] 28 (0, 0)) ∧ wr.ownsRow (v0.heap.size + 1) 9 1 (.slice ao i co) i (strV (fun i : Nat => rowP (fun p q => decide ((p, q) ∈ l)) lc M (lr + i)) i) ∧ Below v0.heap.size v1 wr) (fun v _ => (lr + N - intOf v).toNat)
      case atStart => exact ⟨0, none, 0, by omega, by simp, HQ.out, World.ownsRow_nil _ _ _ _, Below.refl _ _⟩
      case round =>
        obtain ⟨i, ao, co, hi, rfl, hout, hown, hbel⟩ := hrel
        have HOUT := Lib.hid hout
        have HOW := Lib.hid hown
        have HBE := Lib.hid hbel
        have hsz := hbel.size
        have hA := (hbel.block w1.heap.size hlo).trans HA1.out
        have hB := (hbel.block (w1.heap.size + 1) hhi).trans HB1.out
        have a0 : wr.cell? ⟨w1.heap.size, 0, none⟩ = some (.int .i64 lc) := cell_of hA rfl
        have b0 : wr.cell? ⟨w1.heap.size + 1, 0, none⟩ = some (.int .i64 hc) := cell_of hB rfl
        have b1 : wr.cell? ⟨w1.heap.size + 1, 1, none⟩ = some (.int .i64 hr) := cell_of hB rfl
        have HOM : Hid (wr.ownsMap Tryz.prog 72 (plainElem Tryz.prog 4) bm nn (DS l)) := Lib.hid (own_lt HO4.out hbo hbel)
        clear hout hown hbel hA hB
        by_cases hlt : i < N
        · have hl2 : lr + (i : Int) ≤ hr := by have := HHN.out; omega
          obtain ⟨wo, hwo⟩ : ∃ wo : World, wr = wo := ⟨_, rfl⟩
          rw [hwo] at HOUT HOW HBE hsz a0 b0 b1 HOM ⊢
          clear hwo
          go_wp2_with (fail)
          go_loopw [11, 12] (fun r v wr => ∃ j : Nat, j ≤ M ∧ r = .string ⟨(rowP (fun p q => decide ((p, q) ∈ l)) lc j (lr + i)).toArray⟩ ∧ v = .int .i64 (lc + j) ∧ ∃ q, wr = wo.drewN q) (fun _ v _ => (lc + M - intOf v).toNat)
          case atStart => exact ⟨0, by omega, rfl, by simp, 0, rfl⟩
          case round =>
            obtain ⟨j, hj, rfl, rfl, q, rfl⟩ := hrel
            have c0 : (wo.drewN q).cell? ⟨w1.heap.size + 1, 0, none⟩ = some (.int .i64 hc) := b0
            have HOM2 : Hid ((wo.drewN q).ownsMap Tryz.prog 72 (plainElem Tryz.prog 4) bm nn (DS l)) := Lib.hid HOM.out
            obtain ⟨T, hT⟩ : ∃ T, rowP (fun p q => decide ((p, q) ∈ l)) lc j (lr + i) = T := ⟨_, rfl⟩
            have hTl : T.length = j := by rw [← hT, rowP_len]
            rw [hT]
            have HT2 := Lib.hid hT
            have zt := bsize T
            rw [hTl] at zt
            clear hT hTl
            by_cases hlj : j < M
            · have hl3 : lc + (j : Int) ≤ hc := by have := HHM.out; omega
              have hsx : smx (lc + j) := by unfold smx; omega
              have hsy : smx (lr + i) := by unfold smx; omega
              obtain ⟨z, hz⟩ : ∃ z, decide ((lc + (j : Int), lr + (i : Int)) ∈ l) = z := ⟨_, rfl⟩
              have hsn : rowP (fun p q => decide ((p, q) ∈ l)) lc (j + 1) (lr + i) = T ++ [if z = true then 35 else 46] := (rowP_snoc _ _ _ _).trans (by rw [HT2.out, ← hz])
              have HSN := Lib.hid hsn
              have HZD := Lib.hid hz
              clear hz hsn
              go_upto_region 14 with (fail)
              generalize hwq : wo.drewN q = wq at *
              have HWQ := Lib.hid hwq
              clear hwq c0 a0 b0 b1
              rcases z with _ | _
              · have he : (⟨#[46, 35]⟩ : ByteArray).extract 0 1 = ⟨#[46]⟩ := rfl
                have hzs := str_snoc T 46
                have zc : (⟨#[46]⟩ : ByteArray).size = 1 := rfl
                have wv1 : IntKind.i64.wrap 1 = 1 := by decide
                have wj : ¬ 9223372036854775807 < j + 1 := by omega
                refine wp_region_held_drew (S := (fun w' : World => w'.ownsMap Tryz.prog 72 (plainElem Tryz.prog 4) bm nn (DS l))) (by kernel_rfl) HOM2.out.drew (fun hHeld => ?_)
                refine tkH hHeld 0 (oi := ?_) (v := ?_) ?_ ?_ ?_ ?_ ?_ ?_ ?_ ?_; rotate_left 2; (simp only [gA, gB, gC]; exact rfl); kernel_rfl; kernel_rfl; kernel_rfl; exact fun _ _ _ h => h; rfl; (intro w' hSw; go_simp; with_reducible rfl); simp only [Act.put, pB, pC, pD]
                refine tkH hHeld 1 (oi := ?_) (v := ?_) ?_ ?_ ?_ ?_ ?_ ?_ ?_ ?_; rotate_left 2; (simp only [gA, gB, gC]; exact rfl); kernel_rfl; kernel_rfl; kernel_rfl; exact fun _ _ _ h => h; rfl; (intro w' hSw; go_simp; with_reducible rfl); simp only [Act.put, pB, pC, pD]
                refine tkH hHeld 2 (oi := ?_) (v := ?_) ?_ ?_ ?_ ?_ ?_ ?_ ?_ ?_; rotate_left 2; (simp only [gA, gB, gC]; exact rfl); kernel_rfl; kernel_rfl; kernel_rfl; exact fun _ _ _ h => h; rfl; (intro w' hSw; go_simp; with_reducible rfl); simp only [Act.put, pB, pC, pD]
                refine tkH hHeld 3 (oi := ?_) (v := ?_) ?_ ?_ ?_ ?_ ?_ ?_ ?_ ?_; rotate_left 2; (simp only [gA, gB, gC]; exact rfl); kernel_rfl; kernel_rfl; kernel_rfl; exact fun _ _ _ h => h; rfl; (intro w' hSw; go_simp; with_reducible rfl); simp only [Act.put, pB, pC, pD]
                refine tkH hHeld 4 (oi := ?_) (v := ?_) ?_ ?_ ?_ ?_ ?_ ?_ ?_ ?_; rotate_left 2; (simp only [gA, gB, gC]; exact rfl); kernel_rfl; kernel_rfl; kernel_rfl; exact fun _ _ _ h => h; rfl; (intro w' hSw; go_simp; with_reducible rfl); simp only [Act.put, pB, pC, pD]
                refine tkH hHeld 7 (oi := ?_) (v := ?_) ?_ ?_ ?_ ?_ ?_ ?_ ?_ ?_; rotate_left 2; (simp only [gA, gB, gC]; exact rfl); kernel_rfl; kernel_rfl; kernel_rfl; exact fun _ _ _ h => h; rfl; (intro w' hSw; go_simp; with_reducible rfl); simp only [Act.put, pB, pC, pD]
                refine tkH hHeld 8 (oi := ?_) (v := ?_) ?_ ?_ ?_ ?_ ?_ ?_ ?_ ?_; rotate_left 2; (simp only [gA, gB, gC]; exact rfl); kernel_rfl; kernel_rfl; kernel_rfl; exact fun _ _ _ h => h; rfl; (intro w' hSw; go_simp; with_reducible rfl); simp only [Act.put, pB, pC, pD]
                refine tkH hHeld 9 (oi := ?_) (v := ?_) ?_ ?_ ?_ ?_ ?_ ?_ ?_ ?_; rotate_left 2; (simp only [gA, gB, gC]; exact rfl); kernel_rfl; kernel_rfl; kernel_rfl; exact fun _ _ _ h => h; rfl; (intro w' hSw; go_simp; with_reducible rfl); simp only [Act.put, pB, pC, pD]
                refine tkH hHeld 10 (oi := ?_) (v := ?_) ?_ ?_ ?_ ?_ ?_ ?_ ?_ ?_; rotate_left 2; (simp only [gA, gB, gC]; exact rfl); kernel_rfl; kernel_rfl; kernel_rfl; exact fun _ _ _ h => h; rfl; (intro w' hSw; go_simp; with_reducible rfl); simp only [Act.put, pB, pC, pD]
                refine tkH hHeld 5 (oi := ?_) (v := ?_) ?_ ?_ ?_ ?_ ?_ ?_ ?_ ?_; rotate_left 2; (simp only [gA, gB, gC]; exact rfl); kernel_rfl; kernel_rfl; kernel_rfl; exact fun _ _ _ h => h; rfl; (intro w' hSw; have hk := look_spot hSw HL.out hsx hsy; rw [HZD.out] at hk; clear hSw; go_simp; with_reducible rfl); simp only [Act.put, pB, pC, pD]
                refine tkH hHeld 11 (oi := ?_) (v := ?_) ?_ ?_ ?_ ?_ ?_ ?_ ?_ ?_; rotate_left 2; (simp only [gA, gB, gC]; exact rfl); kernel_rfl; kernel_rfl; kernel_rfl; exact fun _ _ _ h => h; rfl; (intro w' hSw; have hk := look_spot hSw HL.out hsx hsy; rw [HZD.out] at hk; clear hSw; go_simp; with_reducible rfl); simp only [Act.put, pB, pC, pD]
                refine onH 6 (oi := ?_) (by kernel_rfl) ?_ ?_ (fun K hK => ?_); rotate_left; (simp only [gA, gB, gC]; exact rfl); rfl
                go_wp2_with (fail)
                refine (truth_no _).mono ?_
                rintro e w9 ⟨rfl, rfl⟩
                go_wp2_with (fail)
                refine hK.out _ _ hHeld (fun hH2 => ?_)
                clear hK K hHeld
                have hHeld := hH2
                clear hH2
                try simp only [Act.put, pB, pC, pD]
                refine onH 12 (oi := ?_) (by kernel_rfl) ?_ ?_ (fun K hK => ?_); rotate_left; (simp only [gA, gB, gC]; exact rfl); rfl
                go_wp2_with (fail)
                refine (truth_no _).mono ?_
                rintro e w9 ⟨rfl, rfl⟩
                go_wp2_with (fail)
                refine hK.out _ _ hHeld (fun hH2 => ?_)
                clear hK K hHeld
                have hHeld := hH2
                clear hH2
                try simp only [Act.put, pB, pC, pD]
                refine tkH hHeld 13 (oi := ?_) (v := ?_) ?_ ?_ ?_ ?_ ?_ ?_ ?_ ?_; rotate_left 2; (simp only [gA, gB, gC]; exact rfl); kernel_rfl; kernel_rfl; kernel_rfl; exact fun _ _ _ h => h; rfl; (intro w' hSw; go_simp; with_reducible rfl); simp only [Act.put, pB, pC, pD]
                refine tkH hHeld 14 (oi := ?_) (v := ?_) ?_ ?_ ?_ ?_ ?_ ?_ ?_ ?_; rotate_left 2; (simp only [gA, gB, gC]; exact rfl); kernel_rfl; kernel_rfl; kernel_rfl; exact fun _ _ _ h => h; rfl; (intro w' hSw; go_simp; with_reducible rfl); simp only [Act.put, pB, pC, pD]
                refine tkH hHeld 15 (oi := ?_) (v := ?_) ?_ ?_ ?_ ?_ ?_ ?_ ?_ ?_; rotate_left 2; (simp only [gA, gB, gC]; exact rfl); kernel_rfl; kernel_rfl; kernel_rfl; exact fun _ _ _ h => h; rfl; (intro w' hSw; go_simp; with_reducible rfl); simp only [Act.put, pB, pC, pD]
                refine tkH hHeld 16 (oi := ?_) (v := ?_) ?_ ?_ ?_ ?_ ?_ ?_ ?_ ?_; rotate_left 2; (simp only [gA, gB, gC]; exact rfl); kernel_rfl; kernel_rfl; kernel_rfl; exact fun _ _ _ h => h; rfl; (intro w' hSw; go_simp; with_reducible rfl); simp only [Act.put, pB, pC, pD]
                clear hHeld
                refine wpAnyH_done (by kernel_rfl) ?_ _
                go_wp2_with (fail)
                go_roundw
                case rel => exact ⟨j + 1, by omega, by rw [HSN.out]; rfl, by go_num, q + 1, by rw [← HWQ.out]; rfl⟩
                case measure => simp [intOf]; omega
              · have he : (⟨#[46, 35]⟩ : ByteArray).extract 1 2 = ⟨#[35]⟩ := rfl
                have hzs := str_snoc T 35
                have zc : (⟨#[35]⟩ : ByteArray).size = 1 := rfl
                have wv1 : IntKind.i64.wrap 2 = 2 := by decide
                have wj : ¬ 9223372036854775807 < j + 1 := by omega
                refine wp_region_held_drew (S := (fun w' : World => w'.ownsMap Tryz.prog 72 (plainElem Tryz.prog 4) bm nn (DS l))) (by kernel_rfl) HOM2.out.drew (fun hHeld => ?_)
                refine tkH hHeld 0 (oi := ?_) (v := ?_) ?_ ?_ ?_ ?_ ?_ ?_ ?_ ?_; rotate_left 2; (simp only [gA, gB, gC]; exact rfl); kernel_rfl; kernel_rfl; kernel_rfl; exact fun _ _ _ h => h; rfl; (intro w' hSw; go_simp; with_reducible rfl); simp only [Act.put, pB, pC, pD]
                refine tkH hHeld 1 (oi := ?_) (v := ?_) ?_ ?_ ?_ ?_ ?_ ?_ ?_ ?_; rotate_left 2; (simp only [gA, gB, gC]; exact rfl); kernel_rfl; kernel_rfl; kernel_rfl; exact fun _ _ _ h => h; rfl; (intro w' hSw; go_simp; with_reducible rfl); simp only [Act.put, pB, pC, pD]
                refine tkH hHeld 2 (oi := ?_) (v := ?_) ?_ ?_ ?_ ?_ ?_ ?_ ?_ ?_; rotate_left 2; (simp only [gA, gB, gC]; exact rfl); kernel_rfl; kernel_rfl; kernel_rfl; exact fun _ _ _ h => h; rfl; (intro w' hSw; go_simp; with_reducible rfl); simp only [Act.put, pB, pC, pD]
                refine tkH hHeld 3 (oi := ?_) (v := ?_) ?_ ?_ ?_ ?_ ?_ ?_ ?_ ?_; rotate_left 2; (simp only [gA, gB, gC]; exact rfl); kernel_rfl; kernel_rfl; kernel_rfl; exact fun _ _ _ h => h; rfl; (intro w' hSw; go_simp; with_reducible rfl); simp only [Act.put, pB, pC, pD]
                refine tkH hHeld 4 (oi := ?_) (v := ?_) ?_ ?_ ?_ ?_ ?_ ?_ ?_ ?_; rotate_left 2; (simp only [gA, gB, gC]; exact rfl); kernel_rfl; kernel_rfl; kernel_rfl; exact fun _ _ _ h => h; rfl; (intro w' hSw; go_simp; with_reducible rfl); simp only [Act.put, pB, pC, pD]
                refine tkH hHeld 7 (oi := ?_) (v := ?_) ?_ ?_ ?_ ?_ ?_ ?_ ?_ ?_; rotate_left 2; (simp only [gA, gB, gC]; exact rfl); kernel_rfl; kernel_rfl; kernel_rfl; exact fun _ _ _ h => h; rfl; (intro w' hSw; go_simp; with_reducible rfl); simp only [Act.put, pB, pC, pD]
                refine tkH hHeld 8 (oi := ?_) (v := ?_) ?_ ?_ ?_ ?_ ?_ ?_ ?_ ?_; rotate_left 2; (simp only [gA, gB, gC]; exact rfl); kernel_rfl; kernel_rfl; kernel_rfl; exact fun _ _ _ h => h; rfl; (intro w' hSw; go_simp; with_reducible rfl); simp only [Act.put, pB, pC, pD]
                refine tkH hHeld 9 (oi := ?_) (v := ?_) ?_ ?_ ?_ ?_ ?_ ?_ ?_ ?_; rotate_left 2; (simp only [gA, gB, gC]; exact rfl); kernel_rfl; kernel_rfl; kernel_rfl; exact fun _ _ _ h => h; rfl; (intro w' hSw; go_simp; with_reducible rfl); simp only [Act.put, pB, pC, pD]
                refine tkH hHeld 10 (oi := ?_) (v := ?_) ?_ ?_ ?_ ?_ ?_ ?_ ?_ ?_; rotate_left 2; (simp only [gA, gB, gC]; exact rfl); kernel_rfl; kernel_rfl; kernel_rfl; exact fun _ _ _ h => h; rfl; (intro w' hSw; go_simp; with_reducible rfl); simp only [Act.put, pB, pC, pD]
                refine tkH hHeld 5 (oi := ?_) (v := ?_) ?_ ?_ ?_ ?_ ?_ ?_ ?_ ?_; rotate_left 2; (simp only [gA, gB, gC]; exact rfl); kernel_rfl; kernel_rfl; kernel_rfl; exact fun _ _ _ h => h; rfl; (intro w' hSw; have hk := look_spot hSw HL.out hsx hsy; rw [HZD.out] at hk; clear hSw; go_simp; with_reducible rfl); simp only [Act.put, pB, pC, pD]
                refine tkH hHeld 11 (oi := ?_) (v := ?_) ?_ ?_ ?_ ?_ ?_ ?_ ?_ ?_; rotate_left 2; (simp only [gA, gB, gC]; exact rfl); kernel_rfl; kernel_rfl; kernel_rfl; exact fun _ _ _ h => h; rfl; (intro w' hSw; have hk := look_spot hSw HL.out hsx hsy; rw [HZD.out] at hk; clear hSw; go_simp; with_reducible rfl); simp only [Act.put, pB, pC, pD]
                refine onH 6 (oi := ?_) (by kernel_rfl) ?_ ?_ (fun K hK => ?_); rotate_left; (simp only [gA, gB, gC]; exact rfl); rfl
                go_wp2_with (fail)
                refine (truth_yes _).mono ?_
                rintro e w9 ⟨rfl, rfl⟩
                go_wp2_with (fail)
                refine hK.out _ _ hHeld (fun hH2 => ?_)
                clear hK K hHeld
                have hHeld := hH2
                clear hH2
                try simp only [Act.put, pB, pC, pD]
                refine onH 12 (oi := ?_) (by kernel_rfl) ?_ ?_ (fun K hK => ?_); rotate_left; (simp only [gA, gB, gC]; exact rfl); rfl
                go_wp2_with (fail)
                refine (truth_yes _).mono ?_
                rintro e w9 ⟨rfl, rfl⟩
                go_wp2_with (fail)
                refine hK.out _ _ hHeld (fun hH2 => ?_)
                clear hK K hHeld
                have hHeld := hH2
                clear hH2
                try simp only [Act.put, pB, pC, pD]
                refine tkH hHeld 13 (oi := ?_) (v := ?_) ?_ ?_ ?_ ?_ ?_ ?_ ?_ ?_; rotate_left 2; (simp only [gA, gB, gC]; exact rfl); kernel_rfl; kernel_rfl; kernel_rfl; exact fun _ _ _ h => h; rfl; (intro w' hSw; go_simp; with_reducible rfl); simp only [Act.put, pB, pC, pD]
                refine tkH hHeld 14 (oi := ?_) (v := ?_) ?_ ?_ ?_ ?_ ?_ ?_ ?_ ?_; rotate_left 2; (simp only [gA, gB, gC]; exact rfl); kernel_rfl; kernel_rfl; kernel_rfl; exact fun _ _ _ h => h; rfl; (intro w' hSw; go_simp; with_reducible rfl); simp only [Act.put, pB, pC, pD]
                refine tkH hHeld 15 (oi := ?_) (v := ?_) ?_ ?_ ?_ ?_ ?_ ?_ ?_ ?_; rotate_left 2; (simp only [gA, gB, gC]; exact rfl); kernel_rfl; kernel_rfl; kernel_rfl; exact fun _ _ _ h => h; rfl; (intro w' hSw; go_simp; with_reducible rfl); simp only [Act.put, pB, pC, pD]
                refine tkH hHeld 16 (oi := ?_) (v := ?_) ?_ ?_ ?_ ?_ ?_ ?_ ?_ ?_; rotate_left 2; (simp only [gA, gB, gC]; exact rfl); kernel_rfl; kernel_rfl; kernel_rfl; exact fun _ _ _ h => h; rfl; (intro w' hSw; go_simp; with_reducible rfl); simp only [Act.put, pB, pC, pD]
                clear hHeld
                refine wpAnyH_done (by kernel_rfl) ?_ _
                go_wp2_with (fail)
                go_roundw
                case rel => exact ⟨j + 1, by omega, by rw [HSN.out]; rfl, by go_num, q + 1, by rw [← HWQ.out]; rfl⟩
                case measure => simp [intOf]; omega
            · obtain rfl : M = j := by omega
              have hl3 : ¬ lc + (M : Int) ≤ hc := by have := HHM.out; omega
              have hou : (wo.drewN q).heap[v0.heap.size]? = some (.cells #[.int .i64 s, .int .i64 X, .int .i64 Y, .slice ao i co] 28 (0, 0)) := HOUT.out
              have d3 : (wo.drewN q).cell? ⟨v0.heap.size, 3, none⟩ = some (.slice ao i co) := cell_of hou rfl
              have HOW2 : Hid ((wo.drewN q).ownsRow (v0.heap.size + 1) 9 1 (.slice ao i co) i (strV (fun i : Nat => rowP (fun p q => decide ((p, q) ∈ l)) lc M (lr + i)) i)) := Lib.hid HOW.out
              have HBE2 : Hid (Below v0.heap.size v1 (wo.drewN q)) := Lib.hid (bdrewN HBE.out q)
              have hsz2 : v1.heap.size ≤ (wo.drewN q).heap.size := hsz
              have HOUT2 := Lib.hid hou
              clear hou zt hsz a0 b0 b1
              generalize wo.drewN q = wp at *
              go_wp2_with (at_builtin; refine wpList_append_own _ rfl _ _ 26 rfl (v0.heap.size + 1) 9 i0 (.string ⟨#[]⟩) 1 16 Tryz.underlying26 hi0 hz0 hz1 hz2 rfl (by decide) _ _ _ rfl (HOW2.out.alloc _) ⟨wp.heap.size, 0, none⟩ 1 1 [.string ⟨T.toArray⟩] rfl rfl ?c1 ?c2 ?c3 ?c4 ?c5 ?_)
              case c2 => first | rfl | (intro u hu; simp at hu; subst hu; rfl)
              case c3 => unfold maxLen; omega
              case c4 => omega
              case c5 => first | omega | (simp; omega)
              intro v' w6 hown' hgrow _
              obtain ⟨ao2, co2, rfl⟩ : ∃ ao2 co2, v' = .slice ao2 (i + 1) co2 := by
                rcases hown'.2 with ⟨_, h0⟩ | ⟨g, cap, cur, hv, _⟩
                · omega
                · exact ⟨_, _, hv⟩
              have hne1 : (Value.slice ao i co).ownBlock ≠ some v0.heap.size := fun e => by have := (HOW2.out.lt _ e).1; omega
              have hou6 : w6.heap[v0.heap.size]? = some (.cells #[.int .i64 s, .int .i64 X, .int .i64 Y, .slice ao i co] 28 (0, 0)) := (hgrow.block v0.heap.size (by simp; omega) (fun e => hne1 e.symm)).trans ((Below.heap_alloc _ _ _ (by omega)).trans HOUT2.out)
              have e3 : w6.cell? ⟨v0.heap.size, 3, none⟩ = some (.slice ao i co) := cell_of hou6 rfl
              have ef3 : w6.frozen? ⟨v0.heap.size, 3, none⟩ = false := frozen_of hou6
              have hne2 : (Value.slice ao2 (i + 1) co2).ownBlock ≠ some v0.heap.size := fun e => by have := (hown'.lt _ e).1; omega
              have HOF : Hid ((w6.setCell ⟨v0.heap.size, 3, none⟩ (.slice ao2 (i + 1) co2)).heap[v0.heap.size]? = some (.cells #[.int .i64 s, .int .i64 X, .int .i64 Y, .slice ao2 (i + 1) co2] 28 (0, 0))) := Lib.hid (by simp [World.setCell, Array.getElem?_modify, hou6])
              have HOWF := Lib.hid (hown'.kept (w' := w6.setCell ⟨v0.heap.size, 3, none⟩ (.slice ao2 (i + 1) co2)) (row := some v0.heap.size) ⟨rfl, rfl, rfl, by simp [World.setCell], fun k _ hk => Below.heap_setCell _ _ _ _ (fun e => hk (by simp [e]))⟩ (Or.inr hne2))
              have HBF : Hid (Below v0.heap.size v1 (w6.setCell ⟨v0.heap.size, 3, none⟩ (.slice ao2 (i + 1) co2))) := Lib.hid (((HBE2.out.alloc (by omega) _).grown hgrow (by simp; omega) (fun k hk => by have := (HOW2.out.lt k hk).1; omega)).setCell (Nat.le_refl _) _)
              clear hgrow hown' hou6 hne1 hne2
              go_wp2_with (fail)
              go_roundw
              case rel => exact ⟨i + 1, ao2, co2, by omega, by go_num, HOF.out, by have := HOWF.out; rw [← HT2.out] at this; exact this, HBF.out⟩
              case measure => simp [intOf]; omega
        · obtain rfl : N = i := by omega
          have hl2 : ¬ lr + (N : Int) ≤ hr := by have := HHN.out; omega
          obtain ⟨ro1, ro2, ro3⟩ := rows_of_own HOW.out
          have RO := Lib.hid ro1
          have hfr : ∀ b off, ao = some ⟨b, off, none⟩ → v0.heap.size + 1 ≤ b := fun b off h => (HOW.out.lt b (by rw [h]; rfl)).1
          have HFR := Lib.hid hfr
          obtain ⟨E, hE⟩ : ∃ E, cellsE s X Y N (fun i : Nat => rowP (fun p q => decide ((p, q) ∈ l)) lc M (lr + i)) = E := ⟨_, rfl⟩
          have hPE : picE (fun p q => decide ((p, q) ∈ l)) s lc lr hc hr = E := by rw [HP.out, HMM.out, HNN.out]; exact hE
          have HE := Lib.hid hE
          have HPE := Lib.hid hPE
          have d0 : wr.cell? ⟨v0.heap.size, 0, none⟩ = some (.int .i64 s) := cell_of HOUT.out rfl
          have d1 : wr.cell? ⟨v0.heap.size, 1, none⟩ = some (.int .i64 X) := cell_of HOUT.out rfl
          have d2 : wr.cell? ⟨v0.heap.size, 2, none⟩ = some (.int .i64 Y) := cell_of HOUT.out rfl
          have d3 : wr.cell? ⟨v0.heap.size, 3, none⟩ = some (.slice ao N co) := cell_of HOUT.out rfl
          have hbw : v0.heap.size < wr.heap.size := by omega
          clear ro1 hfr hE hPE a0 b0
          go_wp2_with (fail)
          refine (cellsFault_any s X Y ao N co _ _ RO.out (fun i hi => by rw [rowP_len]; omega) (by omega)).mono ?_
          rintro e w6 ⟨rfl, hb6⟩
          rw [HE.out]
          have hz6 : w6.heap[w.heap.size]? = some (.cells #[.int .i64 0, .int .i64 0, .int .i64 0, .slice none 0 0] 28 (0, 0)) := heap_keep hb6 ((HBE.out.block w.heap.size hlz).trans HZ2.out)
          have hou6 := heap_keep hb6 HOUT.out
          have HR6 := Lib.hid (RO.out.kept hb6)
          have B6 := Lib.hid (W1.out.trans ((HBE.out.mono (by omega)).trans (hb6.mono (by omega))))
          have f0 : w6.cell? ⟨v0.heap.size, 0, none⟩ = some (.int .i64 s) := cell_of hou6 rfl
          have f1 : w6.cell? ⟨v0.heap.size, 1, none⟩ = some (.int .i64 X) := cell_of hou6 rfl
          have f2 : w6.cell? ⟨v0.heap.size, 2, none⟩ = some (.int .i64 Y) := cell_of hou6 rfl
          have f3 : w6.cell? ⟨v0.heap.size, 3, none⟩ = some (.slice ao N co) := cell_of hou6 rfl
          have hne : ∀ b off, ao = some ⟨b, off, none⟩ → b ≠ w.heap.size := fun b off h => by have := HFR.out b off h; omega
          have HNE := Lib.hid hne
          have z0 : w6.cell? ⟨w.heap.size, 0, none⟩ = some (.int .i64 0) := cell_of hz6 rfl
          have zf0 : w6.frozen? ⟨w.heap.size, 0, none⟩ = false := frozen_of hz6
          have z1 : w6.cell? ⟨w.heap.size, 1, none⟩ = some (.int .i64 0) := cell_of hz6 rfl
          have zf1 : w6.frozen? ⟨w.heap.size, 1, none⟩ = false := frozen_of hz6
          have z2 : w6.cell? ⟨w.heap.size, 2, none⟩ = some (.int .i64 0) := cell_of hz6 rfl
          have zf2 : w6.frozen? ⟨w.heap.size, 2, none⟩ = false := frozen_of hz6
          have z3 : w6.cell? ⟨w.heap.size, 3, none⟩ = some (.slice none 0 0) := cell_of hz6 rfl
          have zf3 : w6.frozen? ⟨w.heap.size, 3, none⟩ = false := frozen_of hz6
          clear hz6 hou6 hb6 hne d0 d1 d2 d3 hz0
          by_cases hE0 : E = 0
          · have HARE : Hid (CellsAre (fun p q => decide ((p, q) ∈ l)) s 0 s X Y N (fun i : Nat => rowP (fun p q => decide ((p, q) ∈ l)) lc M (lr + i))) := Lib.hid (.inr ⟨lc, lr, hc, hr, HT.out, by rw [HPE.out, hE0], fun h => absurd rfl h, fun _ => ⟨rfl, hX.symm, hY.symm, HNN.out.symm, fun i _ => by rw [HMM.out]⟩⟩)
            subst hE0
            clear hX hY
            go_wp2_with (fail)
            obtain ⟨r0, r1, r2, r3⟩ := set4 (w := w6) (R := w.heap.size) (x0 := (.int .i64 s)) (x1 := (.int .i64 X)) (x2 := (.int .i64 Y)) (x3 := (.slice ao N co)) (is4 (is_some z0) (is_some z1) (is_some z2) (is_some z3)) rfl
            have HF : Hid (Below w.heap.size w ((((w6.setCell ⟨w.heap.size, 0, none⟩ (.int .i64 s)).setCell ⟨w.heap.size, 1, none⟩ (.int .i64 X)).setCell ⟨w.heap.size, 2, none⟩ (.int .i64 Y)).setCell ⟨w.heap.size, 3, none⟩ (.slice ao N co))) := Lib.hid ((((B6.out.setCell (by show _ ≤ w.heap.size; omega) _).setCell (by show _ ≤ w.heap.size; omega) _).setCell (by show _ ≤ w.heap.size; omega) _).setCell (by show _ ≤ w.heap.size; omega) _)
            have HRW : Hid (RowS ((((w6.setCell ⟨w.heap.size, 0, none⟩ (.int .i64 s)).setCell ⟨w.heap.size, 1, none⟩ (.int .i64 X)).setCell ⟨w.heap.size, 2, none⟩ (.int .i64 Y)).setCell ⟨w.heap.size, 3, none⟩ (.slice ao N co)) ao N (fun i : Nat => rowP (fun p q => decide ((p, q) ∈ l)) lc M (lr + i))) := Lib.hid ((((HR6.out.set _ _ HNE.out).set _ _ HNE.out).set _ _ HNE.out).set _ _ HNE.out)
            generalize ((((w6.setCell ⟨w.heap.size, 0, none⟩ (.int .i64 s)).setCell ⟨w.heap.size, 1, none⟩ (.int .i64 X)).setCell ⟨w.heap.size, 2, none⟩ (.int .i64 Y)).setCell ⟨w.heap.size, 3, none⟩ (.slice ao N co)) = WW at *
            exact bodyPost_ret (v := .tuple #[.agg #[.int .i64 s, .int .i64 X, .int .i64 Y, .slice ao N co], .int .i64 0]) (by simp [results, Tryz.results35, go_sem, r0, r1, r2, r3]) rfl ⟨s, X, Y, ao, N, co, _, 0, rfl, HARE.out, HRW.out, fun b off h => by (have := HFR.out b off h; omega), ro2, ro3, fun i hi => by (rw [rowP_len]; omega), HF.out⟩
          · have hE1 : (E != 0) = true := by simpa using hE0
            have HARE : Hid (CellsAre (fun p q => decide ((p, q) ∈ l)) s E 0 0 0 0 (fun _ => [])) := Lib.hid (.inr ⟨lc, lr, hc, hr, HT.out, HPE.out.symm, fun _ => ⟨rfl, rfl, rfl, rfl⟩, fun h => absurd h hE0⟩)
            clear hX hY
            go_wp2_with (fail)
            obtain ⟨r0, r1, r2, r3⟩ := set4 (w := w6) (R := w.heap.size) (x0 := (.int .i64 0)) (x1 := (.int .i64 0)) (x2 := (.int .i64 0)) (x3 := (.slice none 0 0)) (is4 (is_some z0) (is_some z1) (is_some z2) (is_some z3)) rfl
            have HF : Hid (Below w.heap.size w ((((w6.setCell ⟨w.heap.size, 0, none⟩ (.int .i64 0)).setCell ⟨w.heap.size, 1, none⟩ (.int .i64 0)).setCell ⟨w.heap.size, 2, none⟩ (.int .i64 0)).setCell ⟨w.heap.size, 3, none⟩ (.slice none 0 0))) := Lib.hid ((((B6.out.setCell (by show _ ≤ w.heap.size; omega) _).setCell (by show _ ≤ w.heap.size; omega) _).setCell (by show _ ≤ w.heap.size; omega) _).setCell (by show _ ≤ w.heap.size; omega) _)
            generalize ((((w6.setCell ⟨w.heap.size, 0, none⟩ (.int .i64 0)).setCell ⟨w.heap.size, 1, none⟩ (.int .i64 0)).setCell ⟨w.heap.size, 2, none⟩ (.int .i64 0)).setCell ⟨w.heap.size, 3, none⟩ (.slice none 0 0)) = WW at *
            exact bodyPost_ret (v := .tuple #[.agg #[.int .i64 0, .int .i64 0, .int .i64 0, .slice none 0 0], .int .i64 E]) (by simp [results, Tryz.results35, go_sem, r0, r1, r2, r3]) rfl ⟨0, 0, 0, none, 0, 0, _, E, rfl, HARE.out, .inl rfl, fun _ _ h => by (cases h), Nat.le_refl _, by unfold maxLen; omega, fun i hi => absurd hi (by omega), HF.out⟩
end Go.Proofs.YtllagjncibfcmaaGreatDoor

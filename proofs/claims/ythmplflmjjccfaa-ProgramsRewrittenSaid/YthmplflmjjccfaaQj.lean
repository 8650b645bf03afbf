/- Short of the program. -/
import Derived.Test.YthmplflmjjccfaaQi
import Derived.BigQuiet
import Derived.Deep.QuietTactic
import Derived.Deep.Cut
import Derived.Deep.AppendLies
set_option linter.unusedSimpArgs false
set_option linter.unusedVariables false
namespace Go.Proofs.Ythmplflmjjccfaa
open Go.RowKit
theorem popL_nil (s : St) : popL [] s = [] := rfl
theorem popL_yes {p : List St} {u s : St} (h : pairB u s = true) : popL (p ++ [u]) s = p := by unfold popL; rw [lastPair_snoc, if_pos h, List.dropLast_concat]
theorem popL_no {p : List St} {u s : St} (h : pairB u s = false) : popL (p ++ [u]) s = p ++ [u] := by unfold popL; rw [lastPair_snoc, h]; rfl
theorem grow_keep2 {w w' : World} {row : Option Nat} {b : Nat} {o : Obj} (hg : w.grownBy w' row) (h : w.heap[b]? = some o) (hne : row ≠ some b) : w'.heap[b]? = some o :=
  (hg.block b (lt_of_heap h) (fun e => hne e.symm)).trans h
theorem own_grow {w w' : World} {base n size : Nat} {row : Option Nat} {e : TypeId} {v : Value} {xs : List Value} (h : w.ownsRow base e size v n xs) (hg : w.grownBy w' row) (hne : ∀ b, v.ownBlock = some b → row ≠ some b) : w'.ownsRow base e size v n xs := by
  obtain ⟨h1, h2⟩ := h
  refine ⟨h1, ?_⟩
  rcases h2 with h2 | ⟨g, cap, cur, hv, hb, hh, r⟩
  · exact .inl h2
  · exact .inr ⟨g, cap, cur, hv, hb, grow_keep2 hg hh (hne g (by rw [hv]; rfl)), r⟩
theorem sh_len (l : List St) (s : St) : (shL l s).length ≤ l.length + 1 := by
  have h : (popL l s).length ≤ l.length := by
    unfold popL
    split
    · rw [List.length_dropLast]; omega
    · exact Nat.le_refl _
  unfold shL
  split
  · omega
  · rw [List.length_append]; simp; omega
set_option maxRecDepth 100000 in
set_option maxHeartbeats 16000000 in
theorem short_any (a : Option Addr) (n c : Nat) (S : Nat → St) (w : World) (hn : n ≤ 4000) (hok : ∀ i, i < n → SOk (S i)) (hp : StepsR w a n S) :
    Calls Try.prog 7 #[.slice a n c] w (MadeS w (oneE n S (absE n S)) (shortP n S)) := by
  obtain ⟨i0, hi0, hz0, hz1, hz2⟩ := info_parts2 info_st
  obtain ⟨i1, hi1, hy0, hy1, hy2⟩ := info_parts2 info_ma
  have hLn := absL_len S n
  have HAB := Lib.hid (absL_ab (by omega) hok)
  go_enter Try.func7, Try.ntmps7
  go_wp2_with (fail)
  refine (Absolute_any a n c S w (by omega) hp).mono ?_
  rintro e w1 ⟨ao, no, co, T, rfl, hno, hnc, hpo, hE0, hE1, hb⟩
  have HPO := Lib.hid hpo
  have B1 := Lib.hid hb
  clear hpo hb hp
  by_cases hz : oneE n S (absE n S) = 0
  · have HZ := Lib.hid hz
    have hz' : (oneE n S (absE n S) != 0) = false := by simp [hz]
    obtain ⟨rfl, rfl⟩ := hE0 hz
    clear hz hE0 hE1
    obtain ⟨L, hL⟩ : ∃ l, absL S n = l := ⟨_, rfl⟩
    have HL0 := Lib.hid hL
    rw [hL] at HPO HAB hLn hno hnc ⊢
    clear hL
    go_wp2_with (fail)
    go_loopw [6, 7, 25] (fun v u i wr => ∃ (k : Nat) (l : List St) (aA : Option Addr) (cA cS gS : Nat), i = .int .i64 k ∧ k ≤ L.length ∧ v = .slice aA l.length cA ∧ u = .slice (some ⟨gS, 0, none⟩) (l.length + 1) cS ∧ l = (L.take k).foldl shL [] ∧ (∀ s ∈ l, AB s) ∧ l.length ≤ k ∧ wr.ownsRow w1.heap.size 36 6 (.slice aA l.length cA) l.length (rowS l) ∧ wr.ownsRow w1.heap.size 44 8 (.slice (some ⟨gS, 0, none⟩) (l.length + 1) cS) (l.length + 1) (rowM (stL m00 l)) ∧ (∀ b, (Value.slice aA l.length cA).ownBlock = some b → b ≠ gS) ∧ Below w1.heap.size w1 wr) (fun _ _ i _ => L.length - (intOf i).toNat)
    case atStart =>
      exact ⟨0, [], none, 0, 1, w1.heap.size, rfl, by omega, rfl, rfl, by rw [List.take_zero]; rfl, fun s hs => absurd hs (by simp), Nat.le_refl _, World.ownsRow_nil _ _ _ _, ⟨rfl, .inr ⟨w1.heap.size, 1, _, rfl, Nat.le_refl _, heap_new rfl, by simp, by decide, rfl, rfl⟩⟩, (fun b hb => by cases hb), (Below.refl _ _).alloc (Nat.le_refl _) _⟩
    case round =>
      obtain ⟨k, l, aA, cA, cS, gS, rfl, hk, rfl, rfl, hl, habl, hll, hoa, hos, hapart, hbel⟩ := hrel
      have HL := Lib.hid hl.symm
      have HABl := Lib.hid habl
      have HOA0 := Lib.hid hoa
      have HOS0 := Lib.hid hos
      have HB := Lib.hid hbel
      have hsz := hbel.size
      clear hl habl hoa hos hbel
      by_cases hlt : k < L.length
      · rcases HPO.out with h0 | ⟨b, off, rfl, hb, hd⟩
        · omega
        obtain ⟨c0, c1', c2', c3, c4, c5⟩ := hd k hlt
        replace c0 := cellk HB.out hb c0
        replace c1' := cellk HB.out hb c1'
        replace c2' := cellk HB.out hb c2'
        replace c3 := cellk HB.out hb c3
        replace c4 := cellk HB.out hb c4
        replace c5 := cellk HB.out hb c5
        have hbw : b < wr.heap.size := Nat.lt_of_lt_of_le hb hsz
        have HTa : Hid (∀ i, i < L.length → AB (lf L i)) := Lib.hid (fun i hi => HAB.out _ (by
          unfold lf
          rw [List.getD_eq_getElem?_getD, List.getElem?_eq_getElem hi]
          exact List.getElem_mem _))
        have HTk := Lib.hid (HTa.out k hlt)
        clear hd HTa
        obtain ⟨s, hs⟩ : ∃ s, lf L k = s := ⟨_, rfl⟩
        have RS := Lib.hid hs
        rw [hs] at c0 c1' c2' c3 c4 c5 HTk
        clear hs
        have e10 : IntKind.i64.wrap ((l.length : Int) - 1) = (l.length : Int) - 1 := i64w (by omega)
        go_upto_region 10 with (fail)
        have hb1 : Below wr.heap.size wr (wr.alloc (.cells #[.int .i64 s.k, .int .i64 s.x, .int .i64 s.y, .int .i64 s.z, .int .i64 s.f, .int .i64 s.n] 36)) := (Below.refl _ _).alloc (Nat.le_refl _) _
        have HS1 := Lib.hid (heap_alloc_new wr (.cells #[.int .i64 s.k, .int .i64 s.x, .int .i64 s.y, .int .i64 s.z, .int .i64 s.f, .int .i64 s.n] 36))
        have HOA1 := Lib.hid (ownsRow_below HOA0.out hb1)
        have HOS1 := Lib.hid (ownsRow_below HOS0.out hb1)
        have B1' := Lib.hid (HB.out.trans (hb1.mono hsz))
        have HAQ := Lib.hid (fun (b : Nat) (hb : (Value.slice aA l.length cA).ownBlock = some b) => (HOA0.out.lt b hb).2)
        have hgq := (HOS0.out.lt gS rfl).2
        clear hb1 c0 c1' c2' c3 c4 c5 HOA0 HOS0 HB
        generalize (wr.alloc (.cells #[.int .i64 s.k, .int .i64 s.x, .int .i64 s.y, .int .i64 s.z, .int .i64 s.f, .int .i64 s.n] 36)) = w1' at *
        obtain ⟨q, hq⟩ : ∃ q, wr.heap.size = q := ⟨_, rfl⟩
        rw [hq] at HS1 HAQ hgq
        try rw [hq]
        have HQ := Lib.hid (hq ▸ hsz)
        clear hq
        rcases List.eq_nil_or_concat l with h0 | ⟨lp, u, h0⟩
        · have hl0 : l.length = 0 := by rw [h0]; rfl
          have HPOP := Lib.hid (show popL l s = l by rw [h0]; rfl)
          clear h0
          have e11 : decide ((0 : Int) ≤ (l.length : Int) - 1) = false := by rw [decide_eq_false_iff_not]; omega
          go_wp2_with (fail)
          go_quiet (fail)
          clear e11 e10 hl0
          have hb2 : Below w1'.heap.size w1' (w1'.drewN nq) := bdrewN (Below.refl _ _) _
          have HSq := Lib.hid (heap_keep hb2 HS1.out)
          have HOA := Lib.hid (ownsRow_below HOA1.out hb2)
          have HOS := Lib.hid (ownsRow_below HOS1.out hb2)
          have B2 := Lib.hid (B1'.out.trans (hb2.mono B1'.out.size))
          have HABp := HABl
          clear hb2 HS1 HOA1 HOS1 B1'
          generalize (w1'.drewN nq) = w2 at *
          have HABL := Lib.hid (abm_list HABp.out)
          obtain ⟨m1, hm1⟩ : ∃ m1, runL l = m1 := ⟨_, rfl⟩
          have RM1 := Lib.hid hm1
          have hst : ∀ j, j < 8 → w2.cell? ⟨gS, l.length * 8 + j, none⟩ = (mV m1)[j]? := fun j hj => by
            rw [HOS.out.cellAt (l.length * 8 + j) (by omega), rowM_get (by rw [stL_len]; omega) hj, stL_last]
            show (mV (runL l))[j]? = _
            rw [hm1]
          have d0 : w2.cell? ⟨gS, l.length * 8, none⟩ = some (.int .i64 m1.x) := hst 0 (by omega)
          have d1 : w2.cell? ⟨gS, l.length * 8 + 1, none⟩ = some (.int .i64 m1.y) := hst 1 (by omega)
          have d2 : w2.cell? ⟨gS, l.length * 8 + 2, none⟩ = some (.int .i64 m1.z) := hst 2 (by omega)
          have d3 : w2.cell? ⟨gS, l.length * 8 + 3, none⟩ = some (.int .i64 m1.s) := hst 3 (by omega)
          have d4 : w2.cell? ⟨gS, l.length * 8 + 4, none⟩ = some (.int .i64 m1.h) := hst 4 (by omega)
          have d5 : w2.cell? ⟨gS, l.length * 8 + 5, none⟩ = some (.int .i64 m1.t) := hst 5 (by omega)
          have d6 : w2.cell? ⟨gS, l.length * 8 + 6, none⟩ = some (.int .i64 m1.f) := hst 6 (by omega)
          have d7 : w2.cell? ⟨gS, l.length * 8 + 7, none⟩ = some (.bool m1.r) := hst 7 (by omega)
          rw [hm1] at HABL
          have hgSl := (HOS.out.lt gS rfl).2
          have hlp0 : (0 : Int) ≤ (l.length : Int) := by omega
          have hlp1 : (l.length : Int) < (l.length : Int) + 1 := by omega
          clear hst hm1
          have hq2 := lt_of_heap HSq.out
          have s0 : w2.cell? ⟨q, 0, none⟩ = some (.int .i64 s.k) := cell_of HSq.out (i := 0) rfl
          have s1 : w2.cell? ⟨q, 1, none⟩ = some (.int .i64 s.x) := cell_of HSq.out (i := 1) rfl
          have s2 : w2.cell? ⟨q, 2, none⟩ = some (.int .i64 s.y) := cell_of HSq.out (i := 2) rfl
          have s3 : w2.cell? ⟨q, 3, none⟩ = some (.int .i64 s.z) := cell_of HSq.out (i := 3) rfl
          have s4 : w2.cell? ⟨q, 4, none⟩ = some (.int .i64 s.f) := cell_of HSq.out (i := 4) rfl
          have s5 : w2.cell? ⟨q, 5, none⟩ = some (.int .i64 s.n) := cell_of HSq.out (i := 5) rfl
          go_wp2_with (fail)
          have hb3 : Below w2.heap.size w2 (w2.alloc (.cells #[.int .i64 m1.x, .int .i64 m1.y, .int .i64 m1.z, .int .i64 m1.s, .int .i64 m1.h, .int .i64 m1.t, .int .i64 m1.f, .bool m1.r] 44)) := (Below.refl _ _).alloc (Nat.le_refl _) _
          have HN1 := Lib.hid (heap_alloc_new w2 (.cells #[.int .i64 m1.x, .int .i64 m1.y, .int .i64 m1.z, .int .i64 m1.s, .int .i64 m1.h, .int .i64 m1.t, .int .i64 m1.f, .bool m1.r] 44))
          have B3 := Lib.hid (B2.out.trans (hb3.mono (by have := B2.out.size; omega)))
          have HSq3 := Lib.hid (heap_keep hb3 HSq.out)
          have HOA3 := Lib.hid (ownsRow_below HOA.out hb3)
          have HOS3 := Lib.hid (ownsRow_below HOS.out hb3)
          clear hb3 d0 d1 d2 d3 d4 d5 d6 d7 s0 s1 s2 s3 s4 s5
          generalize (w2.alloc (.cells #[.int .i64 m1.x, .int .i64 m1.y, .int .i64 m1.z, .int .i64 m1.s, .int .i64 m1.h, .int .i64 m1.t, .int .i64 m1.f, .bool m1.r] 44)) = w3 at *
          obtain ⟨r1, hr1⟩ : ∃ r, w2.heap.size = r := ⟨_, rfl⟩
          rw [hr1] at HN1
          try rw [hr1]
          have HR1 := Lib.hid hr1
          clear hr1
          refine (done_fit m1 s _ HTk.out.k (HABL.out.fit HTk.out (by omega))).mono ?_
          rintro e w4 ⟨rfl, hb4⟩
          obtain ⟨m2, hm2⟩ : ∃ m2, aft m1 s = m2 := ⟨_, rfl⟩
          have RM2 := Lib.hid hm2
          rw [hm2]
          clear hm2
          have HN14 := Lib.hid (heap_keep hb4 HN1.out)
          have HSq4 := Lib.hid (heap_keep hb4 HSq3.out)
          have HOA4 := Lib.hid (ownsRow_below HOA3.out hb4)
          have HOS4 := Lib.hid (ownsRow_below HOS3.out hb4)
          have B4 := Lib.hid (B3.out.trans (hb4.mono (by have := B3.out.size; omega)))
          have hr14 := lt_of_heap HN14.out
          have hq4 := lt_of_heap HSq4.out
          clear hb4 HN1 HSq3 HOA3 HOS3 B3
          have hb5 : Below w4.heap.size w4 (w4.alloc (.cells #[.int .i64 m2.x, .int .i64 m2.y, .int .i64 m2.z, .int .i64 m2.s, .int .i64 m2.h, .int .i64 m2.t, .int .i64 m2.f, .bool m2.r] 44)) := (Below.refl _ _).alloc (Nat.le_refl _) _
          have HN2 := Lib.hid (heap_alloc_new w4 (.cells #[.int .i64 m2.x, .int .i64 m2.y, .int .i64 m2.z, .int .i64 m2.s, .int .i64 m2.h, .int .i64 m2.t, .int .i64 m2.f, .bool m2.r] 44))
          have HSq5 := Lib.hid (heap_keep hb5 HSq4.out)
          have HOA5 := Lib.hid (ownsRow_below HOA4.out hb5)
          have HOS5 := Lib.hid (ownsRow_below HOS4.out hb5)
          have B5 := Lib.hid (B4.out.trans (hb5.mono (by have := B4.out.size; omega)))
          clear hb5
          have d0 : w4.cell? ⟨r1, 0, none⟩ = some (.int .i64 m1.x) := cell_of HN14.out (i := 0) rfl
          have d1 : w4.cell? ⟨r1, 1, none⟩ = some (.int .i64 m1.y) := cell_of HN14.out (i := 1) rfl
          have d2 : w4.cell? ⟨r1, 2, none⟩ = some (.int .i64 m1.z) := cell_of HN14.out (i := 2) rfl
          have d3 : w4.cell? ⟨r1, 3, none⟩ = some (.int .i64 m1.s) := cell_of HN14.out (i := 3) rfl
          have d4 : w4.cell? ⟨r1, 4, none⟩ = some (.int .i64 m1.h) := cell_of HN14.out (i := 4) rfl
          have d5 : w4.cell? ⟨r1, 5, none⟩ = some (.int .i64 m1.t) := cell_of HN14.out (i := 5) rfl
          have d6 : w4.cell? ⟨r1, 6, none⟩ = some (.int .i64 m1.f) := cell_of HN14.out (i := 6) rfl
          have d7 : w4.cell? ⟨r1, 7, none⟩ = some (.bool m1.r) := cell_of HN14.out (i := 7) rfl
          have s0 : w4.cell? ⟨q, 0, none⟩ = some (.int .i64 s.k) := cell_of HSq4.out (i := 0) rfl
          have s1 : w4.cell? ⟨q, 1, none⟩ = some (.int .i64 s.x) := cell_of HSq4.out (i := 1) rfl
          have s2 : w4.cell? ⟨q, 2, none⟩ = some (.int .i64 s.y) := cell_of HSq4.out (i := 2) rfl
          have s3 : w4.cell? ⟨q, 3, none⟩ = some (.int .i64 s.z) := cell_of HSq4.out (i := 3) rfl
          have s4 : w4.cell? ⟨q, 4, none⟩ = some (.int .i64 s.f) := cell_of HSq4.out (i := 4) rfl
          have s5 : w4.cell? ⟨q, 5, none⟩ = some (.int .i64 s.n) := cell_of HSq4.out (i := 5) rfl
          have hE := fun wx => neq_ma m2 m1 wx
          obtain ⟨vb, hvb⟩ : ∃ vb, (!decide (m2 = m1)) = vb := ⟨_, rfl⟩
          rw [hvb] at hE
          have HVB := Lib.hid hvb
          have hG := gd_ma
          clear hvb
          rcases vb with _ | _
          · have hid : aft (runL l) s = runL l := by rw [RM1.out, RM2.out]; have := HVB.out; simpa using this
            go_wp2_with (fail)
            generalize (w4.alloc (.cells #[.int .i64 m2.x, .int .i64 m2.y, .int .i64 m2.z, .int .i64 m2.s, .int .i64 m2.h, .int .i64 m2.t, .int .i64 m2.f, .bool m2.r] 44)) = w5 at *
            refine (takesTime_any s _).mono ?_
            rintro e w6 ⟨rfl, hb6⟩
            have HSq6 := Lib.hid (heap_keep hb6 HSq5.out)
            have HN26 := Lib.hid (heap_keep hb6 HN2.out)
            have HOA6 := Lib.hid (ownsRow_below HOA5.out hb6)
            have HOS6 := Lib.hid (ownsRow_below HOS5.out hb6)
            have B6 := Lib.hid (B5.out.trans (hb6.mono (by have := B5.out.size; omega)))
            clear hb6
            rcases htb : timeB s with _ | _
            · have HSHL : Hid (shL l s = l) := Lib.hid (by unfold shL; rw [HPOP.out, if_pos ⟨hid, htb⟩])
              clear htb
              go_wp2_with (fail)
              go_roundw
              case rel => exact ⟨k + 1, l, aA, cA, cS, gS, by go_num, by omega, rfl, rfl, by rw [fold_succ _ _ hlt, HL.out, RS.out, HSHL.out], HABp.out, by omega, HOA6.out, HOS6.out, hapart, B6.out⟩
              case measure => simp [intOf] <;> omega
            · have HSHL : Hid (shL l s = l ++ [s]) := Lib.hid (by unfold shL; rw [HPOP.out, if_neg (fun h => by rw [htb] at h; cases h.2)])
              clear htb
              go_wp2_with (fail)
              obtain ⟨r2, hr2⟩ : ∃ r, w4.heap.size = r := ⟨_, rfl⟩
              rw [hr2] at HN26
              try rw [hr2]
              have hqr : q < r2 := by omega
              have HA := HOA6
              have HS := HOS6
              have HQb := HSq6
              have HRb := HN26
              have BB := B6
              clear HOA6 HOS6 HSq6 HN26 B6 hr2
              refine wp_region_held_drew (S := (fun w' => w'.cell? ⟨q, 0, none⟩ = some (.int .i64 s.k) ∧ w'.cell? ⟨q, 1, none⟩ = some (.int .i64 s.x) ∧ w'.cell? ⟨q, 2, none⟩ = some (.int .i64 s.y) ∧ w'.cell? ⟨q, 3, none⟩ = some (.int .i64 s.z) ∧ w'.cell? ⟨q, 4, none⟩ = some (.int .i64 s.f) ∧ w'.cell? ⟨q, 5, none⟩ = some (.int .i64 s.n) ∧ w'.cell? ⟨r2, 0, none⟩ = some (.int .i64 m2.x) ∧ w'.cell? ⟨r2, 1, none⟩ = some (.int .i64 m2.y) ∧ w'.cell? ⟨r2, 2, none⟩ = some (.int .i64 m2.z) ∧ w'.cell? ⟨r2, 3, none⟩ = some (.int .i64 m2.s) ∧ w'.cell? ⟨r2, 4, none⟩ = some (.int .i64 m2.h) ∧ w'.cell? ⟨r2, 5, none⟩ = some (.int .i64 m2.t) ∧ w'.cell? ⟨r2, 6, none⟩ = some (.int .i64 m2.f) ∧ w'.cell? ⟨r2, 7, none⟩ = some (.bool m2.r))) (by kernel_rfl) ⟨cell_of HQb.out (i := 0) rfl, cell_of HQb.out (i := 1) rfl, cell_of HQb.out (i := 2) rfl, cell_of HQb.out (i := 3) rfl, cell_of HQb.out (i := 4) rfl, cell_of HQb.out (i := 5) rfl, cell_of HRb.out (i := 0) rfl, cell_of HRb.out (i := 1) rfl, cell_of HRb.out (i := 2) rfl, cell_of HRb.out (i := 3) rfl, cell_of HRb.out (i := 4) rfl, cell_of HRb.out (i := 5) rfl, cell_of HRb.out (i := 6) rfl, cell_of HRb.out (i := 7) rfl⟩ (fun hHeld => ?_)
              refine tkH (by assumption) 0 (oi := ?_) (v := ?_) ?_ ?_ ?_ ?_ ?_ ?_ ?_ ?_; rotate_left 2; (simp only [gA, gB, gC]; exact rfl); kernel_rfl; kernel_rfl; kernel_rfl; exact fun _ _ _ h => h; rfl; (intro w' hSw; obtain ⟨s0, s1, s2, s3, s4, s5, d0, d1, d2, d3, d4, d5, d6, d7⟩ := hSw;go_simp; with_reducible rfl); simp only [Act.put, pB, pC, pD]
              refine tkH (by assumption) 1 (oi := ?_) (v := ?_) ?_ ?_ ?_ ?_ ?_ ?_ ?_ ?_; rotate_left 2; (simp only [gA, gB, gC]; exact rfl); kernel_rfl; kernel_rfl; kernel_rfl; exact fun _ _ _ h => h; rfl; (intro w' hSw; obtain ⟨s0, s1, s2, s3, s4, s5, d0, d1, d2, d3, d4, d5, d6, d7⟩ := hSw;go_simp; with_reducible rfl); simp only [Act.put, pB, pC, pD]
              refine tkH (by assumption) 4 (oi := ?_) (v := ?_) ?_ ?_ ?_ ?_ ?_ ?_ ?_ ?_; rotate_left 2; (simp only [gA, gB, gC]; exact rfl); kernel_rfl; kernel_rfl; kernel_rfl; exact fun _ _ _ h => h; rfl; (intro w' hSw; obtain ⟨s0, s1, s2, s3, s4, s5, d0, d1, d2, d3, d4, d5, d6, d7⟩ := hSw;go_simp; with_reducible rfl); simp only [Act.put, pB, pC, pD]
              refine tkH (by assumption) 5 (oi := ?_) (v := ?_) ?_ ?_ ?_ ?_ ?_ ?_ ?_ ?_; rotate_left 2; (simp only [gA, gB, gC]; exact rfl); kernel_rfl; kernel_rfl; kernel_rfl; exact fun _ _ _ h => h; rfl; (intro w' hSw; obtain ⟨s0, s1, s2, s3, s4, s5, d0, d1, d2, d3, d4, d5, d6, d7⟩ := hSw;go_simp; with_reducible rfl); simp only [Act.put, pB, pC, pD]
              have hbd : Below w6.heap.size w6 w6.drew := Below.drew (Below.refl _ _)
              replace HA := Lib.hid (ownsRow_below HA.out hbd)
              replace HS := Lib.hid (ownsRow_below HS.out hbd)
              replace HQb := Lib.hid (heap_keep hbd HQb.out)
              replace HRb := Lib.hid (heap_keep hbd HRb.out)
              replace BB := Lib.hid (BB.out.trans (hbd.mono BB.out.size))
              clear hbd
              generalize w6.drew = x0 at *
              refine wpAnyH_ready (rs := [2, 6]) (by kernel_rfl) (by simp) ?_
              refine coH 2 (oi := ?_) ?_ ?_ (fun K hK => ?_) ?_; rotate_left; (simp only [gA, gB, gC]; exact rfl); rfl
              · go_wp2_with (fail)
                have hb : Below x0.heap.size x0 (x0.alloc (.cells #[.int .i64 s.k, .int .i64 s.x, .int .i64 s.y, .int .i64 s.z, .int .i64 s.f, .int .i64 s.n] 36)) := (Below.refl _ _).alloc (Nat.le_refl _) _
                have hrl2 : r2 < x0.heap.size := lt_of_heap HRb.out
                have HG2 := Lib.hid (heap_alloc_new x0 (.cells #[.int .i64 s.k, .int .i64 s.x, .int .i64 s.y, .int .i64 s.z, .int .i64 s.f, .int .i64 s.n] 36))
                replace HA := Lib.hid (ownsRow_below HA.out hb)
                replace HS := Lib.hid (ownsRow_below HS.out hb)
                replace HQb := Lib.hid (heap_keep hb HQb.out)
                replace HRb := Lib.hid (heap_keep hb HRb.out)
                replace BB := Lib.hid (BB.out.trans (hb.mono BB.out.size))
                clear hb
                refine hK.out _ _ ⟨cell_of HQb.out (i := 0) rfl, cell_of HQb.out (i := 1) rfl, cell_of HQb.out (i := 2) rfl, cell_of HQb.out (i := 3) rfl, cell_of HQb.out (i := 4) rfl, cell_of HQb.out (i := 5) rfl, cell_of HRb.out (i := 0) rfl, cell_of HRb.out (i := 1) rfl, cell_of HRb.out (i := 2) rfl, cell_of HRb.out (i := 3) rfl, cell_of HRb.out (i := 4) rfl, cell_of HRb.out (i := 5) rfl, cell_of HRb.out (i := 6) rfl, cell_of HRb.out (i := 7) rfl⟩ (fun hHeldN => ?_)
                clear hK K hHeld
                have hHeld := hHeldN
                clear hHeldN
                try simp only [Act.put, pB, pC, pD]
                generalize (x0.alloc (.cells #[.int .i64 s.k, .int .i64 s.x, .int .i64 s.y, .int .i64 s.z, .int .i64 s.f, .int .i64 s.n] 36)) = x1 at *
                obtain ⟨g2, hg2⟩ : ∃ g, x0.heap.size = g := ⟨_, rfl⟩
                rw [hg2] at HG2 hrl2
                try rw [hg2]
                clear hg2
                refine wpAnyH_ready (rs := [3, 6]) (by kernel_rfl) (by simp) ?_
                refine coH 3 (oi := ?_) ?_ ?_ (fun K hK => ?_) ?_; rotate_left; (simp only [gA, gB, gC]; exact rfl); rfl
                · have hbs := BB.out.size
                  have hrl := lt_of_heap HRb.out
                  refine wp_append_lies _ _ _ 26 rfl w1.heap.size 36 i0 (.agg #[.int .i64 0, .int .i64 0, .int .i64 0, .int .i64 0, .int .i64 0, .int .i64 0]) 6 48 Try.underlying26 hi0 hz0 hz1 hz2 rfl (by decide) _ _ _ rfl HA.out ⟨g2, 0, none⟩ 1 1 [.int .i64 s.k, .int .i64 s.x, .int .i64 s.y, .int .i64 s.z, .int .i64 s.f, .int .i64 s.n] rfl rfl (World.news_of_block (cs := #[.int .i64 s.k, .int .i64 s.x, .int .i64 s.y, .int .i64 s.z, .int .i64 s.f, .int .i64 s.n]) (t := 36) (fr := (0, 0)) HG2.out) (by simp [Value.oneCell']) (by omega) (by unfold maxLen; omega) (by omega) (by omega) _ rfl ?_
                  intro g3 c3 x2 hown hgrow hor hltn
                  replace HQb := Lib.hid (grow_keep2 hgrow HQb.out (fun e => by have := HAQ.out _ e; omega))
                  replace HRb := Lib.hid (grow_keep2 hgrow HRb.out (fun e => by have := HAQ.out _ e; omega))
                  replace HS := Lib.hid (own_grow HS.out hgrow (fun b hb e => hapart b e (by cases hb; rfl)))
                  replace BB := Lib.hid (Below.grown BB.out hgrow (by omega) (fun b hb => (HA.out.lt b hb).1))
                  have hgg : g3 ≠ gS := by
                    rcases hor with h | h
                    · exact hapart g3 h
                    · omega
                  replace HA := Lib.hid hown
                  have hg3l := hltn
                  clear hown hgrow hor hltn hbs hrl HG2
                  refine hK.out _ _ ⟨cell_of HQb.out (i := 0) rfl, cell_of HQb.out (i := 1) rfl, cell_of HQb.out (i := 2) rfl, cell_of HQb.out (i := 3) rfl, cell_of HQb.out (i := 4) rfl, cell_of HQb.out (i := 5) rfl, cell_of HRb.out (i := 0) rfl, cell_of HRb.out (i := 1) rfl, cell_of HRb.out (i := 2) rfl, cell_of HRb.out (i := 3) rfl, cell_of HRb.out (i := 4) rfl, cell_of HRb.out (i := 5) rfl, cell_of HRb.out (i := 6) rfl, cell_of HRb.out (i := 7) rfl⟩ (fun hHeldN => ?_)
                  clear hK K hHeld
                  have hHeld := hHeldN
                  clear hHeldN
                  try simp only [Act.put, pB, pC, pD]
                  refine onH 6 (oi := ?_) (by kernel_rfl) ?_ ?_ (fun K hK => ?_); rotate_left; (simp only [gA, gB, gC]; exact rfl); rfl
                  go_wp2_with (fail)
                  have hb : Below x2.heap.size x2 (x2.alloc (.cells #[.int .i64 m2.x, .int .i64 m2.y, .int .i64 m2.z, .int .i64 m2.s, .int .i64 m2.h, .int .i64 m2.t, .int .i64 m2.f, .bool m2.r] 44)) := (Below.refl _ _).alloc (Nat.le_refl _) _
                  have hrl6 : r2 < x2.heap.size := lt_of_heap HRb.out
                  have HG6 := Lib.hid (heap_alloc_new x2 (.cells #[.int .i64 m2.x, .int .i64 m2.y, .int .i64 m2.z, .int .i64 m2.s, .int .i64 m2.h, .int .i64 m2.t, .int .i64 m2.f, .bool m2.r] 44))
                  replace HA := Lib.hid (ownsRow_below HA.out hb)
                  replace HS := Lib.hid (ownsRow_below HS.out hb)
                  replace HQb := Lib.hid (heap_keep hb HQb.out)
                  replace HRb := Lib.hid (heap_keep hb HRb.out)
                  replace BB := Lib.hid (BB.out.trans (hb.mono BB.out.size))
                  clear hb
                  refine hK.out _ _ ⟨cell_of HQb.out (i := 0) rfl, cell_of HQb.out (i := 1) rfl, cell_of HQb.out (i := 2) rfl, cell_of HQb.out (i := 3) rfl, cell_of HQb.out (i := 4) rfl, cell_of HQb.out (i := 5) rfl, cell_of HRb.out (i := 0) rfl, cell_of HRb.out (i := 1) rfl, cell_of HRb.out (i := 2) rfl, cell_of HRb.out (i := 3) rfl, cell_of HRb.out (i := 4) rfl, cell_of HRb.out (i := 5) rfl, cell_of HRb.out (i := 6) rfl, cell_of HRb.out (i := 7) rfl⟩ (fun hHeldN => ?_)
                  clear hK K hHeld
                  have hHeld := hHeldN
                  clear hHeldN
                  try simp only [Act.put, pB, pC, pD]
                  generalize (x2.alloc (.cells #[.int .i64 m2.x, .int .i64 m2.y, .int .i64 m2.z, .int .i64 m2.s, .int .i64 m2.h, .int .i64 m2.t, .int .i64 m2.f, .bool m2.r] 44)) = x3 at *
                  obtain ⟨g6, hg6⟩ : ∃ g, x2.heap.size = g := ⟨_, rfl⟩
                  rw [hg6] at HG6 hrl6
                  try rw [hg6]
                  clear hg6
                  refine onH 7 (oi := ?_) (by kernel_rfl) ?_ ?_ (fun K hK => ?_); rotate_left; (simp only [gA, gB, gC]; exact rfl); rfl
                  have hbs := BB.out.size
                  have hrl := lt_of_heap HRb.out
                  refine wp_append_lies _ _ _ 50 rfl w1.heap.size 44 i1 (.agg #[.int .i64 0, .int .i64 0, .int .i64 0, .int .i64 0, .int .i64 0, .int .i64 0, .int .i64 0, .bool false]) 8 64 Try.underlying50 hi1 hy0 hy1 hy2 rfl (by decide) _ _ _ rfl HS.out ⟨g6, 0, none⟩ 1 1 [.int .i64 m2.x, .int .i64 m2.y, .int .i64 m2.z, .int .i64 m2.s, .int .i64 m2.h, .int .i64 m2.t, .int .i64 m2.f, .bool m2.r] rfl rfl (World.news_of_block (cs := #[.int .i64 m2.x, .int .i64 m2.y, .int .i64 m2.z, .int .i64 m2.s, .int .i64 m2.h, .int .i64 m2.t, .int .i64 m2.f, .bool m2.r]) (t := 44) (fr := (0, 0)) HG6.out) (by simp [Value.oneCell']) (by omega) (by unfold maxLen; omega) (by omega) (by omega) _ rfl ?_
                  intro g7 c7 x4 hown hgrow hor hltn
                  replace HQb := Lib.hid (grow_keep2 hgrow HQb.out (fun e => by have e2 : gS = _ := Option.some.inj e; omega))
                  replace HRb := Lib.hid (grow_keep2 hgrow HRb.out (fun e => by have e2 : gS = _ := Option.some.inj e; omega))
                  replace BB := Lib.hid (Below.grown BB.out hgrow (by omega) (fun b hb => (HS.out.lt b hb).1))
                  have hgg2 : g3 ≠ g7 := by
                    have h3 := (HA.out.lt g3 rfl).2
                    rcases hor with h | h
                    · have e2 : gS = g7 := Option.some.inj h
                      omega
                    · omega
                  replace HA := Lib.hid (own_grow HA.out hgrow (fun b hb e => by cases hb; exact hgg (Option.some.inj e).symm))
                  replace HS := Lib.hid hown
                  clear hown hgrow hor hltn hbs hrl HG6
                  refine hK.out _ _ ⟨cell_of HQb.out (i := 0) rfl, cell_of HQb.out (i := 1) rfl, cell_of HQb.out (i := 2) rfl, cell_of HQb.out (i := 3) rfl, cell_of HQb.out (i := 4) rfl, cell_of HQb.out (i := 5) rfl, cell_of HRb.out (i := 0) rfl, cell_of HRb.out (i := 1) rfl, cell_of HRb.out (i := 2) rfl, cell_of HRb.out (i := 3) rfl, cell_of HRb.out (i := 4) rfl, cell_of HRb.out (i := 5) rfl, cell_of HRb.out (i := 6) rfl, cell_of HRb.out (i := 7) rfl⟩ (fun hHeldN => ?_)
                  clear hK K hHeld
                  have hHeld := hHeldN
                  clear hHeldN
                  try simp only [Act.put, pB, pC, pD]
                  refine tkH (by assumption) 8 (oi := ?_) (v := ?_) ?_ ?_ ?_ ?_ ?_ ?_ ?_ ?_; rotate_left 2; (simp only [gA, gB, gC]; exact rfl); kernel_rfl; kernel_rfl; kernel_rfl; exact fun _ _ _ h => h; rfl; (intro w' hSw; obtain ⟨s0, s1, s2, s3, s4, s5, d0, d1, d2, d3, d4, d5, d6, d7⟩ := hSw;go_simp; with_reducible rfl); simp only [Act.put, pB, pC, pD]
                  refine tkH (by assumption) 9 (oi := ?_) (v := ?_) ?_ ?_ ?_ ?_ ?_ ?_ ?_ ?_; rotate_left 2; (simp only [gA, gB, gC]; exact rfl); kernel_rfl; kernel_rfl; kernel_rfl; exact fun _ _ _ h => h; rfl; (intro w' hSw; obtain ⟨s0, s1, s2, s3, s4, s5, d0, d1, d2, d3, d4, d5, d6, d7⟩ := hSw;go_simp; with_reducible rfl); simp only [Act.put, pB, pC, pD]
                  refine wpAnyH_done (by kernel_rfl) ?_ _
                  clear hHeld
                  go_wp2_with (fail)
                  go_roundw
                  case rel => exact ⟨k + 1, l ++ [s], some ⟨g3, 0, none⟩, c3, c7, g7, by go_num, by omega, by rw [List.length_append]; rfl, by rw [List.length_append]; rfl, by rw [fold_succ _ _ hlt, HL.out, RS.out, HSHL.out], fun t ht => (List.mem_append.1 ht).elim (HABp.out t) (fun h => by rw [List.mem_singleton.1 h]; exact HTk.out), by rw [List.length_append]; simp; omega, by rw [List.length_append, rowS_app]; exact HA.out, by rw [List.length_append, stL_snoc, rowM_app, show List.foldl aft m00 l = m1 from RM1.out, RM2.out]; exact HS.out, (fun b hb => by cases hb; exact hgg2), BB.out⟩
                  case measure => simp [intOf] <;> omega
                refine coH 6 (oi := ?_) ?_ ?_ (fun K hK => ?_) ?_; rotate_left; (simp only [gA, gB, gC]; exact rfl); rfl
                · go_wp2_with (fail)
                  have hb : Below x1.heap.size x1 (x1.alloc (.cells #[.int .i64 m2.x, .int .i64 m2.y, .int .i64 m2.z, .int .i64 m2.s, .int .i64 m2.h, .int .i64 m2.t, .int .i64 m2.f, .bool m2.r] 44)) := (Below.refl _ _).alloc (Nat.le_refl _) _
                  have hrl6 : r2 < x1.heap.size := lt_of_heap HRb.out
                  have HG6 := Lib.hid (heap_alloc_new x1 (.cells #[.int .i64 m2.x, .int .i64 m2.y, .int .i64 m2.z, .int .i64 m2.s, .int .i64 m2.h, .int .i64 m2.t, .int .i64 m2.f, .bool m2.r] 44))
                  replace HA := Lib.hid (ownsRow_below HA.out hb)
                  replace HS := Lib.hid (ownsRow_below HS.out hb)
                  replace HQb := Lib.hid (heap_keep hb HQb.out)
                  replace HRb := Lib.hid (heap_keep hb HRb.out)
                  replace HG2 := Lib.hid (heap_keep hb HG2.out)
                  replace BB := Lib.hid (BB.out.trans (hb.mono BB.out.size))
                  clear hb
                  refine hK.out _ _ ⟨cell_of HQb.out (i := 0) rfl, cell_of HQb.out (i := 1) rfl, cell_of HQb.out (i := 2) rfl, cell_of HQb.out (i := 3) rfl, cell_of HQb.out (i := 4) rfl, cell_of HQb.out (i := 5) rfl, cell_of HRb.out (i := 0) rfl, cell_of HRb.out (i := 1) rfl, cell_of HRb.out (i := 2) rfl, cell_of HRb.out (i := 3) rfl, cell_of HRb.out (i := 4) rfl, cell_of HRb.out (i := 5) rfl, cell_of HRb.out (i := 6) rfl, cell_of HRb.out (i := 7) rfl⟩ (fun hHeldN => ?_)
                  clear hK K hHeld
                  have hHeld := hHeldN
                  clear hHeldN
                  try simp only [Act.put, pB, pC, pD]
                  generalize (x1.alloc (.cells #[.int .i64 m2.x, .int .i64 m2.y, .int .i64 m2.z, .int .i64 m2.s, .int .i64 m2.h, .int .i64 m2.t, .int .i64 m2.f, .bool m2.r] 44)) = x2 at *
                  obtain ⟨g6, hg6⟩ : ∃ g, x1.heap.size = g := ⟨_, rfl⟩
                  rw [hg6] at HG6 hrl6
                  try rw [hg6]
                  clear hg6
                  refine onH 3 (oi := ?_) (by kernel_rfl) ?_ ?_ (fun K hK => ?_); rotate_left; (simp only [gA, gB, gC]; exact rfl); rfl
                  have hbs := BB.out.size
                  have hrl := lt_of_heap HRb.out
                  refine wp_append_lies _ _ _ 26 rfl w1.heap.size 36 i0 (.agg #[.int .i64 0, .int .i64 0, .int .i64 0, .int .i64 0, .int .i64 0, .int .i64 0]) 6 48 Try.underlying26 hi0 hz0 hz1 hz2 rfl (by decide) _ _ _ rfl HA.out ⟨g2, 0, none⟩ 1 1 [.int .i64 s.k, .int .i64 s.x, .int .i64 s.y, .int .i64 s.z, .int .i64 s.f, .int .i64 s.n] rfl rfl (World.news_of_block (cs := #[.int .i64 s.k, .int .i64 s.x, .int .i64 s.y, .int .i64 s.z, .int .i64 s.f, .int .i64 s.n]) (t := 36) (fr := (0, 0)) HG2.out) (by simp [Value.oneCell']) (by omega) (by unfold maxLen; omega) (by omega) (by omega) _ rfl ?_
                  intro g3 c3 x3 hown hgrow hor hltn
                  replace HQb := Lib.hid (grow_keep2 hgrow HQb.out (fun e => by have := HAQ.out _ e; omega))
                  replace HRb := Lib.hid (grow_keep2 hgrow HRb.out (fun e => by have := HAQ.out _ e; omega))
                  replace HG6 := Lib.hid (grow_keep2 hgrow HG6.out (fun e => by have := HAQ.out _ e; omega))
                  replace HS := Lib.hid (own_grow HS.out hgrow (fun b hb e => hapart b e (by cases hb; rfl)))
                  replace BB := Lib.hid (Below.grown BB.out hgrow (by omega) (fun b hb => (HA.out.lt b hb).1))
                  have hgg : g3 ≠ gS := by
                    rcases hor with h | h
                    · exact hapart g3 h
                    · omega
                  replace HA := Lib.hid hown
                  have hg3l := hltn
                  clear hown hgrow hor hltn hbs hrl HG2
                  refine hK.out _ _ ⟨cell_of HQb.out (i := 0) rfl, cell_of HQb.out (i := 1) rfl, cell_of HQb.out (i := 2) rfl, cell_of HQb.out (i := 3) rfl, cell_of HQb.out (i := 4) rfl, cell_of HQb.out (i := 5) rfl, cell_of HRb.out (i := 0) rfl, cell_of HRb.out (i := 1) rfl, cell_of HRb.out (i := 2) rfl, cell_of HRb.out (i := 3) rfl, cell_of HRb.out (i := 4) rfl, cell_of HRb.out (i := 5) rfl, cell_of HRb.out (i := 6) rfl, cell_of HRb.out (i := 7) rfl⟩ (fun hHeldN => ?_)
                  clear hK K hHeld
                  have hHeld := hHeldN
                  clear hHeldN
                  try simp only [Act.put, pB, pC, pD]
                  refine onH 7 (oi := ?_) (by kernel_rfl) ?_ ?_ (fun K hK => ?_); rotate_left; (simp only [gA, gB, gC]; exact rfl); rfl
                  have hbs := BB.out.size
                  have hrl := lt_of_heap HRb.out
                  refine wp_append_lies _ _ _ 50 rfl w1.heap.size 44 i1 (.agg #[.int .i64 0, .int .i64 0, .int .i64 0, .int .i64 0, .int .i64 0, .int .i64 0, .int .i64 0, .bool false]) 8 64 Try.underlying50 hi1 hy0 hy1 hy2 rfl (by decide) _ _ _ rfl HS.out ⟨g6, 0, none⟩ 1 1 [.int .i64 m2.x, .int .i64 m2.y, .int .i64 m2.z, .int .i64 m2.s, .int .i64 m2.h, .int .i64 m2.t, .int .i64 m2.f, .bool m2.r] rfl rfl (World.news_of_block (cs := #[.int .i64 m2.x, .int .i64 m2.y, .int .i64 m2.z, .int .i64 m2.s, .int .i64 m2.h, .int .i64 m2.t, .int .i64 m2.f, .bool m2.r]) (t := 44) (fr := (0, 0)) HG6.out) (by simp [Value.oneCell']) (by omega) (by unfold maxLen; omega) (by omega) (by omega) _ rfl ?_
                  intro g7 c7 x4 hown hgrow hor hltn
                  replace HQb := Lib.hid (grow_keep2 hgrow HQb.out (fun e => by have e2 : gS = _ := Option.some.inj e; omega))
                  replace HRb := Lib.hid (grow_keep2 hgrow HRb.out (fun e => by have e2 : gS = _ := Option.some.inj e; omega))
                  replace BB := Lib.hid (Below.grown BB.out hgrow (by omega) (fun b hb => (HS.out.lt b hb).1))
                  have hgg2 : g3 ≠ g7 := by
                    have h3 := (HA.out.lt g3 rfl).2
                    rcases hor with h | h
                    · have e2 : gS = g7 := Option.some.inj h
                      omega
                    · omega
                  replace HA := Lib.hid (own_grow HA.out hgrow (fun b hb e => by cases hb; exact hgg (Option.some.inj e).symm))
                  replace HS := Lib.hid hown
                  clear hown hgrow hor hltn hbs hrl HG6
                  refine hK.out _ _ ⟨cell_of HQb.out (i := 0) rfl, cell_of HQb.out (i := 1) rfl, cell_of HQb.out (i := 2) rfl, cell_of HQb.out (i := 3) rfl, cell_of HQb.out (i := 4) rfl, cell_of HQb.out (i := 5) rfl, cell_of HRb.out (i := 0) rfl, cell_of HRb.out (i := 1) rfl, cell_of HRb.out (i := 2) rfl, cell_of HRb.out (i := 3) rfl, cell_of HRb.out (i := 4) rfl, cell_of HRb.out (i := 5) rfl, cell_of HRb.out (i := 6) rfl, cell_of HRb.out (i := 7) rfl⟩ (fun hHeldN => ?_)
                  clear hK K hHeld
                  have hHeld := hHeldN
                  clear hHeldN
                  try simp only [Act.put, pB, pC, pD]
                  refine tkH (by assumption) 8 (oi := ?_) (v := ?_) ?_ ?_ ?_ ?_ ?_ ?_ ?_ ?_; rotate_left 2; (simp only [gA, gB, gC]; exact rfl); kernel_rfl; kernel_rfl; kernel_rfl; exact fun _ _ _ h => h; rfl; (intro w' hSw; obtain ⟨s0, s1, s2, s3, s4, s5, d0, d1, d2, d3, d4, d5, d6, d7⟩ := hSw;go_simp; with_reducible rfl); simp only [Act.put, pB, pC, pD]
                  refine tkH (by assumption) 9 (oi := ?_) (v := ?_) ?_ ?_ ?_ ?_ ?_ ?_ ?_ ?_; rotate_left 2; (simp only [gA, gB, gC]; exact rfl); kernel_rfl; kernel_rfl; kernel_rfl; exact fun _ _ _ h => h; rfl; (intro w' hSw; obtain ⟨s0, s1, s2, s3, s4, s5, d0, d1, d2, d3, d4, d5, d6, d7⟩ := hSw;go_simp; with_reducible rfl); simp only [Act.put, pB, pC, pD]
                  refine wpAnyH_done (by kernel_rfl) ?_ _
                  clear hHeld
                  go_wp2_with (fail)
                  go_roundw
                  case rel => exact ⟨k + 1, l ++ [s], some ⟨g3, 0, none⟩, c3, c7, g7, by go_num, by omega, by rw [List.length_append]; rfl, by rw [List.length_append]; rfl, by rw [fold_succ _ _ hlt, HL.out, RS.out, HSHL.out], fun t ht => (List.mem_append.1 ht).elim (HABp.out t) (fun h => by rw [List.mem_singleton.1 h]; exact HTk.out), by rw [List.length_append]; simp; omega, by rw [List.length_append, rowS_app]; exact HA.out, by rw [List.length_append, stL_snoc, rowM_app, show List.foldl aft m00 l = m1 from RM1.out, RM2.out]; exact HS.out, (fun b hb => by cases hb; exact hgg2), BB.out⟩
                  case measure => simp [intOf] <;> omega
                exact AllReadyH.nil
              refine coH 6 (oi := ?_) ?_ ?_ (fun K hK => ?_) ?_; rotate_left; (simp only [gA, gB, gC]; exact rfl); rfl
              · go_wp2_with (fail)
                have hb : Below x0.heap.size x0 (x0.alloc (.cells #[.int .i64 m2.x, .int .i64 m2.y, .int .i64 m2.z, .int .i64 m2.s, .int .i64 m2.h, .int .i64 m2.t, .int .i64 m2.f, .bool m2.r] 44)) := (Below.refl _ _).alloc (Nat.le_refl _) _
                have hrl6 : r2 < x0.heap.size := lt_of_heap HRb.out
                have HG6 := Lib.hid (heap_alloc_new x0 (.cells #[.int .i64 m2.x, .int .i64 m2.y, .int .i64 m2.z, .int .i64 m2.s, .int .i64 m2.h, .int .i64 m2.t, .int .i64 m2.f, .bool m2.r] 44))
                replace HA := Lib.hid (ownsRow_below HA.out hb)
                replace HS := Lib.hid (ownsRow_below HS.out hb)
                replace HQb := Lib.hid (heap_keep hb HQb.out)
                replace HRb := Lib.hid (heap_keep hb HRb.out)
                replace BB := Lib.hid (BB.out.trans (hb.mono BB.out.size))
                clear hb
                refine hK.out _ _ ⟨cell_of HQb.out (i := 0) rfl, cell_of HQb.out (i := 1) rfl, cell_of HQb.out (i := 2) rfl, cell_of HQb.out (i := 3) rfl, cell_of HQb.out (i := 4) rfl, cell_of HQb.out (i := 5) rfl, cell_of HRb.out (i := 0) rfl, cell_of HRb.out (i := 1) rfl, cell_of HRb.out (i := 2) rfl, cell_of HRb.out (i := 3) rfl, cell_of HRb.out (i := 4) rfl, cell_of HRb.out (i := 5) rfl, cell_of HRb.out (i := 6) rfl, cell_of HRb.out (i := 7) rfl⟩ (fun hHeldN => ?_)
                clear hK K hHeld
                have hHeld := hHeldN
                clear hHeldN
                try simp only [Act.put, pB, pC, pD]
                generalize (x0.alloc (.cells #[.int .i64 m2.x, .int .i64 m2.y, .int .i64 m2.z, .int .i64 m2.s, .int .i64 m2.h, .int .i64 m2.t, .int .i64 m2.f, .bool m2.r] 44)) = x1 at *
                obtain ⟨g6, hg6⟩ : ∃ g, x0.heap.size = g := ⟨_, rfl⟩
                rw [hg6] at HG6 hrl6
                try rw [hg6]
                clear hg6
                refine onH 2 (oi := ?_) (by kernel_rfl) ?_ ?_ (fun K hK => ?_); rotate_left; (simp only [gA, gB, gC]; exact rfl); rfl
                go_wp2_with (fail)
                have hb : Below x1.heap.size x1 (x1.alloc (.cells #[.int .i64 s.k, .int .i64 s.x, .int .i64 s.y, .int .i64 s.z, .int .i64 s.f, .int .i64 s.n] 36)) := (Below.refl _ _).alloc (Nat.le_refl _) _
                have hrl2 : r2 < x1.heap.size := lt_of_heap HRb.out
                have HG2 := Lib.hid (heap_alloc_new x1 (.cells #[.int .i64 s.k, .int .i64 s.x, .int .i64 s.y, .int .i64 s.z, .int .i64 s.f, .int .i64 s.n] 36))
                replace HA := Lib.hid (ownsRow_below HA.out hb)
                replace HS := Lib.hid (ownsRow_below HS.out hb)
                replace HQb := Lib.hid (heap_keep hb HQb.out)
                replace HRb := Lib.hid (heap_keep hb HRb.out)
                replace HG6 := Lib.hid (heap_keep hb HG6.out)
                replace BB := Lib.hid (BB.out.trans (hb.mono BB.out.size))
                clear hb
                refine hK.out _ _ ⟨cell_of HQb.out (i := 0) rfl, cell_of HQb.out (i := 1) rfl, cell_of HQb.out (i := 2) rfl, cell_of HQb.out (i := 3) rfl, cell_of HQb.out (i := 4) rfl, cell_of HQb.out (i := 5) rfl, cell_of HRb.out (i := 0) rfl, cell_of HRb.out (i := 1) rfl, cell_of HRb.out (i := 2) rfl, cell_of HRb.out (i := 3) rfl, cell_of HRb.out (i := 4) rfl, cell_of HRb.out (i := 5) rfl, cell_of HRb.out (i := 6) rfl, cell_of HRb.out (i := 7) rfl⟩ (fun hHeldN => ?_)
                clear hK K hHeld
                have hHeld := hHeldN
                clear hHeldN
                try simp only [Act.put, pB, pC, pD]
                generalize (x1.alloc (.cells #[.int .i64 s.k, .int .i64 s.x, .int .i64 s.y, .int .i64 s.z, .int .i64 s.f, .int .i64 s.n] 36)) = x2 at *
                obtain ⟨g2, hg2⟩ : ∃ g, x1.heap.size = g := ⟨_, rfl⟩
                rw [hg2] at HG2 hrl2
                try rw [hg2]
                clear hg2
                refine onH 3 (oi := ?_) (by kernel_rfl) ?_ ?_ (fun K hK => ?_); rotate_left; (simp only [gA, gB, gC]; exact rfl); rfl
                have hbs := BB.out.size
                have hrl := lt_of_heap HRb.out
                refine wp_append_lies _ _ _ 26 rfl w1.heap.size 36 i0 (.agg #[.int .i64 0, .int .i64 0, .int .i64 0, .int .i64 0, .int .i64 0, .int .i64 0]) 6 48 Try.underlying26 hi0 hz0 hz1 hz2 rfl (by decide) _ _ _ rfl HA.out ⟨g2, 0, none⟩ 1 1 [.int .i64 s.k, .int .i64 s.x, .int .i64 s.y, .int .i64 s.z, .int .i64 s.f, .int .i64 s.n] rfl rfl (World.news_of_block (cs := #[.int .i64 s.k, .int .i64 s.x, .int .i64 s.y, .int .i64 s.z, .int .i64 s.f, .int .i64 s.n]) (t := 36) (fr := (0, 0)) HG2.out) (by simp [Value.oneCell']) (by omega) (by unfold maxLen; omega) (by omega) (by omega) _ rfl ?_
                intro g3 c3 x3 hown hgrow hor hltn
                replace HQb := Lib.hid (grow_keep2 hgrow HQb.out (fun e => by have := HAQ.out _ e; omega))
                replace HRb := Lib.hid (grow_keep2 hgrow HRb.out (fun e => by have := HAQ.out _ e; omega))
                replace HG6 := Lib.hid (grow_keep2 hgrow HG6.out (fun e => by have := HAQ.out _ e; omega))
                replace HS := Lib.hid (own_grow HS.out hgrow (fun b hb e => hapart b e (by cases hb; rfl)))
                replace BB := Lib.hid (Below.grown BB.out hgrow (by omega) (fun b hb => (HA.out.lt b hb).1))
                have hgg : g3 ≠ gS := by
                  rcases hor with h | h
                  · exact hapart g3 h
                  · omega
                replace HA := Lib.hid hown
                have hg3l := hltn
                clear hown hgrow hor hltn hbs hrl HG2
                refine hK.out _ _ ⟨cell_of HQb.out (i := 0) rfl, cell_of HQb.out (i := 1) rfl, cell_of HQb.out (i := 2) rfl, cell_of HQb.out (i := 3) rfl, cell_of HQb.out (i := 4) rfl, cell_of HQb.out (i := 5) rfl, cell_of HRb.out (i := 0) rfl, cell_of HRb.out (i := 1) rfl, cell_of HRb.out (i := 2) rfl, cell_of HRb.out (i := 3) rfl, cell_of HRb.out (i := 4) rfl, cell_of HRb.out (i := 5) rfl, cell_of HRb.out (i := 6) rfl, cell_of HRb.out (i := 7) rfl⟩ (fun hHeldN => ?_)
                clear hK K hHeld
                have hHeld := hHeldN
                clear hHeldN
                try simp only [Act.put, pB, pC, pD]
                refine onH 7 (oi := ?_) (by kernel_rfl) ?_ ?_ (fun K hK => ?_); rotate_left; (simp only [gA, gB, gC]; exact rfl); rfl
                have hbs := BB.out.size
                have hrl := lt_of_heap HRb.out
                refine wp_append_lies _ _ _ 50 rfl w1.heap.size 44 i1 (.agg #[.int .i64 0, .int .i64 0, .int .i64 0, .int .i64 0, .int .i64 0, .int .i64 0, .int .i64 0, .bool false]) 8 64 Try.underlying50 hi1 hy0 hy1 hy2 rfl (by decide) _ _ _ rfl HS.out ⟨g6, 0, none⟩ 1 1 [.int .i64 m2.x, .int .i64 m2.y, .int .i64 m2.z, .int .i64 m2.s, .int .i64 m2.h, .int .i64 m2.t, .int .i64 m2.f, .bool m2.r] rfl rfl (World.news_of_block (cs := #[.int .i64 m2.x, .int .i64 m2.y, .int .i64 m2.z, .int .i64 m2.s, .int .i64 m2.h, .int .i64 m2.t, .int .i64 m2.f, .bool m2.r]) (t := 44) (fr := (0, 0)) HG6.out) (by simp [Value.oneCell']) (by omega) (by unfold maxLen; omega) (by omega) (by omega) _ rfl ?_
                intro g7 c7 x4 hown hgrow hor hltn
                replace HQb := Lib.hid (grow_keep2 hgrow HQb.out (fun e => by have e2 : gS = _ := Option.some.inj e; omega))
                replace HRb := Lib.hid (grow_keep2 hgrow HRb.out (fun e => by have e2 : gS = _ := Option.some.inj e; omega))
                replace BB := Lib.hid (Below.grown BB.out hgrow (by omega) (fun b hb => (HS.out.lt b hb).1))
                have hgg2 : g3 ≠ g7 := by
                  have h3 := (HA.out.lt g3 rfl).2
                  rcases hor with h | h
                  · have e2 : gS = g7 := Option.some.inj h
                    omega
                  · omega
                replace HA := Lib.hid (own_grow HA.out hgrow (fun b hb e => by cases hb; exact hgg (Option.some.inj e).symm))
                replace HS := Lib.hid hown
                clear hown hgrow hor hltn hbs hrl HG6
                refine hK.out _ _ ⟨cell_of HQb.out (i := 0) rfl, cell_of HQb.out (i := 1) rfl, cell_of HQb.out (i := 2) rfl, cell_of HQb.out (i := 3) rfl, cell_of HQb.out (i := 4) rfl, cell_of HQb.out (i := 5) rfl, cell_of HRb.out (i := 0) rfl, cell_of HRb.out (i := 1) rfl, cell_of HRb.out (i := 2) rfl, cell_of HRb.out (i := 3) rfl, cell_of HRb.out (i := 4) rfl, cell_of HRb.out (i := 5) rfl, cell_of HRb.out (i := 6) rfl, cell_of HRb.out (i := 7) rfl⟩ (fun hHeldN => ?_)
                clear hK K hHeld
                have hHeld := hHeldN
                clear hHeldN
                try simp only [Act.put, pB, pC, pD]
                refine tkH (by assumption) 8 (oi := ?_) (v := ?_) ?_ ?_ ?_ ?_ ?_ ?_ ?_ ?_; rotate_left 2; (simp only [gA, gB, gC]; exact rfl); kernel_rfl; kernel_rfl; kernel_rfl; exact fun _ _ _ h => h; rfl; (intro w' hSw; obtain ⟨s0, s1, s2, s3, s4, s5, d0, d1, d2, d3, d4, d5, d6, d7⟩ := hSw;go_simp; with_reducible rfl); simp only [Act.put, pB, pC, pD]
                refine tkH (by assumption) 9 (oi := ?_) (v := ?_) ?_ ?_ ?_ ?_ ?_ ?_ ?_ ?_; rotate_left 2; (simp only [gA, gB, gC]; exact rfl); kernel_rfl; kernel_rfl; kernel_rfl; exact fun _ _ _ h => h; rfl; (intro w' hSw; obtain ⟨s0, s1, s2, s3, s4, s5, d0, d1, d2, d3, d4, d5, d6, d7⟩ := hSw;go_simp; with_reducible rfl); simp only [Act.put, pB, pC, pD]
                refine wpAnyH_done (by kernel_rfl) ?_ _
                clear hHeld
                go_wp2_with (fail)
                go_roundw
                case rel => exact ⟨k + 1, l ++ [s], some ⟨g3, 0, none⟩, c3, c7, g7, by go_num, by omega, by rw [List.length_append]; rfl, by rw [List.length_append]; rfl, by rw [fold_succ _ _ hlt, HL.out, RS.out, HSHL.out], fun t ht => (List.mem_append.1 ht).elim (HABp.out t) (fun h => by rw [List.mem_singleton.1 h]; exact HTk.out), by rw [List.length_append]; simp; omega, by rw [List.length_append, rowS_app]; exact HA.out, by rw [List.length_append, stL_snoc, rowM_app, show List.foldl aft m00 l = m1 from RM1.out, RM2.out]; exact HS.out, (fun b hb => by cases hb; exact hgg2), BB.out⟩
                case measure => simp [intOf] <;> omega
              exact AllReadyH.nil
          · have HSHL : Hid (shL l s = l ++ [s]) := Lib.hid (by unfold shL; rw [HPOP.out, if_neg (fun h => by have := HVB.out; rw [RM1.out, RM2.out] at h; simp [h.1] at this)])
            go_wp2_with (fail)
            generalize (w4.alloc (.cells #[.int .i64 m2.x, .int .i64 m2.y, .int .i64 m2.z, .int .i64 m2.s, .int .i64 m2.h, .int .i64 m2.t, .int .i64 m2.f, .bool m2.r] 44)) = w6 at *
            have HOA6 := HOA5
            have HOS6 := HOS5
            have HSq6 := HSq5
            have HN26 := HN2
            have B6 := B5
            clear HOA5 HOS5 HSq5 HN2 B5
            obtain ⟨r2, hr2⟩ : ∃ r, w4.heap.size = r := ⟨_, rfl⟩
            rw [hr2] at HN26
            try rw [hr2]
            have hqr : q < r2 := by omega
            have HA := HOA6
            have HS := HOS6
            have HQb := HSq6
            have HRb := HN26
            have BB := B6
            clear HOA6 HOS6 HSq6 HN26 B6 hr2
            refine wp_region_held_drew (S := (fun w' => w'.cell? ⟨q, 0, none⟩ = some (.int .i64 s.k) ∧ w'.cell? ⟨q, 1, none⟩ = some (.int .i64 s.x) ∧ w'.cell? ⟨q, 2, none⟩ = some (.int .i64 s.y) ∧ w'.cell? ⟨q, 3, none⟩ = some (.int .i64 s.z) ∧ w'.cell? ⟨q, 4, none⟩ = some (.int .i64 s.f) ∧ w'.cell? ⟨q, 5, none⟩ = some (.int .i64 s.n) ∧ w'.cell? ⟨r2, 0, none⟩ = some (.int .i64 m2.x) ∧ w'.cell? ⟨r2, 1, none⟩ = some (.int .i64 m2.y) ∧ w'.cell? ⟨r2, 2, none⟩ = some (.int .i64 m2.z) ∧ w'.cell? ⟨r2, 3, none⟩ = some (.int .i64 m2.s) ∧ w'.cell? ⟨r2, 4, none⟩ = some (.int .i64 m2.h) ∧ w'.cell? ⟨r2, 5, none⟩ = some (.int .i64 m2.t) ∧ w'.cell? ⟨r2, 6, none⟩ = some (.int .i64 m2.f) ∧ w'.cell? ⟨r2, 7, none⟩ = some (.bool m2.r))) (by kernel_rfl) ⟨cell_of HQb.out (i := 0) rfl, cell_of HQb.out (i := 1) rfl, cell_of HQb.out (i := 2) rfl, cell_of HQb.out (i := 3) rfl, cell_of HQb.out (i := 4) rfl, cell_of HQb.out (i := 5) rfl, cell_of HRb.out (i := 0) rfl, cell_of HRb.out (i := 1) rfl, cell_of HRb.out (i := 2) rfl, cell_of HRb.out (i := 3) rfl, cell_of HRb.out (i := 4) rfl, cell_of HRb.out (i := 5) rfl, cell_of HRb.out (i := 6) rfl, cell_of HRb.out (i := 7) rfl⟩ (fun hHeld => ?_)
            refine tkH (by assumption) 0 (oi := ?_) (v := ?_) ?_ ?_ ?_ ?_ ?_ ?_ ?_ ?_; rotate_left 2; (simp only [gA, gB, gC]; exact rfl); kernel_rfl; kernel_rfl; kernel_rfl; exact fun _ _ _ h => h; rfl; (intro w' hSw; obtain ⟨s0, s1, s2, s3, s4, s5, d0, d1, d2, d3, d4, d5, d6, d7⟩ := hSw;go_simp; with_reducible rfl); simp only [Act.put, pB, pC, pD]
            refine tkH (by assumption) 1 (oi := ?_) (v := ?_) ?_ ?_ ?_ ?_ ?_ ?_ ?_ ?_; rotate_left 2; (simp only [gA, gB, gC]; exact rfl); kernel_rfl; kernel_rfl; kernel_rfl; exact fun _ _ _ h => h; rfl; (intro w' hSw; obtain ⟨s0, s1, s2, s3, s4, s5, d0, d1, d2, d3, d4, d5, d6, d7⟩ := hSw;go_simp; with_reducible rfl); simp only [Act.put, pB, pC, pD]
            refine tkH (by assumption) 4 (oi := ?_) (v := ?_) ?_ ?_ ?_ ?_ ?_ ?_ ?_ ?_; rotate_left 2; (simp only [gA, gB, gC]; exact rfl); kernel_rfl; kernel_rfl; kernel_rfl; exact fun _ _ _ h => h; rfl; (intro w' hSw; obtain ⟨s0, s1, s2, s3, s4, s5, d0, d1, d2, d3, d4, d5, d6, d7⟩ := hSw;go_simp; with_reducible rfl); simp only [Act.put, pB, pC, pD]
            refine tkH (by assumption) 5 (oi := ?_) (v := ?_) ?_ ?_ ?_ ?_ ?_ ?_ ?_ ?_; rotate_left 2; (simp only [gA, gB, gC]; exact rfl); kernel_rfl; kernel_rfl; kernel_rfl; exact fun _ _ _ h => h; rfl; (intro w' hSw; obtain ⟨s0, s1, s2, s3, s4, s5, d0, d1, d2, d3, d4, d5, d6, d7⟩ := hSw;go_simp; with_reducible rfl); simp only [Act.put, pB, pC, pD]
            have hbd : Below w6.heap.size w6 w6.drew := Below.drew (Below.refl _ _)
            replace HA := Lib.hid (ownsRow_below HA.out hbd)
            replace HS := Lib.hid (ownsRow_below HS.out hbd)
            replace HQb := Lib.hid (heap_keep hbd HQb.out)
            replace HRb := Lib.hid (heap_keep hbd HRb.out)
            replace BB := Lib.hid (BB.out.trans (hbd.mono BB.out.size))
            clear hbd
            generalize w6.drew = x0 at *
            refine wpAnyH_ready (rs := [2, 6]) (by kernel_rfl) (by simp) ?_
            refine coH 2 (oi := ?_) ?_ ?_ (fun K hK => ?_) ?_; rotate_left; (simp only [gA, gB, gC]; exact rfl); rfl
            · go_wp2_with (fail)
              have hb : Below x0.heap.size x0 (x0.alloc (.cells #[.int .i64 s.k, .int .i64 s.x, .int .i64 s.y, .int .i64 s.z, .int .i64 s.f, .int .i64 s.n] 36)) := (Below.refl _ _).alloc (Nat.le_refl _) _
              have hrl2 : r2 < x0.heap.size := lt_of_heap HRb.out
              have HG2 := Lib.hid (heap_alloc_new x0 (.cells #[.int .i64 s.k, .int .i64 s.x, .int .i64 s.y, .int .i64 s.z, .int .i64 s.f, .int .i64 s.n] 36))
              replace HA := Lib.hid (ownsRow_below HA.out hb)
              replace HS := Lib.hid (ownsRow_below HS.out hb)
              replace HQb := Lib.hid (heap_keep hb HQb.out)
              replace HRb := Lib.hid (heap_keep hb HRb.out)
              replace BB := Lib.hid (BB.out.trans (hb.mono BB.out.size))
              clear hb
              refine hK.out _ _ ⟨cell_of HQb.out (i := 0) rfl, cell_of HQb.out (i := 1) rfl, cell_of HQb.out (i := 2) rfl, cell_of HQb.out (i := 3) rfl, cell_of HQb.out (i := 4) rfl, cell_of HQb.out (i := 5) rfl, cell_of HRb.out (i := 0) rfl, cell_of HRb.out (i := 1) rfl, cell_of HRb.out (i := 2) rfl, cell_of HRb.out (i := 3) rfl, cell_of HRb.out (i := 4) rfl, cell_of HRb.out (i := 5) rfl, cell_of HRb.out (i := 6) rfl, cell_of HRb.out (i := 7) rfl⟩ (fun hHeldN => ?_)
              clear hK K hHeld
              have hHeld := hHeldN
              clear hHeldN
              try simp only [Act.put, pB, pC, pD]
              generalize (x0.alloc (.cells #[.int .i64 s.k, .int .i64 s.x, .int .i64 s.y, .int .i64 s.z, .int .i64 s.f, .int .i64 s.n] 36)) = x1 at *
              obtain ⟨g2, hg2⟩ : ∃ g, x0.heap.size = g := ⟨_, rfl⟩
              rw [hg2] at HG2 hrl2
              try rw [hg2]
              clear hg2
              refine wpAnyH_ready (rs := [3, 6]) (by kernel_rfl) (by simp) ?_
              refine coH 3 (oi := ?_) ?_ ?_ (fun K hK => ?_) ?_; rotate_left; (simp only [gA, gB, gC]; exact rfl); rfl
              · have hbs := BB.out.size
                have hrl := lt_of_heap HRb.out
                refine wp_append_lies _ _ _ 26 rfl w1.heap.size 36 i0 (.agg #[.int .i64 0, .int .i64 0, .int .i64 0, .int .i64 0, .int .i64 0, .int .i64 0]) 6 48 Try.underlying26 hi0 hz0 hz1 hz2 rfl (by decide) _ _ _ rfl HA.out ⟨g2, 0, none⟩ 1 1 [.int .i64 s.k, .int .i64 s.x, .int .i64 s.y, .int .i64 s.z, .int .i64 s.f, .int .i64 s.n] rfl rfl (World.news_of_block (cs := #[.int .i64 s.k, .int .i64 s.x, .int .i64 s.y, .int .i64 s.z, .int .i64 s.f, .int .i64 s.n]) (t := 36) (fr := (0, 0)) HG2.out) (by simp [Value.oneCell']) (by omega) (by unfold maxLen; omega) (by omega) (by omega) _ rfl ?_
                intro g3 c3 x2 hown hgrow hor hltn
                replace HQb := Lib.hid (grow_keep2 hgrow HQb.out (fun e => by have := HAQ.out _ e; omega))
                replace HRb := Lib.hid (grow_keep2 hgrow HRb.out (fun e => by have := HAQ.out _ e; omega))
                replace HS := Lib.hid (own_grow HS.out hgrow (fun b hb e => hapart b e (by cases hb; rfl)))
                replace BB := Lib.hid (Below.grown BB.out hgrow (by omega) (fun b hb => (HA.out.lt b hb).1))
                have hgg : g3 ≠ gS := by
                  rcases hor with h | h
                  · exact hapart g3 h
                  · omega
                replace HA := Lib.hid hown
                have hg3l := hltn
                clear hown hgrow hor hltn hbs hrl HG2
                refine hK.out _ _ ⟨cell_of HQb.out (i := 0) rfl, cell_of HQb.out (i := 1) rfl, cell_of HQb.out (i := 2) rfl, cell_of HQb.out (i := 3) rfl, cell_of HQb.out (i := 4) rfl, cell_of HQb.out (i := 5) rfl, cell_of HRb.out (i := 0) rfl, cell_of HRb.out (i := 1) rfl, cell_of HRb.out (i := 2) rfl, cell_of HRb.out (i := 3) rfl, cell_of HRb.out (i := 4) rfl, cell_of HRb.out (i := 5) rfl, cell_of HRb.out (i := 6) rfl, cell_of HRb.out (i := 7) rfl⟩ (fun hHeldN => ?_)
                clear hK K hHeld
                have hHeld := hHeldN
                clear hHeldN
                try simp only [Act.put, pB, pC, pD]
                refine onH 6 (oi := ?_) (by kernel_rfl) ?_ ?_ (fun K hK => ?_); rotate_left; (simp only [gA, gB, gC]; exact rfl); rfl
                go_wp2_with (fail)
                have hb : Below x2.heap.size x2 (x2.alloc (.cells #[.int .i64 m2.x, .int .i64 m2.y, .int .i64 m2.z, .int .i64 m2.s, .int .i64 m2.h, .int .i64 m2.t, .int .i64 m2.f, .bool m2.r] 44)) := (Below.refl _ _).alloc (Nat.le_refl _) _
                have hrl6 : r2 < x2.heap.size := lt_of_heap HRb.out
                have HG6 := Lib.hid (heap_alloc_new x2 (.cells #[.int .i64 m2.x, .int .i64 m2.y, .int .i64 m2.z, .int .i64 m2.s, .int .i64 m2.h, .int .i64 m2.t, .int .i64 m2.f, .bool m2.r] 44))
                replace HA := Lib.hid (ownsRow_below HA.out hb)
                replace HS := Lib.hid (ownsRow_below HS.out hb)
                replace HQb := Lib.hid (heap_keep hb HQb.out)
                replace HRb := Lib.hid (heap_keep hb HRb.out)
                replace BB := Lib.hid (BB.out.trans (hb.mono BB.out.size))
                clear hb
                refine hK.out _ _ ⟨cell_of HQb.out (i := 0) rfl, cell_of HQb.out (i := 1) rfl, cell_of HQb.out (i := 2) rfl, cell_of HQb.out (i := 3) rfl, cell_of HQb.out (i := 4) rfl, cell_of HQb.out (i := 5) rfl, cell_of HRb.out (i := 0) rfl, cell_of HRb.out (i := 1) rfl, cell_of HRb.out (i := 2) rfl, cell_of HRb.out (i := 3) rfl, cell_of HRb.out (i := 4) rfl, cell_of HRb.out (i := 5) rfl, cell_of HRb.out (i := 6) rfl, cell_of HRb.out (i := 7) rfl⟩ (fun hHeldN => ?_)
                clear hK K hHeld
                have hHeld := hHeldN
                clear hHeldN
                try simp only [Act.put, pB, pC, pD]
                generalize (x2.alloc (.cells #[.int .i64 m2.x, .int .i64 m2.y, .int .i64 m2.z, .int .i64 m2.s, .int .i64 m2.h, .int .i64 m2.t, .int .i64 m2.f, .bool m2.r] 44)) = x3 at *
                obtain ⟨g6, hg6⟩ : ∃ g, x2.heap.size = g := ⟨_, rfl⟩
                rw [hg6] at HG6 hrl6
                try rw [hg6]
                clear hg6
                refine onH 7 (oi := ?_) (by kernel_rfl) ?_ ?_ (fun K hK => ?_); rotate_left; (simp only [gA, gB, gC]; exact rfl); rfl
                have hbs := BB.out.size
                have hrl := lt_of_heap HRb.out
                refine wp_append_lies _ _ _ 50 rfl w1.heap.size 44 i1 (.agg #[.int .i64 0, .int .i64 0, .int .i64 0, .int .i64 0, .int .i64 0, .int .i64 0, .int .i64 0, .bool false]) 8 64 Try.underlying50 hi1 hy0 hy1 hy2 rfl (by decide) _ _ _ rfl HS.out ⟨g6, 0, none⟩ 1 1 [.int .i64 m2.x, .int .i64 m2.y, .int .i64 m2.z, .int .i64 m2.s, .int .i64 m2.h, .int .i64 m2.t, .int .i64 m2.f, .bool m2.r] rfl rfl (World.news_of_block (cs := #[.int .i64 m2.x, .int .i64 m2.y, .int .i64 m2.z, .int .i64 m2.s, .int .i64 m2.h, .int .i64 m2.t, .int .i64 m2.f, .bool m2.r]) (t := 44) (fr := (0, 0)) HG6.out) (by simp [Value.oneCell']) (by omega) (by unfold maxLen; omega) (by omega) (by omega) _ rfl ?_
                intro g7 c7 x4 hown hgrow hor hltn
                replace HQb := Lib.hid (grow_keep2 hgrow HQb.out (fun e => by have e2 : gS = _ := Option.some.inj e; omega))
                replace HRb := Lib.hid (grow_keep2 hgrow HRb.out (fun e => by have e2 : gS = _ := Option.some.inj e; omega))
                replace BB := Lib.hid (Below.grown BB.out hgrow (by omega) (fun b hb => (HS.out.lt b hb).1))
                have hgg2 : g3 ≠ g7 := by
                  have h3 := (HA.out.lt g3 rfl).2
                  rcases hor with h | h
                  · have e2 : gS = g7 := Option.some.inj h
                    omega
                  · omega
                replace HA := Lib.hid (own_grow HA.out hgrow (fun b hb e => by cases hb; exact hgg (Option.some.inj e).symm))
                replace HS := Lib.hid hown
                clear hown hgrow hor hltn hbs hrl HG6
                refine hK.out _ _ ⟨cell_of HQb.out (i := 0) rfl, cell_of HQb.out (i := 1) rfl, cell_of HQb.out (i := 2) rfl, cell_of HQb.out (i := 3) rfl, cell_of HQb.out (i := 4) rfl, cell_of HQb.out (i := 5) rfl, cell_of HRb.out (i := 0) rfl, cell_of HRb.out (i := 1) rfl, cell_of HRb.out (i := 2) rfl, cell_of HRb.out (i := 3) rfl, cell_of HRb.out (i := 4) rfl, cell_of HRb.out (i := 5) rfl, cell_of HRb.out (i := 6) rfl, cell_of HRb.out (i := 7) rfl⟩ (fun hHeldN => ?_)
                clear hK K hHeld
                have hHeld := hHeldN
                clear hHeldN
                try simp only [Act.put, pB, pC, pD]
                refine tkH (by assumption) 8 (oi := ?_) (v := ?_) ?_ ?_ ?_ ?_ ?_ ?_ ?_ ?_; rotate_left 2; (simp only [gA, gB, gC]; exact rfl); kernel_rfl; kernel_rfl; kernel_rfl; exact fun _ _ _ h => h; rfl; (intro w' hSw; obtain ⟨s0, s1, s2, s3, s4, s5, d0, d1, d2, d3, d4, d5, d6, d7⟩ := hSw;go_simp; with_reducible rfl); simp only [Act.put, pB, pC, pD]
                refine tkH (by assumption) 9 (oi := ?_) (v := ?_) ?_ ?_ ?_ ?_ ?_ ?_ ?_ ?_; rotate_left 2; (simp only [gA, gB, gC]; exact rfl); kernel_rfl; kernel_rfl; kernel_rfl; exact fun _ _ _ h => h; rfl; (intro w' hSw; obtain ⟨s0, s1, s2, s3, s4, s5, d0, d1, d2, d3, d4, d5, d6, d7⟩ := hSw;go_simp; with_reducible rfl); simp only [Act.put, pB, pC, pD]
                refine wpAnyH_done (by kernel_rfl) ?_ _
                clear hHeld
                go_wp2_with (fail)
                go_roundw
                case rel => exact ⟨k + 1, l ++ [s], some ⟨g3, 0, none⟩, c3, c7, g7, by go_num, by omega, by rw [List.length_append]; rfl, by rw [List.length_append]; rfl, by rw [fold_succ _ _ hlt, HL.out, RS.out, HSHL.out], fun t ht => (List.mem_append.1 ht).elim (HABp.out t) (fun h => by rw [List.mem_singleton.1 h]; exact HTk.out), by rw [List.length_append]; simp; omega, by rw [List.length_append, rowS_app]; exact HA.out, by rw [List.length_append, stL_snoc, rowM_app, show List.foldl aft m00 l = m1 from RM1.out, RM2.out]; exact HS.out, (fun b hb => by cases hb; exact hgg2), BB.out⟩
                case measure => simp [intOf] <;> omega
              refine coH 6 (oi := ?_) ?_ ?_ (fun K hK => ?_) ?_; rotate_left; (simp only [gA, gB, gC]; exact rfl); rfl
              · go_wp2_with (fail)
                have hb : Below x1.heap.size x1 (x1.alloc (.cells #[.int .i64 m2.x, .int .i64 m2.y, .int .i64 m2.z, .int .i64 m2.s, .int .i64 m2.h, .int .i64 m2.t, .int .i64 m2.f, .bool m2.r] 44)) := (Below.refl _ _).alloc (Nat.le_refl _) _
                have hrl6 : r2 < x1.heap.size := lt_of_heap HRb.out
                have HG6 := Lib.hid (heap_alloc_new x1 (.cells #[.int .i64 m2.x, .int .i64 m2.y, .int .i64 m2.z, .int .i64 m2.s, .int .i64 m2.h, .int .i64 m2.t, .int .i64 m2.f, .bool m2.r] 44))
                replace HA := Lib.hid (ownsRow_below HA.out hb)
                replace HS := Lib.hid (ownsRow_below HS.out hb)
                replace HQb := Lib.hid (heap_keep hb HQb.out)
                replace HRb := Lib.hid (heap_keep hb HRb.out)
                replace HG2 := Lib.hid (heap_keep hb HG2.out)
                replace BB := Lib.hid (BB.out.trans (hb.mono BB.out.size))
                clear hb
                refine hK.out _ _ ⟨cell_of HQb.out (i := 0) rfl, cell_of HQb.out (i := 1) rfl, cell_of HQb.out (i := 2) rfl, cell_of HQb.out (i := 3) rfl, cell_of HQb.out (i := 4) rfl, cell_of HQb.out (i := 5) rfl, cell_of HRb.out (i := 0) rfl, cell_of HRb.out (i := 1) rfl, cell_of HRb.out (i := 2) rfl, cell_of HRb.out (i := 3) rfl, cell_of HRb.out (i := 4) rfl, cell_of HRb.out (i := 5) rfl, cell_of HRb.out (i := 6) rfl, cell_of HRb.out (i := 7) rfl⟩ (fun hHeldN => ?_)
                clear hK K hHeld
                have hHeld := hHeldN
                clear hHeldN
                try simp only [Act.put, pB, pC, pD]
                generalize (x1.alloc (.cells #[.int .i64 m2.x, .int .i64 m2.y, .int .i64 m2.z, .int .i64 m2.s, .int .i64 m2.h, .int .i64 m2.t, .int .i64 m2.f, .bool m2.r] 44)) = x2 at *
                obtain ⟨g6, hg6⟩ : ∃ g, x1.heap.size = g := ⟨_, rfl⟩
                rw [hg6] at HG6 hrl6
                try rw [hg6]
                clear hg6
                refine onH 3 (oi := ?_) (by kernel_rfl) ?_ ?_ (fun K hK => ?_); rotate_left; (simp only [gA, gB, gC]; exact rfl); rfl
                have hbs := BB.out.size
                have hrl := lt_of_heap HRb.out
                refine wp_append_lies _ _ _ 26 rfl w1.heap.size 36 i0 (.agg #[.int .i64 0, .int .i64 0, .int .i64 0, .int .i64 0, .int .i64 0, .int .i64 0]) 6 48 Try.underlying26 hi0 hz0 hz1 hz2 rfl (by decide) _ _ _ rfl HA.out ⟨g2, 0, none⟩ 1 1 [.int .i64 s.k, .int .i64 s.x, .int .i64 s.y, .int .i64 s.z, .int .i64 s.f, .int .i64 s.n] rfl rfl (World.news_of_block (cs := #[.int .i64 s.k, .int .i64 s.x, .int .i64 s.y, .int .i64 s.z, .int .i64 s.f, .int .i64 s.n]) (t := 36) (fr := (0, 0)) HG2.out) (by simp [Value.oneCell']) (by omega) (by unfold maxLen; omega) (by omega) (by omega) _ rfl ?_
                intro g3 c3 x3 hown hgrow hor hltn
                replace HQb := Lib.hid (grow_keep2 hgrow HQb.out (fun e => by have := HAQ.out _ e; omega))
                replace HRb := Lib.hid (grow_keep2 hgrow HRb.out (fun e => by have := HAQ.out _ e; omega))
                replace HG6 := Lib.hid (grow_keep2 hgrow HG6.out (fun e => by have := HAQ.out _ e; omega))
                replace HS := Lib.hid (own_grow HS.out hgrow (fun b hb e => hapart b e (by cases hb; rfl)))
                replace BB := Lib.hid (Below.grown BB.out hgrow (by omega) (fun b hb => (HA.out.lt b hb).1))
                have hgg : g3 ≠ gS := by
                  rcases hor with h | h
                  · exact hapart g3 h
                  · omega
                replace HA := Lib.hid hown
                have hg3l := hltn
                clear hown hgrow hor hltn hbs hrl HG2
                refine hK.out _ _ ⟨cell_of HQb.out (i := 0) rfl, cell_of HQb.out (i := 1) rfl, cell_of HQb.out (i := 2) rfl, cell_of HQb.out (i := 3) rfl, cell_of HQb.out (i := 4) rfl, cell_of HQb.out (i := 5) rfl, cell_of HRb.out (i := 0) rfl, cell_of HRb.out (i := 1) rfl, cell_of HRb.out (i := 2) rfl, cell_of HRb.out (i := 3) rfl, cell_of HRb.out (i := 4) rfl, cell_of HRb.out (i := 5) rfl, cell_of HRb.out (i := 6) rfl, cell_of HRb.out (i := 7) rfl⟩ (fun hHeldN => ?_)
                clear hK K hHeld
                have hHeld := hHeldN
                clear hHeldN
                try simp only [Act.put, pB, pC, pD]
                refine onH 7 (oi := ?_) (by kernel_rfl) ?_ ?_ (fun K hK => ?_); rotate_left; (simp only [gA, gB, gC]; exact rfl); rfl
                have hbs := BB.out.size
                have hrl := lt_of_heap HRb.out
                refine wp_append_lies _ _ _ 50 rfl w1.heap.size 44 i1 (.agg #[.int .i64 0, .int .i64 0, .int .i64 0, .int .i64 0, .int .i64 0, .int .i64 0, .int .i64 0, .bool false]) 8 64 Try.underlying50 hi1 hy0 hy1 hy2 rfl (by decide) _ _ _ rfl HS.out ⟨g6, 0, none⟩ 1 1 [.int .i64 m2.x, .int .i64 m2.y, .int .i64 m2.z, .int .i64 m2.s, .int .i64 m2.h, .int .i64 m2.t, .int .i64 m2.f, .bool m2.r] rfl rfl (World.news_of_block (cs := #[.int .i64 m2.x, .int .i64 m2.y, .int .i64 m2.z, .int .i64 m2.s, .int .i64 m2.h, .int .i64 m2.t, .int .i64 m2.f, .bool m2.r]) (t := 44) (fr := (0, 0)) HG6.out) (by simp [Value.oneCell']) (by omega) (by unfold maxLen; omega) (by omega) (by omega) _ rfl ?_
                intro g7 c7 x4 hown hgrow hor hltn
                replace HQb := Lib.hid (grow_keep2 hgrow HQb.out (fun e => by have e2 : gS = _ := Option.some.inj e; omega))
                replace HRb := Lib.hid (grow_keep2 hgrow HRb.out (fun e => by have e2 : gS = _ := Option.some.inj e; omega))
                replace BB := Lib.hid (Below.grown BB.out hgrow (by omega) (fun b hb => (HS.out.lt b hb).1))
                have hgg2 : g3 ≠ g7 := by
                  have h3 := (HA.out.lt g3 rfl).2
                  rcases hor with h | h
                  · have e2 : gS = g7 := Option.some.inj h
                    omega
                  · omega
                replace HA := Lib.hid (own_grow HA.out hgrow (fun b hb e => by cases hb; exact hgg (Option.some.inj e).symm))
                replace HS := Lib.hid hown
                clear hown hgrow hor hltn hbs hrl HG6
                refine hK.out _ _ ⟨cell_of HQb.out (i := 0) rfl, cell_of HQb.out (i := 1) rfl, cell_of HQb.out (i := 2) rfl, cell_of HQb.out (i := 3) rfl, cell_of HQb.out (i := 4) rfl, cell_of HQb.out (i := 5) rfl, cell_of HRb.out (i := 0) rfl, cell_of HRb.out (i := 1) rfl, cell_of HRb.out (i := 2) rfl, cell_of HRb.out (i := 3) rfl, cell_of HRb.out (i := 4) rfl, cell_of HRb.out (i := 5) rfl, cell_of HRb.out (i := 6) rfl, cell_of HRb.out (i := 7) rfl⟩ (fun hHeldN => ?_)
                clear hK K hHeld
                have hHeld := hHeldN
                clear hHeldN
                try simp only [Act.put, pB, pC, pD]
                refine tkH (by assumption) 8 (oi := ?_) (v := ?_) ?_ ?_ ?_ ?_ ?_ ?_ ?_ ?_; rotate_left 2; (simp only [gA, gB, gC]; exact rfl); kernel_rfl; kernel_rfl; kernel_rfl; exact fun _ _ _ h => h; rfl; (intro w' hSw; obtain ⟨s0, s1, s2, s3, s4, s5, d0, d1, d2, d3, d4, d5, d6, d7⟩ := hSw;go_simp; with_reducible rfl); simp only [Act.put, pB, pC, pD]
                refine tkH (by assumption) 9 (oi := ?_) (v := ?_) ?_ ?_ ?_ ?_ ?_ ?_ ?_ ?_; rotate_left 2; (simp only [gA, gB, gC]; exact rfl); kernel_rfl; kernel_rfl; kernel_rfl; exact fun _ _ _ h => h; rfl; (intro w' hSw; obtain ⟨s0, s1, s2, s3, s4, s5, d0, d1, d2, d3, d4, d5, d6, d7⟩ := hSw;go_simp; with_reducible rfl); simp only [Act.put, pB, pC, pD]
                refine wpAnyH_done (by kernel_rfl) ?_ _
                clear hHeld
                go_wp2_with (fail)
                go_roundw
                case rel => exact ⟨k + 1, l ++ [s], some ⟨g3, 0, none⟩, c3, c7, g7, by go_num, by omega, by rw [List.length_append]; rfl, by rw [List.length_append]; rfl, by rw [fold_succ _ _ hlt, HL.out, RS.out, HSHL.out], fun t ht => (List.mem_append.1 ht).elim (HABp.out t) (fun h => by rw [List.mem_singleton.1 h]; exact HTk.out), by rw [List.length_append]; simp; omega, by rw [List.length_append, rowS_app]; exact HA.out, by rw [List.length_append, stL_snoc, rowM_app, show List.foldl aft m00 l = m1 from RM1.out, RM2.out]; exact HS.out, (fun b hb => by cases hb; exact hgg2), BB.out⟩
                case measure => simp [intOf] <;> omega
              exact AllReadyH.nil
            refine coH 6 (oi := ?_) ?_ ?_ (fun K hK => ?_) ?_; rotate_left; (simp only [gA, gB, gC]; exact rfl); rfl
            · go_wp2_with (fail)
              have hb : Below x0.heap.size x0 (x0.alloc (.cells #[.int .i64 m2.x, .int .i64 m2.y, .int .i64 m2.z, .int .i64 m2.s, .int .i64 m2.h, .int .i64 m2.t, .int .i64 m2.f, .bool m2.r] 44)) := (Below.refl _ _).alloc (Nat.le_refl _) _
              have hrl6 : r2 < x0.heap.size := lt_of_heap HRb.out
              have HG6 := Lib.hid (heap_alloc_new x0 (.cells #[.int .i64 m2.x, .int .i64 m2.y, .int .i64 m2.z, .int .i64 m2.s, .int .i64 m2.h, .int .i64 m2.t, .int .i64 m2.f, .bool m2.r] 44))
              replace HA := Lib.hid (ownsRow_below HA.out hb)
              replace HS := Lib.hid (ownsRow_below HS.out hb)
              replace HQb := Lib.hid (heap_keep hb HQb.out)
              replace HRb := Lib.hid (heap_keep hb HRb.out)
              replace BB := Lib.hid (BB.out.trans (hb.mono BB.out.size))
              clear hb
              refine hK.out _ _ ⟨cell_of HQb.out (i := 0) rfl, cell_of HQb.out (i := 1) rfl, cell_of HQb.out (i := 2) rfl, cell_of HQb.out (i := 3) rfl, cell_of HQb.out (i := 4) rfl, cell_of HQb.out (i := 5) rfl, cell_of HRb.out (i := 0) rfl, cell_of HRb.out (i := 1) rfl, cell_of HRb.out (i := 2) rfl, cell_of HRb.out (i := 3) rfl, cell_of HRb.out (i := 4) rfl, cell_of HRb.out (i := 5) rfl, cell_of HRb.out (i := 6) rfl, cell_of HRb.out (i := 7) rfl⟩ (fun hHeldN => ?_)
              clear hK K hHeld
              have hHeld := hHeldN
              clear hHeldN
              try simp only [Act.put, pB, pC, pD]
              generalize (x0.alloc (.cells #[.int .i64 m2.x, .int .i64 m2.y, .int .i64 m2.z, .int .i64 m2.s, .int .i64 m2.h, .int .i64 m2.t, .int .i64 m2.f, .bool m2.r] 44)) = x1 at *
              obtain ⟨g6, hg6⟩ : ∃ g, x0.heap.size = g := ⟨_, rfl⟩
              rw [hg6] at HG6 hrl6
              try rw [hg6]
              clear hg6
              refine onH 2 (oi := ?_) (by kernel_rfl) ?_ ?_ (fun K hK => ?_); rotate_left; (simp only [gA, gB, gC]; exact rfl); rfl
              go_wp2_with (fail)
              have hb : Below x1.heap.size x1 (x1.alloc (.cells #[.int .i64 s.k, .int .i64 s.x, .int .i64 s.y, .int .i64 s.z, .int .i64 s.f, .int .i64 s.n] 36)) := (Below.refl _ _).alloc (Nat.le_refl _) _
              have hrl2 : r2 < x1.heap.size := lt_of_heap HRb.out
              have HG2 := Lib.hid (heap_alloc_new x1 (.cells #[.int .i64 s.k, .int .i64 s.x, .int .i64 s.y, .int .i64 s.z, .int .i64 s.f, .int .i64 s.n] 36))
              replace HA := Lib.hid (ownsRow_below HA.out hb)
              replace HS := Lib.hid (ownsRow_below HS.out hb)
              replace HQb := Lib.hid (heap_keep hb HQb.out)
              replace HRb := Lib.hid (heap_keep hb HRb.out)
              replace HG6 := Lib.hid (heap_keep hb HG6.out)
              replace BB := Lib.hid (BB.out.trans (hb.mono BB.out.size))
              clear hb
              refine hK.out _ _ ⟨cell_of HQb.out (i := 0) rfl, cell_of HQb.out (i := 1) rfl, cell_of HQb.out (i := 2) rfl, cell_of HQb.out (i := 3) rfl, cell_of HQb.out (i := 4) rfl, cell_of HQb.out (i := 5) rfl, cell_of HRb.out (i := 0) rfl, cell_of HRb.out (i := 1) rfl, cell_of HRb.out (i := 2) rfl, cell_of HRb.out (i := 3) rfl, cell_of HRb.out (i := 4) rfl, cell_of HRb.out (i := 5) rfl, cell_of HRb.out (i := 6) rfl, cell_of HRb.out (i := 7) rfl⟩ (fun hHeldN => ?_)
              clear hK K hHeld
              have hHeld := hHeldN
              clear hHeldN
              try simp only [Act.put, pB, pC, pD]
              generalize (x1.alloc (.cells #[.int .i64 s.k, .int .i64 s.x, .int .i64 s.y, .int .i64 s.z, .int .i64 s.f, .int .i64 s.n] 36)) = x2 at *
              obtain ⟨g2, hg2⟩ : ∃ g, x1.heap.size = g := ⟨_, rfl⟩
              rw [hg2] at HG2 hrl2
              try rw [hg2]
              clear hg2
              refine onH 3 (oi := ?_) (by kernel_rfl) ?_ ?_ (fun K hK => ?_); rotate_left; (simp only [gA, gB, gC]; exact rfl); rfl
              have hbs := BB.out.size
              have hrl := lt_of_heap HRb.out
              refine wp_append_lies _ _ _ 26 rfl w1.heap.size 36 i0 (.agg #[.int .i64 0, .int .i64 0, .int .i64 0, .int .i64 0, .int .i64 0, .int .i64 0]) 6 48 Try.underlying26 hi0 hz0 hz1 hz2 rfl (by decide) _ _ _ rfl HA.out ⟨g2, 0, none⟩ 1 1 [.int .i64 s.k, .int .i64 s.x, .int .i64 s.y, .int .i64 s.z, .int .i64 s.f, .int .i64 s.n] rfl rfl (World.news_of_block (cs := #[.int .i64 s.k, .int .i64 s.x, .int .i64 s.y, .int .i64 s.z, .int .i64 s.f, .int .i64 s.n]) (t := 36) (fr := (0, 0)) HG2.out) (by simp [Value.oneCell']) (by omega) (by unfold maxLen; omega) (by omega) (by omega) _ rfl ?_
              intro g3 c3 x3 hown hgrow hor hltn
              replace HQb := Lib.hid (grow_keep2 hgrow HQb.out (fun e => by have := HAQ.out _ e; omega))
              replace HRb := Lib.hid (grow_keep2 hgrow HRb.out (fun e => by have := HAQ.out _ e; omega))
              replace HG6 := Lib.hid (grow_keep2 hgrow HG6.out (fun e => by have := HAQ.out _ e; omega))
              replace HS := Lib.hid (own_grow HS.out hgrow (fun b hb e => hapart b e (by cases hb; rfl)))
              replace BB := Lib.hid (Below.grown BB.out hgrow (by omega) (fun b hb => (HA.out.lt b hb).1))
              have hgg : g3 ≠ gS := by
                rcases hor with h | h
                · exact hapart g3 h
                · omega
              replace HA := Lib.hid hown
              have hg3l := hltn
              clear hown hgrow hor hltn hbs hrl HG2
              refine hK.out _ _ ⟨cell_of HQb.out (i := 0) rfl, cell_of HQb.out (i := 1) rfl, cell_of HQb.out (i := 2) rfl, cell_of HQb.out (i := 3) rfl, cell_of HQb.out (i := 4) rfl, cell_of HQb.out (i := 5) rfl, cell_of HRb.out (i := 0) rfl, cell_of HRb.out (i := 1) rfl, cell_of HRb.out (i := 2) rfl, cell_of HRb.out (i := 3) rfl, cell_of HRb.out (i := 4) rfl, cell_of HRb.out (i := 5) rfl, cell_of HRb.out (i := 6) rfl, cell_of HRb.out (i := 7) rfl⟩ (fun hHeldN => ?_)
              clear hK K hHeld
              have hHeld := hHeldN
              clear hHeldN
              try simp only [Act.put, pB, pC, pD]
              refine onH 7 (oi := ?_) (by kernel_rfl) ?_ ?_ (fun K hK => ?_); rotate_left; (simp only [gA, gB, gC]; exact rfl); rfl
              have hbs := BB.out.size
              have hrl := lt_of_heap HRb.out
              refine wp_append_lies _ _ _ 50 rfl w1.heap.size 44 i1 (.agg #[.int .i64 0, .int .i64 0, .int .i64 0, .int .i64 0, .int .i64 0, .int .i64 0, .int .i64 0, .bool false]) 8 64 Try.underlying50 hi1 hy0 hy1 hy2 rfl (by decide) _ _ _ rfl HS.out ⟨g6, 0, none⟩ 1 1 [.int .i64 m2.x, .int .i64 m2.y, .int .i64 m2.z, .int .i64 m2.s, .int .i64 m2.h, .int .i64 m2.t, .int .i64 m2.f, .bool m2.r] rfl rfl (World.news_of_block (cs := #[.int .i64 m2.x, .int .i64 m2.y, .int .i64 m2.z, .int .i64 m2.s, .int .i64 m2.h, .int .i64 m2.t, .int .i64 m2.f, .bool m2.r]) (t := 44) (fr := (0, 0)) HG6.out) (by simp [Value.oneCell']) (by omega) (by unfold maxLen; omega) (by omega) (by omega) _ rfl ?_
              intro g7 c7 x4 hown hgrow hor hltn
              replace HQb := Lib.hid (grow_keep2 hgrow HQb.out (fun e => by have e2 : gS = _ := Option.some.inj e; omega))
              replace HRb := Lib.hid (grow_keep2 hgrow HRb.out (fun e => by have e2 : gS = _ := Option.some.inj e; omega))
              replace BB := Lib.hid (Below.grown BB.out hgrow (by omega) (fun b hb => (HS.out.lt b hb).1))
              have hgg2 : g3 ≠ g7 := by
                have h3 := (HA.out.lt g3 rfl).2
                rcases hor with h | h
                · have e2 : gS = g7 := Option.some.inj h
                  omega
                · omega
              replace HA := Lib.hid (own_grow HA.out hgrow (fun b hb e => by cases hb; exact hgg (Option.some.inj e).symm))
              replace HS := Lib.hid hown
              clear hown hgrow hor hltn hbs hrl HG6
              refine hK.out _ _ ⟨cell_of HQb.out (i := 0) rfl, cell_of HQb.out (i := 1) rfl, cell_of HQb.out (i := 2) rfl, cell_of HQb.out (i := 3) rfl, cell_of HQb.out (i := 4) rfl, cell_of HQb.out (i := 5) rfl, cell_of HRb.out (i := 0) rfl, cell_of HRb.out (i := 1) rfl, cell_of HRb.out (i := 2) rfl, cell_of HRb.out (i := 3) rfl, cell_of HRb.out (i := 4) rfl, cell_of HRb.out (i := 5) rfl, cell_of HRb.out (i := 6) rfl, cell_of HRb.out (i := 7) rfl⟩ (fun hHeldN => ?_)
              clear hK K hHeld
              have hHeld := hHeldN
              clear hHeldN
              try simp only [Act.put, pB, pC, pD]
              refine tkH (by assumption) 8 (oi := ?_) (v := ?_) ?_ ?_ ?_ ?_ ?_ ?_ ?_ ?_; rotate_left 2; (simp only [gA, gB, gC]; exact rfl); kernel_rfl; kernel_rfl; kernel_rfl; exact fun _ _ _ h => h; rfl; (intro w' hSw; obtain ⟨s0, s1, s2, s3, s4, s5, d0, d1, d2, d3, d4, d5, d6, d7⟩ := hSw;go_simp; with_reducible rfl); simp only [Act.put, pB, pC, pD]
              refine tkH (by assumption) 9 (oi := ?_) (v := ?_) ?_ ?_ ?_ ?_ ?_ ?_ ?_ ?_; rotate_left 2; (simp only [gA, gB, gC]; exact rfl); kernel_rfl; kernel_rfl; kernel_rfl; exact fun _ _ _ h => h; rfl; (intro w' hSw; obtain ⟨s0, s1, s2, s3, s4, s5, d0, d1, d2, d3, d4, d5, d6, d7⟩ := hSw;go_simp; with_reducible rfl); simp only [Act.put, pB, pC, pD]
              refine wpAnyH_done (by kernel_rfl) ?_ _
              clear hHeld
              go_wp2_with (fail)
              go_roundw
              case rel => exact ⟨k + 1, l ++ [s], some ⟨g3, 0, none⟩, c3, c7, g7, by go_num, by omega, by rw [List.length_append]; rfl, by rw [List.length_append]; rfl, by rw [fold_succ _ _ hlt, HL.out, RS.out, HSHL.out], fun t ht => (List.mem_append.1 ht).elim (HABp.out t) (fun h => by rw [List.mem_singleton.1 h]; exact HTk.out), by rw [List.length_append]; simp; omega, by rw [List.length_append, rowS_app]; exact HA.out, by rw [List.length_append, stL_snoc, rowM_app, show List.foldl aft m00 l = m1 from RM1.out, RM2.out]; exact HS.out, (fun b hb => by cases hb; exact hgg2), BB.out⟩
              case measure => simp [intOf] <;> omega
            exact AllReadyH.nil
        · rw [List.concat_eq_append] at h0
          subst h0
          have hlen : (lp ++ [u]).length = lp.length + 1 := by simp
          rw [hlen] at HOA1 HOS1 hll ⊢
          rw [show (((lp.length + 1 : Nat) : Int) - 1) = (lp.length : Int) by omega]
          clear e10
          have hcA := own_cap HOA1.out
          have hcS := own_cap HOS1.out
          obtain ⟨gT, cap', hv, -, hgAl⟩ := HOA1.out.form (by omega)
          cases hv
          have hcu : ∀ j, j < 6 → w1'.cell? ⟨gT, lp.length * 6 + j, none⟩ = (sV u)[j]? := fun j hj => by
            rw [HOA1.out.cellAt (lp.length * 6 + j) (by omega), rowS_get (by simp) hj]
            congr 2
            unfold lf
            simp
          have v0 : w1'.cell? ⟨gT, lp.length * 6, none⟩ = some (.int .i64 u.k) := hcu 0 (by omega)
          have v1 : w1'.cell? ⟨gT, lp.length * 6 + 1, none⟩ = some (.int .i64 u.x) := hcu 1 (by omega)
          have v2 : w1'.cell? ⟨gT, lp.length * 6 + 2, none⟩ = some (.int .i64 u.y) := hcu 2 (by omega)
          have v3 : w1'.cell? ⟨gT, lp.length * 6 + 3, none⟩ = some (.int .i64 u.z) := hcu 3 (by omega)
          have v4 : w1'.cell? ⟨gT, lp.length * 6 + 4, none⟩ = some (.int .i64 u.f) := hcu 4 (by omega)
          have v5 : w1'.cell? ⟨gT, lp.length * 6 + 5, none⟩ = some (.int .i64 u.n) := hcu 5 (by omega)
          have s0 : w1'.cell? ⟨q, 0, none⟩ = some (.int .i64 s.k) := cell_of HS1.out (i := 0) rfl
          have s1 : w1'.cell? ⟨q, 1, none⟩ = some (.int .i64 s.x) := cell_of HS1.out (i := 1) rfl
          have s2 : w1'.cell? ⟨q, 2, none⟩ = some (.int .i64 s.y) := cell_of HS1.out (i := 2) rfl
          have s3 : w1'.cell? ⟨q, 3, none⟩ = some (.int .i64 s.z) := cell_of HS1.out (i := 3) rfl
          have s4 : w1'.cell? ⟨q, 4, none⟩ = some (.int .i64 s.f) := cell_of HS1.out (i := 4) rfl
          have s5 : w1'.cell? ⟨q, 5, none⟩ = some (.int .i64 s.n) := cell_of HS1.out (i := 5) rfl
          have hq1 := lt_of_heap HS1.out
          have hp0 : (0 : Int) ≤ (lp.length : Int) := by omega
          have hp1 : (lp.length : Int) < (lp.length : Int) + 1 := by omega
          clear hcu
          refine wp_region_held_drew (S := (fun w' => w'.cell? ⟨gT, lp.length * 6, none⟩ = some (.int .i64 u.k) ∧ w'.cell? ⟨gT, lp.length * 6 + 1, none⟩ = some (.int .i64 u.x) ∧ w'.cell? ⟨gT, lp.length * 6 + 2, none⟩ = some (.int .i64 u.y) ∧ w'.cell? ⟨gT, lp.length * 6 + 3, none⟩ = some (.int .i64 u.z) ∧ w'.cell? ⟨gT, lp.length * 6 + 4, none⟩ = some (.int .i64 u.f) ∧ w'.cell? ⟨gT, lp.length * 6 + 5, none⟩ = some (.int .i64 u.n) ∧ w'.cell? ⟨q, 0, none⟩ = some (.int .i64 s.k) ∧ w'.cell? ⟨q, 1, none⟩ = some (.int .i64 s.x) ∧ w'.cell? ⟨q, 2, none⟩ = some (.int .i64 s.y) ∧ w'.cell? ⟨q, 3, none⟩ = some (.int .i64 s.z) ∧ w'.cell? ⟨q, 4, none⟩ = some (.int .i64 s.f) ∧ w'.cell? ⟨q, 5, none⟩ = some (.int .i64 s.n) ∧ Below w1'.heap.size w1' w')) (by kernel_rfl) ⟨v0, v1, v2, v3, v4, v5, s0, s1, s2, s3, s4, s5, Below.drew (Below.refl _ _)⟩ (fun hHeld => ?_)
          refine tkH (by assumption) 0 (oi := ?_) (v := ?_) ?_ ?_ ?_ ?_ ?_ ?_ ?_ ?_; rotate_left 2; (simp only [gA, gB, gC]; exact rfl); kernel_rfl; kernel_rfl; kernel_rfl; exact fun _ _ _ h => h; rfl; (intro w' hSw; obtain ⟨v0, v1, v2, v3, v4, v5, s0, s1, s2, s3, s4, s5, -⟩ := hSw;go_simp; with_reducible rfl); simp only [Act.put, pB, pC, pD]
          refine tkH (by assumption) 1 (oi := ?_) (v := ?_) ?_ ?_ ?_ ?_ ?_ ?_ ?_ ?_; rotate_left 2; (simp only [gA, gB, gC]; exact rfl); kernel_rfl; kernel_rfl; kernel_rfl; exact fun _ _ _ h => h; rfl; (intro w' hSw; obtain ⟨v0, v1, v2, v3, v4, v5, s0, s1, s2, s3, s4, s5, -⟩ := hSw;go_simp; with_reducible rfl); simp only [Act.put, pB, pC, pD]
          refine tkH (by assumption) 2 (oi := ?_) (v := ?_) ?_ ?_ ?_ ?_ ?_ ?_ ?_ ?_; rotate_left 2; (simp only [gA, gB, gC]; exact rfl); kernel_rfl; kernel_rfl; kernel_rfl; exact fun _ _ _ h => h; rfl; (intro w' hSw; obtain ⟨v0, v1, v2, v3, v4, v5, s0, s1, s2, s3, s4, s5, -⟩ := hSw;go_simp; with_reducible rfl); simp only [Act.put, pB, pC, pD]
          refine tkH (by assumption) 3 (oi := ?_) (v := ?_) ?_ ?_ ?_ ?_ ?_ ?_ ?_ ?_; rotate_left 2; (simp only [gA, gB, gC]; exact rfl); kernel_rfl; kernel_rfl; kernel_rfl; exact fun _ _ _ h => h; rfl; (intro w' hSw; obtain ⟨v0, v1, v2, v3, v4, v5, s0, s1, s2, s3, s4, s5, -⟩ := hSw;go_simp; with_reducible rfl); simp only [Act.put, pB, pC, pD]
          refine tkH (by assumption) 4 (oi := ?_) (v := ?_) ?_ ?_ ?_ ?_ ?_ ?_ ?_ ?_; rotate_left 2; (simp only [gA, gB, gC]; exact rfl); kernel_rfl; kernel_rfl; kernel_rfl; exact fun _ _ _ h => h; rfl; (intro w' hSw; obtain ⟨v0, v1, v2, v3, v4, v5, s0, s1, s2, s3, s4, s5, -⟩ := hSw;go_simp; with_reducible rfl); simp only [Act.put, pB, pC, pD]
          refine tkH (by assumption) 5 (oi := ?_) (v := ?_) ?_ ?_ ?_ ?_ ?_ ?_ ?_ ?_; rotate_left 2; (simp only [gA, gB, gC]; exact rfl); kernel_rfl; kernel_rfl; kernel_rfl; exact fun _ _ _ h => h; rfl; (intro w' hSw; obtain ⟨v0, v1, v2, v3, v4, v5, s0, s1, s2, s3, s4, s5, -⟩ := hSw;go_simp; with_reducible rfl); simp only [Act.put, pB, pC, pD]
          refine tkH (by assumption) 6 (oi := ?_) (v := ?_) ?_ ?_ ?_ ?_ ?_ ?_ ?_ ?_; rotate_left 2; (simp only [gA, gB, gC]; exact rfl); kernel_rfl; kernel_rfl; kernel_rfl; exact fun _ _ _ h => h; rfl; (intro w' hSw; obtain ⟨v0, v1, v2, v3, v4, v5, s0, s1, s2, s3, s4, s5, -⟩ := hSw;go_simp; with_reducible rfl); simp only [Act.put, pB, pC, pD]
          refine tkH (by assumption) 7 (oi := ?_) (v := ?_) ?_ ?_ ?_ ?_ ?_ ?_ ?_ ?_; rotate_left 2; (simp only [gA, gB, gC]; exact rfl); kernel_rfl; kernel_rfl; kernel_rfl; exact fun _ _ _ h => h; rfl; (intro w' hSw; obtain ⟨v0, v1, v2, v3, v4, v5, s0, s1, s2, s3, s4, s5, -⟩ := hSw;go_simp; with_reducible rfl); simp only [Act.put, pB, pC, pD]
          refine onH 8 (oi := ?_) (by kernel_rfl) ?_ ?_ (fun K hK => ?_); rotate_left; (simp only [gA, gB, gC]; exact rfl); rfl
          go_wp2_with (go_at_call 26; refine (leavesAgain_any u s _).mono ?_; rintro e w' ⟨rfl, hbc⟩)
          have hX : Below w1'.heap.size w1' w' := (Below.drew (Below.refl _ _)).trans hbc
          refine hK.out _ _ ⟨cellk hX hgAl v0, cellk hX hgAl v1, cellk hX hgAl v2, cellk hX hgAl v3, cellk hX hgAl v4, cellk hX hgAl v5, cellk hX hq1 s0, cellk hX hq1 s1, cellk hX hq1 s2, cellk hX hq1 s3, cellk hX hq1 s4, cellk hX hq1 s5, hX⟩ (fun hHeldN => ?_)
          clear hK K hHeld hbc
          try simp only [Act.put, pB, pC, pD]
          obtain ⟨vp, hvp⟩ : ∃ x, pairB u s = x := ⟨_, rfl⟩
          rw [hvp]
          refine tkH (by assumption) 9 (oi := ?_) (v := ?_) ?_ ?_ ?_ ?_ ?_ ?_ ?_ ?_; rotate_left 2; (simp only [gA, gB, gC]; exact rfl); kernel_rfl; kernel_rfl; kernel_rfl; exact fun _ _ _ h => h; rfl; (intro w' hSw; obtain ⟨v0, v1, v2, v3, v4, v5, s0, s1, s2, s3, s4, s5, -⟩ := hSw;go_simp; with_reducible rfl); simp only [Act.put, pB, pC, pD]
          refine wpAnyH_done (by kernel_rfl) ?_ _
          clear v0 v1 v2 v3 v4 v5 s0 s1 s2 s3 s4 s5 hHeldN
          have HS1x := Lib.hid (heap_keep hX HS1.out)
          have HOAx := Lib.hid (ownsRow_below HOA1.out hX)
          have HOSx := Lib.hid (ownsRow_below HOS1.out hX)
          have BX := Lib.hid (B1'.out.trans (hX.mono B1'.out.size))
          clear hX HS1 HOA1 HOS1 B1' hq1 hgAl
          rcases vp with _ | _
          · have HPOP := Lib.hid (popL_no (p := lp) hvp)
            obtain ⟨l, hl⟩ : ∃ l, lp ++ [u] = l := ⟨_, rfl⟩
            have hlen' : lp.length + 1 = l.length := by rw [← hl]; simp
            rw [hl] at HPOP HL HABl HOAx HOSx hapart
            rw [hlen'] at HOAx HOSx hll ⊢
            clear hl hlen hcA hcS hp0 hp1 hvp hlen'
            generalize w' = w2 at *
            have HSq := HS1x
            have HOA := HOAx
            have HOS := HOSx
            have B2 := BX
            have HABp := HABl
            clear HS1x HOAx HOSx BX
            have HABL := Lib.hid (abm_list HABp.out)
            obtain ⟨m1, hm1⟩ : ∃ m1, runL l = m1 := ⟨_, rfl⟩
            have RM1 := Lib.hid hm1
            have hst : ∀ j, j < 8 → w2.cell? ⟨gS, l.length * 8 + j, none⟩ = (mV m1)[j]? := fun j hj => by
              rw [HOS.out.cellAt (l.length * 8 + j) (by omega), rowM_get (by rw [stL_len]; omega) hj, stL_last]
              show (mV (runL l))[j]? = _
              rw [hm1]
            have d0 : w2.cell? ⟨gS, l.length * 8, none⟩ = some (.int .i64 m1.x) := hst 0 (by omega)
            have d1 : w2.cell? ⟨gS, l.length * 8 + 1, none⟩ = some (.int .i64 m1.y) := hst 1 (by omega)
            have d2 : w2.cell? ⟨gS, l.length * 8 + 2, none⟩ = some (.int .i64 m1.z) := hst 2 (by omega)
            have d3 : w2.cell? ⟨gS, l.length * 8 + 3, none⟩ = some (.int .i64 m1.s) := hst 3 (by omega)
            have d4 : w2.cell? ⟨gS, l.length * 8 + 4, none⟩ = some (.int .i64 m1.h) := hst 4 (by omega)
            have d5 : w2.cell? ⟨gS, l.length * 8 + 5, none⟩ = some (.int .i64 m1.t) := hst 5 (by omega)
            have d6 : w2.cell? ⟨gS, l.length * 8 + 6, none⟩ = some (.int .i64 m1.f) := hst 6 (by omega)
            have d7 : w2.cell? ⟨gS, l.length * 8 + 7, none⟩ = some (.bool m1.r) := hst 7 (by omega)
            rw [hm1] at HABL
            have hgSl := (HOS.out.lt gS rfl).2
            have hlp0 : (0 : Int) ≤ (l.length : Int) := by omega
            have hlp1 : (l.length : Int) < (l.length : Int) + 1 := by omega
            clear hst hm1
            have hq2 := lt_of_heap HSq.out
            have s0 : w2.cell? ⟨q, 0, none⟩ = some (.int .i64 s.k) := cell_of HSq.out (i := 0) rfl
            have s1 : w2.cell? ⟨q, 1, none⟩ = some (.int .i64 s.x) := cell_of HSq.out (i := 1) rfl
            have s2 : w2.cell? ⟨q, 2, none⟩ = some (.int .i64 s.y) := cell_of HSq.out (i := 2) rfl
            have s3 : w2.cell? ⟨q, 3, none⟩ = some (.int .i64 s.z) := cell_of HSq.out (i := 3) rfl
            have s4 : w2.cell? ⟨q, 4, none⟩ = some (.int .i64 s.f) := cell_of HSq.out (i := 4) rfl
            have s5 : w2.cell? ⟨q, 5, none⟩ = some (.int .i64 s.n) := cell_of HSq.out (i := 5) rfl
            go_wp2_with (fail)
            have hb3 : Below w2.heap.size w2 (w2.alloc (.cells #[.int .i64 m1.x, .int .i64 m1.y, .int .i64 m1.z, .int .i64 m1.s, .int .i64 m1.h, .int .i64 m1.t, .int .i64 m1.f, .bool m1.r] 44)) := (Below.refl _ _).alloc (Nat.le_refl _) _
            have HN1 := Lib.hid (heap_alloc_new w2 (.cells #[.int .i64 m1.x, .int .i64 m1.y, .int .i64 m1.z, .int .i64 m1.s, .int .i64 m1.h, .int .i64 m1.t, .int .i64 m1.f, .bool m1.r] 44))
            have B3 := Lib.hid (B2.out.trans (hb3.mono (by have := B2.out.size; omega)))
            have HSq3 := Lib.hid (heap_keep hb3 HSq.out)
            have HOA3 := Lib.hid (ownsRow_below HOA.out hb3)
            have HOS3 := Lib.hid (ownsRow_below HOS.out hb3)
            clear hb3 d0 d1 d2 d3 d4 d5 d6 d7 s0 s1 s2 s3 s4 s5
            generalize (w2.alloc (.cells #[.int .i64 m1.x, .int .i64 m1.y, .int .i64 m1.z, .int .i64 m1.s, .int .i64 m1.h, .int .i64 m1.t, .int .i64 m1.f, .bool m1.r] 44)) = w3 at *
            obtain ⟨r1, hr1⟩ : ∃ r, w2.heap.size = r := ⟨_, rfl⟩
            rw [hr1] at HN1
            try rw [hr1]
            have HR1 := Lib.hid hr1
            clear hr1
            refine (done_fit m1 s _ HTk.out.k (HABL.out.fit HTk.out (by omega))).mono ?_
            rintro e w4 ⟨rfl, hb4⟩
            obtain ⟨m2, hm2⟩ : ∃ m2, aft m1 s = m2 := ⟨_, rfl⟩
            have RM2 := Lib.hid hm2
            rw [hm2]
            clear hm2
            have HN14 := Lib.hid (heap_keep hb4 HN1.out)
            have HSq4 := Lib.hid (heap_keep hb4 HSq3.out)
            have HOA4 := Lib.hid (ownsRow_below HOA3.out hb4)
            have HOS4 := Lib.hid (ownsRow_below HOS3.out hb4)
            have B4 := Lib.hid (B3.out.trans (hb4.mono (by have := B3.out.size; omega)))
            have hr14 := lt_of_heap HN14.out
            have hq4 := lt_of_heap HSq4.out
            clear hb4 HN1 HSq3 HOA3 HOS3 B3
            have hb5 : Below w4.heap.size w4 (w4.alloc (.cells #[.int .i64 m2.x, .int .i64 m2.y, .int .i64 m2.z, .int .i64 m2.s, .int .i64 m2.h, .int .i64 m2.t, .int .i64 m2.f, .bool m2.r] 44)) := (Below.refl _ _).alloc (Nat.le_refl _) _
            have HN2 := Lib.hid (heap_alloc_new w4 (.cells #[.int .i64 m2.x, .int .i64 m2.y, .int .i64 m2.z, .int .i64 m2.s, .int .i64 m2.h, .int .i64 m2.t, .int .i64 m2.f, .bool m2.r] 44))
            have HSq5 := Lib.hid (heap_keep hb5 HSq4.out)
            have HOA5 := Lib.hid (ownsRow_below HOA4.out hb5)
            have HOS5 := Lib.hid (ownsRow_below HOS4.out hb5)
            have B5 := Lib.hid (B4.out.trans (hb5.mono (by have := B4.out.size; omega)))
            clear hb5
            have d0 : w4.cell? ⟨r1, 0, none⟩ = some (.int .i64 m1.x) := cell_of HN14.out (i := 0) rfl
            have d1 : w4.cell? ⟨r1, 1, none⟩ = some (.int .i64 m1.y) := cell_of HN14.out (i := 1) rfl
            have d2 : w4.cell? ⟨r1, 2, none⟩ = some (.int .i64 m1.z) := cell_of HN14.out (i := 2) rfl
            have d3 : w4.cell? ⟨r1, 3, none⟩ = some (.int .i64 m1.s) := cell_of HN14.out (i := 3) rfl
            have d4 : w4.cell? ⟨r1, 4, none⟩ = some (.int .i64 m1.h) := cell_of HN14.out (i := 4) rfl
            have d5 : w4.cell? ⟨r1, 5, none⟩ = some (.int .i64 m1.t) := cell_of HN14.out (i := 5) rfl
            have d6 : w4.cell? ⟨r1, 6, none⟩ = some (.int .i64 m1.f) := cell_of HN14.out (i := 6) rfl
            have d7 : w4.cell? ⟨r1, 7, none⟩ = some (.bool m1.r) := cell_of HN14.out (i := 7) rfl
            have s0 : w4.cell? ⟨q, 0, none⟩ = some (.int .i64 s.k) := cell_of HSq4.out (i := 0) rfl
            have s1 : w4.cell? ⟨q, 1, none⟩ = some (.int .i64 s.x) := cell_of HSq4.out (i := 1) rfl
            have s2 : w4.cell? ⟨q, 2, none⟩ = some (.int .i64 s.y) := cell_of HSq4.out (i := 2) rfl
            have s3 : w4.cell? ⟨q, 3, none⟩ = some (.int .i64 s.z) := cell_of HSq4.out (i := 3) rfl
            have s4 : w4.cell? ⟨q, 4, none⟩ = some (.int .i64 s.f) := cell_of HSq4.out (i := 4) rfl
            have s5 : w4.cell? ⟨q, 5, none⟩ = some (.int .i64 s.n) := cell_of HSq4.out (i := 5) rfl
            have hE := fun wx => neq_ma m2 m1 wx
            obtain ⟨vb, hvb⟩ : ∃ vb, (!decide (m2 = m1)) = vb := ⟨_, rfl⟩
            rw [hvb] at hE
            have HVB := Lib.hid hvb
            have hG := gd_ma
            clear hvb
            rcases vb with _ | _
            · have hid : aft (runL l) s = runL l := by rw [RM1.out, RM2.out]; have := HVB.out; simpa using this
              go_wp2_with (fail)
              generalize (w4.alloc (.cells #[.int .i64 m2.x, .int .i64 m2.y, .int .i64 m2.z, .int .i64 m2.s, .int .i64 m2.h, .int .i64 m2.t, .int .i64 m2.f, .bool m2.r] 44)) = w5 at *
              refine (takesTime_any s _).mono ?_
              rintro e w6 ⟨rfl, hb6⟩
              have HSq6 := Lib.hid (heap_keep hb6 HSq5.out)
              have HN26 := Lib.hid (heap_keep hb6 HN2.out)
              have HOA6 := Lib.hid (ownsRow_below HOA5.out hb6)
              have HOS6 := Lib.hid (ownsRow_below HOS5.out hb6)
              have B6 := Lib.hid (B5.out.trans (hb6.mono (by have := B5.out.size; omega)))
              clear hb6
              rcases htb : timeB s with _ | _
              · have HSHL : Hid (shL l s = l) := Lib.hid (by unfold shL; rw [HPOP.out, if_pos ⟨hid, htb⟩])
                clear htb
                go_wp2_with (fail)
                go_roundw
                case rel => exact ⟨k + 1, l, (some ⟨gT, 0, none⟩), cA, cS, gS, by go_num, by omega, rfl, rfl, by rw [fold_succ _ _ hlt, HL.out, RS.out, HSHL.out], HABp.out, by omega, HOA6.out, HOS6.out, hapart, B6.out⟩
                case measure => simp [intOf] <;> omega
              · have HSHL : Hid (shL l s = l ++ [s]) := Lib.hid (by unfold shL; rw [HPOP.out, if_neg (fun h => by rw [htb] at h; cases h.2)])
                clear htb
                go_wp2_with (fail)
                obtain ⟨r2, hr2⟩ : ∃ r, w4.heap.size = r := ⟨_, rfl⟩
                rw [hr2] at HN26
                try rw [hr2]
                have hqr : q < r2 := by omega
                have HA := HOA6
                have HS := HOS6
                have HQb := HSq6
                have HRb := HN26
                have BB := B6
                clear HOA6 HOS6 HSq6 HN26 B6 hr2
                refine wp_region_held_drew (S := (fun w' => w'.cell? ⟨q, 0, none⟩ = some (.int .i64 s.k) ∧ w'.cell? ⟨q, 1, none⟩ = some (.int .i64 s.x) ∧ w'.cell? ⟨q, 2, none⟩ = some (.int .i64 s.y) ∧ w'.cell? ⟨q, 3, none⟩ = some (.int .i64 s.z) ∧ w'.cell? ⟨q, 4, none⟩ = some (.int .i64 s.f) ∧ w'.cell? ⟨q, 5, none⟩ = some (.int .i64 s.n) ∧ w'.cell? ⟨r2, 0, none⟩ = some (.int .i64 m2.x) ∧ w'.cell? ⟨r2, 1, none⟩ = some (.int .i64 m2.y) ∧ w'.cell? ⟨r2, 2, none⟩ = some (.int .i64 m2.z) ∧ w'.cell? ⟨r2, 3, none⟩ = some (.int .i64 m2.s) ∧ w'.cell? ⟨r2, 4, none⟩ = some (.int .i64 m2.h) ∧ w'.cell? ⟨r2, 5, none⟩ = some (.int .i64 m2.t) ∧ w'.cell? ⟨r2, 6, none⟩ = some (.int .i64 m2.f) ∧ w'.cell? ⟨r2, 7, none⟩ = some (.bool m2.r))) (by kernel_rfl) ⟨cell_of HQb.out (i := 0) rfl, cell_of HQb.out (i := 1) rfl, cell_of HQb.out (i := 2) rfl, cell_of HQb.out (i := 3) rfl, cell_of HQb.out (i := 4) rfl, cell_of HQb.out (i := 5) rfl, cell_of HRb.out (i := 0) rfl, cell_of HRb.out (i := 1) rfl, cell_of HRb.out (i := 2) rfl, cell_of HRb.out (i := 3) rfl, cell_of HRb.out (i := 4) rfl, cell_of HRb.out (i := 5) rfl, cell_of HRb.out (i := 6) rfl, cell_of HRb.out (i := 7) rfl⟩ (fun hHeld => ?_)
                refine tkH (by assumption) 0 (oi := ?_) (v := ?_) ?_ ?_ ?_ ?_ ?_ ?_ ?_ ?_; rotate_left 2; (simp only [gA, gB, gC]; exact rfl); kernel_rfl; kernel_rfl; kernel_rfl; exact fun _ _ _ h => h; rfl; (intro w' hSw; obtain ⟨s0, s1, s2, s3, s4, s5, d0, d1, d2, d3, d4, d5, d6, d7⟩ := hSw;go_simp; with_reducible rfl); simp only [Act.put, pB, pC, pD]
                refine tkH (by assumption) 1 (oi := ?_) (v := ?_) ?_ ?_ ?_ ?_ ?_ ?_ ?_ ?_; rotate_left 2; (simp only [gA, gB, gC]; exact rfl); kernel_rfl; kernel_rfl; kernel_rfl; exact fun _ _ _ h => h; rfl; (intro w' hSw; obtain ⟨s0, s1, s2, s3, s4, s5, d0, d1, d2, d3, d4, d5, d6, d7⟩ := hSw;go_simp; with_reducible rfl); simp only [Act.put, pB, pC, pD]
                refine tkH (by assumption) 4 (oi := ?_) (v := ?_) ?_ ?_ ?_ ?_ ?_ ?_ ?_ ?_; rotate_left 2; (simp only [gA, gB, gC]; exact rfl); kernel_rfl; kernel_rfl; kernel_rfl; exact fun _ _ _ h => h; rfl; (intro w' hSw; obtain ⟨s0, s1, s2, s3, s4, s5, d0, d1, d2, d3, d4, d5, d6, d7⟩ := hSw;go_simp; with_reducible rfl); simp only [Act.put, pB, pC, pD]
                refine tkH (by assumption) 5 (oi := ?_) (v := ?_) ?_ ?_ ?_ ?_ ?_ ?_ ?_ ?_; rotate_left 2; (simp only [gA, gB, gC]; exact rfl); kernel_rfl; kernel_rfl; kernel_rfl; exact fun _ _ _ h => h; rfl; (intro w' hSw; obtain ⟨s0, s1, s2, s3, s4, s5, d0, d1, d2, d3, d4, d5, d6, d7⟩ := hSw;go_simp; with_reducible rfl); simp only [Act.put, pB, pC, pD]
                have hbd : Below w6.heap.size w6 w6.drew := Below.drew (Below.refl _ _)
                replace HA := Lib.hid (ownsRow_below HA.out hbd)
                replace HS := Lib.hid (ownsRow_below HS.out hbd)
                replace HQb := Lib.hid (heap_keep hbd HQb.out)
                replace HRb := Lib.hid (heap_keep hbd HRb.out)
                replace BB := Lib.hid (BB.out.trans (hbd.mono BB.out.size))
                clear hbd
                generalize w6.drew = x0 at *
                refine wpAnyH_ready (rs := [2, 6]) (by kernel_rfl) (by simp) ?_
                refine coH 2 (oi := ?_) ?_ ?_ (fun K hK => ?_) ?_; rotate_left; (simp only [gA, gB, gC]; exact rfl); rfl
                · go_wp2_with (fail)
                  have hb : Below x0.heap.size x0 (x0.alloc (.cells #[.int .i64 s.k, .int .i64 s.x, .int .i64 s.y, .int .i64 s.z, .int .i64 s.f, .int .i64 s.n] 36)) := (Below.refl _ _).alloc (Nat.le_refl _) _
                  have hrl2 : r2 < x0.heap.size := lt_of_heap HRb.out
                  have HG2 := Lib.hid (heap_alloc_new x0 (.cells #[.int .i64 s.k, .int .i64 s.x, .int .i64 s.y, .int .i64 s.z, .int .i64 s.f, .int .i64 s.n] 36))
                  replace HA := Lib.hid (ownsRow_below HA.out hb)
                  replace HS := Lib.hid (ownsRow_below HS.out hb)
                  replace HQb := Lib.hid (heap_keep hb HQb.out)
                  replace HRb := Lib.hid (heap_keep hb HRb.out)
                  replace BB := Lib.hid (BB.out.trans (hb.mono BB.out.size))
                  clear hb
                  refine hK.out _ _ ⟨cell_of HQb.out (i := 0) rfl, cell_of HQb.out (i := 1) rfl, cell_of HQb.out (i := 2) rfl, cell_of HQb.out (i := 3) rfl, cell_of HQb.out (i := 4) rfl, cell_of HQb.out (i := 5) rfl, cell_of HRb.out (i := 0) rfl, cell_of HRb.out (i := 1) rfl, cell_of HRb.out (i := 2) rfl, cell_of HRb.out (i := 3) rfl, cell_of HRb.out (i := 4) rfl, cell_of HRb.out (i := 5) rfl, cell_of HRb.out (i := 6) rfl, cell_of HRb.out (i := 7) rfl⟩ (fun hHeldN => ?_)
                  clear hK K hHeld
                  have hHeld := hHeldN
                  clear hHeldN
                  try simp only [Act.put, pB, pC, pD]
                  generalize (x0.alloc (.cells #[.int .i64 s.k, .int .i64 s.x, .int .i64 s.y, .int .i64 s.z, .int .i64 s.f, .int .i64 s.n] 36)) = x1 at *
                  obtain ⟨g2, hg2⟩ : ∃ g, x0.heap.size = g := ⟨_, rfl⟩
                  rw [hg2] at HG2 hrl2
                  try rw [hg2]
                  clear hg2
                  refine wpAnyH_ready (rs := [3, 6]) (by kernel_rfl) (by simp) ?_
                  refine coH 3 (oi := ?_) ?_ ?_ (fun K hK => ?_) ?_; rotate_left; (simp only [gA, gB, gC]; exact rfl); rfl
                  · have hbs := BB.out.size
                    have hrl := lt_of_heap HRb.out
                    refine wp_append_lies _ _ _ 26 rfl w1.heap.size 36 i0 (.agg #[.int .i64 0, .int .i64 0, .int .i64 0, .int .i64 0, .int .i64 0, .int .i64 0]) 6 48 Try.underlying26 hi0 hz0 hz1 hz2 rfl (by decide) _ _ _ rfl HA.out ⟨g2, 0, none⟩ 1 1 [.int .i64 s.k, .int .i64 s.x, .int .i64 s.y, .int .i64 s.z, .int .i64 s.f, .int .i64 s.n] rfl rfl (World.news_of_block (cs := #[.int .i64 s.k, .int .i64 s.x, .int .i64 s.y, .int .i64 s.z, .int .i64 s.f, .int .i64 s.n]) (t := 36) (fr := (0, 0)) HG2.out) (by simp [Value.oneCell']) (by omega) (by unfold maxLen; omega) (by omega) (by omega) _ rfl ?_
                    intro g3 c3 x2 hown hgrow hor hltn
                    replace HQb := Lib.hid (grow_keep2 hgrow HQb.out (fun e => by have := HAQ.out _ e; omega))
                    replace HRb := Lib.hid (grow_keep2 hgrow HRb.out (fun e => by have := HAQ.out _ e; omega))
                    replace HS := Lib.hid (own_grow HS.out hgrow (fun b hb e => hapart b e (by cases hb; rfl)))
                    replace BB := Lib.hid (Below.grown BB.out hgrow (by omega) (fun b hb => (HA.out.lt b hb).1))
                    have hgg : g3 ≠ gS := by
                      rcases hor with h | h
                      · exact hapart g3 h
                      · omega
                    replace HA := Lib.hid hown
                    have hg3l := hltn
                    clear hown hgrow hor hltn hbs hrl HG2
                    refine hK.out _ _ ⟨cell_of HQb.out (i := 0) rfl, cell_of HQb.out (i := 1) rfl, cell_of HQb.out (i := 2) rfl, cell_of HQb.out (i := 3) rfl, cell_of HQb.out (i := 4) rfl, cell_of HQb.out (i := 5) rfl, cell_of HRb.out (i := 0) rfl, cell_of HRb.out (i := 1) rfl, cell_of HRb.out (i := 2) rfl, cell_of HRb.out (i := 3) rfl, cell_of HRb.out (i := 4) rfl, cell_of HRb.out (i := 5) rfl, cell_of HRb.out (i := 6) rfl, cell_of HRb.out (i := 7) rfl⟩ (fun hHeldN => ?_)
                    clear hK K hHeld
                    have hHeld := hHeldN
                    clear hHeldN
                    try simp only [Act.put, pB, pC, pD]
                    refine onH 6 (oi := ?_) (by kernel_rfl) ?_ ?_ (fun K hK => ?_); rotate_left; (simp only [gA, gB, gC]; exact rfl); rfl
                    go_wp2_with (fail)
                    have hb : Below x2.heap.size x2 (x2.alloc (.cells #[.int .i64 m2.x, .int .i64 m2.y, .int .i64 m2.z, .int .i64 m2.s, .int .i64 m2.h, .int .i64 m2.t, .int .i64 m2.f, .bool m2.r] 44)) := (Below.refl _ _).alloc (Nat.le_refl _) _
                    have hrl6 : r2 < x2.heap.size := lt_of_heap HRb.out
                    have HG6 := Lib.hid (heap_alloc_new x2 (.cells #[.int .i64 m2.x, .int .i64 m2.y, .int .i64 m2.z, .int .i64 m2.s, .int .i64 m2.h, .int .i64 m2.t, .int .i64 m2.f, .bool m2.r] 44))
                    replace HA := Lib.hid (ownsRow_below HA.out hb)
                    replace HS := Lib.hid (ownsRow_below HS.out hb)
                    replace HQb := Lib.hid (heap_keep hb HQb.out)
                    replace HRb := Lib.hid (heap_keep hb HRb.out)
                    replace BB := Lib.hid (BB.out.trans (hb.mono BB.out.size))
                    clear hb
                    refine hK.out _ _ ⟨cell_of HQb.out (i := 0) rfl, cell_of HQb.out (i := 1) rfl, cell_of HQb.out (i := 2) rfl, cell_of HQb.out (i := 3) rfl, cell_of HQb.out (i := 4) rfl, cell_of HQb.out (i := 5) rfl, cell_of HRb.out (i := 0) rfl, cell_of HRb.out (i := 1) rfl, cell_of HRb.out (i := 2) rfl, cell_of HRb.out (i := 3) rfl, cell_of HRb.out (i := 4) rfl, cell_of HRb.out (i := 5) rfl, cell_of HRb.out (i := 6) rfl, cell_of HRb.out (i := 7) rfl⟩ (fun hHeldN => ?_)
                    clear hK K hHeld
                    have hHeld := hHeldN
                    clear hHeldN
                    try simp only [Act.put, pB, pC, pD]
                    generalize (x2.alloc (.cells #[.int .i64 m2.x, .int .i64 m2.y, .int .i64 m2.z, .int .i64 m2.s, .int .i64 m2.h, .int .i64 m2.t, .int .i64 m2.f, .bool m2.r] 44)) = x3 at *
                    obtain ⟨g6, hg6⟩ : ∃ g, x2.heap.size = g := ⟨_, rfl⟩
                    rw [hg6] at HG6 hrl6
                    try rw [hg6]
                    clear hg6
                    refine onH 7 (oi := ?_) (by kernel_rfl) ?_ ?_ (fun K hK => ?_); rotate_left; (simp only [gA, gB, gC]; exact rfl); rfl
                    have hbs := BB.out.size
                    have hrl := lt_of_heap HRb.out
                    refine wp_append_lies _ _ _ 50 rfl w1.heap.size 44 i1 (.agg #[.int .i64 0, .int .i64 0, .int .i64 0, .int .i64 0, .int .i64 0, .int .i64 0, .int .i64 0, .bool false]) 8 64 Try.underlying50 hi1 hy0 hy1 hy2 rfl (by decide) _ _ _ rfl HS.out ⟨g6, 0, none⟩ 1 1 [.int .i64 m2.x, .int .i64 m2.y, .int .i64 m2.z, .int .i64 m2.s, .int .i64 m2.h, .int .i64 m2.t, .int .i64 m2.f, .bool m2.r] rfl rfl (World.news_of_block (cs := #[.int .i64 m2.x, .int .i64 m2.y, .int .i64 m2.z, .int .i64 m2.s, .int .i64 m2.h, .int .i64 m2.t, .int .i64 m2.f, .bool m2.r]) (t := 44) (fr := (0, 0)) HG6.out) (by simp [Value.oneCell']) (by omega) (by unfold maxLen; omega) (by omega) (by omega) _ rfl ?_
                    intro g7 c7 x4 hown hgrow hor hltn
                    replace HQb := Lib.hid (grow_keep2 hgrow HQb.out (fun e => by have e2 : gS = _ := Option.some.inj e; omega))
                    replace HRb := Lib.hid (grow_keep2 hgrow HRb.out (fun e => by have e2 : gS = _ := Option.some.inj e; omega))
                    replace BB := Lib.hid (Below.grown BB.out hgrow (by omega) (fun b hb => (HS.out.lt b hb).1))
                    have hgg2 : g3 ≠ g7 := by
                      have h3 := (HA.out.lt g3 rfl).2
                      rcases hor with h | h
                      · have e2 : gS = g7 := Option.some.inj h
                        omega
                      · omega
                    replace HA := Lib.hid (own_grow HA.out hgrow (fun b hb e => by cases hb; exact hgg (Option.some.inj e).symm))
                    replace HS := Lib.hid hown
                    clear hown hgrow hor hltn hbs hrl HG6
                    refine hK.out _ _ ⟨cell_of HQb.out (i := 0) rfl, cell_of HQb.out (i := 1) rfl, cell_of HQb.out (i := 2) rfl, cell_of HQb.out (i := 3) rfl, cell_of HQb.out (i := 4) rfl, cell_of HQb.out (i := 5) rfl, cell_of HRb.out (i := 0) rfl, cell_of HRb.out (i := 1) rfl, cell_of HRb.out (i := 2) rfl, cell_of HRb.out (i := 3) rfl, cell_of HRb.out (i := 4) rfl, cell_of HRb.out (i := 5) rfl, cell_of HRb.out (i := 6) rfl, cell_of HRb.out (i := 7) rfl⟩ (fun hHeldN => ?_)
                    clear hK K hHeld
                    have hHeld := hHeldN
                    clear hHeldN
                    try simp only [Act.put, pB, pC, pD]
                    refine tkH (by assumption) 8 (oi := ?_) (v := ?_) ?_ ?_ ?_ ?_ ?_ ?_ ?_ ?_; rotate_left 2; (simp only [gA, gB, gC]; exact rfl); kernel_rfl; kernel_rfl; kernel_rfl; exact fun _ _ _ h => h; rfl; (intro w' hSw; obtain ⟨s0, s1, s2, s3, s4, s5, d0, d1, d2, d3, d4, d5, d6, d7⟩ := hSw;go_simp; with_reducible rfl); simp only [Act.put, pB, pC, pD]
                    refine tkH (by assumption) 9 (oi := ?_) (v := ?_) ?_ ?_ ?_ ?_ ?_ ?_ ?_ ?_; rotate_left 2; (simp only [gA, gB, gC]; exact rfl); kernel_rfl; kernel_rfl; kernel_rfl; exact fun _ _ _ h => h; rfl; (intro w' hSw; obtain ⟨s0, s1, s2, s3, s4, s5, d0, d1, d2, d3, d4, d5, d6, d7⟩ := hSw;go_simp; with_reducible rfl); simp only [Act.put, pB, pC, pD]
                    refine wpAnyH_done (by kernel_rfl) ?_ _
                    clear hHeld
                    go_wp2_with (fail)
                    go_roundw
                    case rel => exact ⟨k + 1, l ++ [s], some ⟨g3, 0, none⟩, c3, c7, g7, by go_num, by omega, by rw [List.length_append]; rfl, by rw [List.length_append]; rfl, by rw [fold_succ _ _ hlt, HL.out, RS.out, HSHL.out], fun t ht => (List.mem_append.1 ht).elim (HABp.out t) (fun h => by rw [List.mem_singleton.1 h]; exact HTk.out), by rw [List.length_append]; simp; omega, by rw [List.length_append, rowS_app]; exact HA.out, by rw [List.length_append, stL_snoc, rowM_app, show List.foldl aft m00 l = m1 from RM1.out, RM2.out]; exact HS.out, (fun b hb => by cases hb; exact hgg2), BB.out⟩
                    case measure => simp [intOf] <;> omega
                  refine coH 6 (oi := ?_) ?_ ?_ (fun K hK => ?_) ?_; rotate_left; (simp only [gA, gB, gC]; exact rfl); rfl
                  · go_wp2_with (fail)
                    have hb : Below x1.heap.size x1 (x1.alloc (.cells #[.int .i64 m2.x, .int .i64 m2.y, .int .i64 m2.z, .int .i64 m2.s, .int .i64 m2.h, .int .i64 m2.t, .int .i64 m2.f, .bool m2.r] 44)) := (Below.refl _ _).alloc (Nat.le_refl _) _
                    have hrl6 : r2 < x1.heap.size := lt_of_heap HRb.out
                    have HG6 := Lib.hid (heap_alloc_new x1 (.cells #[.int .i64 m2.x, .int .i64 m2.y, .int .i64 m2.z, .int .i64 m2.s, .int .i64 m2.h, .int .i64 m2.t, .int .i64 m2.f, .bool m2.r] 44))
                    replace HA := Lib.hid (ownsRow_below HA.out hb)
                    replace HS := Lib.hid (ownsRow_below HS.out hb)
                    replace HQb := Lib.hid (heap_keep hb HQb.out)
                    replace HRb := Lib.hid (heap_keep hb HRb.out)
                    replace HG2 := Lib.hid (heap_keep hb HG2.out)
                    replace BB := Lib.hid (BB.out.trans (hb.mono BB.out.size))
                    clear hb
                    refine hK.out _ _ ⟨cell_of HQb.out (i := 0) rfl, cell_of HQb.out (i := 1) rfl, cell_of HQb.out (i := 2) rfl, cell_of HQb.out (i := 3) rfl, cell_of HQb.out (i := 4) rfl, cell_of HQb.out (i := 5) rfl, cell_of HRb.out (i := 0) rfl, cell_of HRb.out (i := 1) rfl, cell_of HRb.out (i := 2) rfl, cell_of HRb.out (i := 3) rfl, cell_of HRb.out (i := 4) rfl, cell_of HRb.out (i := 5) rfl, cell_of HRb.out (i := 6) rfl, cell_of HRb.out (i := 7) rfl⟩ (fun hHeldN => ?_)
                    clear hK K hHeld
                    have hHeld := hHeldN
                    clear hHeldN
                    try simp only [Act.put, pB, pC, pD]
                    generalize (x1.alloc (.cells #[.int .i64 m2.x, .int .i64 m2.y, .int .i64 m2.z, .int .i64 m2.s, .int .i64 m2.h, .int .i64 m2.t, .int .i64 m2.f, .bool m2.r] 44)) = x2 at *
                    obtain ⟨g6, hg6⟩ : ∃ g, x1.heap.size = g := ⟨_, rfl⟩
                    rw [hg6] at HG6 hrl6
                    try rw [hg6]
                    clear hg6
                    refine onH 3 (oi := ?_) (by kernel_rfl) ?_ ?_ (fun K hK => ?_); rotate_left; (simp only [gA, gB, gC]; exact rfl); rfl
                    have hbs := BB.out.size
                    have hrl := lt_of_heap HRb.out
                    refine wp_append_lies _ _ _ 26 rfl w1.heap.size 36 i0 (.agg #[.int .i64 0, .int .i64 0, .int .i64 0, .int .i64 0, .int .i64 0, .int .i64 0]) 6 48 Try.underlying26 hi0 hz0 hz1 hz2 rfl (by decide) _ _ _ rfl HA.out ⟨g2, 0, none⟩ 1 1 [.int .i64 s.k, .int .i64 s.x, .int .i64 s.y, .int .i64 s.z, .int .i64 s.f, .int .i64 s.n] rfl rfl (World.news_of_block (cs := #[.int .i64 s.k, .int .i64 s.x, .int .i64 s.y, .int .i64 s.z, .int .i64 s.f, .int .i64 s.n]) (t := 36) (fr := (0, 0)) HG2.out) (by simp [Value.oneCell']) (by omega) (by unfold maxLen; omega) (by omega) (by omega) _ rfl ?_
                    intro g3 c3 x3 hown hgrow hor hltn
                    replace HQb := Lib.hid (grow_keep2 hgrow HQb.out (fun e => by have := HAQ.out _ e; omega))
                    replace HRb := Lib.hid (grow_keep2 hgrow HRb.out (fun e => by have := HAQ.out _ e; omega))
                    replace HG6 := Lib.hid (grow_keep2 hgrow HG6.out (fun e => by have := HAQ.out _ e; omega))
                    replace HS := Lib.hid (own_grow HS.out hgrow (fun b hb e => hapart b e (by cases hb; rfl)))
                    replace BB := Lib.hid (Below.grown BB.out hgrow (by omega) (fun b hb => (HA.out.lt b hb).1))
                    have hgg : g3 ≠ gS := by
                      rcases hor with h | h
                      · exact hapart g3 h
                      · omega
                    replace HA := Lib.hid hown
                    have hg3l := hltn
                    clear hown hgrow hor hltn hbs hrl HG2
                    refine hK.out _ _ ⟨cell_of HQb.out (i := 0) rfl, cell_of HQb.out (i := 1) rfl, cell_of HQb.out (i := 2) rfl, cell_of HQb.out (i := 3) rfl, cell_of HQb.out (i := 4) rfl, cell_of HQb.out (i := 5) rfl, cell_of HRb.out (i := 0) rfl, cell_of HRb.out (i := 1) rfl, cell_of HRb.out (i := 2) rfl, cell_of HRb.out (i := 3) rfl, cell_of HRb.out (i := 4) rfl, cell_of HRb.out (i := 5) rfl, cell_of HRb.out (i := 6) rfl, cell_of HRb.out (i := 7) rfl⟩ (fun hHeldN => ?_)
                    clear hK K hHeld
                    have hHeld := hHeldN
                    clear hHeldN
                    try simp only [Act.put, pB, pC, pD]
                    refine onH 7 (oi := ?_) (by kernel_rfl) ?_ ?_ (fun K hK => ?_); rotate_left; (simp only [gA, gB, gC]; exact rfl); rfl
                    have hbs := BB.out.size
                    have hrl := lt_of_heap HRb.out
                    refine wp_append_lies _ _ _ 50 rfl w1.heap.size 44 i1 (.agg #[.int .i64 0, .int .i64 0, .int .i64 0, .int .i64 0, .int .i64 0, .int .i64 0, .int .i64 0, .bool false]) 8 64 Try.underlying50 hi1 hy0 hy1 hy2 rfl (by decide) _ _ _ rfl HS.out ⟨g6, 0, none⟩ 1 1 [.int .i64 m2.x, .int .i64 m2.y, .int .i64 m2.z, .int .i64 m2.s, .int .i64 m2.h, .int .i64 m2.t, .int .i64 m2.f, .bool m2.r] rfl rfl (World.news_of_block (cs := #[.int .i64 m2.x, .int .i64 m2.y, .int .i64 m2.z, .int .i64 m2.s, .int .i64 m2.h, .int .i64 m2.t, .int .i64 m2.f, .bool m2.r]) (t := 44) (fr := (0, 0)) HG6.out) (by simp [Value.oneCell']) (by omega) (by unfold maxLen; omega) (by omega) (by omega) _ rfl ?_
                    intro g7 c7 x4 hown hgrow hor hltn
                    replace HQb := Lib.hid (grow_keep2 hgrow HQb.out (fun e => by have e2 : gS = _ := Option.some.inj e; omega))
                    replace HRb := Lib.hid (grow_keep2 hgrow HRb.out (fun e => by have e2 : gS = _ := Option.some.inj e; omega))
                    replace BB := Lib.hid (Below.grown BB.out hgrow (by omega) (fun b hb => (HS.out.lt b hb).1))
                    have hgg2 : g3 ≠ g7 := by
                      have h3 := (HA.out.lt g3 rfl).2
                      rcases hor with h | h
                      · have e2 : gS = g7 := Option.some.inj h
                        omega
                      · omega
                    replace HA := Lib.hid (own_grow HA.out hgrow (fun b hb e => by cases hb; exact hgg (Option.some.inj e).symm))
                    replace HS := Lib.hid hown
                    clear hown hgrow hor hltn hbs hrl HG6
                    refine hK.out _ _ ⟨cell_of HQb.out (i := 0) rfl, cell_of HQb.out (i := 1) rfl, cell_of HQb.out (i := 2) rfl, cell_of HQb.out (i := 3) rfl, cell_of HQb.out (i := 4) rfl, cell_of HQb.out (i := 5) rfl, cell_of HRb.out (i := 0) rfl, cell_of HRb.out (i := 1) rfl, cell_of HRb.out (i := 2) rfl, cell_of HRb.out (i := 3) rfl, cell_of HRb.out (i := 4) rfl, cell_of HRb.out (i := 5) rfl, cell_of HRb.out (i := 6) rfl, cell_of HRb.out (i := 7) rfl⟩ (fun hHeldN => ?_)
                    clear hK K hHeld
                    have hHeld := hHeldN
                    clear hHeldN
                    try simp only [Act.put, pB, pC, pD]
                    refine tkH (by assumption) 8 (oi := ?_) (v := ?_) ?_ ?_ ?_ ?_ ?_ ?_ ?_ ?_; rotate_left 2; (simp only [gA, gB, gC]; exact rfl); kernel_rfl; kernel_rfl; kernel_rfl; exact fun _ _ _ h => h; rfl; (intro w' hSw; obtain ⟨s0, s1, s2, s3, s4, s5, d0, d1, d2, d3, d4, d5, d6, d7⟩ := hSw;go_simp; with_reducible rfl); simp only [Act.put, pB, pC, pD]
                    refine tkH (by assumption) 9 (oi := ?_) (v := ?_) ?_ ?_ ?_ ?_ ?_ ?_ ?_ ?_; rotate_left 2; (simp only [gA, gB, gC]; exact rfl); kernel_rfl; kernel_rfl; kernel_rfl; exact fun _ _ _ h => h; rfl; (intro w' hSw; obtain ⟨s0, s1, s2, s3, s4, s5, d0, d1, d2, d3, d4, d5, d6, d7⟩ := hSw;go_simp; with_reducible rfl); simp only [Act.put, pB, pC, pD]
                    refine wpAnyH_done (by kernel_rfl) ?_ _
                    clear hHeld
                    go_wp2_with (fail)
                    go_roundw
                    case rel => exact ⟨k + 1, l ++ [s], some ⟨g3, 0, none⟩, c3, c7, g7, by go_num, by omega, by rw [List.length_append]; rfl, by rw [List.length_append]; rfl, by rw [fold_succ _ _ hlt, HL.out, RS.out, HSHL.out], fun t ht => (List.mem_append.1 ht).elim (HABp.out t) (fun h => by rw [List.mem_singleton.1 h]; exact HTk.out), by rw [List.length_append]; simp; omega, by rw [List.length_append, rowS_app]; exact HA.out, by rw [List.length_append, stL_snoc, rowM_app, show List.foldl aft m00 l = m1 from RM1.out, RM2.out]; exact HS.out, (fun b hb => by cases hb; exact hgg2), BB.out⟩
                    case measure => simp [intOf] <;> omega
                  exact AllReadyH.nil
                refine coH 6 (oi := ?_) ?_ ?_ (fun K hK => ?_) ?_; rotate_left; (simp only [gA, gB, gC]; exact rfl); rfl
                · go_wp2_with (fail)
                  have hb : Below x0.heap.size x0 (x0.alloc (.cells #[.int .i64 m2.x, .int .i64 m2.y, .int .i64 m2.z, .int .i64 m2.s, .int .i64 m2.h, .int .i64 m2.t, .int .i64 m2.f, .bool m2.r] 44)) := (Below.refl _ _).alloc (Nat.le_refl _) _
                  have hrl6 : r2 < x0.heap.size := lt_of_heap HRb.out
                  have HG6 := Lib.hid (heap_alloc_new x0 (.cells #[.int .i64 m2.x, .int .i64 m2.y, .int .i64 m2.z, .int .i64 m2.s, .int .i64 m2.h, .int .i64 m2.t, .int .i64 m2.f, .bool m2.r] 44))
                  replace HA := Lib.hid (ownsRow_below HA.out hb)
                  replace HS := Lib.hid (ownsRow_below HS.out hb)
                  replace HQb := Lib.hid (heap_keep hb HQb.out)
                  replace HRb := Lib.hid (heap_keep hb HRb.out)
                  replace BB := Lib.hid (BB.out.trans (hb.mono BB.out.size))
                  clear hb
                  refine hK.out _ _ ⟨cell_of HQb.out (i := 0) rfl, cell_of HQb.out (i := 1) rfl, cell_of HQb.out (i := 2) rfl, cell_of HQb.out (i := 3) rfl, cell_of HQb.out (i := 4) rfl, cell_of HQb.out (i := 5) rfl, cell_of HRb.out (i := 0) rfl, cell_of HRb.out (i := 1) rfl, cell_of HRb.out (i := 2) rfl, cell_of HRb.out (i := 3) rfl, cell_of HRb.out (i := 4) rfl, cell_of HRb.out (i := 5) rfl, cell_of HRb.out (i := 6) rfl, cell_of HRb.out (i := 7) rfl⟩ (fun hHeldN => ?_)
                  clear hK K hHeld
                  have hHeld := hHeldN
                  clear hHeldN
                  try simp only [Act.put, pB, pC, pD]
                  generalize (x0.alloc (.cells #[.int .i64 m2.x, .int .i64 m2.y, .int .i64 m2.z, .int .i64 m2.s, .int .i64 m2.h, .int .i64 m2.t, .int .i64 m2.f, .bool m2.r] 44)) = x1 at *
                  obtain ⟨g6, hg6⟩ : ∃ g, x0.heap.size = g := ⟨_, rfl⟩
                  rw [hg6] at HG6 hrl6
                  try rw [hg6]
                  clear hg6
                  refine onH 2 (oi := ?_) (by kernel_rfl) ?_ ?_ (fun K hK => ?_); rotate_left; (simp only [gA, gB, gC]; exact rfl); rfl
                  go_wp2_with (fail)
                  have hb : Below x1.heap.size x1 (x1.alloc (.cells #[.int .i64 s.k, .int .i64 s.x, .int .i64 s.y, .int .i64 s.z, .int .i64 s.f, .int .i64 s.n] 36)) := (Below.refl _ _).alloc (Nat.le_refl _) _
                  have hrl2 : r2 < x1.heap.size := lt_of_heap HRb.out
                  have HG2 := Lib.hid (heap_alloc_new x1 (.cells #[.int .i64 s.k, .int .i64 s.x, .int .i64 s.y, .int .i64 s.z, .int .i64 s.f, .int .i64 s.n] 36))
                  replace HA := Lib.hid (ownsRow_below HA.out hb)
                  replace HS := Lib.hid (ownsRow_below HS.out hb)
                  replace HQb := Lib.hid (heap_keep hb HQb.out)
                  replace HRb := Lib.hid (heap_keep hb HRb.out)
                  replace HG6 := Lib.hid (heap_keep hb HG6.out)
                  replace BB := Lib.hid (BB.out.trans (hb.mono BB.out.size))
                  clear hb
                  refine hK.out _ _ ⟨cell_of HQb.out (i := 0) rfl, cell_of HQb.out (i := 1) rfl, cell_of HQb.out (i := 2) rfl, cell_of HQb.out (i := 3) rfl, cell_of HQb.out (i := 4) rfl, cell_of HQb.out (i := 5) rfl, cell_of HRb.out (i := 0) rfl, cell_of HRb.out (i := 1) rfl, cell_of HRb.out (i := 2) rfl, cell_of HRb.out (i := 3) rfl, cell_of HRb.out (i := 4) rfl, cell_of HRb.out (i := 5) rfl, cell_of HRb.out (i := 6) rfl, cell_of HRb.out (i := 7) rfl⟩ (fun hHeldN => ?_)
                  clear hK K hHeld
                  have hHeld := hHeldN
                  clear hHeldN
                  try simp only [Act.put, pB, pC, pD]
                  generalize (x1.alloc (.cells #[.int .i64 s.k, .int .i64 s.x, .int .i64 s.y, .int .i64 s.z, .int .i64 s.f, .int .i64 s.n] 36)) = x2 at *
                  obtain ⟨g2, hg2⟩ : ∃ g, x1.heap.size = g := ⟨_, rfl⟩
                  rw [hg2] at HG2 hrl2
                  try rw [hg2]
                  clear hg2
                  refine onH 3 (oi := ?_) (by kernel_rfl) ?_ ?_ (fun K hK => ?_); rotate_left; (simp only [gA, gB, gC]; exact rfl); rfl
                  have hbs := BB.out.size
                  have hrl := lt_of_heap HRb.out
                  refine wp_append_lies _ _ _ 26 rfl w1.heap.size 36 i0 (.agg #[.int .i64 0, .int .i64 0, .int .i64 0, .int .i64 0, .int .i64 0, .int .i64 0]) 6 48 Try.underlying26 hi0 hz0 hz1 hz2 rfl (by decide) _ _ _ rfl HA.out ⟨g2, 0, none⟩ 1 1 [.int .i64 s.k, .int .i64 s.x, .int .i64 s.y, .int .i64 s.z, .int .i64 s.f, .int .i64 s.n] rfl rfl (World.news_of_block (cs := #[.int .i64 s.k, .int .i64 s.x, .int .i64 s.y, .int .i64 s.z, .int .i64 s.f, .int .i64 s.n]) (t := 36) (fr := (0, 0)) HG2.out) (by simp [Value.oneCell']) (by omega) (by unfold maxLen; omega) (by omega) (by omega) _ rfl ?_
                  intro g3 c3 x3 hown hgrow hor hltn
                  replace HQb := Lib.hid (grow_keep2 hgrow HQb.out (fun e => by have := HAQ.out _ e; omega))
                  replace HRb := Lib.hid (grow_keep2 hgrow HRb.out (fun e => by have := HAQ.out _ e; omega))
                  replace HG6 := Lib.hid (grow_keep2 hgrow HG6.out (fun e => by have := HAQ.out _ e; omega))
                  replace HS := Lib.hid (own_grow HS.out hgrow (fun b hb e => hapart b e (by cases hb; rfl)))
                  replace BB := Lib.hid (Below.grown BB.out hgrow (by omega) (fun b hb => (HA.out.lt b hb).1))
                  have hgg : g3 ≠ gS := by
                    rcases hor with h | h
                    · exact hapart g3 h
                    · omega
                  replace HA := Lib.hid hown
                  have hg3l := hltn
                  clear hown hgrow hor hltn hbs hrl HG2
                  refine hK.out _ _ ⟨cell_of HQb.out (i := 0) rfl, cell_of HQb.out (i := 1) rfl, cell_of HQb.out (i := 2) rfl, cell_of HQb.out (i := 3) rfl, cell_of HQb.out (i := 4) rfl, cell_of HQb.out (i := 5) rfl, cell_of HRb.out (i := 0) rfl, cell_of HRb.out (i := 1) rfl, cell_of HRb.out (i := 2) rfl, cell_of HRb.out (i := 3) rfl, cell_of HRb.out (i := 4) rfl, cell_of HRb.out (i := 5) rfl, cell_of HRb.out (i := 6) rfl, cell_of HRb.out (i := 7) rfl⟩ (fun hHeldN => ?_)
                  clear hK K hHeld
                  have hHeld := hHeldN
                  clear hHeldN
                  try simp only [Act.put, pB, pC, pD]
                  refine onH 7 (oi := ?_) (by kernel_rfl) ?_ ?_ (fun K hK => ?_); rotate_left; (simp only [gA, gB, gC]; exact rfl); rfl
                  have hbs := BB.out.size
                  have hrl := lt_of_heap HRb.out
                  refine wp_append_lies _ _ _ 50 rfl w1.heap.size 44 i1 (.agg #[.int .i64 0, .int .i64 0, .int .i64 0, .int .i64 0, .int .i64 0, .int .i64 0, .int .i64 0, .bool false]) 8 64 Try.underlying50 hi1 hy0 hy1 hy2 rfl (by decide) _ _ _ rfl HS.out ⟨g6, 0, none⟩ 1 1 [.int .i64 m2.x, .int .i64 m2.y, .int .i64 m2.z, .int .i64 m2.s, .int .i64 m2.h, .int .i64 m2.t, .int .i64 m2.f, .bool m2.r] rfl rfl (World.news_of_block (cs := #[.int .i64 m2.x, .int .i64 m2.y, .int .i64 m2.z, .int .i64 m2.s, .int .i64 m2.h, .int .i64 m2.t, .int .i64 m2.f, .bool m2.r]) (t := 44) (fr := (0, 0)) HG6.out) (by simp [Value.oneCell']) (by omega) (by unfold maxLen; omega) (by omega) (by omega) _ rfl ?_
                  intro g7 c7 x4 hown hgrow hor hltn
                  replace HQb := Lib.hid (grow_keep2 hgrow HQb.out (fun e => by have e2 : gS = _ := Option.some.inj e; omega))
                  replace HRb := Lib.hid (grow_keep2 hgrow HRb.out (fun e => by have e2 : gS = _ := Option.some.inj e; omega))
                  replace BB := Lib.hid (Below.grown BB.out hgrow (by omega) (fun b hb => (HS.out.lt b hb).1))
                  have hgg2 : g3 ≠ g7 := by
                    have h3 := (HA.out.lt g3 rfl).2
                    rcases hor with h | h
                    · have e2 : gS = g7 := Option.some.inj h
                      omega
                    · omega
                  replace HA := Lib.hid (own_grow HA.out hgrow (fun b hb e => by cases hb; exact hgg (Option.some.inj e).symm))
                  replace HS := Lib.hid hown
                  clear hown hgrow hor hltn hbs hrl HG6
                  refine hK.out _ _ ⟨cell_of HQb.out (i := 0) rfl, cell_of HQb.out (i := 1) rfl, cell_of HQb.out (i := 2) rfl, cell_of HQb.out (i := 3) rfl, cell_of HQb.out (i := 4) rfl, cell_of HQb.out (i := 5) rfl, cell_of HRb.out (i := 0) rfl, cell_of HRb.out (i := 1) rfl, cell_of HRb.out (i := 2) rfl, cell_of HRb.out (i := 3) rfl, cell_of HRb.out (i := 4) rfl, cell_of HRb.out (i := 5) rfl, cell_of HRb.out (i := 6) rfl, cell_of HRb.out (i := 7) rfl⟩ (fun hHeldN => ?_)
                  clear hK K hHeld
                  have hHeld := hHeldN
                  clear hHeldN
                  try simp only [Act.put, pB, pC, pD]
                  refine tkH (by assumption) 8 (oi := ?_) (v := ?_) ?_ ?_ ?_ ?_ ?_ ?_ ?_ ?_; rotate_left 2; (simp only [gA, gB, gC]; exact rfl); kernel_rfl; kernel_rfl; kernel_rfl; exact fun _ _ _ h => h; rfl; (intro w' hSw; obtain ⟨s0, s1, s2, s3, s4, s5, d0, d1, d2, d3, d4, d5, d6, d7⟩ := hSw;go_simp; with_reducible rfl); simp only [Act.put, pB, pC, pD]
                  refine tkH (by assumption) 9 (oi := ?_) (v := ?_) ?_ ?_ ?_ ?_ ?_ ?_ ?_ ?_; rotate_left 2; (simp only [gA, gB, gC]; exact rfl); kernel_rfl; kernel_rfl; kernel_rfl; exact fun _ _ _ h => h; rfl; (intro w' hSw; obtain ⟨s0, s1, s2, s3, s4, s5, d0, d1, d2, d3, d4, d5, d6, d7⟩ := hSw;go_simp; with_reducible rfl); simp only [Act.put, pB, pC, pD]
                  refine wpAnyH_done (by kernel_rfl) ?_ _
                  clear hHeld
                  go_wp2_with (fail)
                  go_roundw
                  case rel => exact ⟨k + 1, l ++ [s], some ⟨g3, 0, none⟩, c3, c7, g7, by go_num, by omega, by rw [List.length_append]; rfl, by rw [List.length_append]; rfl, by rw [fold_succ _ _ hlt, HL.out, RS.out, HSHL.out], fun t ht => (List.mem_append.1 ht).elim (HABp.out t) (fun h => by rw [List.mem_singleton.1 h]; exact HTk.out), by rw [List.length_append]; simp; omega, by rw [List.length_append, rowS_app]; exact HA.out, by rw [List.length_append, stL_snoc, rowM_app, show List.foldl aft m00 l = m1 from RM1.out, RM2.out]; exact HS.out, (fun b hb => by cases hb; exact hgg2), BB.out⟩
                  case measure => simp [intOf] <;> omega
                exact AllReadyH.nil
            · have HSHL : Hid (shL l s = l ++ [s]) := Lib.hid (by unfold shL; rw [HPOP.out, if_neg (fun h => by have := HVB.out; rw [RM1.out, RM2.out] at h; simp [h.1] at this)])
              go_wp2_with (fail)
              generalize (w4.alloc (.cells #[.int .i64 m2.x, .int .i64 m2.y, .int .i64 m2.z, .int .i64 m2.s, .int .i64 m2.h, .int .i64 m2.t, .int .i64 m2.f, .bool m2.r] 44)) = w6 at *
              have HOA6 := HOA5
              have HOS6 := HOS5
              have HSq6 := HSq5
              have HN26 := HN2
              have B6 := B5
              clear HOA5 HOS5 HSq5 HN2 B5
              obtain ⟨r2, hr2⟩ : ∃ r, w4.heap.size = r := ⟨_, rfl⟩
              rw [hr2] at HN26
              try rw [hr2]
              have hqr : q < r2 := by omega
              have HA := HOA6
              have HS := HOS6
              have HQb := HSq6
              have HRb := HN26
              have BB := B6
              clear HOA6 HOS6 HSq6 HN26 B6 hr2
              refine wp_region_held_drew (S := (fun w' => w'.cell? ⟨q, 0, none⟩ = some (.int .i64 s.k) ∧ w'.cell? ⟨q, 1, none⟩ = some (.int .i64 s.x) ∧ w'.cell? ⟨q, 2, none⟩ = some (.int .i64 s.y) ∧ w'.cell? ⟨q, 3, none⟩ = some (.int .i64 s.z) ∧ w'.cell? ⟨q, 4, none⟩ = some (.int .i64 s.f) ∧ w'.cell? ⟨q, 5, none⟩ = some (.int .i64 s.n) ∧ w'.cell? ⟨r2, 0, none⟩ = some (.int .i64 m2.x) ∧ w'.cell? ⟨r2, 1, none⟩ = some (.int .i64 m2.y) ∧ w'.cell? ⟨r2, 2, none⟩ = some (.int .i64 m2.z) ∧ w'.cell? ⟨r2, 3, none⟩ = some (.int .i64 m2.s) ∧ w'.cell? ⟨r2, 4, none⟩ = some (.int .i64 m2.h) ∧ w'.cell? ⟨r2, 5, none⟩ = some (.int .i64 m2.t) ∧ w'.cell? ⟨r2, 6, none⟩ = some (.int .i64 m2.f) ∧ w'.cell? ⟨r2, 7, none⟩ = some (.bool m2.r))) (by kernel_rfl) ⟨cell_of HQb.out (i := 0) rfl, cell_of HQb.out (i := 1) rfl, cell_of HQb.out (i := 2) rfl, cell_of HQb.out (i := 3) rfl, cell_of HQb.out (i := 4) rfl, cell_of HQb.out (i := 5) rfl, cell_of HRb.out (i := 0) rfl, cell_of HRb.out (i := 1) rfl, cell_of HRb.out (i := 2) rfl, cell_of HRb.out (i := 3) rfl, cell_of HRb.out (i := 4) rfl, cell_of HRb.out (i := 5) rfl, cell_of HRb.out (i := 6) rfl, cell_of HRb.out (i := 7) rfl⟩ (fun hHeld => ?_)
              refine tkH (by assumption) 0 (oi := ?_) (v := ?_) ?_ ?_ ?_ ?_ ?_ ?_ ?_ ?_; rotate_left 2; (simp only [gA, gB, gC]; exact rfl); kernel_rfl; kernel_rfl; kernel_rfl; exact fun _ _ _ h => h; rfl; (intro w' hSw; obtain ⟨s0, s1, s2, s3, s4, s5, d0, d1, d2, d3, d4, d5, d6, d7⟩ := hSw;go_simp; with_reducible rfl); simp only [Act.put, pB, pC, pD]
              refine tkH (by assumption) 1 (oi := ?_) (v := ?_) ?_ ?_ ?_ ?_ ?_ ?_ ?_ ?_; rotate_left 2; (simp only [gA, gB, gC]; exact rfl); kernel_rfl; kernel_rfl; kernel_rfl; exact fun _ _ _ h => h; rfl; (intro w' hSw; obtain ⟨s0, s1, s2, s3, s4, s5, d0, d1, d2, d3, d4, d5, d6, d7⟩ := hSw;go_simp; with_reducible rfl); simp only [Act.put, pB, pC, pD]
              refine tkH (by assumption) 4 (oi := ?_) (v := ?_) ?_ ?_ ?_ ?_ ?_ ?_ ?_ ?_; rotate_left 2; (simp only [gA, gB, gC]; exact rfl); kernel_rfl; kernel_rfl; kernel_rfl; exact fun _ _ _ h => h; rfl; (intro w' hSw; obtain ⟨s0, s1, s2, s3, s4, s5, d0, d1, d2, d3, d4, d5, d6, d7⟩ := hSw;go_simp; with_reducible rfl); simp only [Act.put, pB, pC, pD]
              refine tkH (by assumption) 5 (oi := ?_) (v := ?_) ?_ ?_ ?_ ?_ ?_ ?_ ?_ ?_; rotate_left 2; (simp only [gA, gB, gC]; exact rfl); kernel_rfl; kernel_rfl; kernel_rfl; exact fun _ _ _ h => h; rfl; (intro w' hSw; obtain ⟨s0, s1, s2, s3, s4, s5, d0, d1, d2, d3, d4, d5, d6, d7⟩ := hSw;go_simp; with_reducible rfl); simp only [Act.put, pB, pC, pD]
              have hbd : Below w6.heap.size w6 w6.drew := Below.drew (Below.refl _ _)
              replace HA := Lib.hid (ownsRow_below HA.out hbd)
              replace HS := Lib.hid (ownsRow_below HS.out hbd)
              replace HQb := Lib.hid (heap_keep hbd HQb.out)
              replace HRb := Lib.hid (heap_keep hbd HRb.out)
              replace BB := Lib.hid (BB.out.trans (hbd.mono BB.out.size))
              clear hbd
              generalize w6.drew = x0 at *
              refine wpAnyH_ready (rs := [2, 6]) (by kernel_rfl) (by simp) ?_
              refine coH 2 (oi := ?_) ?_ ?_ (fun K hK => ?_) ?_; rotate_left; (simp only [gA, gB, gC]; exact rfl); rfl
              · go_wp2_with (fail)
                have hb : Below x0.heap.size x0 (x0.alloc (.cells #[.int .i64 s.k, .int .i64 s.x, .int .i64 s.y, .int .i64 s.z, .int .i64 s.f, .int .i64 s.n] 36)) := (Below.refl _ _).alloc (Nat.le_refl _) _
                have hrl2 : r2 < x0.heap.size := lt_of_heap HRb.out
                have HG2 := Lib.hid (heap_alloc_new x0 (.cells #[.int .i64 s.k, .int .i64 s.x, .int .i64 s.y, .int .i64 s.z, .int .i64 s.f, .int .i64 s.n] 36))
                replace HA := Lib.hid (ownsRow_below HA.out hb)
                replace HS := Lib.hid (ownsRow_below HS.out hb)
                replace HQb := Lib.hid (heap_keep hb HQb.out)
                replace HRb := Lib.hid (heap_keep hb HRb.out)
                replace BB := Lib.hid (BB.out.trans (hb.mono BB.out.size))
                clear hb
                refine hK.out _ _ ⟨cell_of HQb.out (i := 0) rfl, cell_of HQb.out (i := 1) rfl, cell_of HQb.out (i := 2) rfl, cell_of HQb.out (i := 3) rfl, cell_of HQb.out (i := 4) rfl, cell_of HQb.out (i := 5) rfl, cell_of HRb.out (i := 0) rfl, cell_of HRb.out (i := 1) rfl, cell_of HRb.out (i := 2) rfl, cell_of HRb.out (i := 3) rfl, cell_of HRb.out (i := 4) rfl, cell_of HRb.out (i := 5) rfl, cell_of HRb.out (i := 6) rfl, cell_of HRb.out (i := 7) rfl⟩ (fun hHeldN => ?_)
                clear hK K hHeld
                have hHeld := hHeldN
                clear hHeldN
                try simp only [Act.put, pB, pC, pD]
                generalize (x0.alloc (.cells #[.int .i64 s.k, .int .i64 s.x, .int .i64 s.y, .int .i64 s.z, .int .i64 s.f, .int .i64 s.n] 36)) = x1 at *
                obtain ⟨g2, hg2⟩ : ∃ g, x0.heap.size = g := ⟨_, rfl⟩
                rw [hg2] at HG2 hrl2
                try rw [hg2]
                clear hg2
                refine wpAnyH_ready (rs := [3, 6]) (by kernel_rfl) (by simp) ?_
                refine coH 3 (oi := ?_) ?_ ?_ (fun K hK => ?_) ?_; rotate_left; (simp only [gA, gB, gC]; exact rfl); rfl
                · have hbs := BB.out.size
                  have hrl := lt_of_heap HRb.out
                  refine wp_append_lies _ _ _ 26 rfl w1.heap.size 36 i0 (.agg #[.int .i64 0, .int .i64 0, .int .i64 0, .int .i64 0, .int .i64 0, .int .i64 0]) 6 48 Try.underlying26 hi0 hz0 hz1 hz2 rfl (by decide) _ _ _ rfl HA.out ⟨g2, 0, none⟩ 1 1 [.int .i64 s.k, .int .i64 s.x, .int .i64 s.y, .int .i64 s.z, .int .i64 s.f, .int .i64 s.n] rfl rfl (World.news_of_block (cs := #[.int .i64 s.k, .int .i64 s.x, .int .i64 s.y, .int .i64 s.z, .int .i64 s.f, .int .i64 s.n]) (t := 36) (fr := (0, 0)) HG2.out) (by simp [Value.oneCell']) (by omega) (by unfold maxLen; omega) (by omega) (by omega) _ rfl ?_
                  intro g3 c3 x2 hown hgrow hor hltn
                  replace HQb := Lib.hid (grow_keep2 hgrow HQb.out (fun e => by have := HAQ.out _ e; omega))
                  replace HRb := Lib.hid (grow_keep2 hgrow HRb.out (fun e => by have := HAQ.out _ e; omega))
                  replace HS := Lib.hid (own_grow HS.out hgrow (fun b hb e => hapart b e (by cases hb; rfl)))
                  replace BB := Lib.hid (Below.grown BB.out hgrow (by omega) (fun b hb => (HA.out.lt b hb).1))
                  have hgg : g3 ≠ gS := by
                    rcases hor with h | h
                    · exact hapart g3 h
                    · omega
                  replace HA := Lib.hid hown
                  have hg3l := hltn
                  clear hown hgrow hor hltn hbs hrl HG2
                  refine hK.out _ _ ⟨cell_of HQb.out (i := 0) rfl, cell_of HQb.out (i := 1) rfl, cell_of HQb.out (i := 2) rfl, cell_of HQb.out (i := 3) rfl, cell_of HQb.out (i := 4) rfl, cell_of HQb.out (i := 5) rfl, cell_of HRb.out (i := 0) rfl, cell_of HRb.out (i := 1) rfl, cell_of HRb.out (i := 2) rfl, cell_of HRb.out (i := 3) rfl, cell_of HRb.out (i := 4) rfl, cell_of HRb.out (i := 5) rfl, cell_of HRb.out (i := 6) rfl, cell_of HRb.out (i := 7) rfl⟩ (fun hHeldN => ?_)
                  clear hK K hHeld
                  have hHeld := hHeldN
                  clear hHeldN
                  try simp only [Act.put, pB, pC, pD]
                  refine onH 6 (oi := ?_) (by kernel_rfl) ?_ ?_ (fun K hK => ?_); rotate_left; (simp only [gA, gB, gC]; exact rfl); rfl
                  go_wp2_with (fail)
                  have hb : Below x2.heap.size x2 (x2.alloc (.cells #[.int .i64 m2.x, .int .i64 m2.y, .int .i64 m2.z, .int .i64 m2.s, .int .i64 m2.h, .int .i64 m2.t, .int .i64 m2.f, .bool m2.r] 44)) := (Below.refl _ _).alloc (Nat.le_refl _) _
                  have hrl6 : r2 < x2.heap.size := lt_of_heap HRb.out
                  have HG6 := Lib.hid (heap_alloc_new x2 (.cells #[.int .i64 m2.x, .int .i64 m2.y, .int .i64 m2.z, .int .i64 m2.s, .int .i64 m2.h, .int .i64 m2.t, .int .i64 m2.f, .bool m2.r] 44))
                  replace HA := Lib.hid (ownsRow_below HA.out hb)
                  replace HS := Lib.hid (ownsRow_below HS.out hb)
                  replace HQb := Lib.hid (heap_keep hb HQb.out)
                  replace HRb := Lib.hid (heap_keep hb HRb.out)
                  replace BB := Lib.hid (BB.out.trans (hb.mono BB.out.size))
                  clear hb
                  refine hK.out _ _ ⟨cell_of HQb.out (i := 0) rfl, cell_of HQb.out (i := 1) rfl, cell_of HQb.out (i := 2) rfl, cell_of HQb.out (i := 3) rfl, cell_of HQb.out (i := 4) rfl, cell_of HQb.out (i := 5) rfl, cell_of HRb.out (i := 0) rfl, cell_of HRb.out (i := 1) rfl, cell_of HRb.out (i := 2) rfl, cell_of HRb.out (i := 3) rfl, cell_of HRb.out (i := 4) rfl, cell_of HRb.out (i := 5) rfl, cell_of HRb.out (i := 6) rfl, cell_of HRb.out (i := 7) rfl⟩ (fun hHeldN => ?_)
                  clear hK K hHeld
                  have hHeld := hHeldN
                  clear hHeldN
                  try simp only [Act.put, pB, pC, pD]
                  generalize (x2.alloc (.cells #[.int .i64 m2.x, .int .i64 m2.y, .int .i64 m2.z, .int .i64 m2.s, .int .i64 m2.h, .int .i64 m2.t, .int .i64 m2.f, .bool m2.r] 44)) = x3 at *
                  obtain ⟨g6, hg6⟩ : ∃ g, x2.heap.size = g := ⟨_, rfl⟩
                  rw [hg6] at HG6 hrl6
                  try rw [hg6]
                  clear hg6
                  refine onH 7 (oi := ?_) (by kernel_rfl) ?_ ?_ (fun K hK => ?_); rotate_left; (simp only [gA, gB, gC]; exact rfl); rfl
                  have hbs := BB.out.size
                  have hrl := lt_of_heap HRb.out
                  refine wp_append_lies _ _ _ 50 rfl w1.heap.size 44 i1 (.agg #[.int .i64 0, .int .i64 0, .int .i64 0, .int .i64 0, .int .i64 0, .int .i64 0, .int .i64 0, .bool false]) 8 64 Try.underlying50 hi1 hy0 hy1 hy2 rfl (by decide) _ _ _ rfl HS.out ⟨g6, 0, none⟩ 1 1 [.int .i64 m2.x, .int .i64 m2.y, .int .i64 m2.z, .int .i64 m2.s, .int .i64 m2.h, .int .i64 m2.t, .int .i64 m2.f, .bool m2.r] rfl rfl (World.news_of_block (cs := #[.int .i64 m2.x, .int .i64 m2.y, .int .i64 m2.z, .int .i64 m2.s, .int .i64 m2.h, .int .i64 m2.t, .int .i64 m2.f, .bool m2.r]) (t := 44) (fr := (0, 0)) HG6.out) (by simp [Value.oneCell']) (by omega) (by unfold maxLen; omega) (by omega) (by omega) _ rfl ?_
                  intro g7 c7 x4 hown hgrow hor hltn
                  replace HQb := Lib.hid (grow_keep2 hgrow HQb.out (fun e => by have e2 : gS = _ := Option.some.inj e; omega))
                  replace HRb := Lib.hid (grow_keep2 hgrow HRb.out (fun e => by have e2 : gS = _ := Option.some.inj e; omega))
                  replace BB := Lib.hid (Below.grown BB.out hgrow (by omega) (fun b hb => (HS.out.lt b hb).1))
                  have hgg2 : g3 ≠ g7 := by
                    have h3 := (HA.out.lt g3 rfl).2
                    rcases hor with h | h
                    · have e2 : gS = g7 := Option.some.inj h
                      omega
                    · omega
                  replace HA := Lib.hid (own_grow HA.out hgrow (fun b hb e => by cases hb; exact hgg (Option.some.inj e).symm))
                  replace HS := Lib.hid hown
                  clear hown hgrow hor hltn hbs hrl HG6
                  refine hK.out _ _ ⟨cell_of HQb.out (i := 0) rfl, cell_of HQb.out (i := 1) rfl, cell_of HQb.out (i := 2) rfl, cell_of HQb.out (i := 3) rfl, cell_of HQb.out (i := 4) rfl, cell_of HQb.out (i := 5) rfl, cell_of HRb.out (i := 0) rfl, cell_of HRb.out (i := 1) rfl, cell_of HRb.out (i := 2) rfl, cell_of HRb.out (i := 3) rfl, cell_of HRb.out (i := 4) rfl, cell_of HRb.out (i := 5) rfl, cell_of HRb.out (i := 6) rfl, cell_of HRb.out (i := 7) rfl⟩ (fun hHeldN => ?_)
                  clear hK K hHeld
                  have hHeld := hHeldN
                  clear hHeldN
                  try simp only [Act.put, pB, pC, pD]
                  refine tkH (by assumption) 8 (oi := ?_) (v := ?_) ?_ ?_ ?_ ?_ ?_ ?_ ?_ ?_; rotate_left 2; (simp only [gA, gB, gC]; exact rfl); kernel_rfl; kernel_rfl; kernel_rfl; exact fun _ _ _ h => h; rfl; (intro w' hSw; obtain ⟨s0, s1, s2, s3, s4, s5, d0, d1, d2, d3, d4, d5, d6, d7⟩ := hSw;go_simp; with_reducible rfl); simp only [Act.put, pB, pC, pD]
                  refine tkH (by assumption) 9 (oi := ?_) (v := ?_) ?_ ?_ ?_ ?_ ?_ ?_ ?_ ?_; rotate_left 2; (simp only [gA, gB, gC]; exact rfl); kernel_rfl; kernel_rfl; kernel_rfl; exact fun _ _ _ h => h; rfl; (intro w' hSw; obtain ⟨s0, s1, s2, s3, s4, s5, d0, d1, d2, d3, d4, d5, d6, d7⟩ := hSw;go_simp; with_reducible rfl); simp only [Act.put, pB, pC, pD]
                  refine wpAnyH_done (by kernel_rfl) ?_ _
                  clear hHeld
                  go_wp2_with (fail)
                  go_roundw
                  case rel => exact ⟨k + 1, l ++ [s], some ⟨g3, 0, none⟩, c3, c7, g7, by go_num, by omega, by rw [List.length_append]; rfl, by rw [List.length_append]; rfl, by rw [fold_succ _ _ hlt, HL.out, RS.out, HSHL.out], fun t ht => (List.mem_append.1 ht).elim (HABp.out t) (fun h => by rw [List.mem_singleton.1 h]; exact HTk.out), by rw [List.length_append]; simp; omega, by rw [List.length_append, rowS_app]; exact HA.out, by rw [List.length_append, stL_snoc, rowM_app, show List.foldl aft m00 l = m1 from RM1.out, RM2.out]; exact HS.out, (fun b hb => by cases hb; exact hgg2), BB.out⟩
                  case measure => simp [intOf] <;> omega
                refine coH 6 (oi := ?_) ?_ ?_ (fun K hK => ?_) ?_; rotate_left; (simp only [gA, gB, gC]; exact rfl); rfl
                · go_wp2_with (fail)
                  have hb : Below x1.heap.size x1 (x1.alloc (.cells #[.int .i64 m2.x, .int .i64 m2.y, .int .i64 m2.z, .int .i64 m2.s, .int .i64 m2.h, .int .i64 m2.t, .int .i64 m2.f, .bool m2.r] 44)) := (Below.refl _ _).alloc (Nat.le_refl _) _
                  have hrl6 : r2 < x1.heap.size := lt_of_heap HRb.out
                  have HG6 := Lib.hid (heap_alloc_new x1 (.cells #[.int .i64 m2.x, .int .i64 m2.y, .int .i64 m2.z, .int .i64 m2.s, .int .i64 m2.h, .int .i64 m2.t, .int .i64 m2.f, .bool m2.r] 44))
                  replace HA := Lib.hid (ownsRow_below HA.out hb)
                  replace HS := Lib.hid (ownsRow_below HS.out hb)
                  replace HQb := Lib.hid (heap_keep hb HQb.out)
                  replace HRb := Lib.hid (heap_keep hb HRb.out)
                  replace HG2 := Lib.hid (heap_keep hb HG2.out)
                  replace BB := Lib.hid (BB.out.trans (hb.mono BB.out.size))
                  clear hb
                  refine hK.out _ _ ⟨cell_of HQb.out (i := 0) rfl, cell_of HQb.out (i := 1) rfl, cell_of HQb.out (i := 2) rfl, cell_of HQb.out (i := 3) rfl, cell_of HQb.out (i := 4) rfl, cell_of HQb.out (i := 5) rfl, cell_of HRb.out (i := 0) rfl, cell_of HRb.out (i := 1) rfl, cell_of HRb.out (i := 2) rfl, cell_of HRb.out (i := 3) rfl, cell_of HRb.out (i := 4) rfl, cell_of HRb.out (i := 5) rfl, cell_of HRb.out (i := 6) rfl, cell_of HRb.out (i := 7) rfl⟩ (fun hHeldN => ?_)
                  clear hK K hHeld
                  have hHeld := hHeldN
                  clear hHeldN
                  try simp only [Act.put, pB, pC, pD]
                  generalize (x1.alloc (.cells #[.int .i64 m2.x, .int .i64 m2.y, .int .i64 m2.z, .int .i64 m2.s, .int .i64 m2.h, .int .i64 m2.t, .int .i64 m2.f, .bool m2.r] 44)) = x2 at *
                  obtain ⟨g6, hg6⟩ : ∃ g, x1.heap.size = g := ⟨_, rfl⟩
                  rw [hg6] at HG6 hrl6
                  try rw [hg6]
                  clear hg6
                  refine onH 3 (oi := ?_) (by kernel_rfl) ?_ ?_ (fun K hK => ?_); rotate_left; (simp only [gA, gB, gC]; exact rfl); rfl
                  have hbs := BB.out.size
                  have hrl := lt_of_heap HRb.out
                  refine wp_append_lies _ _ _ 26 rfl w1.heap.size 36 i0 (.agg #[.int .i64 0, .int .i64 0, .int .i64 0, .int .i64 0, .int .i64 0, .int .i64 0]) 6 48 Try.underlying26 hi0 hz0 hz1 hz2 rfl (by decide) _ _ _ rfl HA.out ⟨g2, 0, none⟩ 1 1 [.int .i64 s.k, .int .i64 s.x, .int .i64 s.y, .int .i64 s.z, .int .i64 s.f, .int .i64 s.n] rfl rfl (World.news_of_block (cs := #[.int .i64 s.k, .int .i64 s.x, .int .i64 s.y, .int .i64 s.z, .int .i64 s.f, .int .i64 s.n]) (t := 36) (fr := (0, 0)) HG2.out) (by simp [Value.oneCell']) (by omega) (by unfold maxLen; omega) (by omega) (by omega) _ rfl ?_
                  intro g3 c3 x3 hown hgrow hor hltn
                  replace HQb := Lib.hid (grow_keep2 hgrow HQb.out (fun e => by have := HAQ.out _ e; omega))
                  replace HRb := Lib.hid (grow_keep2 hgrow HRb.out (fun e => by have := HAQ.out _ e; omega))
                  replace HG6 := Lib.hid (grow_keep2 hgrow HG6.out (fun e => by have := HAQ.out _ e; omega))
                  replace HS := Lib.hid (own_grow HS.out hgrow (fun b hb e => hapart b e (by cases hb; rfl)))
                  replace BB := Lib.hid (Below.grown BB.out hgrow (by omega) (fun b hb => (HA.out.lt b hb).1))
                  have hgg : g3 ≠ gS := by
                    rcases hor with h | h
                    · exact hapart g3 h
                    · omega
                  replace HA := Lib.hid hown
                  have hg3l := hltn
                  clear hown hgrow hor hltn hbs hrl HG2
                  refine hK.out _ _ ⟨cell_of HQb.out (i := 0) rfl, cell_of HQb.out (i := 1) rfl, cell_of HQb.out (i := 2) rfl, cell_of HQb.out (i := 3) rfl, cell_of HQb.out (i := 4) rfl, cell_of HQb.out (i := 5) rfl, cell_of HRb.out (i := 0) rfl, cell_of HRb.out (i := 1) rfl, cell_of HRb.out (i := 2) rfl, cell_of HRb.out (i := 3) rfl, cell_of HRb.out (i := 4) rfl, cell_of HRb.out (i := 5) rfl, cell_of HRb.out (i := 6) rfl, cell_of HRb.out (i := 7) rfl⟩ (fun hHeldN => ?_)
                  clear hK K hHeld
                  have hHeld := hHeldN
                  clear hHeldN
                  try simp only [Act.put, pB, pC, pD]
                  refine onH 7 (oi := ?_) (by kernel_rfl) ?_ ?_ (fun K hK => ?_); rotate_left; (simp only [gA, gB, gC]; exact rfl); rfl
                  have hbs := BB.out.size
                  have hrl := lt_of_heap HRb.out
                  refine wp_append_lies _ _ _ 50 rfl w1.heap.size 44 i1 (.agg #[.int .i64 0, .int .i64 0, .int .i64 0, .int .i64 0, .int .i64 0, .int .i64 0, .int .i64 0, .bool false]) 8 64 Try.underlying50 hi1 hy0 hy1 hy2 rfl (by decide) _ _ _ rfl HS.out ⟨g6, 0, none⟩ 1 1 [.int .i64 m2.x, .int .i64 m2.y, .int .i64 m2.z, .int .i64 m2.s, .int .i64 m2.h, .int .i64 m2.t, .int .i64 m2.f, .bool m2.r] rfl rfl (World.news_of_block (cs := #[.int .i64 m2.x, .int .i64 m2.y, .int .i64 m2.z, .int .i64 m2.s, .int .i64 m2.h, .int .i64 m2.t, .int .i64 m2.f, .bool m2.r]) (t := 44) (fr := (0, 0)) HG6.out) (by simp [Value.oneCell']) (by omega) (by unfold maxLen; omega) (by omega) (by omega) _ rfl ?_
                  intro g7 c7 x4 hown hgrow hor hltn
                  replace HQb := Lib.hid (grow_keep2 hgrow HQb.out (fun e => by have e2 : gS = _ := Option.some.inj e; omega))
                  replace HRb := Lib.hid (grow_keep2 hgrow HRb.out (fun e => by have e2 : gS = _ := Option.some.inj e; omega))
                  replace BB := Lib.hid (Below.grown BB.out hgrow (by omega) (fun b hb => (HS.out.lt b hb).1))
                  have hgg2 : g3 ≠ g7 := by
                    have h3 := (HA.out.lt g3 rfl).2
                    rcases hor with h | h
                    · have e2 : gS = g7 := Option.some.inj h
                      omega
                    · omega
                  replace HA := Lib.hid (own_grow HA.out hgrow (fun b hb e => by cases hb; exact hgg (Option.some.inj e).symm))
                  replace HS := Lib.hid hown
                  clear hown hgrow hor hltn hbs hrl HG6
                  refine hK.out _ _ ⟨cell_of HQb.out (i := 0) rfl, cell_of HQb.out (i := 1) rfl, cell_of HQb.out (i := 2) rfl, cell_of HQb.out (i := 3) rfl, cell_of HQb.out (i := 4) rfl, cell_of HQb.out (i := 5) rfl, cell_of HRb.out (i := 0) rfl, cell_of HRb.out (i := 1) rfl, cell_of HRb.out (i := 2) rfl, cell_of HRb.out (i := 3) rfl, cell_of HRb.out (i := 4) rfl, cell_of HRb.out (i := 5) rfl, cell_of HRb.out (i := 6) rfl, cell_of HRb.out (i := 7) rfl⟩ (fun hHeldN => ?_)
                  clear hK K hHeld
                  have hHeld := hHeldN
                  clear hHeldN
                  try simp only [Act.put, pB, pC, pD]
                  refine tkH (by assumption) 8 (oi := ?_) (v := ?_) ?_ ?_ ?_ ?_ ?_ ?_ ?_ ?_; rotate_left 2; (simp only [gA, gB, gC]; exact rfl); kernel_rfl; kernel_rfl; kernel_rfl; exact fun _ _ _ h => h; rfl; (intro w' hSw; obtain ⟨s0, s1, s2, s3, s4, s5, d0, d1, d2, d3, d4, d5, d6, d7⟩ := hSw;go_simp; with_reducible rfl); simp only [Act.put, pB, pC, pD]
                  refine tkH (by assumption) 9 (oi := ?_) (v := ?_) ?_ ?_ ?_ ?_ ?_ ?_ ?_ ?_; rotate_left 2; (simp only [gA, gB, gC]; exact rfl); kernel_rfl; kernel_rfl; kernel_rfl; exact fun _ _ _ h => h; rfl; (intro w' hSw; obtain ⟨s0, s1, s2, s3, s4, s5, d0, d1, d2, d3, d4, d5, d6, d7⟩ := hSw;go_simp; with_reducible rfl); simp only [Act.put, pB, pC, pD]
                  refine wpAnyH_done (by kernel_rfl) ?_ _
                  clear hHeld
                  go_wp2_with (fail)
                  go_roundw
                  case rel => exact ⟨k + 1, l ++ [s], some ⟨g3, 0, none⟩, c3, c7, g7, by go_num, by omega, by rw [List.length_append]; rfl, by rw [List.length_append]; rfl, by rw [fold_succ _ _ hlt, HL.out, RS.out, HSHL.out], fun t ht => (List.mem_append.1 ht).elim (HABp.out t) (fun h => by rw [List.mem_singleton.1 h]; exact HTk.out), by rw [List.length_append]; simp; omega, by rw [List.length_append, rowS_app]; exact HA.out, by rw [List.length_append, stL_snoc, rowM_app, show List.foldl aft m00 l = m1 from RM1.out, RM2.out]; exact HS.out, (fun b hb => by cases hb; exact hgg2), BB.out⟩
                  case measure => simp [intOf] <;> omega
                exact AllReadyH.nil
              refine coH 6 (oi := ?_) ?_ ?_ (fun K hK => ?_) ?_; rotate_left; (simp only [gA, gB, gC]; exact rfl); rfl
              · go_wp2_with (fail)
                have hb : Below x0.heap.size x0 (x0.alloc (.cells #[.int .i64 m2.x, .int .i64 m2.y, .int .i64 m2.z, .int .i64 m2.s, .int .i64 m2.h, .int .i64 m2.t, .int .i64 m2.f, .bool m2.r] 44)) := (Below.refl _ _).alloc (Nat.le_refl _) _
                have hrl6 : r2 < x0.heap.size := lt_of_heap HRb.out
                have HG6 := Lib.hid (heap_alloc_new x0 (.cells #[.int .i64 m2.x, .int .i64 m2.y, .int .i64 m2.z, .int .i64 m2.s, .int .i64 m2.h, .int .i64 m2.t, .int .i64 m2.f, .bool m2.r] 44))
                replace HA := Lib.hid (ownsRow_below HA.out hb)
                replace HS := Lib.hid (ownsRow_below HS.out hb)
                replace HQb := Lib.hid (heap_keep hb HQb.out)
                replace HRb := Lib.hid (heap_keep hb HRb.out)
                replace BB := Lib.hid (BB.out.trans (hb.mono BB.out.size))
                clear hb
                refine hK.out _ _ ⟨cell_of HQb.out (i := 0) rfl, cell_of HQb.out (i := 1) rfl, cell_of HQb.out (i := 2) rfl, cell_of HQb.out (i := 3) rfl, cell_of HQb.out (i := 4) rfl, cell_of HQb.out (i := 5) rfl, cell_of HRb.out (i := 0) rfl, cell_of HRb.out (i := 1) rfl, cell_of HRb.out (i := 2) rfl, cell_of HRb.out (i := 3) rfl, cell_of HRb.out (i := 4) rfl, cell_of HRb.out (i := 5) rfl, cell_of HRb.out (i := 6) rfl, cell_of HRb.out (i := 7) rfl⟩ (fun hHeldN => ?_)
                clear hK K hHeld
                have hHeld := hHeldN
                clear hHeldN
                try simp only [Act.put, pB, pC, pD]
                generalize (x0.alloc (.cells #[.int .i64 m2.x, .int .i64 m2.y, .int .i64 m2.z, .int .i64 m2.s, .int .i64 m2.h, .int .i64 m2.t, .int .i64 m2.f, .bool m2.r] 44)) = x1 at *
                obtain ⟨g6, hg6⟩ : ∃ g, x0.heap.size = g := ⟨_, rfl⟩
                rw [hg6] at HG6 hrl6
                try rw [hg6]
                clear hg6
                refine onH 2 (oi := ?_) (by kernel_rfl) ?_ ?_ (fun K hK => ?_); rotate_left; (simp only [gA, gB, gC]; exact rfl); rfl
                go_wp2_with (fail)
                have hb : Below x1.heap.size x1 (x1.alloc (.cells #[.int .i64 s.k, .int .i64 s.x, .int .i64 s.y, .int .i64 s.z, .int .i64 s.f, .int .i64 s.n] 36)) := (Below.refl _ _).alloc (Nat.le_refl _) _
                have hrl2 : r2 < x1.heap.size := lt_of_heap HRb.out
                have HG2 := Lib.hid (heap_alloc_new x1 (.cells #[.int .i64 s.k, .int .i64 s.x, .int .i64 s.y, .int .i64 s.z, .int .i64 s.f, .int .i64 s.n] 36))
                replace HA := Lib.hid (ownsRow_below HA.out hb)
                replace HS := Lib.hid (ownsRow_below HS.out hb)
                replace HQb := Lib.hid (heap_keep hb HQb.out)
                replace HRb := Lib.hid (heap_keep hb HRb.out)
                replace HG6 := Lib.hid (heap_keep hb HG6.out)
                replace BB := Lib.hid (BB.out.trans (hb.mono BB.out.size))
                clear hb
                refine hK.out _ _ ⟨cell_of HQb.out (i := 0) rfl, cell_of HQb.out (i := 1) rfl, cell_of HQb.out (i := 2) rfl, cell_of HQb.out (i := 3) rfl, cell_of HQb.out (i := 4) rfl, cell_of HQb.out (i := 5) rfl, cell_of HRb.out (i := 0) rfl, cell_of HRb.out (i := 1) rfl, cell_of HRb.out (i := 2) rfl, cell_of HRb.out (i := 3) rfl, cell_of HRb.out (i := 4) rfl, cell_of HRb.out (i := 5) rfl, cell_of HRb.out (i := 6) rfl, cell_of HRb.out (i := 7) rfl⟩ (fun hHeldN => ?_)
                clear hK K hHeld
                have hHeld := hHeldN
                clear hHeldN
                try simp only [Act.put, pB, pC, pD]
                generalize (x1.alloc (.cells #[.int .i64 s.k, .int .i64 s.x, .int .i64 s.y, .int .i64 s.z, .int .i64 s.f, .int .i64 s.n] 36)) = x2 at *
                obtain ⟨g2, hg2⟩ : ∃ g, x1.heap.size = g := ⟨_, rfl⟩
                rw [hg2] at HG2 hrl2
                try rw [hg2]
                clear hg2
                refine onH 3 (oi := ?_) (by kernel_rfl) ?_ ?_ (fun K hK => ?_); rotate_left; (simp only [gA, gB, gC]; exact rfl); rfl
                have hbs := BB.out.size
                have hrl := lt_of_heap HRb.out
                refine wp_append_lies _ _ _ 26 rfl w1.heap.size 36 i0 (.agg #[.int .i64 0, .int .i64 0, .int .i64 0, .int .i64 0, .int .i64 0, .int .i64 0]) 6 48 Try.underlying26 hi0 hz0 hz1 hz2 rfl (by decide) _ _ _ rfl HA.out ⟨g2, 0, none⟩ 1 1 [.int .i64 s.k, .int .i64 s.x, .int .i64 s.y, .int .i64 s.z, .int .i64 s.f, .int .i64 s.n] rfl rfl (World.news_of_block (cs := #[.int .i64 s.k, .int .i64 s.x, .int .i64 s.y, .int .i64 s.z, .int .i64 s.f, .int .i64 s.n]) (t := 36) (fr := (0, 0)) HG2.out) (by simp [Value.oneCell']) (by omega) (by unfold maxLen; omega) (by omega) (by omega) _ rfl ?_
                intro g3 c3 x3 hown hgrow hor hltn
                replace HQb := Lib.hid (grow_keep2 hgrow HQb.out (fun e => by have := HAQ.out _ e; omega))
                replace HRb := Lib.hid (grow_keep2 hgrow HRb.out (fun e => by have := HAQ.out _ e; omega))
                replace HG6 := Lib.hid (grow_keep2 hgrow HG6.out (fun e => by have := HAQ.out _ e; omega))
                replace HS := Lib.hid (own_grow HS.out hgrow (fun b hb e => hapart b e (by cases hb; rfl)))
                replace BB := Lib.hid (Below.grown BB.out hgrow (by omega) (fun b hb => (HA.out.lt b hb).1))
                have hgg : g3 ≠ gS := by
                  rcases hor with h | h
                  · exact hapart g3 h
                  · omega
                replace HA := Lib.hid hown
                have hg3l := hltn
                clear hown hgrow hor hltn hbs hrl HG2
                refine hK.out _ _ ⟨cell_of HQb.out (i := 0) rfl, cell_of HQb.out (i := 1) rfl, cell_of HQb.out (i := 2) rfl, cell_of HQb.out (i := 3) rfl, cell_of HQb.out (i := 4) rfl, cell_of HQb.out (i := 5) rfl, cell_of HRb.out (i := 0) rfl, cell_of HRb.out (i := 1) rfl, cell_of HRb.out (i := 2) rfl, cell_of HRb.out (i := 3) rfl, cell_of HRb.out (i := 4) rfl, cell_of HRb.out (i := 5) rfl, cell_of HRb.out (i := 6) rfl, cell_of HRb.out (i := 7) rfl⟩ (fun hHeldN => ?_)
                clear hK K hHeld
                have hHeld := hHeldN
                clear hHeldN
                try simp only [Act.put, pB, pC, pD]
                refine onH 7 (oi := ?_) (by kernel_rfl) ?_ ?_ (fun K hK => ?_); rotate_left; (simp only [gA, gB, gC]; exact rfl); rfl
                have hbs := BB.out.size
                have hrl := lt_of_heap HRb.out
                refine wp_append_lies _ _ _ 50 rfl w1.heap.size 44 i1 (.agg #[.int .i64 0, .int .i64 0, .int .i64 0, .int .i64 0, .int .i64 0, .int .i64 0, .int .i64 0, .bool false]) 8 64 Try.underlying50 hi1 hy0 hy1 hy2 rfl (by decide) _ _ _ rfl HS.out ⟨g6, 0, none⟩ 1 1 [.int .i64 m2.x, .int .i64 m2.y, .int .i64 m2.z, .int .i64 m2.s, .int .i64 m2.h, .int .i64 m2.t, .int .i64 m2.f, .bool m2.r] rfl rfl (World.news_of_block (cs := #[.int .i64 m2.x, .int .i64 m2.y, .int .i64 m2.z, .int .i64 m2.s, .int .i64 m2.h, .int .i64 m2.t, .int .i64 m2.f, .bool m2.r]) (t := 44) (fr := (0, 0)) HG6.out) (by simp [Value.oneCell']) (by omega) (by unfold maxLen; omega) (by omega) (by omega) _ rfl ?_
                intro g7 c7 x4 hown hgrow hor hltn
                replace HQb := Lib.hid (grow_keep2 hgrow HQb.out (fun e => by have e2 : gS = _ := Option.some.inj e; omega))
                replace HRb := Lib.hid (grow_keep2 hgrow HRb.out (fun e => by have e2 : gS = _ := Option.some.inj e; omega))
                replace BB := Lib.hid (Below.grown BB.out hgrow (by omega) (fun b hb => (HS.out.lt b hb).1))
                have hgg2 : g3 ≠ g7 := by
                  have h3 := (HA.out.lt g3 rfl).2
                  rcases hor with h | h
                  · have e2 : gS = g7 := Option.some.inj h
                    omega
                  · omega
                replace HA := Lib.hid (own_grow HA.out hgrow (fun b hb e => by cases hb; exact hgg (Option.some.inj e).symm))
                replace HS := Lib.hid hown
                clear hown hgrow hor hltn hbs hrl HG6
                refine hK.out _ _ ⟨cell_of HQb.out (i := 0) rfl, cell_of HQb.out (i := 1) rfl, cell_of HQb.out (i := 2) rfl, cell_of HQb.out (i := 3) rfl, cell_of HQb.out (i := 4) rfl, cell_of HQb.out (i := 5) rfl, cell_of HRb.out (i := 0) rfl, cell_of HRb.out (i := 1) rfl, cell_of HRb.out (i := 2) rfl, cell_of HRb.out (i := 3) rfl, cell_of HRb.out (i := 4) rfl, cell_of HRb.out (i := 5) rfl, cell_of HRb.out (i := 6) rfl, cell_of HRb.out (i := 7) rfl⟩ (fun hHeldN => ?_)
                clear hK K hHeld
                have hHeld := hHeldN
                clear hHeldN
                try simp only [Act.put, pB, pC, pD]
                refine tkH (by assumption) 8 (oi := ?_) (v := ?_) ?_ ?_ ?_ ?_ ?_ ?_ ?_ ?_; rotate_left 2; (simp only [gA, gB, gC]; exact rfl); kernel_rfl; kernel_rfl; kernel_rfl; exact fun _ _ _ h => h; rfl; (intro w' hSw; obtain ⟨s0, s1, s2, s3, s4, s5, d0, d1, d2, d3, d4, d5, d6, d7⟩ := hSw;go_simp; with_reducible rfl); simp only [Act.put, pB, pC, pD]
                refine tkH (by assumption) 9 (oi := ?_) (v := ?_) ?_ ?_ ?_ ?_ ?_ ?_ ?_ ?_; rotate_left 2; (simp only [gA, gB, gC]; exact rfl); kernel_rfl; kernel_rfl; kernel_rfl; exact fun _ _ _ h => h; rfl; (intro w' hSw; obtain ⟨s0, s1, s2, s3, s4, s5, d0, d1, d2, d3, d4, d5, d6, d7⟩ := hSw;go_simp; with_reducible rfl); simp only [Act.put, pB, pC, pD]
                refine wpAnyH_done (by kernel_rfl) ?_ _
                clear hHeld
                go_wp2_with (fail)
                go_roundw
                case rel => exact ⟨k + 1, l ++ [s], some ⟨g3, 0, none⟩, c3, c7, g7, by go_num, by omega, by rw [List.length_append]; rfl, by rw [List.length_append]; rfl, by rw [fold_succ _ _ hlt, HL.out, RS.out, HSHL.out], fun t ht => (List.mem_append.1 ht).elim (HABp.out t) (fun h => by rw [List.mem_singleton.1 h]; exact HTk.out), by rw [List.length_append]; simp; omega, by rw [List.length_append, rowS_app]; exact HA.out, by rw [List.length_append, stL_snoc, rowM_app, show List.foldl aft m00 l = m1 from RM1.out, RM2.out]; exact HS.out, (fun b hb => by cases hb; exact hgg2), BB.out⟩
                case measure => simp [intOf] <;> omega
              exact AllReadyH.nil
          · have HPOP := Lib.hid (popL_yes (p := lp) hvp)
            have ew : IntKind.i64.wrap ((lp.length : Int) + 1) = (lp.length : Int) + 1 := i64w (by omega)
            have ec1 : (lp.length : Int) ≤ (cA : Int) := by omega
            have ec2 : (lp.length : Int) + 1 ≤ (cS : Int) := by omega
            have ec3 : (0 : Int) ≤ (lp.length : Int) + 1 := by omega
            clear hvp
            go_wp2_with (fail)
            go_quiet (fail)
            have hb2 : Below w'.heap.size w' (w'.drewN nq) := bdrewN (Below.refl _ _) _
            have HSq := Lib.hid (heap_keep hb2 HS1x.out)
            have HOA := Lib.hid (ownsRow_below (by have h := own_take (n' := lp.length) HOAx.out (by omega) (by omega); rw [rowS_take] at h; exact h) hb2)
            have HOS := Lib.hid (ownsRow_below (by have h := own_take (n' := lp.length + 1) HOSx.out (by omega) (by omega); rw [rowM_stL_take] at h; exact h) hb2)
            have B2 := Lib.hid (BX.out.trans (hb2.mono BX.out.size))
            have HABp := Lib.hid (fun (t : St) (ht : t ∈ lp) => HABl.out t (List.mem_append_left _ ht))
            clear hb2 HS1x HOAx HOSx BX ew ec1 ec2 ec3 hp0 hp1
            generalize (w'.drewN nq) = w2 at *
            have HABL := Lib.hid (abm_list HABp.out)
            obtain ⟨m1, hm1⟩ : ∃ m1, runL lp = m1 := ⟨_, rfl⟩
            have RM1 := Lib.hid hm1
            have hst : ∀ j, j < 8 → w2.cell? ⟨gS, lp.length * 8 + j, none⟩ = (mV m1)[j]? := fun j hj => by
              rw [HOS.out.cellAt (lp.length * 8 + j) (by omega), rowM_get (by rw [stL_len]; omega) hj, stL_last]
              show (mV (runL lp))[j]? = _
              rw [hm1]
            have d0 : w2.cell? ⟨gS, lp.length * 8, none⟩ = some (.int .i64 m1.x) := hst 0 (by omega)
            have d1 : w2.cell? ⟨gS, lp.length * 8 + 1, none⟩ = some (.int .i64 m1.y) := hst 1 (by omega)
            have d2 : w2.cell? ⟨gS, lp.length * 8 + 2, none⟩ = some (.int .i64 m1.z) := hst 2 (by omega)
            have d3 : w2.cell? ⟨gS, lp.length * 8 + 3, none⟩ = some (.int .i64 m1.s) := hst 3 (by omega)
            have d4 : w2.cell? ⟨gS, lp.length * 8 + 4, none⟩ = some (.int .i64 m1.h) := hst 4 (by omega)
            have d5 : w2.cell? ⟨gS, lp.length * 8 + 5, none⟩ = some (.int .i64 m1.t) := hst 5 (by omega)
            have d6 : w2.cell? ⟨gS, lp.length * 8 + 6, none⟩ = some (.int .i64 m1.f) := hst 6 (by omega)
            have d7 : w2.cell? ⟨gS, lp.length * 8 + 7, none⟩ = some (.bool m1.r) := hst 7 (by omega)
            rw [hm1] at HABL
            have hgSl := (HOS.out.lt gS rfl).2
            have hlp0 : (0 : Int) ≤ (lp.length : Int) := by omega
            have hlp1 : (lp.length : Int) < (lp.length : Int) + 1 := by omega
            clear hst hm1
            have hq2 := lt_of_heap HSq.out
            have s0 : w2.cell? ⟨q, 0, none⟩ = some (.int .i64 s.k) := cell_of HSq.out (i := 0) rfl
            have s1 : w2.cell? ⟨q, 1, none⟩ = some (.int .i64 s.x) := cell_of HSq.out (i := 1) rfl
            have s2 : w2.cell? ⟨q, 2, none⟩ = some (.int .i64 s.y) := cell_of HSq.out (i := 2) rfl
            have s3 : w2.cell? ⟨q, 3, none⟩ = some (.int .i64 s.z) := cell_of HSq.out (i := 3) rfl
            have s4 : w2.cell? ⟨q, 4, none⟩ = some (.int .i64 s.f) := cell_of HSq.out (i := 4) rfl
            have s5 : w2.cell? ⟨q, 5, none⟩ = some (.int .i64 s.n) := cell_of HSq.out (i := 5) rfl
            go_wp2_with (fail)
            have hb3 : Below w2.heap.size w2 (w2.alloc (.cells #[.int .i64 m1.x, .int .i64 m1.y, .int .i64 m1.z, .int .i64 m1.s, .int .i64 m1.h, .int .i64 m1.t, .int .i64 m1.f, .bool m1.r] 44)) := (Below.refl _ _).alloc (Nat.le_refl _) _
            have HN1 := Lib.hid (heap_alloc_new w2 (.cells #[.int .i64 m1.x, .int .i64 m1.y, .int .i64 m1.z, .int .i64 m1.s, .int .i64 m1.h, .int .i64 m1.t, .int .i64 m1.f, .bool m1.r] 44))
            have B3 := Lib.hid (B2.out.trans (hb3.mono (by have := B2.out.size; omega)))
            have HSq3 := Lib.hid (heap_keep hb3 HSq.out)
            have HOA3 := Lib.hid (ownsRow_below HOA.out hb3)
            have HOS3 := Lib.hid (ownsRow_below HOS.out hb3)
            clear hb3 d0 d1 d2 d3 d4 d5 d6 d7 s0 s1 s2 s3 s4 s5
            generalize (w2.alloc (.cells #[.int .i64 m1.x, .int .i64 m1.y, .int .i64 m1.z, .int .i64 m1.s, .int .i64 m1.h, .int .i64 m1.t, .int .i64 m1.f, .bool m1.r] 44)) = w3 at *
            obtain ⟨r1, hr1⟩ : ∃ r, w2.heap.size = r := ⟨_, rfl⟩
            rw [hr1] at HN1
            try rw [hr1]
            have HR1 := Lib.hid hr1
            clear hr1
            refine (done_fit m1 s _ HTk.out.k (HABL.out.fit HTk.out (by omega))).mono ?_
            rintro e w4 ⟨rfl, hb4⟩
            obtain ⟨m2, hm2⟩ : ∃ m2, aft m1 s = m2 := ⟨_, rfl⟩
            have RM2 := Lib.hid hm2
            rw [hm2]
            clear hm2
            have HN14 := Lib.hid (heap_keep hb4 HN1.out)
            have HSq4 := Lib.hid (heap_keep hb4 HSq3.out)
            have HOA4 := Lib.hid (ownsRow_below HOA3.out hb4)
            have HOS4 := Lib.hid (ownsRow_below HOS3.out hb4)
            have B4 := Lib.hid (B3.out.trans (hb4.mono (by have := B3.out.size; omega)))
            have hr14 := lt_of_heap HN14.out
            have hq4 := lt_of_heap HSq4.out
            clear hb4 HN1 HSq3 HOA3 HOS3 B3
            have hb5 : Below w4.heap.size w4 (w4.alloc (.cells #[.int .i64 m2.x, .int .i64 m2.y, .int .i64 m2.z, .int .i64 m2.s, .int .i64 m2.h, .int .i64 m2.t, .int .i64 m2.f, .bool m2.r] 44)) := (Below.refl _ _).alloc (Nat.le_refl _) _
            have HN2 := Lib.hid (heap_alloc_new w4 (.cells #[.int .i64 m2.x, .int .i64 m2.y, .int .i64 m2.z, .int .i64 m2.s, .int .i64 m2.h, .int .i64 m2.t, .int .i64 m2.f, .bool m2.r] 44))
            have HSq5 := Lib.hid (heap_keep hb5 HSq4.out)
            have HOA5 := Lib.hid (ownsRow_below HOA4.out hb5)
            have HOS5 := Lib.hid (ownsRow_below HOS4.out hb5)
            have B5 := Lib.hid (B4.out.trans (hb5.mono (by have := B4.out.size; omega)))
            clear hb5
            have d0 : w4.cell? ⟨r1, 0, none⟩ = some (.int .i64 m1.x) := cell_of HN14.out (i := 0) rfl
            have d1 : w4.cell? ⟨r1, 1, none⟩ = some (.int .i64 m1.y) := cell_of HN14.out (i := 1) rfl
            have d2 : w4.cell? ⟨r1, 2, none⟩ = some (.int .i64 m1.z) := cell_of HN14.out (i := 2) rfl
            have d3 : w4.cell? ⟨r1, 3, none⟩ = some (.int .i64 m1.s) := cell_of HN14.out (i := 3) rfl
            have d4 : w4.cell? ⟨r1, 4, none⟩ = some (.int .i64 m1.h) := cell_of HN14.out (i := 4) rfl
            have d5 : w4.cell? ⟨r1, 5, none⟩ = some (.int .i64 m1.t) := cell_of HN14.out (i := 5) rfl
            have d6 : w4.cell? ⟨r1, 6, none⟩ = some (.int .i64 m1.f) := cell_of HN14.out (i := 6) rfl
            have d7 : w4.cell? ⟨r1, 7, none⟩ = some (.bool m1.r) := cell_of HN14.out (i := 7) rfl
            have s0 : w4.cell? ⟨q, 0, none⟩ = some (.int .i64 s.k) := cell_of HSq4.out (i := 0) rfl
            have s1 : w4.cell? ⟨q, 1, none⟩ = some (.int .i64 s.x) := cell_of HSq4.out (i := 1) rfl
            have s2 : w4.cell? ⟨q, 2, none⟩ = some (.int .i64 s.y) := cell_of HSq4.out (i := 2) rfl
            have s3 : w4.cell? ⟨q, 3, none⟩ = some (.int .i64 s.z) := cell_of HSq4.out (i := 3) rfl
            have s4 : w4.cell? ⟨q, 4, none⟩ = some (.int .i64 s.f) := cell_of HSq4.out (i := 4) rfl
            have s5 : w4.cell? ⟨q, 5, none⟩ = some (.int .i64 s.n) := cell_of HSq4.out (i := 5) rfl
            have hE := fun wx => neq_ma m2 m1 wx
            obtain ⟨vb, hvb⟩ : ∃ vb, (!decide (m2 = m1)) = vb := ⟨_, rfl⟩
            rw [hvb] at hE
            have HVB := Lib.hid hvb
            have hG := gd_ma
            clear hvb
            rcases vb with _ | _
            · have hid : aft (runL lp) s = runL lp := by rw [RM1.out, RM2.out]; have := HVB.out; simpa using this
              go_wp2_with (fail)
              generalize (w4.alloc (.cells #[.int .i64 m2.x, .int .i64 m2.y, .int .i64 m2.z, .int .i64 m2.s, .int .i64 m2.h, .int .i64 m2.t, .int .i64 m2.f, .bool m2.r] 44)) = w5 at *
              refine (takesTime_any s _).mono ?_
              rintro e w6 ⟨rfl, hb6⟩
              have HSq6 := Lib.hid (heap_keep hb6 HSq5.out)
              have HN26 := Lib.hid (heap_keep hb6 HN2.out)
              have HOA6 := Lib.hid (ownsRow_below HOA5.out hb6)
              have HOS6 := Lib.hid (ownsRow_below HOS5.out hb6)
              have B6 := Lib.hid (B5.out.trans (hb6.mono (by have := B5.out.size; omega)))
              clear hb6
              rcases htb : timeB s with _ | _
              · have HSHL : Hid (shL (lp ++ [u]) s = lp) := Lib.hid (by unfold shL; rw [HPOP.out, if_pos ⟨hid, htb⟩])
                clear htb
                go_wp2_with (fail)
                go_roundw
                case rel => exact ⟨k + 1, lp, (some ⟨gT, 0, none⟩), cA, cS, gS, by go_num, by omega, rfl, rfl, by rw [fold_succ _ _ hlt, HL.out, RS.out, HSHL.out], HABp.out, by omega, HOA6.out, HOS6.out, hapart, B6.out⟩
                case measure => simp [intOf] <;> omega
              · have HSHL : Hid (shL (lp ++ [u]) s = lp ++ [s]) := Lib.hid (by unfold shL; rw [HPOP.out, if_neg (fun h => by rw [htb] at h; cases h.2)])
                clear htb
                go_wp2_with (fail)
                obtain ⟨r2, hr2⟩ : ∃ r, w4.heap.size = r := ⟨_, rfl⟩
                rw [hr2] at HN26
                try rw [hr2]
                have hqr : q < r2 := by omega
                have HA := HOA6
                have HS := HOS6
                have HQb := HSq6
                have HRb := HN26
                have BB := B6
                clear HOA6 HOS6 HSq6 HN26 B6 hr2
                refine wp_region_held_drew (S := (fun w' => w'.cell? ⟨q, 0, none⟩ = some (.int .i64 s.k) ∧ w'.cell? ⟨q, 1, none⟩ = some (.int .i64 s.x) ∧ w'.cell? ⟨q, 2, none⟩ = some (.int .i64 s.y) ∧ w'.cell? ⟨q, 3, none⟩ = some (.int .i64 s.z) ∧ w'.cell? ⟨q, 4, none⟩ = some (.int .i64 s.f) ∧ w'.cell? ⟨q, 5, none⟩ = some (.int .i64 s.n) ∧ w'.cell? ⟨r2, 0, none⟩ = some (.int .i64 m2.x) ∧ w'.cell? ⟨r2, 1, none⟩ = some (.int .i64 m2.y) ∧ w'.cell? ⟨r2, 2, none⟩ = some (.int .i64 m2.z) ∧ w'.cell? ⟨r2, 3, none⟩ = some (.int .i64 m2.s) ∧ w'.cell? ⟨r2, 4, none⟩ = some (.int .i64 m2.h) ∧ w'.cell? ⟨r2, 5, none⟩ = some (.int .i64 m2.t) ∧ w'.cell? ⟨r2, 6, none⟩ = some (.int .i64 m2.f) ∧ w'.cell? ⟨r2, 7, none⟩ = some (.bool m2.r))) (by kernel_rfl) ⟨cell_of HQb.out (i := 0) rfl, cell_of HQb.out (i := 1) rfl, cell_of HQb.out (i := 2) rfl, cell_of HQb.out (i := 3) rfl, cell_of HQb.out (i := 4) rfl, cell_of HQb.out (i := 5) rfl, cell_of HRb.out (i := 0) rfl, cell_of HRb.out (i := 1) rfl, cell_of HRb.out (i := 2) rfl, cell_of HRb.out (i := 3) rfl, cell_of HRb.out (i := 4) rfl, cell_of HRb.out (i := 5) rfl, cell_of HRb.out (i := 6) rfl, cell_of HRb.out (i := 7) rfl⟩ (fun hHeld => ?_)
                refine tkH (by assumption) 0 (oi := ?_) (v := ?_) ?_ ?_ ?_ ?_ ?_ ?_ ?_ ?_; rotate_left 2; (simp only [gA, gB, gC]; exact rfl); kernel_rfl; kernel_rfl; kernel_rfl; exact fun _ _ _ h => h; rfl; (intro w' hSw; obtain ⟨s0, s1, s2, s3, s4, s5, d0, d1, d2, d3, d4, d5, d6, d7⟩ := hSw;go_simp; with_reducible rfl); simp only [Act.put, pB, pC, pD]
                refine tkH (by assumption) 1 (oi := ?_) (v := ?_) ?_ ?_ ?_ ?_ ?_ ?_ ?_ ?_; rotate_left 2; (simp only [gA, gB, gC]; exact rfl); kernel_rfl; kernel_rfl; kernel_rfl; exact fun _ _ _ h => h; rfl; (intro w' hSw; obtain ⟨s0, s1, s2, s3, s4, s5, d0, d1, d2, d3, d4, d5, d6, d7⟩ := hSw;go_simp; with_reducible rfl); simp only [Act.put, pB, pC, pD]
                refine tkH (by assumption) 4 (oi := ?_) (v := ?_) ?_ ?_ ?_ ?_ ?_ ?_ ?_ ?_; rotate_left 2; (simp only [gA, gB, gC]; exact rfl); kernel_rfl; kernel_rfl; kernel_rfl; exact fun _ _ _ h => h; rfl; (intro w' hSw; obtain ⟨s0, s1, s2, s3, s4, s5, d0, d1, d2, d3, d4, d5, d6, d7⟩ := hSw;go_simp; with_reducible rfl); simp only [Act.put, pB, pC, pD]
                refine tkH (by assumption) 5 (oi := ?_) (v := ?_) ?_ ?_ ?_ ?_ ?_ ?_ ?_ ?_; rotate_left 2; (simp only [gA, gB, gC]; exact rfl); kernel_rfl; kernel_rfl; kernel_rfl; exact fun _ _ _ h => h; rfl; (intro w' hSw; obtain ⟨s0, s1, s2, s3, s4, s5, d0, d1, d2, d3, d4, d5, d6, d7⟩ := hSw;go_simp; with_reducible rfl); simp only [Act.put, pB, pC, pD]
                have hbd : Below w6.heap.size w6 w6.drew := Below.drew (Below.refl _ _)
                replace HA := Lib.hid (ownsRow_below HA.out hbd)
                replace HS := Lib.hid (ownsRow_below HS.out hbd)
                replace HQb := Lib.hid (heap_keep hbd HQb.out)
                replace HRb := Lib.hid (heap_keep hbd HRb.out)
                replace BB := Lib.hid (BB.out.trans (hbd.mono BB.out.size))
                clear hbd
                generalize w6.drew = x0 at *
                refine wpAnyH_ready (rs := [2, 6]) (by kernel_rfl) (by simp) ?_
                refine coH 2 (oi := ?_) ?_ ?_ (fun K hK => ?_) ?_; rotate_left; (simp only [gA, gB, gC]; exact rfl); rfl
                · go_wp2_with (fail)
                  have hb : Below x0.heap.size x0 (x0.alloc (.cells #[.int .i64 s.k, .int .i64 s.x, .int .i64 s.y, .int .i64 s.z, .int .i64 s.f, .int .i64 s.n] 36)) := (Below.refl _ _).alloc (Nat.le_refl _) _
                  have hrl2 : r2 < x0.heap.size := lt_of_heap HRb.out
                  have HG2 := Lib.hid (heap_alloc_new x0 (.cells #[.int .i64 s.k, .int .i64 s.x, .int .i64 s.y, .int .i64 s.z, .int .i64 s.f, .int .i64 s.n] 36))
                  replace HA := Lib.hid (ownsRow_below HA.out hb)
                  replace HS := Lib.hid (ownsRow_below HS.out hb)
                  replace HQb := Lib.hid (heap_keep hb HQb.out)
                  replace HRb := Lib.hid (heap_keep hb HRb.out)
                  replace BB := Lib.hid (BB.out.trans (hb.mono BB.out.size))
                  clear hb
                  refine hK.out _ _ ⟨cell_of HQb.out (i := 0) rfl, cell_of HQb.out (i := 1) rfl, cell_of HQb.out (i := 2) rfl, cell_of HQb.out (i := 3) rfl, cell_of HQb.out (i := 4) rfl, cell_of HQb.out (i := 5) rfl, cell_of HRb.out (i := 0) rfl, cell_of HRb.out (i := 1) rfl, cell_of HRb.out (i := 2) rfl, cell_of HRb.out (i := 3) rfl, cell_of HRb.out (i := 4) rfl, cell_of HRb.out (i := 5) rfl, cell_of HRb.out (i := 6) rfl, cell_of HRb.out (i := 7) rfl⟩ (fun hHeldN => ?_)
                  clear hK K hHeld
                  have hHeld := hHeldN
                  clear hHeldN
                  try simp only [Act.put, pB, pC, pD]
                  generalize (x0.alloc (.cells #[.int .i64 s.k, .int .i64 s.x, .int .i64 s.y, .int .i64 s.z, .int .i64 s.f, .int .i64 s.n] 36)) = x1 at *
                  obtain ⟨g2, hg2⟩ : ∃ g, x0.heap.size = g := ⟨_, rfl⟩
                  rw [hg2] at HG2 hrl2
                  try rw [hg2]
                  clear hg2
                  refine wpAnyH_ready (rs := [3, 6]) (by kernel_rfl) (by simp) ?_
                  refine coH 3 (oi := ?_) ?_ ?_ (fun K hK => ?_) ?_; rotate_left; (simp only [gA, gB, gC]; exact rfl); rfl
                  · have hbs := BB.out.size
                    have hrl := lt_of_heap HRb.out
                    refine wp_append_lies _ _ _ 26 rfl w1.heap.size 36 i0 (.agg #[.int .i64 0, .int .i64 0, .int .i64 0, .int .i64 0, .int .i64 0, .int .i64 0]) 6 48 Try.underlying26 hi0 hz0 hz1 hz2 rfl (by decide) _ _ _ rfl HA.out ⟨g2, 0, none⟩ 1 1 [.int .i64 s.k, .int .i64 s.x, .int .i64 s.y, .int .i64 s.z, .int .i64 s.f, .int .i64 s.n] rfl rfl (World.news_of_block (cs := #[.int .i64 s.k, .int .i64 s.x, .int .i64 s.y, .int .i64 s.z, .int .i64 s.f, .int .i64 s.n]) (t := 36) (fr := (0, 0)) HG2.out) (by simp [Value.oneCell']) (by omega) (by unfold maxLen; omega) (by omega) (by omega) _ rfl ?_
                    intro g3 c3 x2 hown hgrow hor hltn
                    replace HQb := Lib.hid (grow_keep2 hgrow HQb.out (fun e => by have := HAQ.out _ e; omega))
                    replace HRb := Lib.hid (grow_keep2 hgrow HRb.out (fun e => by have := HAQ.out _ e; omega))
                    replace HS := Lib.hid (own_grow HS.out hgrow (fun b hb e => hapart b e (by cases hb; rfl)))
                    replace BB := Lib.hid (Below.grown BB.out hgrow (by omega) (fun b hb => (HA.out.lt b hb).1))
                    have hgg : g3 ≠ gS := by
                      rcases hor with h | h
                      · exact hapart g3 h
                      · omega
                    replace HA := Lib.hid hown
                    have hg3l := hltn
                    clear hown hgrow hor hltn hbs hrl HG2
                    refine hK.out _ _ ⟨cell_of HQb.out (i := 0) rfl, cell_of HQb.out (i := 1) rfl, cell_of HQb.out (i := 2) rfl, cell_of HQb.out (i := 3) rfl, cell_of HQb.out (i := 4) rfl, cell_of HQb.out (i := 5) rfl, cell_of HRb.out (i := 0) rfl, cell_of HRb.out (i := 1) rfl, cell_of HRb.out (i := 2) rfl, cell_of HRb.out (i := 3) rfl, cell_of HRb.out (i := 4) rfl, cell_of HRb.out (i := 5) rfl, cell_of HRb.out (i := 6) rfl, cell_of HRb.out (i := 7) rfl⟩ (fun hHeldN => ?_)
                    clear hK K hHeld
                    have hHeld := hHeldN
                    clear hHeldN
                    try simp only [Act.put, pB, pC, pD]
                    refine onH 6 (oi := ?_) (by kernel_rfl) ?_ ?_ (fun K hK => ?_); rotate_left; (simp only [gA, gB, gC]; exact rfl); rfl
                    go_wp2_with (fail)
                    have hb : Below x2.heap.size x2 (x2.alloc (.cells #[.int .i64 m2.x, .int .i64 m2.y, .int .i64 m2.z, .int .i64 m2.s, .int .i64 m2.h, .int .i64 m2.t, .int .i64 m2.f, .bool m2.r] 44)) := (Below.refl _ _).alloc (Nat.le_refl _) _
                    have hrl6 : r2 < x2.heap.size := lt_of_heap HRb.out
                    have HG6 := Lib.hid (heap_alloc_new x2 (.cells #[.int .i64 m2.x, .int .i64 m2.y, .int .i64 m2.z, .int .i64 m2.s, .int .i64 m2.h, .int .i64 m2.t, .int .i64 m2.f, .bool m2.r] 44))
                    replace HA := Lib.hid (ownsRow_below HA.out hb)
                    replace HS := Lib.hid (ownsRow_below HS.out hb)
                    replace HQb := Lib.hid (heap_keep hb HQb.out)
                    replace HRb := Lib.hid (heap_keep hb HRb.out)
                    replace BB := Lib.hid (BB.out.trans (hb.mono BB.out.size))
                    clear hb
                    refine hK.out _ _ ⟨cell_of HQb.out (i := 0) rfl, cell_of HQb.out (i := 1) rfl, cell_of HQb.out (i := 2) rfl, cell_of HQb.out (i := 3) rfl, cell_of HQb.out (i := 4) rfl, cell_of HQb.out (i := 5) rfl, cell_of HRb.out (i := 0) rfl, cell_of HRb.out (i := 1) rfl, cell_of HRb.out (i := 2) rfl, cell_of HRb.out (i := 3) rfl, cell_of HRb.out (i := 4) rfl, cell_of HRb.out (i := 5) rfl, cell_of HRb.out (i := 6) rfl, cell_of HRb.out (i := 7) rfl⟩ (fun hHeldN => ?_)
                    clear hK K hHeld
                    have hHeld := hHeldN
                    clear hHeldN
                    try simp only [Act.put, pB, pC, pD]
                    generalize (x2.alloc (.cells #[.int .i64 m2.x, .int .i64 m2.y, .int .i64 m2.z, .int .i64 m2.s, .int .i64 m2.h, .int .i64 m2.t, .int .i64 m2.f, .bool m2.r] 44)) = x3 at *
                    obtain ⟨g6, hg6⟩ : ∃ g, x2.heap.size = g := ⟨_, rfl⟩
                    rw [hg6] at HG6 hrl6
                    try rw [hg6]
                    clear hg6
                    refine onH 7 (oi := ?_) (by kernel_rfl) ?_ ?_ (fun K hK => ?_); rotate_left; (simp only [gA, gB, gC]; exact rfl); rfl
                    have hbs := BB.out.size
                    have hrl := lt_of_heap HRb.out
                    refine wp_append_lies _ _ _ 50 rfl w1.heap.size 44 i1 (.agg #[.int .i64 0, .int .i64 0, .int .i64 0, .int .i64 0, .int .i64 0, .int .i64 0, .int .i64 0, .bool false]) 8 64 Try.underlying50 hi1 hy0 hy1 hy2 rfl (by decide) _ _ _ rfl HS.out ⟨g6, 0, none⟩ 1 1 [.int .i64 m2.x, .int .i64 m2.y, .int .i64 m2.z, .int .i64 m2.s, .int .i64 m2.h, .int .i64 m2.t, .int .i64 m2.f, .bool m2.r] rfl rfl (World.news_of_block (cs := #[.int .i64 m2.x, .int .i64 m2.y, .int .i64 m2.z, .int .i64 m2.s, .int .i64 m2.h, .int .i64 m2.t, .int .i64 m2.f, .bool m2.r]) (t := 44) (fr := (0, 0)) HG6.out) (by simp [Value.oneCell']) (by omega) (by unfold maxLen; omega) (by omega) (by omega) _ rfl ?_
                    intro g7 c7 x4 hown hgrow hor hltn
                    replace HQb := Lib.hid (grow_keep2 hgrow HQb.out (fun e => by have e2 : gS = _ := Option.some.inj e; omega))
                    replace HRb := Lib.hid (grow_keep2 hgrow HRb.out (fun e => by have e2 : gS = _ := Option.some.inj e; omega))
                    replace BB := Lib.hid (Below.grown BB.out hgrow (by omega) (fun b hb => (HS.out.lt b hb).1))
                    have hgg2 : g3 ≠ g7 := by
                      have h3 := (HA.out.lt g3 rfl).2
                      rcases hor with h | h
                      · have e2 : gS = g7 := Option.some.inj h
                        omega
                      · omega
                    replace HA := Lib.hid (own_grow HA.out hgrow (fun b hb e => by cases hb; exact hgg (Option.some.inj e).symm))
                    replace HS := Lib.hid hown
                    clear hown hgrow hor hltn hbs hrl HG6
                    refine hK.out _ _ ⟨cell_of HQb.out (i := 0) rfl, cell_of HQb.out (i := 1) rfl, cell_of HQb.out (i := 2) rfl, cell_of HQb.out (i := 3) rfl, cell_of HQb.out (i := 4) rfl, cell_of HQb.out (i := 5) rfl, cell_of HRb.out (i := 0) rfl, cell_of HRb.out (i := 1) rfl, cell_of HRb.out (i := 2) rfl, cell_of HRb.out (i := 3) rfl, cell_of HRb.out (i := 4) rfl, cell_of HRb.out (i := 5) rfl, cell_of HRb.out (i := 6) rfl, cell_of HRb.out (i := 7) rfl⟩ (fun hHeldN => ?_)
                    clear hK K hHeld
                    have hHeld := hHeldN
                    clear hHeldN
                    try simp only [Act.put, pB, pC, pD]
                    refine tkH (by assumption) 8 (oi := ?_) (v := ?_) ?_ ?_ ?_ ?_ ?_ ?_ ?_ ?_; rotate_left 2; (simp only [gA, gB, gC]; exact rfl); kernel_rfl; kernel_rfl; kernel_rfl; exact fun _ _ _ h => h; rfl; (intro w' hSw; obtain ⟨s0, s1, s2, s3, s4, s5, d0, d1, d2, d3, d4, d5, d6, d7⟩ := hSw;go_simp; with_reducible rfl); simp only [Act.put, pB, pC, pD]
                    refine tkH (by assumption) 9 (oi := ?_) (v := ?_) ?_ ?_ ?_ ?_ ?_ ?_ ?_ ?_; rotate_left 2; (simp only [gA, gB, gC]; exact rfl); kernel_rfl; kernel_rfl; kernel_rfl; exact fun _ _ _ h => h; rfl; (intro w' hSw; obtain ⟨s0, s1, s2, s3, s4, s5, d0, d1, d2, d3, d4, d5, d6, d7⟩ := hSw;go_simp; with_reducible rfl); simp only [Act.put, pB, pC, pD]
                    refine wpAnyH_done (by kernel_rfl) ?_ _
                    clear hHeld
                    go_wp2_with (fail)
                    go_roundw
                    case rel => exact ⟨k + 1, lp ++ [s], some ⟨g3, 0, none⟩, c3, c7, g7, by go_num, by omega, by rw [List.length_append]; rfl, by rw [List.length_append]; rfl, by rw [fold_succ _ _ hlt, HL.out, RS.out, HSHL.out], fun t ht => (List.mem_append.1 ht).elim (HABp.out t) (fun h => by rw [List.mem_singleton.1 h]; exact HTk.out), by rw [List.length_append]; simp; omega, by rw [List.length_append, rowS_app]; exact HA.out, by rw [List.length_append, stL_snoc, rowM_app, show List.foldl aft m00 lp = m1 from RM1.out, RM2.out]; exact HS.out, (fun b hb => by cases hb; exact hgg2), BB.out⟩
                    case measure => simp [intOf] <;> omega
                  refine coH 6 (oi := ?_) ?_ ?_ (fun K hK => ?_) ?_; rotate_left; (simp only [gA, gB, gC]; exact rfl); rfl
                  · go_wp2_with (fail)
                    have hb : Below x1.heap.size x1 (x1.alloc (.cells #[.int .i64 m2.x, .int .i64 m2.y, .int .i64 m2.z, .int .i64 m2.s, .int .i64 m2.h, .int .i64 m2.t, .int .i64 m2.f, .bool m2.r] 44)) := (Below.refl _ _).alloc (Nat.le_refl _) _
                    have hrl6 : r2 < x1.heap.size := lt_of_heap HRb.out
                    have HG6 := Lib.hid (heap_alloc_new x1 (.cells #[.int .i64 m2.x, .int .i64 m2.y, .int .i64 m2.z, .int .i64 m2.s, .int .i64 m2.h, .int .i64 m2.t, .int .i64 m2.f, .bool m2.r] 44))
                    replace HA := Lib.hid (ownsRow_below HA.out hb)
                    replace HS := Lib.hid (ownsRow_below HS.out hb)
                    replace HQb := Lib.hid (heap_keep hb HQb.out)
                    replace HRb := Lib.hid (heap_keep hb HRb.out)
                    replace HG2 := Lib.hid (heap_keep hb HG2.out)
                    replace BB := Lib.hid (BB.out.trans (hb.mono BB.out.size))
                    clear hb
                    refine hK.out _ _ ⟨cell_of HQb.out (i := 0) rfl, cell_of HQb.out (i := 1) rfl, cell_of HQb.out (i := 2) rfl, cell_of HQb.out (i := 3) rfl, cell_of HQb.out (i := 4) rfl, cell_of HQb.out (i := 5) rfl, cell_of HRb.out (i := 0) rfl, cell_of HRb.out (i := 1) rfl, cell_of HRb.out (i := 2) rfl, cell_of HRb.out (i := 3) rfl, cell_of HRb.out (i := 4) rfl, cell_of HRb.out (i := 5) rfl, cell_of HRb.out (i := 6) rfl, cell_of HRb.out (i := 7) rfl⟩ (fun hHeldN => ?_)
                    clear hK K hHeld
                    have hHeld := hHeldN
                    clear hHeldN
                    try simp only [Act.put, pB, pC, pD]
                    generalize (x1.alloc (.cells #[.int .i64 m2.x, .int .i64 m2.y, .int .i64 m2.z, .int .i64 m2.s, .int .i64 m2.h, .int .i64 m2.t, .int .i64 m2.f, .bool m2.r] 44)) = x2 at *
                    obtain ⟨g6, hg6⟩ : ∃ g, x1.heap.size = g := ⟨_, rfl⟩
                    rw [hg6] at HG6 hrl6
                    try rw [hg6]
                    clear hg6
                    refine onH 3 (oi := ?_) (by kernel_rfl) ?_ ?_ (fun K hK => ?_); rotate_left; (simp only [gA, gB, gC]; exact rfl); rfl
                    have hbs := BB.out.size
                    have hrl := lt_of_heap HRb.out
                    refine wp_append_lies _ _ _ 26 rfl w1.heap.size 36 i0 (.agg #[.int .i64 0, .int .i64 0, .int .i64 0, .int .i64 0, .int .i64 0, .int .i64 0]) 6 48 Try.underlying26 hi0 hz0 hz1 hz2 rfl (by decide) _ _ _ rfl HA.out ⟨g2, 0, none⟩ 1 1 [.int .i64 s.k, .int .i64 s.x, .int .i64 s.y, .int .i64 s.z, .int .i64 s.f, .int .i64 s.n] rfl rfl (World.news_of_block (cs := #[.int .i64 s.k, .int .i64 s.x, .int .i64 s.y, .int .i64 s.z, .int .i64 s.f, .int .i64 s.n]) (t := 36) (fr := (0, 0)) HG2.out) (by simp [Value.oneCell']) (by omega) (by unfold maxLen; omega) (by omega) (by omega) _ rfl ?_
                    intro g3 c3 x3 hown hgrow hor hltn
                    replace HQb := Lib.hid (grow_keep2 hgrow HQb.out (fun e => by have := HAQ.out _ e; omega))
                    replace HRb := Lib.hid (grow_keep2 hgrow HRb.out (fun e => by have := HAQ.out _ e; omega))
                    replace HG6 := Lib.hid (grow_keep2 hgrow HG6.out (fun e => by have := HAQ.out _ e; omega))
                    replace HS := Lib.hid (own_grow HS.out hgrow (fun b hb e => hapart b e (by cases hb; rfl)))
                    replace BB := Lib.hid (Below.grown BB.out hgrow (by omega) (fun b hb => (HA.out.lt b hb).1))
                    have hgg : g3 ≠ gS := by
                      rcases hor with h | h
                      · exact hapart g3 h
                      · omega
                    replace HA := Lib.hid hown
                    have hg3l := hltn
                    clear hown hgrow hor hltn hbs hrl HG2
                    refine hK.out _ _ ⟨cell_of HQb.out (i := 0) rfl, cell_of HQb.out (i := 1) rfl, cell_of HQb.out (i := 2) rfl, cell_of HQb.out (i := 3) rfl, cell_of HQb.out (i := 4) rfl, cell_of HQb.out (i := 5) rfl, cell_of HRb.out (i := 0) rfl, cell_of HRb.out (i := 1) rfl, cell_of HRb.out (i := 2) rfl, cell_of HRb.out (i := 3) rfl, cell_of HRb.out (i := 4) rfl, cell_of HRb.out (i := 5) rfl, cell_of HRb.out (i := 6) rfl, cell_of HRb.out (i := 7) rfl⟩ (fun hHeldN => ?_)
                    clear hK K hHeld
                    have hHeld := hHeldN
                    clear hHeldN
                    try simp only [Act.put, pB, pC, pD]
                    refine onH 7 (oi := ?_) (by kernel_rfl) ?_ ?_ (fun K hK => ?_); rotate_left; (simp only [gA, gB, gC]; exact rfl); rfl
                    have hbs := BB.out.size
                    have hrl := lt_of_heap HRb.out
                    refine wp_append_lies _ _ _ 50 rfl w1.heap.size 44 i1 (.agg #[.int .i64 0, .int .i64 0, .int .i64 0, .int .i64 0, .int .i64 0, .int .i64 0, .int .i64 0, .bool false]) 8 64 Try.underlying50 hi1 hy0 hy1 hy2 rfl (by decide) _ _ _ rfl HS.out ⟨g6, 0, none⟩ 1 1 [.int .i64 m2.x, .int .i64 m2.y, .int .i64 m2.z, .int .i64 m2.s, .int .i64 m2.h, .int .i64 m2.t, .int .i64 m2.f, .bool m2.r] rfl rfl (World.news_of_block (cs := #[.int .i64 m2.x, .int .i64 m2.y, .int .i64 m2.z, .int .i64 m2.s, .int .i64 m2.h, .int .i64 m2.t, .int .i64 m2.f, .bool m2.r]) (t := 44) (fr := (0, 0)) HG6.out) (by simp [Value.oneCell']) (by omega) (by unfold maxLen; omega) (by omega) (by omega) _ rfl ?_
                    intro g7 c7 x4 hown hgrow hor hltn
                    replace HQb := Lib.hid (grow_keep2 hgrow HQb.out (fun e => by have e2 : gS = _ := Option.some.inj e; omega))
                    replace HRb := Lib.hid (grow_keep2 hgrow HRb.out (fun e => by have e2 : gS = _ := Option.some.inj e; omega))
                    replace BB := Lib.hid (Below.grown BB.out hgrow (by omega) (fun b hb => (HS.out.lt b hb).1))
                    have hgg2 : g3 ≠ g7 := by
                      have h3 := (HA.out.lt g3 rfl).2
                      rcases hor with h | h
                      · have e2 : gS = g7 := Option.some.inj h
                        omega
                      · omega
                    replace HA := Lib.hid (own_grow HA.out hgrow (fun b hb e => by cases hb; exact hgg (Option.some.inj e).symm))
                    replace HS := Lib.hid hown
                    clear hown hgrow hor hltn hbs hrl HG6
                    refine hK.out _ _ ⟨cell_of HQb.out (i := 0) rfl, cell_of HQb.out (i := 1) rfl, cell_of HQb.out (i := 2) rfl, cell_of HQb.out (i := 3) rfl, cell_of HQb.out (i := 4) rfl, cell_of HQb.out (i := 5) rfl, cell_of HRb.out (i := 0) rfl, cell_of HRb.out (i := 1) rfl, cell_of HRb.out (i := 2) rfl, cell_of HRb.out (i := 3) rfl, cell_of HRb.out (i := 4) rfl, cell_of HRb.out (i := 5) rfl, cell_of HRb.out (i := 6) rfl, cell_of HRb.out (i := 7) rfl⟩ (fun hHeldN => ?_)
                    clear hK K hHeld
                    have hHeld := hHeldN
                    clear hHeldN
                    try simp only [Act.put, pB, pC, pD]
                    refine tkH (by assumption) 8 (oi := ?_) (v := ?_) ?_ ?_ ?_ ?_ ?_ ?_ ?_ ?_; rotate_left 2; (simp only [gA, gB, gC]; exact rfl); kernel_rfl; kernel_rfl; kernel_rfl; exact fun _ _ _ h => h; rfl; (intro w' hSw; obtain ⟨s0, s1, s2, s3, s4, s5, d0, d1, d2, d3, d4, d5, d6, d7⟩ := hSw;go_simp; with_reducible rfl); simp only [Act.put, pB, pC, pD]
                    refine tkH (by assumption) 9 (oi := ?_) (v := ?_) ?_ ?_ ?_ ?_ ?_ ?_ ?_ ?_; rotate_left 2; (simp only [gA, gB, gC]; exact rfl); kernel_rfl; kernel_rfl; kernel_rfl; exact fun _ _ _ h => h; rfl; (intro w' hSw; obtain ⟨s0, s1, s2, s3, s4, s5, d0, d1, d2, d3, d4, d5, d6, d7⟩ := hSw;go_simp; with_reducible rfl); simp only [Act.put, pB, pC, pD]
                    refine wpAnyH_done (by kernel_rfl) ?_ _
                    clear hHeld
                    go_wp2_with (fail)
                    go_roundw
                    case rel => exact ⟨k + 1, lp ++ [s], some ⟨g3, 0, none⟩, c3, c7, g7, by go_num, by omega, by rw [List.length_append]; rfl, by rw [List.length_append]; rfl, by rw [fold_succ _ _ hlt, HL.out, RS.out, HSHL.out], fun t ht => (List.mem_append.1 ht).elim (HABp.out t) (fun h => by rw [List.mem_singleton.1 h]; exact HTk.out), by rw [List.length_append]; simp; omega, by rw [List.length_append, rowS_app]; exact HA.out, by rw [List.length_append, stL_snoc, rowM_app, show List.foldl aft m00 lp = m1 from RM1.out, RM2.out]; exact HS.out, (fun b hb => by cases hb; exact hgg2), BB.out⟩
                    case measure => simp [intOf] <;> omega
                  exact AllReadyH.nil
                refine coH 6 (oi := ?_) ?_ ?_ (fun K hK => ?_) ?_; rotate_left; (simp only [gA, gB, gC]; exact rfl); rfl
                · go_wp2_with (fail)
                  have hb : Below x0.heap.size x0 (x0.alloc (.cells #[.int .i64 m2.x, .int .i64 m2.y, .int .i64 m2.z, .int .i64 m2.s, .int .i64 m2.h, .int .i64 m2.t, .int .i64 m2.f, .bool m2.r] 44)) := (Below.refl _ _).alloc (Nat.le_refl _) _
                  have hrl6 : r2 < x0.heap.size := lt_of_heap HRb.out
                  have HG6 := Lib.hid (heap_alloc_new x0 (.cells #[.int .i64 m2.x, .int .i64 m2.y, .int .i64 m2.z, .int .i64 m2.s, .int .i64 m2.h, .int .i64 m2.t, .int .i64 m2.f, .bool m2.r] 44))
                  replace HA := Lib.hid (ownsRow_below HA.out hb)
                  replace HS := Lib.hid (ownsRow_below HS.out hb)
                  replace HQb := Lib.hid (heap_keep hb HQb.out)
                  replace HRb := Lib.hid (heap_keep hb HRb.out)
                  replace BB := Lib.hid (BB.out.trans (hb.mono BB.out.size))
                  clear hb
                  refine hK.out _ _ ⟨cell_of HQb.out (i := 0) rfl, cell_of HQb.out (i := 1) rfl, cell_of HQb.out (i := 2) rfl, cell_of HQb.out (i := 3) rfl, cell_of HQb.out (i := 4) rfl, cell_of HQb.out (i := 5) rfl, cell_of HRb.out (i := 0) rfl, cell_of HRb.out (i := 1) rfl, cell_of HRb.out (i := 2) rfl, cell_of HRb.out (i := 3) rfl, cell_of HRb.out (i := 4) rfl, cell_of HRb.out (i := 5) rfl, cell_of HRb.out (i := 6) rfl, cell_of HRb.out (i := 7) rfl⟩ (fun hHeldN => ?_)
                  clear hK K hHeld
                  have hHeld := hHeldN
                  clear hHeldN
                  try simp only [Act.put, pB, pC, pD]
                  generalize (x0.alloc (.cells #[.int .i64 m2.x, .int .i64 m2.y, .int .i64 m2.z, .int .i64 m2.s, .int .i64 m2.h, .int .i64 m2.t, .int .i64 m2.f, .bool m2.r] 44)) = x1 at *
                  obtain ⟨g6, hg6⟩ : ∃ g, x0.heap.size = g := ⟨_, rfl⟩
                  rw [hg6] at HG6 hrl6
                  try rw [hg6]
                  clear hg6
                  refine onH 2 (oi := ?_) (by kernel_rfl) ?_ ?_ (fun K hK => ?_); rotate_left; (simp only [gA, gB, gC]; exact rfl); rfl
                  go_wp2_with (fail)
                  have hb : Below x1.heap.size x1 (x1.alloc (.cells #[.int .i64 s.k, .int .i64 s.x, .int .i64 s.y, .int .i64 s.z, .int .i64 s.f, .int .i64 s.n] 36)) := (Below.refl _ _).alloc (Nat.le_refl _) _
                  have hrl2 : r2 < x1.heap.size := lt_of_heap HRb.out
                  have HG2 := Lib.hid (heap_alloc_new x1 (.cells #[.int .i64 s.k, .int .i64 s.x, .int .i64 s.y, .int .i64 s.z, .int .i64 s.f, .int .i64 s.n] 36))
                  replace HA := Lib.hid (ownsRow_below HA.out hb)
                  replace HS := Lib.hid (ownsRow_below HS.out hb)
                  replace HQb := Lib.hid (heap_keep hb HQb.out)
                  replace HRb := Lib.hid (heap_keep hb HRb.out)
                  replace HG6 := Lib.hid (heap_keep hb HG6.out)
                  replace BB := Lib.hid (BB.out.trans (hb.mono BB.out.size))
                  clear hb
                  refine hK.out _ _ ⟨cell_of HQb.out (i := 0) rfl, cell_of HQb.out (i := 1) rfl, cell_of HQb.out (i := 2) rfl, cell_of HQb.out (i := 3) rfl, cell_of HQb.out (i := 4) rfl, cell_of HQb.out (i := 5) rfl, cell_of HRb.out (i := 0) rfl, cell_of HRb.out (i := 1) rfl, cell_of HRb.out (i := 2) rfl, cell_of HRb.out (i := 3) rfl, cell_of HRb.out (i := 4) rfl, cell_of HRb.out (i := 5) rfl, cell_of HRb.out (i := 6) rfl, cell_of HRb.out (i := 7) rfl⟩ (fun hHeldN => ?_)
                  clear hK K hHeld
                  have hHeld := hHeldN
                  clear hHeldN
                  try simp only [Act.put, pB, pC, pD]
                  generalize (x1.alloc (.cells #[.int .i64 s.k, .int .i64 s.x, .int .i64 s.y, .int .i64 s.z, .int .i64 s.f, .int .i64 s.n] 36)) = x2 at *
                  obtain ⟨g2, hg2⟩ : ∃ g, x1.heap.size = g := ⟨_, rfl⟩
                  rw [hg2] at HG2 hrl2
                  try rw [hg2]
                  clear hg2
                  refine onH 3 (oi := ?_) (by kernel_rfl) ?_ ?_ (fun K hK => ?_); rotate_left; (simp only [gA, gB, gC]; exact rfl); rfl
                  have hbs := BB.out.size
                  have hrl := lt_of_heap HRb.out
                  refine wp_append_lies _ _ _ 26 rfl w1.heap.size 36 i0 (.agg #[.int .i64 0, .int .i64 0, .int .i64 0, .int .i64 0, .int .i64 0, .int .i64 0]) 6 48 Try.underlying26 hi0 hz0 hz1 hz2 rfl (by decide) _ _ _ rfl HA.out ⟨g2, 0, none⟩ 1 1 [.int .i64 s.k, .int .i64 s.x, .int .i64 s.y, .int .i64 s.z, .int .i64 s.f, .int .i64 s.n] rfl rfl (World.news_of_block (cs := #[.int .i64 s.k, .int .i64 s.x, .int .i64 s.y, .int .i64 s.z, .int .i64 s.f, .int .i64 s.n]) (t := 36) (fr := (0, 0)) HG2.out) (by simp [Value.oneCell']) (by omega) (by unfold maxLen; omega) (by omega) (by omega) _ rfl ?_
                  intro g3 c3 x3 hown hgrow hor hltn
                  replace HQb := Lib.hid (grow_keep2 hgrow HQb.out (fun e => by have := HAQ.out _ e; omega))
                  replace HRb := Lib.hid (grow_keep2 hgrow HRb.out (fun e => by have := HAQ.out _ e; omega))
                  replace HG6 := Lib.hid (grow_keep2 hgrow HG6.out (fun e => by have := HAQ.out _ e; omega))
                  replace HS := Lib.hid (own_grow HS.out hgrow (fun b hb e => hapart b e (by cases hb; rfl)))
                  replace BB := Lib.hid (Below.grown BB.out hgrow (by omega) (fun b hb => (HA.out.lt b hb).1))
                  have hgg : g3 ≠ gS := by
                    rcases hor with h | h
                    · exact hapart g3 h
                    · omega
                  replace HA := Lib.hid hown
                  have hg3l := hltn
                  clear hown hgrow hor hltn hbs hrl HG2
                  refine hK.out _ _ ⟨cell_of HQb.out (i := 0) rfl, cell_of HQb.out (i := 1) rfl, cell_of HQb.out (i := 2) rfl, cell_of HQb.out (i := 3) rfl, cell_of HQb.out (i := 4) rfl, cell_of HQb.out (i := 5) rfl, cell_of HRb.out (i := 0) rfl, cell_of HRb.out (i := 1) rfl, cell_of HRb.out (i := 2) rfl, cell_of HRb.out (i := 3) rfl, cell_of HRb.out (i := 4) rfl, cell_of HRb.out (i := 5) rfl, cell_of HRb.out (i := 6) rfl, cell_of HRb.out (i := 7) rfl⟩ (fun hHeldN => ?_)
                  clear hK K hHeld
                  have hHeld := hHeldN
                  clear hHeldN
                  try simp only [Act.put, pB, pC, pD]
                  refine onH 7 (oi := ?_) (by kernel_rfl) ?_ ?_ (fun K hK => ?_); rotate_left; (simp only [gA, gB, gC]; exact rfl); rfl
                  have hbs := BB.out.size
                  have hrl := lt_of_heap HRb.out
                  refine wp_append_lies _ _ _ 50 rfl w1.heap.size 44 i1 (.agg #[.int .i64 0, .int .i64 0, .int .i64 0, .int .i64 0, .int .i64 0, .int .i64 0, .int .i64 0, .bool false]) 8 64 Try.underlying50 hi1 hy0 hy1 hy2 rfl (by decide) _ _ _ rfl HS.out ⟨g6, 0, none⟩ 1 1 [.int .i64 m2.x, .int .i64 m2.y, .int .i64 m2.z, .int .i64 m2.s, .int .i64 m2.h, .int .i64 m2.t, .int .i64 m2.f, .bool m2.r] rfl rfl (World.news_of_block (cs := #[.int .i64 m2.x, .int .i64 m2.y, .int .i64 m2.z, .int .i64 m2.s, .int .i64 m2.h, .int .i64 m2.t, .int .i64 m2.f, .bool m2.r]) (t := 44) (fr := (0, 0)) HG6.out) (by simp [Value.oneCell']) (by omega) (by unfold maxLen; omega) (by omega) (by omega) _ rfl ?_
                  intro g7 c7 x4 hown hgrow hor hltn
                  replace HQb := Lib.hid (grow_keep2 hgrow HQb.out (fun e => by have e2 : gS = _ := Option.some.inj e; omega))
                  replace HRb := Lib.hid (grow_keep2 hgrow HRb.out (fun e => by have e2 : gS = _ := Option.some.inj e; omega))
                  replace BB := Lib.hid (Below.grown BB.out hgrow (by omega) (fun b hb => (HS.out.lt b hb).1))
                  have hgg2 : g3 ≠ g7 := by
                    have h3 := (HA.out.lt g3 rfl).2
                    rcases hor with h | h
                    · have e2 : gS = g7 := Option.some.inj h
                      omega
                    · omega
                  replace HA := Lib.hid (own_grow HA.out hgrow (fun b hb e => by cases hb; exact hgg (Option.some.inj e).symm))
                  replace HS := Lib.hid hown
                  clear hown hgrow hor hltn hbs hrl HG6
                  refine hK.out _ _ ⟨cell_of HQb.out (i := 0) rfl, cell_of HQb.out (i := 1) rfl, cell_of HQb.out (i := 2) rfl, cell_of HQb.out (i := 3) rfl, cell_of HQb.out (i := 4) rfl, cell_of HQb.out (i := 5) rfl, cell_of HRb.out (i := 0) rfl, cell_of HRb.out (i := 1) rfl, cell_of HRb.out (i := 2) rfl, cell_of HRb.out (i := 3) rfl, cell_of HRb.out (i := 4) rfl, cell_of HRb.out (i := 5) rfl, cell_of HRb.out (i := 6) rfl, cell_of HRb.out (i := 7) rfl⟩ (fun hHeldN => ?_)
                  clear hK K hHeld
                  have hHeld := hHeldN
                  clear hHeldN
                  try simp only [Act.put, pB, pC, pD]
                  refine tkH (by assumption) 8 (oi := ?_) (v := ?_) ?_ ?_ ?_ ?_ ?_ ?_ ?_ ?_; rotate_left 2; (simp only [gA, gB, gC]; exact rfl); kernel_rfl; kernel_rfl; kernel_rfl; exact fun _ _ _ h => h; rfl; (intro w' hSw; obtain ⟨s0, s1, s2, s3, s4, s5, d0, d1, d2, d3, d4, d5, d6, d7⟩ := hSw;go_simp; with_reducible rfl); simp only [Act.put, pB, pC, pD]
                  refine tkH (by assumption) 9 (oi := ?_) (v := ?_) ?_ ?_ ?_ ?_ ?_ ?_ ?_ ?_; rotate_left 2; (simp only [gA, gB, gC]; exact rfl); kernel_rfl; kernel_rfl; kernel_rfl; exact fun _ _ _ h => h; rfl; (intro w' hSw; obtain ⟨s0, s1, s2, s3, s4, s5, d0, d1, d2, d3, d4, d5, d6, d7⟩ := hSw;go_simp; with_reducible rfl); simp only [Act.put, pB, pC, pD]
                  refine wpAnyH_done (by kernel_rfl) ?_ _
                  clear hHeld
                  go_wp2_with (fail)
                  go_roundw
                  case rel => exact ⟨k + 1, lp ++ [s], some ⟨g3, 0, none⟩, c3, c7, g7, by go_num, by omega, by rw [List.length_append]; rfl, by rw [List.length_append]; rfl, by rw [fold_succ _ _ hlt, HL.out, RS.out, HSHL.out], fun t ht => (List.mem_append.1 ht).elim (HABp.out t) (fun h => by rw [List.mem_singleton.1 h]; exact HTk.out), by rw [List.length_append]; simp; omega, by rw [List.length_append, rowS_app]; exact HA.out, by rw [List.length_append, stL_snoc, rowM_app, show List.foldl aft m00 lp = m1 from RM1.out, RM2.out]; exact HS.out, (fun b hb => by cases hb; exact hgg2), BB.out⟩
                  case measure => simp [intOf] <;> omega
                exact AllReadyH.nil
            · have HSHL : Hid (shL (lp ++ [u]) s = lp ++ [s]) := Lib.hid (by unfold shL; rw [HPOP.out, if_neg (fun h => by have := HVB.out; rw [RM1.out, RM2.out] at h; simp [h.1] at this)])
              go_wp2_with (fail)
              generalize (w4.alloc (.cells #[.int .i64 m2.x, .int .i64 m2.y, .int .i64 m2.z, .int .i64 m2.s, .int .i64 m2.h, .int .i64 m2.t, .int .i64 m2.f, .bool m2.r] 44)) = w6 at *
              have HOA6 := HOA5
              have HOS6 := HOS5
              have HSq6 := HSq5
              have HN26 := HN2
              have B6 := B5
              clear HOA5 HOS5 HSq5 HN2 B5
              obtain ⟨r2, hr2⟩ : ∃ r, w4.heap.size = r := ⟨_, rfl⟩
              rw [hr2] at HN26
              try rw [hr2]
              have hqr : q < r2 := by omega
              have HA := HOA6
              have HS := HOS6
              have HQb := HSq6
              have HRb := HN26
              have BB := B6
              clear HOA6 HOS6 HSq6 HN26 B6 hr2
              refine wp_region_held_drew (S := (fun w' => w'.cell? ⟨q, 0, none⟩ = some (.int .i64 s.k) ∧ w'.cell? ⟨q, 1, none⟩ = some (.int .i64 s.x) ∧ w'.cell? ⟨q, 2, none⟩ = some (.int .i64 s.y) ∧ w'.cell? ⟨q, 3, none⟩ = some (.int .i64 s.z) ∧ w'.cell? ⟨q, 4, none⟩ = some (.int .i64 s.f) ∧ w'.cell? ⟨q, 5, none⟩ = some (.int .i64 s.n) ∧ w'.cell? ⟨r2, 0, none⟩ = some (.int .i64 m2.x) ∧ w'.cell? ⟨r2, 1, none⟩ = some (.int .i64 m2.y) ∧ w'.cell? ⟨r2, 2, none⟩ = some (.int .i64 m2.z) ∧ w'.cell? ⟨r2, 3, none⟩ = some (.int .i64 m2.s) ∧ w'.cell? ⟨r2, 4, none⟩ = some (.int .i64 m2.h) ∧ w'.cell? ⟨r2, 5, none⟩ = some (.int .i64 m2.t) ∧ w'.cell? ⟨r2, 6, none⟩ = some (.int .i64 m2.f) ∧ w'.cell? ⟨r2, 7, none⟩ = some (.bool m2.r))) (by kernel_rfl) ⟨cell_of HQb.out (i := 0) rfl, cell_of HQb.out (i := 1) rfl, cell_of HQb.out (i := 2) rfl, cell_of HQb.out (i := 3) rfl, cell_of HQb.out (i := 4) rfl, cell_of HQb.out (i := 5) rfl, cell_of HRb.out (i := 0) rfl, cell_of HRb.out (i := 1) rfl, cell_of HRb.out (i := 2) rfl, cell_of HRb.out (i := 3) rfl, cell_of HRb.out (i := 4) rfl, cell_of HRb.out (i := 5) rfl, cell_of HRb.out (i := 6) rfl, cell_of HRb.out (i := 7) rfl⟩ (fun hHeld => ?_)
              refine tkH (by assumption) 0 (oi := ?_) (v := ?_) ?_ ?_ ?_ ?_ ?_ ?_ ?_ ?_; rotate_left 2; (simp only [gA, gB, gC]; exact rfl); kernel_rfl; kernel_rfl; kernel_rfl; exact fun _ _ _ h => h; rfl; (intro w' hSw; obtain ⟨s0, s1, s2, s3, s4, s5, d0, d1, d2, d3, d4, d5, d6, d7⟩ := hSw;go_simp; with_reducible rfl); simp only [Act.put, pB, pC, pD]
              refine tkH (by assumption) 1 (oi := ?_) (v := ?_) ?_ ?_ ?_ ?_ ?_ ?_ ?_ ?_; rotate_left 2; (simp only [gA, gB, gC]; exact rfl); kernel_rfl; kernel_rfl; kernel_rfl; exact fun _ _ _ h => h; rfl; (intro w' hSw; obtain ⟨s0, s1, s2, s3, s4, s5, d0, d1, d2, d3, d4, d5, d6, d7⟩ := hSw;go_simp; with_reducible rfl); simp only [Act.put, pB, pC, pD]
              refine tkH (by assumption) 4 (oi := ?_) (v := ?_) ?_ ?_ ?_ ?_ ?_ ?_ ?_ ?_; rotate_left 2; (simp only [gA, gB, gC]; exact rfl); kernel_rfl; kernel_rfl; kernel_rfl; exact fun _ _ _ h => h; rfl; (intro w' hSw; obtain ⟨s0, s1, s2, s3, s4, s5, d0, d1, d2, d3, d4, d5, d6, d7⟩ := hSw;go_simp; with_reducible rfl); simp only [Act.put, pB, pC, pD]
              refine tkH (by assumption) 5 (oi := ?_) (v := ?_) ?_ ?_ ?_ ?_ ?_ ?_ ?_ ?_; rotate_left 2; (simp only [gA, gB, gC]; exact rfl); kernel_rfl; kernel_rfl; kernel_rfl; exact fun _ _ _ h => h; rfl; (intro w' hSw; obtain ⟨s0, s1, s2, s3, s4, s5, d0, d1, d2, d3, d4, d5, d6, d7⟩ := hSw;go_simp; with_reducible rfl); simp only [Act.put, pB, pC, pD]
              have hbd : Below w6.heap.size w6 w6.drew := Below.drew (Below.refl _ _)
              replace HA := Lib.hid (ownsRow_below HA.out hbd)
              replace HS := Lib.hid (ownsRow_below HS.out hbd)
              replace HQb := Lib.hid (heap_keep hbd HQb.out)
              replace HRb := Lib.hid (heap_keep hbd HRb.out)
              replace BB := Lib.hid (BB.out.trans (hbd.mono BB.out.size))
              clear hbd
              generalize w6.drew = x0 at *
              refine wpAnyH_ready (rs := [2, 6]) (by kernel_rfl) (by simp) ?_
              refine coH 2 (oi := ?_) ?_ ?_ (fun K hK => ?_) ?_; rotate_left; (simp only [gA, gB, gC]; exact rfl); rfl
              · go_wp2_with (fail)
                have hb : Below x0.heap.size x0 (x0.alloc (.cells #[.int .i64 s.k, .int .i64 s.x, .int .i64 s.y, .int .i64 s.z, .int .i64 s.f, .int .i64 s.n] 36)) := (Below.refl _ _).alloc (Nat.le_refl _) _
                have hrl2 : r2 < x0.heap.size := lt_of_heap HRb.out
                have HG2 := Lib.hid (heap_alloc_new x0 (.cells #[.int .i64 s.k, .int .i64 s.x, .int .i64 s.y, .int .i64 s.z, .int .i64 s.f, .int .i64 s.n] 36))
                replace HA := Lib.hid (ownsRow_below HA.out hb)
                replace HS := Lib.hid (ownsRow_below HS.out hb)
                replace HQb := Lib.hid (heap_keep hb HQb.out)
                replace HRb := Lib.hid (heap_keep hb HRb.out)
                replace BB := Lib.hid (BB.out.trans (hb.mono BB.out.size))
                clear hb
                refine hK.out _ _ ⟨cell_of HQb.out (i := 0) rfl, cell_of HQb.out (i := 1) rfl, cell_of HQb.out (i := 2) rfl, cell_of HQb.out (i := 3) rfl, cell_of HQb.out (i := 4) rfl, cell_of HQb.out (i := 5) rfl, cell_of HRb.out (i := 0) rfl, cell_of HRb.out (i := 1) rfl, cell_of HRb.out (i := 2) rfl, cell_of HRb.out (i := 3) rfl, cell_of HRb.out (i := 4) rfl, cell_of HRb.out (i := 5) rfl, cell_of HRb.out (i := 6) rfl, cell_of HRb.out (i := 7) rfl⟩ (fun hHeldN => ?_)
                clear hK K hHeld
                have hHeld := hHeldN
                clear hHeldN
                try simp only [Act.put, pB, pC, pD]
                generalize (x0.alloc (.cells #[.int .i64 s.k, .int .i64 s.x, .int .i64 s.y, .int .i64 s.z, .int .i64 s.f, .int .i64 s.n] 36)) = x1 at *
                obtain ⟨g2, hg2⟩ : ∃ g, x0.heap.size = g := ⟨_, rfl⟩
                rw [hg2] at HG2 hrl2
                try rw [hg2]
                clear hg2
                refine wpAnyH_ready (rs := [3, 6]) (by kernel_rfl) (by simp) ?_
                refine coH 3 (oi := ?_) ?_ ?_ (fun K hK => ?_) ?_; rotate_left; (simp only [gA, gB, gC]; exact rfl); rfl
                · have hbs := BB.out.size
                  have hrl := lt_of_heap HRb.out
                  refine wp_append_lies _ _ _ 26 rfl w1.heap.size 36 i0 (.agg #[.int .i64 0, .int .i64 0, .int .i64 0, .int .i64 0, .int .i64 0, .int .i64 0]) 6 48 Try.underlying26 hi0 hz0 hz1 hz2 rfl (by decide) _ _ _ rfl HA.out ⟨g2, 0, none⟩ 1 1 [.int .i64 s.k, .int .i64 s.x, .int .i64 s.y, .int .i64 s.z, .int .i64 s.f, .int .i64 s.n] rfl rfl (World.news_of_block (cs := #[.int .i64 s.k, .int .i64 s.x, .int .i64 s.y, .int .i64 s.z, .int .i64 s.f, .int .i64 s.n]) (t := 36) (fr := (0, 0)) HG2.out) (by simp [Value.oneCell']) (by omega) (by unfold maxLen; omega) (by omega) (by omega) _ rfl ?_
                  intro g3 c3 x2 hown hgrow hor hltn
                  replace HQb := Lib.hid (grow_keep2 hgrow HQb.out (fun e => by have := HAQ.out _ e; omega))
                  replace HRb := Lib.hid (grow_keep2 hgrow HRb.out (fun e => by have := HAQ.out _ e; omega))
                  replace HS := Lib.hid (own_grow HS.out hgrow (fun b hb e => hapart b e (by cases hb; rfl)))
                  replace BB := Lib.hid (Below.grown BB.out hgrow (by omega) (fun b hb => (HA.out.lt b hb).1))
                  have hgg : g3 ≠ gS := by
                    rcases hor with h | h
                    · exact hapart g3 h
                    · omega
                  replace HA := Lib.hid hown
                  have hg3l := hltn
                  clear hown hgrow hor hltn hbs hrl HG2
                  refine hK.out _ _ ⟨cell_of HQb.out (i := 0) rfl, cell_of HQb.out (i := 1) rfl, cell_of HQb.out (i := 2) rfl, cell_of HQb.out (i := 3) rfl, cell_of HQb.out (i := 4) rfl, cell_of HQb.out (i := 5) rfl, cell_of HRb.out (i := 0) rfl, cell_of HRb.out (i := 1) rfl, cell_of HRb.out (i := 2) rfl, cell_of HRb.out (i := 3) rfl, cell_of HRb.out (i := 4) rfl, cell_of HRb.out (i := 5) rfl, cell_of HRb.out (i := 6) rfl, cell_of HRb.out (i := 7) rfl⟩ (fun hHeldN => ?_)
                  clear hK K hHeld
                  have hHeld := hHeldN
                  clear hHeldN
                  try simp only [Act.put, pB, pC, pD]
                  refine onH 6 (oi := ?_) (by kernel_rfl) ?_ ?_ (fun K hK => ?_); rotate_left; (simp only [gA, gB, gC]; exact rfl); rfl
                  go_wp2_with (fail)
                  have hb : Below x2.heap.size x2 (x2.alloc (.cells #[.int .i64 m2.x, .int .i64 m2.y, .int .i64 m2.z, .int .i64 m2.s, .int .i64 m2.h, .int .i64 m2.t, .int .i64 m2.f, .bool m2.r] 44)) := (Below.refl _ _).alloc (Nat.le_refl _) _
                  have hrl6 : r2 < x2.heap.size := lt_of_heap HRb.out
                  have HG6 := Lib.hid (heap_alloc_new x2 (.cells #[.int .i64 m2.x, .int .i64 m2.y, .int .i64 m2.z, .int .i64 m2.s, .int .i64 m2.h, .int .i64 m2.t, .int .i64 m2.f, .bool m2.r] 44))
                  replace HA := Lib.hid (ownsRow_below HA.out hb)
                  replace HS := Lib.hid (ownsRow_below HS.out hb)
                  replace HQb := Lib.hid (heap_keep hb HQb.out)
                  replace HRb := Lib.hid (heap_keep hb HRb.out)
                  replace BB := Lib.hid (BB.out.trans (hb.mono BB.out.size))
                  clear hb
                  refine hK.out _ _ ⟨cell_of HQb.out (i := 0) rfl, cell_of HQb.out (i := 1) rfl, cell_of HQb.out (i := 2) rfl, cell_of HQb.out (i := 3) rfl, cell_of HQb.out (i := 4) rfl, cell_of HQb.out (i := 5) rfl, cell_of HRb.out (i := 0) rfl, cell_of HRb.out (i := 1) rfl, cell_of HRb.out (i := 2) rfl, cell_of HRb.out (i := 3) rfl, cell_of HRb.out (i := 4) rfl, cell_of HRb.out (i := 5) rfl, cell_of HRb.out (i := 6) rfl, cell_of HRb.out (i := 7) rfl⟩ (fun hHeldN => ?_)
                  clear hK K hHeld
                  have hHeld := hHeldN
                  clear hHeldN
                  try simp only [Act.put, pB, pC, pD]
                  generalize (x2.alloc (.cells #[.int .i64 m2.x, .int .i64 m2.y, .int .i64 m2.z, .int .i64 m2.s, .int .i64 m2.h, .int .i64 m2.t, .int .i64 m2.f, .bool m2.r] 44)) = x3 at *
                  obtain ⟨g6, hg6⟩ : ∃ g, x2.heap.size = g := ⟨_, rfl⟩
                  rw [hg6] at HG6 hrl6
                  try rw [hg6]
                  clear hg6
                  refine onH 7 (oi := ?_) (by kernel_rfl) ?_ ?_ (fun K hK => ?_); rotate_left; (simp only [gA, gB, gC]; exact rfl); rfl
                  have hbs := BB.out.size
                  have hrl := lt_of_heap HRb.out
                  refine wp_append_lies _ _ _ 50 rfl w1.heap.size 44 i1 (.agg #[.int .i64 0, .int .i64 0, .int .i64 0, .int .i64 0, .int .i64 0, .int .i64 0, .int .i64 0, .bool false]) 8 64 Try.underlying50 hi1 hy0 hy1 hy2 rfl (by decide) _ _ _ rfl HS.out ⟨g6, 0, none⟩ 1 1 [.int .i64 m2.x, .int .i64 m2.y, .int .i64 m2.z, .int .i64 m2.s, .int .i64 m2.h, .int .i64 m2.t, .int .i64 m2.f, .bool m2.r] rfl rfl (World.news_of_block (cs := #[.int .i64 m2.x, .int .i64 m2.y, .int .i64 m2.z, .int .i64 m2.s, .int .i64 m2.h, .int .i64 m2.t, .int .i64 m2.f, .bool m2.r]) (t := 44) (fr := (0, 0)) HG6.out) (by simp [Value.oneCell']) (by omega) (by unfold maxLen; omega) (by omega) (by omega) _ rfl ?_
                  intro g7 c7 x4 hown hgrow hor hltn
                  replace HQb := Lib.hid (grow_keep2 hgrow HQb.out (fun e => by have e2 : gS = _ := Option.some.inj e; omega))
                  replace HRb := Lib.hid (grow_keep2 hgrow HRb.out (fun e => by have e2 : gS = _ := Option.some.inj e; omega))
                  replace BB := Lib.hid (Below.grown BB.out hgrow (by omega) (fun b hb => (HS.out.lt b hb).1))
                  have hgg2 : g3 ≠ g7 := by
                    have h3 := (HA.out.lt g3 rfl).2
                    rcases hor with h | h
                    · have e2 : gS = g7 := Option.some.inj h
                      omega
                    · omega
                  replace HA := Lib.hid (own_grow HA.out hgrow (fun b hb e => by cases hb; exact hgg (Option.some.inj e).symm))
                  replace HS := Lib.hid hown
                  clear hown hgrow hor hltn hbs hrl HG6
                  refine hK.out _ _ ⟨cell_of HQb.out (i := 0) rfl, cell_of HQb.out (i := 1) rfl, cell_of HQb.out (i := 2) rfl, cell_of HQb.out (i := 3) rfl, cell_of HQb.out (i := 4) rfl, cell_of HQb.out (i := 5) rfl, cell_of HRb.out (i := 0) rfl, cell_of HRb.out (i := 1) rfl, cell_of HRb.out (i := 2) rfl, cell_of HRb.out (i := 3) rfl, cell_of HRb.out (i := 4) rfl, cell_of HRb.out (i := 5) rfl, cell_of HRb.out (i := 6) rfl, cell_of HRb.out (i := 7) rfl⟩ (fun hHeldN => ?_)
                  clear hK K hHeld
                  have hHeld := hHeldN
                  clear hHeldN
                  try simp only [Act.put, pB, pC, pD]
                  refine tkH (by assumption) 8 (oi := ?_) (v := ?_) ?_ ?_ ?_ ?_ ?_ ?_ ?_ ?_; rotate_left 2; (simp only [gA, gB, gC]; exact rfl); kernel_rfl; kernel_rfl; kernel_rfl; exact fun _ _ _ h => h; rfl; (intro w' hSw; obtain ⟨s0, s1, s2, s3, s4, s5, d0, d1, d2, d3, d4, d5, d6, d7⟩ := hSw;go_simp; with_reducible rfl); simp only [Act.put, pB, pC, pD]
                  refine tkH (by assumption) 9 (oi := ?_) (v := ?_) ?_ ?_ ?_ ?_ ?_ ?_ ?_ ?_; rotate_left 2; (simp only [gA, gB, gC]; exact rfl); kernel_rfl; kernel_rfl; kernel_rfl; exact fun _ _ _ h => h; rfl; (intro w' hSw; obtain ⟨s0, s1, s2, s3, s4, s5, d0, d1, d2, d3, d4, d5, d6, d7⟩ := hSw;go_simp; with_reducible rfl); simp only [Act.put, pB, pC, pD]
                  refine wpAnyH_done (by kernel_rfl) ?_ _
                  clear hHeld
                  go_wp2_with (fail)
                  go_roundw
                  case rel => exact ⟨k + 1, lp ++ [s], some ⟨g3, 0, none⟩, c3, c7, g7, by go_num, by omega, by rw [List.length_append]; rfl, by rw [List.length_append]; rfl, by rw [fold_succ _ _ hlt, HL.out, RS.out, HSHL.out], fun t ht => (List.mem_append.1 ht).elim (HABp.out t) (fun h => by rw [List.mem_singleton.1 h]; exact HTk.out), by rw [List.length_append]; simp; omega, by rw [List.length_append, rowS_app]; exact HA.out, by rw [List.length_append, stL_snoc, rowM_app, show List.foldl aft m00 lp = m1 from RM1.out, RM2.out]; exact HS.out, (fun b hb => by cases hb; exact hgg2), BB.out⟩
                  case measure => simp [intOf] <;> omega
                refine coH 6 (oi := ?_) ?_ ?_ (fun K hK => ?_) ?_; rotate_left; (simp only [gA, gB, gC]; exact rfl); rfl
                · go_wp2_with (fail)
                  have hb : Below x1.heap.size x1 (x1.alloc (.cells #[.int .i64 m2.x, .int .i64 m2.y, .int .i64 m2.z, .int .i64 m2.s, .int .i64 m2.h, .int .i64 m2.t, .int .i64 m2.f, .bool m2.r] 44)) := (Below.refl _ _).alloc (Nat.le_refl _) _
                  have hrl6 : r2 < x1.heap.size := lt_of_heap HRb.out
                  have HG6 := Lib.hid (heap_alloc_new x1 (.cells #[.int .i64 m2.x, .int .i64 m2.y, .int .i64 m2.z, .int .i64 m2.s, .int .i64 m2.h, .int .i64 m2.t, .int .i64 m2.f, .bool m2.r] 44))
                  replace HA := Lib.hid (ownsRow_below HA.out hb)
                  replace HS := Lib.hid (ownsRow_below HS.out hb)
                  replace HQb := Lib.hid (heap_keep hb HQb.out)
                  replace HRb := Lib.hid (heap_keep hb HRb.out)
                  replace HG2 := Lib.hid (heap_keep hb HG2.out)
                  replace BB := Lib.hid (BB.out.trans (hb.mono BB.out.size))
                  clear hb
                  refine hK.out _ _ ⟨cell_of HQb.out (i := 0) rfl, cell_of HQb.out (i := 1) rfl, cell_of HQb.out (i := 2) rfl, cell_of HQb.out (i := 3) rfl, cell_of HQb.out (i := 4) rfl, cell_of HQb.out (i := 5) rfl, cell_of HRb.out (i := 0) rfl, cell_of HRb.out (i := 1) rfl, cell_of HRb.out (i := 2) rfl, cell_of HRb.out (i := 3) rfl, cell_of HRb.out (i := 4) rfl, cell_of HRb.out (i := 5) rfl, cell_of HRb.out (i := 6) rfl, cell_of HRb.out (i := 7) rfl⟩ (fun hHeldN => ?_)
                  clear hK K hHeld
                  have hHeld := hHeldN
                  clear hHeldN
                  try simp only [Act.put, pB, pC, pD]
                  generalize (x1.alloc (.cells #[.int .i64 m2.x, .int .i64 m2.y, .int .i64 m2.z, .int .i64 m2.s, .int .i64 m2.h, .int .i64 m2.t, .int .i64 m2.f, .bool m2.r] 44)) = x2 at *
                  obtain ⟨g6, hg6⟩ : ∃ g, x1.heap.size = g := ⟨_, rfl⟩
                  rw [hg6] at HG6 hrl6
                  try rw [hg6]
                  clear hg6
                  refine onH 3 (oi := ?_) (by kernel_rfl) ?_ ?_ (fun K hK => ?_); rotate_left; (simp only [gA, gB, gC]; exact rfl); rfl
                  have hbs := BB.out.size
                  have hrl := lt_of_heap HRb.out
                  refine wp_append_lies _ _ _ 26 rfl w1.heap.size 36 i0 (.agg #[.int .i64 0, .int .i64 0, .int .i64 0, .int .i64 0, .int .i64 0, .int .i64 0]) 6 48 Try.underlying26 hi0 hz0 hz1 hz2 rfl (by decide) _ _ _ rfl HA.out ⟨g2, 0, none⟩ 1 1 [.int .i64 s.k, .int .i64 s.x, .int .i64 s.y, .int .i64 s.z, .int .i64 s.f, .int .i64 s.n] rfl rfl (World.news_of_block (cs := #[.int .i64 s.k, .int .i64 s.x, .int .i64 s.y, .int .i64 s.z, .int .i64 s.f, .int .i64 s.n]) (t := 36) (fr := (0, 0)) HG2.out) (by simp [Value.oneCell']) (by omega) (by unfold maxLen; omega) (by omega) (by omega) _ rfl ?_
                  intro g3 c3 x3 hown hgrow hor hltn
                  replace HQb := Lib.hid (grow_keep2 hgrow HQb.out (fun e => by have := HAQ.out _ e; omega))
                  replace HRb := Lib.hid (grow_keep2 hgrow HRb.out (fun e => by have := HAQ.out _ e; omega))
                  replace HG6 := Lib.hid (grow_keep2 hgrow HG6.out (fun e => by have := HAQ.out _ e; omega))
                  replace HS := Lib.hid (own_grow HS.out hgrow (fun b hb e => hapart b e (by cases hb; rfl)))
                  replace BB := Lib.hid (Below.grown BB.out hgrow (by omega) (fun b hb => (HA.out.lt b hb).1))
                  have hgg : g3 ≠ gS := by
                    rcases hor with h | h
                    · exact hapart g3 h
                    · omega
                  replace HA := Lib.hid hown
                  have hg3l := hltn
                  clear hown hgrow hor hltn hbs hrl HG2
                  refine hK.out _ _ ⟨cell_of HQb.out (i := 0) rfl, cell_of HQb.out (i := 1) rfl, cell_of HQb.out (i := 2) rfl, cell_of HQb.out (i := 3) rfl, cell_of HQb.out (i := 4) rfl, cell_of HQb.out (i := 5) rfl, cell_of HRb.out (i := 0) rfl, cell_of HRb.out (i := 1) rfl, cell_of HRb.out (i := 2) rfl, cell_of HRb.out (i := 3) rfl, cell_of HRb.out (i := 4) rfl, cell_of HRb.out (i := 5) rfl, cell_of HRb.out (i := 6) rfl, cell_of HRb.out (i := 7) rfl⟩ (fun hHeldN => ?_)
                  clear hK K hHeld
                  have hHeld := hHeldN
                  clear hHeldN
                  try simp only [Act.put, pB, pC, pD]
                  refine onH 7 (oi := ?_) (by kernel_rfl) ?_ ?_ (fun K hK => ?_); rotate_left; (simp only [gA, gB, gC]; exact rfl); rfl
                  have hbs := BB.out.size
                  have hrl := lt_of_heap HRb.out
                  refine wp_append_lies _ _ _ 50 rfl w1.heap.size 44 i1 (.agg #[.int .i64 0, .int .i64 0, .int .i64 0, .int .i64 0, .int .i64 0, .int .i64 0, .int .i64 0, .bool false]) 8 64 Try.underlying50 hi1 hy0 hy1 hy2 rfl (by decide) _ _ _ rfl HS.out ⟨g6, 0, none⟩ 1 1 [.int .i64 m2.x, .int .i64 m2.y, .int .i64 m2.z, .int .i64 m2.s, .int .i64 m2.h, .int .i64 m2.t, .int .i64 m2.f, .bool m2.r] rfl rfl (World.news_of_block (cs := #[.int .i64 m2.x, .int .i64 m2.y, .int .i64 m2.z, .int .i64 m2.s, .int .i64 m2.h, .int .i64 m2.t, .int .i64 m2.f, .bool m2.r]) (t := 44) (fr := (0, 0)) HG6.out) (by simp [Value.oneCell']) (by omega) (by unfold maxLen; omega) (by omega) (by omega) _ rfl ?_
                  intro g7 c7 x4 hown hgrow hor hltn
                  replace HQb := Lib.hid (grow_keep2 hgrow HQb.out (fun e => by have e2 : gS = _ := Option.some.inj e; omega))
                  replace HRb := Lib.hid (grow_keep2 hgrow HRb.out (fun e => by have e2 : gS = _ := Option.some.inj e; omega))
                  replace BB := Lib.hid (Below.grown BB.out hgrow (by omega) (fun b hb => (HS.out.lt b hb).1))
                  have hgg2 : g3 ≠ g7 := by
                    have h3 := (HA.out.lt g3 rfl).2
                    rcases hor with h | h
                    · have e2 : gS = g7 := Option.some.inj h
                      omega
                    · omega
                  replace HA := Lib.hid (own_grow HA.out hgrow (fun b hb e => by cases hb; exact hgg (Option.some.inj e).symm))
                  replace HS := Lib.hid hown
                  clear hown hgrow hor hltn hbs hrl HG6
                  refine hK.out _ _ ⟨cell_of HQb.out (i := 0) rfl, cell_of HQb.out (i := 1) rfl, cell_of HQb.out (i := 2) rfl, cell_of HQb.out (i := 3) rfl, cell_of HQb.out (i := 4) rfl, cell_of HQb.out (i := 5) rfl, cell_of HRb.out (i := 0) rfl, cell_of HRb.out (i := 1) rfl, cell_of HRb.out (i := 2) rfl, cell_of HRb.out (i := 3) rfl, cell_of HRb.out (i := 4) rfl, cell_of HRb.out (i := 5) rfl, cell_of HRb.out (i := 6) rfl, cell_of HRb.out (i := 7) rfl⟩ (fun hHeldN => ?_)
                  clear hK K hHeld
                  have hHeld := hHeldN
                  clear hHeldN
                  try simp only [Act.put, pB, pC, pD]
                  refine tkH (by assumption) 8 (oi := ?_) (v := ?_) ?_ ?_ ?_ ?_ ?_ ?_ ?_ ?_; rotate_left 2; (simp only [gA, gB, gC]; exact rfl); kernel_rfl; kernel_rfl; kernel_rfl; exact fun _ _ _ h => h; rfl; (intro w' hSw; obtain ⟨s0, s1, s2, s3, s4, s5, d0, d1, d2, d3, d4, d5, d6, d7⟩ := hSw;go_simp; with_reducible rfl); simp only [Act.put, pB, pC, pD]
                  refine tkH (by assumption) 9 (oi := ?_) (v := ?_) ?_ ?_ ?_ ?_ ?_ ?_ ?_ ?_; rotate_left 2; (simp only [gA, gB, gC]; exact rfl); kernel_rfl; kernel_rfl; kernel_rfl; exact fun _ _ _ h => h; rfl; (intro w' hSw; obtain ⟨s0, s1, s2, s3, s4, s5, d0, d1, d2, d3, d4, d5, d6, d7⟩ := hSw;go_simp; with_reducible rfl); simp only [Act.put, pB, pC, pD]
                  refine wpAnyH_done (by kernel_rfl) ?_ _
                  clear hHeld
                  go_wp2_with (fail)
                  go_roundw
                  case rel => exact ⟨k + 1, lp ++ [s], some ⟨g3, 0, none⟩, c3, c7, g7, by go_num, by omega, by rw [List.length_append]; rfl, by rw [List.length_append]; rfl, by rw [fold_succ _ _ hlt, HL.out, RS.out, HSHL.out], fun t ht => (List.mem_append.1 ht).elim (HABp.out t) (fun h => by rw [List.mem_singleton.1 h]; exact HTk.out), by rw [List.length_append]; simp; omega, by rw [List.length_append, rowS_app]; exact HA.out, by rw [List.length_append, stL_snoc, rowM_app, show List.foldl aft m00 lp = m1 from RM1.out, RM2.out]; exact HS.out, (fun b hb => by cases hb; exact hgg2), BB.out⟩
                  case measure => simp [intOf] <;> omega
                exact AllReadyH.nil
              refine coH 6 (oi := ?_) ?_ ?_ (fun K hK => ?_) ?_; rotate_left; (simp only [gA, gB, gC]; exact rfl); rfl
              · go_wp2_with (fail)
                have hb : Below x0.heap.size x0 (x0.alloc (.cells #[.int .i64 m2.x, .int .i64 m2.y, .int .i64 m2.z, .int .i64 m2.s, .int .i64 m2.h, .int .i64 m2.t, .int .i64 m2.f, .bool m2.r] 44)) := (Below.refl _ _).alloc (Nat.le_refl _) _
                have hrl6 : r2 < x0.heap.size := lt_of_heap HRb.out
                have HG6 := Lib.hid (heap_alloc_new x0 (.cells #[.int .i64 m2.x, .int .i64 m2.y, .int .i64 m2.z, .int .i64 m2.s, .int .i64 m2.h, .int .i64 m2.t, .int .i64 m2.f, .bool m2.r] 44))
                replace HA := Lib.hid (ownsRow_below HA.out hb)
                replace HS := Lib.hid (ownsRow_below HS.out hb)
                replace HQb := Lib.hid (heap_keep hb HQb.out)
                replace HRb := Lib.hid (heap_keep hb HRb.out)
                replace BB := Lib.hid (BB.out.trans (hb.mono BB.out.size))
                clear hb
                refine hK.out _ _ ⟨cell_of HQb.out (i := 0) rfl, cell_of HQb.out (i := 1) rfl, cell_of HQb.out (i := 2) rfl, cell_of HQb.out (i := 3) rfl, cell_of HQb.out (i := 4) rfl, cell_of HQb.out (i := 5) rfl, cell_of HRb.out (i := 0) rfl, cell_of HRb.out (i := 1) rfl, cell_of HRb.out (i := 2) rfl, cell_of HRb.out (i := 3) rfl, cell_of HRb.out (i := 4) rfl, cell_of HRb.out (i := 5) rfl, cell_of HRb.out (i := 6) rfl, cell_of HRb.out (i := 7) rfl⟩ (fun hHeldN => ?_)
                clear hK K hHeld
                have hHeld := hHeldN
                clear hHeldN
                try simp only [Act.put, pB, pC, pD]
                generalize (x0.alloc (.cells #[.int .i64 m2.x, .int .i64 m2.y, .int .i64 m2.z, .int .i64 m2.s, .int .i64 m2.h, .int .i64 m2.t, .int .i64 m2.f, .bool m2.r] 44)) = x1 at *
                obtain ⟨g6, hg6⟩ : ∃ g, x0.heap.size = g := ⟨_, rfl⟩
                rw [hg6] at HG6 hrl6
                try rw [hg6]
                clear hg6
                refine onH 2 (oi := ?_) (by kernel_rfl) ?_ ?_ (fun K hK => ?_); rotate_left; (simp only [gA, gB, gC]; exact rfl); rfl
                go_wp2_with (fail)
                have hb : Below x1.heap.size x1 (x1.alloc (.cells #[.int .i64 s.k, .int .i64 s.x, .int .i64 s.y, .int .i64 s.z, .int .i64 s.f, .int .i64 s.n] 36)) := (Below.refl _ _).alloc (Nat.le_refl _) _
                have hrl2 : r2 < x1.heap.size := lt_of_heap HRb.out
                have HG2 := Lib.hid (heap_alloc_new x1 (.cells #[.int .i64 s.k, .int .i64 s.x, .int .i64 s.y, .int .i64 s.z, .int .i64 s.f, .int .i64 s.n] 36))
                replace HA := Lib.hid (ownsRow_below HA.out hb)
                replace HS := Lib.hid (ownsRow_below HS.out hb)
                replace HQb := Lib.hid (heap_keep hb HQb.out)
                replace HRb := Lib.hid (heap_keep hb HRb.out)
                replace HG6 := Lib.hid (heap_keep hb HG6.out)
                replace BB := Lib.hid (BB.out.trans (hb.mono BB.out.size))
                clear hb
                refine hK.out _ _ ⟨cell_of HQb.out (i := 0) rfl, cell_of HQb.out (i := 1) rfl, cell_of HQb.out (i := 2) rfl, cell_of HQb.out (i := 3) rfl, cell_of HQb.out (i := 4) rfl, cell_of HQb.out (i := 5) rfl, cell_of HRb.out (i := 0) rfl, cell_of HRb.out (i := 1) rfl, cell_of HRb.out (i := 2) rfl, cell_of HRb.out (i := 3) rfl, cell_of HRb.out (i := 4) rfl, cell_of HRb.out (i := 5) rfl, cell_of HRb.out (i := 6) rfl, cell_of HRb.out (i := 7) rfl⟩ (fun hHeldN => ?_)
                clear hK K hHeld
                have hHeld := hHeldN
                clear hHeldN
                try simp only [Act.put, pB, pC, pD]
                generalize (x1.alloc (.cells #[.int .i64 s.k, .int .i64 s.x, .int .i64 s.y, .int .i64 s.z, .int .i64 s.f, .int .i64 s.n] 36)) = x2 at *
                obtain ⟨g2, hg2⟩ : ∃ g, x1.heap.size = g := ⟨_, rfl⟩
                rw [hg2] at HG2 hrl2
                try rw [hg2]
                clear hg2
                refine onH 3 (oi := ?_) (by kernel_rfl) ?_ ?_ (fun K hK => ?_); rotate_left; (simp only [gA, gB, gC]; exact rfl); rfl
                have hbs := BB.out.size
                have hrl := lt_of_heap HRb.out
                refine wp_append_lies _ _ _ 26 rfl w1.heap.size 36 i0 (.agg #[.int .i64 0, .int .i64 0, .int .i64 0, .int .i64 0, .int .i64 0, .int .i64 0]) 6 48 Try.underlying26 hi0 hz0 hz1 hz2 rfl (by decide) _ _ _ rfl HA.out ⟨g2, 0, none⟩ 1 1 [.int .i64 s.k, .int .i64 s.x, .int .i64 s.y, .int .i64 s.z, .int .i64 s.f, .int .i64 s.n] rfl rfl (World.news_of_block (cs := #[.int .i64 s.k, .int .i64 s.x, .int .i64 s.y, .int .i64 s.z, .int .i64 s.f, .int .i64 s.n]) (t := 36) (fr := (0, 0)) HG2.out) (by simp [Value.oneCell']) (by omega) (by unfold maxLen; omega) (by omega) (by omega) _ rfl ?_
                intro g3 c3 x3 hown hgrow hor hltn
                replace HQb := Lib.hid (grow_keep2 hgrow HQb.out (fun e => by have := HAQ.out _ e; omega))
                replace HRb := Lib.hid (grow_keep2 hgrow HRb.out (fun e => by have := HAQ.out _ e; omega))
                replace HG6 := Lib.hid (grow_keep2 hgrow HG6.out (fun e => by have := HAQ.out _ e; omega))
                replace HS := Lib.hid (own_grow HS.out hgrow (fun b hb e => hapart b e (by cases hb; rfl)))
                replace BB := Lib.hid (Below.grown BB.out hgrow (by omega) (fun b hb => (HA.out.lt b hb).1))
                have hgg : g3 ≠ gS := by
                  rcases hor with h | h
                  · exact hapart g3 h
                  · omega
                replace HA := Lib.hid hown
                have hg3l := hltn
                clear hown hgrow hor hltn hbs hrl HG2
                refine hK.out _ _ ⟨cell_of HQb.out (i := 0) rfl, cell_of HQb.out (i := 1) rfl, cell_of HQb.out (i := 2) rfl, cell_of HQb.out (i := 3) rfl, cell_of HQb.out (i := 4) rfl, cell_of HQb.out (i := 5) rfl, cell_of HRb.out (i := 0) rfl, cell_of HRb.out (i := 1) rfl, cell_of HRb.out (i := 2) rfl, cell_of HRb.out (i := 3) rfl, cell_of HRb.out (i := 4) rfl, cell_of HRb.out (i := 5) rfl, cell_of HRb.out (i := 6) rfl, cell_of HRb.out (i := 7) rfl⟩ (fun hHeldN => ?_)
                clear hK K hHeld
                have hHeld := hHeldN
                clear hHeldN
                try simp only [Act.put, pB, pC, pD]
                refine onH 7 (oi := ?_) (by kernel_rfl) ?_ ?_ (fun K hK => ?_); rotate_left; (simp only [gA, gB, gC]; exact rfl); rfl
                have hbs := BB.out.size
                have hrl := lt_of_heap HRb.out
                refine wp_append_lies _ _ _ 50 rfl w1.heap.size 44 i1 (.agg #[.int .i64 0, .int .i64 0, .int .i64 0, .int .i64 0, .int .i64 0, .int .i64 0, .int .i64 0, .bool false]) 8 64 Try.underlying50 hi1 hy0 hy1 hy2 rfl (by decide) _ _ _ rfl HS.out ⟨g6, 0, none⟩ 1 1 [.int .i64 m2.x, .int .i64 m2.y, .int .i64 m2.z, .int .i64 m2.s, .int .i64 m2.h, .int .i64 m2.t, .int .i64 m2.f, .bool m2.r] rfl rfl (World.news_of_block (cs := #[.int .i64 m2.x, .int .i64 m2.y, .int .i64 m2.z, .int .i64 m2.s, .int .i64 m2.h, .int .i64 m2.t, .int .i64 m2.f, .bool m2.r]) (t := 44) (fr := (0, 0)) HG6.out) (by simp [Value.oneCell']) (by omega) (by unfold maxLen; omega) (by omega) (by omega) _ rfl ?_
                intro g7 c7 x4 hown hgrow hor hltn
                replace HQb := Lib.hid (grow_keep2 hgrow HQb.out (fun e => by have e2 : gS = _ := Option.some.inj e; omega))
                replace HRb := Lib.hid (grow_keep2 hgrow HRb.out (fun e => by have e2 : gS = _ := Option.some.inj e; omega))
                replace BB := Lib.hid (Below.grown BB.out hgrow (by omega) (fun b hb => (HS.out.lt b hb).1))
                have hgg2 : g3 ≠ g7 := by
                  have h3 := (HA.out.lt g3 rfl).2
                  rcases hor with h | h
                  · have e2 : gS = g7 := Option.some.inj h
                    omega
                  · omega
                replace HA := Lib.hid (own_grow HA.out hgrow (fun b hb e => by cases hb; exact hgg (Option.some.inj e).symm))
                replace HS := Lib.hid hown
                clear hown hgrow hor hltn hbs hrl HG6
                refine hK.out _ _ ⟨cell_of HQb.out (i := 0) rfl, cell_of HQb.out (i := 1) rfl, cell_of HQb.out (i := 2) rfl, cell_of HQb.out (i := 3) rfl, cell_of HQb.out (i := 4) rfl, cell_of HQb.out (i := 5) rfl, cell_of HRb.out (i := 0) rfl, cell_of HRb.out (i := 1) rfl, cell_of HRb.out (i := 2) rfl, cell_of HRb.out (i := 3) rfl, cell_of HRb.out (i := 4) rfl, cell_of HRb.out (i := 5) rfl, cell_of HRb.out (i := 6) rfl, cell_of HRb.out (i := 7) rfl⟩ (fun hHeldN => ?_)
                clear hK K hHeld
                have hHeld := hHeldN
                clear hHeldN
                try simp only [Act.put, pB, pC, pD]
                refine tkH (by assumption) 8 (oi := ?_) (v := ?_) ?_ ?_ ?_ ?_ ?_ ?_ ?_ ?_; rotate_left 2; (simp only [gA, gB, gC]; exact rfl); kernel_rfl; kernel_rfl; kernel_rfl; exact fun _ _ _ h => h; rfl; (intro w' hSw; obtain ⟨s0, s1, s2, s3, s4, s5, d0, d1, d2, d3, d4, d5, d6, d7⟩ := hSw;go_simp; with_reducible rfl); simp only [Act.put, pB, pC, pD]
                refine tkH (by assumption) 9 (oi := ?_) (v := ?_) ?_ ?_ ?_ ?_ ?_ ?_ ?_ ?_; rotate_left 2; (simp only [gA, gB, gC]; exact rfl); kernel_rfl; kernel_rfl; kernel_rfl; exact fun _ _ _ h => h; rfl; (intro w' hSw; obtain ⟨s0, s1, s2, s3, s4, s5, d0, d1, d2, d3, d4, d5, d6, d7⟩ := hSw;go_simp; with_reducible rfl); simp only [Act.put, pB, pC, pD]
                refine wpAnyH_done (by kernel_rfl) ?_ _
                clear hHeld
                go_wp2_with (fail)
                go_roundw
                case rel => exact ⟨k + 1, lp ++ [s], some ⟨g3, 0, none⟩, c3, c7, g7, by go_num, by omega, by rw [List.length_append]; rfl, by rw [List.length_append]; rfl, by rw [fold_succ _ _ hlt, HL.out, RS.out, HSHL.out], fun t ht => (List.mem_append.1 ht).elim (HABp.out t) (fun h => by rw [List.mem_singleton.1 h]; exact HTk.out), by rw [List.length_append]; simp; omega, by rw [List.length_append, rowS_app]; exact HA.out, by rw [List.length_append, stL_snoc, rowM_app, show List.foldl aft m00 lp = m1 from RM1.out, RM2.out]; exact HS.out, (fun b hb => by cases hb; exact hgg2), BB.out⟩
                case measure => simp [intOf] <;> omega
              exact AllReadyH.nil
      · obtain rfl : L.length = k := by omega
        rw [List.take_length] at HL
        have HSH := Lib.hid (show shortP n S = l by
          have h1 : stepsE n S = 0 := by
            have := HZ.out
            unfold oneE at this
            split at this
            · assumption
            · exact absurd this ‹_›
          have h2 : absE n S = 0 := by
            have := HZ.out
            unfold oneE at this
            rwa [if_pos h1] at this
          unfold shortP shortO
          rw [if_pos h1, if_pos h2, HL0.out]
          exact HL.out)
        have HPR := Lib.hid (own_rowS HOA0.out rfl)
        have hcap := own_cap HOA0.out
        have HBw := Lib.hid (B1.out.trans (HB.out.mono B1.out.size))
        go_wp2_with (fail)
        exact bodyPost_ret (v := .tuple #[.slice aA l.length cA, .int .i64 0]) (by simp [results, Try.results7, go_sem]) rfl ⟨aA, l.length, cA, _, by rw [HZ.out], by rw [HSH.out]; exact Nat.le_refl _, hcap, HPR.out, fun _ => ⟨by rw [HSH.out], by rw [HSH.out]⟩, fun h => absurd HZ.out h, HBw.out⟩
  · have HZ := Lib.hid hz
    have hz' : (oneE n S (absE n S) != 0) = true := by simpa using hz
    have hno0 := hE1 hz
    clear hz
    go_wp2_with (fail)
    exact bodyPost_ret (v := .tuple #[.slice none 0 0, .int .i64 (oneE n S (absE n S))]) (by simp [results, Try.results7, go_sem]) rfl ⟨none, 0, 0, fun _ => s00, rfl, Nat.zero_le _, Nat.le_refl _, .inl rfl, fun h => absurd h HZ.out, fun _ => rfl, B1.out⟩
end Go.Proofs.Ythmplflmjjccfaa

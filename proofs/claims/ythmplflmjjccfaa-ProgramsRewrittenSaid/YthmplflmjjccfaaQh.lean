/- ShortOf of the reference. -/
import Derived.Test.YthmplflmjjccfaaQg
import Derived.BigQuiet
import Derived.Deep.QuietTactic
import Derived.Deep.Cut
import Derived.Deep.CutRange
set_option linter.unusedSimpArgs false
set_option linter.unusedVariables false
namespace Go.Proofs.Ythmplflmjjccfaa
open Go.RowKit
def lenOf (v : Value) : Nat := match v with | .slice _ n _ => n | _ => 0
def shortO (n : Nat) (S : Nat → St) : List St := if absE n S = 0 then shortL (absL S n) else []
theorem take_succ (l : List St) (k : Nat) (hl : k < l.length) : l.take (k + 1) = l.take k ++ [lf l k] := by
  have e2 : lf l k = l[k] := by unfold lf; rw [List.getD_eq_getElem?_getD, List.getElem?_eq_getElem hl]; rfl
  rw [List.take_add_one, List.getElem?_eq_getElem hl, e2]; rfl
set_option maxRecDepth 100000 in
set_option maxHeartbeats 16000000 in
theorem shortOf_any (a : Option Addr) (n c : Nat) (S : Nat → St) (w : World) (hn : n ≤ 4000) (hok : ∀ i, i < n → SOk (S i)) (hp : StepsR w a n S) :
    Calls Try.prog 13 #[.slice a n c] w (MadeS w (absE n S) (shortO n S)) := by
  obtain ⟨i0, hi0, hz0, hz1, hz2⟩ := info_parts2 info_st
  have HAB := Lib.hid (absL_ab (by omega) hok)
  have hLn := absL_len S n
  go_enter Try.func13, Try.ntmps13
  go_wp2_with (fail)
  refine (absoluteOf_any a n c S w (by omega) hok hp).mono ?_
  rintro e w1 ⟨ao, no, co, T, rfl, hno, hnc, hpo, hb, hE0, hE1, -⟩
  have HPO := Lib.hid hpo
  have B1 := Lib.hid hb
  clear hpo hb hok hp
  by_cases hz : absE n S = 0
  · have HZ := Lib.hid hz
    have hz' : (absE n S != 0) = false := by simp [hz]
    obtain ⟨rfl, rfl⟩ := hE0 hz
    have HAOK := Lib.hid (fun s hs => (HAB.out s hs).a)
    clear hz hE0 hE1
    obtain ⟨L0, hL0⟩ : ∃ l, absL S n = l := ⟨_, rfl⟩
    have HL0 := Lib.hid hL0
    rw [hL0] at HPO HAB HAOK hLn hno hnc ⊢
    clear hL0
    go_wp2_with (fail)
    go_loopw [4] (fun v wr => ∃ (l : List St) (a1 : Option Addr) (c1 : Nat), v = .slice a1 l.length c1 ∧ l.length ≤ c1 ∧ StepsR wr a1 l.length (lf l) ∧ (∀ s ∈ l, AB s) ∧ shortL l = shortL L0 ∧ l.length ≤ L0.length ∧ Below w.heap.size w wr) (fun v _ => lenOf v)
    case atStart => exact ⟨L0, ao, co, rfl, hnc, HPO.out, HAB.out, rfl, Nat.le_refl _, B1.out⟩
    case round =>
      clear HPO HAB HAOK B1
      obtain ⟨l, a1, c1, rfl, hlc, hpl, hab, hsl, hll, hbel⟩ := hrel
      have HPL := Lib.hid hpl
      have HAB := Lib.hid hab
      have HSL := Lib.hid hsl
      have HB := Lib.hid hbel
      clear hpl hab hsl hbel
      have HB0 := Lib.hid (show Below wr.heap.size wr (wr.alloc (.cells #[.int .i64 0, .int .i64 0, .int .i64 0, .int .i64 0, .int .i64 0, .int .i64 0, .int .i64 0, .bool false] 44)) from (Below.refl _ _).alloc (Nat.le_refl _) _)
      have HX0 := Lib.hid (show (wr.alloc (.cells #[.int .i64 0, .int .i64 0, .int .i64 0, .int .i64 0, .int .i64 0, .int .i64 0, .int .i64 0, .bool false] 44)).heap[wr.heap.size]? = some (.cells #[.int .i64 (runF m00 (lf l) 0).x, .int .i64 (runF m00 (lf l) 0).y, .int .i64 (runF m00 (lf l) 0).z, .int .i64 (runF m00 (lf l) 0).s, .int .i64 (runF m00 (lf l) 0).h, .int .i64 (runF m00 (lf l) 0).t, .int .i64 (runF m00 (lf l) 0).f, .bool (runF m00 (lf l) 0).r] 44 (0, 0)) from heap_new rfl)
      have hs0 : (wr.alloc (.cells #[.int .i64 0, .int .i64 0, .int .i64 0, .int .i64 0, .int .i64 0, .int .i64 0, .int .i64 0, .bool false] 44)).heap.size = wr.heap.size + 1 := by simp
      obtain ⟨wo, hwo⟩ : ∃ wo : World, wr = wo := ⟨_, rfl⟩
      rw [hwo] at HPL HB HB0 HX0 hs0 ⊢
      clear hwo
      go_wp2_with (fail)
      generalize (wo.alloc (.cells #[.int .i64 0, .int .i64 0, .int .i64 0, .int .i64 0, .int .i64 0, .int .i64 0, .int .i64 0, .bool false] 44)) = w0 at *
      obtain ⟨g, hg⟩ : ∃ g, wo.heap.size = g := ⟨_, rfl⟩
      rw [hg] at HX0 hs0
      try rw [hg]
      go_loopw [6, 23] (fun v i wr => ∃ (k : Nat) (a2 : Option Addr) (c2 : Nat), k ≤ l.length ∧ i = .int .i64 k ∧ v = .slice a2 (filtL m00 (l.take k)).length c2 ∧ wr.heap[g]? = some (.cells #[.int .i64 (runF m00 (lf l) k).x, .int .i64 (runF m00 (lf l) k).y, .int .i64 (runF m00 (lf l) k).z, .int .i64 (runF m00 (lf l) k).s, .int .i64 (runF m00 (lf l) k).h, .int .i64 (runF m00 (lf l) k).t, .int .i64 (runF m00 (lf l) k).f, .bool (runF m00 (lf l) k).r] 44 (0, 0)) ∧ wr.ownsRow (g + 1) 36 6 (.slice a2 (filtL m00 (l.take k)).length c2) (filtL m00 (l.take k)).length (rowS (filtL m00 (l.take k))) ∧ g + 1 ≤ wr.heap.size ∧ Below wo.heap.size wo wr) (fun _ i _ => l.length - (intOf i).toNat)
      case atStart => exact ⟨0, none, 0, by omega, rfl, by rw [List.take_zero]; rfl, HX0.out, by rw [List.take_zero]; exact World.ownsRow_nil _ _ _ _, by omega, HB0.out⟩
      case round =>
        clear HX0 HB0
        obtain ⟨k, a2, c2, hk, rfl, rfl, hx, hown, hgs, hbw⟩ := hrel
        have HX := Lib.hid hx
        have HO := Lib.hid hown
        have HBW := Lib.hid hbw
        have hgw := lt_of_heap hx
        have hsz := hbw.size
        have hfl : (filtL m00 (l.take k)).length ≤ k := by have := filt_len m00 (l.take k); rw [List.length_take] at this; omega
        clear hx hown hbw
        by_cases hlt : k < l.length
        · rcases HPL.out with h0 | ⟨b, off, rfl, hb, hd⟩
          · omega
          obtain ⟨c0, c1', c2', c3, c4, c5⟩ := hd k hlt
          replace c0 := cellk HBW.out hb c0
          replace c1' := cellk HBW.out hb c1'
          replace c2' := cellk HBW.out hb c2'
          replace c3 := cellk HBW.out hb c3
          replace c4 := cellk HBW.out hb c4
          replace c5 := cellk HBW.out hb c5
          have hbw : b < wr.heap.size := Nat.lt_of_lt_of_le hb hsz
          have HTa : Hid (∀ i, i < l.length → AB (lf l i)) := Lib.hid (fun i hi => HAB.out _ (by
            unfold lf
            rw [List.getD_eq_getElem?_getD, List.getElem?_eq_getElem hi]
            exact List.getElem_mem _))
          have HTk := Lib.hid (HTa.out k hlt)
          have HMk := Lib.hid (abm_run (T := lf l) (n := k) (fun i hi => HTa.out i (by omega)))
          have HTK := Lib.hid (take_succ l k hlt)
          have HRA := Lib.hid (runF_take l k hk).symm
          clear hd HTa
          obtain ⟨s, hs⟩ : ∃ s, lf l k = s := ⟨_, rfl⟩
          obtain ⟨m1, hm1⟩ : ∃ m1, runF m00 (lf l) k = m1 := ⟨_, rfl⟩
          have RM1 := Lib.hid hm1
          have hm2 : runF m00 (lf l) (k + 1) = aft m1 s := by rw [runF, hs, hm1]
          rw [hs] at c0 c1' c2' c3 c4 c5 HTk HTK
          rw [hm1] at HX HMk
          have RM2 := Lib.hid hm2
          obtain ⟨rl, hrl⟩ : ∃ r, filtL m00 (l.take k) = r := ⟨_, rfl⟩
          have RL := Lib.hid hrl
          rw [hrl] at HO hfl ⊢
          clear hs hm1 hm2 hrl
          have d0 : wr.cell? ⟨g, 0, none⟩ = some (.int .i64 m1.x) := cell_of HX.out (i := 0) rfl
          have d1 : wr.cell? ⟨g, 1, none⟩ = some (.int .i64 m1.y) := cell_of HX.out (i := 1) rfl
          have d2 : wr.cell? ⟨g, 2, none⟩ = some (.int .i64 m1.z) := cell_of HX.out (i := 2) rfl
          have d3 : wr.cell? ⟨g, 3, none⟩ = some (.int .i64 m1.s) := cell_of HX.out (i := 3) rfl
          have d4 : wr.cell? ⟨g, 4, none⟩ = some (.int .i64 m1.h) := cell_of HX.out (i := 4) rfl
          have d5 : wr.cell? ⟨g, 5, none⟩ = some (.int .i64 m1.t) := cell_of HX.out (i := 5) rfl
          have d6 : wr.cell? ⟨g, 6, none⟩ = some (.int .i64 m1.f) := cell_of HX.out (i := 6) rfl
          have d7 : wr.cell? ⟨g, 7, none⟩ = some (.bool m1.r) := cell_of HX.out (i := 7) rfl
          go_wp2_with (fail)
          have hb1 : Below wr.heap.size wr (wr.alloc (.cells #[.int .i64 s.k, .int .i64 s.x, .int .i64 s.y, .int .i64 s.z, .int .i64 s.f, .int .i64 s.n] 36)) := (Below.refl _ _).alloc (Nat.le_refl _) _
          have HS1 := Lib.hid (heap_alloc_new wr (.cells #[.int .i64 s.k, .int .i64 s.x, .int .i64 s.y, .int .i64 s.z, .int .i64 s.f, .int .i64 s.n] 36))
          have B1 := Lib.hid hb1
          clear hb1 c0 c1' c2' c3 c4 c5 d0 d1 d2 d3 d4 d5 d6 d7
          generalize (wr.alloc (.cells #[.int .i64 s.k, .int .i64 s.x, .int .i64 s.y, .int .i64 s.z, .int .i64 s.f, .int .i64 s.n] 36)) = w1' at *
          obtain ⟨q, hq⟩ : ∃ q, wr.heap.size = q := ⟨_, rfl⟩
          have HQ := Lib.hid hq
          rw [hq] at HS1
          try rw [hq]
          clear hq
          refine (idle_any m1 s _ HTk.out.k (HMk.out.fit HTk.out (by omega))).mono ?_
          rintro e w2 ⟨rfl, hb2⟩
          have HS2 := Lib.hid (heap_keep hb2 HS1.out)
          replace B1 := Lib.hid (B1.out.trans (hb2.mono B1.out.size))
          have HX2 := Lib.hid (heap_keep B1.out HX.out)
          have HO2 := Lib.hid (ownsRow_below HO.out B1.out)
          have HOQ := Lib.hid (fun (b : Nat) (hb : (Value.slice a2 rl.length c2).ownBlock = some b) => (show b < q by have := HO.out.lt b hb; have := HQ.out; omega))
          have B2 := Lib.hid (HBW.out.trans (B1.out.mono hsz))
          have hq2 := lt_of_heap HS2.out
          have hgq : g < q := by have := HQ.out; omega
          have hwo2 := B2.out.size
          clear hb2 HS1 HX HO HBW B1
          obtain ⟨ib, hib⟩ : ∃ x, idleB m1 s = x := ⟨_, rfl⟩
          have HIB := Lib.hid hib
          rw [hib]
          clear hib
          have s0 : w2.cell? ⟨q, 0, none⟩ = some (.int .i64 s.k) := cell_of HS2.out (i := 0) rfl
          have s1 : w2.cell? ⟨q, 1, none⟩ = some (.int .i64 s.x) := cell_of HS2.out (i := 1) rfl
          have s2 : w2.cell? ⟨q, 2, none⟩ = some (.int .i64 s.y) := cell_of HS2.out (i := 2) rfl
          have s3 : w2.cell? ⟨q, 3, none⟩ = some (.int .i64 s.z) := cell_of HS2.out (i := 3) rfl
          have s4 : w2.cell? ⟨q, 4, none⟩ = some (.int .i64 s.f) := cell_of HS2.out (i := 4) rfl
          have s5 : w2.cell? ⟨q, 5, none⟩ = some (.int .i64 s.n) := cell_of HS2.out (i := 5) rfl
          rcases ib with _ | _
          · have hkeep : ¬ (aft m1 s = m1 ∧ timeB s = false) := fun h => by have := HIB.out; unfold idleB at this; rw [decide_eq_false_iff_not] at this; exact this h.1
            have HFL := Lib.hid (show filtL m00 (l.take (k + 1)) = rl ++ [s] by rw [HTK.out, filtL_snoc, HRA.out, if_neg (by rw [RM1.out]; exact hkeep), RL.out])
            go_wp2_with (at_builtin; refine wpList_append_lies _ rfl _ _ 26 rfl (g + 1) 36 i0 (.agg #[.int .i64 0, .int .i64 0, .int .i64 0, .int .i64 0, .int .i64 0, .int .i64 0]) 6 48 Try.underlying26 hi0 hz0 hz1 hz2 rfl (by decide) _ _ _ rfl (ownsRow_below (HO2.out) ((Below.refl _ w2).alloc (Nat.le_refl _) _)) ⟨w2.heap.size, 0, none⟩ 1 1 [.int .i64 s.k, .int .i64 s.x, .int .i64 s.y, .int .i64 s.z, .int .i64 s.f, .int .i64 s.n] rfl rfl (World.news_of_block (cs := #[.int .i64 s.k, .int .i64 s.x, .int .i64 s.y, .int .i64 s.z, .int .i64 s.f, .int .i64 s.n]) (t := 36) (fr := (0, 0)) (heap_alloc_new w2 (.cells #[.int .i64 s.k, .int .i64 s.x, .int .i64 s.y, .int .i64 s.z, .int .i64 s.f, .int .i64 s.n] 36))) (by simp [Value.oneCell']) (by omega) (by unfold maxLen; omega) (by omega) (by simp; omega) (w2.heap.size + 1) (by simp) ?_; intro g5 c5 w5 hown5 hgrow5 hge5 hlt5; have HO5 := Lib.hid hown5; have HB5 := Lib.hid (Below.grown (B := (g + 1)) (Below.alloc (B := (g + 1)) (Below.refl _ w2) (by omega) (.cells #[.int .i64 s.k, .int .i64 s.x, .int .i64 s.y, .int .i64 s.z, .int .i64 s.f, .int .i64 s.n] 36)) hgrow5 (by simp; omega) (fun b hb => ((HO2.out).lt b hb).1)); have HG5 := Lib.hid hgrow5; clear hown5 hgrow5 hge5; have hX5 : w5.heap[g]? = some (.cells #[.int .i64 m1.x, .int .i64 m1.y, .int .i64 m1.z, .int .i64 m1.s, .int .i64 m1.h, .int .i64 m1.t, .int .i64 m1.f, .bool m1.r] 44 (0, 0)) := (HB5.out.block g (by omega)).trans HX2.out; have hS5 : w5.heap[q]? = some (.cells #[.int .i64 s.k, .int .i64 s.x, .int .i64 s.y, .int .i64 s.z, .int .i64 s.f, .int .i64 s.n] 36 (0, 0)) := (HG5.out.block q (by simp; omega) (fun e => by have := HOQ.out q e.symm; omega)).trans ((Below.heap_alloc _ _ _ (by omega)).trans HS2.out); have HXZ := Lib.hid hX5; have HSZ := Lib.hid hS5; clear hX5 hS5; have d0 : w5.cell? ⟨g, 0, none⟩ = some (.int .i64 m1.x) := cell_of HXZ.out (i := 0) rfl; have d1 : w5.cell? ⟨g, 1, none⟩ = some (.int .i64 m1.y) := cell_of HXZ.out (i := 1) rfl; have d2 : w5.cell? ⟨g, 2, none⟩ = some (.int .i64 m1.z) := cell_of HXZ.out (i := 2) rfl; have d3 : w5.cell? ⟨g, 3, none⟩ = some (.int .i64 m1.s) := cell_of HXZ.out (i := 3) rfl; have d4 : w5.cell? ⟨g, 4, none⟩ = some (.int .i64 m1.h) := cell_of HXZ.out (i := 4) rfl; have d5 : w5.cell? ⟨g, 5, none⟩ = some (.int .i64 m1.t) := cell_of HXZ.out (i := 5) rfl; have d6 : w5.cell? ⟨g, 6, none⟩ = some (.int .i64 m1.f) := cell_of HXZ.out (i := 6) rfl; have d7 : w5.cell? ⟨g, 7, none⟩ = some (.bool m1.r) := cell_of HXZ.out (i := 7) rfl; have t0 : w5.cell? ⟨q, 0, none⟩ = some (.int .i64 s.k) := cell_of HSZ.out (i := 0) rfl; have t1 : w5.cell? ⟨q, 1, none⟩ = some (.int .i64 s.x) := cell_of HSZ.out (i := 1) rfl; have t2 : w5.cell? ⟨q, 2, none⟩ = some (.int .i64 s.y) := cell_of HSZ.out (i := 2) rfl; have t3 : w5.cell? ⟨q, 3, none⟩ = some (.int .i64 s.z) := cell_of HSZ.out (i := 3) rfl; have t4 : w5.cell? ⟨q, 4, none⟩ = some (.int .i64 s.f) := cell_of HSZ.out (i := 4) rfl; have t5 : w5.cell? ⟨q, 5, none⟩ = some (.int .i64 s.n) := cell_of HSZ.out (i := 5) rfl)
            have HOZ := HO5
            have BZ := Lib.hid (B2.out.trans (HB5.out.mono (by omega)))
            clear d0 d1 d2 d3 d4 d5 d6 d7 t0 t1 t2 t3 t4 t5
            refine (after_fit m1 s _ HTk.out.k (HMk.out.fit HTk.out (by omega))).mono ?_
            rintro e w6 ⟨rfl, hb6⟩
            obtain ⟨m2, hm2⟩ : ∃ m2, aft m1 s = m2 := ⟨_, rfl⟩
            have RM3 := Lib.hid hm2
            rw [hm2] at RM2 ⊢
            clear hm2
            have HX6 := Lib.hid (heap_keep hb6 HXZ.out)
            have HO6 := Lib.hid (ownsRow_below HOZ.out hb6)
            have B6 := Lib.hid (BZ.out.trans (hb6.mono (by have := BZ.out.size; omega)))
            clear hb6
            have d0 : w6.cell? ⟨g, 0, none⟩ = some (.int .i64 m1.x) := cell_of HX6.out (i := 0) rfl
            have d1 : w6.cell? ⟨g, 1, none⟩ = some (.int .i64 m1.y) := cell_of HX6.out (i := 1) rfl
            have d2 : w6.cell? ⟨g, 2, none⟩ = some (.int .i64 m1.z) := cell_of HX6.out (i := 2) rfl
            have d3 : w6.cell? ⟨g, 3, none⟩ = some (.int .i64 m1.s) := cell_of HX6.out (i := 3) rfl
            have d4 : w6.cell? ⟨g, 4, none⟩ = some (.int .i64 m1.h) := cell_of HX6.out (i := 4) rfl
            have d5 : w6.cell? ⟨g, 5, none⟩ = some (.int .i64 m1.t) := cell_of HX6.out (i := 5) rfl
            have d6 : w6.cell? ⟨g, 6, none⟩ = some (.int .i64 m1.f) := cell_of HX6.out (i := 6) rfl
            have d7 : w6.cell? ⟨g, 7, none⟩ = some (.bool m1.r) := cell_of HX6.out (i := 7) rfl
            have g0 := fun i => frozen_of (i := i) HX6.out
            go_wp2_with (fail)
            obtain ⟨hx7, hm7⟩ := storeMa (W := ((((((((w6.setCell ⟨g, 0, none⟩ (.int .i64 m2.x)).setCell ⟨g, 1, none⟩ (.int .i64 m2.y)).setCell ⟨g, 2, none⟩ (.int .i64 m2.z)).setCell ⟨g, 3, none⟩ (.int .i64 m2.s)).setCell ⟨g, 4, none⟩ (.int .i64 m2.h)).setCell ⟨g, 5, none⟩ (.int .i64 m2.t)).setCell ⟨g, 6, none⟩ (.int .i64 m2.f)).setCell ⟨g, 7, none⟩ (.bool m2.r))) HX6.out (m2 := m2) rfl
            generalize ((((((((w6.setCell ⟨g, 0, none⟩ (.int .i64 m2.x)).setCell ⟨g, 1, none⟩ (.int .i64 m2.y)).setCell ⟨g, 2, none⟩ (.int .i64 m2.z)).setCell ⟨g, 3, none⟩ (.int .i64 m2.s)).setCell ⟨g, 4, none⟩ (.int .i64 m2.h)).setCell ⟨g, 5, none⟩ (.int .i64 m2.t)).setCell ⟨g, 6, none⟩ (.int .i64 m2.f)).setCell ⟨g, 7, none⟩ (.bool m2.r)) = w7 at *
            have HX7 := Lib.hid hx7
            have HO7 := Lib.hid (own_mut HO6.out hm7 (fun b hb e => by have := (HO6.out.lt b hb).1; omega))
            have B7 := Lib.hid (B6.out.trans (hm7.toBelow wo.heap.size B6.out.size (fun b hb h => by omega)))
            have hs7 : g + 1 ≤ w7.heap.size := lt_of_heap hx7
            clear hx7 hm7
            go_roundw
            case rel => exact ⟨k + 1, _, _, by omega, by go_num, by rw [HFL.out, List.length_append]; rfl, by rw [RM2.out]; exact HX7.out, by rw [HFL.out, List.length_append, rowS_app]; exact HO7.out, hs7, B7.out⟩
            case measure => simp [intOf] <;> omega
          · have hid : aft m1 s = m1 := by have := HIB.out; unfold idleB at this; rwa [decide_eq_true_eq] at this
            by_cases h7 : s.k = 7
            · by_cases h9 : 0 < s.n
              · have hkeep : ¬ (aft m1 s = m1 ∧ timeB s = false) := fun h => by have := h.2; unfold timeB at this; rw [decide_eq_false_iff_not] at this; exact this ⟨h7, h9⟩
                have h7' : (s.k == 7) = true := by simpa using h7
                clear h7
                have HFL := Lib.hid (show filtL m00 (l.take (k + 1)) = rl ++ [s] by rw [HTK.out, filtL_snoc, HRA.out, if_neg (by rw [RM1.out]; exact hkeep), RL.out])
                go_wp2_with (at_builtin; refine wpList_append_lies _ rfl _ _ 26 rfl (g + 1) 36 i0 (.agg #[.int .i64 0, .int .i64 0, .int .i64 0, .int .i64 0, .int .i64 0, .int .i64 0]) 6 48 Try.underlying26 hi0 hz0 hz1 hz2 rfl (by decide) _ _ _ rfl (ownsRow_below (HO2.out) ((Below.refl _ w2).alloc (Nat.le_refl _) _)) ⟨w2.heap.size, 0, none⟩ 1 1 [.int .i64 s.k, .int .i64 s.x, .int .i64 s.y, .int .i64 s.z, .int .i64 s.f, .int .i64 s.n] rfl rfl (World.news_of_block (cs := #[.int .i64 s.k, .int .i64 s.x, .int .i64 s.y, .int .i64 s.z, .int .i64 s.f, .int .i64 s.n]) (t := 36) (fr := (0, 0)) (heap_alloc_new w2 (.cells #[.int .i64 s.k, .int .i64 s.x, .int .i64 s.y, .int .i64 s.z, .int .i64 s.f, .int .i64 s.n] 36))) (by simp [Value.oneCell']) (by omega) (by unfold maxLen; omega) (by omega) (by simp; omega) (w2.heap.size + 1) (by simp) ?_; intro g5 c5 w5 hown5 hgrow5 hge5 hlt5; have HO5 := Lib.hid hown5; have HB5 := Lib.hid (Below.grown (B := (g + 1)) (Below.alloc (B := (g + 1)) (Below.refl _ w2) (by omega) (.cells #[.int .i64 s.k, .int .i64 s.x, .int .i64 s.y, .int .i64 s.z, .int .i64 s.f, .int .i64 s.n] 36)) hgrow5 (by simp; omega) (fun b hb => ((HO2.out).lt b hb).1)); have HG5 := Lib.hid hgrow5; clear hown5 hgrow5 hge5; have hX5 : w5.heap[g]? = some (.cells #[.int .i64 m1.x, .int .i64 m1.y, .int .i64 m1.z, .int .i64 m1.s, .int .i64 m1.h, .int .i64 m1.t, .int .i64 m1.f, .bool m1.r] 44 (0, 0)) := (HB5.out.block g (by omega)).trans HX2.out; have hS5 : w5.heap[q]? = some (.cells #[.int .i64 s.k, .int .i64 s.x, .int .i64 s.y, .int .i64 s.z, .int .i64 s.f, .int .i64 s.n] 36 (0, 0)) := (HG5.out.block q (by simp; omega) (fun e => by have := HOQ.out q e.symm; omega)).trans ((Below.heap_alloc _ _ _ (by omega)).trans HS2.out); have HXZ := Lib.hid hX5; have HSZ := Lib.hid hS5; clear hX5 hS5; have d0 : w5.cell? ⟨g, 0, none⟩ = some (.int .i64 m1.x) := cell_of HXZ.out (i := 0) rfl; have d1 : w5.cell? ⟨g, 1, none⟩ = some (.int .i64 m1.y) := cell_of HXZ.out (i := 1) rfl; have d2 : w5.cell? ⟨g, 2, none⟩ = some (.int .i64 m1.z) := cell_of HXZ.out (i := 2) rfl; have d3 : w5.cell? ⟨g, 3, none⟩ = some (.int .i64 m1.s) := cell_of HXZ.out (i := 3) rfl; have d4 : w5.cell? ⟨g, 4, none⟩ = some (.int .i64 m1.h) := cell_of HXZ.out (i := 4) rfl; have d5 : w5.cell? ⟨g, 5, none⟩ = some (.int .i64 m1.t) := cell_of HXZ.out (i := 5) rfl; have d6 : w5.cell? ⟨g, 6, none⟩ = some (.int .i64 m1.f) := cell_of HXZ.out (i := 6) rfl; have d7 : w5.cell? ⟨g, 7, none⟩ = some (.bool m1.r) := cell_of HXZ.out (i := 7) rfl; have t0 : w5.cell? ⟨q, 0, none⟩ = some (.int .i64 s.k) := cell_of HSZ.out (i := 0) rfl; have t1 : w5.cell? ⟨q, 1, none⟩ = some (.int .i64 s.x) := cell_of HSZ.out (i := 1) rfl; have t2 : w5.cell? ⟨q, 2, none⟩ = some (.int .i64 s.y) := cell_of HSZ.out (i := 2) rfl; have t3 : w5.cell? ⟨q, 3, none⟩ = some (.int .i64 s.z) := cell_of HSZ.out (i := 3) rfl; have t4 : w5.cell? ⟨q, 4, none⟩ = some (.int .i64 s.f) := cell_of HSZ.out (i := 4) rfl; have t5 : w5.cell? ⟨q, 5, none⟩ = some (.int .i64 s.n) := cell_of HSZ.out (i := 5) rfl)
                have HOZ := HO5
                have BZ := Lib.hid (B2.out.trans (HB5.out.mono (by omega)))
                clear d0 d1 d2 d3 d4 d5 d6 d7 t0 t1 t2 t3 t4 t5
                refine (after_fit m1 s _ HTk.out.k (HMk.out.fit HTk.out (by omega))).mono ?_
                rintro e w6 ⟨rfl, hb6⟩
                obtain ⟨m2, hm2⟩ : ∃ m2, aft m1 s = m2 := ⟨_, rfl⟩
                have RM3 := Lib.hid hm2
                rw [hm2] at RM2 ⊢
                clear hm2
                have HX6 := Lib.hid (heap_keep hb6 HXZ.out)
                have HO6 := Lib.hid (ownsRow_below HOZ.out hb6)
                have B6 := Lib.hid (BZ.out.trans (hb6.mono (by have := BZ.out.size; omega)))
                clear hb6
                have d0 : w6.cell? ⟨g, 0, none⟩ = some (.int .i64 m1.x) := cell_of HX6.out (i := 0) rfl
                have d1 : w6.cell? ⟨g, 1, none⟩ = some (.int .i64 m1.y) := cell_of HX6.out (i := 1) rfl
                have d2 : w6.cell? ⟨g, 2, none⟩ = some (.int .i64 m1.z) := cell_of HX6.out (i := 2) rfl
                have d3 : w6.cell? ⟨g, 3, none⟩ = some (.int .i64 m1.s) := cell_of HX6.out (i := 3) rfl
                have d4 : w6.cell? ⟨g, 4, none⟩ = some (.int .i64 m1.h) := cell_of HX6.out (i := 4) rfl
                have d5 : w6.cell? ⟨g, 5, none⟩ = some (.int .i64 m1.t) := cell_of HX6.out (i := 5) rfl
                have d6 : w6.cell? ⟨g, 6, none⟩ = some (.int .i64 m1.f) := cell_of HX6.out (i := 6) rfl
                have d7 : w6.cell? ⟨g, 7, none⟩ = some (.bool m1.r) := cell_of HX6.out (i := 7) rfl
                have g0 := fun i => frozen_of (i := i) HX6.out
                go_wp2_with (fail)
                obtain ⟨hx7, hm7⟩ := storeMa (W := ((((((((w6.setCell ⟨g, 0, none⟩ (.int .i64 m2.x)).setCell ⟨g, 1, none⟩ (.int .i64 m2.y)).setCell ⟨g, 2, none⟩ (.int .i64 m2.z)).setCell ⟨g, 3, none⟩ (.int .i64 m2.s)).setCell ⟨g, 4, none⟩ (.int .i64 m2.h)).setCell ⟨g, 5, none⟩ (.int .i64 m2.t)).setCell ⟨g, 6, none⟩ (.int .i64 m2.f)).setCell ⟨g, 7, none⟩ (.bool m2.r))) HX6.out (m2 := m2) rfl
                generalize ((((((((w6.setCell ⟨g, 0, none⟩ (.int .i64 m2.x)).setCell ⟨g, 1, none⟩ (.int .i64 m2.y)).setCell ⟨g, 2, none⟩ (.int .i64 m2.z)).setCell ⟨g, 3, none⟩ (.int .i64 m2.s)).setCell ⟨g, 4, none⟩ (.int .i64 m2.h)).setCell ⟨g, 5, none⟩ (.int .i64 m2.t)).setCell ⟨g, 6, none⟩ (.int .i64 m2.f)).setCell ⟨g, 7, none⟩ (.bool m2.r)) = w7 at *
                have HX7 := Lib.hid hx7
                have HO7 := Lib.hid (own_mut HO6.out hm7 (fun b hb e => by have := (HO6.out.lt b hb).1; omega))
                have B7 := Lib.hid (B6.out.trans (hm7.toBelow wo.heap.size B6.out.size (fun b hb h => by omega)))
                have hs7 : g + 1 ≤ w7.heap.size := lt_of_heap hx7
                clear hx7 hm7
                go_roundw
                case rel => exact ⟨k + 1, _, _, by omega, by go_num, by rw [HFL.out, List.length_append]; rfl, by rw [RM2.out]; exact HX7.out, by rw [HFL.out, List.length_append, rowS_app]; exact HO7.out, hs7, B7.out⟩
                case measure => simp [intOf] <;> omega
              · have hskip : aft m1 s = m1 ∧ timeB s = false := ⟨hid, by unfold timeB; rw [decide_eq_false_iff_not]; exact fun h => h9 h.2⟩
                have h7' : (s.k == 7) = true := by simpa using h7
                have h9' : decide (0 < s.n) = false := by rw [decide_eq_false_iff_not]; exact h9
                clear h7
                have HFL := Lib.hid (show filtL m00 (l.take (k + 1)) = rl by rw [HTK.out, filtL_snoc, HRA.out, if_pos (by rw [RM1.out]; exact hskip), List.append_nil, RL.out])
                have HXZ := HX2
                have HSZ := HS2
                have HOZ := HO2
                have BZ := B2
                clear s0 s1 s2 s3 s4 s5
                have d0 : w2.cell? ⟨g, 0, none⟩ = some (.int .i64 m1.x) := cell_of HXZ.out (i := 0) rfl
                have d1 : w2.cell? ⟨g, 1, none⟩ = some (.int .i64 m1.y) := cell_of HXZ.out (i := 1) rfl
                have d2 : w2.cell? ⟨g, 2, none⟩ = some (.int .i64 m1.z) := cell_of HXZ.out (i := 2) rfl
                have d3 : w2.cell? ⟨g, 3, none⟩ = some (.int .i64 m1.s) := cell_of HXZ.out (i := 3) rfl
                have d4 : w2.cell? ⟨g, 4, none⟩ = some (.int .i64 m1.h) := cell_of HXZ.out (i := 4) rfl
                have d5 : w2.cell? ⟨g, 5, none⟩ = some (.int .i64 m1.t) := cell_of HXZ.out (i := 5) rfl
                have d6 : w2.cell? ⟨g, 6, none⟩ = some (.int .i64 m1.f) := cell_of HXZ.out (i := 6) rfl
                have d7 : w2.cell? ⟨g, 7, none⟩ = some (.bool m1.r) := cell_of HXZ.out (i := 7) rfl
                have s0 : w2.cell? ⟨q, 0, none⟩ = some (.int .i64 s.k) := cell_of HSZ.out (i := 0) rfl
                have s1 : w2.cell? ⟨q, 1, none⟩ = some (.int .i64 s.x) := cell_of HSZ.out (i := 1) rfl
                have s2 : w2.cell? ⟨q, 2, none⟩ = some (.int .i64 s.y) := cell_of HSZ.out (i := 2) rfl
                have s3 : w2.cell? ⟨q, 3, none⟩ = some (.int .i64 s.z) := cell_of HSZ.out (i := 3) rfl
                have s4 : w2.cell? ⟨q, 4, none⟩ = some (.int .i64 s.f) := cell_of HSZ.out (i := 4) rfl
                have s5 : w2.cell? ⟨q, 5, none⟩ = some (.int .i64 s.n) := cell_of HSZ.out (i := 5) rfl
                go_wp2_with (fail)
                refine (after_fit m1 s _ HTk.out.k (HMk.out.fit HTk.out (by omega))).mono ?_
                rintro e w6 ⟨rfl, hb6⟩
                obtain ⟨m2, hm2⟩ : ∃ m2, aft m1 s = m2 := ⟨_, rfl⟩
                have RM3 := Lib.hid hm2
                rw [hm2] at RM2 ⊢
                clear hm2
                have HX6 := Lib.hid (heap_keep hb6 HXZ.out)
                have HO6 := Lib.hid (ownsRow_below HOZ.out hb6)
                have B6 := Lib.hid (BZ.out.trans (hb6.mono (by have := BZ.out.size; omega)))
                clear hb6 d0 d1 d2 d3 d4 d5 d6 d7 s0 s1 s2 s3 s4 s5
                have d0 : w6.cell? ⟨g, 0, none⟩ = some (.int .i64 m1.x) := cell_of HX6.out (i := 0) rfl
                have d1 : w6.cell? ⟨g, 1, none⟩ = some (.int .i64 m1.y) := cell_of HX6.out (i := 1) rfl
                have d2 : w6.cell? ⟨g, 2, none⟩ = some (.int .i64 m1.z) := cell_of HX6.out (i := 2) rfl
                have d3 : w6.cell? ⟨g, 3, none⟩ = some (.int .i64 m1.s) := cell_of HX6.out (i := 3) rfl
                have d4 : w6.cell? ⟨g, 4, none⟩ = some (.int .i64 m1.h) := cell_of HX6.out (i := 4) rfl
                have d5 : w6.cell? ⟨g, 5, none⟩ = some (.int .i64 m1.t) := cell_of HX6.out (i := 5) rfl
                have d6 : w6.cell? ⟨g, 6, none⟩ = some (.int .i64 m1.f) := cell_of HX6.out (i := 6) rfl
                have d7 : w6.cell? ⟨g, 7, none⟩ = some (.bool m1.r) := cell_of HX6.out (i := 7) rfl
                have g0 := fun i => frozen_of (i := i) HX6.out
                go_wp2_with (fail)
                obtain ⟨hx7, hm7⟩ := storeMa (W := ((((((((w6.setCell ⟨g, 0, none⟩ (.int .i64 m2.x)).setCell ⟨g, 1, none⟩ (.int .i64 m2.y)).setCell ⟨g, 2, none⟩ (.int .i64 m2.z)).setCell ⟨g, 3, none⟩ (.int .i64 m2.s)).setCell ⟨g, 4, none⟩ (.int .i64 m2.h)).setCell ⟨g, 5, none⟩ (.int .i64 m2.t)).setCell ⟨g, 6, none⟩ (.int .i64 m2.f)).setCell ⟨g, 7, none⟩ (.bool m2.r))) HX6.out (m2 := m2) rfl
                generalize ((((((((w6.setCell ⟨g, 0, none⟩ (.int .i64 m2.x)).setCell ⟨g, 1, none⟩ (.int .i64 m2.y)).setCell ⟨g, 2, none⟩ (.int .i64 m2.z)).setCell ⟨g, 3, none⟩ (.int .i64 m2.s)).setCell ⟨g, 4, none⟩ (.int .i64 m2.h)).setCell ⟨g, 5, none⟩ (.int .i64 m2.t)).setCell ⟨g, 6, none⟩ (.int .i64 m2.f)).setCell ⟨g, 7, none⟩ (.bool m2.r)) = w7 at *
                have HX7 := Lib.hid hx7
                have HO7 := Lib.hid (own_mut HO6.out hm7 (fun b hb e => by have := (HO6.out.lt b hb).1; omega))
                have B7 := Lib.hid (B6.out.trans (hm7.toBelow wo.heap.size B6.out.size (fun b hb h => by omega)))
                have hs7 : g + 1 ≤ w7.heap.size := lt_of_heap hx7
                clear hx7 hm7
                go_roundw
                case rel => exact ⟨k + 1, _, _, by omega, by go_num, by rw [HFL.out], by rw [RM2.out]; exact HX7.out, by rw [HFL.out]; exact HO7.out, hs7, B7.out⟩
                case measure => simp [intOf] <;> omega
            · have hskip : aft m1 s = m1 ∧ timeB s = false := ⟨hid, by unfold timeB; rw [decide_eq_false_iff_not]; exact fun h => h7 h.1⟩
              have h7' : (s.k == 7) = false := by simpa using h7
              have HFL := Lib.hid (show filtL m00 (l.take (k + 1)) = rl by rw [HTK.out, filtL_snoc, HRA.out, if_pos (by rw [RM1.out]; exact hskip), List.append_nil, RL.out])
              have HXZ := HX2
              have HSZ := HS2
              have HOZ := HO2
              have BZ := B2
              clear s0 s1 s2 s3 s4 s5
              have d0 : w2.cell? ⟨g, 0, none⟩ = some (.int .i64 m1.x) := cell_of HXZ.out (i := 0) rfl
              have d1 : w2.cell? ⟨g, 1, none⟩ = some (.int .i64 m1.y) := cell_of HXZ.out (i := 1) rfl
              have d2 : w2.cell? ⟨g, 2, none⟩ = some (.int .i64 m1.z) := cell_of HXZ.out (i := 2) rfl
              have d3 : w2.cell? ⟨g, 3, none⟩ = some (.int .i64 m1.s) := cell_of HXZ.out (i := 3) rfl
              have d4 : w2.cell? ⟨g, 4, none⟩ = some (.int .i64 m1.h) := cell_of HXZ.out (i := 4) rfl
              have d5 : w2.cell? ⟨g, 5, none⟩ = some (.int .i64 m1.t) := cell_of HXZ.out (i := 5) rfl
              have d6 : w2.cell? ⟨g, 6, none⟩ = some (.int .i64 m1.f) := cell_of HXZ.out (i := 6) rfl
              have d7 : w2.cell? ⟨g, 7, none⟩ = some (.bool m1.r) := cell_of HXZ.out (i := 7) rfl
              have s0 : w2.cell? ⟨q, 0, none⟩ = some (.int .i64 s.k) := cell_of HSZ.out (i := 0) rfl
              have s1 : w2.cell? ⟨q, 1, none⟩ = some (.int .i64 s.x) := cell_of HSZ.out (i := 1) rfl
              have s2 : w2.cell? ⟨q, 2, none⟩ = some (.int .i64 s.y) := cell_of HSZ.out (i := 2) rfl
              have s3 : w2.cell? ⟨q, 3, none⟩ = some (.int .i64 s.z) := cell_of HSZ.out (i := 3) rfl
              have s4 : w2.cell? ⟨q, 4, none⟩ = some (.int .i64 s.f) := cell_of HSZ.out (i := 4) rfl
              have s5 : w2.cell? ⟨q, 5, none⟩ = some (.int .i64 s.n) := cell_of HSZ.out (i := 5) rfl
              go_wp2_with (fail)
              refine (after_fit m1 s _ HTk.out.k (HMk.out.fit HTk.out (by omega))).mono ?_
              rintro e w6 ⟨rfl, hb6⟩
              obtain ⟨m2, hm2⟩ : ∃ m2, aft m1 s = m2 := ⟨_, rfl⟩
              have RM3 := Lib.hid hm2
              rw [hm2] at RM2 ⊢
              clear hm2
              have HX6 := Lib.hid (heap_keep hb6 HXZ.out)
              have HO6 := Lib.hid (ownsRow_below HOZ.out hb6)
              have B6 := Lib.hid (BZ.out.trans (hb6.mono (by have := BZ.out.size; omega)))
              clear hb6 d0 d1 d2 d3 d4 d5 d6 d7 s0 s1 s2 s3 s4 s5
              have d0 : w6.cell? ⟨g, 0, none⟩ = some (.int .i64 m1.x) := cell_of HX6.out (i := 0) rfl
              have d1 : w6.cell? ⟨g, 1, none⟩ = some (.int .i64 m1.y) := cell_of HX6.out (i := 1) rfl
              have d2 : w6.cell? ⟨g, 2, none⟩ = some (.int .i64 m1.z) := cell_of HX6.out (i := 2) rfl
              have d3 : w6.cell? ⟨g, 3, none⟩ = some (.int .i64 m1.s) := cell_of HX6.out (i := 3) rfl
              have d4 : w6.cell? ⟨g, 4, none⟩ = some (.int .i64 m1.h) := cell_of HX6.out (i := 4) rfl
              have d5 : w6.cell? ⟨g, 5, none⟩ = some (.int .i64 m1.t) := cell_of HX6.out (i := 5) rfl
              have d6 : w6.cell? ⟨g, 6, none⟩ = some (.int .i64 m1.f) := cell_of HX6.out (i := 6) rfl
              have d7 : w6.cell? ⟨g, 7, none⟩ = some (.bool m1.r) := cell_of HX6.out (i := 7) rfl
              have g0 := fun i => frozen_of (i := i) HX6.out
              go_wp2_with (fail)
              obtain ⟨hx7, hm7⟩ := storeMa (W := ((((((((w6.setCell ⟨g, 0, none⟩ (.int .i64 m2.x)).setCell ⟨g, 1, none⟩ (.int .i64 m2.y)).setCell ⟨g, 2, none⟩ (.int .i64 m2.z)).setCell ⟨g, 3, none⟩ (.int .i64 m2.s)).setCell ⟨g, 4, none⟩ (.int .i64 m2.h)).setCell ⟨g, 5, none⟩ (.int .i64 m2.t)).setCell ⟨g, 6, none⟩ (.int .i64 m2.f)).setCell ⟨g, 7, none⟩ (.bool m2.r))) HX6.out (m2 := m2) rfl
              generalize ((((((((w6.setCell ⟨g, 0, none⟩ (.int .i64 m2.x)).setCell ⟨g, 1, none⟩ (.int .i64 m2.y)).setCell ⟨g, 2, none⟩ (.int .i64 m2.z)).setCell ⟨g, 3, none⟩ (.int .i64 m2.s)).setCell ⟨g, 4, none⟩ (.int .i64 m2.h)).setCell ⟨g, 5, none⟩ (.int .i64 m2.t)).setCell ⟨g, 6, none⟩ (.int .i64 m2.f)).setCell ⟨g, 7, none⟩ (.bool m2.r)) = w7 at *
              have HX7 := Lib.hid hx7
              have HO7 := Lib.hid (own_mut HO6.out hm7 (fun b hb e => by have := (HO6.out.lt b hb).1; omega))
              have B7 := Lib.hid (B6.out.trans (hm7.toBelow wo.heap.size B6.out.size (fun b hb h => by omega)))
              have hs7 : g + 1 ≤ w7.heap.size := lt_of_heap hx7
              clear hx7 hm7
              go_roundw
              case rel => exact ⟨k + 1, _, _, by omega, by go_num, by rw [HFL.out], by rw [RM2.out]; exact HX7.out, by rw [HFL.out]; exact HO7.out, hs7, B7.out⟩
              case measure => simp [intOf] <;> omega
        · obtain rfl : l.length = k := by omega
          rw [List.take_length] at HO hfl ⊢
          obtain ⟨m, hm⟩ : ∃ m, filtL m00 l = m := ⟨_, rfl⟩
          have HM := Lib.hid hm
          rw [hm] at HO hfl ⊢
          clear hm
          have HPM := Lib.hid (own_rowS HO.out rfl)
          have HOB := Lib.hid HO.out.lt
          have hBc := HBW
          obtain ⟨wp, hwp⟩ : ∃ wp : World, wr = wp := ⟨_, rfl⟩
          rw [hwp] at HPM hBc hgs
          rw [hwp]
          clear hwp HX HO hgw hsz HBW
          go_wp2_with (fail)
          go_loopw [10, 51] (fun v i wr => ∃ (k : Nat) (a3 : Option Addr) (c3 : Nat), k ≤ m.length ∧ i = .int .i64 k ∧ v = .slice a3 (dropK m k).length c3 ∧ wr.ownsRow wp.heap.size 36 6 (.slice a3 (dropK m k).length c3) (dropK m k).length (rowS (dropK m k)) ∧ Below wp.heap.size wp wr) (fun _ i _ => m.length - (intOf i).toNat)
          case atStart => exact ⟨0, none, 0, by omega, rfl, rfl, World.ownsRow_nil _ _ _ _, Below.refl _ _⟩
          case round =>
            obtain ⟨k, a3, c3, hk, rfl, rfl, hown, hbel⟩ := hrel
            have HO := Lib.hid hown
            have HBP := Lib.hid hbel
            have hsz := hbel.size
            have hdl := dropK_len m k
            clear hown hbel
            by_cases hlt : k < m.length
            · rcases HPM.out with h0 | ⟨b, off, rfl, hb, hd⟩
              · omega
              have HD := Lib.hid hd
              obtain ⟨c0, c1', c2', c3', c4, c5⟩ := hd k hlt
              replace c0 := cellk HBP.out hb c0
              replace c1' := cellk HBP.out hb c1'
              replace c2' := cellk HBP.out hb c2'
              replace c3' := cellk HBP.out hb c3'
              replace c4 := cellk HBP.out hb c4
              replace c5 := cellk HBP.out hb c5
              have hbw : b < wr.heap.size := Nat.lt_of_lt_of_le hb hsz
              clear hd
              obtain ⟨s, hs⟩ : ∃ s, lf m k = s := ⟨_, rfl⟩
              obtain ⟨dl, hdlv⟩ : ∃ r, dropK m k = r := ⟨_, rfl⟩
              have HDL := Lib.hid hdlv
              rw [hs] at c0 c1' c2' c3' c4 c5
              rw [hdlv] at HO hdl ⊢
              clear hdlv
              have hml : m.length ≤ 4000 := by omega
              go_upto_region 17 with (fail)
              have hb1 : Below wr.heap.size wr (wr.alloc (.cells #[.int .i64 s.k, .int .i64 s.x, .int .i64 s.y, .int .i64 s.z, .int .i64 s.f, .int .i64 s.n] 36)) := (Below.refl _ _).alloc (Nat.le_refl _) _
              have HS1 := Lib.hid (heap_alloc_new wr (.cells #[.int .i64 s.k, .int .i64 s.x, .int .i64 s.y, .int .i64 s.z, .int .i64 s.f, .int .i64 s.n] 36))
              have HO1 := Lib.hid (ownsRow_below HO.out hb1)
              have B1 := Lib.hid (HBP.out.trans (hb1.mono hsz))
              clear hb1 c0 c1' c2' c3' c4 c5 HO HBP
              generalize (wr.alloc (.cells #[.int .i64 s.k, .int .i64 s.x, .int .i64 s.y, .int .i64 s.z, .int .i64 s.f, .int .i64 s.n] 36)) = w1' at *
              obtain ⟨q, hq⟩ : ∃ q, wr.heap.size = q := ⟨_, rfl⟩
              have HQ := Lib.hid hq
              rw [hq] at HS1
              try rw [hq]
              clear hq
              have s0 : w1'.cell? ⟨q, 0, none⟩ = some (.int .i64 s.k) := cell_of HS1.out (i := 0) rfl
              have s1 : w1'.cell? ⟨q, 1, none⟩ = some (.int .i64 s.x) := cell_of HS1.out (i := 1) rfl
              have s2 : w1'.cell? ⟨q, 2, none⟩ = some (.int .i64 s.y) := cell_of HS1.out (i := 2) rfl
              have s3 : w1'.cell? ⟨q, 3, none⟩ = some (.int .i64 s.z) := cell_of HS1.out (i := 3) rfl
              have s4 : w1'.cell? ⟨q, 4, none⟩ = some (.int .i64 s.f) := cell_of HS1.out (i := 4) rfl
              have s5 : w1'.cell? ⟨q, 5, none⟩ = some (.int .i64 s.n) := cell_of HS1.out (i := 5) rfl
              have hbw2 : b < w1'.heap.size := by have := B1.out.size; omega
              by_cases hk3 : s.k = 3
              · by_cases hlt2 : k + 1 < m.length
                · obtain ⟨t, ht⟩ : ∃ t, lf m (k + 1) = t := ⟨_, rfl⟩
                  have x0 : w1'.cell? ⟨b, off + (k + 1) * 6, none⟩ = some (.int .i64 t.k) := by rw [← ht]; exact cellk B1.out hb (HD.out (k + 1) hlt2).1
                  by_cases hkt : t.k = s.k
                  · have e3 : (s.k == 3) = true := by simpa using hk3
                    have HDK := Lib.hid (show dropK m (k + 1) = dl by rw [dropK, if_pos ⟨hlt2, by rw [hs, ht]; unfold pairB; rw [decide_eq_true_eq]; exact ⟨hkt.symm, .inl hk3⟩⟩, HDL.out])
                    have e7 : (t.k == s.k) = true := by simpa using hkt
                    have e6 : ((k : Int) + 1 < (m.length : Int)) := by omega
                    have e8 : (0 : Int) ≤ (k : Int) + 1 := by omega
                    have ew : IntKind.i64.wrap ((k : Int) + 1) = (k : Int) + 1 := i64w (by omega)
                    have ek0 : (0 : Int) ≤ (k : Int) := by omega
                    clear hk3 hkt hlt2 hs ht
                    go_wp2_with (fail)
                    go_quiet (fail)
                    have hb2 : Below w1'.heap.size w1' (w1'.drewN nq) := bdrewN (Below.refl _ _) _
                    have HS2 := Lib.hid (heap_keep hb2 HS1.out)
                    have HO2 := Lib.hid (ownsRow_below HO1.out hb2)
                    have B2 := Lib.hid (B1.out.trans (hb2.mono B1.out.size))
                    clear hb2 s0 s1 s2 s3 s4 s5 x0
                    generalize (w1'.drewN nq) = w2 at *
                    have s0 : w2.cell? ⟨q, 0, none⟩ = some (.int .i64 s.k) := cell_of HS2.out (i := 0) rfl
                    have s1 : w2.cell? ⟨q, 1, none⟩ = some (.int .i64 s.x) := cell_of HS2.out (i := 1) rfl
                    have s2 : w2.cell? ⟨q, 2, none⟩ = some (.int .i64 s.y) := cell_of HS2.out (i := 2) rfl
                    have s3 : w2.cell? ⟨q, 3, none⟩ = some (.int .i64 s.z) := cell_of HS2.out (i := 3) rfl
                    have s4 : w2.cell? ⟨q, 4, none⟩ = some (.int .i64 s.f) := cell_of HS2.out (i := 4) rfl
                    have s5 : w2.cell? ⟨q, 5, none⟩ = some (.int .i64 s.n) := cell_of HS2.out (i := 5) rfl
                    have hq2 := lt_of_heap HS2.out
                    have hp2 := B2.out.size
                    go_wp2_with (fail)
                    go_roundw
                    case rel => exact ⟨k + 1, a3, c3, by omega, by go_num, by rw [HDK.out], by rw [HDK.out]; exact HO2.out, B2.out⟩
                    case measure => simp [intOf] <;> omega
                  · have e3 : (s.k == 3) = true := by simpa using hk3
                    have HDK := Lib.hid (show dropK m (k + 1) = dl ++ [s] by rw [dropK, if_neg (fun h => by have h2 := h.2; rw [hs, ht] at h2; unfold pairB at h2; rw [decide_eq_true_eq] at h2; exact hkt h2.1.symm), HDL.out, hs])
                    have e7 : (t.k == s.k) = false := by simpa using hkt
                    have e6 : ((k : Int) + 1 < (m.length : Int)) := by omega
                    have e8 : (0 : Int) ≤ (k : Int) + 1 := by omega
                    have ew : IntKind.i64.wrap ((k : Int) + 1) = (k : Int) + 1 := i64w (by omega)
                    have ek0 : (0 : Int) ≤ (k : Int) := by omega
                    clear hk3 hkt hlt2 hs ht
                    go_wp2_with (fail)
                    go_quiet (fail)
                    have hb2 : Below w1'.heap.size w1' (w1'.drewN nq) := bdrewN (Below.refl _ _) _
                    have HS2 := Lib.hid (heap_keep hb2 HS1.out)
                    have HO2 := Lib.hid (ownsRow_below HO1.out hb2)
                    have B2 := Lib.hid (B1.out.trans (hb2.mono B1.out.size))
                    clear hb2 s0 s1 s2 s3 s4 s5 x0
                    generalize (w1'.drewN nq) = w2 at *
                    have s0 : w2.cell? ⟨q, 0, none⟩ = some (.int .i64 s.k) := cell_of HS2.out (i := 0) rfl
                    have s1 : w2.cell? ⟨q, 1, none⟩ = some (.int .i64 s.x) := cell_of HS2.out (i := 1) rfl
                    have s2 : w2.cell? ⟨q, 2, none⟩ = some (.int .i64 s.y) := cell_of HS2.out (i := 2) rfl
                    have s3 : w2.cell? ⟨q, 3, none⟩ = some (.int .i64 s.z) := cell_of HS2.out (i := 3) rfl
                    have s4 : w2.cell? ⟨q, 4, none⟩ = some (.int .i64 s.f) := cell_of HS2.out (i := 4) rfl
                    have s5 : w2.cell? ⟨q, 5, none⟩ = some (.int .i64 s.n) := cell_of HS2.out (i := 5) rfl
                    have hq2 := lt_of_heap HS2.out
                    have hp2 := B2.out.size
                    go_wp2_with (at_builtin; refine wpList_append_lies _ rfl _ _ 26 rfl wp.heap.size 36 i0 (.agg #[.int .i64 0, .int .i64 0, .int .i64 0, .int .i64 0, .int .i64 0, .int .i64 0]) 6 48 Try.underlying26 hi0 hz0 hz1 hz2 rfl (by decide) _ _ _ rfl (ownsRow_below (HO2.out) ((Below.refl _ w2).alloc (Nat.le_refl _) _)) ⟨w2.heap.size, 0, none⟩ 1 1 [.int .i64 s.k, .int .i64 s.x, .int .i64 s.y, .int .i64 s.z, .int .i64 s.f, .int .i64 s.n] rfl rfl (World.news_of_block (cs := #[.int .i64 s.k, .int .i64 s.x, .int .i64 s.y, .int .i64 s.z, .int .i64 s.f, .int .i64 s.n]) (t := 36) (fr := (0, 0)) (heap_alloc_new w2 (.cells #[.int .i64 s.k, .int .i64 s.x, .int .i64 s.y, .int .i64 s.z, .int .i64 s.f, .int .i64 s.n] 36))) (by simp [Value.oneCell']) (by omega) (by unfold maxLen; omega) (by omega) (by simp; omega) (w2.heap.size + 1) (by simp) ?_; intro g5 c5 w5 hown5 hgrow5 hge5 hlt5; have HO5 := Lib.hid hown5; have HB5 := Lib.hid (Below.grown (B := wp.heap.size) (Below.alloc (B := wp.heap.size) (Below.refl _ w2) (by omega) (.cells #[.int .i64 s.k, .int .i64 s.x, .int .i64 s.y, .int .i64 s.z, .int .i64 s.f, .int .i64 s.n] 36)) hgrow5 (by simp; omega) (fun b hb => ((HO2.out).lt b hb).1)); clear hown5 hgrow5 hge5)
                    have B5 := Lib.hid (B2.out.trans HB5.out)
                    go_roundw
                    case rel => exact ⟨k + 1, some ⟨g5, 0, none⟩, c5, by omega, by go_num, by rw [HDK.out, List.length_append]; rfl, by rw [HDK.out, List.length_append, rowS_app]; exact HO5.out, B5.out⟩
                    case measure => simp [intOf] <;> omega
                · have e3 : (s.k == 3) = true := by simpa using hk3
                  have HDK := Lib.hid (show dropK m (k + 1) = dl ++ [s] by rw [dropK, if_neg (fun h => hlt2 h.1), HDL.out, hs])
                  have e6 : decide ((k : Int) + 1 < (m.length : Int)) = false := by rw [decide_eq_false_iff_not]; omega
                  have ew : IntKind.i64.wrap ((k : Int) + 1) = (k : Int) + 1 := i64w (by omega)
                  have ek0 : (0 : Int) ≤ (k : Int) := by omega
                  clear hk3 hlt2 hs
                  go_wp2_with (fail)
                  go_quiet (fail)
                  have hb2 : Below w1'.heap.size w1' (w1'.drewN nq) := bdrewN (Below.refl _ _) _
                  have HS2 := Lib.hid (heap_keep hb2 HS1.out)
                  have HO2 := Lib.hid (ownsRow_below HO1.out hb2)
                  have B2 := Lib.hid (B1.out.trans (hb2.mono B1.out.size))
                  clear hb2 s0 s1 s2 s3 s4 s5
                  generalize (w1'.drewN nq) = w2 at *
                  have s0 : w2.cell? ⟨q, 0, none⟩ = some (.int .i64 s.k) := cell_of HS2.out (i := 0) rfl
                  have s1 : w2.cell? ⟨q, 1, none⟩ = some (.int .i64 s.x) := cell_of HS2.out (i := 1) rfl
                  have s2 : w2.cell? ⟨q, 2, none⟩ = some (.int .i64 s.y) := cell_of HS2.out (i := 2) rfl
                  have s3 : w2.cell? ⟨q, 3, none⟩ = some (.int .i64 s.z) := cell_of HS2.out (i := 3) rfl
                  have s4 : w2.cell? ⟨q, 4, none⟩ = some (.int .i64 s.f) := cell_of HS2.out (i := 4) rfl
                  have s5 : w2.cell? ⟨q, 5, none⟩ = some (.int .i64 s.n) := cell_of HS2.out (i := 5) rfl
                  have hq2 := lt_of_heap HS2.out
                  have hp2 := B2.out.size
                  go_wp2_with (at_builtin; refine wpList_append_lies _ rfl _ _ 26 rfl wp.heap.size 36 i0 (.agg #[.int .i64 0, .int .i64 0, .int .i64 0, .int .i64 0, .int .i64 0, .int .i64 0]) 6 48 Try.underlying26 hi0 hz0 hz1 hz2 rfl (by decide) _ _ _ rfl (ownsRow_below (HO2.out) ((Below.refl _ w2).alloc (Nat.le_refl _) _)) ⟨w2.heap.size, 0, none⟩ 1 1 [.int .i64 s.k, .int .i64 s.x, .int .i64 s.y, .int .i64 s.z, .int .i64 s.f, .int .i64 s.n] rfl rfl (World.news_of_block (cs := #[.int .i64 s.k, .int .i64 s.x, .int .i64 s.y, .int .i64 s.z, .int .i64 s.f, .int .i64 s.n]) (t := 36) (fr := (0, 0)) (heap_alloc_new w2 (.cells #[.int .i64 s.k, .int .i64 s.x, .int .i64 s.y, .int .i64 s.z, .int .i64 s.f, .int .i64 s.n] 36))) (by simp [Value.oneCell']) (by omega) (by unfold maxLen; omega) (by omega) (by simp; omega) (w2.heap.size + 1) (by simp) ?_; intro g5 c5 w5 hown5 hgrow5 hge5 hlt5; have HO5 := Lib.hid hown5; have HB5 := Lib.hid (Below.grown (B := wp.heap.size) (Below.alloc (B := wp.heap.size) (Below.refl _ w2) (by omega) (.cells #[.int .i64 s.k, .int .i64 s.x, .int .i64 s.y, .int .i64 s.z, .int .i64 s.f, .int .i64 s.n] 36)) hgrow5 (by simp; omega) (fun b hb => ((HO2.out).lt b hb).1)); clear hown5 hgrow5 hge5)
                  have B5 := Lib.hid (B2.out.trans HB5.out)
                  go_roundw
                  case rel => exact ⟨k + 1, some ⟨g5, 0, none⟩, c5, by omega, by go_num, by rw [HDK.out, List.length_append]; rfl, by rw [HDK.out, List.length_append, rowS_app]; exact HO5.out, B5.out⟩
                  case measure => simp [intOf] <;> omega
              · by_cases hk5 : s.k = 5
                · by_cases hlt2 : k + 1 < m.length
                  · obtain ⟨t, ht⟩ : ∃ t, lf m (k + 1) = t := ⟨_, rfl⟩
                    have x0 : w1'.cell? ⟨b, off + (k + 1) * 6, none⟩ = some (.int .i64 t.k) := by rw [← ht]; exact cellk B1.out hb (HD.out (k + 1) hlt2).1
                    by_cases hkt : t.k = s.k
                    · have e3 : (s.k == 3) = false := by simpa using hk3
                      have e5 : (s.k == 5) = true := by simpa using hk5
                      have HDK := Lib.hid (show dropK m (k + 1) = dl by rw [dropK, if_pos ⟨hlt2, by rw [hs, ht]; unfold pairB; rw [decide_eq_true_eq]; exact ⟨hkt.symm, .inr hk5⟩⟩, HDL.out])
                      have e7 : (t.k == s.k) = true := by simpa using hkt
                      have e6 : ((k : Int) + 1 < (m.length : Int)) := by omega
                      have e8 : (0 : Int) ≤ (k : Int) + 1 := by omega
                      have ew : IntKind.i64.wrap ((k : Int) + 1) = (k : Int) + 1 := i64w (by omega)
                      have ek0 : (0 : Int) ≤ (k : Int) := by omega
                      clear hk3 hk5 hkt hlt2 hs ht
                      go_wp2_with (fail)
                      go_quiet (fail)
                      have hb2 : Below w1'.heap.size w1' (w1'.drewN nq) := bdrewN (Below.refl _ _) _
                      have HS2 := Lib.hid (heap_keep hb2 HS1.out)
                      have HO2 := Lib.hid (ownsRow_below HO1.out hb2)
                      have B2 := Lib.hid (B1.out.trans (hb2.mono B1.out.size))
                      clear hb2 s0 s1 s2 s3 s4 s5 x0
                      generalize (w1'.drewN nq) = w2 at *
                      have s0 : w2.cell? ⟨q, 0, none⟩ = some (.int .i64 s.k) := cell_of HS2.out (i := 0) rfl
                      have s1 : w2.cell? ⟨q, 1, none⟩ = some (.int .i64 s.x) := cell_of HS2.out (i := 1) rfl
                      have s2 : w2.cell? ⟨q, 2, none⟩ = some (.int .i64 s.y) := cell_of HS2.out (i := 2) rfl
                      have s3 : w2.cell? ⟨q, 3, none⟩ = some (.int .i64 s.z) := cell_of HS2.out (i := 3) rfl
                      have s4 : w2.cell? ⟨q, 4, none⟩ = some (.int .i64 s.f) := cell_of HS2.out (i := 4) rfl
                      have s5 : w2.cell? ⟨q, 5, none⟩ = some (.int .i64 s.n) := cell_of HS2.out (i := 5) rfl
                      have hq2 := lt_of_heap HS2.out
                      have hp2 := B2.out.size
                      go_wp2_with (fail)
                      go_roundw
                      case rel => exact ⟨k + 1, a3, c3, by omega, by go_num, by rw [HDK.out], by rw [HDK.out]; exact HO2.out, B2.out⟩
                      case measure => simp [intOf] <;> omega
                    · have e3 : (s.k == 3) = false := by simpa using hk3
                      have e5 : (s.k == 5) = true := by simpa using hk5
                      have HDK := Lib.hid (show dropK m (k + 1) = dl ++ [s] by rw [dropK, if_neg (fun h => by have h2 := h.2; rw [hs, ht] at h2; unfold pairB at h2; rw [decide_eq_true_eq] at h2; exact hkt h2.1.symm), HDL.out, hs])
                      have e7 : (t.k == s.k) = false := by simpa using hkt
                      have e6 : ((k : Int) + 1 < (m.length : Int)) := by omega
                      have e8 : (0 : Int) ≤ (k : Int) + 1 := by omega
                      have ew : IntKind.i64.wrap ((k : Int) + 1) = (k : Int) + 1 := i64w (by omega)
                      have ek0 : (0 : Int) ≤ (k : Int) := by omega
                      clear hk3 hk5 hkt hlt2 hs ht
                      go_wp2_with (fail)
                      go_quiet (fail)
                      have hb2 : Below w1'.heap.size w1' (w1'.drewN nq) := bdrewN (Below.refl _ _) _
                      have HS2 := Lib.hid (heap_keep hb2 HS1.out)
                      have HO2 := Lib.hid (ownsRow_below HO1.out hb2)
                      have B2 := Lib.hid (B1.out.trans (hb2.mono B1.out.size))
                      clear hb2 s0 s1 s2 s3 s4 s5 x0
                      generalize (w1'.drewN nq) = w2 at *
                      have s0 : w2.cell? ⟨q, 0, none⟩ = some (.int .i64 s.k) := cell_of HS2.out (i := 0) rfl
                      have s1 : w2.cell? ⟨q, 1, none⟩ = some (.int .i64 s.x) := cell_of HS2.out (i := 1) rfl
                      have s2 : w2.cell? ⟨q, 2, none⟩ = some (.int .i64 s.y) := cell_of HS2.out (i := 2) rfl
                      have s3 : w2.cell? ⟨q, 3, none⟩ = some (.int .i64 s.z) := cell_of HS2.out (i := 3) rfl
                      have s4 : w2.cell? ⟨q, 4, none⟩ = some (.int .i64 s.f) := cell_of HS2.out (i := 4) rfl
                      have s5 : w2.cell? ⟨q, 5, none⟩ = some (.int .i64 s.n) := cell_of HS2.out (i := 5) rfl
                      have hq2 := lt_of_heap HS2.out
                      have hp2 := B2.out.size
                      go_wp2_with (at_builtin; refine wpList_append_lies _ rfl _ _ 26 rfl wp.heap.size 36 i0 (.agg #[.int .i64 0, .int .i64 0, .int .i64 0, .int .i64 0, .int .i64 0, .int .i64 0]) 6 48 Try.underlying26 hi0 hz0 hz1 hz2 rfl (by decide) _ _ _ rfl (ownsRow_below (HO2.out) ((Below.refl _ w2).alloc (Nat.le_refl _) _)) ⟨w2.heap.size, 0, none⟩ 1 1 [.int .i64 s.k, .int .i64 s.x, .int .i64 s.y, .int .i64 s.z, .int .i64 s.f, .int .i64 s.n] rfl rfl (World.news_of_block (cs := #[.int .i64 s.k, .int .i64 s.x, .int .i64 s.y, .int .i64 s.z, .int .i64 s.f, .int .i64 s.n]) (t := 36) (fr := (0, 0)) (heap_alloc_new w2 (.cells #[.int .i64 s.k, .int .i64 s.x, .int .i64 s.y, .int .i64 s.z, .int .i64 s.f, .int .i64 s.n] 36))) (by simp [Value.oneCell']) (by omega) (by unfold maxLen; omega) (by omega) (by simp; omega) (w2.heap.size + 1) (by simp) ?_; intro g5 c5 w5 hown5 hgrow5 hge5 hlt5; have HO5 := Lib.hid hown5; have HB5 := Lib.hid (Below.grown (B := wp.heap.size) (Below.alloc (B := wp.heap.size) (Below.refl _ w2) (by omega) (.cells #[.int .i64 s.k, .int .i64 s.x, .int .i64 s.y, .int .i64 s.z, .int .i64 s.f, .int .i64 s.n] 36)) hgrow5 (by simp; omega) (fun b hb => ((HO2.out).lt b hb).1)); clear hown5 hgrow5 hge5)
                      have B5 := Lib.hid (B2.out.trans HB5.out)
                      go_roundw
                      case rel => exact ⟨k + 1, some ⟨g5, 0, none⟩, c5, by omega, by go_num, by rw [HDK.out, List.length_append]; rfl, by rw [HDK.out, List.length_append, rowS_app]; exact HO5.out, B5.out⟩
                      case measure => simp [intOf] <;> omega
                  · have e3 : (s.k == 3) = false := by simpa using hk3
                    have e5 : (s.k == 5) = true := by simpa using hk5
                    have HDK := Lib.hid (show dropK m (k + 1) = dl ++ [s] by rw [dropK, if_neg (fun h => hlt2 h.1), HDL.out, hs])
                    have e6 : decide ((k : Int) + 1 < (m.length : Int)) = false := by rw [decide_eq_false_iff_not]; omega
                    have ew : IntKind.i64.wrap ((k : Int) + 1) = (k : Int) + 1 := i64w (by omega)
                    have ek0 : (0 : Int) ≤ (k : Int) := by omega
                    clear hk3 hk5 hlt2 hs
                    go_wp2_with (fail)
                    go_quiet (fail)
                    have hb2 : Below w1'.heap.size w1' (w1'.drewN nq) := bdrewN (Below.refl _ _) _
                    have HS2 := Lib.hid (heap_keep hb2 HS1.out)
                    have HO2 := Lib.hid (ownsRow_below HO1.out hb2)
                    have B2 := Lib.hid (B1.out.trans (hb2.mono B1.out.size))
                    clear hb2 s0 s1 s2 s3 s4 s5
                    generalize (w1'.drewN nq) = w2 at *
                    have s0 : w2.cell? ⟨q, 0, none⟩ = some (.int .i64 s.k) := cell_of HS2.out (i := 0) rfl
                    have s1 : w2.cell? ⟨q, 1, none⟩ = some (.int .i64 s.x) := cell_of HS2.out (i := 1) rfl
                    have s2 : w2.cell? ⟨q, 2, none⟩ = some (.int .i64 s.y) := cell_of HS2.out (i := 2) rfl
                    have s3 : w2.cell? ⟨q, 3, none⟩ = some (.int .i64 s.z) := cell_of HS2.out (i := 3) rfl
                    have s4 : w2.cell? ⟨q, 4, none⟩ = some (.int .i64 s.f) := cell_of HS2.out (i := 4) rfl
                    have s5 : w2.cell? ⟨q, 5, none⟩ = some (.int .i64 s.n) := cell_of HS2.out (i := 5) rfl
                    have hq2 := lt_of_heap HS2.out
                    have hp2 := B2.out.size
                    go_wp2_with (at_builtin; refine wpList_append_lies _ rfl _ _ 26 rfl wp.heap.size 36 i0 (.agg #[.int .i64 0, .int .i64 0, .int .i64 0, .int .i64 0, .int .i64 0, .int .i64 0]) 6 48 Try.underlying26 hi0 hz0 hz1 hz2 rfl (by decide) _ _ _ rfl (ownsRow_below (HO2.out) ((Below.refl _ w2).alloc (Nat.le_refl _) _)) ⟨w2.heap.size, 0, none⟩ 1 1 [.int .i64 s.k, .int .i64 s.x, .int .i64 s.y, .int .i64 s.z, .int .i64 s.f, .int .i64 s.n] rfl rfl (World.news_of_block (cs := #[.int .i64 s.k, .int .i64 s.x, .int .i64 s.y, .int .i64 s.z, .int .i64 s.f, .int .i64 s.n]) (t := 36) (fr := (0, 0)) (heap_alloc_new w2 (.cells #[.int .i64 s.k, .int .i64 s.x, .int .i64 s.y, .int .i64 s.z, .int .i64 s.f, .int .i64 s.n] 36))) (by simp [Value.oneCell']) (by omega) (by unfold maxLen; omega) (by omega) (by simp; omega) (w2.heap.size + 1) (by simp) ?_; intro g5 c5 w5 hown5 hgrow5 hge5 hlt5; have HO5 := Lib.hid hown5; have HB5 := Lib.hid (Below.grown (B := wp.heap.size) (Below.alloc (B := wp.heap.size) (Below.refl _ w2) (by omega) (.cells #[.int .i64 s.k, .int .i64 s.x, .int .i64 s.y, .int .i64 s.z, .int .i64 s.f, .int .i64 s.n] 36)) hgrow5 (by simp; omega) (fun b hb => ((HO2.out).lt b hb).1)); clear hown5 hgrow5 hge5)
                    have B5 := Lib.hid (B2.out.trans HB5.out)
                    go_roundw
                    case rel => exact ⟨k + 1, some ⟨g5, 0, none⟩, c5, by omega, by go_num, by rw [HDK.out, List.length_append]; rfl, by rw [HDK.out, List.length_append, rowS_app]; exact HO5.out, B5.out⟩
                    case measure => simp [intOf] <;> omega
                · have e3 : (s.k == 3) = false := by simpa using hk3
                  have e5 : (s.k == 5) = false := by simpa using hk5
                  have HDK := Lib.hid (show dropK m (k + 1) = dl ++ [s] by rw [dropK, if_neg (fun h => by have h2 := h.2; rw [hs] at h2; unfold pairB at h2; rw [decide_eq_true_eq] at h2; exact h2.2.elim hk3 hk5), HDL.out, hs])
                  have ew : IntKind.i64.wrap ((k : Int) + 1) = (k : Int) + 1 := i64w (by omega)
                  have ek0 : (0 : Int) ≤ (k : Int) := by omega
                  clear hk3 hk5 hs
                  go_wp2_with (fail)
                  go_quiet (fail)
                  have hb2 : Below w1'.heap.size w1' (w1'.drewN nq) := bdrewN (Below.refl _ _) _
                  have HS2 := Lib.hid (heap_keep hb2 HS1.out)
                  have HO2 := Lib.hid (ownsRow_below HO1.out hb2)
                  have B2 := Lib.hid (B1.out.trans (hb2.mono B1.out.size))
                  clear hb2 s0 s1 s2 s3 s4 s5
                  generalize (w1'.drewN nq) = w2 at *
                  have s0 : w2.cell? ⟨q, 0, none⟩ = some (.int .i64 s.k) := cell_of HS2.out (i := 0) rfl
                  have s1 : w2.cell? ⟨q, 1, none⟩ = some (.int .i64 s.x) := cell_of HS2.out (i := 1) rfl
                  have s2 : w2.cell? ⟨q, 2, none⟩ = some (.int .i64 s.y) := cell_of HS2.out (i := 2) rfl
                  have s3 : w2.cell? ⟨q, 3, none⟩ = some (.int .i64 s.z) := cell_of HS2.out (i := 3) rfl
                  have s4 : w2.cell? ⟨q, 4, none⟩ = some (.int .i64 s.f) := cell_of HS2.out (i := 4) rfl
                  have s5 : w2.cell? ⟨q, 5, none⟩ = some (.int .i64 s.n) := cell_of HS2.out (i := 5) rfl
                  have hq2 := lt_of_heap HS2.out
                  have hp2 := B2.out.size
                  go_wp2_with (at_builtin; refine wpList_append_lies _ rfl _ _ 26 rfl wp.heap.size 36 i0 (.agg #[.int .i64 0, .int .i64 0, .int .i64 0, .int .i64 0, .int .i64 0, .int .i64 0]) 6 48 Try.underlying26 hi0 hz0 hz1 hz2 rfl (by decide) _ _ _ rfl (ownsRow_below (HO2.out) ((Below.refl _ w2).alloc (Nat.le_refl _) _)) ⟨w2.heap.size, 0, none⟩ 1 1 [.int .i64 s.k, .int .i64 s.x, .int .i64 s.y, .int .i64 s.z, .int .i64 s.f, .int .i64 s.n] rfl rfl (World.news_of_block (cs := #[.int .i64 s.k, .int .i64 s.x, .int .i64 s.y, .int .i64 s.z, .int .i64 s.f, .int .i64 s.n]) (t := 36) (fr := (0, 0)) (heap_alloc_new w2 (.cells #[.int .i64 s.k, .int .i64 s.x, .int .i64 s.y, .int .i64 s.z, .int .i64 s.f, .int .i64 s.n] 36))) (by simp [Value.oneCell']) (by omega) (by unfold maxLen; omega) (by omega) (by simp; omega) (w2.heap.size + 1) (by simp) ?_; intro g5 c5 w5 hown5 hgrow5 hge5 hlt5; have HO5 := Lib.hid hown5; have HB5 := Lib.hid (Below.grown (B := wp.heap.size) (Below.alloc (B := wp.heap.size) (Below.refl _ w2) (by omega) (.cells #[.int .i64 s.k, .int .i64 s.x, .int .i64 s.y, .int .i64 s.z, .int .i64 s.f, .int .i64 s.n] 36)) hgrow5 (by simp; omega) (fun b hb => ((HO2.out).lt b hb).1)); clear hown5 hgrow5 hge5)
                  have B5 := Lib.hid (B2.out.trans HB5.out)
                  go_roundw
                  case rel => exact ⟨k + 1, some ⟨g5, 0, none⟩, c5, by omega, by go_num, by rw [HDK.out, List.length_append]; rfl, by rw [HDK.out, List.length_append, rowS_app]; exact HO5.out, B5.out⟩
                  case measure => simp [intOf] <;> omega
            · obtain rfl : m.length = k := by omega
              rw [dropK_all] at HO hdl ⊢
              have HRP := Lib.hid (show passL l = dropL m by unfold passL; rw [HM.out])
              obtain ⟨r, hr⟩ : ∃ r, dropL m = r := ⟨_, rfl⟩
              rw [hr] at HO hdl HRP ⊢
              clear hr
              have HBo := Lib.hid (hBc.out.trans (HBP.out.mono hBc.out.size))
              have HBw := Lib.hid (HB.out.trans (HBo.out.mono HB.out.size))
              by_cases he : r.length = l.length
              · have he' : ((r.length : Int) == (l.length : Int)) = true := by simp [he]
                have HSL2 := Lib.hid (show shortO n S = l by
                  unfold shortO
                  rw [if_pos HZ.out, HL0.out, ← HSL.out]
                  exact short_done (fun s hs => (HAB.out s hs).a) (by rw [HRP.out]; exact he))
                have HPL2 := Lib.hid (HPL.out.kept HBo.out)
                go_wp2_with (fail)
                exact bodyPost_ret (v := .tuple #[.slice a1 l.length c1, .int .i64 0]) (by simp [results, Try.results13, go_sem]) rfl ⟨a1, l.length, c1, _, by rw [HZ.out], by rw [HSL2.out]; exact Nat.le_refl _, hlc, HPL2.out, fun _ => ⟨by rw [HSL2.out], by rw [HSL2.out]⟩, fun h => absurd HZ.out h, HBw.out⟩
              · have he' : ((r.length : Int) == (l.length : Int)) = false := by simp; omega
                have hrl := pass_len l
                rw [HRP.out] at hrl
                have HAB2 := Lib.hid (show ∀ s ∈ r, AB s by rw [← HRP.out]; exact dropL_ab (filtL_ab HAB.out))
                have HSL2 := Lib.hid (show shortL r = shortL L0 by rw [← HRP.out, short_pass (fun s hs => (HAB.out s hs).a)]; exact HSL.out)
                have HPR := Lib.hid (own_rowS HO.out rfl)
                have hcap := own_cap HO.out
                go_wp2_with (fail)
                go_roundw
                case rel => exact ⟨r, a3, c3, rfl, hcap, HPR.out, HAB2.out, HSL2.out, by omega, HBw.out⟩
                case measure => simp only [lenOf]; omega
  · have HZ := Lib.hid hz
    have hz' : (absE n S != 0) = true := by simpa using hz
    have hno0 := hE1 hz
    clear hz
    go_wp2_with (fail)
    exact bodyPost_ret (v := .tuple #[.slice none 0 0, .int .i64 (absE n S)]) (by simp [results, Try.results13, go_sem]) rfl ⟨none, 0, 0, fun _ => s00, rfl, Nat.zero_le _, Nat.le_refl _, .inl rfl, fun h => absurd h HZ.out, fun _ => rfl, B1.out⟩
end Go.Proofs.Ythmplflmjjccfaa

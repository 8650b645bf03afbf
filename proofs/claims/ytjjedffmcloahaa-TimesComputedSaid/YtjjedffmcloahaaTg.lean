/- The law TimesComputed. -/
import Derived.Test.YtjjedffmcloahaaTf
import Derived.Test.YtjjedffmcloahaaVs
import Derived.Test.YtjjedffmcloahaaVu
set_option linter.unusedSimpArgs false
set_option linter.unusedVariables false
namespace Go.Proofs.Ytjjedffmcloahaa
open Go.RowKit
theorem LegsR.past {w : World} {a : Option Addr} {n q : Nat} {L M : Nat → Int} (h : LegsR w a n L M) (hq : w.heap.size ≤ q) : n = 0 ∨ ∀ x, a = some x → x.block ≠ q := by
  rcases h with h | ⟨b, off, rfl, h1, _⟩
  · exact .inl h
  · exact .inr (fun x hx => by cases hx; show b ≠ q; omega)
theorem IntsR.past {w : World} {a : Option Addr} {n q : Nat} {V : Nat → Int} (h : IntsR w a n V) (hq : w.heap.size ≤ q) : n = 0 ∨ ∀ x, a = some x → x.block ≠ q := by
  rcases h with h | ⟨b, off, rfl, h1, _⟩
  · exact .inl h
  · exact .inr (fun x hx => by cases hx; show b ≠ q; omega)
theorem LegsR.mutn {w w' : World} {q n : Nat} {a : Option Addr} {L M : Nat → Int} (h : LegsR w a n L M) (hm : Mut (· = q) w w') (hb : n = 0 ∨ ∀ x, a = some x → x.block ≠ q) : LegsR w' a n L M := by
  rcases hb with hb | hb
  · exact .inl hb
  rcases h with h | ⟨b, off, rfl, h1, h2⟩
  · exact .inl h
  · have h3 : b ≠ q := hb _ rfl
    exact .inr ⟨b, off, rfl, Nat.lt_of_lt_of_le h1 hm.size, fun i hi => ⟨(hm.cell h1 h3).trans (h2 i hi).1, (hm.cell h1 h3).trans (h2 i hi).2⟩⟩
theorem IntsR.mutn {w w' : World} {q n : Nat} {a : Option Addr} {V : Nat → Int} (h : IntsR w a n V) (hm : Mut (· = q) w w') (hb : n = 0 ∨ ∀ x, a = some x → x.block ≠ q) : IntsR w' a n V := by
  rcases hb with hb | hb
  · exact .inl hb
  rcases h with h | ⟨b, off, rfl, h1, h2⟩
  · exact .inl h
  · have h3 : b ≠ q := hb _ rfl
    exact .inr ⟨b, off, rfl, Nat.lt_of_lt_of_le h1 hm.size, fun i hi => (hm.cell h1 h3).trans (h2 i hi)⟩
theorem Mut.outer {B q : Nat} {a w w' : World} (h : Mut (· = B) a w) (hm : Mut (· = q) w w') (hq : a.heap.size ≤ q) : Mut (· = B) a w' :=
  ⟨hm.os.trans h.os, hm.tape.trans h.tape, hm.output.trans h.output, Nat.le_trans h.size hm.size, fun k hk hn => (hm.block k (Nat.lt_of_lt_of_le hk h.size) (by omega)).trans (h.block k hk hn)⟩
def ifE (e x : Int) : Int := if e = 0 then x else 0
theorem exV_shape (u v l m c : Int) : exV u v l m c = .agg #[.int .i64 (ifE (exE u v l m c) (exN u v l m c)), .int .i64 (ifE (exE u v l m c) (exD u v l m c))] := by
  unfold exV ifE
  split <;> rfl
def cntE (e : Int) (n : Nat) : Nat := if e = 0 then n else 0
theorem PeaksU_any (a : Option Addr) (n cl : Nat) (L M : Nat → Int) (ac : Option Addr) (m cc : Nat) (C : Nat → Int) (c : Int) (w : World) (hn : n ≤ 100) (hm : m ≤ 100) (hp : LegsR w a n L M) (hc : IntsR w ac m C) :
    Calls Try.prog 7 #[.slice a n cl, .slice ac m cc, .int .i64 c] w fun e w' => ∃ pa pc, e = .returned (.tuple #[.slice pa (cntE (movE n L M m C c) n) pc, .int .i64 (movE n L M m C c)]) ∧ IntsR w' pa (cntE (movE n L M m C c) n) (peakF n L M C c) ∧ (∀ x, pa = some x → w.heap.size ≤ x.block) ∧ Below w.heap.size w w' := by
  refine (Peaks_any a n cl L M ac m cc C c w hn hm hp hc).mono ?_
  rintro e w' ⟨h1, h2, hb⟩
  by_cases hz : movE n L M m C c = 0
  · obtain ⟨ao, co, rfl, ho⟩ := h1 hz
    unfold cntE
    rw [if_pos hz, hz]
    exact ⟨ao, co, rfl, ints_of_own ho, fun x hx => (ho.lt x.block (by rw [hx]; rfl)).1, hb⟩
  · obtain rfl := h2 hz
    unfold cntE
    rw [if_neg hz]
    exact ⟨none, 0, rfl, .inl rfl, fun x hx => by (cases hx), hb⟩
theorem TimesU_any (a : Option Addr) (n cl : Nat) (L M : Nat → Int) (ac : Option Addr) (m cc : Nat) (C : Nat → Int) (c : Int) (w : World) (hn : n ≤ 100) (hm : m ≤ 100) (hp : LegsR w a n L M) (hc : IntsR w ac m C) :
    Calls Try.prog 8 #[.slice a n cl, .slice ac m cc, .int .i64 c] w fun e w' => ∃ pa pc, e = .returned (.tuple #[.slice pa (cntE (movE n L M m C c) n) pc, .int .i64 (movE n L M m C c)]) ∧ IntsR w' pa (cntE (movE n L M m C c) n) (timF n L M C c) ∧ (∀ x, pa = some x → w.heap.size ≤ x.block) ∧ Below w.heap.size w w' := by
  refine (Times_any a n cl L M ac m cc C c w hn hm hp hc).mono ?_
  rintro e w' ⟨h1, h2, hb⟩
  by_cases hz : movE n L M m C c = 0
  · obtain ⟨ao, co, rfl, ho⟩ := h1 hz
    unfold cntE
    rw [if_pos hz, hz]
    exact ⟨ao, co, rfl, ints_of_own ho, fun x hx => (ho.lt x.block (by rw [hx]; rfl)).1, hb⟩
  · obtain rfl := h2 hz
    unfold cntE
    rw [if_neg hz]
    exact ⟨none, 0, rfl, .inl rfl, fun x hx => by (cases hx), hb⟩
theorem TotalU_any (a : Option Addr) (n cl : Nat) (L M : Nat → Int) (ac : Option Addr) (m cc : Nat) (C : Nat → Int) (c : Int) (w : World) (hn : n ≤ 100) (hm : m ≤ 100) (hp : LegsR w a n L M) (hc : IntsR w ac m C) :
    Calls Try.prog 9 #[.slice a n cl, .slice ac m cc, .int .i64 c] w fun e w' => e = .returned (.tuple #[.int .i64 (ifE (movE n L M m C c) (totZ (timF n L M C c) n)), .int .i64 (movE n L M m C c)]) ∧ Below w.heap.size w w' := by
  refine (Total_any a n cl L M ac m cc C c w hn hm hp hc).mono ?_
  rintro e w' ⟨h1, h2, hb⟩
  by_cases hz : movE n L M m C c = 0
  · obtain rfl := h1 hz
    unfold ifE
    rw [if_pos hz, hz]
    exact ⟨rfl, hb⟩
  · obtain rfl := h2 hz
    unfold ifE
    rw [if_neg hz]
    exact ⟨rfl, hb⟩
set_option maxRecDepth 100000 in
set_option maxHeartbeats 16000000 in
theorem timesComputed_walk (a0 : Option Addr) (len0 cap0 : Nat) (z0 : List Int) (w : World) (w0 : IsRow .i64 w a0 len0 cap0 z0) :
    Calls Try.prog 3 #[.slice a0 len0 cap0] w fun e w' => e = .returned (.bool true) ∧ Below w.heap.size w w' := by
  have HS0 := Lib.hid (Strm.start w0)
  go_enter Try.func3, Try.ntmps3
  go_wp2_with (fail)
  have HM0 : Hid (Mut (· = w.heap.size) w (w.alloc (.cells #[.slice a0 len0 cap0, .int .i64 0] 25))) := Lib.hid ((Mut.refl _ w).alloc _)
  have hl0 : w.heap.size < (w.alloc (.cells #[.slice a0 len0 cap0, .int .i64 0] 25)).heap.size := by simp
  generalize (w.alloc (.cells #[.slice a0 len0 cap0, .int .i64 0] 25)) = ws at *
  obtain ⟨B, hBw⟩ : ∃ B, B = w.heap.size := ⟨_, rfl⟩
  rw [← hBw] at HS0 HM0 hl0 ⊢
  have HBW := Lib.hid hBw
  clear hBw
  refine (legList_any B 0 8 _ HS0.out (by omega) (by omega) (by omega)).mono ?_
  rintro e w1 ⟨a, n, cl, L, M, rfl, hn8, hp, hfa, hst, hmt⟩
  have HP := Lib.hid hp
  have HFA := Lib.hid hfa
  have HS := Lib.hid hst
  have HM := Lib.hid (HM0.out.trans (hmt.mono fun _ _ h => h))
  clear hp hfa hst hmt HS0 HM0
  go_wp2_with (fail)
  refine (cornerList_any B _ n w1 HS.out (by omega) hn8).mono ?_
  rintro e w2 ⟨ac, m, cc, C, rfl, hm9, hc, hfc, hst, hmt⟩
  replace HP := Lib.hid (HP.out.mut hmt HFA.out)
  have HC := Lib.hid hc
  have HFC := Lib.hid hfc
  replace HS := Lib.hid hst
  replace HM := Lib.hid (HM.out.trans (hmt.mono fun _ _ h => h))
  clear hc hfc hst hmt
  go_wp2_with (fail)
  refine (aChange_any B _ w2 HS.out (by omega)).mono ?_
  rintro e w3 ⟨⟨c, rfl, _⟩, hst, hmt⟩
  replace HP := Lib.hid (HP.out.mut hmt HFA.out)
  replace HC := Lib.hid (HC.out.mut hmt HFC.out)
  replace HS := Lib.hid hst
  replace HM := Lib.hid (HM.out.trans (hmt.mono fun _ _ h => h))
  clear hst hmt
  have hBl := HS.out.lt
  go_wp2_with (fail)
  refine (PeaksU_any a n cl L M ac m cc C c w3 (by omega) (by omega) HP.out HC.out).mono ?_
  rintro e w4 ⟨pa, pc, rfl, hpk, hfp, hb⟩
  have HPK := Lib.hid hpk
  have HFP := Lib.hid (show ∀ x, pa = some x → B < x.block from fun x hx => by have := hfp x hx; omega)
  replace HP := Lib.hid (HP.out.kept hb)
  replace HC := Lib.hid (HC.out.kept hb)
  replace HS := Lib.hid (StrmV.below HS.out hb)
  replace HM := Lib.hid (HM.out.below hb)
  have hBl4 := HS.out.lt
  clear hb hpk hfp
  go_wp2_with (fail)
  refine (TimesU_any a n cl L M ac m cc C c w4 (by omega) (by omega) HP.out HC.out).mono ?_
  rintro e w5 ⟨ta, tc, rfl, htm, hft, hb⟩
  have HTM := Lib.hid htm
  have HFT := Lib.hid (show ∀ x, ta = some x → B < x.block from fun x hx => by have := hft x hx; omega)
  replace HP := Lib.hid (HP.out.kept hb)
  replace HC := Lib.hid (HC.out.kept hb)
  replace HPK := Lib.hid (HPK.out.kept hb)
  replace HS := Lib.hid (StrmV.below HS.out hb)
  replace HM := Lib.hid (HM.out.below hb)
  clear hb htm hft hBl hBl4 hl0
  go_wp2_with (fail)
  refine (TotalU_any a n cl L M ac m cc C c w5 (by omega) (by omega) HP.out HC.out).mono ?_
  rintro e w6 ⟨rfl, hb⟩
  replace HP := Lib.hid (HP.out.kept hb)
  replace HC := Lib.hid (HC.out.kept hb)
  replace HPK := Lib.hid (HPK.out.kept hb)
  replace HTM := Lib.hid (HTM.out.kept hb)
  replace HS := Lib.hid (StrmV.below HS.out hb)
  replace HM := Lib.hid (HM.out.below hb)
  clear hb
  go_wp2_with (fail)
  by_cases hz : movE n L M m C c = 0
  · skip
    have hcn : cntE (movE n L M m C c) n = n := if_pos hz
    have hif : ifE (movE n L M m C c) (totZ (timF n L M C c) n) = totZ (timF n L M C c) n := if_pos hz
    rw [hcn] at HPK HTM ⊢
    rw [hif]
    have OK := Lib.hid (mok hz)
    have HZ := Lib.hid hz
    rw [hz]
    have hpn := OK.out.pos
    clear hcn hif hz
    go_wp2_with (fail)
    refine (pick_atV B _ [1, 20, 100, 0] 4 (fun _ => True) w6 _ rfl HS.out (by omega) rfl (by omega) (by omega) (by simp)).mono ?_
    rintro e w7 ⟨⟨l0, rfl, _⟩, hst, hmt⟩
    replace HP := Lib.hid (HP.out.mut hmt HFA.out)
    replace HC := Lib.hid (HC.out.mut hmt HFC.out)
    replace HPK := Lib.hid (HPK.out.mut hmt HFP.out)
    replace HTM := Lib.hid (HTM.out.mut hmt HFT.out)
    replace HS := Lib.hid hst
    replace HM := Lib.hid (HM.out.trans (hmt.mono fun _ _ h => h))
    clear hst hmt
    go_wp2_with (fail)
    refine (pick_atV B _ [50, 100, 500] 3 (fun _ => True) w7 _ rfl HS.out (by omega) rfl (by omega) (by omega) (by simp)).mono ?_
    rintro e w8 ⟨⟨m0, rfl, _⟩, hst, hmt⟩
    replace HP := Lib.hid (HP.out.mut hmt HFA.out)
    replace HC := Lib.hid (HC.out.mut hmt HFC.out)
    replace HPK := Lib.hid (HPK.out.mut hmt HFP.out)
    replace HTM := Lib.hid (HTM.out.mut hmt HFT.out)
    replace HS := Lib.hid hst
    replace HM := Lib.hid (HM.out.trans (hmt.mono fun _ _ h => h))
    clear hst hmt
    go_wp2_with (fail)
    refine (pick_atV B _ [0, 0, 10, 50, 100, -1] 6 (fun _ => True) w8 _ rfl HS.out (by omega) rfl (by omega) (by omega) (by simp)).mono ?_
    rintro e w9 ⟨⟨u, rfl, _⟩, hst, hmt⟩
    replace HP := Lib.hid (HP.out.mut hmt HFA.out)
    replace HC := Lib.hid (HC.out.mut hmt HFC.out)
    replace HPK := Lib.hid (HPK.out.mut hmt HFP.out)
    replace HTM := Lib.hid (HTM.out.mut hmt HFT.out)
    replace HS := Lib.hid hst
    replace HM := Lib.hid (HM.out.trans (hmt.mono fun _ _ h => h))
    clear hst hmt
    go_wp2_with (fail)
    refine (pick_atV B _ [0, 10, 30, 501] 4 (fun _ => True) w9 _ rfl HS.out (by omega) rfl (by omega) (by omega) (by simp)).mono ?_
    rintro e w10 ⟨⟨v, rfl, _⟩, hst, hmt⟩
    replace HP := Lib.hid (HP.out.mut hmt HFA.out)
    replace HC := Lib.hid (HC.out.mut hmt HFC.out)
    replace HPK := Lib.hid (HPK.out.mut hmt HFP.out)
    replace HTM := Lib.hid (HTM.out.mut hmt HFT.out)
    replace HS := Lib.hid hst
    replace HM := Lib.hid (HM.out.trans (hmt.mono fun _ _ h => h))
    clear hst hmt
    have hbA : Below w10.heap.size w10 (w10.alloc (.cells #[.int .i64 l0, .int .i64 m0] 37)) := (Below.refl _ _).alloc (Nat.le_refl _) _
    have H13 := Lib.hid (heap_alloc_new w10 (.cells #[.int .i64 l0, .int .i64 m0] 37))
    have NP := Lib.hid (HP.out.past (Nat.le_refl w10.heap.size))
    have NC := Lib.hid (HC.out.past (Nat.le_refl w10.heap.size))
    have NPK := Lib.hid (HPK.out.past (Nat.le_refl w10.heap.size))
    have NTM := Lib.hid (HTM.out.past (Nat.le_refl w10.heap.size))
    have hq13 := HS.out.lt
    replace HP := Lib.hid (HP.out.kept hbA)
    replace HC := Lib.hid (HC.out.kept hbA)
    replace HPK := Lib.hid (HPK.out.kept hbA)
    replace HTM := Lib.hid (HTM.out.kept hbA)
    replace HS := Lib.hid (StrmV.below HS.out hbA)
    replace HM := Lib.hid (HM.out.below hbA)
    have hnp : (0 : Int) < (n : Int) := by omega
    have hnp2 : 0 < n := by omega
    clear hbA
    go_wp2_with (fail)
    generalize (w10.alloc (.cells #[.int .i64 l0, .int .i64 m0] 37)) = w11 at *
    obtain ⟨q13, hq⟩ : ∃ q, q = w10.heap.size := ⟨_, rfl⟩
    rw [← hq] at H13 NP NC NPK NTM hq13 ⊢
    clear hq
    refine (next_any B _ n w11 HS.out (by omega) (by omega) (by omega)).mono ?_
    rintro e w12 ⟨⟨r, rfl, hr0, hr1⟩, hst, hmt⟩
    obtain ⟨j, rfl⟩ := Int.eq_ofNat_of_zero_le hr0
    replace HP := Lib.hid (HP.out.mut hmt HFA.out)
    replace HC := Lib.hid (HC.out.mut hmt HFC.out)
    replace HPK := Lib.hid (HPK.out.mut hmt HFP.out)
    replace HTM := Lib.hid (HTM.out.mut hmt HFT.out)
    replace H13 := Lib.hid ((hmt.block _ (lt_of_heap H13.out) (by omega)).trans H13.out)
    replace HS := Lib.hid hst
    replace HM := Lib.hid (HM.out.trans (hmt.mono fun _ _ h => h))
    clear hst hmt
    obtain ⟨b, off, rfl, hb, hd⟩ : ∃ b off, a = some ⟨b, off, none⟩ ∧ b < w12.heap.size ∧ ∀ i, i < n → w12.cell? ⟨b, off + i * 2, none⟩ = some (.int .i64 (L i)) ∧ w12.cell? ⟨b, off + i * 2 + 1, none⟩ = some (.int .i64 (M i)) := by
      rcases HP.out with h | h
      · omega
      · exact h
    have hj : j < n := by omega
    have c0 := (hd j hj).1
    have c1 := (hd j hj).2
    have d0 := cell_of H13.out (i := 0) rfl
    have d1 := cell_of H13.out (i := 1) rfl
    have f0 := frozen_of H13.out (i := 0)
    have f1 := frozen_of H13.out (i := 1)
    clear hd hr0 hr1
    obtain ⟨l, hl⟩ : ∃ z, L j = z := ⟨_, rfl⟩
    obtain ⟨m_, hm_⟩ : ∃ z, M j = z := ⟨_, rfl⟩
    rw [hl] at c0
    rw [hm_] at c1
    clear hl hm_
    go_wp2_with (fail)
    clear c0 c1 d0 d1 f0 f1
    replace H13 := Lib.hid (set2V_1 (u := .int .i64 m_) (set2V_0 (u := .int .i64 l) H13.out))
    have hmt : Mut (· = q13) w12 ((w12.setCell ⟨q13, 0, none⟩ (.int .i64 l)).setCell ⟨q13, 1, none⟩ (.int .i64 m_)) := Mut.setCell (S := (· = q13)) (p := ⟨q13, 1, none⟩) (Mut.setCell (S := (· = q13)) (p := ⟨q13, 0, none⟩) (Mut.refl (· = q13) w12) (fun _ => rfl) _) (fun _ => rfl) _
    replace HP := Lib.hid (HP.out.mutn hmt NP.out)
    replace HC := Lib.hid (HC.out.mutn hmt NC.out)
    replace HPK := Lib.hid (HPK.out.mutn hmt (by first | exact NPK.out | exact .inl rfl))
    replace HTM := Lib.hid (HTM.out.mutn hmt (by first | exact NTM.out | exact .inl rfl))
    replace HM := Lib.hid (HM.out.outer hmt (by have := HBW.out; omega))
    clear hmt hb
    generalize ((w12.setCell ⟨q13, 0, none⟩ (.int .i64 l)).setCell ⟨q13, 1, none⟩ (.int .i64 m_)) = w13 at *
    have k0 := cell_of H13.out (i := 0) rfl
    have k1 := cell_of H13.out (i := 1) rfl
    go_wp2_with (fail)
    clear k0 k1
    have hE := Exact_any u v l m_ c w13
    rw [exV_shape] at hE
    refine hE.mono ?_
    clear hE
    rintro e w14 ⟨rfl, hb⟩
    replace HP := Lib.hid (HP.out.kept hb)
    replace HC := Lib.hid (HC.out.kept hb)
    replace HPK := Lib.hid (HPK.out.kept hb)
    replace HTM := Lib.hid (HTM.out.kept hb)
    replace H13 := Lib.hid (heap_keep hb H13.out)
    replace HM := Lib.hid (HM.out.below hb)
    clear hb
    obtain ⟨fx, hfx⟩ : ∃ z, ifE (exE u v l m_ c) (exN u v l m_ c) = z := ⟨_, rfl⟩
    obtain ⟨fy, hfy⟩ : ∃ z, ifE (exE u v l m_ c) (exD u v l m_ c) = z := ⟨_, rfl⟩
    have HFX := Lib.hid hfx
    have HFY := Lib.hid hfy
    rw [hfx, hfy]
    clear hfx hfy
    go_wp2_with (fail)
    have hb : Below w14.heap.size w14 (w14.alloc (.cells #[.int .i64 fx, .int .i64 fy] 40)) := (Below.refl _ _).alloc (Nat.le_refl _) _
    have H16 := Lib.hid (heap_alloc_new w14 (.cells #[.int .i64 fx, .int .i64 fy] 40))
    replace HP := Lib.hid (HP.out.kept hb)
    replace HC := Lib.hid (HC.out.kept hb)
    replace HPK := Lib.hid (HPK.out.kept hb)
    replace HTM := Lib.hid (HTM.out.kept hb)
    replace H13 := Lib.hid (heap_keep hb H13.out)
    replace HM := Lib.hid (HM.out.below hb)
    clear hb
    generalize (w14.alloc (.cells #[.int .i64 fx, .int .i64 fy] 40)) = w15 at *
    obtain ⟨q16, hq⟩ : ∃ q, q = w14.heap.size := ⟨_, rfl⟩
    rw [← hq] at H16 ⊢
    clear hq
    have k0 := cell_of H13.out (i := 0) rfl
    have k1 := cell_of H13.out (i := 1) rfl
    refine wp_region_held_drew (S := (fun w' => w'.cell? ⟨q13, 0, none⟩ = some (.int .i64 l) ∧ w'.cell? ⟨q13, 1, none⟩ = some (.int .i64 m_))) (by kernel_rfl) ⟨k0, k1⟩ (fun hHeld => ?_)
    have hb : Below w15.heap.size w15 w15.drew := (Below.refl _ _).drew
    replace HP := Lib.hid (HP.out.kept hb)
    replace HC := Lib.hid (HC.out.kept hb)
    replace HPK := Lib.hid (HPK.out.kept hb)
    replace HTM := Lib.hid (HTM.out.kept hb)
    replace H13 := Lib.hid (heap_keep hb H13.out)
    replace H16 := Lib.hid (heap_keep hb H16.out)
    replace HM := Lib.hid (HM.out.below hb)
    clear hb
    generalize w15.drew = w16 at *
    refine tkH (by assumption) 0 (oi := ?_) (v := ?_) ?_ ?_ ?_ ?_ ?_ ?_ ?_ ?_; rotate_left 2; (simp only [gA, gB, gC]; exact rfl); kernel_rfl; kernel_rfl; kernel_rfl; exact fun _ _ _ h => h; rfl; (intro w' hSw; (try dsimp only at hSw); go_simp; with_reducible rfl); simp only [Act.put, pB, pC, pD]
    refine tkH (by assumption) 1 (oi := ?_) (v := ?_) ?_ ?_ ?_ ?_ ?_ ?_ ?_ ?_; rotate_left 2; (simp only [gA, gB, gC]; exact rfl); kernel_rfl; kernel_rfl; kernel_rfl; exact fun _ _ _ h => h; rfl; (intro w' hSw; (try dsimp only at hSw); go_simp; with_reducible rfl); simp only [Act.put, pB, pC, pD]
    refine tkH (by assumption) 2 (oi := ?_) (v := ?_) ?_ ?_ ?_ ?_ ?_ ?_ ?_ ?_; rotate_left 2; (simp only [gA, gB, gC]; exact rfl); kernel_rfl; kernel_rfl; kernel_rfl; exact fun _ _ _ h => h; rfl; (intro w' hSw; (try dsimp only at hSw); go_simp; with_reducible rfl); simp only [Act.put, pB, pC, pD]
    refine tkH (by assumption) 4 (oi := ?_) (v := ?_) ?_ ?_ ?_ ?_ ?_ ?_ ?_ ?_; rotate_left 2; (simp only [gA, gB, gC]; exact rfl); kernel_rfl; kernel_rfl; kernel_rfl; exact fun _ _ _ h => h; rfl; (intro w' hSw; (try dsimp only at hSw); go_simp; with_reducible rfl); simp only [Act.put, pB, pC, pD]
    refine tkH (by assumption) 5 (oi := ?_) (v := ?_) ?_ ?_ ?_ ?_ ?_ ?_ ?_ ?_; rotate_left 2; (simp only [gA, gB, gC]; exact rfl); kernel_rfl; kernel_rfl; kernel_rfl; exact fun _ _ _ h => h; rfl; (intro w' hSw; (try dsimp only at hSw); go_simp; with_reducible rfl); simp only [Act.put, pB, pC, pD]
    refine tkH (by assumption) 6 (oi := ?_) (v := ?_) ?_ ?_ ?_ ?_ ?_ ?_ ?_ ?_; rotate_left 2; (simp only [gA, gB, gC]; exact rfl); kernel_rfl; kernel_rfl; kernel_rfl; exact fun _ _ _ h => h; rfl; (intro w' hSw; (try dsimp only at hSw); go_simp; with_reducible rfl); simp only [Act.put, pB, pC, pD]
    refine tkH (by assumption) 7 (oi := ?_) (v := ?_) ?_ ?_ ?_ ?_ ?_ ?_ ?_ ?_; rotate_left 2; (simp only [gA, gB, gC]; exact rfl); kernel_rfl; kernel_rfl; kernel_rfl; exact fun _ _ _ h => h; rfl; (intro w' hSw; (try dsimp only at hSw); go_simp; with_reducible rfl); simp only [Act.put, pB, pC, pD]
    refine onH 3 (oi := ?_) (by kernel_rfl) ?_ ?_ (fun K hK => ?_); rotate_left; (simp only [gA, gB, gC]; exact rfl); rfl
    go_wp2_with (fail)
    refine (lawFault_any (some ⟨b, off, none⟩) n cl L M ac m cc C c w16 (by omega) (by omega) HP.out HC.out).mono ?_
    rintro e w17 ⟨rfl, hb⟩
    replace HP := Lib.hid (HP.out.kept hb)
    replace HC := Lib.hid (HC.out.kept hb)
    replace HPK := Lib.hid (HPK.out.kept hb)
    replace HTM := Lib.hid (HTM.out.kept hb)
    replace H13 := Lib.hid (heap_keep hb H13.out)
    replace H16 := Lib.hid (heap_keep hb H16.out)
    replace HM := Lib.hid (HM.out.below hb)
    clear hb k0 k1
    have k0 := cell_of H13.out (i := 0) rfl
    have k1 := cell_of H13.out (i := 1) rfl
    refine hK.out _ _ ⟨k0, k1⟩ (fun hHeldN => ?_)
    clear hK K hHeld
    have hHeld := hHeldN
    clear hHeldN
    try simp only [Act.put, pB, pC, pD]
    refine onH 8 (oi := ?_) (by kernel_rfl) ?_ ?_ (fun K hK => ?_); rotate_left; (simp only [gA, gB, gC]; exact rfl); rfl
    go_wp2_with (fail)
    refine (exactFault_any u v l m_ c w17).mono ?_
    rintro e w18 ⟨rfl, hb⟩
    replace HP := Lib.hid (HP.out.kept hb)
    replace HC := Lib.hid (HC.out.kept hb)
    replace HPK := Lib.hid (HPK.out.kept hb)
    replace HTM := Lib.hid (HTM.out.kept hb)
    replace H13 := Lib.hid (heap_keep hb H13.out)
    replace H16 := Lib.hid (heap_keep hb H16.out)
    replace HM := Lib.hid (HM.out.below hb)
    clear hb k0 k1
    have k0 := cell_of H13.out (i := 0) rfl
    have k1 := cell_of H13.out (i := 1) rfl
    refine hK.out _ _ ⟨k0, k1⟩ (fun hHeldN => ?_)
    clear hK K hHeld
    have hHeld := hHeldN
    clear hHeldN
    try simp only [Act.put, pB, pC, pD]
    refine tkH (by assumption) 9 (oi := ?_) (v := ?_) ?_ ?_ ?_ ?_ ?_ ?_ ?_ ?_; rotate_left 2; (simp only [gA, gB, gC]; exact rfl); kernel_rfl; kernel_rfl; kernel_rfl; exact fun _ _ _ h => h; rfl; (intro w' hSw; (try dsimp only at hSw); go_simp; with_reducible rfl); simp only [Act.put, pB, pC, pD]
    refine tkH (by assumption) 10 (oi := ?_) (v := ?_) ?_ ?_ ?_ ?_ ?_ ?_ ?_ ?_; rotate_left 2; (simp only [gA, gB, gC]; exact rfl); kernel_rfl; kernel_rfl; kernel_rfl; exact fun _ _ _ h => h; rfl; (intro w' hSw; (try dsimp only at hSw); go_simp; with_reducible rfl); simp only [Act.put, pB, pC, pD]
    refine wpAnyH_done (by kernel_rfl) ?_ _
    clear k0 k1
    rw [HZ.out]
    go_wp2_with (fail)
    refine (peaksOf_any (some ⟨b, off, none⟩) n cl L M ac m cc C c w18 (by omega) HP.out HC.out OK.out).mono ?_
    rintro e w19 ⟨qa, qc, rfl, hown, hb⟩
    replace HP := Lib.hid (HP.out.kept hb)
    replace HC := Lib.hid (HC.out.kept hb)
    replace HPK := Lib.hid (HPK.out.kept hb)
    replace HTM := Lib.hid (HTM.out.kept hb)
    replace H13 := Lib.hid (heap_keep hb H13.out)
    replace H16 := Lib.hid (heap_keep hb H16.out)
    replace HM := Lib.hid (HM.out.below hb)
    have HQ1 : Hid (IntsR w19 qa n (peakF n L M C c)) := Lib.hid (ints_of_own hown)
    clear hb hown
    go_wp2_with (fail)
    refine (timesOf_any (some ⟨b, off, none⟩) n cl L M ac m cc C c w19 (by omega) HP.out HC.out OK.out).mono ?_
    rintro e w20 ⟨ra, rc, rfl, hown, hb⟩
    replace HP := Lib.hid (HP.out.kept hb)
    replace HC := Lib.hid (HC.out.kept hb)
    replace HPK := Lib.hid (HPK.out.kept hb)
    replace HTM := Lib.hid (HTM.out.kept hb)
    replace H13 := Lib.hid (heap_keep hb H13.out)
    replace H16 := Lib.hid (heap_keep hb H16.out)
    replace HM := Lib.hid (HM.out.below hb)
    replace HQ1 := Lib.hid (HQ1.out.kept hb)
    have HQ2 : Hid (IntsR w20 ra n (timF n L M C c)) := Lib.hid (ints_of_own hown)
    clear hb hown
    go_wp2_with (fail)
    go_loopw [22, 110] (fun s i wr => ∃ t : Nat, t ≤ n ∧ i = .int .i64 t ∧ s = .int .i64 (totZ (timF n L M C c) t) ∧ Below w20.heap.size w20 wr) (fun _ i _ => n - (intOf i).toNat)
    case atStart => exact ⟨0, by omega, rfl, rfl, Below.refl _ _⟩
    case round =>
      obtain ⟨t, ht, rfl, rfl, hbel⟩ := hrel
      have HBL := Lib.hid hbel
      have hsz := hbel.size
      clear hbel
      by_cases hlt : t < n
      · rcases HQ2.out with h | ⟨b2, off2, rfl, hb2, hd2⟩
        · omega
        have c0 := cellk HBL.out hb2 (hd2 t hlt)
        clear hd2
        have hs : IntKind.i64.wrap (totZ (timF n L M C c) t + timF n L M C c t) = totZ (timF n L M C c) (t + 1) := rfl
        go_wp2_with (fail)
        go_roundw
        case rel => exact ⟨t + 1, by omega, by go_num, rfl, HBL.out⟩
        case measure => simp [intOf] <;> omega
      · obtain rfl : n = t := by omega
        have hb := HBL.out
        clear HBL hsz hlt ht
        replace HP := Lib.hid (HP.out.kept hb)
        replace HC := Lib.hid (HC.out.kept hb)
        replace HPK := Lib.hid (HPK.out.kept hb)
        replace HTM := Lib.hid (HTM.out.kept hb)
        replace HQ1 := Lib.hid (HQ1.out.kept hb)
        replace HQ2 := Lib.hid (HQ2.out.kept hb)
        replace H13 := Lib.hid (heap_keep hb H13.out)
        replace H16 := Lib.hid (heap_keep hb H16.out)
        replace HM := Lib.hid (HM.out.below hb)
        clear hb
        have htt : (totZ (timF n L M C c) n == totZ (timF n L M C c) n) = true := by simp
        have k0 := cell_of H13.out (i := 0) rfl
        have k1 := cell_of H13.out (i := 1) rfl
        have l13 := lt_of_heap H13.out
        have hb : Below wr.heap.size wr (wr.alloc (.cells #[.int .i64 0, .int .i64 0] 40)) := (Below.refl _ _).alloc (Nat.le_refl _) _
        have H25 := Lib.hid (heap_alloc_new wr (.cells #[.int .i64 0, .int .i64 0] 40))
        have N16 := Lib.hid (show q16 ≠ wr.heap.size from Nat.ne_of_lt (lt_of_heap H16.out))
        have NP := Lib.hid (HP.out.past (Nat.le_refl wr.heap.size))
        have NC := Lib.hid (HC.out.past (Nat.le_refl wr.heap.size))
        have NPK := Lib.hid (HPK.out.past (Nat.le_refl wr.heap.size))
        have NTM := Lib.hid (HTM.out.past (Nat.le_refl wr.heap.size))
        have NQ1 := Lib.hid (HQ1.out.past (Nat.le_refl wr.heap.size))
        have NQ2 := Lib.hid (HQ2.out.past (Nat.le_refl wr.heap.size))
        have hqB : B < wr.heap.size := by have := hq13; have := lt_of_heap H13.out; omega
        replace HP := Lib.hid (HP.out.kept hb)
        replace HC := Lib.hid (HC.out.kept hb)
        replace HPK := Lib.hid (HPK.out.kept hb)
        replace HTM := Lib.hid (HTM.out.kept hb)
        replace HQ1 := Lib.hid (HQ1.out.kept hb)
        replace HQ2 := Lib.hid (HQ2.out.kept hb)
        replace H13 := Lib.hid (heap_keep hb H13.out)
        replace H16 := Lib.hid (heap_keep hb H16.out)
        replace HM := Lib.hid (HM.out.below hb)
        clear hb
        by_cases hx : exE u v l m_ c = 0
        · have hx' : (exE u v l m_ c == 0) = true := by simp [hx]
          have hxc : chkE u v l m_ c = 0 := by
            unfold exE at hx
            split at hx
            · assumption
            · rename_i h; exact absurd hx h
          obtain ⟨hu, hv, hcc, hl, hmm⟩ := chk_ok hxc
          have HXK := Lib.hid (show (0 ≤ u ∧ u ≤ 100000) ∧ (0 ≤ v ∧ v ≤ 100000) ∧ (1 ≤ c ∧ c ≤ 10000000) ∧ (1 ≤ l ∧ l ≤ 200000) ∧ (1 ≤ m_ ∧ m_ ≤ 100000) from ⟨hu, hv, hcc, hl, hmm⟩)
          have hX1 : exN u v l m_ c = fx := by have := HFX.out; unfold ifE at this; rw [if_pos hx] at this; exact this
          have hX2 : exD u v l m_ c = fy := by have := HFY.out; unfold ifE at this; rw [if_pos hx] at this; exact this
          have HX1 := Lib.hid hX1
          have HX2 := Lib.hid hX2
          have hxx : (exE u v l m_ c == exE u v l m_ c) = true := by simp
          clear hxc hu hv hcc hl hmm hX1 hX2 hx
          go_wp2_with (fail)
          clear k0 k1 l13
          generalize (wr.alloc (.cells #[.int .i64 0, .int .i64 0] 40)) = y1 at *
          obtain ⟨q25, hq⟩ : ∃ q, q = wr.heap.size := ⟨_, rfl⟩
          rw [← hq] at H25 N16 NP NC NPK NTM NQ1 NQ2 hqB ⊢
          clear hq
          refine (exactOf_any u v l m_ c y1 HXK.out.1 HXK.out.2.1 HXK.out.2.2.1 HXK.out.2.2.2.1 HXK.out.2.2.2.2).mono ?_
          rintro e y2 ⟨rfl, hb⟩
          rw [HX1.out, HX2.out]
          replace HP := Lib.hid (HP.out.kept hb)
          replace HC := Lib.hid (HC.out.kept hb)
          replace HPK := Lib.hid (HPK.out.kept hb)
          replace HTM := Lib.hid (HTM.out.kept hb)
          replace HQ1 := Lib.hid (HQ1.out.kept hb)
          replace HQ2 := Lib.hid (HQ2.out.kept hb)
          replace H13 := Lib.hid (heap_keep hb H13.out)
          replace H16 := Lib.hid (heap_keep hb H16.out)
          replace H25 := Lib.hid (heap_keep hb H25.out)
          replace HM := Lib.hid (HM.out.below hb)
          clear hb
          have d0 := cell_of H25.out (i := 0) rfl
          have d1 := cell_of H25.out (i := 1) rfl
          have f0 := frozen_of H25.out (i := 0)
          have f1 := frozen_of H25.out (i := 1)
          go_wp2_with (fail)
          clear d0 d1 f0 f1
          have hmt : Mut (· = q25) y2 ((y2.setCell ⟨q25, 0, none⟩ (.int .i64 fx)).setCell ⟨q25, 1, none⟩ (.int .i64 fy)) := Mut.setCell (S := (· = q25)) (p := ⟨q25, 1, none⟩) (Mut.setCell (S := (· = q25)) (p := ⟨q25, 0, none⟩) (Mut.refl (· = q25) y2) (fun _ => rfl) _) (fun _ => rfl) _
          replace H25 := Lib.hid (set2V_1 (u := .int .i64 fy) (set2V_0 (u := .int .i64 fx) H25.out))
          replace H16 := Lib.hid ((hmt.block _ (lt_of_heap H16.out) N16.out).trans H16.out)
          replace HP := Lib.hid (HP.out.mutn hmt (by first | exact NP.out | exact .inl rfl))
          replace HC := Lib.hid (HC.out.mutn hmt (by first | exact NC.out | exact .inl rfl))
          replace HPK := Lib.hid (HPK.out.mutn hmt (by first | exact NPK.out | exact .inl rfl))
          replace HTM := Lib.hid (HTM.out.mutn hmt (by first | exact NTM.out | exact .inl rfl))
          replace HQ1 := Lib.hid (HQ1.out.mutn hmt (by first | exact NQ1.out | exact .inl rfl))
          replace HQ2 := Lib.hid (HQ2.out.mutn hmt (by first | exact NQ2.out | exact .inl rfl))
          replace HM := Lib.hid (HM.out.outer hmt (by have := HBW.out; omega))
          clear hmt H13
          generalize ((y2.setCell ⟨q25, 0, none⟩ (.int .i64 fx)).setCell ⟨q25, 1, none⟩ (.int .i64 fy)) = y3 at *
          refine (equalV_any _ _ n _ _ (peakF n L M C c) (peakF n L M C c) y3 (by omega) HPK.out HQ1.out (fun i h => rfl)).mono ?_
          rintro e x1 ⟨rfl, hb⟩
          replace HP := Lib.hid (HP.out.kept hb)
          replace HC := Lib.hid (HC.out.kept hb)
          replace HPK := Lib.hid (HPK.out.kept hb)
          replace HTM := Lib.hid (HTM.out.kept hb)
          replace HQ1 := Lib.hid (HQ1.out.kept hb)
          replace HQ2 := Lib.hid (HQ2.out.kept hb)
          replace H16 := Lib.hid (heap_keep hb H16.out)
          replace H25 := Lib.hid (heap_keep hb H25.out)
          replace HM := Lib.hid (HM.out.below hb)
          clear hb
          go_wp2_with (fail)
          refine (equalV_any _ _ n _ _ (timF n L M C c) (timF n L M C c) x1 (by omega) HTM.out HQ2.out (fun i h => rfl)).mono ?_
          rintro e x2 ⟨rfl, hb⟩
          replace HP := Lib.hid (HP.out.kept hb)
          replace HC := Lib.hid (HC.out.kept hb)
          replace HPK := Lib.hid (HPK.out.kept hb)
          replace HTM := Lib.hid (HTM.out.kept hb)
          replace HQ1 := Lib.hid (HQ1.out.kept hb)
          replace HQ2 := Lib.hid (HQ2.out.kept hb)
          replace H16 := Lib.hid (heap_keep hb H16.out)
          replace H25 := Lib.hid (heap_keep hb H25.out)
          replace HM := Lib.hid (HM.out.below hb)
          clear hb
          have k16a := cell_of H16.out (i := 0) rfl
          have k16b := cell_of H16.out (i := 1) rfl
          have k25a := cell_of H25.out (i := 0) rfl
          have k25b := cell_of H25.out (i := 1) rfl
          go_wp2_with (fail)
          clear k16a k16b k25a k25b
          refine (moved_any x2).mono ?_
          rintro e x3 ⟨rfl, hb⟩
          replace HM := Lib.hid (HM.out.below hb)
          clear hb
          go_wp2_with (fail)
          go_ret
          exact ⟨rfl, HM.out.toBelow _ (Nat.le_refl _) (fun x hx e => by have := HBW.out; omega)⟩
        · skip
          have hx' : (exE u v l m_ c == 0) = false := by simpa using hx
          have hX1 : (0 : Int) = fx := by have := HFX.out; unfold ifE at this; rw [if_neg hx] at this; exact this
          have hX2 : (0 : Int) = fy := by have := HFY.out; unfold ifE at this; rw [if_neg hx] at this; exact this
          have hxx : (exE u v l m_ c == exE u v l m_ c) = true := by simp
          obtain rfl := hX1
          obtain rfl := hX2
          clear hx k0 k1 l13
          go_wp2_with (fail)
          generalize (wr.alloc (.cells #[.int .i64 0, .int .i64 0] 40)) = y1 at *
          obtain ⟨q25, hq⟩ : ∃ q, q = wr.heap.size := ⟨_, rfl⟩
          rw [← hq] at H25 ⊢
          clear hq NP NC NPK NTM NQ1 NQ2 N16
          refine (equalV_any _ _ n _ _ (peakF n L M C c) (peakF n L M C c) y1 (by omega) HPK.out HQ1.out (fun i h => rfl)).mono ?_
          rintro e x1 ⟨rfl, hb⟩
          replace HP := Lib.hid (HP.out.kept hb)
          replace HC := Lib.hid (HC.out.kept hb)
          replace HPK := Lib.hid (HPK.out.kept hb)
          replace HTM := Lib.hid (HTM.out.kept hb)
          replace HQ1 := Lib.hid (HQ1.out.kept hb)
          replace HQ2 := Lib.hid (HQ2.out.kept hb)
          replace H16 := Lib.hid (heap_keep hb H16.out)
          replace H25 := Lib.hid (heap_keep hb H25.out)
          replace HM := Lib.hid (HM.out.below hb)
          clear hb
          go_wp2_with (fail)
          refine (equalV_any _ _ n _ _ (timF n L M C c) (timF n L M C c) x1 (by omega) HTM.out HQ2.out (fun i h => rfl)).mono ?_
          rintro e x2 ⟨rfl, hb⟩
          replace HP := Lib.hid (HP.out.kept hb)
          replace HC := Lib.hid (HC.out.kept hb)
          replace HPK := Lib.hid (HPK.out.kept hb)
          replace HTM := Lib.hid (HTM.out.kept hb)
          replace HQ1 := Lib.hid (HQ1.out.kept hb)
          replace HQ2 := Lib.hid (HQ2.out.kept hb)
          replace H16 := Lib.hid (heap_keep hb H16.out)
          replace H25 := Lib.hid (heap_keep hb H25.out)
          replace HM := Lib.hid (HM.out.below hb)
          clear hb
          have k16a := cell_of H16.out (i := 0) rfl
          have k16b := cell_of H16.out (i := 1) rfl
          have k25a := cell_of H25.out (i := 0) rfl
          have k25b := cell_of H25.out (i := 1) rfl
          go_wp2_with (fail)
          clear k16a k16b k25a k25b
          refine (moved_any x2).mono ?_
          rintro e x3 ⟨rfl, hb⟩
          replace HM := Lib.hid (HM.out.below hb)
          clear hb
          go_wp2_with (fail)
          go_ret
          exact ⟨rfl, HM.out.toBelow _ (Nat.le_refl _) (fun x hx e => by have := HBW.out; omega)⟩
  · skip
    have hcn : cntE (movE n L M m C c) n = 0 := if_neg hz
    have hif : ifE (movE n L M m C c) (totZ (timF n L M C c) n) = 0 := if_neg hz
    rw [hcn] at HPK HTM ⊢
    rw [hif]
    obtain ⟨E, hE⟩ : ∃ E, movE n L M m C c = E := ⟨_, rfl⟩
    have HE := Lib.hid hE
    rw [hE] at hz ⊢
    have hz' : (E == 0) = false := by simpa using hz
    have hEE : (E == E) = true := by simp
    clear hcn hif hE hz
    go_wp2_with (fail)
    by_cases hn0 : 0 < n
    · skip
      refine (pick_atV B _ [1, 20, 100, 0] 4 (fun _ => True) w6 _ rfl HS.out (by omega) rfl (by omega) (by omega) (by simp)).mono ?_
      rintro e w7 ⟨⟨l0, rfl, _⟩, hst, hmt⟩
      replace HP := Lib.hid (HP.out.mut hmt HFA.out)
      replace HC := Lib.hid (HC.out.mut hmt HFC.out)
      replace HPK := Lib.hid (HPK.out.mut hmt HFP.out)
      replace HTM := Lib.hid (HTM.out.mut hmt HFT.out)
      replace HS := Lib.hid hst
      replace HM := Lib.hid (HM.out.trans (hmt.mono fun _ _ h => h))
      clear hst hmt
      go_wp2_with (fail)
      refine (pick_atV B _ [50, 100, 500] 3 (fun _ => True) w7 _ rfl HS.out (by omega) rfl (by omega) (by omega) (by simp)).mono ?_
      rintro e w8 ⟨⟨m0, rfl, _⟩, hst, hmt⟩
      replace HP := Lib.hid (HP.out.mut hmt HFA.out)
      replace HC := Lib.hid (HC.out.mut hmt HFC.out)
      replace HPK := Lib.hid (HPK.out.mut hmt HFP.out)
      replace HTM := Lib.hid (HTM.out.mut hmt HFT.out)
      replace HS := Lib.hid hst
      replace HM := Lib.hid (HM.out.trans (hmt.mono fun _ _ h => h))
      clear hst hmt
      go_wp2_with (fail)
      refine (pick_atV B _ [0, 0, 10, 50, 100, -1] 6 (fun _ => True) w8 _ rfl HS.out (by omega) rfl (by omega) (by omega) (by simp)).mono ?_
      rintro e w9 ⟨⟨u, rfl, _⟩, hst, hmt⟩
      replace HP := Lib.hid (HP.out.mut hmt HFA.out)
      replace HC := Lib.hid (HC.out.mut hmt HFC.out)
      replace HPK := Lib.hid (HPK.out.mut hmt HFP.out)
      replace HTM := Lib.hid (HTM.out.mut hmt HFT.out)
      replace HS := Lib.hid hst
      replace HM := Lib.hid (HM.out.trans (hmt.mono fun _ _ h => h))
      clear hst hmt
      go_wp2_with (fail)
      refine (pick_atV B _ [0, 10, 30, 501] 4 (fun _ => True) w9 _ rfl HS.out (by omega) rfl (by omega) (by omega) (by simp)).mono ?_
      rintro e w10 ⟨⟨v, rfl, _⟩, hst, hmt⟩
      replace HP := Lib.hid (HP.out.mut hmt HFA.out)
      replace HC := Lib.hid (HC.out.mut hmt HFC.out)
      replace HPK := Lib.hid (HPK.out.mut hmt HFP.out)
      replace HTM := Lib.hid (HTM.out.mut hmt HFT.out)
      replace HS := Lib.hid hst
      replace HM := Lib.hid (HM.out.trans (hmt.mono fun _ _ h => h))
      clear hst hmt
      have hbA : Below w10.heap.size w10 (w10.alloc (.cells #[.int .i64 l0, .int .i64 m0] 37)) := (Below.refl _ _).alloc (Nat.le_refl _) _
      have H13 := Lib.hid (heap_alloc_new w10 (.cells #[.int .i64 l0, .int .i64 m0] 37))
      have NP := Lib.hid (HP.out.past (Nat.le_refl w10.heap.size))
      have NC := Lib.hid (HC.out.past (Nat.le_refl w10.heap.size))
      have NPK := Lib.hid (HPK.out.past (Nat.le_refl w10.heap.size))
      have NTM := Lib.hid (HTM.out.past (Nat.le_refl w10.heap.size))
      have hq13 := HS.out.lt
      replace HP := Lib.hid (HP.out.kept hbA)
      replace HC := Lib.hid (HC.out.kept hbA)
      replace HPK := Lib.hid (HPK.out.kept hbA)
      replace HTM := Lib.hid (HTM.out.kept hbA)
      replace HS := Lib.hid (StrmV.below HS.out hbA)
      replace HM := Lib.hid (HM.out.below hbA)
      have hnp : (0 : Int) < (n : Int) := by omega
      have hnp2 : 0 < n := by omega
      clear hbA
      go_wp2_with (fail)
      generalize (w10.alloc (.cells #[.int .i64 l0, .int .i64 m0] 37)) = w11 at *
      obtain ⟨q13, hq⟩ : ∃ q, q = w10.heap.size := ⟨_, rfl⟩
      rw [← hq] at H13 NP NC NPK NTM hq13 ⊢
      clear hq
      refine (next_any B _ n w11 HS.out (by omega) (by omega) (by omega)).mono ?_
      rintro e w12 ⟨⟨r, rfl, hr0, hr1⟩, hst, hmt⟩
      obtain ⟨j, rfl⟩ := Int.eq_ofNat_of_zero_le hr0
      replace HP := Lib.hid (HP.out.mut hmt HFA.out)
      replace HC := Lib.hid (HC.out.mut hmt HFC.out)
      replace HPK := Lib.hid (HPK.out.mut hmt HFP.out)
      replace HTM := Lib.hid (HTM.out.mut hmt HFT.out)
      replace H13 := Lib.hid ((hmt.block _ (lt_of_heap H13.out) (by omega)).trans H13.out)
      replace HS := Lib.hid hst
      replace HM := Lib.hid (HM.out.trans (hmt.mono fun _ _ h => h))
      clear hst hmt
      obtain ⟨b, off, rfl, hb, hd⟩ : ∃ b off, a = some ⟨b, off, none⟩ ∧ b < w12.heap.size ∧ ∀ i, i < n → w12.cell? ⟨b, off + i * 2, none⟩ = some (.int .i64 (L i)) ∧ w12.cell? ⟨b, off + i * 2 + 1, none⟩ = some (.int .i64 (M i)) := by
        rcases HP.out with h | h
        · omega
        · exact h
      have hj : j < n := by omega
      have c0 := (hd j hj).1
      have c1 := (hd j hj).2
      have d0 := cell_of H13.out (i := 0) rfl
      have d1 := cell_of H13.out (i := 1) rfl
      have f0 := frozen_of H13.out (i := 0)
      have f1 := frozen_of H13.out (i := 1)
      clear hd hr0 hr1
      obtain ⟨l, hl⟩ : ∃ z, L j = z := ⟨_, rfl⟩
      obtain ⟨m_, hm_⟩ : ∃ z, M j = z := ⟨_, rfl⟩
      rw [hl] at c0
      rw [hm_] at c1
      clear hl hm_
      go_wp2_with (fail)
      clear c0 c1 d0 d1 f0 f1
      replace H13 := Lib.hid (set2V_1 (u := .int .i64 m_) (set2V_0 (u := .int .i64 l) H13.out))
      have hmt : Mut (· = q13) w12 ((w12.setCell ⟨q13, 0, none⟩ (.int .i64 l)).setCell ⟨q13, 1, none⟩ (.int .i64 m_)) := Mut.setCell (S := (· = q13)) (p := ⟨q13, 1, none⟩) (Mut.setCell (S := (· = q13)) (p := ⟨q13, 0, none⟩) (Mut.refl (· = q13) w12) (fun _ => rfl) _) (fun _ => rfl) _
      replace HP := Lib.hid (HP.out.mutn hmt NP.out)
      replace HC := Lib.hid (HC.out.mutn hmt NC.out)
      replace HPK := Lib.hid (HPK.out.mutn hmt (by first | exact NPK.out | exact .inl rfl))
      replace HTM := Lib.hid (HTM.out.mutn hmt (by first | exact NTM.out | exact .inl rfl))
      replace HM := Lib.hid (HM.out.outer hmt (by have := HBW.out; omega))
      clear hmt hb
      generalize ((w12.setCell ⟨q13, 0, none⟩ (.int .i64 l)).setCell ⟨q13, 1, none⟩ (.int .i64 m_)) = w13 at *
      have k0 := cell_of H13.out (i := 0) rfl
      have k1 := cell_of H13.out (i := 1) rfl
      go_wp2_with (fail)
      clear k0 k1
      have hE := Exact_any u v l m_ c w13
      rw [exV_shape] at hE
      refine hE.mono ?_
      clear hE
      rintro e w14 ⟨rfl, hb⟩
      replace HP := Lib.hid (HP.out.kept hb)
      replace HC := Lib.hid (HC.out.kept hb)
      replace HPK := Lib.hid (HPK.out.kept hb)
      replace HTM := Lib.hid (HTM.out.kept hb)
      replace H13 := Lib.hid (heap_keep hb H13.out)
      replace HM := Lib.hid (HM.out.below hb)
      clear hb
      obtain ⟨fx, hfx⟩ : ∃ z, ifE (exE u v l m_ c) (exN u v l m_ c) = z := ⟨_, rfl⟩
      obtain ⟨fy, hfy⟩ : ∃ z, ifE (exE u v l m_ c) (exD u v l m_ c) = z := ⟨_, rfl⟩
      have HFX := Lib.hid hfx
      have HFY := Lib.hid hfy
      rw [hfx, hfy]
      clear hfx hfy
      go_wp2_with (fail)
      have hb : Below w14.heap.size w14 (w14.alloc (.cells #[.int .i64 fx, .int .i64 fy] 40)) := (Below.refl _ _).alloc (Nat.le_refl _) _
      have H16 := Lib.hid (heap_alloc_new w14 (.cells #[.int .i64 fx, .int .i64 fy] 40))
      replace HP := Lib.hid (HP.out.kept hb)
      replace HC := Lib.hid (HC.out.kept hb)
      replace HPK := Lib.hid (HPK.out.kept hb)
      replace HTM := Lib.hid (HTM.out.kept hb)
      replace H13 := Lib.hid (heap_keep hb H13.out)
      replace HM := Lib.hid (HM.out.below hb)
      clear hb
      generalize (w14.alloc (.cells #[.int .i64 fx, .int .i64 fy] 40)) = w15 at *
      obtain ⟨q16, hq⟩ : ∃ q, q = w14.heap.size := ⟨_, rfl⟩
      rw [← hq] at H16 ⊢
      clear hq
      have k0 := cell_of H13.out (i := 0) rfl
      have k1 := cell_of H13.out (i := 1) rfl
      refine wp_region_held_drew (S := (fun w' => w'.cell? ⟨q13, 0, none⟩ = some (.int .i64 l) ∧ w'.cell? ⟨q13, 1, none⟩ = some (.int .i64 m_))) (by kernel_rfl) ⟨k0, k1⟩ (fun hHeld => ?_)
      have hb : Below w15.heap.size w15 w15.drew := (Below.refl _ _).drew
      replace HP := Lib.hid (HP.out.kept hb)
      replace HC := Lib.hid (HC.out.kept hb)
      replace HPK := Lib.hid (HPK.out.kept hb)
      replace HTM := Lib.hid (HTM.out.kept hb)
      replace H13 := Lib.hid (heap_keep hb H13.out)
      replace H16 := Lib.hid (heap_keep hb H16.out)
      replace HM := Lib.hid (HM.out.below hb)
      clear hb
      generalize w15.drew = w16 at *
      refine tkH (by assumption) 0 (oi := ?_) (v := ?_) ?_ ?_ ?_ ?_ ?_ ?_ ?_ ?_; rotate_left 2; (simp only [gA, gB, gC]; exact rfl); kernel_rfl; kernel_rfl; kernel_rfl; exact fun _ _ _ h => h; rfl; (intro w' hSw; (try dsimp only at hSw); go_simp; with_reducible rfl); simp only [Act.put, pB, pC, pD]
      refine tkH (by assumption) 1 (oi := ?_) (v := ?_) ?_ ?_ ?_ ?_ ?_ ?_ ?_ ?_; rotate_left 2; (simp only [gA, gB, gC]; exact rfl); kernel_rfl; kernel_rfl; kernel_rfl; exact fun _ _ _ h => h; rfl; (intro w' hSw; (try dsimp only at hSw); go_simp; with_reducible rfl); simp only [Act.put, pB, pC, pD]
      refine tkH (by assumption) 2 (oi := ?_) (v := ?_) ?_ ?_ ?_ ?_ ?_ ?_ ?_ ?_; rotate_left 2; (simp only [gA, gB, gC]; exact rfl); kernel_rfl; kernel_rfl; kernel_rfl; exact fun _ _ _ h => h; rfl; (intro w' hSw; (try dsimp only at hSw); go_simp; with_reducible rfl); simp only [Act.put, pB, pC, pD]
      refine tkH (by assumption) 4 (oi := ?_) (v := ?_) ?_ ?_ ?_ ?_ ?_ ?_ ?_ ?_; rotate_left 2; (simp only [gA, gB, gC]; exact rfl); kernel_rfl; kernel_rfl; kernel_rfl; exact fun _ _ _ h => h; rfl; (intro w' hSw; (try dsimp only at hSw); go_simp; with_reducible rfl); simp only [Act.put, pB, pC, pD]
      refine tkH (by assumption) 5 (oi := ?_) (v := ?_) ?_ ?_ ?_ ?_ ?_ ?_ ?_ ?_; rotate_left 2; (simp only [gA, gB, gC]; exact rfl); kernel_rfl; kernel_rfl; kernel_rfl; exact fun _ _ _ h => h; rfl; (intro w' hSw; (try dsimp only at hSw); go_simp; with_reducible rfl); simp only [Act.put, pB, pC, pD]
      refine tkH (by assumption) 6 (oi := ?_) (v := ?_) ?_ ?_ ?_ ?_ ?_ ?_ ?_ ?_; rotate_left 2; (simp only [gA, gB, gC]; exact rfl); kernel_rfl; kernel_rfl; kernel_rfl; exact fun _ _ _ h => h; rfl; (intro w' hSw; (try dsimp only at hSw); go_simp; with_reducible rfl); simp only [Act.put, pB, pC, pD]
      refine tkH (by assumption) 7 (oi := ?_) (v := ?_) ?_ ?_ ?_ ?_ ?_ ?_ ?_ ?_; rotate_left 2; (simp only [gA, gB, gC]; exact rfl); kernel_rfl; kernel_rfl; kernel_rfl; exact fun _ _ _ h => h; rfl; (intro w' hSw; (try dsimp only at hSw); go_simp; with_reducible rfl); simp only [Act.put, pB, pC, pD]
      refine onH 3 (oi := ?_) (by kernel_rfl) ?_ ?_ (fun K hK => ?_); rotate_left; (simp only [gA, gB, gC]; exact rfl); rfl
      go_wp2_with (fail)
      refine (lawFault_any (some ⟨b, off, none⟩) n cl L M ac m cc C c w16 (by omega) (by omega) HP.out HC.out).mono ?_
      rintro e w17 ⟨rfl, hb⟩
      replace HP := Lib.hid (HP.out.kept hb)
      replace HC := Lib.hid (HC.out.kept hb)
      replace HPK := Lib.hid (HPK.out.kept hb)
      replace HTM := Lib.hid (HTM.out.kept hb)
      replace H13 := Lib.hid (heap_keep hb H13.out)
      replace H16 := Lib.hid (heap_keep hb H16.out)
      replace HM := Lib.hid (HM.out.below hb)
      clear hb k0 k1
      have k0 := cell_of H13.out (i := 0) rfl
      have k1 := cell_of H13.out (i := 1) rfl
      refine hK.out _ _ ⟨k0, k1⟩ (fun hHeldN => ?_)
      clear hK K hHeld
      have hHeld := hHeldN
      clear hHeldN
      try simp only [Act.put, pB, pC, pD]
      refine onH 8 (oi := ?_) (by kernel_rfl) ?_ ?_ (fun K hK => ?_); rotate_left; (simp only [gA, gB, gC]; exact rfl); rfl
      go_wp2_with (fail)
      refine (exactFault_any u v l m_ c w17).mono ?_
      rintro e w18 ⟨rfl, hb⟩
      replace HP := Lib.hid (HP.out.kept hb)
      replace HC := Lib.hid (HC.out.kept hb)
      replace HPK := Lib.hid (HPK.out.kept hb)
      replace HTM := Lib.hid (HTM.out.kept hb)
      replace H13 := Lib.hid (heap_keep hb H13.out)
      replace H16 := Lib.hid (heap_keep hb H16.out)
      replace HM := Lib.hid (HM.out.below hb)
      clear hb k0 k1
      have k0 := cell_of H13.out (i := 0) rfl
      have k1 := cell_of H13.out (i := 1) rfl
      refine hK.out _ _ ⟨k0, k1⟩ (fun hHeldN => ?_)
      clear hK K hHeld
      have hHeld := hHeldN
      clear hHeldN
      try simp only [Act.put, pB, pC, pD]
      refine tkH (by assumption) 9 (oi := ?_) (v := ?_) ?_ ?_ ?_ ?_ ?_ ?_ ?_ ?_; rotate_left 2; (simp only [gA, gB, gC]; exact rfl); kernel_rfl; kernel_rfl; kernel_rfl; exact fun _ _ _ h => h; rfl; (intro w' hSw; (try dsimp only at hSw); go_simp; with_reducible rfl); simp only [Act.put, pB, pC, pD]
      refine tkH (by assumption) 10 (oi := ?_) (v := ?_) ?_ ?_ ?_ ?_ ?_ ?_ ?_ ?_; rotate_left 2; (simp only [gA, gB, gC]; exact rfl); kernel_rfl; kernel_rfl; kernel_rfl; exact fun _ _ _ h => h; rfl; (intro w' hSw; (try dsimp only at hSw); go_simp; with_reducible rfl); simp only [Act.put, pB, pC, pD]
      refine wpAnyH_done (by kernel_rfl) ?_ _
      clear k0 k1
      rw [HE.out]
      have k0 := cell_of H13.out (i := 0) rfl
      have k1 := cell_of H13.out (i := 1) rfl
      have l13 := lt_of_heap H13.out
      have hb : Below w18.heap.size w18 (w18.alloc (.cells #[.int .i64 0, .int .i64 0] 40)) := (Below.refl _ _).alloc (Nat.le_refl _) _
      have H25 := Lib.hid (heap_alloc_new w18 (.cells #[.int .i64 0, .int .i64 0] 40))
      have N16 := Lib.hid (show q16 ≠ w18.heap.size from Nat.ne_of_lt (lt_of_heap H16.out))
      have NP := Lib.hid (HP.out.past (Nat.le_refl w18.heap.size))
      have NC := Lib.hid (HC.out.past (Nat.le_refl w18.heap.size))
      have NPK := Lib.hid (HPK.out.past (Nat.le_refl w18.heap.size))
      have NTM := Lib.hid (HTM.out.past (Nat.le_refl w18.heap.size))
      have hqB : B < w18.heap.size := by have := hq13; have := lt_of_heap H13.out; omega
      replace HP := Lib.hid (HP.out.kept hb)
      replace HC := Lib.hid (HC.out.kept hb)
      replace HPK := Lib.hid (HPK.out.kept hb)
      replace HTM := Lib.hid (HTM.out.kept hb)
      replace H13 := Lib.hid (heap_keep hb H13.out)
      replace H16 := Lib.hid (heap_keep hb H16.out)
      replace HM := Lib.hid (HM.out.below hb)
      clear hb
      by_cases hx : exE u v l m_ c = 0
      · have hx' : (exE u v l m_ c == 0) = true := by simp [hx]
        have hxc : chkE u v l m_ c = 0 := by
          unfold exE at hx
          split at hx
          · assumption
          · rename_i h; exact absurd hx h
        obtain ⟨hu, hv, hcc, hl, hmm⟩ := chk_ok hxc
        have HXK := Lib.hid (show (0 ≤ u ∧ u ≤ 100000) ∧ (0 ≤ v ∧ v ≤ 100000) ∧ (1 ≤ c ∧ c ≤ 10000000) ∧ (1 ≤ l ∧ l ≤ 200000) ∧ (1 ≤ m_ ∧ m_ ≤ 100000) from ⟨hu, hv, hcc, hl, hmm⟩)
        have hX1 : exN u v l m_ c = fx := by have := HFX.out; unfold ifE at this; rw [if_pos hx] at this; exact this
        have hX2 : exD u v l m_ c = fy := by have := HFY.out; unfold ifE at this; rw [if_pos hx] at this; exact this
        have HX1 := Lib.hid hX1
        have HX2 := Lib.hid hX2
        have hxx : (exE u v l m_ c == exE u v l m_ c) = true := by simp
        clear hxc hu hv hcc hl hmm hX1 hX2 hx
        go_wp2_with (fail)
        clear k0 k1 l13
        generalize (w18.alloc (.cells #[.int .i64 0, .int .i64 0] 40)) = y1 at *
        obtain ⟨q25, hq⟩ : ∃ q, q = w18.heap.size := ⟨_, rfl⟩
        rw [← hq] at H25 N16 NP NC NPK NTM hqB ⊢
        clear hq
        refine (exactOf_any u v l m_ c y1 HXK.out.1 HXK.out.2.1 HXK.out.2.2.1 HXK.out.2.2.2.1 HXK.out.2.2.2.2).mono ?_
        rintro e y2 ⟨rfl, hb⟩
        rw [HX1.out, HX2.out]
        replace HP := Lib.hid (HP.out.kept hb)
        replace HC := Lib.hid (HC.out.kept hb)
        replace HPK := Lib.hid (HPK.out.kept hb)
        replace HTM := Lib.hid (HTM.out.kept hb)
        replace H13 := Lib.hid (heap_keep hb H13.out)
        replace H16 := Lib.hid (heap_keep hb H16.out)
        replace H25 := Lib.hid (heap_keep hb H25.out)
        replace HM := Lib.hid (HM.out.below hb)
        clear hb
        have d0 := cell_of H25.out (i := 0) rfl
        have d1 := cell_of H25.out (i := 1) rfl
        have f0 := frozen_of H25.out (i := 0)
        have f1 := frozen_of H25.out (i := 1)
        go_wp2_with (fail)
        clear d0 d1 f0 f1
        have hmt : Mut (· = q25) y2 ((y2.setCell ⟨q25, 0, none⟩ (.int .i64 fx)).setCell ⟨q25, 1, none⟩ (.int .i64 fy)) := Mut.setCell (S := (· = q25)) (p := ⟨q25, 1, none⟩) (Mut.setCell (S := (· = q25)) (p := ⟨q25, 0, none⟩) (Mut.refl (· = q25) y2) (fun _ => rfl) _) (fun _ => rfl) _
        replace H25 := Lib.hid (set2V_1 (u := .int .i64 fy) (set2V_0 (u := .int .i64 fx) H25.out))
        replace H16 := Lib.hid ((hmt.block _ (lt_of_heap H16.out) N16.out).trans H16.out)
        replace HP := Lib.hid (HP.out.mutn hmt (by first | exact NP.out | exact .inl rfl))
        replace HC := Lib.hid (HC.out.mutn hmt (by first | exact NC.out | exact .inl rfl))
        replace HPK := Lib.hid (HPK.out.mutn hmt (by first | exact NPK.out | exact .inl rfl))
        replace HTM := Lib.hid (HTM.out.mutn hmt (by first | exact NTM.out | exact .inl rfl))
        replace HM := Lib.hid (HM.out.outer hmt (by have := HBW.out; omega))
        clear hmt H13
        generalize ((y2.setCell ⟨q25, 0, none⟩ (.int .i64 fx)).setCell ⟨q25, 1, none⟩ (.int .i64 fy)) = y3 at *
        refine (equalV_any _ none 0 _ 0 (fun _ => 0) (fun _ => 0) y3 (by omega) (.inl rfl) (.inl rfl) (fun i h => rfl)).mono ?_
        rintro e x1 ⟨rfl, hb⟩
        replace HP := Lib.hid (HP.out.kept hb)
        replace HC := Lib.hid (HC.out.kept hb)
        replace HPK := Lib.hid (HPK.out.kept hb)
        replace HTM := Lib.hid (HTM.out.kept hb)
        replace H16 := Lib.hid (heap_keep hb H16.out)
        replace H25 := Lib.hid (heap_keep hb H25.out)
        replace HM := Lib.hid (HM.out.below hb)
        clear hb
        go_wp2_with (fail)
        refine (equalV_any _ none 0 _ 0 (fun _ => 0) (fun _ => 0) x1 (by omega) (.inl rfl) (.inl rfl) (fun i h => rfl)).mono ?_
        rintro e x2 ⟨rfl, hb⟩
        replace HP := Lib.hid (HP.out.kept hb)
        replace HC := Lib.hid (HC.out.kept hb)
        replace HPK := Lib.hid (HPK.out.kept hb)
        replace HTM := Lib.hid (HTM.out.kept hb)
        replace H16 := Lib.hid (heap_keep hb H16.out)
        replace H25 := Lib.hid (heap_keep hb H25.out)
        replace HM := Lib.hid (HM.out.below hb)
        clear hb
        have k16a := cell_of H16.out (i := 0) rfl
        have k16b := cell_of H16.out (i := 1) rfl
        have k25a := cell_of H25.out (i := 0) rfl
        have k25b := cell_of H25.out (i := 1) rfl
        go_wp2_with (fail)
        clear k16a k16b k25a k25b
        refine (moved_any x2).mono ?_
        rintro e x3 ⟨rfl, hb⟩
        replace HM := Lib.hid (HM.out.below hb)
        clear hb
        go_wp2_with (fail)
        go_ret
        exact ⟨rfl, HM.out.toBelow _ (Nat.le_refl _) (fun x hx e => by have := HBW.out; omega)⟩
      · skip
        have hx' : (exE u v l m_ c == 0) = false := by simpa using hx
        have hX1 : (0 : Int) = fx := by have := HFX.out; unfold ifE at this; rw [if_neg hx] at this; exact this
        have hX2 : (0 : Int) = fy := by have := HFY.out; unfold ifE at this; rw [if_neg hx] at this; exact this
        have hxx : (exE u v l m_ c == exE u v l m_ c) = true := by simp
        obtain rfl := hX1
        obtain rfl := hX2
        clear hx k0 k1 l13
        go_wp2_with (fail)
        generalize (w18.alloc (.cells #[.int .i64 0, .int .i64 0] 40)) = y1 at *
        obtain ⟨q25, hq⟩ : ∃ q, q = w18.heap.size := ⟨_, rfl⟩
        rw [← hq] at H25 ⊢
        clear hq NP NC NPK NTM N16
        refine (equalV_any _ none 0 _ 0 (fun _ => 0) (fun _ => 0) y1 (by omega) (.inl rfl) (.inl rfl) (fun i h => rfl)).mono ?_
        rintro e x1 ⟨rfl, hb⟩
        replace HP := Lib.hid (HP.out.kept hb)
        replace HC := Lib.hid (HC.out.kept hb)
        replace HPK := Lib.hid (HPK.out.kept hb)
        replace HTM := Lib.hid (HTM.out.kept hb)
        replace H16 := Lib.hid (heap_keep hb H16.out)
        replace H25 := Lib.hid (heap_keep hb H25.out)
        replace HM := Lib.hid (HM.out.below hb)
        clear hb
        go_wp2_with (fail)
        refine (equalV_any _ none 0 _ 0 (fun _ => 0) (fun _ => 0) x1 (by omega) (.inl rfl) (.inl rfl) (fun i h => rfl)).mono ?_
        rintro e x2 ⟨rfl, hb⟩
        replace HP := Lib.hid (HP.out.kept hb)
        replace HC := Lib.hid (HC.out.kept hb)
        replace HPK := Lib.hid (HPK.out.kept hb)
        replace HTM := Lib.hid (HTM.out.kept hb)
        replace H16 := Lib.hid (heap_keep hb H16.out)
        replace H25 := Lib.hid (heap_keep hb H25.out)
        replace HM := Lib.hid (HM.out.below hb)
        clear hb
        have k16a := cell_of H16.out (i := 0) rfl
        have k16b := cell_of H16.out (i := 1) rfl
        have k25a := cell_of H25.out (i := 0) rfl
        have k25b := cell_of H25.out (i := 1) rfl
        go_wp2_with (fail)
        clear k16a k16b k25a k25b
        refine (moved_any x2).mono ?_
        rintro e x3 ⟨rfl, hb⟩
        replace HM := Lib.hid (HM.out.below hb)
        clear hb
        go_wp2_with (fail)
        go_ret
        exact ⟨rfl, HM.out.toBelow _ (Nat.le_refl _) (fun x hx e => by have := HBW.out; omega)⟩
    · skip
      refine (pick_atV B _ [1, 20, 100, 0] 4 (fun _ => True) w6 _ rfl HS.out (by omega) rfl (by omega) (by omega) (by simp)).mono ?_
      rintro e w7 ⟨⟨l0, rfl, _⟩, hst, hmt⟩
      replace HP := Lib.hid (HP.out.mut hmt HFA.out)
      replace HC := Lib.hid (HC.out.mut hmt HFC.out)
      replace HPK := Lib.hid (HPK.out.mut hmt HFP.out)
      replace HTM := Lib.hid (HTM.out.mut hmt HFT.out)
      replace HS := Lib.hid hst
      replace HM := Lib.hid (HM.out.trans (hmt.mono fun _ _ h => h))
      clear hst hmt
      go_wp2_with (fail)
      refine (pick_atV B _ [50, 100, 500] 3 (fun _ => True) w7 _ rfl HS.out (by omega) rfl (by omega) (by omega) (by simp)).mono ?_
      rintro e w8 ⟨⟨m0, rfl, _⟩, hst, hmt⟩
      replace HP := Lib.hid (HP.out.mut hmt HFA.out)
      replace HC := Lib.hid (HC.out.mut hmt HFC.out)
      replace HPK := Lib.hid (HPK.out.mut hmt HFP.out)
      replace HTM := Lib.hid (HTM.out.mut hmt HFT.out)
      replace HS := Lib.hid hst
      replace HM := Lib.hid (HM.out.trans (hmt.mono fun _ _ h => h))
      clear hst hmt
      go_wp2_with (fail)
      refine (pick_atV B _ [0, 0, 10, 50, 100, -1] 6 (fun _ => True) w8 _ rfl HS.out (by omega) rfl (by omega) (by omega) (by simp)).mono ?_
      rintro e w9 ⟨⟨u, rfl, _⟩, hst, hmt⟩
      replace HP := Lib.hid (HP.out.mut hmt HFA.out)
      replace HC := Lib.hid (HC.out.mut hmt HFC.out)
      replace HPK := Lib.hid (HPK.out.mut hmt HFP.out)
      replace HTM := Lib.hid (HTM.out.mut hmt HFT.out)
      replace HS := Lib.hid hst
      replace HM := Lib.hid (HM.out.trans (hmt.mono fun _ _ h => h))
      clear hst hmt
      go_wp2_with (fail)
      refine (pick_atV B _ [0, 10, 30, 501] 4 (fun _ => True) w9 _ rfl HS.out (by omega) rfl (by omega) (by omega) (by simp)).mono ?_
      rintro e w10 ⟨⟨v, rfl, _⟩, hst, hmt⟩
      replace HP := Lib.hid (HP.out.mut hmt HFA.out)
      replace HC := Lib.hid (HC.out.mut hmt HFC.out)
      replace HPK := Lib.hid (HPK.out.mut hmt HFP.out)
      replace HTM := Lib.hid (HTM.out.mut hmt HFT.out)
      replace HS := Lib.hid hst
      replace HM := Lib.hid (HM.out.trans (hmt.mono fun _ _ h => h))
      clear hst hmt
      have hbA : Below w10.heap.size w10 (w10.alloc (.cells #[.int .i64 l0, .int .i64 m0] 37)) := (Below.refl _ _).alloc (Nat.le_refl _) _
      have H13 := Lib.hid (heap_alloc_new w10 (.cells #[.int .i64 l0, .int .i64 m0] 37))
      have NP := Lib.hid (HP.out.past (Nat.le_refl w10.heap.size))
      have NC := Lib.hid (HC.out.past (Nat.le_refl w10.heap.size))
      have NPK := Lib.hid (HPK.out.past (Nat.le_refl w10.heap.size))
      have NTM := Lib.hid (HTM.out.past (Nat.le_refl w10.heap.size))
      have hq13 := HS.out.lt
      replace HP := Lib.hid (HP.out.kept hbA)
      replace HC := Lib.hid (HC.out.kept hbA)
      replace HPK := Lib.hid (HPK.out.kept hbA)
      replace HTM := Lib.hid (HTM.out.kept hbA)
      replace HS := Lib.hid (StrmV.below HS.out hbA)
      replace HM := Lib.hid (HM.out.below hbA)
      have hnp : ¬ (0 : Int) < (n : Int) := by omega
      have hnp2 : ¬ 0 < n := by omega
      clear hbA
      go_wp2_with (fail)
      generalize (w10.alloc (.cells #[.int .i64 l0, .int .i64 m0] 37)) = w11 at *
      obtain ⟨q13, hq⟩ : ∃ q, q = w10.heap.size := ⟨_, rfl⟩
      rw [← hq] at H13 NP NC NPK NTM hq13 ⊢
      clear hq
      generalize w11 = w13 at *
      obtain ⟨l, rfl⟩ : ∃ l, l = l0 := ⟨_, rfl⟩
      obtain ⟨m_, rfl⟩ : ∃ l, l = m0 := ⟨_, rfl⟩
      have k0 := cell_of H13.out (i := 0) rfl
      have k1 := cell_of H13.out (i := 1) rfl
      go_wp2_with (fail)
      clear k0 k1
      have hE := Exact_any u v l m_ c w13
      rw [exV_shape] at hE
      refine hE.mono ?_
      clear hE
      rintro e w14 ⟨rfl, hb⟩
      replace HP := Lib.hid (HP.out.kept hb)
      replace HC := Lib.hid (HC.out.kept hb)
      replace HPK := Lib.hid (HPK.out.kept hb)
      replace HTM := Lib.hid (HTM.out.kept hb)
      replace H13 := Lib.hid (heap_keep hb H13.out)
      replace HM := Lib.hid (HM.out.below hb)
      clear hb
      obtain ⟨fx, hfx⟩ : ∃ z, ifE (exE u v l m_ c) (exN u v l m_ c) = z := ⟨_, rfl⟩
      obtain ⟨fy, hfy⟩ : ∃ z, ifE (exE u v l m_ c) (exD u v l m_ c) = z := ⟨_, rfl⟩
      have HFX := Lib.hid hfx
      have HFY := Lib.hid hfy
      rw [hfx, hfy]
      clear hfx hfy
      go_wp2_with (fail)
      have hb : Below w14.heap.size w14 (w14.alloc (.cells #[.int .i64 fx, .int .i64 fy] 40)) := (Below.refl _ _).alloc (Nat.le_refl _) _
      have H16 := Lib.hid (heap_alloc_new w14 (.cells #[.int .i64 fx, .int .i64 fy] 40))
      replace HP := Lib.hid (HP.out.kept hb)
      replace HC := Lib.hid (HC.out.kept hb)
      replace HPK := Lib.hid (HPK.out.kept hb)
      replace HTM := Lib.hid (HTM.out.kept hb)
      replace H13 := Lib.hid (heap_keep hb H13.out)
      replace HM := Lib.hid (HM.out.below hb)
      clear hb
      generalize (w14.alloc (.cells #[.int .i64 fx, .int .i64 fy] 40)) = w15 at *
      obtain ⟨q16, hq⟩ : ∃ q, q = w14.heap.size := ⟨_, rfl⟩
      rw [← hq] at H16 ⊢
      clear hq
      have k0 := cell_of H13.out (i := 0) rfl
      have k1 := cell_of H13.out (i := 1) rfl
      refine wp_region_held_drew (S := (fun w' => w'.cell? ⟨q13, 0, none⟩ = some (.int .i64 l) ∧ w'.cell? ⟨q13, 1, none⟩ = some (.int .i64 m_))) (by kernel_rfl) ⟨k0, k1⟩ (fun hHeld => ?_)
      have hb : Below w15.heap.size w15 w15.drew := (Below.refl _ _).drew
      replace HP := Lib.hid (HP.out.kept hb)
      replace HC := Lib.hid (HC.out.kept hb)
      replace HPK := Lib.hid (HPK.out.kept hb)
      replace HTM := Lib.hid (HTM.out.kept hb)
      replace H13 := Lib.hid (heap_keep hb H13.out)
      replace H16 := Lib.hid (heap_keep hb H16.out)
      replace HM := Lib.hid (HM.out.below hb)
      clear hb
      generalize w15.drew = w16 at *
      refine tkH (by assumption) 0 (oi := ?_) (v := ?_) ?_ ?_ ?_ ?_ ?_ ?_ ?_ ?_; rotate_left 2; (simp only [gA, gB, gC]; exact rfl); kernel_rfl; kernel_rfl; kernel_rfl; exact fun _ _ _ h => h; rfl; (intro w' hSw; (try dsimp only at hSw); go_simp; with_reducible rfl); simp only [Act.put, pB, pC, pD]
      refine tkH (by assumption) 1 (oi := ?_) (v := ?_) ?_ ?_ ?_ ?_ ?_ ?_ ?_ ?_; rotate_left 2; (simp only [gA, gB, gC]; exact rfl); kernel_rfl; kernel_rfl; kernel_rfl; exact fun _ _ _ h => h; rfl; (intro w' hSw; (try dsimp only at hSw); go_simp; with_reducible rfl); simp only [Act.put, pB, pC, pD]
      refine tkH (by assumption) 2 (oi := ?_) (v := ?_) ?_ ?_ ?_ ?_ ?_ ?_ ?_ ?_; rotate_left 2; (simp only [gA, gB, gC]; exact rfl); kernel_rfl; kernel_rfl; kernel_rfl; exact fun _ _ _ h => h; rfl; (intro w' hSw; (try dsimp only at hSw); go_simp; with_reducible rfl); simp only [Act.put, pB, pC, pD]
      refine tkH (by assumption) 4 (oi := ?_) (v := ?_) ?_ ?_ ?_ ?_ ?_ ?_ ?_ ?_; rotate_left 2; (simp only [gA, gB, gC]; exact rfl); kernel_rfl; kernel_rfl; kernel_rfl; exact fun _ _ _ h => h; rfl; (intro w' hSw; (try dsimp only at hSw); go_simp; with_reducible rfl); simp only [Act.put, pB, pC, pD]
      refine tkH (by assumption) 5 (oi := ?_) (v := ?_) ?_ ?_ ?_ ?_ ?_ ?_ ?_ ?_; rotate_left 2; (simp only [gA, gB, gC]; exact rfl); kernel_rfl; kernel_rfl; kernel_rfl; exact fun _ _ _ h => h; rfl; (intro w' hSw; (try dsimp only at hSw); go_simp; with_reducible rfl); simp only [Act.put, pB, pC, pD]
      refine tkH (by assumption) 6 (oi := ?_) (v := ?_) ?_ ?_ ?_ ?_ ?_ ?_ ?_ ?_; rotate_left 2; (simp only [gA, gB, gC]; exact rfl); kernel_rfl; kernel_rfl; kernel_rfl; exact fun _ _ _ h => h; rfl; (intro w' hSw; (try dsimp only at hSw); go_simp; with_reducible rfl); simp only [Act.put, pB, pC, pD]
      refine tkH (by assumption) 7 (oi := ?_) (v := ?_) ?_ ?_ ?_ ?_ ?_ ?_ ?_ ?_; rotate_left 2; (simp only [gA, gB, gC]; exact rfl); kernel_rfl; kernel_rfl; kernel_rfl; exact fun _ _ _ h => h; rfl; (intro w' hSw; (try dsimp only at hSw); go_simp; with_reducible rfl); simp only [Act.put, pB, pC, pD]
      refine onH 3 (oi := ?_) (by kernel_rfl) ?_ ?_ (fun K hK => ?_); rotate_left; (simp only [gA, gB, gC]; exact rfl); rfl
      go_wp2_with (fail)
      refine (lawFault_any a n cl L M ac m cc C c w16 (by omega) (by omega) HP.out HC.out).mono ?_
      rintro e w17 ⟨rfl, hb⟩
      replace HP := Lib.hid (HP.out.kept hb)
      replace HC := Lib.hid (HC.out.kept hb)
      replace HPK := Lib.hid (HPK.out.kept hb)
      replace HTM := Lib.hid (HTM.out.kept hb)
      replace H13 := Lib.hid (heap_keep hb H13.out)
      replace H16 := Lib.hid (heap_keep hb H16.out)
      replace HM := Lib.hid (HM.out.below hb)
      clear hb k0 k1
      have k0 := cell_of H13.out (i := 0) rfl
      have k1 := cell_of H13.out (i := 1) rfl
      refine hK.out _ _ ⟨k0, k1⟩ (fun hHeldN => ?_)
      clear hK K hHeld
      have hHeld := hHeldN
      clear hHeldN
      try simp only [Act.put, pB, pC, pD]
      refine onH 8 (oi := ?_) (by kernel_rfl) ?_ ?_ (fun K hK => ?_); rotate_left; (simp only [gA, gB, gC]; exact rfl); rfl
      go_wp2_with (fail)
      refine (exactFault_any u v l m_ c w17).mono ?_
      rintro e w18 ⟨rfl, hb⟩
      replace HP := Lib.hid (HP.out.kept hb)
      replace HC := Lib.hid (HC.out.kept hb)
      replace HPK := Lib.hid (HPK.out.kept hb)
      replace HTM := Lib.hid (HTM.out.kept hb)
      replace H13 := Lib.hid (heap_keep hb H13.out)
      replace H16 := Lib.hid (heap_keep hb H16.out)
      replace HM := Lib.hid (HM.out.below hb)
      clear hb k0 k1
      have k0 := cell_of H13.out (i := 0) rfl
      have k1 := cell_of H13.out (i := 1) rfl
      refine hK.out _ _ ⟨k0, k1⟩ (fun hHeldN => ?_)
      clear hK K hHeld
      have hHeld := hHeldN
      clear hHeldN
      try simp only [Act.put, pB, pC, pD]
      refine tkH (by assumption) 9 (oi := ?_) (v := ?_) ?_ ?_ ?_ ?_ ?_ ?_ ?_ ?_; rotate_left 2; (simp only [gA, gB, gC]; exact rfl); kernel_rfl; kernel_rfl; kernel_rfl; exact fun _ _ _ h => h; rfl; (intro w' hSw; (try dsimp only at hSw); go_simp; with_reducible rfl); simp only [Act.put, pB, pC, pD]
      refine tkH (by assumption) 10 (oi := ?_) (v := ?_) ?_ ?_ ?_ ?_ ?_ ?_ ?_ ?_; rotate_left 2; (simp only [gA, gB, gC]; exact rfl); kernel_rfl; kernel_rfl; kernel_rfl; exact fun _ _ _ h => h; rfl; (intro w' hSw; (try dsimp only at hSw); go_simp; with_reducible rfl); simp only [Act.put, pB, pC, pD]
      refine wpAnyH_done (by kernel_rfl) ?_ _
      clear k0 k1
      rw [HE.out]
      have k0 := cell_of H13.out (i := 0) rfl
      have k1 := cell_of H13.out (i := 1) rfl
      have l13 := lt_of_heap H13.out
      have hb : Below w18.heap.size w18 (w18.alloc (.cells #[.int .i64 0, .int .i64 0] 40)) := (Below.refl _ _).alloc (Nat.le_refl _) _
      have H25 := Lib.hid (heap_alloc_new w18 (.cells #[.int .i64 0, .int .i64 0] 40))
      have N16 := Lib.hid (show q16 ≠ w18.heap.size from Nat.ne_of_lt (lt_of_heap H16.out))
      have NP := Lib.hid (HP.out.past (Nat.le_refl w18.heap.size))
      have NC := Lib.hid (HC.out.past (Nat.le_refl w18.heap.size))
      have NPK := Lib.hid (HPK.out.past (Nat.le_refl w18.heap.size))
      have NTM := Lib.hid (HTM.out.past (Nat.le_refl w18.heap.size))
      have hqB : B < w18.heap.size := by have := hq13; have := lt_of_heap H13.out; omega
      replace HP := Lib.hid (HP.out.kept hb)
      replace HC := Lib.hid (HC.out.kept hb)
      replace HPK := Lib.hid (HPK.out.kept hb)
      replace HTM := Lib.hid (HTM.out.kept hb)
      replace H13 := Lib.hid (heap_keep hb H13.out)
      replace H16 := Lib.hid (heap_keep hb H16.out)
      replace HM := Lib.hid (HM.out.below hb)
      clear hb
      by_cases hx : exE u v l m_ c = 0
      · have hx' : (exE u v l m_ c == 0) = true := by simp [hx]
        have hxc : chkE u v l m_ c = 0 := by
          unfold exE at hx
          split at hx
          · assumption
          · rename_i h; exact absurd hx h
        obtain ⟨hu, hv, hcc, hl, hmm⟩ := chk_ok hxc
        have HXK := Lib.hid (show (0 ≤ u ∧ u ≤ 100000) ∧ (0 ≤ v ∧ v ≤ 100000) ∧ (1 ≤ c ∧ c ≤ 10000000) ∧ (1 ≤ l ∧ l ≤ 200000) ∧ (1 ≤ m_ ∧ m_ ≤ 100000) from ⟨hu, hv, hcc, hl, hmm⟩)
        have hX1 : exN u v l m_ c = fx := by have := HFX.out; unfold ifE at this; rw [if_pos hx] at this; exact this
        have hX2 : exD u v l m_ c = fy := by have := HFY.out; unfold ifE at this; rw [if_pos hx] at this; exact this
        have HX1 := Lib.hid hX1
        have HX2 := Lib.hid hX2
        have hxx : (exE u v l m_ c == exE u v l m_ c) = true := by simp
        clear hxc hu hv hcc hl hmm hX1 hX2 hx
        go_wp2_with (fail)
        clear k0 k1 l13
        generalize (w18.alloc (.cells #[.int .i64 0, .int .i64 0] 40)) = y1 at *
        obtain ⟨q25, hq⟩ : ∃ q, q = w18.heap.size := ⟨_, rfl⟩
        rw [← hq] at H25 N16 NP NC NPK NTM hqB ⊢
        clear hq
        refine (exactOf_any u v l m_ c y1 HXK.out.1 HXK.out.2.1 HXK.out.2.2.1 HXK.out.2.2.2.1 HXK.out.2.2.2.2).mono ?_
        rintro e y2 ⟨rfl, hb⟩
        rw [HX1.out, HX2.out]
        replace HP := Lib.hid (HP.out.kept hb)
        replace HC := Lib.hid (HC.out.kept hb)
        replace HPK := Lib.hid (HPK.out.kept hb)
        replace HTM := Lib.hid (HTM.out.kept hb)
        replace H13 := Lib.hid (heap_keep hb H13.out)
        replace H16 := Lib.hid (heap_keep hb H16.out)
        replace H25 := Lib.hid (heap_keep hb H25.out)
        replace HM := Lib.hid (HM.out.below hb)
        clear hb
        have d0 := cell_of H25.out (i := 0) rfl
        have d1 := cell_of H25.out (i := 1) rfl
        have f0 := frozen_of H25.out (i := 0)
        have f1 := frozen_of H25.out (i := 1)
        go_wp2_with (fail)
        clear d0 d1 f0 f1
        have hmt : Mut (· = q25) y2 ((y2.setCell ⟨q25, 0, none⟩ (.int .i64 fx)).setCell ⟨q25, 1, none⟩ (.int .i64 fy)) := Mut.setCell (S := (· = q25)) (p := ⟨q25, 1, none⟩) (Mut.setCell (S := (· = q25)) (p := ⟨q25, 0, none⟩) (Mut.refl (· = q25) y2) (fun _ => rfl) _) (fun _ => rfl) _
        replace H25 := Lib.hid (set2V_1 (u := .int .i64 fy) (set2V_0 (u := .int .i64 fx) H25.out))
        replace H16 := Lib.hid ((hmt.block _ (lt_of_heap H16.out) N16.out).trans H16.out)
        replace HP := Lib.hid (HP.out.mutn hmt (by first | exact NP.out | exact .inl rfl))
        replace HC := Lib.hid (HC.out.mutn hmt (by first | exact NC.out | exact .inl rfl))
        replace HPK := Lib.hid (HPK.out.mutn hmt (by first | exact NPK.out | exact .inl rfl))
        replace HTM := Lib.hid (HTM.out.mutn hmt (by first | exact NTM.out | exact .inl rfl))
        replace HM := Lib.hid (HM.out.outer hmt (by have := HBW.out; omega))
        clear hmt H13
        generalize ((y2.setCell ⟨q25, 0, none⟩ (.int .i64 fx)).setCell ⟨q25, 1, none⟩ (.int .i64 fy)) = y3 at *
        refine (equalV_any _ none 0 _ 0 (fun _ => 0) (fun _ => 0) y3 (by omega) (.inl rfl) (.inl rfl) (fun i h => rfl)).mono ?_
        rintro e x1 ⟨rfl, hb⟩
        replace HP := Lib.hid (HP.out.kept hb)
        replace HC := Lib.hid (HC.out.kept hb)
        replace HPK := Lib.hid (HPK.out.kept hb)
        replace HTM := Lib.hid (HTM.out.kept hb)
        replace H16 := Lib.hid (heap_keep hb H16.out)
        replace H25 := Lib.hid (heap_keep hb H25.out)
        replace HM := Lib.hid (HM.out.below hb)
        clear hb
        go_wp2_with (fail)
        refine (equalV_any _ none 0 _ 0 (fun _ => 0) (fun _ => 0) x1 (by omega) (.inl rfl) (.inl rfl) (fun i h => rfl)).mono ?_
        rintro e x2 ⟨rfl, hb⟩
        replace HP := Lib.hid (HP.out.kept hb)
        replace HC := Lib.hid (HC.out.kept hb)
        replace HPK := Lib.hid (HPK.out.kept hb)
        replace HTM := Lib.hid (HTM.out.kept hb)
        replace H16 := Lib.hid (heap_keep hb H16.out)
        replace H25 := Lib.hid (heap_keep hb H25.out)
        replace HM := Lib.hid (HM.out.below hb)
        clear hb
        have k16a := cell_of H16.out (i := 0) rfl
        have k16b := cell_of H16.out (i := 1) rfl
        have k25a := cell_of H25.out (i := 0) rfl
        have k25b := cell_of H25.out (i := 1) rfl
        go_wp2_with (fail)
        clear k16a k16b k25a k25b
        refine (moved_any x2).mono ?_
        rintro e x3 ⟨rfl, hb⟩
        replace HM := Lib.hid (HM.out.below hb)
        clear hb
        go_wp2_with (fail)
        go_ret
        exact ⟨rfl, HM.out.toBelow _ (Nat.le_refl _) (fun x hx e => by have := HBW.out; omega)⟩
      · skip
        have hx' : (exE u v l m_ c == 0) = false := by simpa using hx
        have hX1 : (0 : Int) = fx := by have := HFX.out; unfold ifE at this; rw [if_neg hx] at this; exact this
        have hX2 : (0 : Int) = fy := by have := HFY.out; unfold ifE at this; rw [if_neg hx] at this; exact this
        have hxx : (exE u v l m_ c == exE u v l m_ c) = true := by simp
        obtain rfl := hX1
        obtain rfl := hX2
        clear hx k0 k1 l13
        go_wp2_with (fail)
        generalize (w18.alloc (.cells #[.int .i64 0, .int .i64 0] 40)) = y1 at *
        obtain ⟨q25, hq⟩ : ∃ q, q = w18.heap.size := ⟨_, rfl⟩
        rw [← hq] at H25 ⊢
        clear hq NP NC NPK NTM N16
        refine (equalV_any _ none 0 _ 0 (fun _ => 0) (fun _ => 0) y1 (by omega) (.inl rfl) (.inl rfl) (fun i h => rfl)).mono ?_
        rintro e x1 ⟨rfl, hb⟩
        replace HP := Lib.hid (HP.out.kept hb)
        replace HC := Lib.hid (HC.out.kept hb)
        replace HPK := Lib.hid (HPK.out.kept hb)
        replace HTM := Lib.hid (HTM.out.kept hb)
        replace H16 := Lib.hid (heap_keep hb H16.out)
        replace H25 := Lib.hid (heap_keep hb H25.out)
        replace HM := Lib.hid (HM.out.below hb)
        clear hb
        go_wp2_with (fail)
        refine (equalV_any _ none 0 _ 0 (fun _ => 0) (fun _ => 0) x1 (by omega) (.inl rfl) (.inl rfl) (fun i h => rfl)).mono ?_
        rintro e x2 ⟨rfl, hb⟩
        replace HP := Lib.hid (HP.out.kept hb)
        replace HC := Lib.hid (HC.out.kept hb)
        replace HPK := Lib.hid (HPK.out.kept hb)
        replace HTM := Lib.hid (HTM.out.kept hb)
        replace H16 := Lib.hid (heap_keep hb H16.out)
        replace H25 := Lib.hid (heap_keep hb H25.out)
        replace HM := Lib.hid (HM.out.below hb)
        clear hb
        have k16a := cell_of H16.out (i := 0) rfl
        have k16b := cell_of H16.out (i := 1) rfl
        have k25a := cell_of H25.out (i := 0) rfl
        have k25b := cell_of H25.out (i := 1) rfl
        go_wp2_with (fail)
        clear k16a k16b k25a k25b
        refine (moved_any x2).mono ?_
        rintro e x3 ⟨rfl, hb⟩
        replace HM := Lib.hid (HM.out.below hb)
        clear hb
        go_wp2_with (fail)
        go_ret
        exact ⟨rfl, HM.out.toBelow _ (Nat.le_refl _) (fun x hx e => by have := HBW.out; omega)⟩
end Go.Proofs.Ytjjedffmcloahaa

/- The law OrdersMeasured, walked. -/
import Derived.Test.YtapihgmokgkaaaaZb
set_option linter.unusedSimpArgs false
set_option linter.unusedVariables false
namespace Go.Proofs.Ytapihgmokgkaaaa
open Go.RowKit

set_option maxRecDepth 100000 in
set_option maxHeartbeats 32000000 in
theorem ordersMeasured_walk (a0 : Option Addr) (len0 cap0 : Nat) (z0 : List Int) (w : World) (w0 : IsRow .i64 w a0 len0 cap0 z0) :
    Calls Try.prog 3 #[.slice a0 len0 cap0] w fun e w' => e = .returned (.bool true) ∧ Below w.heap.size w w' := by
  have HS0 := Lib.hid (Strm.start w0)
  go_enter Try.func3, Try.ntmps3
  go_wp2_with (fail)
  have HM0 : Hid (Mut (· = w.heap.size) w (w.alloc (.cells #[.slice a0 len0 cap0, .int .i64 0] 25))) := Lib.hid ((Mut.refl _ w).alloc _)
  have hl0 : w.heap.size < (w.alloc (.cells #[.slice a0 len0 cap0, .int .i64 0] 25)).heap.size := by simp
  generalize (w.alloc (.cells #[.slice a0 len0 cap0, .int .i64 0] 25)) = ws at *
  obtain ⟨B, hBw⟩ : ∃ B, B = w.heap.size := ⟨_, rfl⟩
  rw [← hBw] at HS0 HM0 hl0 ⊢
  have HBW := Lib.hid hBw
  clear hBw
  refine (apoint_any B 0 _ HS0.out (by omega)).mono ?_
  rintro e w1 ⟨⟨sx, sy, rfl⟩, hst, hmt⟩
  have HS := Lib.hid hst
  have HM := Lib.hid (HM0.out.trans (hmt.mono fun _ _ h => h))
  have hl1 : B < w1.heap.size := hst.lt
  clear hst hmt HS0 HM0
  go_wp2_with (fail)
  refine (pathList_any B _ w1 HS.out (by omega)).mono ?_
  rintro e w2 ⟨a, m, c, P, rfl, hm5, hpo⟩
  have HP := Lib.hid hpo
  obtain ⟨_, hnc⟩ := hpo.fin
  have HN := Lib.hid (show ∀ i, i < m → (P i).n ≤ 100 from fun i hi => by have := (hnc i hi).1; omega)
  have HC := Lib.hid (show ∀ i, i < m → (P i).n ≤ (P i).c from fun i hi => (hnc i hi).2)
  replace HM := Lib.hid (HM.out.trans (hpo.m.mono fun _ _ h => h))
  have hl2 : B < w2.heap.size := hpo.s.lt
  clear hpo hnc HS
  go_wp2_with (fail)
  have HSP : Hid ((w2.alloc (.cells #[.int .i64 sx, .int .i64 sy] 27)).heap[w2.heap.size]? = some (.cells #[.int .i64 sx, .int .i64 sy] 27 (0, 0))) := Lib.hid (by repeat (first | (refine heap_new ?_; first | rfl | (simp; done)) | rw [Below.heap_setCell _ _ _ _ (by simp <;> omega)] | rw [Below.heap_alloc _ _ _ (by simp <;> omega)]))
  replace HP := Lib.hid (HP.out.mutB ((Mut.refl _ w2).alloc (.cells #[.int .i64 sx, .int .i64 sy] 27)) (HP.out.s.alloc _))
  replace HM := Lib.hid (HM.out.alloc (.cells #[.int .i64 sx, .int .i64 sy] 27))
  obtain ⟨gs, hgs⟩ : ∃ gs, gs = w2.heap.size := ⟨_, rfl⟩
  have hgl : gs < (w2.alloc (.cells #[.int .i64 sx, .int .i64 sy] 27)).heap.size := by simp; omega
  have hgB : gs ≠ B := by omega
  rw [← hgs] at HSP ⊢
  clear hgs
  generalize (w2.alloc (.cells #[.int .i64 sx, .int .i64 sy] 27)) = w3 at *
  refine (anOrder_any B _ a m c P w3 HP.out.s (by omega) (by omega) (HP.out.paths (Mut.refl _ _)) HN.out (fun W hW => HP.out.paths hW)).mono ?_
  rintro e w4 ⟨ao, l, co, V, rfl, hlm, hvo⟩
  have hmt := hvo.m
  have HO := Lib.hid hvo
  replace HP := Lib.hid (HP.out.mutB hmt hvo.s)
  replace HM := Lib.hid (HM.out.trans (hmt.mono fun _ _ h => h))
  replace HSP := Lib.hid ((hmt.block _ hgl hgB).trans HSP.out)
  replace hgl := lt_of_heap HSP.out
  clear hvo hmt
  have hmx := max2
  go_wp2_with (fail)
  refine (next_any B _ _ w4 HO.out.s (by omega) (by unfold mx; split <;> omega) (by unfold mx; split <;> omega)).mono ?_
  rintro e w5 ⟨⟨r, rfl, hr0, hr1⟩, hst, hmt⟩
  obtain ⟨i, rfl⟩ := Int.eq_ofNat_of_zero_le hr0
  have hi10 : i ≤ 1000 := by unfold mx at hr1; split at hr1 <;> omega
  replace HP := Lib.hid (HP.out.mutB hmt hst)
  replace HO := Lib.hid (HO.out.mutB hmt hst)
  replace HM := Lib.hid (HM.out.trans (hmt.mono fun _ _ h => h))
  replace HSP := Lib.hid ((hmt.block _ hgl hgB).trans HSP.out)
  replace hgl := lt_of_heap HSP.out
  clear hst hmt hr0 hr1 hmx
  go_wp2_with (fail)
  refine (aVisit_any B _ a m c P i w5 HO.out.s (by omega) (by omega) (HP.out.paths (Mut.refl _ _)) HN.out hi10).mono ?_
  rintro e w6 ⟨v, rfl, hvs, hst, hmt⟩
  replace HP := Lib.hid (HP.out.mutB hmt hst)
  replace HO := Lib.hid (HO.out.mutB hmt hst)
  replace HM := Lib.hid (HM.out.trans (hmt.mono fun _ _ h => h))
  replace HSP := Lib.hid ((hmt.block _ hgl hgB).trans HSP.out)
  clear hst hmt hgl hgB
  have HPR := Lib.hid (HP.out.paths (Mut.refl _ _))
  obtain ⟨hor, hoc⟩ := HO.out.fin
  have HOR := Lib.hid hor
  have HOV := Lib.hid HO.out.p
  have hl100 : l ≤ 100 := by omega
  have hm100 : m ≤ 100 := by omega
  clear hor HP HO hl0 hl1 hl2 hlm hm5 hi10
  obtain ⟨p, s, bk⟩ := v
  unfold Vis.v
  dsimp only at hvs
  go_wp2_with (fail)
  have HVP : Hid ((w6.alloc (.cells #[.int .i64 p, .int .i64 s, .bool bk] 34)).heap[w6.heap.size]? = some (.cells #[.int .i64 p, .int .i64 s, .bool bk] 34 (0, 0))) := Lib.hid (by repeat (first | (refine heap_new ?_; first | rfl | (simp; done)) | rw [Below.heap_setCell _ _ _ _ (by simp <;> omega)] | rw [Below.heap_alloc _ _ _ (by simp <;> omega)]))
  have hb : Below w6.heap.size w6 (w6.alloc (.cells #[.int .i64 p, .int .i64 s, .bool bk] 34)) := (by repeat (first | exact Below.refl _ _ | assumption | refine Below.drew ?_ | refine bdrewN ?_ _ | refine Below.setCell ?_ (by first | omega | (simp <;> omega)) _ | refine Below.alloc ?_ (by first | omega | (simp <;> omega)) _))
  replace HM := Lib.hid (HM.out.below hb)
  replace HPR := Lib.hid (HPR.out.kept hb)
  replace HOR := Lib.hid (HOR.out.kept hb)
  replace HSP := Lib.hid (heap_keep hb HSP.out)
  clear hb
  generalize (w6.alloc (.cells #[.int .i64 p, .int .i64 s, .bool bk] 34)) = w7 at *
  generalize w6.heap.size = gv at *
  have vi0 := cell_of HVP.out (i := 0) rfl
  have vi1 := cell_of HVP.out (i := 1) rfl
  have vi2 := cell_of HVP.out (i := 2) rfl
  refine wp_region_held_drew (S := (fun w' => w'.cell? ⟨gv, 0, none⟩ = some (.int .i64 p) ∧ w'.cell? ⟨gv, 1, none⟩ = some (.int .i64 s) ∧ w'.cell? ⟨gv, 2, none⟩ = some (.bool bk))) (by kernel_rfl) ⟨vi0, vi1, vi2⟩ (fun hHeld => ?_)
  refine tkH (by assumption) 0 (oi := ?_) (v := ?_) ?_ ?_ ?_ ?_ ?_ ?_ ?_ ?_; rotate_left 2; (simp only [gA, gB, gC]; exact rfl); kernel_rfl; kernel_rfl; kernel_rfl; exact fun _ _ _ h => h; rfl; (intro w' hSw; (try dsimp only at hSw); go_simp; with_reducible rfl); simp only [Act.put, pB, pC, pD]
  refine tkH (by assumption) 1 (oi := ?_) (v := ?_) ?_ ?_ ?_ ?_ ?_ ?_ ?_ ?_; rotate_left 2; (simp only [gA, gB, gC]; exact rfl); kernel_rfl; kernel_rfl; kernel_rfl; exact fun _ _ _ h => h; rfl; (intro w' hSw; (try dsimp only at hSw); go_simp; with_reducible rfl); simp only [Act.put, pB, pC, pD]
  refine tkH (by assumption) 3 (oi := ?_) (v := ?_) ?_ ?_ ?_ ?_ ?_ ?_ ?_ ?_; rotate_left 2; (simp only [gA, gB, gC]; exact rfl); kernel_rfl; kernel_rfl; kernel_rfl; exact fun _ _ _ h => h; rfl; (intro w' hSw; (try dsimp only at hSw); go_simp; with_reducible rfl); simp only [Act.put, pB, pC, pD]
  refine tkH (by assumption) 4 (oi := ?_) (v := ?_) ?_ ?_ ?_ ?_ ?_ ?_ ?_ ?_; rotate_left 2; (simp only [gA, gB, gC]; exact rfl); kernel_rfl; kernel_rfl; kernel_rfl; exact fun _ _ _ h => h; rfl; (intro w' hSw; (try dsimp only at hSw); go_simp; with_reducible rfl); simp only [Act.put, pB, pC, pD]
  refine onH 2 (oi := ?_) (by kernel_rfl) ?_ ?_ (fun K hK => ?_); rotate_left; (simp only [gA, gB, gC]; exact rfl); rfl
  go_wp2_with (fail)
  refine (orderFault_any a m c P ao l co V _ hm100 (HPR.out.kept (Below.refl _ _).drew) HN.out hl100 (HOR.out.kept (Below.refl _ _).drew) hoc).mono ?_
  rintro e w8 ⟨rfl, hb⟩
  replace hb := undrew' hb
  replace HM := Lib.hid (HM.out.below hb)
  replace HPR := Lib.hid (HPR.out.kept hb)
  replace HOR := Lib.hid (HOR.out.kept hb)
  replace HSP := Lib.hid (heap_keep hb HSP.out)
  replace HVP := Lib.hid (heap_keep hb HVP.out)
  clear hb vi0 vi1 vi2
  have vi0 := cell_of HVP.out (i := 0) rfl
  have vi1 := cell_of HVP.out (i := 1) rfl
  have vi2 := cell_of HVP.out (i := 2) rfl
  refine hK.out _ _ ⟨vi0, vi1, vi2⟩ (fun hHeldN => ?_)
  clear hK K hHeld
  have hHeld := hHeldN
  clear hHeldN
  try simp only [Act.put, pB, pC, pD]
  refine onH 5 (oi := ?_) (by kernel_rfl) ?_ ?_ (fun K hK => ?_); rotate_left; (simp only [gA, gB, gC]; exact rfl); rfl
  go_wp2_with (fail)
  refine (visitFault1_any a m c P ⟨p, s, bk⟩ w8 hm100 HPR.out HN.out).mono ?_
  rintro e w9 ⟨rfl, hb⟩
  replace HM := Lib.hid (HM.out.below hb)
  replace HPR := Lib.hid (HPR.out.kept hb)
  replace HOR := Lib.hid (HOR.out.kept hb)
  replace HSP := Lib.hid (heap_keep hb HSP.out)
  replace HVP := Lib.hid (heap_keep hb HVP.out)
  clear hb vi0 vi1 vi2
  have vi0 := cell_of HVP.out (i := 0) rfl
  have vi1 := cell_of HVP.out (i := 1) rfl
  have vi2 := cell_of HVP.out (i := 2) rfl
  refine hK.out _ _ ⟨vi0, vi1, vi2⟩ (fun hHeldN => ?_)
  clear hK K hHeld
  have hHeld := hHeldN
  clear hHeldN
  try simp only [Act.put, pB, pC, pD]
  refine tkH (by assumption) 6 (oi := ?_) (v := ?_) ?_ ?_ ?_ ?_ ?_ ?_ ?_ ?_; rotate_left 2; (simp only [gA, gB, gC]; exact rfl); kernel_rfl; kernel_rfl; kernel_rfl; exact fun _ _ _ h => h; rfl; (intro w' hSw; (try dsimp only at hSw); go_simp; with_reducible rfl); simp only [Act.put, pB, pC, pD]
  refine tkH (by assumption) 7 (oi := ?_) (v := ?_) ?_ ?_ ?_ ?_ ?_ ?_ ?_ ?_; rotate_left 2; (simp only [gA, gB, gC]; exact rfl); kernel_rfl; kernel_rfl; kernel_rfl; exact fun _ _ _ h => h; rfl; (intro w' hSw; (try dsimp only at hSw); go_simp; with_reducible rfl); simp only [Act.put, pB, pC, pD]
  refine wpAnyH_done (by kernel_rfl) ?_ _
  clear hHeld vi0 vi1 vi2
  by_cases hz : oneF m P ⟨p, s, bk⟩ = 0
  · obtain ⟨q, rfl⟩ := nat_of hz
    obtain ⟨hqm, hfit⟩ := fit_of hz
    have HZ := Lib.hid hz
    have HFT := Lib.hid hfit
    clear hz hfit
    by_cases hz2 : tourE sx sy m P l V = 0
    · have HZ2 := Lib.hid hz2
      clear hz2
      have st0 := cell_of HSP.out (i := 0) rfl
      have st1 := cell_of HSP.out (i := 1) rfl
      have vi0 := cell_of HVP.out (i := 0) rfl
      have vi1 := cell_of HVP.out (i := 1) rfl
      have vi2 := cell_of HVP.out (i := 2) rfl
      go_wp2_with (fail)
      refine (checkOrder_any a m c P ao l co V _ hm100 HPR.out HN.out hl100 HOR.out HOV.out).mono ?_
      rintro e u1 ⟨rfl, hb⟩
      clear st0 st1 vi0 vi1 vi2
      replace HM := Lib.hid (HM.out.below hb)
      replace HPR := Lib.hid (HPR.out.kept hb)
      replace HOR := Lib.hid (HOR.out.kept hb)
      replace HSP := Lib.hid (heap_keep hb HSP.out)
      replace HVP := Lib.hid (heap_keep hb HVP.out)
      clear hb
      have st0 := cell_of HSP.out (i := 0) rfl
      have st1 := cell_of HSP.out (i := 1) rfl
      have vi0 := cell_of HVP.out (i := 0) rfl
      have vi1 := cell_of HVP.out (i := 1) rfl
      have vi2 := cell_of HVP.out (i := 2) rfl
      have hne : (oF m P l V != oF m P l V) = false := by simp
      go_wp2_with (fail)
      have hE := Ends_any a m c P ⟨(q : Int), s, bk⟩ u1 hm100 HPR.out HN.out hvs
      rw [endsV_shape] at hE
      unfold Vis.v at hE
      refine hE.mono ?_
      clear hE
      rintro e u2 ⟨rfl, hb⟩
      clear st0 st1 vi0 vi1 vi2 hne
      replace HM := Lib.hid (HM.out.below hb)
      replace HPR := Lib.hid (HPR.out.kept hb)
      replace HOR := Lib.hid (HOR.out.kept hb)
      replace HSP := Lib.hid (heap_keep hb HSP.out)
      replace HVP := Lib.hid (heap_keep hb HVP.out)
      clear hb
      have st0 := cell_of HSP.out (i := 0) rfl
      have st1 := cell_of HSP.out (i := 1) rfl
      have vi0 := cell_of HVP.out (i := 0) rfl
      have vi1 := cell_of HVP.out (i := 1) rfl
      have vi2 := cell_of HVP.out (i := 2) rfl
      obtain ⟨ax, hax⟩ : ∃ z, z = ifO (oneF m P ⟨(q : Int), s, bk⟩) (bX P ⟨(q : Int), s, bk⟩) := ⟨_, rfl⟩
      have Hax := Lib.hid hax
      obtain ⟨ay, hay⟩ : ∃ z, z = ifO (oneF m P ⟨(q : Int), s, bk⟩) (bY P ⟨(q : Int), s, bk⟩) := ⟨_, rfl⟩
      have Hay := Lib.hid hay
      obtain ⟨ex, hex⟩ : ∃ z, z = ifO (oneF m P ⟨(q : Int), s, bk⟩) (eX P ⟨(q : Int), s, bk⟩) := ⟨_, rfl⟩
      have Hex := Lib.hid hex
      obtain ⟨ey, hey⟩ : ∃ z, z = ifO (oneF m P ⟨(q : Int), s, bk⟩) (eY P ⟨(q : Int), s, bk⟩) := ⟨_, rfl⟩
      have Hey := Lib.hid hey
      rw [← hax, ← hay, ← hex, ← hey]
      clear hax hay hex hey
      have hlV := lt_of_heap HVP.out
      have hlV1 : gv < u2.heap.size + 1 := by omega
      have hlS := lt_of_heap HSP.out
      have hlS1 : gs < u2.heap.size + 1 := by omega
      go_wp2_with (fail)
      clear hlV hlV1 hlS hlS1
      have hb : Below u2.heap.size u2 ((u2.alloc (.cells #[.int .i64 ax, .int .i64 ay] 27)).alloc (.cells #[.int .i64 ex, .int .i64 ey] 27)) := (by repeat (first | exact Below.refl _ _ | assumption | refine Below.drew ?_ | refine bdrewN ?_ _ | refine Below.setCell ?_ (by first | omega | (simp <;> omega)) _ | refine Below.alloc ?_ (by first | omega | (simp <;> omega)) _))
      have H10 : Hid (((u2.alloc (.cells #[.int .i64 ax, .int .i64 ay] 27)).alloc (.cells #[.int .i64 ex, .int .i64 ey] 27)).heap[u2.heap.size]? = some (.cells #[.int .i64 ax, .int .i64 ay] 27 (0, 0))) := Lib.hid (by repeat (first | (refine heap_new ?_; first | rfl | (simp; done)) | rw [Below.heap_setCell _ _ _ _ (by simp <;> omega)] | rw [Below.heap_alloc _ _ _ (by simp <;> omega)]))
      have H11 : Hid (((u2.alloc (.cells #[.int .i64 ax, .int .i64 ay] 27)).alloc (.cells #[.int .i64 ex, .int .i64 ey] 27)).heap[u2.heap.size + 1]? = some (.cells #[.int .i64 ex, .int .i64 ey] 27 (0, 0))) := Lib.hid (by repeat (first | (refine heap_new ?_; first | rfl | (simp; done)) | rw [Below.heap_setCell _ _ _ _ (by simp <;> omega)] | rw [Below.heap_alloc _ _ _ (by simp <;> omega)]))
      clear st0 st1 vi0 vi1 vi2
      replace HM := Lib.hid (HM.out.below hb)
      replace HPR := Lib.hid (HPR.out.kept hb)
      replace HOR := Lib.hid (HOR.out.kept hb)
      replace HSP := Lib.hid (heap_keep hb HSP.out)
      replace HVP := Lib.hid (heap_keep hb HVP.out)
      clear hb
      generalize ((u2.alloc (.cells #[.int .i64 ax, .int .i64 ay] 27)).alloc (.cells #[.int .i64 ex, .int .i64 ey] 27)) = u3 at *
      refine (Points_any a m c P ⟨(q : Int), s, bk⟩ u3 hm100 HPR.out HN.out HC.out hvs).mono ?_
      rintro e u4 ⟨hp0, hp1, hb⟩
      obtain ⟨pa, pcap, rfl, hpo⟩ := hp0 HZ.out
      rw [Int.toNat_natCast] at hpo ⊢
      have HPP := Lib.hid (own_pts hpo)
      clear hpo hp0 hp1
      replace HM := Lib.hid (HM.out.below hb)
      replace HPR := Lib.hid (HPR.out.kept hb)
      replace HOR := Lib.hid (HOR.out.kept hb)
      replace HSP := Lib.hid (heap_keep hb HSP.out)
      replace HVP := Lib.hid (heap_keep hb HVP.out)
      replace H10 := Lib.hid (heap_keep hb H10.out)
      replace H11 := Lib.hid (heap_keep hb H11.out)
      clear hb
      have st0 := cell_of HSP.out (i := 0) rfl
      have st1 := cell_of HSP.out (i := 1) rfl
      have vi0 := cell_of HVP.out (i := 0) rfl
      have vi1 := cell_of HVP.out (i := 1) rfl
      have vi2 := cell_of HVP.out (i := 2) rfl
      go_wp2_with (fail)
      have hT := travel_any sx sy a m c P ao l co V u4 hm100 HPR.out HN.out hl100 HOR.out HOV.out
      refine hT.mono ?_
      clear hT
      rintro e u5 ⟨rfl, hb⟩
      clear st0 st1 vi0 vi1 vi2
      replace HM := Lib.hid (HM.out.below hb)
      replace HPR := Lib.hid (HPR.out.kept hb)
      replace HOR := Lib.hid (HOR.out.kept hb)
      replace HSP := Lib.hid (heap_keep hb HSP.out)
      replace HVP := Lib.hid (heap_keep hb HVP.out)
      replace H10 := Lib.hid (heap_keep hb H10.out)
      replace H11 := Lib.hid (heap_keep hb H11.out)
      replace HPP := Lib.hid (HPP.out.kept hb)
      clear hb
      have BU : Hid (Below u5.heap.size u5 ((u5.alloc (.cells #[.int .i64 0, .int .i64 0] 27)).alloc (.cells #[.int .i64 0, .int .i64 0] 27))) := Lib.hid (by repeat (first | exact Below.refl _ _ | assumption | refine Below.drew ?_ | refine bdrewN ?_ _ | refine Below.setCell ?_ (by first | omega | (simp <;> omega)) _ | refine Below.alloc ?_ (by first | omega | (simp <;> omega)) _))
      have H17 : Hid (((u5.alloc (.cells #[.int .i64 0, .int .i64 0] 27)).alloc (.cells #[.int .i64 0, .int .i64 0] 27)).heap[u5.heap.size]? = some (.cells #[.int .i64 0, .int .i64 0] 27 (0, 0))) := Lib.hid (by repeat (first | (refine heap_new ?_; first | rfl | (simp; done)) | rw [Below.heap_setCell _ _ _ _ (by simp <;> omega)] | rw [Below.heap_alloc _ _ _ (by simp <;> omega)]))
      have H18 : Hid (((u5.alloc (.cells #[.int .i64 0, .int .i64 0] 27)).alloc (.cells #[.int .i64 0, .int .i64 0] 27)).heap[u5.heap.size + 1]? = some (.cells #[.int .i64 0, .int .i64 0] 27 (0, 0))) := Lib.hid (by repeat (first | (refine heap_new ?_; first | rfl | (simp; done)) | rw [Below.heap_setCell _ _ _ _ (by simp <;> omega)] | rw [Below.heap_alloc _ _ _ (by simp <;> omega)]))
      have hlV := lt_of_heap HVP.out
      have hlS := lt_of_heap HSP.out
      have hl10 := lt_of_heap H10.out
      have hl11 := lt_of_heap H11.out
      have hoz : (oneF m P ⟨(q : Int), s, bk⟩ == (0 : Int)) = true := by simp [HZ.out]
      go_upto_if 72 with (fail)
      generalize ((u5.alloc (.cells #[.int .i64 0, .int .i64 0] 27)).alloc (.cells #[.int .i64 0, .int .i64 0] 27)) = u6 at *
      have st0 := cell_of (heap_keep BU.out HSP.out) (i := 0) rfl
      have st1 := cell_of (heap_keep BU.out HSP.out) (i := 1) rfl
      have vi0 := cell_of (heap_keep BU.out HVP.out) (i := 0) rfl
      have vi1 := cell_of (heap_keep BU.out HVP.out) (i := 1) rfl
      have vi2 := cell_of (heap_keep BU.out HVP.out) (i := 2) rfl
      go_wp2_with (fail)
      have hE := endsOf_any a m c P q s bk u6 hm100 (HPR.out.kept BU.out) HN.out HC.out hqm HFT.out
      have eax : (P q).X (enB (P q) ⟨(q : Int), s, bk⟩) = ax := by rw [Hax.out]; simp [ifO, HZ.out, bX, pthOf]
      have eay : (P q).Y (enB (P q) ⟨(q : Int), s, bk⟩) = ay := by rw [Hay.out]; simp [ifO, HZ.out, bY, pthOf]
      have eex : (P q).X (enE (P q) ⟨(q : Int), s, bk⟩) = ex := by rw [Hex.out]; simp [ifO, HZ.out, eX, pthOf]
      have eey : (P q).Y (enE (P q) ⟨(q : Int), s, bk⟩) = ey := by rw [Hey.out]; simp [ifO, HZ.out, eY, pthOf]
      rw [eax, eay, eex, eey] at hE
      clear eax eay eex eey
      refine hE.mono ?_
      clear hE
      rintro e u7 ⟨rfl, hb⟩
      unfold two
      clear st0 st1 vi0 vi1 vi2
      replace BU := Lib.hid (BU.out.trans (hb.mono BU.out.size))
      replace H17 := Lib.hid (heap_keep hb H17.out)
      replace H18 := Lib.hid (heap_keep hb H18.out)
      clear hb
      have st0 := cell_of (heap_keep BU.out HSP.out) (i := 0) rfl
      have st1 := cell_of (heap_keep BU.out HSP.out) (i := 1) rfl
      have vi0 := cell_of (heap_keep BU.out HVP.out) (i := 0) rfl
      have vi1 := cell_of (heap_keep BU.out HVP.out) (i := 1) rfl
      have vi2 := cell_of (heap_keep BU.out HVP.out) (i := 2) rfl
      have c170 := cell_of H17.out (i := 0) rfl
      have c171 := cell_of H17.out (i := 1) rfl
      have f170 := frozen_of H17.out (i := 0)
      have f171 := frozen_of H17.out (i := 1)
      have c180 := cell_of H18.out (i := 0) rfl
      have c181 := cell_of H18.out (i := 1) rfl
      have f180 := frozen_of H18.out (i := 0)
      have f181 := frozen_of H18.out (i := 1)
      have nv1 : gv ≠ u5.heap.size := by omega
      have nv2 : gv ≠ u5.heap.size + 1 := by omega
      go_wp2_with (fail)
      obtain ⟨h17, h18⟩ := put_both (by omega) H17.out H18.out (rfl : ((((u7.setCell ⟨u5.heap.size, 0, none⟩ (.int .i64 ax)).setCell ⟨u5.heap.size, 1, none⟩ (.int .i64 ay)).setCell ⟨u5.heap.size + 1, 0, none⟩ (.int .i64 ex)).setCell ⟨u5.heap.size + 1, 1, none⟩ (.int .i64 ey)) = _)
      replace BU : Hid (Below u5.heap.size u5 ((((u7.setCell ⟨u5.heap.size, 0, none⟩ (.int .i64 ax)).setCell ⟨u5.heap.size, 1, none⟩ (.int .i64 ay)).setCell ⟨u5.heap.size + 1, 0, none⟩ (.int .i64 ex)).setCell ⟨u5.heap.size + 1, 1, none⟩ (.int .i64 ey))) := Lib.hid ((((BU.out.setCell (Nat.le_refl _) _).setCell (Nat.le_refl _) _).setCell (Nat.le_succ _) _).setCell (Nat.le_succ _) _)
      replace H17 := Lib.hid h17
      replace H18 := Lib.hid h18
      clear h17 h18 c170 c171 c180 c181 f170 f171 f180 f181 nv1 nv2
      clear st0 st1 vi0 vi1 vi2
      generalize ((((u7.setCell ⟨u5.heap.size, 0, none⟩ (.int .i64 ax)).setCell ⟨u5.heap.size, 1, none⟩ (.int .i64 ay)).setCell ⟨u5.heap.size + 1, 0, none⟩ (.int .i64 ex)).setCell ⟨u5.heap.size + 1, 1, none⟩ (.int .i64 ey)) = u8 at *
      refine (printedBy_any a m c P q s bk u8 hm100 (HPR.out.kept BU.out) HN.out HC.out hqm HFT.out).mono ?_
      rintro e u9 ⟨pb, pbc, rfl, hpb, hb⟩
      replace BU := Lib.hid (BU.out.trans (hb.mono BU.out.size))
      replace H17 := Lib.hid (heap_keep hb H17.out)
      replace H18 := Lib.hid (heap_keep hb H18.out)
      have HPB := Lib.hid (own_pts hpb)
      clear hb hpb
      have st0 := cell_of (heap_keep BU.out HSP.out) (i := 0) rfl
      have st1 := cell_of (heap_keep BU.out HSP.out) (i := 1) rfl
      have vi0 := cell_of (heap_keep BU.out HVP.out) (i := 0) rfl
      have vi1 := cell_of (heap_keep BU.out HVP.out) (i := 1) rfl
      have vi2 := cell_of (heap_keep BU.out HVP.out) (i := 2) rfl
      go_wp2_with (fail)
      have hb : Below u9.heap.size u9 (u9.alloc (.cells #[.int .i64 sx, .int .i64 sy] 27)) := (by repeat (first | exact Below.refl _ _ | assumption | refine Below.drew ?_ | refine bdrewN ?_ _ | refine Below.setCell ?_ (by first | omega | (simp <;> omega)) _ | refine Below.alloc ?_ (by first | omega | (simp <;> omega)) _))
      have o0 : (u9.alloc (.cells #[.int .i64 sx, .int .i64 sy] 27)).cell? ⟨u9.heap.size, 0, none⟩ = some (.int .i64 sx) := by simp [go_sem]
      have o1 : (u9.alloc (.cells #[.int .i64 sx, .int .i64 sy] 27)).cell? ⟨u9.heap.size, 1, none⟩ = some (.int .i64 sy) := by simp [go_sem]
      clear st0 st1 vi0 vi1 vi2
      replace BU := Lib.hid (BU.out.trans (hb.mono BU.out.size))
      replace H17 := Lib.hid (heap_keep hb H17.out)
      replace H18 := Lib.hid (heap_keep hb H18.out)
      replace HPB := Lib.hid (HPB.out.kept hb)
      clear hb
      generalize (u9.alloc (.cells #[.int .i64 sx, .int .i64 sy] 27)) = uA at *
      refine (pointFault_any (some ⟨u9.heap.size, 0, none⟩) 1 1 (fun _ => sx) (fun _ => sy) uA (by omega) (one_pt o0 o1)).mono ?_
      rintro e uB ⟨rfl, hb⟩
      clear o0 o1
      replace BU := Lib.hid (BU.out.trans (hb.mono BU.out.size))
      replace H17 := Lib.hid (heap_keep hb H17.out)
      replace H18 := Lib.hid (heap_keep hb H18.out)
      replace HPB := Lib.hid (HPB.out.kept hb)
      clear hb
      have st0 := cell_of (heap_keep BU.out HSP.out) (i := 0) rfl
      have st1 := cell_of (heap_keep BU.out HSP.out) (i := 1) rfl
      have vi0 := cell_of (heap_keep BU.out HVP.out) (i := 0) rfl
      have vi1 := cell_of (heap_keep BU.out HVP.out) (i := 1) rfl
      have vi2 := cell_of (heap_keep BU.out HVP.out) (i := 2) rfl
      go_wp2_with (fail)
      have hO := or_any uB.heap.size (ptE 1 (fun _ => sx) (fun _ => sy)) (oF m P l V) uB rfl
      rw [show orE (ptE 1 (fun _ => sx) (fun _ => sy)) (oF m P l V) = tourE sx sy m P l V from rfl] at hO
      refine hO.mono ?_
      clear hO
      rintro e uC ⟨rfl, rfl⟩
      have hb : Below uB.heap.size uB (uB.alloc (.cells #[.int .i64 (ptE 1 (fun _ => sx) (fun _ => sy)), .int .i64 (oF m P l V)] 37)) := (by repeat (first | exact Below.refl _ _ | assumption | refine Below.drew ?_ | refine bdrewN ?_ _ | refine Below.setCell ?_ (by first | omega | (simp <;> omega)) _ | refine Below.alloc ?_ (by first | omega | (simp <;> omega)) _))
      clear st0 st1 vi0 vi1 vi2
      replace BU := Lib.hid (BU.out.trans (hb.mono BU.out.size))
      replace H17 := Lib.hid (heap_keep hb H17.out)
      replace H18 := Lib.hid (heap_keep hb H18.out)
      replace HPB := Lib.hid (HPB.out.kept hb)
      clear hb
      generalize (uB.alloc (.cells #[.int .i64 (ptE 1 (fun _ => sx) (fun _ => sy)), .int .i64 (oF m P l V)] 37)) = uD at *
      have st0 := cell_of (heap_keep BU.out HSP.out) (i := 0) rfl
      have st1 := cell_of (heap_keep BU.out HSP.out) (i := 1) rfl
      have vi0 := cell_of (heap_keep BU.out HVP.out) (i := 0) rfl
      have vi1 := cell_of (heap_keep BU.out HVP.out) (i := 1) rfl
      have vi2 := cell_of (heap_keep BU.out HVP.out) (i := 2) rfl
      have htz : (tourE sx sy m P l V == (0 : Int)) = true := by simp [HZ2.out]
      obtain ⟨hx, hy, hlm, hf⟩ := tour_ok HZ2.out
      have hT := travelOf_any sx sy a m c P ao l co V uD hm100 (HPR.out.kept BU.out) HN.out HC.out hl100 (HOR.out.kept BU.out) hf hx hy
      rw [show trv sx sy P V l = trvAns sx sy m P l V by simp [trvAns, HZ2.out]] at hT
      clear hx hy hf hlm
      have HT := Lib.hid hT
      clear hT
      go_wp2_with (fail)
      refine HT.out.mono ?_
      clear HT
      rintro e uE ⟨rfl, hb⟩
      clear st0 st1 vi0 vi1 vi2
      replace BU := Lib.hid (BU.out.trans (hb.mono BU.out.size))
      replace H17 := Lib.hid (heap_keep hb H17.out)
      replace H18 := Lib.hid (heap_keep hb H18.out)
      replace HPB := Lib.hid (HPB.out.kept hb)
      clear hb
      have c100 := cell_of (heap_keep BU.out H10.out) (i := 0) rfl
      have c101 := cell_of (heap_keep BU.out H10.out) (i := 1) rfl
      have c110 := cell_of (heap_keep BU.out H11.out) (i := 0) rfl
      have c111 := cell_of (heap_keep BU.out H11.out) (i := 1) rfl
      have c170 := cell_of H17.out (i := 0) rfl
      have c171 := cell_of H17.out (i := 1) rfl
      have c180 := cell_of H18.out (i := 0) rfl
      have c181 := cell_of H18.out (i := 1) rfl
      have hE1 := fun wx => eql_pt_self ax ay wx
      have hE2 := fun wx => eql_pt_self ex ey wx
      have hG := gd_pt
      have h0o : ((0 : Int) == oneF m P ⟨(q : Int), s, bk⟩) = true := by simp [HZ.out]
      go_wp2_with (fail)
      refine (equalP_any pa pb _ pcap pbc _ _ uE (HPP.out.kept BU.out) HPB.out (by have := prN_le (HN.out q hqm); omega)).mono ?_
      rintro e uF ⟨rfl, hb⟩
      replace BU := Lib.hid (BU.out.trans (hb.mono BU.out.size))
      clear hb c100 c101 c110 c111 c170 c171 c180 c181 hE1 hE2 hG
      go_wp2_with (fail)
      refine (pathed_any uF).mono ?_
      rintro e uG ⟨rfl, hb⟩
      replace BU := Lib.hid (BU.out.trans (hb.mono BU.out.size))
      clear hb
      go_wp2_with (fail)
      go_ret
      exact ⟨rfl, (HM.out.below BU.out).toBelow w.heap.size (Nat.le_refl _) (fun k hk e => by have := HBW.out; omega)⟩
    · have HZ2 := Lib.hid hz2
      clear hz2
      have st0 := cell_of HSP.out (i := 0) rfl
      have st1 := cell_of HSP.out (i := 1) rfl
      have vi0 := cell_of HVP.out (i := 0) rfl
      have vi1 := cell_of HVP.out (i := 1) rfl
      have vi2 := cell_of HVP.out (i := 2) rfl
      go_wp2_with (fail)
      refine (checkOrder_any a m c P ao l co V _ hm100 HPR.out HN.out hl100 HOR.out HOV.out).mono ?_
      rintro e u1 ⟨rfl, hb⟩
      clear st0 st1 vi0 vi1 vi2
      replace HM := Lib.hid (HM.out.below hb)
      replace HPR := Lib.hid (HPR.out.kept hb)
      replace HOR := Lib.hid (HOR.out.kept hb)
      replace HSP := Lib.hid (heap_keep hb HSP.out)
      replace HVP := Lib.hid (heap_keep hb HVP.out)
      clear hb
      have st0 := cell_of HSP.out (i := 0) rfl
      have st1 := cell_of HSP.out (i := 1) rfl
      have vi0 := cell_of HVP.out (i := 0) rfl
      have vi1 := cell_of HVP.out (i := 1) rfl
      have vi2 := cell_of HVP.out (i := 2) rfl
      have hne : (oF m P l V != oF m P l V) = false := by simp
      go_wp2_with (fail)
      have hE := Ends_any a m c P ⟨(q : Int), s, bk⟩ u1 hm100 HPR.out HN.out hvs
      rw [endsV_shape] at hE
      unfold Vis.v at hE
      refine hE.mono ?_
      clear hE
      rintro e u2 ⟨rfl, hb⟩
      clear st0 st1 vi0 vi1 vi2 hne
      replace HM := Lib.hid (HM.out.below hb)
      replace HPR := Lib.hid (HPR.out.kept hb)
      replace HOR := Lib.hid (HOR.out.kept hb)
      replace HSP := Lib.hid (heap_keep hb HSP.out)
      replace HVP := Lib.hid (heap_keep hb HVP.out)
      clear hb
      have st0 := cell_of HSP.out (i := 0) rfl
      have st1 := cell_of HSP.out (i := 1) rfl
      have vi0 := cell_of HVP.out (i := 0) rfl
      have vi1 := cell_of HVP.out (i := 1) rfl
      have vi2 := cell_of HVP.out (i := 2) rfl
      obtain ⟨ax, hax⟩ : ∃ z, z = ifO (oneF m P ⟨(q : Int), s, bk⟩) (bX P ⟨(q : Int), s, bk⟩) := ⟨_, rfl⟩
      have Hax := Lib.hid hax
      obtain ⟨ay, hay⟩ : ∃ z, z = ifO (oneF m P ⟨(q : Int), s, bk⟩) (bY P ⟨(q : Int), s, bk⟩) := ⟨_, rfl⟩
      have Hay := Lib.hid hay
      obtain ⟨ex, hex⟩ : ∃ z, z = ifO (oneF m P ⟨(q : Int), s, bk⟩) (eX P ⟨(q : Int), s, bk⟩) := ⟨_, rfl⟩
      have Hex := Lib.hid hex
      obtain ⟨ey, hey⟩ : ∃ z, z = ifO (oneF m P ⟨(q : Int), s, bk⟩) (eY P ⟨(q : Int), s, bk⟩) := ⟨_, rfl⟩
      have Hey := Lib.hid hey
      rw [← hax, ← hay, ← hex, ← hey]
      clear hax hay hex hey
      have hlV := lt_of_heap HVP.out
      have hlV1 : gv < u2.heap.size + 1 := by omega
      have hlS := lt_of_heap HSP.out
      have hlS1 : gs < u2.heap.size + 1 := by omega
      go_wp2_with (fail)
      clear hlV hlV1 hlS hlS1
      have hb : Below u2.heap.size u2 ((u2.alloc (.cells #[.int .i64 ax, .int .i64 ay] 27)).alloc (.cells #[.int .i64 ex, .int .i64 ey] 27)) := (by repeat (first | exact Below.refl _ _ | assumption | refine Below.drew ?_ | refine bdrewN ?_ _ | refine Below.setCell ?_ (by first | omega | (simp <;> omega)) _ | refine Below.alloc ?_ (by first | omega | (simp <;> omega)) _))
      have H10 : Hid (((u2.alloc (.cells #[.int .i64 ax, .int .i64 ay] 27)).alloc (.cells #[.int .i64 ex, .int .i64 ey] 27)).heap[u2.heap.size]? = some (.cells #[.int .i64 ax, .int .i64 ay] 27 (0, 0))) := Lib.hid (by repeat (first | (refine heap_new ?_; first | rfl | (simp; done)) | rw [Below.heap_setCell _ _ _ _ (by simp <;> omega)] | rw [Below.heap_alloc _ _ _ (by simp <;> omega)]))
      have H11 : Hid (((u2.alloc (.cells #[.int .i64 ax, .int .i64 ay] 27)).alloc (.cells #[.int .i64 ex, .int .i64 ey] 27)).heap[u2.heap.size + 1]? = some (.cells #[.int .i64 ex, .int .i64 ey] 27 (0, 0))) := Lib.hid (by repeat (first | (refine heap_new ?_; first | rfl | (simp; done)) | rw [Below.heap_setCell _ _ _ _ (by simp <;> omega)] | rw [Below.heap_alloc _ _ _ (by simp <;> omega)]))
      clear st0 st1 vi0 vi1 vi2
      replace HM := Lib.hid (HM.out.below hb)
      replace HPR := Lib.hid (HPR.out.kept hb)
      replace HOR := Lib.hid (HOR.out.kept hb)
      replace HSP := Lib.hid (heap_keep hb HSP.out)
      replace HVP := Lib.hid (heap_keep hb HVP.out)
      clear hb
      generalize ((u2.alloc (.cells #[.int .i64 ax, .int .i64 ay] 27)).alloc (.cells #[.int .i64 ex, .int .i64 ey] 27)) = u3 at *
      refine (Points_any a m c P ⟨(q : Int), s, bk⟩ u3 hm100 HPR.out HN.out HC.out hvs).mono ?_
      rintro e u4 ⟨hp0, hp1, hb⟩
      obtain ⟨pa, pcap, rfl, hpo⟩ := hp0 HZ.out
      rw [Int.toNat_natCast] at hpo ⊢
      have HPP := Lib.hid (own_pts hpo)
      clear hpo hp0 hp1
      replace HM := Lib.hid (HM.out.below hb)
      replace HPR := Lib.hid (HPR.out.kept hb)
      replace HOR := Lib.hid (HOR.out.kept hb)
      replace HSP := Lib.hid (heap_keep hb HSP.out)
      replace HVP := Lib.hid (heap_keep hb HVP.out)
      replace H10 := Lib.hid (heap_keep hb H10.out)
      replace H11 := Lib.hid (heap_keep hb H11.out)
      clear hb
      have st0 := cell_of HSP.out (i := 0) rfl
      have st1 := cell_of HSP.out (i := 1) rfl
      have vi0 := cell_of HVP.out (i := 0) rfl
      have vi1 := cell_of HVP.out (i := 1) rfl
      have vi2 := cell_of HVP.out (i := 2) rfl
      go_wp2_with (fail)
      have hT := travel_any sx sy a m c P ao l co V u4 hm100 HPR.out HN.out hl100 HOR.out HOV.out
      rw [show trvAns sx sy m P l V = 0 by simp [trvAns, HZ2.out]] at hT
      refine hT.mono ?_
      clear hT
      rintro e u5 ⟨rfl, hb⟩
      clear st0 st1 vi0 vi1 vi2
      replace HM := Lib.hid (HM.out.below hb)
      replace HPR := Lib.hid (HPR.out.kept hb)
      replace HOR := Lib.hid (HOR.out.kept hb)
      replace HSP := Lib.hid (heap_keep hb HSP.out)
      replace HVP := Lib.hid (heap_keep hb HVP.out)
      replace H10 := Lib.hid (heap_keep hb H10.out)
      replace H11 := Lib.hid (heap_keep hb H11.out)
      replace HPP := Lib.hid (HPP.out.kept hb)
      clear hb
      have BU : Hid (Below u5.heap.size u5 ((u5.alloc (.cells #[.int .i64 0, .int .i64 0] 27)).alloc (.cells #[.int .i64 0, .int .i64 0] 27))) := Lib.hid (by repeat (first | exact Below.refl _ _ | assumption | refine Below.drew ?_ | refine bdrewN ?_ _ | refine Below.setCell ?_ (by first | omega | (simp <;> omega)) _ | refine Below.alloc ?_ (by first | omega | (simp <;> omega)) _))
      have H17 : Hid (((u5.alloc (.cells #[.int .i64 0, .int .i64 0] 27)).alloc (.cells #[.int .i64 0, .int .i64 0] 27)).heap[u5.heap.size]? = some (.cells #[.int .i64 0, .int .i64 0] 27 (0, 0))) := Lib.hid (by repeat (first | (refine heap_new ?_; first | rfl | (simp; done)) | rw [Below.heap_setCell _ _ _ _ (by simp <;> omega)] | rw [Below.heap_alloc _ _ _ (by simp <;> omega)]))
      have H18 : Hid (((u5.alloc (.cells #[.int .i64 0, .int .i64 0] 27)).alloc (.cells #[.int .i64 0, .int .i64 0] 27)).heap[u5.heap.size + 1]? = some (.cells #[.int .i64 0, .int .i64 0] 27 (0, 0))) := Lib.hid (by repeat (first | (refine heap_new ?_; first | rfl | (simp; done)) | rw [Below.heap_setCell _ _ _ _ (by simp <;> omega)] | rw [Below.heap_alloc _ _ _ (by simp <;> omega)]))
      have hlV := lt_of_heap HVP.out
      have hlS := lt_of_heap HSP.out
      have hl10 := lt_of_heap H10.out
      have hl11 := lt_of_heap H11.out
      have hoz : (oneF m P ⟨(q : Int), s, bk⟩ == (0 : Int)) = true := by simp [HZ.out]
      go_upto_if 72 with (fail)
      generalize ((u5.alloc (.cells #[.int .i64 0, .int .i64 0] 27)).alloc (.cells #[.int .i64 0, .int .i64 0] 27)) = u6 at *
      have st0 := cell_of (heap_keep BU.out HSP.out) (i := 0) rfl
      have st1 := cell_of (heap_keep BU.out HSP.out) (i := 1) rfl
      have vi0 := cell_of (heap_keep BU.out HVP.out) (i := 0) rfl
      have vi1 := cell_of (heap_keep BU.out HVP.out) (i := 1) rfl
      have vi2 := cell_of (heap_keep BU.out HVP.out) (i := 2) rfl
      go_wp2_with (fail)
      have hE := endsOf_any a m c P q s bk u6 hm100 (HPR.out.kept BU.out) HN.out HC.out hqm HFT.out
      have eax : (P q).X (enB (P q) ⟨(q : Int), s, bk⟩) = ax := by rw [Hax.out]; simp [ifO, HZ.out, bX, pthOf]
      have eay : (P q).Y (enB (P q) ⟨(q : Int), s, bk⟩) = ay := by rw [Hay.out]; simp [ifO, HZ.out, bY, pthOf]
      have eex : (P q).X (enE (P q) ⟨(q : Int), s, bk⟩) = ex := by rw [Hex.out]; simp [ifO, HZ.out, eX, pthOf]
      have eey : (P q).Y (enE (P q) ⟨(q : Int), s, bk⟩) = ey := by rw [Hey.out]; simp [ifO, HZ.out, eY, pthOf]
      rw [eax, eay, eex, eey] at hE
      clear eax eay eex eey
      refine hE.mono ?_
      clear hE
      rintro e u7 ⟨rfl, hb⟩
      unfold two
      clear st0 st1 vi0 vi1 vi2
      replace BU := Lib.hid (BU.out.trans (hb.mono BU.out.size))
      replace H17 := Lib.hid (heap_keep hb H17.out)
      replace H18 := Lib.hid (heap_keep hb H18.out)
      clear hb
      have st0 := cell_of (heap_keep BU.out HSP.out) (i := 0) rfl
      have st1 := cell_of (heap_keep BU.out HSP.out) (i := 1) rfl
      have vi0 := cell_of (heap_keep BU.out HVP.out) (i := 0) rfl
      have vi1 := cell_of (heap_keep BU.out HVP.out) (i := 1) rfl
      have vi2 := cell_of (heap_keep BU.out HVP.out) (i := 2) rfl
      have c170 := cell_of H17.out (i := 0) rfl
      have c171 := cell_of H17.out (i := 1) rfl
      have f170 := frozen_of H17.out (i := 0)
      have f171 := frozen_of H17.out (i := 1)
      have c180 := cell_of H18.out (i := 0) rfl
      have c181 := cell_of H18.out (i := 1) rfl
      have f180 := frozen_of H18.out (i := 0)
      have f181 := frozen_of H18.out (i := 1)
      have nv1 : gv ≠ u5.heap.size := by omega
      have nv2 : gv ≠ u5.heap.size + 1 := by omega
      go_wp2_with (fail)
      obtain ⟨h17, h18⟩ := put_both (by omega) H17.out H18.out (rfl : ((((u7.setCell ⟨u5.heap.size, 0, none⟩ (.int .i64 ax)).setCell ⟨u5.heap.size, 1, none⟩ (.int .i64 ay)).setCell ⟨u5.heap.size + 1, 0, none⟩ (.int .i64 ex)).setCell ⟨u5.heap.size + 1, 1, none⟩ (.int .i64 ey)) = _)
      replace BU : Hid (Below u5.heap.size u5 ((((u7.setCell ⟨u5.heap.size, 0, none⟩ (.int .i64 ax)).setCell ⟨u5.heap.size, 1, none⟩ (.int .i64 ay)).setCell ⟨u5.heap.size + 1, 0, none⟩ (.int .i64 ex)).setCell ⟨u5.heap.size + 1, 1, none⟩ (.int .i64 ey))) := Lib.hid ((((BU.out.setCell (Nat.le_refl _) _).setCell (Nat.le_refl _) _).setCell (Nat.le_succ _) _).setCell (Nat.le_succ _) _)
      replace H17 := Lib.hid h17
      replace H18 := Lib.hid h18
      clear h17 h18 c170 c171 c180 c181 f170 f171 f180 f181 nv1 nv2
      clear st0 st1 vi0 vi1 vi2
      generalize ((((u7.setCell ⟨u5.heap.size, 0, none⟩ (.int .i64 ax)).setCell ⟨u5.heap.size, 1, none⟩ (.int .i64 ay)).setCell ⟨u5.heap.size + 1, 0, none⟩ (.int .i64 ex)).setCell ⟨u5.heap.size + 1, 1, none⟩ (.int .i64 ey)) = u8 at *
      refine (printedBy_any a m c P q s bk u8 hm100 (HPR.out.kept BU.out) HN.out HC.out hqm HFT.out).mono ?_
      rintro e u9 ⟨pb, pbc, rfl, hpb, hb⟩
      replace BU := Lib.hid (BU.out.trans (hb.mono BU.out.size))
      replace H17 := Lib.hid (heap_keep hb H17.out)
      replace H18 := Lib.hid (heap_keep hb H18.out)
      have HPB := Lib.hid (own_pts hpb)
      clear hb hpb
      have st0 := cell_of (heap_keep BU.out HSP.out) (i := 0) rfl
      have st1 := cell_of (heap_keep BU.out HSP.out) (i := 1) rfl
      have vi0 := cell_of (heap_keep BU.out HVP.out) (i := 0) rfl
      have vi1 := cell_of (heap_keep BU.out HVP.out) (i := 1) rfl
      have vi2 := cell_of (heap_keep BU.out HVP.out) (i := 2) rfl
      go_wp2_with (fail)
      have hb : Below u9.heap.size u9 (u9.alloc (.cells #[.int .i64 sx, .int .i64 sy] 27)) := (by repeat (first | exact Below.refl _ _ | assumption | refine Below.drew ?_ | refine bdrewN ?_ _ | refine Below.setCell ?_ (by first | omega | (simp <;> omega)) _ | refine Below.alloc ?_ (by first | omega | (simp <;> omega)) _))
      have o0 : (u9.alloc (.cells #[.int .i64 sx, .int .i64 sy] 27)).cell? ⟨u9.heap.size, 0, none⟩ = some (.int .i64 sx) := by simp [go_sem]
      have o1 : (u9.alloc (.cells #[.int .i64 sx, .int .i64 sy] 27)).cell? ⟨u9.heap.size, 1, none⟩ = some (.int .i64 sy) := by simp [go_sem]
      clear st0 st1 vi0 vi1 vi2
      replace BU := Lib.hid (BU.out.trans (hb.mono BU.out.size))
      replace H17 := Lib.hid (heap_keep hb H17.out)
      replace H18 := Lib.hid (heap_keep hb H18.out)
      replace HPB := Lib.hid (HPB.out.kept hb)
      clear hb
      generalize (u9.alloc (.cells #[.int .i64 sx, .int .i64 sy] 27)) = uA at *
      refine (pointFault_any (some ⟨u9.heap.size, 0, none⟩) 1 1 (fun _ => sx) (fun _ => sy) uA (by omega) (one_pt o0 o1)).mono ?_
      rintro e uB ⟨rfl, hb⟩
      clear o0 o1
      replace BU := Lib.hid (BU.out.trans (hb.mono BU.out.size))
      replace H17 := Lib.hid (heap_keep hb H17.out)
      replace H18 := Lib.hid (heap_keep hb H18.out)
      replace HPB := Lib.hid (HPB.out.kept hb)
      clear hb
      have st0 := cell_of (heap_keep BU.out HSP.out) (i := 0) rfl
      have st1 := cell_of (heap_keep BU.out HSP.out) (i := 1) rfl
      have vi0 := cell_of (heap_keep BU.out HVP.out) (i := 0) rfl
      have vi1 := cell_of (heap_keep BU.out HVP.out) (i := 1) rfl
      have vi2 := cell_of (heap_keep BU.out HVP.out) (i := 2) rfl
      go_wp2_with (fail)
      have hO := or_any uB.heap.size (ptE 1 (fun _ => sx) (fun _ => sy)) (oF m P l V) uB rfl
      rw [show orE (ptE 1 (fun _ => sx) (fun _ => sy)) (oF m P l V) = tourE sx sy m P l V from rfl] at hO
      refine hO.mono ?_
      clear hO
      rintro e uC ⟨rfl, rfl⟩
      have hb : Below uB.heap.size uB (uB.alloc (.cells #[.int .i64 (ptE 1 (fun _ => sx) (fun _ => sy)), .int .i64 (oF m P l V)] 37)) := (by repeat (first | exact Below.refl _ _ | assumption | refine Below.drew ?_ | refine bdrewN ?_ _ | refine Below.setCell ?_ (by first | omega | (simp <;> omega)) _ | refine Below.alloc ?_ (by first | omega | (simp <;> omega)) _))
      clear st0 st1 vi0 vi1 vi2
      replace BU := Lib.hid (BU.out.trans (hb.mono BU.out.size))
      replace H17 := Lib.hid (heap_keep hb H17.out)
      replace H18 := Lib.hid (heap_keep hb H18.out)
      replace HPB := Lib.hid (HPB.out.kept hb)
      clear hb
      generalize (uB.alloc (.cells #[.int .i64 (ptE 1 (fun _ => sx) (fun _ => sy)), .int .i64 (oF m P l V)] 37)) = uD at *
      have st0 := cell_of (heap_keep BU.out HSP.out) (i := 0) rfl
      have st1 := cell_of (heap_keep BU.out HSP.out) (i := 1) rfl
      have vi0 := cell_of (heap_keep BU.out HVP.out) (i := 0) rfl
      have vi1 := cell_of (heap_keep BU.out HVP.out) (i := 1) rfl
      have vi2 := cell_of (heap_keep BU.out HVP.out) (i := 2) rfl
      have htz : (tourE sx sy m P l V == (0 : Int)) = false := by simp [HZ2.out]
      clear st0 st1 vi0 vi1 vi2
      have c100 := cell_of (heap_keep BU.out H10.out) (i := 0) rfl
      have c101 := cell_of (heap_keep BU.out H10.out) (i := 1) rfl
      have c110 := cell_of (heap_keep BU.out H11.out) (i := 0) rfl
      have c111 := cell_of (heap_keep BU.out H11.out) (i := 1) rfl
      have c170 := cell_of H17.out (i := 0) rfl
      have c171 := cell_of H17.out (i := 1) rfl
      have c180 := cell_of H18.out (i := 0) rfl
      have c181 := cell_of H18.out (i := 1) rfl
      have hE1 := fun wx => eql_pt_self ax ay wx
      have hE2 := fun wx => eql_pt_self ex ey wx
      have hG := gd_pt
      have h0o : ((0 : Int) == oneF m P ⟨(q : Int), s, bk⟩) = true := by simp [HZ.out]
      go_wp2_with (fail)
      refine (equalP_any pa pb _ pcap pbc _ _ uD (HPP.out.kept BU.out) HPB.out (by have := prN_le (HN.out q hqm); omega)).mono ?_
      rintro e uF ⟨rfl, hb⟩
      replace BU := Lib.hid (BU.out.trans (hb.mono BU.out.size))
      clear hb c100 c101 c110 c111 c170 c171 c180 c181 hE1 hE2 hG
      go_wp2_with (fail)
      refine (pathed_any uF).mono ?_
      rintro e uG ⟨rfl, hb⟩
      replace BU := Lib.hid (BU.out.trans (hb.mono BU.out.size))
      clear hb
      go_wp2_with (fail)
      go_ret
      exact ⟨rfl, (HM.out.below BU.out).toBelow w.heap.size (Nat.le_refl _) (fun k hk e => by have := HBW.out; omega)⟩
  · have HZ := Lib.hid hz
    clear hz
    by_cases hz2 : tourE sx sy m P l V = 0
    · have HZ2 := Lib.hid hz2
      clear hz2
      have st0 := cell_of HSP.out (i := 0) rfl
      have st1 := cell_of HSP.out (i := 1) rfl
      have vi0 := cell_of HVP.out (i := 0) rfl
      have vi1 := cell_of HVP.out (i := 1) rfl
      have vi2 := cell_of HVP.out (i := 2) rfl
      go_wp2_with (fail)
      refine (checkOrder_any a m c P ao l co V _ hm100 HPR.out HN.out hl100 HOR.out HOV.out).mono ?_
      rintro e u1 ⟨rfl, hb⟩
      clear st0 st1 vi0 vi1 vi2
      replace HM := Lib.hid (HM.out.below hb)
      replace HPR := Lib.hid (HPR.out.kept hb)
      replace HOR := Lib.hid (HOR.out.kept hb)
      replace HSP := Lib.hid (heap_keep hb HSP.out)
      replace HVP := Lib.hid (heap_keep hb HVP.out)
      clear hb
      have st0 := cell_of HSP.out (i := 0) rfl
      have st1 := cell_of HSP.out (i := 1) rfl
      have vi0 := cell_of HVP.out (i := 0) rfl
      have vi1 := cell_of HVP.out (i := 1) rfl
      have vi2 := cell_of HVP.out (i := 2) rfl
      have hne : (oF m P l V != oF m P l V) = false := by simp
      go_wp2_with (fail)
      have hE := Ends_any a m c P ⟨p, s, bk⟩ u1 hm100 HPR.out HN.out hvs
      rw [endsV_shape] at hE
      unfold Vis.v at hE
      refine hE.mono ?_
      clear hE
      rintro e u2 ⟨rfl, hb⟩
      clear st0 st1 vi0 vi1 vi2 hne
      replace HM := Lib.hid (HM.out.below hb)
      replace HPR := Lib.hid (HPR.out.kept hb)
      replace HOR := Lib.hid (HOR.out.kept hb)
      replace HSP := Lib.hid (heap_keep hb HSP.out)
      replace HVP := Lib.hid (heap_keep hb HVP.out)
      clear hb
      have st0 := cell_of HSP.out (i := 0) rfl
      have st1 := cell_of HSP.out (i := 1) rfl
      have vi0 := cell_of HVP.out (i := 0) rfl
      have vi1 := cell_of HVP.out (i := 1) rfl
      have vi2 := cell_of HVP.out (i := 2) rfl
      obtain ⟨ax, hax⟩ : ∃ z, z = ifO (oneF m P ⟨p, s, bk⟩) (bX P ⟨p, s, bk⟩) := ⟨_, rfl⟩
      have Hax := Lib.hid hax
      obtain ⟨ay, hay⟩ : ∃ z, z = ifO (oneF m P ⟨p, s, bk⟩) (bY P ⟨p, s, bk⟩) := ⟨_, rfl⟩
      have Hay := Lib.hid hay
      obtain ⟨ex, hex⟩ : ∃ z, z = ifO (oneF m P ⟨p, s, bk⟩) (eX P ⟨p, s, bk⟩) := ⟨_, rfl⟩
      have Hex := Lib.hid hex
      obtain ⟨ey, hey⟩ : ∃ z, z = ifO (oneF m P ⟨p, s, bk⟩) (eY P ⟨p, s, bk⟩) := ⟨_, rfl⟩
      have Hey := Lib.hid hey
      rw [← hax, ← hay, ← hex, ← hey]
      obtain rfl : ax = 0 := by rw [hax]; simp [ifO, HZ.out]
      obtain rfl : ay = 0 := by rw [hay]; simp [ifO, HZ.out]
      obtain rfl : ex = 0 := by rw [hex]; simp [ifO, HZ.out]
      obtain rfl : ey = 0 := by rw [hey]; simp [ifO, HZ.out]
      clear hax hay hex hey
      have hlV := lt_of_heap HVP.out
      have hlV1 : gv < u2.heap.size + 1 := by omega
      have hlS := lt_of_heap HSP.out
      have hlS1 : gs < u2.heap.size + 1 := by omega
      go_wp2_with (fail)
      clear hlV hlV1 hlS hlS1
      have hb : Below u2.heap.size u2 ((u2.alloc (.cells #[.int .i64 0, .int .i64 0] 27)).alloc (.cells #[.int .i64 0, .int .i64 0] 27)) := (by repeat (first | exact Below.refl _ _ | assumption | refine Below.drew ?_ | refine bdrewN ?_ _ | refine Below.setCell ?_ (by first | omega | (simp <;> omega)) _ | refine Below.alloc ?_ (by first | omega | (simp <;> omega)) _))
      have H10 : Hid (((u2.alloc (.cells #[.int .i64 0, .int .i64 0] 27)).alloc (.cells #[.int .i64 0, .int .i64 0] 27)).heap[u2.heap.size]? = some (.cells #[.int .i64 0, .int .i64 0] 27 (0, 0))) := Lib.hid (by repeat (first | (refine heap_new ?_; first | rfl | (simp; done)) | rw [Below.heap_setCell _ _ _ _ (by simp <;> omega)] | rw [Below.heap_alloc _ _ _ (by simp <;> omega)]))
      have H11 : Hid (((u2.alloc (.cells #[.int .i64 0, .int .i64 0] 27)).alloc (.cells #[.int .i64 0, .int .i64 0] 27)).heap[u2.heap.size + 1]? = some (.cells #[.int .i64 0, .int .i64 0] 27 (0, 0))) := Lib.hid (by repeat (first | (refine heap_new ?_; first | rfl | (simp; done)) | rw [Below.heap_setCell _ _ _ _ (by simp <;> omega)] | rw [Below.heap_alloc _ _ _ (by simp <;> omega)]))
      clear st0 st1 vi0 vi1 vi2
      replace HM := Lib.hid (HM.out.below hb)
      replace HPR := Lib.hid (HPR.out.kept hb)
      replace HOR := Lib.hid (HOR.out.kept hb)
      replace HSP := Lib.hid (heap_keep hb HSP.out)
      replace HVP := Lib.hid (heap_keep hb HVP.out)
      clear hb
      generalize ((u2.alloc (.cells #[.int .i64 0, .int .i64 0] 27)).alloc (.cells #[.int .i64 0, .int .i64 0] 27)) = u3 at *
      refine (Points_any a m c P ⟨p, s, bk⟩ u3 hm100 HPR.out HN.out HC.out hvs).mono ?_
      rintro e u4 ⟨hp0, hp1, hb⟩
      obtain rfl := hp1 HZ.out
      clear hp0 hp1
      replace HM := Lib.hid (HM.out.below hb)
      replace HPR := Lib.hid (HPR.out.kept hb)
      replace HOR := Lib.hid (HOR.out.kept hb)
      replace HSP := Lib.hid (heap_keep hb HSP.out)
      replace HVP := Lib.hid (heap_keep hb HVP.out)
      replace H10 := Lib.hid (heap_keep hb H10.out)
      replace H11 := Lib.hid (heap_keep hb H11.out)
      clear hb
      have st0 := cell_of HSP.out (i := 0) rfl
      have st1 := cell_of HSP.out (i := 1) rfl
      have vi0 := cell_of HVP.out (i := 0) rfl
      have vi1 := cell_of HVP.out (i := 1) rfl
      have vi2 := cell_of HVP.out (i := 2) rfl
      go_wp2_with (fail)
      have hT := travel_any sx sy a m c P ao l co V u4 hm100 HPR.out HN.out hl100 HOR.out HOV.out
      refine hT.mono ?_
      clear hT
      rintro e u5 ⟨rfl, hb⟩
      clear st0 st1 vi0 vi1 vi2
      replace HM := Lib.hid (HM.out.below hb)
      replace HPR := Lib.hid (HPR.out.kept hb)
      replace HOR := Lib.hid (HOR.out.kept hb)
      replace HSP := Lib.hid (heap_keep hb HSP.out)
      replace HVP := Lib.hid (heap_keep hb HVP.out)
      replace H10 := Lib.hid (heap_keep hb H10.out)
      replace H11 := Lib.hid (heap_keep hb H11.out)
      clear hb
      have BU : Hid (Below u5.heap.size u5 ((u5.alloc (.cells #[.int .i64 0, .int .i64 0] 27)).alloc (.cells #[.int .i64 0, .int .i64 0] 27))) := Lib.hid (by repeat (first | exact Below.refl _ _ | assumption | refine Below.drew ?_ | refine bdrewN ?_ _ | refine Below.setCell ?_ (by first | omega | (simp <;> omega)) _ | refine Below.alloc ?_ (by first | omega | (simp <;> omega)) _))
      have H17 : Hid (((u5.alloc (.cells #[.int .i64 0, .int .i64 0] 27)).alloc (.cells #[.int .i64 0, .int .i64 0] 27)).heap[u5.heap.size]? = some (.cells #[.int .i64 0, .int .i64 0] 27 (0, 0))) := Lib.hid (by repeat (first | (refine heap_new ?_; first | rfl | (simp; done)) | rw [Below.heap_setCell _ _ _ _ (by simp <;> omega)] | rw [Below.heap_alloc _ _ _ (by simp <;> omega)]))
      have H18 : Hid (((u5.alloc (.cells #[.int .i64 0, .int .i64 0] 27)).alloc (.cells #[.int .i64 0, .int .i64 0] 27)).heap[u5.heap.size + 1]? = some (.cells #[.int .i64 0, .int .i64 0] 27 (0, 0))) := Lib.hid (by repeat (first | (refine heap_new ?_; first | rfl | (simp; done)) | rw [Below.heap_setCell _ _ _ _ (by simp <;> omega)] | rw [Below.heap_alloc _ _ _ (by simp <;> omega)]))
      have hlV := lt_of_heap HVP.out
      have hlS := lt_of_heap HSP.out
      have hl10 := lt_of_heap H10.out
      have hl11 := lt_of_heap H11.out
      have hoz : (oneF m P ⟨p, s, bk⟩ == (0 : Int)) = false := by simp [HZ.out]
      go_upto_if 72 with (fail)
      generalize ((u5.alloc (.cells #[.int .i64 0, .int .i64 0] 27)).alloc (.cells #[.int .i64 0, .int .i64 0] 27)) = u6 at *
      have st0 := cell_of (heap_keep BU.out HSP.out) (i := 0) rfl
      have st1 := cell_of (heap_keep BU.out HSP.out) (i := 1) rfl
      have vi0 := cell_of (heap_keep BU.out HVP.out) (i := 0) rfl
      have vi1 := cell_of (heap_keep BU.out HVP.out) (i := 1) rfl
      have vi2 := cell_of (heap_keep BU.out HVP.out) (i := 2) rfl
      go_wp2_with (fail)
      have hb : Below u6.heap.size u6 (u6.alloc (.cells #[.int .i64 sx, .int .i64 sy] 27)) := (by repeat (first | exact Below.refl _ _ | assumption | refine Below.drew ?_ | refine bdrewN ?_ _ | refine Below.setCell ?_ (by first | omega | (simp <;> omega)) _ | refine Below.alloc ?_ (by first | omega | (simp <;> omega)) _))
      have o0 : (u6.alloc (.cells #[.int .i64 sx, .int .i64 sy] 27)).cell? ⟨u6.heap.size, 0, none⟩ = some (.int .i64 sx) := by simp [go_sem]
      have o1 : (u6.alloc (.cells #[.int .i64 sx, .int .i64 sy] 27)).cell? ⟨u6.heap.size, 1, none⟩ = some (.int .i64 sy) := by simp [go_sem]
      clear st0 st1 vi0 vi1 vi2
      replace BU := Lib.hid (BU.out.trans (hb.mono BU.out.size))
      replace H17 := Lib.hid (heap_keep hb H17.out)
      replace H18 := Lib.hid (heap_keep hb H18.out)
      clear hb
      generalize (u6.alloc (.cells #[.int .i64 sx, .int .i64 sy] 27)) = uA at *
      refine (pointFault_any (some ⟨u6.heap.size, 0, none⟩) 1 1 (fun _ => sx) (fun _ => sy) uA (by omega) (one_pt o0 o1)).mono ?_
      rintro e uB ⟨rfl, hb⟩
      clear o0 o1
      replace BU := Lib.hid (BU.out.trans (hb.mono BU.out.size))
      replace H17 := Lib.hid (heap_keep hb H17.out)
      replace H18 := Lib.hid (heap_keep hb H18.out)
      clear hb
      have st0 := cell_of (heap_keep BU.out HSP.out) (i := 0) rfl
      have st1 := cell_of (heap_keep BU.out HSP.out) (i := 1) rfl
      have vi0 := cell_of (heap_keep BU.out HVP.out) (i := 0) rfl
      have vi1 := cell_of (heap_keep BU.out HVP.out) (i := 1) rfl
      have vi2 := cell_of (heap_keep BU.out HVP.out) (i := 2) rfl
      go_wp2_with (fail)
      have hO := or_any uB.heap.size (ptE 1 (fun _ => sx) (fun _ => sy)) (oF m P l V) uB rfl
      rw [show orE (ptE 1 (fun _ => sx) (fun _ => sy)) (oF m P l V) = tourE sx sy m P l V from rfl] at hO
      refine hO.mono ?_
      clear hO
      rintro e uC ⟨rfl, rfl⟩
      have hb : Below uB.heap.size uB (uB.alloc (.cells #[.int .i64 (ptE 1 (fun _ => sx) (fun _ => sy)), .int .i64 (oF m P l V)] 37)) := (by repeat (first | exact Below.refl _ _ | assumption | refine Below.drew ?_ | refine bdrewN ?_ _ | refine Below.setCell ?_ (by first | omega | (simp <;> omega)) _ | refine Below.alloc ?_ (by first | omega | (simp <;> omega)) _))
      clear st0 st1 vi0 vi1 vi2
      replace BU := Lib.hid (BU.out.trans (hb.mono BU.out.size))
      replace H17 := Lib.hid (heap_keep hb H17.out)
      replace H18 := Lib.hid (heap_keep hb H18.out)
      clear hb
      generalize (uB.alloc (.cells #[.int .i64 (ptE 1 (fun _ => sx) (fun _ => sy)), .int .i64 (oF m P l V)] 37)) = uD at *
      have st0 := cell_of (heap_keep BU.out HSP.out) (i := 0) rfl
      have st1 := cell_of (heap_keep BU.out HSP.out) (i := 1) rfl
      have vi0 := cell_of (heap_keep BU.out HVP.out) (i := 0) rfl
      have vi1 := cell_of (heap_keep BU.out HVP.out) (i := 1) rfl
      have vi2 := cell_of (heap_keep BU.out HVP.out) (i := 2) rfl
      have htz : (tourE sx sy m P l V == (0 : Int)) = true := by simp [HZ2.out]
      obtain ⟨hx, hy, hlm, hf⟩ := tour_ok HZ2.out
      have hT := travelOf_any sx sy a m c P ao l co V uD hm100 (HPR.out.kept BU.out) HN.out HC.out hl100 (HOR.out.kept BU.out) hf hx hy
      rw [show trv sx sy P V l = trvAns sx sy m P l V by simp [trvAns, HZ2.out]] at hT
      clear hx hy hf hlm
      have HT := Lib.hid hT
      clear hT
      go_wp2_with (fail)
      refine HT.out.mono ?_
      clear HT
      rintro e uE ⟨rfl, hb⟩
      clear st0 st1 vi0 vi1 vi2
      replace BU := Lib.hid (BU.out.trans (hb.mono BU.out.size))
      replace H17 := Lib.hid (heap_keep hb H17.out)
      replace H18 := Lib.hid (heap_keep hb H18.out)
      clear hb
      have c100 := cell_of (heap_keep BU.out H10.out) (i := 0) rfl
      have c101 := cell_of (heap_keep BU.out H10.out) (i := 1) rfl
      have c110 := cell_of (heap_keep BU.out H11.out) (i := 0) rfl
      have c111 := cell_of (heap_keep BU.out H11.out) (i := 1) rfl
      have c170 := cell_of H17.out (i := 0) rfl
      have c171 := cell_of H17.out (i := 1) rfl
      have c180 := cell_of H18.out (i := 0) rfl
      have c181 := cell_of H18.out (i := 1) rfl
      have hE1 := fun wx => eql_pt_self 0 0 wx
      have hE2 := fun wx => eql_pt_self 0 0 wx
      have hG := gd_pt
      go_wp2_with (fail)
      refine (equalP_any none none 0 0 0 (fun _ => 0) (fun _ => 0) uE (.inl rfl) (.inl rfl) (by omega)).mono ?_
      rintro e uF ⟨rfl, hb⟩
      replace BU := Lib.hid (BU.out.trans (hb.mono BU.out.size))
      clear hb c100 c101 c110 c111 c170 c171 c180 c181 hE1 hE2 hG
      go_wp2_with (fail)
      refine (pathed_any uF).mono ?_
      rintro e uG ⟨rfl, hb⟩
      replace BU := Lib.hid (BU.out.trans (hb.mono BU.out.size))
      clear hb
      go_wp2_with (fail)
      go_ret
      exact ⟨rfl, (HM.out.below BU.out).toBelow w.heap.size (Nat.le_refl _) (fun k hk e => by have := HBW.out; omega)⟩
    · have HZ2 := Lib.hid hz2
      clear hz2
      have st0 := cell_of HSP.out (i := 0) rfl
      have st1 := cell_of HSP.out (i := 1) rfl
      have vi0 := cell_of HVP.out (i := 0) rfl
      have vi1 := cell_of HVP.out (i := 1) rfl
      have vi2 := cell_of HVP.out (i := 2) rfl
      go_wp2_with (fail)
      refine (checkOrder_any a m c P ao l co V _ hm100 HPR.out HN.out hl100 HOR.out HOV.out).mono ?_
      rintro e u1 ⟨rfl, hb⟩
      clear st0 st1 vi0 vi1 vi2
      replace HM := Lib.hid (HM.out.below hb)
      replace HPR := Lib.hid (HPR.out.kept hb)
      replace HOR := Lib.hid (HOR.out.kept hb)
      replace HSP := Lib.hid (heap_keep hb HSP.out)
      replace HVP := Lib.hid (heap_keep hb HVP.out)
      clear hb
      have st0 := cell_of HSP.out (i := 0) rfl
      have st1 := cell_of HSP.out (i := 1) rfl
      have vi0 := cell_of HVP.out (i := 0) rfl
      have vi1 := cell_of HVP.out (i := 1) rfl
      have vi2 := cell_of HVP.out (i := 2) rfl
      have hne : (oF m P l V != oF m P l V) = false := by simp
      go_wp2_with (fail)
      have hE := Ends_any a m c P ⟨p, s, bk⟩ u1 hm100 HPR.out HN.out hvs
      rw [endsV_shape] at hE
      unfold Vis.v at hE
      refine hE.mono ?_
      clear hE
      rintro e u2 ⟨rfl, hb⟩
      clear st0 st1 vi0 vi1 vi2 hne
      replace HM := Lib.hid (HM.out.below hb)
      replace HPR := Lib.hid (HPR.out.kept hb)
      replace HOR := Lib.hid (HOR.out.kept hb)
      replace HSP := Lib.hid (heap_keep hb HSP.out)
      replace HVP := Lib.hid (heap_keep hb HVP.out)
      clear hb
      have st0 := cell_of HSP.out (i := 0) rfl
      have st1 := cell_of HSP.out (i := 1) rfl
      have vi0 := cell_of HVP.out (i := 0) rfl
      have vi1 := cell_of HVP.out (i := 1) rfl
      have vi2 := cell_of HVP.out (i := 2) rfl
      obtain ⟨ax, hax⟩ : ∃ z, z = ifO (oneF m P ⟨p, s, bk⟩) (bX P ⟨p, s, bk⟩) := ⟨_, rfl⟩
      have Hax := Lib.hid hax
      obtain ⟨ay, hay⟩ : ∃ z, z = ifO (oneF m P ⟨p, s, bk⟩) (bY P ⟨p, s, bk⟩) := ⟨_, rfl⟩
      have Hay := Lib.hid hay
      obtain ⟨ex, hex⟩ : ∃ z, z = ifO (oneF m P ⟨p, s, bk⟩) (eX P ⟨p, s, bk⟩) := ⟨_, rfl⟩
      have Hex := Lib.hid hex
      obtain ⟨ey, hey⟩ : ∃ z, z = ifO (oneF m P ⟨p, s, bk⟩) (eY P ⟨p, s, bk⟩) := ⟨_, rfl⟩
      have Hey := Lib.hid hey
      rw [← hax, ← hay, ← hex, ← hey]
      obtain rfl : ax = 0 := by rw [hax]; simp [ifO, HZ.out]
      obtain rfl : ay = 0 := by rw [hay]; simp [ifO, HZ.out]
      obtain rfl : ex = 0 := by rw [hex]; simp [ifO, HZ.out]
      obtain rfl : ey = 0 := by rw [hey]; simp [ifO, HZ.out]
      clear hax hay hex hey
      have hlV := lt_of_heap HVP.out
      have hlV1 : gv < u2.heap.size + 1 := by omega
      have hlS := lt_of_heap HSP.out
      have hlS1 : gs < u2.heap.size + 1 := by omega
      go_wp2_with (fail)
      clear hlV hlV1 hlS hlS1
      have hb : Below u2.heap.size u2 ((u2.alloc (.cells #[.int .i64 0, .int .i64 0] 27)).alloc (.cells #[.int .i64 0, .int .i64 0] 27)) := (by repeat (first | exact Below.refl _ _ | assumption | refine Below.drew ?_ | refine bdrewN ?_ _ | refine Below.setCell ?_ (by first | omega | (simp <;> omega)) _ | refine Below.alloc ?_ (by first | omega | (simp <;> omega)) _))
      have H10 : Hid (((u2.alloc (.cells #[.int .i64 0, .int .i64 0] 27)).alloc (.cells #[.int .i64 0, .int .i64 0] 27)).heap[u2.heap.size]? = some (.cells #[.int .i64 0, .int .i64 0] 27 (0, 0))) := Lib.hid (by repeat (first | (refine heap_new ?_; first | rfl | (simp; done)) | rw [Below.heap_setCell _ _ _ _ (by simp <;> omega)] | rw [Below.heap_alloc _ _ _ (by simp <;> omega)]))
      have H11 : Hid (((u2.alloc (.cells #[.int .i64 0, .int .i64 0] 27)).alloc (.cells #[.int .i64 0, .int .i64 0] 27)).heap[u2.heap.size + 1]? = some (.cells #[.int .i64 0, .int .i64 0] 27 (0, 0))) := Lib.hid (by repeat (first | (refine heap_new ?_; first | rfl | (simp; done)) | rw [Below.heap_setCell _ _ _ _ (by simp <;> omega)] | rw [Below.heap_alloc _ _ _ (by simp <;> omega)]))
      clear st0 st1 vi0 vi1 vi2
      replace HM := Lib.hid (HM.out.below hb)
      replace HPR := Lib.hid (HPR.out.kept hb)
      replace HOR := Lib.hid (HOR.out.kept hb)
      replace HSP := Lib.hid (heap_keep hb HSP.out)
      replace HVP := Lib.hid (heap_keep hb HVP.out)
      clear hb
      generalize ((u2.alloc (.cells #[.int .i64 0, .int .i64 0] 27)).alloc (.cells #[.int .i64 0, .int .i64 0] 27)) = u3 at *
      refine (Points_any a m c P ⟨p, s, bk⟩ u3 hm100 HPR.out HN.out HC.out hvs).mono ?_
      rintro e u4 ⟨hp0, hp1, hb⟩
      obtain rfl := hp1 HZ.out
      clear hp0 hp1
      replace HM := Lib.hid (HM.out.below hb)
      replace HPR := Lib.hid (HPR.out.kept hb)
      replace HOR := Lib.hid (HOR.out.kept hb)
      replace HSP := Lib.hid (heap_keep hb HSP.out)
      replace HVP := Lib.hid (heap_keep hb HVP.out)
      replace H10 := Lib.hid (heap_keep hb H10.out)
      replace H11 := Lib.hid (heap_keep hb H11.out)
      clear hb
      have st0 := cell_of HSP.out (i := 0) rfl
      have st1 := cell_of HSP.out (i := 1) rfl
      have vi0 := cell_of HVP.out (i := 0) rfl
      have vi1 := cell_of HVP.out (i := 1) rfl
      have vi2 := cell_of HVP.out (i := 2) rfl
      go_wp2_with (fail)
      have hT := travel_any sx sy a m c P ao l co V u4 hm100 HPR.out HN.out hl100 HOR.out HOV.out
      rw [show trvAns sx sy m P l V = 0 by simp [trvAns, HZ2.out]] at hT
      refine hT.mono ?_
      clear hT
      rintro e u5 ⟨rfl, hb⟩
      clear st0 st1 vi0 vi1 vi2
      replace HM := Lib.hid (HM.out.below hb)
      replace HPR := Lib.hid (HPR.out.kept hb)
      replace HOR := Lib.hid (HOR.out.kept hb)
      replace HSP := Lib.hid (heap_keep hb HSP.out)
      replace HVP := Lib.hid (heap_keep hb HVP.out)
      replace H10 := Lib.hid (heap_keep hb H10.out)
      replace H11 := Lib.hid (heap_keep hb H11.out)
      clear hb
      have BU : Hid (Below u5.heap.size u5 ((u5.alloc (.cells #[.int .i64 0, .int .i64 0] 27)).alloc (.cells #[.int .i64 0, .int .i64 0] 27))) := Lib.hid (by repeat (first | exact Below.refl _ _ | assumption | refine Below.drew ?_ | refine bdrewN ?_ _ | refine Below.setCell ?_ (by first | omega | (simp <;> omega)) _ | refine Below.alloc ?_ (by first | omega | (simp <;> omega)) _))
      have H17 : Hid (((u5.alloc (.cells #[.int .i64 0, .int .i64 0] 27)).alloc (.cells #[.int .i64 0, .int .i64 0] 27)).heap[u5.heap.size]? = some (.cells #[.int .i64 0, .int .i64 0] 27 (0, 0))) := Lib.hid (by repeat (first | (refine heap_new ?_; first | rfl | (simp; done)) | rw [Below.heap_setCell _ _ _ _ (by simp <;> omega)] | rw [Below.heap_alloc _ _ _ (by simp <;> omega)]))
      have H18 : Hid (((u5.alloc (.cells #[.int .i64 0, .int .i64 0] 27)).alloc (.cells #[.int .i64 0, .int .i64 0] 27)).heap[u5.heap.size + 1]? = some (.cells #[.int .i64 0, .int .i64 0] 27 (0, 0))) := Lib.hid (by repeat (first | (refine heap_new ?_; first | rfl | (simp; done)) | rw [Below.heap_setCell _ _ _ _ (by simp <;> omega)] | rw [Below.heap_alloc _ _ _ (by simp <;> omega)]))
      have hlV := lt_of_heap HVP.out
      have hlS := lt_of_heap HSP.out
      have hl10 := lt_of_heap H10.out
      have hl11 := lt_of_heap H11.out
      have hoz : (oneF m P ⟨p, s, bk⟩ == (0 : Int)) = false := by simp [HZ.out]
      go_upto_if 72 with (fail)
      generalize ((u5.alloc (.cells #[.int .i64 0, .int .i64 0] 27)).alloc (.cells #[.int .i64 0, .int .i64 0] 27)) = u6 at *
      have st0 := cell_of (heap_keep BU.out HSP.out) (i := 0) rfl
      have st1 := cell_of (heap_keep BU.out HSP.out) (i := 1) rfl
      have vi0 := cell_of (heap_keep BU.out HVP.out) (i := 0) rfl
      have vi1 := cell_of (heap_keep BU.out HVP.out) (i := 1) rfl
      have vi2 := cell_of (heap_keep BU.out HVP.out) (i := 2) rfl
      go_wp2_with (fail)
      have hb : Below u6.heap.size u6 (u6.alloc (.cells #[.int .i64 sx, .int .i64 sy] 27)) := (by repeat (first | exact Below.refl _ _ | assumption | refine Below.drew ?_ | refine bdrewN ?_ _ | refine Below.setCell ?_ (by first | omega | (simp <;> omega)) _ | refine Below.alloc ?_ (by first | omega | (simp <;> omega)) _))
      have o0 : (u6.alloc (.cells #[.int .i64 sx, .int .i64 sy] 27)).cell? ⟨u6.heap.size, 0, none⟩ = some (.int .i64 sx) := by simp [go_sem]
      have o1 : (u6.alloc (.cells #[.int .i64 sx, .int .i64 sy] 27)).cell? ⟨u6.heap.size, 1, none⟩ = some (.int .i64 sy) := by simp [go_sem]
      clear st0 st1 vi0 vi1 vi2
      replace BU := Lib.hid (BU.out.trans (hb.mono BU.out.size))
      replace H17 := Lib.hid (heap_keep hb H17.out)
      replace H18 := Lib.hid (heap_keep hb H18.out)
      clear hb
      generalize (u6.alloc (.cells #[.int .i64 sx, .int .i64 sy] 27)) = uA at *
      refine (pointFault_any (some ⟨u6.heap.size, 0, none⟩) 1 1 (fun _ => sx) (fun _ => sy) uA (by omega) (one_pt o0 o1)).mono ?_
      rintro e uB ⟨rfl, hb⟩
      clear o0 o1
      replace BU := Lib.hid (BU.out.trans (hb.mono BU.out.size))
      replace H17 := Lib.hid (heap_keep hb H17.out)
      replace H18 := Lib.hid (heap_keep hb H18.out)
      clear hb
      have st0 := cell_of (heap_keep BU.out HSP.out) (i := 0) rfl
      have st1 := cell_of (heap_keep BU.out HSP.out) (i := 1) rfl
      have vi0 := cell_of (heap_keep BU.out HVP.out) (i := 0) rfl
      have vi1 := cell_of (heap_keep BU.out HVP.out) (i := 1) rfl
      have vi2 := cell_of (heap_keep BU.out HVP.out) (i := 2) rfl
      go_wp2_with (fail)
      have hO := or_any uB.heap.size (ptE 1 (fun _ => sx) (fun _ => sy)) (oF m P l V) uB rfl
      rw [show orE (ptE 1 (fun _ => sx) (fun _ => sy)) (oF m P l V) = tourE sx sy m P l V from rfl] at hO
      refine hO.mono ?_
      clear hO
      rintro e uC ⟨rfl, rfl⟩
      have hb : Below uB.heap.size uB (uB.alloc (.cells #[.int .i64 (ptE 1 (fun _ => sx) (fun _ => sy)), .int .i64 (oF m P l V)] 37)) := (by repeat (first | exact Below.refl _ _ | assumption | refine Below.drew ?_ | refine bdrewN ?_ _ | refine Below.setCell ?_ (by first | omega | (simp <;> omega)) _ | refine Below.alloc ?_ (by first | omega | (simp <;> omega)) _))
      clear st0 st1 vi0 vi1 vi2
      replace BU := Lib.hid (BU.out.trans (hb.mono BU.out.size))
      replace H17 := Lib.hid (heap_keep hb H17.out)
      replace H18 := Lib.hid (heap_keep hb H18.out)
      clear hb
      generalize (uB.alloc (.cells #[.int .i64 (ptE 1 (fun _ => sx) (fun _ => sy)), .int .i64 (oF m P l V)] 37)) = uD at *
      have st0 := cell_of (heap_keep BU.out HSP.out) (i := 0) rfl
      have st1 := cell_of (heap_keep BU.out HSP.out) (i := 1) rfl
      have vi0 := cell_of (heap_keep BU.out HVP.out) (i := 0) rfl
      have vi1 := cell_of (heap_keep BU.out HVP.out) (i := 1) rfl
      have vi2 := cell_of (heap_keep BU.out HVP.out) (i := 2) rfl
      have htz : (tourE sx sy m P l V == (0 : Int)) = false := by simp [HZ2.out]
      clear st0 st1 vi0 vi1 vi2
      have c100 := cell_of (heap_keep BU.out H10.out) (i := 0) rfl
      have c101 := cell_of (heap_keep BU.out H10.out) (i := 1) rfl
      have c110 := cell_of (heap_keep BU.out H11.out) (i := 0) rfl
      have c111 := cell_of (heap_keep BU.out H11.out) (i := 1) rfl
      have c170 := cell_of H17.out (i := 0) rfl
      have c171 := cell_of H17.out (i := 1) rfl
      have c180 := cell_of H18.out (i := 0) rfl
      have c181 := cell_of H18.out (i := 1) rfl
      have hE1 := fun wx => eql_pt_self 0 0 wx
      have hE2 := fun wx => eql_pt_self 0 0 wx
      have hG := gd_pt
      go_wp2_with (fail)
      refine (equalP_any none none 0 0 0 (fun _ => 0) (fun _ => 0) uD (.inl rfl) (.inl rfl) (by omega)).mono ?_
      rintro e uF ⟨rfl, hb⟩
      replace BU := Lib.hid (BU.out.trans (hb.mono BU.out.size))
      clear hb c100 c101 c110 c111 c170 c171 c180 c181 hE1 hE2 hG
      go_wp2_with (fail)
      refine (pathed_any uF).mono ?_
      rintro e uG ⟨rfl, hb⟩
      replace BU := Lib.hid (BU.out.trans (hb.mono BU.out.size))
      clear hb
      go_wp2_with (fail)
      go_ret
      exact ⟨rfl, (HM.out.below BU.out).toBelow w.heap.size (Nat.le_refl _) (fun k hk e => by have := HBW.out; omega)⟩
end Go.Proofs.Ytapihgmokgkaaaa

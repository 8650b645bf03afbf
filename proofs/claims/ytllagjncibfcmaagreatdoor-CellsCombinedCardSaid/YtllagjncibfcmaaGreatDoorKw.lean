/- The law CellsCombined, walked. -/
import Derived.Test.YtllagjncibfcmaaGreatDoorKx
import Derived.Test.YtllagjncibfcmaaGreatDoorRi
set_option linter.unusedSimpArgs false
set_option linter.unusedVariables false
namespace Go.Proofs.YtllagjncibfcmaaGreatDoor
open Go.RowKit

set_option maxRecDepth 100000 in
set_option maxHeartbeats 16000000 in
theorem cellsCombined_walk (a0 : Option Addr) (len0 cap0 : Nat) (z0 : List Int) (w : World) (w0 : IsRow .i64 w a0 len0 cap0 z0) :
    Calls Tryz.prog 3 #[.slice a0 len0 cap0] w fun e w' => e = .returned (.bool true) ∧ Below w.heap.size w w' := by
  have HS0 := Lib.hid (Strm.start w0)
  go_enter Tryz.func3, Tryz.ntmps3
  go_wp2_with (fail)
  have HM0 : Hid (Mut (· = w.heap.size) w (w.alloc (.cells #[.slice a0 len0 cap0, .int .i64 0] 25))) := Lib.hid ((Mut.refl _ w).alloc _)
  have hl0 : w.heap.size < (w.alloc (.cells #[.slice a0 len0 cap0, .int .i64 0] 25)).heap.size := by simp
  generalize (w.alloc (.cells #[.slice a0 len0 cap0, .int .i64 0] 25)) = ws at *
  refine (aCells_any w.heap.size 0 2 _ HS0.out (by omega) (.inl rfl)).mono ?_
  rintro e w1 ⟨z, x, y, a, n, c, R, rfl, hr, hl, hn, hst, hmt⟩
  have HR := Lib.hid hr
  have HL := Lib.hid hl
  have HS := Lib.hid hst
  have HM := Lib.hid (HM0.out.trans (hmt.mono fun _ _ h => h))
  have hs1 := hmt.size
  clear hr hl hst hmt HS0 HM0
  go_wp2_with (fail)
  refine (pick_new w.heap.size _ [2, 2, 2, 4] 4 (fun z => z = 2 ∨ z = 4) w1 HS.out (by omega) rfl (by omega) (by omega) (by decide)).mono ?_
  rintro e w2 ⟨⟨st, rfl, hst2⟩, hst, hmt⟩
  have hs2 := hmt.size
  replace HR := Lib.hid (HR.out.mutB HS.out hmt)
  replace HM := Lib.hid (HM.out.trans (hmt.mono fun _ _ h => h))
  replace HS := Lib.hid hst
  clear hst hmt
  go_wp2_with (fail)
  refine (aCells_any w.heap.size _ st _ HS.out (by omega) (by omega)).mono ?_
  rintro e w3 ⟨z', x', y', a', n', c', R', rfl, hr, hl, hn', hst, hmt⟩
  have hs3 := hmt.size
  replace HR := Lib.hid (HR.out.mutB HS.out hmt)
  replace HM := Lib.hid (HM.out.trans (hmt.mono fun _ _ h => h))
  replace HS := Lib.hid hst
  have HR' := Lib.hid hr
  have HL' := Lib.hid hl
  clear hr hl hst hmt
  go_wp2_with (fail)
  have HA : Hid (((w3.alloc (.cells #[.int .i64 z, .int .i64 x, .int .i64 y, .slice a n c] 28)).alloc (.cells #[.int .i64 z', .int .i64 x', .int .i64 y', .slice a' n' c'] 28)).heap[w3.heap.size]? = some (.cells #[.int .i64 z, .int .i64 x, .int .i64 y, .slice a n c] 28 (0, 0))) := Lib.hid (by repeat (first | (refine heap_new ?_; first | rfl | (simp; done)) | rw [Below.heap_setCell _ _ _ _ (by simp <;> omega)] | rw [Below.heap_alloc _ _ _ (by simp <;> omega)]))
  have HB : Hid (((w3.alloc (.cells #[.int .i64 z, .int .i64 x, .int .i64 y, .slice a n c] 28)).alloc (.cells #[.int .i64 z', .int .i64 x', .int .i64 y', .slice a' n' c'] 28)).heap[w3.heap.size + 1]? = some (.cells #[.int .i64 z', .int .i64 x', .int .i64 y', .slice a' n' c'] 28 (0, 0))) := Lib.hid (by repeat (first | (refine heap_new ?_; first | rfl | (simp; done)) | rw [Below.heap_setCell _ _ _ _ (by simp <;> omega)] | rw [Below.heap_alloc _ _ _ (by simp <;> omega)]))
  have B4 : Below w3.heap.size w3 ((w3.alloc (.cells #[.int .i64 z, .int .i64 x, .int .i64 y, .slice a n c] 28)).alloc (.cells #[.int .i64 z', .int .i64 x', .int .i64 y', .slice a' n' c'] 28)) := (by repeat (first | exact Below.refl _ _ | assumption | refine Below.drew ?_ | refine bdrewN ?_ _ | refine Below.setCell ?_ (by first | omega | (simp <;> omega)) _ | refine Below.alloc ?_ (by first | omega | (simp <;> omega)) _))
  replace HR := Lib.hid (HR.out.kept B4)
  replace HR' := Lib.hid (HR'.out.kept B4)
  replace HM := Lib.hid (HM.out.below B4)
  replace HS := Lib.hid ((HS.out.alloc (.cells #[.int .i64 z, .int .i64 x, .int .i64 y, .slice a n c] 28)).alloc (.cells #[.int .i64 z', .int .i64 x', .int .i64 y', .slice a' n' c'] 28))
  have hs4 : ((w3.alloc (.cells #[.int .i64 z, .int .i64 x, .int .i64 y, .slice a n c] 28)).alloc (.cells #[.int .i64 z', .int .i64 x', .int .i64 y', .slice a' n' c'] 28)).heap.size = w3.heap.size + 1 + 1 := by simp
  clear B4
  generalize ((w3.alloc (.cells #[.int .i64 z, .int .i64 x, .int .i64 y, .slice a n c] 28)).alloc (.cells #[.int .i64 z', .int .i64 x', .int .i64 y', .slice a' n' c'] 28)) = w4 at *
  generalize hp0 : w3.heap.size = p0 at *
  refine (flip_any w.heap.size _ 12 _ HS.out (by omega) (by omega) (by omega)).mono ?_
  rintro e w5 ⟨⟨b, rfl⟩, hst, hmt⟩
  have hs5 := hmt.size
  replace HA := Lib.hid ((hmt.block p0 (by omega) (by omega)).trans HA.out)
  replace HB := Lib.hid ((hmt.block (p0 + 1) (by omega) (by omega)).trans HB.out)
  replace HR := Lib.hid (HR.out.mutB HS.out hmt)
  replace HR' := Lib.hid (HR'.out.mutB HS.out hmt)
  replace HM := Lib.hid (HM.out.trans (hmt.mono fun _ _ h => h))
  replace HS := Lib.hid hst
  clear hst hmt
  go_upto_if 17 with (fail)
  go_cut [] from 18 to 26 (fun wx => ∃ z' x' y' a' n' c' R', wx.heap[p0]? = some (.cells #[.int .i64 z, .int .i64 x, .int .i64 y, .slice a n c] 28 (0, 0)) ∧ wx.heap[p0 + 1]? = some (.cells #[.int .i64 z', .int .i64 x', .int .i64 y', .slice a' n' c'] 28 (0, 0)) ∧ RowS wx a n R ∧ RowS wx a' n' R' ∧ (∀ i, i < n' → (R' i).length ≤ 1000) ∧ n' ≤ 1000000 ∧ Mut (· = w.heap.size) w wx)
  case first =>
    rcases b with _ | _
    · go_wp2_with (fail)
      go_meet
      exact ⟨z', x', y', a', n', c', R', HA.out, HB.out, HR.out, HR'.out, HL'.out, hn', HM.out⟩
    · go_wp2_with (fail)
      refine (pick_new w.heap.size _ [400, 404, 800] 3 (fun _ => True) _ HS.out (by omega) rfl (by omega) (by omega) (by simp)).mono ?_
      rintro e y6 ⟨⟨p1, rfl, _⟩, hst, hmt⟩
      have hs6 := hmt.size
      replace HA := Lib.hid ((hmt.block p0 (by omega) (by omega)).trans HA.out)
      replace HB := Lib.hid ((hmt.block (p0 + 1) (by omega) (by omega)).trans HB.out)
      replace HR := Lib.hid (HR.out.mutB HS.out hmt)
      replace HM := Lib.hid (HM.out.trans (hmt.mono fun _ _ h => h))
      replace HS := Lib.hid hst
      clear hst hmt
      go_wp2_with (fail)
      refine (pick_new w.heap.size _ [0, 396, 400] 3 (fun _ => True) _ HS.out (by omega) rfl (by omega) (by omega) (by simp)).mono ?_
      rintro e y7 ⟨⟨p2, rfl, _⟩, hst, hmt⟩
      have hs7 := hmt.size
      replace HA := Lib.hid ((hmt.block p0 (by omega) (by omega)).trans HA.out)
      replace HB := Lib.hid ((hmt.block (p0 + 1) (by omega) (by omega)).trans HB.out)
      replace HR := Lib.hid (HR.out.mutB HS.out hmt)
      replace HM := Lib.hid (HM.out.trans (hmt.mono fun _ _ h => h))
      replace HS := Lib.hid hst
      clear hst hmt
      have hb := HB.out
      have nc0 : y7.cell? ⟨p0 + 1, 0, none⟩ = some (.int .i64 z') := (by simp [World.cell?, hb]); have nf0 : y7.frozen? ⟨p0 + 1, 0, none⟩ = false := (by simp [World.frozen?, hb]); have nc1 : y7.cell? ⟨p0 + 1, 1, none⟩ = some (.int .i64 x') := (by simp [World.cell?, hb]); have nf1 : y7.frozen? ⟨p0 + 1, 1, none⟩ = false := (by simp [World.frozen?, hb]); have nc2 : y7.cell? ⟨p0 + 1, 2, none⟩ = some (.int .i64 y') := (by simp [World.cell?, hb]); have nf2 : y7.frozen? ⟨p0 + 1, 2, none⟩ = false := (by simp [World.frozen?, hb]); have nc3 : y7.cell? ⟨p0 + 1, 3, none⟩ = some (.slice a' n' c') := (by simp [World.cell?, hb]); have nf3 : y7.frozen? ⟨p0 + 1, 3, none⟩ = false := (by simp [World.frozen?, hb])
      clear hb
      have hl7 : p0 + 1 < y7.heap.size := by omega
      go_wp2_with (fail)
      generalize hW : ((((y7.setCell ⟨p0 + 1, 0, none⟩ (.int .i64 2)).setCell ⟨p0 + 1, 1, none⟩ (.int .i64 p1)).setCell ⟨p0 + 1, 2, none⟩ (.int .i64 p2)).setCell ⟨p0 + 1, 3, none⟩ (.slice (some ⟨y7.heap.size, 0, none⟩) 1 1)) = W4
      obtain ⟨hra, hpb, M4⟩ := cellsSet4 HB.out HR.out hW
      have hsz4 : W4.heap.size = y7.heap.size := by rw [← hW]; simp [World.setCell]
      clear hW
      have hu := HM.out
      have hus := hu.size
      have hs1' : (W4.alloc (.cells #[.string ⟨#[35]⟩] 9)).cell? ⟨y7.heap.size, 0, none⟩ = some (.string ⟨#[35]⟩) := by rw [← hsz4]; simp [go_sem]
      have hsA : (W4.alloc (.cells #[.string ⟨#[35]⟩] 9)).heap.size = W4.heap.size + 1 := by simp
      have BY : Below W4.heap.size W4 (W4.alloc (.cells #[.string ⟨#[35]⟩] 9)) := (Below.refl _ _).alloc (Nat.le_refl _) _
      generalize (W4.alloc (.cells #[.string ⟨#[35]⟩] 9)) = W5 at *
      go_meet
      refine ⟨2, p1, p2, some ⟨y7.heap.size, 0, none⟩, 1, 1, fun _ => [35], (BY.block _ (by omega)).trans ((M4.block _ (by omega) (by omega)).trans HA.out), (BY.block _ (by omega)).trans hpb, hra.kept BY, .inr ⟨_, 0, rfl, by omega, fun i hi => ?_⟩, fun _ _ => by simp, by omega,
        ⟨BY.os.trans (M4.os.trans hu.os), BY.tape.trans (M4.tape.trans hu.tape), BY.output.trans (M4.output.trans hu.output), Nat.le_trans hus (Nat.le_trans M4.size BY.size), fun k hk hn => (BY.block k (by omega)).trans ((M4.block k (by omega) (by omega)).trans (hu.block k hk hn))⟩⟩
      obtain rfl : i = 0 := by omega
      exact hs1'
  case rest =>
    clear HB HR HR' HL' HM HS HA hn'
    obtain ⟨z', x', y', a', n', c', R', ha, hb, hr, hr', hl', hn', hm⟩ := hcut
    have HA := Lib.hid ha
    have HB := Lib.hid hb
    have HR := Lib.hid hr
    have HR' := Lib.hid hr'
    have HL' := Lib.hid hl'
    have HM := Lib.hid hm
    have mc0 := cell_of ha (i := 0) rfl; have mc1 := cell_of ha (i := 1) rfl; have mc2 := cell_of ha (i := 2) rfl; have mc3 := cell_of ha (i := 3) rfl; have nc0 := cell_of hb (i := 0) rfl; have nc1 := cell_of hb (i := 1) rfl; have nc2 := cell_of hb (i := 2) rfl; have nc3 := cell_of hb (i := 3) rfl
    clear ha hb hr hr' hl' hm
    go_wp2_with (fail)
    refine (lawUnion_any z x y a n c R z' x' y' a' n' c' R' _ HR.out HR'.out (fun i hi => Nat.le_trans (HL.out i hi) (by omega)) hn (fun i hi => Nat.le_trans (HL'.out i hi) (by omega)) hn').mono ?_
    rintro e v1 ⟨rfl, hb⟩
    replace HA := Lib.hid ((hb.block _ (lt_of_heap HA.out)).trans HA.out)
    replace HB := Lib.hid ((hb.block _ (lt_of_heap HB.out)).trans HB.out)
    replace HR := Lib.hid (HR.out.kept hb)
    replace HR' := Lib.hid (HR'.out.kept hb)
    replace HM := Lib.hid (HM.out.below hb)
    clear hb mc0 mc1 mc2 mc3 nc0 nc1 nc2 nc3
    have ha := HA.out
    have hb := HB.out
    have mc0 := cell_of ha (i := 0) rfl; have mc1 := cell_of ha (i := 1) rfl; have mc2 := cell_of ha (i := 2) rfl; have mc3 := cell_of ha (i := 3) rfl; have nc0 := cell_of hb (i := 0) rfl; have nc1 := cell_of hb (i := 1) rfl; have nc2 := cell_of hb (i := 2) rfl; have nc3 := cell_of hb (i := 3) rfl
    clear ha hb
    go_wp2_with (fail)
    refine (lawBoth_any z x y a n c R z' x' y' a' n' c' R' _ HR.out HR'.out (fun i hi => Nat.le_trans (HL.out i hi) (by omega)) hn (fun i hi => Nat.le_trans (HL'.out i hi) (by omega)) hn').mono ?_
    rintro e v2 ⟨rfl, hb⟩
    replace HA := Lib.hid ((hb.block _ (lt_of_heap HA.out)).trans HA.out)
    replace HB := Lib.hid ((hb.block _ (lt_of_heap HB.out)).trans HB.out)
    replace HR := Lib.hid (HR.out.kept hb)
    replace HR' := Lib.hid (HR'.out.kept hb)
    replace HM := Lib.hid (HM.out.below hb)
    clear hb mc0 mc1 mc2 mc3 nc0 nc1 nc2 nc3
    have ha := HA.out
    have hb := HB.out
    have mc0 := cell_of ha (i := 0) rfl; have mc1 := cell_of ha (i := 1) rfl; have mc2 := cell_of ha (i := 2) rfl; have mc3 := cell_of ha (i := 3) rfl; have nc0 := cell_of hb (i := 0) rfl; have nc1 := cell_of hb (i := 1) rfl; have nc2 := cell_of hb (i := 2) rfl; have nc3 := cell_of hb (i := 3) rfl
    clear ha hb
    go_wp2_with (fail)
    refine (lawMinus_any z x y a n c R z' x' y' a' n' c' R' _ HR.out HR'.out (fun i hi => Nat.le_trans (HL.out i hi) (by omega)) hn (fun i hi => Nat.le_trans (HL'.out i hi) (by omega)) hn').mono ?_
    rintro e v3 ⟨rfl, hb⟩
    replace HA := Lib.hid ((hb.block _ (lt_of_heap HA.out)).trans HA.out)
    replace HB := Lib.hid ((hb.block _ (lt_of_heap HB.out)).trans HB.out)
    replace HR := Lib.hid (HR.out.kept hb)
    replace HR' := Lib.hid (HR'.out.kept hb)
    replace HM := Lib.hid (HM.out.below hb)
    clear hb mc0 mc1 mc2 mc3 nc0 nc1 nc2 nc3
    have ha := HA.out
    have hb := HB.out
    have mc0 := cell_of ha (i := 0) rfl; have mc1 := cell_of ha (i := 1) rfl; have mc2 := cell_of ha (i := 2) rfl; have mc3 := cell_of ha (i := 3) rfl; have nc0 := cell_of hb (i := 0) rfl; have nc1 := cell_of hb (i := 1) rfl; have nc2 := cell_of hb (i := 2) rfl; have nc3 := cell_of hb (i := 3) rfl
    clear ha hb
    go_wp2_with (fail)
    refine (regioned_any _).mono ?_
    rintro e v4 ⟨rfl, hb⟩
    replace HM := Lib.hid (HM.out.below hb)
    clear hb mc0 mc1 mc2 mc3 nc0 nc1 nc2 nc3
    go_wp2_with (fail)
    go_ret
    exact ⟨rfl, HM.out.os, HM.out.tape, HM.out.output, HM.out.size, fun k hk => HM.out.block k hk (Nat.ne_of_lt hk)⟩
end Go.Proofs.YtllagjncibfcmaaGreatDoor

/- ASlope: one of ten fractions. -/
import Derived.Test.YtodnkgmalbpdaaaSm
set_option linter.unusedSimpArgs false
set_option linter.unusedVariables false
namespace Go.Proofs.Ytodnkgmalbpdaaa
open Go.RowKit

def Slp (num den : Int) : Prop := (-9223372036854775808 ≤ num ∧ num ≤ 1001) ∧ (0 ≤ den ∧ den ≤ 1001)
theorem tab4 {w w1 : World} {B : Nat} {T : TypeId} {r : Int} (hm : Mut (· = B) (w.alloc (.cells #[.int .i64 0, .int .i64 1, .int .i64 1, .int .i64 2, .int .i64 1, .int .i64 1, .int .i64 3, .int .i64 2] T)) w1) (hB : B < w.heap.size) (h0 : 0 ≤ r) (h1 : r < 4) :
    ∃ x y, w1.cell? ⟨w.heap.size, r.toNat * 2, none⟩ = some (.int .i64 x) ∧ w1.cell? ⟨w.heap.size, r.toNat * 2 + 1, none⟩ = some (.int .i64 y) ∧ Slp x y := by
  rw [hm.cell (by simp) (by simp; omega), hm.cell (by simp) (by simp; omega)]
  have : r = 0 ∨ r = 1 ∨ r = 2 ∨ r = 3 := by omega
  rcases this with rfl | rfl | rfl | rfl
  all_goals exact ⟨_, _, by simp [go_sem]; rfl, by simp [go_sem]; rfl, by unfold Slp; omega⟩
theorem tab6 {w w1 : World} {B : Nat} {T : TypeId} {r : Int} (hm : Mut (· = B) (w.alloc (.cells #[.int .i64 2, .int .i64 4, .int .i64 1, .int .i64 0, .int .i64 (-1), .int .i64 2, .int .i64 1001, .int .i64 1, .int .i64 1, .int .i64 1001, .int .i64 (-9223372036854775808), .int .i64 3] T)) w1) (hB : B < w.heap.size) (h0 : 0 ≤ r) (h1 : r < 6) :
    ∃ x y, w1.cell? ⟨w.heap.size, r.toNat * 2, none⟩ = some (.int .i64 x) ∧ w1.cell? ⟨w.heap.size, r.toNat * 2 + 1, none⟩ = some (.int .i64 y) ∧ Slp x y := by
  rw [hm.cell (by simp) (by simp; omega), hm.cell (by simp) (by simp; omega)]
  have : r = 0 ∨ r = 1 ∨ r = 2 ∨ r = 3 ∨ r = 4 ∨ r = 5 := by omega
  rcases this with rfl | rfl | rfl | rfl | rfl | rfl
  all_goals exact ⟨_, _, by simp [go_sem]; rfl, by simp [go_sem]; rfl, by unfold Slp; omega⟩
theorem fin_mut {w w' : World} {B : Nat} {x y : Int} (h : Mut (· = B) w w') (hB : B < w.heap.size) : Mut (· = B) w ((w'.setCell ⟨w.heap.size, 0, none⟩ (.int .i64 x)).setCell ⟨w.heap.size, 1, none⟩ (.int .i64 y)) :=
  (((h.mono (S' := fun b => b = B ∨ b = w.heap.size) (fun _ _ h => .inl h)).setCell (fun _ => .inr rfl) _).setCell (fun _ => .inr rfl) _).mono (fun b hb h => by have := hB; omega)
theorem fin_strm {w w' : World} {B k : Nat} {x y : Int} (h : Strm w' B k) (hB : B < w.heap.size) : Strm ((w'.setCell ⟨w.heap.size, 0, none⟩ (.int .i64 x)).setCell ⟨w.heap.size, 1, none⟩ (.int .i64 y)) B k :=
  h.kept (S := (· = w.heap.size)) (((Mut.refl (· = w.heap.size) w').setCell (p := ⟨w.heap.size, 0, none⟩) (fun _ => rfl) _).setCell (p := ⟨w.heap.size, 1, none⟩) (fun _ => rfl) _) (by intro x hx; have := hB; omega)
set_option maxHeartbeats 2000000 in
theorem aslope_any (B k : Nat) (w : World) (hs : Strm w B k) (hk : k + 10 ≤ 1000000) :
    Calls Try.prog 29 #[.pointer (some ⟨B, 0, none⟩)] w (StrmPost w B k 3 fun e => ∃ num den : Int, e = .returned (.agg #[.int .i64 num, .int .i64 den]) ∧ Slp num den) := by
  have hB := hs.lt
  have HS := Lib.hid hs
  clear hs
  go_enter Try.func29, Try.ntmps29
  go_wp2_with (fail)
  refine (next_any B k 4 _ ((HS.out.alloc _).alloc _) (by omega) (by omega) (by omega)).mono ?_
  rintro e w1 ⟨⟨r, rfl, h5, h6⟩, hst, hmt⟩
  obtain ⟨x, y, hx, hy, hp⟩ := tab4 hmt (by simp; omega) h5 h6
  simp only [World.alloc, Array.size_push] at hx hy
  have HP := Lib.hid hp
  clear hp
  have hsz1 : w.heap.size + 1 < w1.heap.size := by have := hmt.size; simp at this; omega
  have M1 : Mut (· = B) w w1 := ((((Mut.refl _ w).alloc _).alloc _)).trans hmt
  have k0 : w1.frozen? ⟨w.heap.size, 0, none⟩ = false := by rw [hmt.frozen (by simp <;> omega) (by simp; omega)]; simp [go_sem]
  have k1 : w1.frozen? ⟨w.heap.size, 1, none⟩ = false := by rw [hmt.frozen (by simp <;> omega) (by simp; omega)]; simp [go_sem]
  have k2 : w1.cell? ⟨w.heap.size, 0, none⟩ = some (.int .i64 0) := by rw [hmt.cell (by simp <;> omega) (by simp; omega)]; simp [go_sem]
  have k3 : w1.cell? ⟨w.heap.size, 1, none⟩ = some (.int .i64 0) := by rw [hmt.cell (by simp <;> omega) (by simp; omega)]; simp [go_sem]
  have HM := Lib.hid M1
  clear M1 hmt
  have HT := Lib.hid hst
  clear hst
  go_wp2_with (fail)
  refine (flip_any B (k + 1) 12 _ (HT.out.alloc _) (by omega) (by omega) (by omega)).mono ?_
  rintro e w2 ⟨⟨b, rfl⟩, hst, hmt⟩
  have hs2 := hmt.size
  have f0 : w2.frozen? ⟨w1.heap.size, 0, none⟩ = false := by rw [hmt.frozen (by simp <;> omega) (by simp; omega)]; simp [go_sem]
  have f1 : w2.frozen? ⟨w1.heap.size, 1, none⟩ = false := by rw [hmt.frozen (by simp <;> omega) (by simp; omega)]; simp [go_sem]
  have c0 : w2.cell? ⟨w1.heap.size, 0, none⟩ = some (.int .i64 x) := by rw [hmt.cell (by simp <;> omega) (by simp; omega)]; simp [go_sem]
  have c1 : w2.cell? ⟨w1.heap.size, 1, none⟩ = some (.int .i64 y) := by rw [hmt.cell (by simp <;> omega) (by simp; omega)]; simp [go_sem]
  simp at hs2
  have M2 : Mut (· = B) w w2 := (HM.out.alloc _).trans hmt
  have HM2 := Lib.hid M2
  have M12 : Mut (· = B) w1 w2 := ((Mut.refl _ w1).alloc _).trans hmt
  have l0 : w2.frozen? ⟨w.heap.size, 0, none⟩ = false := (M12.frozen (by show w.heap.size < _; omega) (by simp; omega)).trans k0
  have l1 : w2.frozen? ⟨w.heap.size, 1, none⟩ = false := (M12.frozen (by show w.heap.size < _; omega) (by simp; omega)).trans k1
  have l2 : w2.cell? ⟨w.heap.size, 0, none⟩ = some (.int .i64 0) := (M12.cell (by show w.heap.size < _; omega) (by simp; omega)).trans k2
  have l3 : w2.cell? ⟨w.heap.size, 1, none⟩ = some (.int .i64 0) := (M12.cell (by show w.heap.size < _; omega) (by simp; omega)).trans k3
  clear k0 k1 k2 k3 M12
  clear hmt HT HS hx hy HM M2
  rcases b with _ | _
  · have HT3 := Lib.hid (fin_strm (x := x) (y := y) (hst.more (k' := k + 3) (by omega) (by omega)) hB)
    have HM3 := Lib.hid (fin_mut (x := x) (y := y) HM2.out hB)
    clear hst
    have q0 := sc_same' (v := .int .i64 x) (is_some l2)
    have q1 := sc_same' (v := .int .i64 y) (is_set (p := ⟨w.heap.size, 0, none⟩) (x := .int .i64 x) (is_some l3))
    go_wp2
    exact bodyPost_ret (v := .agg #[.int .i64 x, .int .i64 y]) (by simp [results, Try.results29, go_sem, q0, q1]) rfl ⟨⟨x, y, rfl, HP.out⟩, HT3.out, HM3.out⟩
  · have HT2 := Lib.hid hst
    clear hst
    go_wp2_with (fail)
    refine (next_any B (k + 1 + 1) 6 _ (HT2.out.alloc _) (by omega) (by omega) (by omega)).mono ?_
    rintro e w3 ⟨⟨r2, rfl, h7, h8⟩, hst, hmt⟩
    obtain ⟨x2, y2, hx, hy, hp⟩ := tab6 hmt (by omega) h7 h8
    have HP2 := Lib.hid hp
    clear hp
    have hs3 := hmt.size
    simp at hs3
    have M23 : Mut (· = B) w2 w3 := ((Mut.refl _ w2).alloc _).trans hmt
    have g0 : w3.frozen? ⟨w1.heap.size, 0, none⟩ = false := (M23.frozen (by show w1.heap.size < _; omega) (by simp; omega)).trans f0
    have g1 : w3.frozen? ⟨w1.heap.size, 1, none⟩ = false := (M23.frozen (by show w1.heap.size < _; omega) (by simp; omega)).trans f1
    have d0 : w3.cell? ⟨w1.heap.size, 0, none⟩ = some (.int .i64 x) := (M23.cell (by show w1.heap.size < _; omega) (by simp; omega)).trans c0
    have d1 : w3.cell? ⟨w1.heap.size, 1, none⟩ = some (.int .i64 y) := (M23.cell (by show w1.heap.size < _; omega) (by simp; omega)).trans c1
    have m0 : w3.frozen? ⟨w.heap.size, 0, none⟩ = false := (M23.frozen (by show w.heap.size < _; omega) (by simp; omega)).trans l0
    have m1 : w3.frozen? ⟨w.heap.size, 1, none⟩ = false := (M23.frozen (by show w.heap.size < _; omega) (by simp; omega)).trans l1
    have m2 : w3.cell? ⟨w.heap.size, 0, none⟩ = some (.int .i64 0) := (M23.cell (by show w.heap.size < _; omega) (by simp; omega)).trans l2
    have m3 : w3.cell? ⟨w.heap.size, 1, none⟩ = some (.int .i64 0) := (M23.cell (by show w.heap.size < _; omega) (by simp; omega)).trans l3
    clear l0 l1 l2 l3
    have M3 : Mut (fun b => b = B ∨ b = w1.heap.size) w ((w3.setCell ⟨w1.heap.size, 0, none⟩ (.int .i64 x2)).setCell ⟨w1.heap.size, 1, none⟩ (.int .i64 y2)) := ((((HM2.out.mono (fun _ _ h => .inl h)).alloc _).trans (hmt.mono (fun _ _ h => .inl h))).setCell (fun _ => .inr rfl) _).setCell (fun _ => .inr rfl) _
    have M := M3.mono (S' := (· = B)) (fun b hb h => by omega)
    have HM3 := Lib.hid (fin_mut (x := x2) (y := y2) M hB)
    have T3 : Strm ((w3.setCell ⟨w1.heap.size, 0, none⟩ (.int .i64 x2)).setCell ⟨w1.heap.size, 1, none⟩ (.int .i64 y2)) B (k + 3) := hst.kept (S := (· = w1.heap.size)) (((Mut.refl (· = w1.heap.size) w3).setCell (p := ⟨w1.heap.size, 0, none⟩) (fun _ => rfl) _).setCell (p := ⟨w1.heap.size, 1, none⟩) (fun _ => rfl) _) (by intro x hx; omega)
    have HT3 := Lib.hid (fin_strm (x := x2) (y := y2) T3 (w := w) hB)
    clear T3 M M3 M23 hmt hst f0 f1 c0 c1
    have q0 := sc_same' (v := .int .i64 x2) (is_set (p := ⟨w1.heap.size, 1, none⟩) (x := .int .i64 y2) (is_set (p := ⟨w1.heap.size, 0, none⟩) (x := .int .i64 x2) (is_some m2)))
    have q1 := sc_same' (v := .int .i64 y2) (is_set (p := ⟨w.heap.size, 0, none⟩) (x := .int .i64 x2) (is_set (p := ⟨w1.heap.size, 1, none⟩) (x := .int .i64 y2) (is_set (p := ⟨w1.heap.size, 0, none⟩) (x := .int .i64 x2) (is_some m3))))
    go_wp2
    exact bodyPost_ret (v := .agg #[.int .i64 x2, .int .i64 y2]) (by simp [results, Try.results29, go_sem, q0, q1]) rfl ⟨⟨x2, y2, rfl, HP2.out⟩, HT3.out, HM3.out⟩
end Go.Proofs.Ytodnkgmalbpdaaa

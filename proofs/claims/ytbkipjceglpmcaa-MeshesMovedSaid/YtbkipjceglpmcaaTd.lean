/- The places of a turned, a moved, a mirrored mesh. -/
import Derived.Test.YtbkipjceglpmcaaQt
import Derived.Test.YtbkipjceglpmcaaMk2
set_option linter.unusedSimpArgs false
set_option linter.unusedVariables false
namespace Go.Proofs.Ytbkipjceglpmcaa
open Go.RowKit

/-- Some quarters of a turn. -/
def qn (a : Int) : Nat → V3 → V3
  | 0, v => v
  | n + 1, v => qv a (qn a n v)
theorem heap_keep {w w' : World} {b : Nat} {o : Obj} (hb : Below w.heap.size w w') (h : w.heap[b]? = some o) : w'.heap[b]? = some o :=
  (hb.block b (Decidable.byContradiction fun hn => by rw [Array.getElem?_eq_none (by omega)] at h; cases h)).trans h
theorem set3_heap {w : World} {b : Nat} {v0 v1 v2 u0 u1 u2 : Value} {t : TypeId} (h : w.heap[b]? = some (.cells #[v0, v1, v2] t (0, 0))) :
    (((w.setCell ⟨b, 0, none⟩ u0).setCell ⟨b, 1, none⟩ u1).setCell ⟨b, 2, none⟩ u2).heap[b]? = some (.cells #[u0, u1, u2] t (0, 0)) := by
  simp [World.setCell, Array.getElem?_modify, h]
theorem set3_other {w : World} {b c : Nat} {u0 u1 u2 : Value} (h : c ≠ b) : (((w.setCell ⟨b, 0, none⟩ u0).setCell ⟨b, 1, none⟩ u1).setCell ⟨b, 2, none⟩ u2).heap[c]? = w.heap[c]? := by
  rw [Below.heap_setCell _ _ _ _ h, Below.heap_setCell _ _ _ _ h, Below.heap_setCell _ _ _ _ h]
theorem lt_heap {w : World} {b : Nat} {o : Obj} (h : w.heap[b]? = some o) : b < w.heap.size :=
  Decidable.byContradiction fun hn => by rw [Array.getElem?_eq_none (by omega)] at h; cases h

set_option maxHeartbeats 2000000 in
theorem turnA0 (x y z : Int) (n p q : Nat) (w : World) (hn : n ≤ 1000) (hp : w.cell? ⟨p, 0, none⟩ = some (.int .i64 n)) (hq : w.cell? ⟨q, 0, none⟩ = some (.func (.func 96) #[] #[])) (hpl : p < w.heap.size) (hql : q < w.heap.size) :
    Calls Try.prog 52 #[.agg #[.int .i64 x, .int .i64 y, .int .i64 z], .pointer (some ⟨p, 0, none⟩), .pointer (some ⟨q, 0, none⟩)] w fun e w' => e = .returned (.agg #[.int .i64 (qn 0 n ⟨x, y, z⟩).x, .int .i64 (qn 0 n ⟨x, y, z⟩).y, .int .i64 (qn 0 n ⟨x, y, z⟩).z]) ∧ Below w.heap.size w w' := by
  go_enter Try.func52, Try.ntmps52
  go_wp2_with (fail)
  go_loopw [6] (fun i wr => ∃ j : Nat, j ≤ n ∧ i = .int .i64 j ∧ wr.heap[w.heap.size]? = some (.cells #[.int .i64 (qn 0 j ⟨x, y, z⟩).x, .int .i64 (qn 0 j ⟨x, y, z⟩).y, .int .i64 (qn 0 j ⟨x, y, z⟩).z] 33 (0, 0)) ∧ wr.heap[w.heap.size + 1]? = some (.cells #[.int .i64 0, .int .i64 0, .int .i64 0] 33 (0, 0)) ∧ Below w.heap.size w wr) (fun i _ => n - (intOf i).toNat)
  case atStart => exact ⟨0, by omega, rfl, heap_keep ((Below.refl _ _).alloc (Nat.le_refl _) _) (heap_alloc_new w _), heap_new (by simp), (by repeat (first | exact Below.refl _ _ | assumption | refine Below.drew ?_ | refine bdrewN ?_ _ | refine Below.setCell ?_ (by first | omega | (simp <;> omega)) _ | refine Below.alloc ?_ (by first | omega | (simp <;> omega)) _))⟩
  case round =>
    obtain ⟨j, hj, rfl, h0, h1, hbel⟩ := hrel
    have hsz := hbel.size
    have hl0 := lt_heap h0
    have hl1 := lt_heap h1
    have hq2 := cellk hbel hql hq
    have hpq : p < wr.heap.size := by omega
    have hqq : q < wr.heap.size := by omega
    have HB := Lib.hid hbel
    generalize hV : qn 0 j ⟨x, y, z⟩ = V at *
    obtain ⟨X, Y, Z⟩ := V
    have HV := Lib.hid hV
    clear hV hbel
    have ac0 : wr.cell? ⟨w.heap.size, 0, none⟩ = some (.int .i64 X) := (by simp [World.cell?, h0]); have af0 : wr.frozen? ⟨w.heap.size, 0, none⟩ = false := (by simp [World.frozen?, h0]); have ac1 : wr.cell? ⟨w.heap.size, 1, none⟩ = some (.int .i64 Y) := (by simp [World.cell?, h0]); have af1 : wr.frozen? ⟨w.heap.size, 1, none⟩ = false := (by simp [World.frozen?, h0]); have ac2 : wr.cell? ⟨w.heap.size, 2, none⟩ = some (.int .i64 Z) := (by simp [World.cell?, h0]); have af2 : wr.frozen? ⟨w.heap.size, 2, none⟩ = false := (by simp [World.frozen?, h0])
    have bc0 : wr.cell? ⟨(w.heap.size + 1), 0, none⟩ = some (.int .i64 0) := (by simp [World.cell?, h1]); have bf0 : wr.frozen? ⟨(w.heap.size + 1), 0, none⟩ = false := (by simp [World.frozen?, h1]); have bc1 : wr.cell? ⟨(w.heap.size + 1), 1, none⟩ = some (.int .i64 0) := (by simp [World.cell?, h1]); have bf1 : wr.frozen? ⟨(w.heap.size + 1), 1, none⟩ = false := (by simp [World.frozen?, h1]); have bc2 : wr.cell? ⟨(w.heap.size + 1), 2, none⟩ = some (.int .i64 0) := (by simp [World.cell?, h1]); have bf2 : wr.frozen? ⟨(w.heap.size + 1), 2, none⟩ = false := (by simp [World.frozen?, h1])
    have H0 := Lib.hid h0
    have H1 := Lib.hid h1
    clear h0 h1
    by_cases hlt : j < n
    · go_wp2_with (fail)
      refine (q1_any X Y Z _).mono ?_
      rintro e w2 ⟨rfl, hb2⟩
      have s2 := hb2.size
      have HX := Lib.hid (set3_heap (u0 := .int .i64 X) (u1 := .int .i64 (wrap64 (-Z))) (u2 := .int .i64 Y) (heap_keep hb2 H0.out))
      have HY := Lib.hid ((set3_other (w := w2) (b := w.heap.size) (c := w.heap.size + 1) (u0 := .int .i64 X) (u1 := .int .i64 (wrap64 (-Z))) (u2 := .int .i64 Y) (by omega)).trans (heap_keep hb2 H1.out))
      have HB2 := Lib.hid (HB.out.trans (hb2.mono hsz))
      have dc0 : w2.cell? ⟨w.heap.size, 0, none⟩ = some (.int .i64 X) := (by simp [World.cell?, (heap_keep hb2 H0.out)]); have df0 : w2.frozen? ⟨w.heap.size, 0, none⟩ = false := (by simp [World.frozen?, (heap_keep hb2 H0.out)]); have dc1 : w2.cell? ⟨w.heap.size, 1, none⟩ = some (.int .i64 Y) := (by simp [World.cell?, (heap_keep hb2 H0.out)]); have df1 : w2.frozen? ⟨w.heap.size, 1, none⟩ = false := (by simp [World.frozen?, (heap_keep hb2 H0.out)]); have dc2 : w2.cell? ⟨w.heap.size, 2, none⟩ = some (.int .i64 Z) := (by simp [World.cell?, (heap_keep hb2 H0.out)]); have df2 : w2.frozen? ⟨w.heap.size, 2, none⟩ = false := (by simp [World.frozen?, (heap_keep hb2 H0.out)])
      clear hb2
      go_wp2
      go_roundw
      case rel => exact ⟨j + 1, by omega, by go_num, by simp only [qn, HV.out, qv]; exact HX.out, HY.out, (by repeat (first | exact Below.refl _ _ | assumption | refine Below.drew ?_ | refine bdrewN ?_ _ | refine Below.setCell ?_ (by first | omega | (simp <;> omega)) _ | refine Below.alloc ?_ (by first | omega | (simp <;> omega)) _))⟩
      case measure => simp [intOf]; omega
    · obtain rfl : n = j := by omega
      have k0 := sc_same' (v := .int .i64 X) (is_some bc0)
      have k1 := sc_same' (v := .int .i64 Y) (is_set (p := ⟨w.heap.size + 1, 0, none⟩) (x := .int .i64 X) (is_some bc1))
      have k2 := sc_same' (v := .int .i64 Z) (is_set (p := ⟨w.heap.size + 1, 1, none⟩) (x := .int .i64 Y) (is_set (p := ⟨w.heap.size + 1, 0, none⟩) (x := .int .i64 X) (is_some bc2)))
      have HV0 : Hid ((qn 0 n ⟨x, y, z⟩).x = X ∧ (qn 0 n ⟨x, y, z⟩).y = Y ∧ (qn 0 n ⟨x, y, z⟩).z = Z) := Lib.hid (by rw [HV.out]; exact ⟨rfl, rfl, rfl⟩)
      go_wp2
      exact bodyPost_ret (v := .agg #[.int .i64 (qn 0 n ⟨x, y, z⟩).x, .int .i64 (qn 0 n ⟨x, y, z⟩).y, .int .i64 (qn 0 n ⟨x, y, z⟩).z]) (by simp [results, Try.results52, go_sem, k0, k1, k2, HV0.out]) rfl ⟨rfl, (by repeat (first | exact Below.refl _ _ | assumption | refine Below.drew ?_ | refine bdrewN ?_ _ | refine Below.setCell ?_ (by first | omega | (simp <;> omega)) _ | refine Below.alloc ?_ (by first | omega | (simp <;> omega)) _))⟩

set_option maxHeartbeats 2000000 in
theorem turnA1 (x y z : Int) (n p q : Nat) (w : World) (hn : n ≤ 1000) (hp : w.cell? ⟨p, 0, none⟩ = some (.int .i64 n)) (hq : w.cell? ⟨q, 0, none⟩ = some (.func (.func 97) #[] #[])) (hpl : p < w.heap.size) (hql : q < w.heap.size) :
    Calls Try.prog 52 #[.agg #[.int .i64 x, .int .i64 y, .int .i64 z], .pointer (some ⟨p, 0, none⟩), .pointer (some ⟨q, 0, none⟩)] w fun e w' => e = .returned (.agg #[.int .i64 (qn 1 n ⟨x, y, z⟩).x, .int .i64 (qn 1 n ⟨x, y, z⟩).y, .int .i64 (qn 1 n ⟨x, y, z⟩).z]) ∧ Below w.heap.size w w' := by
  go_enter Try.func52, Try.ntmps52
  go_wp2_with (fail)
  go_loopw [6] (fun i wr => ∃ j : Nat, j ≤ n ∧ i = .int .i64 j ∧ wr.heap[w.heap.size]? = some (.cells #[.int .i64 (qn 1 j ⟨x, y, z⟩).x, .int .i64 (qn 1 j ⟨x, y, z⟩).y, .int .i64 (qn 1 j ⟨x, y, z⟩).z] 33 (0, 0)) ∧ wr.heap[w.heap.size + 1]? = some (.cells #[.int .i64 0, .int .i64 0, .int .i64 0] 33 (0, 0)) ∧ Below w.heap.size w wr) (fun i _ => n - (intOf i).toNat)
  case atStart => exact ⟨0, by omega, rfl, heap_keep ((Below.refl _ _).alloc (Nat.le_refl _) _) (heap_alloc_new w _), heap_new (by simp), (by repeat (first | exact Below.refl _ _ | assumption | refine Below.drew ?_ | refine bdrewN ?_ _ | refine Below.setCell ?_ (by first | omega | (simp <;> omega)) _ | refine Below.alloc ?_ (by first | omega | (simp <;> omega)) _))⟩
  case round =>
    obtain ⟨j, hj, rfl, h0, h1, hbel⟩ := hrel
    have hsz := hbel.size
    have hl0 := lt_heap h0
    have hl1 := lt_heap h1
    have hq2 := cellk hbel hql hq
    have hpq : p < wr.heap.size := by omega
    have hqq : q < wr.heap.size := by omega
    have HB := Lib.hid hbel
    generalize hV : qn 1 j ⟨x, y, z⟩ = V at *
    obtain ⟨X, Y, Z⟩ := V
    have HV := Lib.hid hV
    clear hV hbel
    have ac0 : wr.cell? ⟨w.heap.size, 0, none⟩ = some (.int .i64 X) := (by simp [World.cell?, h0]); have af0 : wr.frozen? ⟨w.heap.size, 0, none⟩ = false := (by simp [World.frozen?, h0]); have ac1 : wr.cell? ⟨w.heap.size, 1, none⟩ = some (.int .i64 Y) := (by simp [World.cell?, h0]); have af1 : wr.frozen? ⟨w.heap.size, 1, none⟩ = false := (by simp [World.frozen?, h0]); have ac2 : wr.cell? ⟨w.heap.size, 2, none⟩ = some (.int .i64 Z) := (by simp [World.cell?, h0]); have af2 : wr.frozen? ⟨w.heap.size, 2, none⟩ = false := (by simp [World.frozen?, h0])
    have bc0 : wr.cell? ⟨(w.heap.size + 1), 0, none⟩ = some (.int .i64 0) := (by simp [World.cell?, h1]); have bf0 : wr.frozen? ⟨(w.heap.size + 1), 0, none⟩ = false := (by simp [World.frozen?, h1]); have bc1 : wr.cell? ⟨(w.heap.size + 1), 1, none⟩ = some (.int .i64 0) := (by simp [World.cell?, h1]); have bf1 : wr.frozen? ⟨(w.heap.size + 1), 1, none⟩ = false := (by simp [World.frozen?, h1]); have bc2 : wr.cell? ⟨(w.heap.size + 1), 2, none⟩ = some (.int .i64 0) := (by simp [World.cell?, h1]); have bf2 : wr.frozen? ⟨(w.heap.size + 1), 2, none⟩ = false := (by simp [World.frozen?, h1])
    have H0 := Lib.hid h0
    have H1 := Lib.hid h1
    clear h0 h1
    by_cases hlt : j < n
    · go_wp2_with (fail)
      refine (q2_any X Y Z _).mono ?_
      rintro e w2 ⟨rfl, hb2⟩
      have s2 := hb2.size
      have HX := Lib.hid (set3_heap (u0 := .int .i64 Z) (u1 := .int .i64 Y) (u2 := .int .i64 (wrap64 (-X))) (heap_keep hb2 H0.out))
      have HY := Lib.hid ((set3_other (w := w2) (b := w.heap.size) (c := w.heap.size + 1) (u0 := .int .i64 Z) (u1 := .int .i64 Y) (u2 := .int .i64 (wrap64 (-X))) (by omega)).trans (heap_keep hb2 H1.out))
      have HB2 := Lib.hid (HB.out.trans (hb2.mono hsz))
      have dc0 : w2.cell? ⟨w.heap.size, 0, none⟩ = some (.int .i64 X) := (by simp [World.cell?, (heap_keep hb2 H0.out)]); have df0 : w2.frozen? ⟨w.heap.size, 0, none⟩ = false := (by simp [World.frozen?, (heap_keep hb2 H0.out)]); have dc1 : w2.cell? ⟨w.heap.size, 1, none⟩ = some (.int .i64 Y) := (by simp [World.cell?, (heap_keep hb2 H0.out)]); have df1 : w2.frozen? ⟨w.heap.size, 1, none⟩ = false := (by simp [World.frozen?, (heap_keep hb2 H0.out)]); have dc2 : w2.cell? ⟨w.heap.size, 2, none⟩ = some (.int .i64 Z) := (by simp [World.cell?, (heap_keep hb2 H0.out)]); have df2 : w2.frozen? ⟨w.heap.size, 2, none⟩ = false := (by simp [World.frozen?, (heap_keep hb2 H0.out)])
      clear hb2
      go_wp2
      go_roundw
      case rel => exact ⟨j + 1, by omega, by go_num, by simp only [qn, HV.out, qv]; exact HX.out, HY.out, (by repeat (first | exact Below.refl _ _ | assumption | refine Below.drew ?_ | refine bdrewN ?_ _ | refine Below.setCell ?_ (by first | omega | (simp <;> omega)) _ | refine Below.alloc ?_ (by first | omega | (simp <;> omega)) _))⟩
      case measure => simp [intOf]; omega
    · obtain rfl : n = j := by omega
      have k0 := sc_same' (v := .int .i64 X) (is_some bc0)
      have k1 := sc_same' (v := .int .i64 Y) (is_set (p := ⟨w.heap.size + 1, 0, none⟩) (x := .int .i64 X) (is_some bc1))
      have k2 := sc_same' (v := .int .i64 Z) (is_set (p := ⟨w.heap.size + 1, 1, none⟩) (x := .int .i64 Y) (is_set (p := ⟨w.heap.size + 1, 0, none⟩) (x := .int .i64 X) (is_some bc2)))
      have HV0 : Hid ((qn 1 n ⟨x, y, z⟩).x = X ∧ (qn 1 n ⟨x, y, z⟩).y = Y ∧ (qn 1 n ⟨x, y, z⟩).z = Z) := Lib.hid (by rw [HV.out]; exact ⟨rfl, rfl, rfl⟩)
      go_wp2
      exact bodyPost_ret (v := .agg #[.int .i64 (qn 1 n ⟨x, y, z⟩).x, .int .i64 (qn 1 n ⟨x, y, z⟩).y, .int .i64 (qn 1 n ⟨x, y, z⟩).z]) (by simp [results, Try.results52, go_sem, k0, k1, k2, HV0.out]) rfl ⟨rfl, (by repeat (first | exact Below.refl _ _ | assumption | refine Below.drew ?_ | refine bdrewN ?_ _ | refine Below.setCell ?_ (by first | omega | (simp <;> omega)) _ | refine Below.alloc ?_ (by first | omega | (simp <;> omega)) _))⟩

set_option maxHeartbeats 2000000 in
theorem turnA2 (x y z : Int) (n p q : Nat) (w : World) (hn : n ≤ 1000) (hp : w.cell? ⟨p, 0, none⟩ = some (.int .i64 n)) (hq : w.cell? ⟨q, 0, none⟩ = some (.func (.func 98) #[] #[])) (hpl : p < w.heap.size) (hql : q < w.heap.size) :
    Calls Try.prog 52 #[.agg #[.int .i64 x, .int .i64 y, .int .i64 z], .pointer (some ⟨p, 0, none⟩), .pointer (some ⟨q, 0, none⟩)] w fun e w' => e = .returned (.agg #[.int .i64 (qn 2 n ⟨x, y, z⟩).x, .int .i64 (qn 2 n ⟨x, y, z⟩).y, .int .i64 (qn 2 n ⟨x, y, z⟩).z]) ∧ Below w.heap.size w w' := by
  go_enter Try.func52, Try.ntmps52
  go_wp2_with (fail)
  go_loopw [6] (fun i wr => ∃ j : Nat, j ≤ n ∧ i = .int .i64 j ∧ wr.heap[w.heap.size]? = some (.cells #[.int .i64 (qn 2 j ⟨x, y, z⟩).x, .int .i64 (qn 2 j ⟨x, y, z⟩).y, .int .i64 (qn 2 j ⟨x, y, z⟩).z] 33 (0, 0)) ∧ wr.heap[w.heap.size + 1]? = some (.cells #[.int .i64 0, .int .i64 0, .int .i64 0] 33 (0, 0)) ∧ Below w.heap.size w wr) (fun i _ => n - (intOf i).toNat)
  case atStart => exact ⟨0, by omega, rfl, heap_keep ((Below.refl _ _).alloc (Nat.le_refl _) _) (heap_alloc_new w _), heap_new (by simp), (by repeat (first | exact Below.refl _ _ | assumption | refine Below.drew ?_ | refine bdrewN ?_ _ | refine Below.setCell ?_ (by first | omega | (simp <;> omega)) _ | refine Below.alloc ?_ (by first | omega | (simp <;> omega)) _))⟩
  case round =>
    obtain ⟨j, hj, rfl, h0, h1, hbel⟩ := hrel
    have hsz := hbel.size
    have hl0 := lt_heap h0
    have hl1 := lt_heap h1
    have hq2 := cellk hbel hql hq
    have hpq : p < wr.heap.size := by omega
    have hqq : q < wr.heap.size := by omega
    have HB := Lib.hid hbel
    generalize hV : qn 2 j ⟨x, y, z⟩ = V at *
    obtain ⟨X, Y, Z⟩ := V
    have HV := Lib.hid hV
    clear hV hbel
    have ac0 : wr.cell? ⟨w.heap.size, 0, none⟩ = some (.int .i64 X) := (by simp [World.cell?, h0]); have af0 : wr.frozen? ⟨w.heap.size, 0, none⟩ = false := (by simp [World.frozen?, h0]); have ac1 : wr.cell? ⟨w.heap.size, 1, none⟩ = some (.int .i64 Y) := (by simp [World.cell?, h0]); have af1 : wr.frozen? ⟨w.heap.size, 1, none⟩ = false := (by simp [World.frozen?, h0]); have ac2 : wr.cell? ⟨w.heap.size, 2, none⟩ = some (.int .i64 Z) := (by simp [World.cell?, h0]); have af2 : wr.frozen? ⟨w.heap.size, 2, none⟩ = false := (by simp [World.frozen?, h0])
    have bc0 : wr.cell? ⟨(w.heap.size + 1), 0, none⟩ = some (.int .i64 0) := (by simp [World.cell?, h1]); have bf0 : wr.frozen? ⟨(w.heap.size + 1), 0, none⟩ = false := (by simp [World.frozen?, h1]); have bc1 : wr.cell? ⟨(w.heap.size + 1), 1, none⟩ = some (.int .i64 0) := (by simp [World.cell?, h1]); have bf1 : wr.frozen? ⟨(w.heap.size + 1), 1, none⟩ = false := (by simp [World.frozen?, h1]); have bc2 : wr.cell? ⟨(w.heap.size + 1), 2, none⟩ = some (.int .i64 0) := (by simp [World.cell?, h1]); have bf2 : wr.frozen? ⟨(w.heap.size + 1), 2, none⟩ = false := (by simp [World.frozen?, h1])
    have H0 := Lib.hid h0
    have H1 := Lib.hid h1
    clear h0 h1
    by_cases hlt : j < n
    · go_wp2_with (fail)
      refine (q3_any X Y Z _).mono ?_
      rintro e w2 ⟨rfl, hb2⟩
      have s2 := hb2.size
      have HX := Lib.hid (set3_heap (u0 := .int .i64 (wrap64 (-Y))) (u1 := .int .i64 X) (u2 := .int .i64 Z) (heap_keep hb2 H0.out))
      have HY := Lib.hid ((set3_other (w := w2) (b := w.heap.size) (c := w.heap.size + 1) (u0 := .int .i64 (wrap64 (-Y))) (u1 := .int .i64 X) (u2 := .int .i64 Z) (by omega)).trans (heap_keep hb2 H1.out))
      have HB2 := Lib.hid (HB.out.trans (hb2.mono hsz))
      have dc0 : w2.cell? ⟨w.heap.size, 0, none⟩ = some (.int .i64 X) := (by simp [World.cell?, (heap_keep hb2 H0.out)]); have df0 : w2.frozen? ⟨w.heap.size, 0, none⟩ = false := (by simp [World.frozen?, (heap_keep hb2 H0.out)]); have dc1 : w2.cell? ⟨w.heap.size, 1, none⟩ = some (.int .i64 Y) := (by simp [World.cell?, (heap_keep hb2 H0.out)]); have df1 : w2.frozen? ⟨w.heap.size, 1, none⟩ = false := (by simp [World.frozen?, (heap_keep hb2 H0.out)]); have dc2 : w2.cell? ⟨w.heap.size, 2, none⟩ = some (.int .i64 Z) := (by simp [World.cell?, (heap_keep hb2 H0.out)]); have df2 : w2.frozen? ⟨w.heap.size, 2, none⟩ = false := (by simp [World.frozen?, (heap_keep hb2 H0.out)])
      clear hb2
      go_wp2
      go_roundw
      case rel => exact ⟨j + 1, by omega, by go_num, by simp only [qn, HV.out, qv]; exact HX.out, HY.out, (by repeat (first | exact Below.refl _ _ | assumption | refine Below.drew ?_ | refine bdrewN ?_ _ | refine Below.setCell ?_ (by first | omega | (simp <;> omega)) _ | refine Below.alloc ?_ (by first | omega | (simp <;> omega)) _))⟩
      case measure => simp [intOf]; omega
    · obtain rfl : n = j := by omega
      have k0 := sc_same' (v := .int .i64 X) (is_some bc0)
      have k1 := sc_same' (v := .int .i64 Y) (is_set (p := ⟨w.heap.size + 1, 0, none⟩) (x := .int .i64 X) (is_some bc1))
      have k2 := sc_same' (v := .int .i64 Z) (is_set (p := ⟨w.heap.size + 1, 1, none⟩) (x := .int .i64 Y) (is_set (p := ⟨w.heap.size + 1, 0, none⟩) (x := .int .i64 X) (is_some bc2)))
      have HV0 : Hid ((qn 2 n ⟨x, y, z⟩).x = X ∧ (qn 2 n ⟨x, y, z⟩).y = Y ∧ (qn 2 n ⟨x, y, z⟩).z = Z) := Lib.hid (by rw [HV.out]; exact ⟨rfl, rfl, rfl⟩)
      go_wp2
      exact bodyPost_ret (v := .agg #[.int .i64 (qn 2 n ⟨x, y, z⟩).x, .int .i64 (qn 2 n ⟨x, y, z⟩).y, .int .i64 (qn 2 n ⟨x, y, z⟩).z]) (by simp [results, Try.results52, go_sem, k0, k1, k2, HV0.out]) rfl ⟨rfl, (by repeat (first | exact Below.refl _ _ | assumption | refine Below.drew ?_ | refine bdrewN ?_ _ | refine Below.setCell ?_ (by first | omega | (simp <;> omega)) _ | refine Below.alloc ?_ (by first | omega | (simp <;> omega)) _))⟩
end Go.Proofs.Ytbkipjceglpmcaa

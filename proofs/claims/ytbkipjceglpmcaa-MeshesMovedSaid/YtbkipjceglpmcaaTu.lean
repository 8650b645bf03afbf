/- The closures of Moved and of the reference's turned, moved and mirrored meshes. -/
import Derived.Test.YtbkipjceglpmcaaTd
set_option linter.unusedSimpArgs false
set_option linter.unusedVariables false
namespace Go.Proofs.Ytbkipjceglpmcaa
open Go.RowKit

def addv (b v : V3) : V3 := ⟨wrap64 (v.x + b.x), wrap64 (v.y + b.y), wrap64 (v.z + b.z)⟩

theorem movA_any (x y z p q r : Int) (b : Nat) (w : World) (h0 : w.cell? ⟨b, 0, none⟩ = some (.int .i64 p)) (h1 : w.cell? ⟨b, 1, none⟩ = some (.int .i64 q)) (h2 : w.cell? ⟨b, 2, none⟩ = some (.int .i64 r)) (hb : b < w.heap.size) :
    Calls Try.prog 54 #[.agg #[.int .i64 x, .int .i64 y, .int .i64 z], .pointer (some ⟨b, 0, none⟩)] w fun e w' => e = .returned (.agg #[.int .i64 (addv ⟨p, q, r⟩ ⟨x, y, z⟩).x, .int .i64 (addv ⟨p, q, r⟩ ⟨x, y, z⟩).y, .int .i64 (addv ⟨p, q, r⟩ ⟨x, y, z⟩).z]) ∧ Below w.heap.size w w' := by
  go_enter Try.func54, Try.ntmps54
  go_wp2
  exact bodyPost_ret (v := .agg #[.int .i64 (addv ⟨p, q, r⟩ ⟨x, y, z⟩).x, .int .i64 (addv ⟨p, q, r⟩ ⟨x, y, z⟩).y, .int .i64 (addv ⟨p, q, r⟩ ⟨x, y, z⟩).z]) (by simp [results, Try.results54, go_sem, addv]) rfl ⟨rfl, (by repeat (first | exact Below.refl _ _ | assumption | refine Below.drew ?_ | refine bdrewN ?_ _ | refine Below.setCell ?_ (by first | omega | (simp <;> omega)) _ | refine Below.alloc ?_ (by first | omega | (simp <;> omega)) _))⟩

theorem movB_any (x y z p q r : Int) (b : Nat) (w : World) (h0 : w.cell? ⟨b, 0, none⟩ = some (.int .i64 p)) (h1 : w.cell? ⟨b, 1, none⟩ = some (.int .i64 q)) (h2 : w.cell? ⟨b, 2, none⟩ = some (.int .i64 r)) (hb : b < w.heap.size) :
    Calls Try.prog 58 #[.agg #[.int .i64 x, .int .i64 y, .int .i64 z], .pointer (some ⟨b, 0, none⟩)] w fun e w' => e = .returned (.agg #[.int .i64 (addv ⟨p, q, r⟩ ⟨x, y, z⟩).x, .int .i64 (addv ⟨p, q, r⟩ ⟨x, y, z⟩).y, .int .i64 (addv ⟨p, q, r⟩ ⟨x, y, z⟩).z]) ∧ Below w.heap.size w w' := by
  go_enter Try.func58, Try.ntmps58
  go_wp2
  exact bodyPost_ret (v := .agg #[.int .i64 (addv ⟨p, q, r⟩ ⟨x, y, z⟩).x, .int .i64 (addv ⟨p, q, r⟩ ⟨x, y, z⟩).y, .int .i64 (addv ⟨p, q, r⟩ ⟨x, y, z⟩).z]) (by simp [results, Try.results58, go_sem, addv]) rfl ⟨rfl, (by repeat (first | exact Below.refl _ _ | assumption | refine Below.drew ?_ | refine bdrewN ?_ _ | refine Below.setCell ?_ (by first | omega | (simp <;> omega)) _ | refine Below.alloc ?_ (by first | omega | (simp <;> omega)) _))⟩

theorem set_turnB0 {w : World} {b : Nat} {v0 v1 v2 u0 u1 : Value} {t : TypeId} (h : w.heap[b]? = some (.cells #[v0, v1, v2] t (0, 0))) :
    ((w.setCell ⟨b, 1, none⟩ u0).setCell ⟨b, 2, none⟩ u1).heap[b]? = some (.cells #[v0, u0, u1] t (0, 0)) := by
  simp [World.setCell, Array.getElem?_modify, h]
set_option maxHeartbeats 2000000 in
theorem turnB0 (x y z : Int) (n p q : Nat)  (w : World) (hn : n ≤ 1000) (hp : w.cell? ⟨p, 0, none⟩ = some (.int .i64 n)) (hq : w.cell? ⟨q, 0, none⟩ = some (.int .i64 0)) (hpl : p < w.heap.size) (hql : q < w.heap.size) :
    Calls Try.prog 57 #[.agg #[.int .i64 x, .int .i64 y, .int .i64 z], .pointer (some ⟨p, 0, none⟩), .pointer (some ⟨q, 0, none⟩)] w fun e w' => e = .returned (.agg #[.int .i64 (qn 0 n ⟨x, y, z⟩).x, .int .i64 (qn 0 n ⟨x, y, z⟩).y, .int .i64 (qn 0 n ⟨x, y, z⟩).z]) ∧ Below w.heap.size w w' := by
  skip
  go_enter Try.func57, Try.ntmps57
  go_wp2_with (fail)
  go_loopw [6] (fun i wr => ∃ j : Nat, j ≤ n ∧ i = .int .i64 j ∧ wr.heap[w.heap.size]? = some (.cells #[.int .i64 (qn 0 j ⟨x, y, z⟩).x, .int .i64 (qn 0 j ⟨x, y, z⟩).y, .int .i64 (qn 0 j ⟨x, y, z⟩).z] 33 (0, 0)) ∧ wr.heap[w.heap.size + 1]? = some (.cells #[.int .i64 0, .int .i64 0, .int .i64 0] 33 (0, 0)) ∧ Below w.heap.size w wr) (fun i _ => n - (intOf i).toNat)
  case atStart => exact ⟨0, by omega, rfl, heap_keep ((Below.refl _ _).alloc (Nat.le_refl _) _) (heap_alloc_new w _), heap_new (by simp), (by repeat (first | exact Below.refl _ _ | assumption | refine Below.drew ?_ | refine bdrewN ?_ _ | refine Below.setCell ?_ (by first | omega | (simp <;> omega)) _ | refine Below.alloc ?_ (by first | omega | (simp <;> omega)) _))⟩
  case round =>
    obtain ⟨j, hj, rfl, h0, h1, hbel⟩ := hrel
    have hsz := hbel.size
    have hl0 := lt_heap h0
    have hl1 := lt_heap h1
    have hq2 := cellk hbel hql hq
    have HB := Lib.hid hbel
    generalize hV : qn 0 j ⟨x, y, z⟩ = V at *
    obtain ⟨X, Y, Z⟩ := V
    have HV := Lib.hid hV
    clear hV hbel
    have ac0 : wr.cell? ⟨w.heap.size, 0, none⟩ = some (.int .i64 X) := (by simp [World.cell?, h0]); have af0 : wr.frozen? ⟨w.heap.size, 0, none⟩ = false := (by simp [World.frozen?, h0]); have ac1 : wr.cell? ⟨w.heap.size, 1, none⟩ = some (.int .i64 Y) := (by simp [World.cell?, h0]); have af1 : wr.frozen? ⟨w.heap.size, 1, none⟩ = false := (by simp [World.frozen?, h0]); have ac2 : wr.cell? ⟨w.heap.size, 2, none⟩ = some (.int .i64 Z) := (by simp [World.cell?, h0]); have af2 : wr.frozen? ⟨w.heap.size, 2, none⟩ = false := (by simp [World.frozen?, h0])
    have bc0 : wr.cell? ⟨(w.heap.size + 1), 0, none⟩ = some (.int .i64 0) := (by simp [World.cell?, h1]); have bf0 : wr.frozen? ⟨(w.heap.size + 1), 0, none⟩ = false := (by simp [World.frozen?, h1]); have bc1 : wr.cell? ⟨(w.heap.size + 1), 1, none⟩ = some (.int .i64 0) := (by simp [World.cell?, h1]); have bf1 : wr.frozen? ⟨(w.heap.size + 1), 1, none⟩ = false := (by simp [World.frozen?, h1]); have bc2 : wr.cell? ⟨(w.heap.size + 1), 2, none⟩ = some (.int .i64 0) := (by simp [World.cell?, h1]); have bf2 : wr.frozen? ⟨(w.heap.size + 1), 2, none⟩ = false := (by simp [World.frozen?, h1])
    have H0 := Lib.hid h0
    have H1 := Lib.hid h1
    clear h0 h1
    by_cases hlt : j < n
    · have HX := Lib.hid (set_turnB0 (u0 := .int .i64 (wrap64 (-Z))) (u1 := .int .i64 (Y)) H0.out)
      have HY := Lib.hid ((Below.heap_setCell (wr.setCell ⟨w.heap.size, 1, none⟩ (.int .i64 (wrap64 (-Z)))) ⟨w.heap.size, 2, none⟩ (.int .i64 (Y)) (w.heap.size + 1) (by simp)).trans ((Below.heap_setCell wr ⟨w.heap.size, 1, none⟩ (.int .i64 (wrap64 (-Z))) (w.heap.size + 1) (by simp)).trans H1.out))
      go_wp2
      go_roundw
      case rel => exact ⟨j + 1, by omega, by go_num, by simp only [qn, HV.out, qv]; skip; exact HX.out, HY.out, (by repeat (first | exact Below.refl _ _ | assumption | refine Below.drew ?_ | refine bdrewN ?_ _ | refine Below.setCell ?_ (by first | omega | (simp <;> omega)) _ | refine Below.alloc ?_ (by first | omega | (simp <;> omega)) _))⟩
      case measure => simp [intOf]; omega
    · obtain rfl : n = j := by omega
      have k0 := sc_same' (v := .int .i64 X) (is_some bc0)
      have k1 := sc_same' (v := .int .i64 Y) (is_set (p := ⟨w.heap.size + 1, 0, none⟩) (x := .int .i64 X) (is_some bc1))
      have k2 := sc_same' (v := .int .i64 Z) (is_set (p := ⟨w.heap.size + 1, 1, none⟩) (x := .int .i64 Y) (is_set (p := ⟨w.heap.size + 1, 0, none⟩) (x := .int .i64 X) (is_some bc2)))
      have HV0 : Hid ((qn 0 n ⟨x, y, z⟩).x = X ∧ (qn 0 n ⟨x, y, z⟩).y = Y ∧ (qn 0 n ⟨x, y, z⟩).z = Z) := Lib.hid (by rw [HV.out]; exact ⟨rfl, rfl, rfl⟩)
      go_wp2
      exact bodyPost_ret (v := .agg #[.int .i64 (qn 0 n ⟨x, y, z⟩).x, .int .i64 (qn 0 n ⟨x, y, z⟩).y, .int .i64 (qn 0 n ⟨x, y, z⟩).z]) (by simp [results, Try.results57, go_sem, k0, k1, k2, HV0.out]) rfl ⟨rfl, (by repeat (first | exact Below.refl _ _ | assumption | refine Below.drew ?_ | refine bdrewN ?_ _ | refine Below.setCell ?_ (by first | omega | (simp <;> omega)) _ | refine Below.alloc ?_ (by first | omega | (simp <;> omega)) _))⟩

theorem set_turnB1 {w : World} {b : Nat} {v0 v1 v2 u0 u1 : Value} {t : TypeId} (h : w.heap[b]? = some (.cells #[v0, v1, v2] t (0, 0))) :
    ((w.setCell ⟨b, 2, none⟩ u0).setCell ⟨b, 0, none⟩ u1).heap[b]? = some (.cells #[u1, v1, u0] t (0, 0)) := by
  simp [World.setCell, Array.getElem?_modify, h]
set_option maxHeartbeats 2000000 in
theorem turnB1 (x y z : Int) (n p q : Nat)  (w : World) (hn : n ≤ 1000) (hp : w.cell? ⟨p, 0, none⟩ = some (.int .i64 n)) (hq : w.cell? ⟨q, 0, none⟩ = some (.int .i64 1)) (hpl : p < w.heap.size) (hql : q < w.heap.size) :
    Calls Try.prog 57 #[.agg #[.int .i64 x, .int .i64 y, .int .i64 z], .pointer (some ⟨p, 0, none⟩), .pointer (some ⟨q, 0, none⟩)] w fun e w' => e = .returned (.agg #[.int .i64 (qn 1 n ⟨x, y, z⟩).x, .int .i64 (qn 1 n ⟨x, y, z⟩).y, .int .i64 (qn 1 n ⟨x, y, z⟩).z]) ∧ Below w.heap.size w w' := by
  skip
  go_enter Try.func57, Try.ntmps57
  go_wp2_with (fail)
  go_loopw [6] (fun i wr => ∃ j : Nat, j ≤ n ∧ i = .int .i64 j ∧ wr.heap[w.heap.size]? = some (.cells #[.int .i64 (qn 1 j ⟨x, y, z⟩).x, .int .i64 (qn 1 j ⟨x, y, z⟩).y, .int .i64 (qn 1 j ⟨x, y, z⟩).z] 33 (0, 0)) ∧ wr.heap[w.heap.size + 1]? = some (.cells #[.int .i64 0, .int .i64 0, .int .i64 0] 33 (0, 0)) ∧ Below w.heap.size w wr) (fun i _ => n - (intOf i).toNat)
  case atStart => exact ⟨0, by omega, rfl, heap_keep ((Below.refl _ _).alloc (Nat.le_refl _) _) (heap_alloc_new w _), heap_new (by simp), (by repeat (first | exact Below.refl _ _ | assumption | refine Below.drew ?_ | refine bdrewN ?_ _ | refine Below.setCell ?_ (by first | omega | (simp <;> omega)) _ | refine Below.alloc ?_ (by first | omega | (simp <;> omega)) _))⟩
  case round =>
    obtain ⟨j, hj, rfl, h0, h1, hbel⟩ := hrel
    have hsz := hbel.size
    have hl0 := lt_heap h0
    have hl1 := lt_heap h1
    have hq2 := cellk hbel hql hq
    have HB := Lib.hid hbel
    generalize hV : qn 1 j ⟨x, y, z⟩ = V at *
    obtain ⟨X, Y, Z⟩ := V
    have HV := Lib.hid hV
    clear hV hbel
    have ac0 : wr.cell? ⟨w.heap.size, 0, none⟩ = some (.int .i64 X) := (by simp [World.cell?, h0]); have af0 : wr.frozen? ⟨w.heap.size, 0, none⟩ = false := (by simp [World.frozen?, h0]); have ac1 : wr.cell? ⟨w.heap.size, 1, none⟩ = some (.int .i64 Y) := (by simp [World.cell?, h0]); have af1 : wr.frozen? ⟨w.heap.size, 1, none⟩ = false := (by simp [World.frozen?, h0]); have ac2 : wr.cell? ⟨w.heap.size, 2, none⟩ = some (.int .i64 Z) := (by simp [World.cell?, h0]); have af2 : wr.frozen? ⟨w.heap.size, 2, none⟩ = false := (by simp [World.frozen?, h0])
    have bc0 : wr.cell? ⟨(w.heap.size + 1), 0, none⟩ = some (.int .i64 0) := (by simp [World.cell?, h1]); have bf0 : wr.frozen? ⟨(w.heap.size + 1), 0, none⟩ = false := (by simp [World.frozen?, h1]); have bc1 : wr.cell? ⟨(w.heap.size + 1), 1, none⟩ = some (.int .i64 0) := (by simp [World.cell?, h1]); have bf1 : wr.frozen? ⟨(w.heap.size + 1), 1, none⟩ = false := (by simp [World.frozen?, h1]); have bc2 : wr.cell? ⟨(w.heap.size + 1), 2, none⟩ = some (.int .i64 0) := (by simp [World.cell?, h1]); have bf2 : wr.frozen? ⟨(w.heap.size + 1), 2, none⟩ = false := (by simp [World.frozen?, h1])
    have H0 := Lib.hid h0
    have H1 := Lib.hid h1
    clear h0 h1
    by_cases hlt : j < n
    · have HX := Lib.hid (set_turnB1 (u0 := .int .i64 (wrap64 (-X))) (u1 := .int .i64 (Z)) H0.out)
      have HY := Lib.hid ((Below.heap_setCell (wr.setCell ⟨w.heap.size, 2, none⟩ (.int .i64 (wrap64 (-X)))) ⟨w.heap.size, 0, none⟩ (.int .i64 (Z)) (w.heap.size + 1) (by simp)).trans ((Below.heap_setCell wr ⟨w.heap.size, 2, none⟩ (.int .i64 (wrap64 (-X))) (w.heap.size + 1) (by simp)).trans H1.out))
      go_wp2
      go_roundw
      case rel => exact ⟨j + 1, by omega, by go_num, by simp only [qn, HV.out, qv]; skip; exact HX.out, HY.out, (by repeat (first | exact Below.refl _ _ | assumption | refine Below.drew ?_ | refine bdrewN ?_ _ | refine Below.setCell ?_ (by first | omega | (simp <;> omega)) _ | refine Below.alloc ?_ (by first | omega | (simp <;> omega)) _))⟩
      case measure => simp [intOf]; omega
    · obtain rfl : n = j := by omega
      have k0 := sc_same' (v := .int .i64 X) (is_some bc0)
      have k1 := sc_same' (v := .int .i64 Y) (is_set (p := ⟨w.heap.size + 1, 0, none⟩) (x := .int .i64 X) (is_some bc1))
      have k2 := sc_same' (v := .int .i64 Z) (is_set (p := ⟨w.heap.size + 1, 1, none⟩) (x := .int .i64 Y) (is_set (p := ⟨w.heap.size + 1, 0, none⟩) (x := .int .i64 X) (is_some bc2)))
      have HV0 : Hid ((qn 1 n ⟨x, y, z⟩).x = X ∧ (qn 1 n ⟨x, y, z⟩).y = Y ∧ (qn 1 n ⟨x, y, z⟩).z = Z) := Lib.hid (by rw [HV.out]; exact ⟨rfl, rfl, rfl⟩)
      go_wp2
      exact bodyPost_ret (v := .agg #[.int .i64 (qn 1 n ⟨x, y, z⟩).x, .int .i64 (qn 1 n ⟨x, y, z⟩).y, .int .i64 (qn 1 n ⟨x, y, z⟩).z]) (by simp [results, Try.results57, go_sem, k0, k1, k2, HV0.out]) rfl ⟨rfl, (by repeat (first | exact Below.refl _ _ | assumption | refine Below.drew ?_ | refine bdrewN ?_ _ | refine Below.setCell ?_ (by first | omega | (simp <;> omega)) _ | refine Below.alloc ?_ (by first | omega | (simp <;> omega)) _))⟩

theorem set_turnB2 {w : World} {b : Nat} {v0 v1 v2 u0 u1 : Value} {t : TypeId} (h : w.heap[b]? = some (.cells #[v0, v1, v2] t (0, 0))) :
    ((w.setCell ⟨b, 0, none⟩ u0).setCell ⟨b, 1, none⟩ u1).heap[b]? = some (.cells #[u0, u1, v2] t (0, 0)) := by
  simp [World.setCell, Array.getElem?_modify, h]
set_option maxHeartbeats 2000000 in
theorem turnB2 (x y z : Int) (n p q : Nat) (a : Int) (ha0 : a ≠ 0) (ha1 : a ≠ 1) (w : World) (hn : n ≤ 1000) (hp : w.cell? ⟨p, 0, none⟩ = some (.int .i64 n)) (hq : w.cell? ⟨q, 0, none⟩ = some (.int .i64 a)) (hpl : p < w.heap.size) (hql : q < w.heap.size) :
    Calls Try.prog 57 #[.agg #[.int .i64 x, .int .i64 y, .int .i64 z], .pointer (some ⟨p, 0, none⟩), .pointer (some ⟨q, 0, none⟩)] w fun e w' => e = .returned (.agg #[.int .i64 (qn a n ⟨x, y, z⟩).x, .int .i64 (qn a n ⟨x, y, z⟩).y, .int .i64 (qn a n ⟨x, y, z⟩).z]) ∧ Below w.heap.size w w' := by
  have e0 : (a == 0) = false := by simpa using ha0
  have e1 : (a == 1) = false := by simpa using ha1
  go_enter Try.func57, Try.ntmps57
  go_wp2_with (fail)
  go_loopw [6] (fun i wr => ∃ j : Nat, j ≤ n ∧ i = .int .i64 j ∧ wr.heap[w.heap.size]? = some (.cells #[.int .i64 (qn a j ⟨x, y, z⟩).x, .int .i64 (qn a j ⟨x, y, z⟩).y, .int .i64 (qn a j ⟨x, y, z⟩).z] 33 (0, 0)) ∧ wr.heap[w.heap.size + 1]? = some (.cells #[.int .i64 0, .int .i64 0, .int .i64 0] 33 (0, 0)) ∧ Below w.heap.size w wr) (fun i _ => n - (intOf i).toNat)
  case atStart => exact ⟨0, by omega, rfl, heap_keep ((Below.refl _ _).alloc (Nat.le_refl _) _) (heap_alloc_new w _), heap_new (by simp), (by repeat (first | exact Below.refl _ _ | assumption | refine Below.drew ?_ | refine bdrewN ?_ _ | refine Below.setCell ?_ (by first | omega | (simp <;> omega)) _ | refine Below.alloc ?_ (by first | omega | (simp <;> omega)) _))⟩
  case round =>
    obtain ⟨j, hj, rfl, h0, h1, hbel⟩ := hrel
    have hsz := hbel.size
    have hl0 := lt_heap h0
    have hl1 := lt_heap h1
    have hq2 := cellk hbel hql hq
    have HB := Lib.hid hbel
    generalize hV : qn a j ⟨x, y, z⟩ = V at *
    obtain ⟨X, Y, Z⟩ := V
    have HV := Lib.hid hV
    clear hV hbel
    have ac0 : wr.cell? ⟨w.heap.size, 0, none⟩ = some (.int .i64 X) := (by simp [World.cell?, h0]); have af0 : wr.frozen? ⟨w.heap.size, 0, none⟩ = false := (by simp [World.frozen?, h0]); have ac1 : wr.cell? ⟨w.heap.size, 1, none⟩ = some (.int .i64 Y) := (by simp [World.cell?, h0]); have af1 : wr.frozen? ⟨w.heap.size, 1, none⟩ = false := (by simp [World.frozen?, h0]); have ac2 : wr.cell? ⟨w.heap.size, 2, none⟩ = some (.int .i64 Z) := (by simp [World.cell?, h0]); have af2 : wr.frozen? ⟨w.heap.size, 2, none⟩ = false := (by simp [World.frozen?, h0])
    have bc0 : wr.cell? ⟨(w.heap.size + 1), 0, none⟩ = some (.int .i64 0) := (by simp [World.cell?, h1]); have bf0 : wr.frozen? ⟨(w.heap.size + 1), 0, none⟩ = false := (by simp [World.frozen?, h1]); have bc1 : wr.cell? ⟨(w.heap.size + 1), 1, none⟩ = some (.int .i64 0) := (by simp [World.cell?, h1]); have bf1 : wr.frozen? ⟨(w.heap.size + 1), 1, none⟩ = false := (by simp [World.frozen?, h1]); have bc2 : wr.cell? ⟨(w.heap.size + 1), 2, none⟩ = some (.int .i64 0) := (by simp [World.cell?, h1]); have bf2 : wr.frozen? ⟨(w.heap.size + 1), 2, none⟩ = false := (by simp [World.frozen?, h1])
    have H0 := Lib.hid h0
    have H1 := Lib.hid h1
    clear h0 h1
    by_cases hlt : j < n
    · have HX := Lib.hid (set_turnB2 (u0 := .int .i64 (wrap64 (-Y))) (u1 := .int .i64 (X)) H0.out)
      have HY := Lib.hid ((Below.heap_setCell (wr.setCell ⟨w.heap.size, 0, none⟩ (.int .i64 (wrap64 (-Y)))) ⟨w.heap.size, 1, none⟩ (.int .i64 (X)) (w.heap.size + 1) (by simp)).trans ((Below.heap_setCell wr ⟨w.heap.size, 0, none⟩ (.int .i64 (wrap64 (-Y))) (w.heap.size + 1) (by simp)).trans H1.out))
      go_wp2
      go_roundw
      case rel => exact ⟨j + 1, by omega, by go_num, by simp only [qn, HV.out, qv]; rw [if_neg ha0, if_neg ha1]; exact HX.out, HY.out, (by repeat (first | exact Below.refl _ _ | assumption | refine Below.drew ?_ | refine bdrewN ?_ _ | refine Below.setCell ?_ (by first | omega | (simp <;> omega)) _ | refine Below.alloc ?_ (by first | omega | (simp <;> omega)) _))⟩
      case measure => simp [intOf]; omega
    · obtain rfl : n = j := by omega
      have k0 := sc_same' (v := .int .i64 X) (is_some bc0)
      have k1 := sc_same' (v := .int .i64 Y) (is_set (p := ⟨w.heap.size + 1, 0, none⟩) (x := .int .i64 X) (is_some bc1))
      have k2 := sc_same' (v := .int .i64 Z) (is_set (p := ⟨w.heap.size + 1, 1, none⟩) (x := .int .i64 Y) (is_set (p := ⟨w.heap.size + 1, 0, none⟩) (x := .int .i64 X) (is_some bc2)))
      have HV0 : Hid ((qn a n ⟨x, y, z⟩).x = X ∧ (qn a n ⟨x, y, z⟩).y = Y ∧ (qn a n ⟨x, y, z⟩).z = Z) := Lib.hid (by rw [HV.out]; exact ⟨rfl, rfl, rfl⟩)
      go_wp2
      exact bodyPost_ret (v := .agg #[.int .i64 (qn a n ⟨x, y, z⟩).x, .int .i64 (qn a n ⟨x, y, z⟩).y, .int .i64 (qn a n ⟨x, y, z⟩).z]) (by simp [results, Try.results57, go_sem, k0, k1, k2, HV0.out]) rfl ⟨rfl, (by repeat (first | exact Below.refl _ _ | assumption | refine Below.drew ?_ | refine bdrewN ?_ _ | refine Below.setCell ?_ (by first | omega | (simp <;> omega)) _ | refine Below.alloc ?_ (by first | omega | (simp <;> omega)) _))⟩

theorem mirB0 (x y z : Int)  (q : Nat) (w : World) (hq : w.cell? ⟨q, 0, none⟩ = some (.int .i64 0)) (hql : q < w.heap.size) :
    Calls Try.prog 60 #[.agg #[.int .i64 x, .int .i64 y, .int .i64 z], .pointer (some ⟨q, 0, none⟩)] w fun e w' => e = .returned (.agg #[.int .i64 (mv 0 ⟨x, y, z⟩).x, .int .i64 (mv 0 ⟨x, y, z⟩).y, .int .i64 (mv 0 ⟨x, y, z⟩).z]) ∧ Below w.heap.size w w' := by
  skip
  go_enter Try.func60, Try.ntmps60
  go_wp2
  exact bodyPost_ret (v := .agg #[.int .i64 (mv 0 ⟨x, y, z⟩).x, .int .i64 (mv 0 ⟨x, y, z⟩).y, .int .i64 (mv 0 ⟨x, y, z⟩).z]) (by simp [results, Try.results60, go_sem, mv]) rfl ⟨rfl, (by repeat (first | exact Below.refl _ _ | assumption | refine Below.drew ?_ | refine bdrewN ?_ _ | refine Below.setCell ?_ (by first | omega | (simp <;> omega)) _ | refine Below.alloc ?_ (by first | omega | (simp <;> omega)) _))⟩

theorem mirB1 (x y z : Int)  (q : Nat) (w : World) (hq : w.cell? ⟨q, 0, none⟩ = some (.int .i64 1)) (hql : q < w.heap.size) :
    Calls Try.prog 60 #[.agg #[.int .i64 x, .int .i64 y, .int .i64 z], .pointer (some ⟨q, 0, none⟩)] w fun e w' => e = .returned (.agg #[.int .i64 (mv 1 ⟨x, y, z⟩).x, .int .i64 (mv 1 ⟨x, y, z⟩).y, .int .i64 (mv 1 ⟨x, y, z⟩).z]) ∧ Below w.heap.size w w' := by
  skip
  go_enter Try.func60, Try.ntmps60
  go_wp2
  exact bodyPost_ret (v := .agg #[.int .i64 (mv 1 ⟨x, y, z⟩).x, .int .i64 (mv 1 ⟨x, y, z⟩).y, .int .i64 (mv 1 ⟨x, y, z⟩).z]) (by simp [results, Try.results60, go_sem, mv]) rfl ⟨rfl, (by repeat (first | exact Below.refl _ _ | assumption | refine Below.drew ?_ | refine bdrewN ?_ _ | refine Below.setCell ?_ (by first | omega | (simp <;> omega)) _ | refine Below.alloc ?_ (by first | omega | (simp <;> omega)) _))⟩

theorem mirB2 (x y z : Int) (a : Int) (ha0 : a ≠ 0) (ha1 : a ≠ 1) (q : Nat) (w : World) (hq : w.cell? ⟨q, 0, none⟩ = some (.int .i64 a)) (hql : q < w.heap.size) :
    Calls Try.prog 60 #[.agg #[.int .i64 x, .int .i64 y, .int .i64 z], .pointer (some ⟨q, 0, none⟩)] w fun e w' => e = .returned (.agg #[.int .i64 (mv a ⟨x, y, z⟩).x, .int .i64 (mv a ⟨x, y, z⟩).y, .int .i64 (mv a ⟨x, y, z⟩).z]) ∧ Below w.heap.size w w' := by
  have e0 : (a == 0) = false := by simpa using ha0
  have e1 : (a == 1) = false := by simpa using ha1
  go_enter Try.func60, Try.ntmps60
  go_wp2
  exact bodyPost_ret (v := .agg #[.int .i64 (mv a ⟨x, y, z⟩).x, .int .i64 (mv a ⟨x, y, z⟩).y, .int .i64 (mv a ⟨x, y, z⟩).z]) (by simp [results, Try.results60, go_sem, mv, ha0, ha1]) rfl ⟨rfl, (by repeat (first | exact Below.refl _ _ | assumption | refine Below.drew ?_ | refine bdrewN ?_ _ | refine Below.setCell ?_ (by first | omega | (simp <;> omega)) _ | refine Below.alloc ?_ (by first | omega | (simp <;> omega)) _))⟩

/-- A number, kept near. -/
def short (n : Int) : Int := max (-300000) (min n 300000)
theorem short_any (n : Int) (w : World) : Calls Try.prog 53 #[.int .i64 n] w fun e w' => e = .returned (.int .i64 (short n)) ∧ w = w' := by
  go_enter Try.func53, Try.ntmps53
  go_wp2
  all_goals
    go_ret
    exact ⟨ret_int (by unfold short; omega), rfl⟩
theorem short_in {n : Int} (h : -300000 ≤ n ∧ n ≤ 300000) : short n = n := by unfold short; omega
theorem short_far {n : Int} (h : ¬ (-300000 ≤ n ∧ n ≤ 300000)) : short n = 300000 ∨ short n = -300000 := by unfold short; omega
end Go.Proofs.Ytbkipjceglpmcaa

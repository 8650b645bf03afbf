/- Which places two cells cover together. -/
import Derived.Test.YtllagjncibfcmaaGreatDoorKb
set_option linter.unusedSimpArgs false
set_option linter.unusedVariables false
namespace Go.Proofs.YtllagjncibfcmaaGreatDoor
open Go.RowKit

theorem covers1_any {s x y : Int} {n : Nat} {R : Nat → List UInt8} {cx cy : Int} {m : Nat} (B C : Nat) (a : Option Addr) (c : Nat) (p q : Int) (w : World) (hv : VC s x y n R cx cy m) (hr : RowS w a n R)
    (h4 : w.heap[B]? = some (.cells #[.int .i64 cx, .int .i64 cy, .int .i64 (cx + m), .int .i64 (cy + n)] 52 (0, 0))) (h5 : w.heap[C]? = some (.cells #[.int .i64 s, .int .i64 x, .int .i64 y, .slice a n c] 28 (0, 0))) :
    Calls Tryz.prog 43 #[.agg #[.int .i64 p, .int .i64 q], .pointer (some ⟨B, 0, none⟩), .pointer (some ⟨C, 0, none⟩)] w fun e w' => e = .returned (.bool (covB cx cy n R p q)) ∧ Below w.heap.size w w' := by
  by_cases hh : hasB cx cy (cx + m) (cy + n) p q = true
  · have h1 := hh
    unfold hasB at h1
    rw [decide_eq_true_eq] at h1
    obtain ⟨i, hi⟩ : ∃ i : Nat, q = cy + i := ⟨(q - cy).toNat, by omega⟩
    obtain ⟨j, hj⟩ : ∃ j : Nat, p = cx + j := ⟨(p - cx).toNat, by omega⟩
    rcases hr with h | ⟨b, off, rfl, hb, hs⟩
    · omega
    exact covers1_yes B C b off c i j p q w h4 h5 hb hs (by omega) (by omega) (hv.row i (by omega)).1 hj hi (by have := hv.bx; omega) (by have := hv.by_; omega) hv.n2 hv.m2 _ (by rw [hi, hj]; exact (cov_at (by omega)).symm)
  · have hf : covB cx cy n R p q = false := by
      by_cases e : covB cx cy n R p q = true
      · have := cov_box (fun i hi => (hv.row i hi).1) e
        exact absurd (by unfold hasB; rw [decide_eq_true_eq]; omega) hh
      · simpa using e
    rw [hf]
    exact covers1_no B C a c p q w h4 h5 (by simpa using hh)
/-- Two function values in cells of their own, that tell which places two cells cover. -/
def PairE (w : World) (U V : Nat) (cx cy : Int) (n : Nat) (R : Nat → List UInt8) (dx dy : Int) (n' : Nat) (R' : Nat → List UInt8) : Prop :=
  ∃ f g, w.heap[U]? = some (.cells #[f] 48 (0, 0)) ∧ w.heap[V]? = some (.cells #[g] 48 (0, 0)) ∧ CovV w f cx cy n R ∧ CovV w g dx dy n' R'
theorem PairE.kept {w w' : World} {U V : Nat} {cx cy : Int} {n : Nat} {R : Nat → List UInt8} {dx dy : Int} {n' : Nat} {R' : Nat → List UInt8} (h : PairE w U V cx cy n R dx dy n' R') (hb : Below w.heap.size w w') : PairE w' U V cx cy n R dx dy n' R' := by
  obtain ⟨f, g, h1, h2, h3, h4⟩ := h
  exact ⟨f, g, heap_keep hb h1, heap_keep hb h2, h3.kept hb, h4.kept hb⟩
set_option maxRecDepth 100000 in
set_option maxHeartbeats 4000000 in
theorem pairUnion_any (U V : Nat) {cx cy : Int} {n : Nat} {R : Nat → List UInt8} {dx dy : Int} {n' : Nat} {R' : Nat → List UInt8} (p q : Int) (w : World) (hp : PairE w U V cx cy n R dx dy n' R') :
    Calls Tryz.prog 29 #[.agg #[.int .i64 p, .int .i64 q], .pointer (some ⟨U, 0, none⟩), .pointer (some ⟨V, 0, none⟩)] w fun e w' => e = .returned (.bool (covB cx cy n R p q || covB dx dy n' R' p q)) ∧ Below w.heap.size w w' := by
  obtain ⟨f, g, hU, hV, ⟨B, C, s, x, y, a, c, m, rfl, v1, r1, b1, c1⟩, ⟨B', C', s', x', y', a', c', m', rfl, v2, r2, b2, c2⟩⟩ := hp
  have V1 := Lib.hid v1
  have R1 := Lib.hid r1
  have B1 := Lib.hid b1
  have C1 := Lib.hid c1
  have V2 := Lib.hid v2
  have R2 := Lib.hid r2
  have B2 := Lib.hid b2
  have C2 := Lib.hid c2
  have lU := lt_of_heap hU
  have lV := lt_of_heap hV
  have p0 : w.cell? ⟨U, 0, none⟩ = some (.func (.func 43) #[] #[.pointer (some ⟨B, 0, none⟩), .pointer (some ⟨C, 0, none⟩)]) := cell_of hU rfl
  have p1 : w.cell? ⟨V, 0, none⟩ = some (.func (.func 43) #[] #[.pointer (some ⟨B', 0, none⟩), .pointer (some ⟨C', 0, none⟩)]) := cell_of hV rfl
  obtain ⟨k1, hk1⟩ : ∃ k, covB cx cy n R p q = k := ⟨_, rfl⟩
  obtain ⟨k2, hk2⟩ : ∃ k, covB dx dy n' R' p q = k := ⟨_, rfl⟩
  rw [hk1, hk2]
  have K1 := Lib.hid hk1
  have K2 := Lib.hid hk2
  clear v1 r1 b1 c1 v2 r2 b2 c2 hU hV hk1 hk2
  go_enter Tryz.func29, Tryz.ntmps29
  go_wp2_with (fail)
  have HW : Hid (Below w.heap.size w (w.alloc (.cells #[.int .i64 p, .int .i64 q] 56))) := Lib.hid (by repeat (first | exact Below.refl _ _ | assumption | refine Below.drew ?_ | refine bdrewN ?_ _ | refine Below.setCell ?_ (by first | omega | (simp <;> omega)) _ | refine Below.alloc ?_ (by first | omega | (simp <;> omega)) _))
  have q0 : (w.alloc (.cells #[.int .i64 p, .int .i64 q] 56)).cell? ⟨w.heap.size, 0, none⟩ = some (.int .i64 p) := by simp [go_sem]
  have q1 : (w.alloc (.cells #[.int .i64 p, .int .i64 q] 56)).cell? ⟨w.heap.size, 1, none⟩ = some (.int .i64 q) := by simp [go_sem]
  have lw : w.heap.size < (w.alloc (.cells #[.int .i64 p, .int .i64 q] 56)).heap.size := by simp
  replace p1 := cellk HW.out lV p1
  replace lV := Nat.lt_of_lt_of_le lV HW.out.size
  refine (covers1_any B C a c p q _ V1.out (R1.out.kept HW.out) (heap_keep HW.out B1.out) (heap_keep HW.out C1.out)).mono ?_
  rintro e w1 ⟨rfl, hb1⟩
  rw [K1.out]
  have HB := Lib.hid (HW.out.trans (hb1.mono HW.out.size))
  replace p1 := cellk hb1 lV p1
  replace q0 := cellk hb1 lw q0
  replace q1 := cellk hb1 lw q1
  clear hb1
  rcases k1 with _ | _
  all_goals
    go_wp2_with (fail)
    first
      | (go_ret; exact ⟨rfl, HB.out⟩)
      | (refine (covers1_any B' C' a' c' p q _ V2.out (R2.out.kept HB.out) (heap_keep HB.out B2.out) (heap_keep HB.out C2.out)).mono ?_
         rintro e w2 ⟨rfl, hb2⟩
         rw [K2.out]
         have HB2 := Lib.hid (HB.out.trans (hb2.mono HB.out.size))
         clear hb2
         go_wp2_with (fail)
         go_ret
         exact ⟨by first | rfl | simp, HB2.out⟩)
set_option maxRecDepth 100000 in
set_option maxHeartbeats 4000000 in
theorem pairBoth_any (U V : Nat) {cx cy : Int} {n : Nat} {R : Nat → List UInt8} {dx dy : Int} {n' : Nat} {R' : Nat → List UInt8} (p q : Int) (w : World) (hp : PairE w U V cx cy n R dx dy n' R') :
    Calls Tryz.prog 30 #[.agg #[.int .i64 p, .int .i64 q], .pointer (some ⟨U, 0, none⟩), .pointer (some ⟨V, 0, none⟩)] w fun e w' => e = .returned (.bool (covB cx cy n R p q && covB dx dy n' R' p q)) ∧ Below w.heap.size w w' := by
  obtain ⟨f, g, hU, hV, ⟨B, C, s, x, y, a, c, m, rfl, v1, r1, b1, c1⟩, ⟨B', C', s', x', y', a', c', m', rfl, v2, r2, b2, c2⟩⟩ := hp
  have V1 := Lib.hid v1
  have R1 := Lib.hid r1
  have B1 := Lib.hid b1
  have C1 := Lib.hid c1
  have V2 := Lib.hid v2
  have R2 := Lib.hid r2
  have B2 := Lib.hid b2
  have C2 := Lib.hid c2
  have lU := lt_of_heap hU
  have lV := lt_of_heap hV
  have p0 : w.cell? ⟨U, 0, none⟩ = some (.func (.func 43) #[] #[.pointer (some ⟨B, 0, none⟩), .pointer (some ⟨C, 0, none⟩)]) := cell_of hU rfl
  have p1 : w.cell? ⟨V, 0, none⟩ = some (.func (.func 43) #[] #[.pointer (some ⟨B', 0, none⟩), .pointer (some ⟨C', 0, none⟩)]) := cell_of hV rfl
  obtain ⟨k1, hk1⟩ : ∃ k, covB cx cy n R p q = k := ⟨_, rfl⟩
  obtain ⟨k2, hk2⟩ : ∃ k, covB dx dy n' R' p q = k := ⟨_, rfl⟩
  rw [hk1, hk2]
  have K1 := Lib.hid hk1
  have K2 := Lib.hid hk2
  clear v1 r1 b1 c1 v2 r2 b2 c2 hU hV hk1 hk2
  go_enter Tryz.func30, Tryz.ntmps30
  go_wp2_with (fail)
  have HW : Hid (Below w.heap.size w (w.alloc (.cells #[.int .i64 p, .int .i64 q] 56))) := Lib.hid (by repeat (first | exact Below.refl _ _ | assumption | refine Below.drew ?_ | refine bdrewN ?_ _ | refine Below.setCell ?_ (by first | omega | (simp <;> omega)) _ | refine Below.alloc ?_ (by first | omega | (simp <;> omega)) _))
  have q0 : (w.alloc (.cells #[.int .i64 p, .int .i64 q] 56)).cell? ⟨w.heap.size, 0, none⟩ = some (.int .i64 p) := by simp [go_sem]
  have q1 : (w.alloc (.cells #[.int .i64 p, .int .i64 q] 56)).cell? ⟨w.heap.size, 1, none⟩ = some (.int .i64 q) := by simp [go_sem]
  have lw : w.heap.size < (w.alloc (.cells #[.int .i64 p, .int .i64 q] 56)).heap.size := by simp
  replace p1 := cellk HW.out lV p1
  replace lV := Nat.lt_of_lt_of_le lV HW.out.size
  refine (covers1_any B C a c p q _ V1.out (R1.out.kept HW.out) (heap_keep HW.out B1.out) (heap_keep HW.out C1.out)).mono ?_
  rintro e w1 ⟨rfl, hb1⟩
  rw [K1.out]
  have HB := Lib.hid (HW.out.trans (hb1.mono HW.out.size))
  replace p1 := cellk hb1 lV p1
  replace q0 := cellk hb1 lw q0
  replace q1 := cellk hb1 lw q1
  clear hb1
  rcases k1 with _ | _
  all_goals
    go_wp2_with (fail)
    first
      | (go_ret; exact ⟨rfl, HB.out⟩)
      | (refine (covers1_any B' C' a' c' p q _ V2.out (R2.out.kept HB.out) (heap_keep HB.out B2.out) (heap_keep HB.out C2.out)).mono ?_
         rintro e w2 ⟨rfl, hb2⟩
         rw [K2.out]
         have HB2 := Lib.hid (HB.out.trans (hb2.mono HB.out.size))
         clear hb2
         go_wp2_with (fail)
         go_ret
         exact ⟨by first | rfl | simp, HB2.out⟩)
set_option maxRecDepth 100000 in
set_option maxHeartbeats 4000000 in
theorem pairMinus_any (U V : Nat) {cx cy : Int} {n : Nat} {R : Nat → List UInt8} {dx dy : Int} {n' : Nat} {R' : Nat → List UInt8} (p q : Int) (w : World) (hp : PairE w U V cx cy n R dx dy n' R') :
    Calls Tryz.prog 31 #[.agg #[.int .i64 p, .int .i64 q], .pointer (some ⟨U, 0, none⟩), .pointer (some ⟨V, 0, none⟩)] w fun e w' => e = .returned (.bool (covB cx cy n R p q && !covB dx dy n' R' p q)) ∧ Below w.heap.size w w' := by
  obtain ⟨f, g, hU, hV, ⟨B, C, s, x, y, a, c, m, rfl, v1, r1, b1, c1⟩, ⟨B', C', s', x', y', a', c', m', rfl, v2, r2, b2, c2⟩⟩ := hp
  have V1 := Lib.hid v1
  have R1 := Lib.hid r1
  have B1 := Lib.hid b1
  have C1 := Lib.hid c1
  have V2 := Lib.hid v2
  have R2 := Lib.hid r2
  have B2 := Lib.hid b2
  have C2 := Lib.hid c2
  have lU := lt_of_heap hU
  have lV := lt_of_heap hV
  have p0 : w.cell? ⟨U, 0, none⟩ = some (.func (.func 43) #[] #[.pointer (some ⟨B, 0, none⟩), .pointer (some ⟨C, 0, none⟩)]) := cell_of hU rfl
  have p1 : w.cell? ⟨V, 0, none⟩ = some (.func (.func 43) #[] #[.pointer (some ⟨B', 0, none⟩), .pointer (some ⟨C', 0, none⟩)]) := cell_of hV rfl
  obtain ⟨k1, hk1⟩ : ∃ k, covB cx cy n R p q = k := ⟨_, rfl⟩
  obtain ⟨k2, hk2⟩ : ∃ k, covB dx dy n' R' p q = k := ⟨_, rfl⟩
  rw [hk1, hk2]
  have K1 := Lib.hid hk1
  have K2 := Lib.hid hk2
  clear v1 r1 b1 c1 v2 r2 b2 c2 hU hV hk1 hk2
  go_enter Tryz.func31, Tryz.ntmps31
  go_wp2_with (fail)
  have HW : Hid (Below w.heap.size w (w.alloc (.cells #[.int .i64 p, .int .i64 q] 56))) := Lib.hid (by repeat (first | exact Below.refl _ _ | assumption | refine Below.drew ?_ | refine bdrewN ?_ _ | refine Below.setCell ?_ (by first | omega | (simp <;> omega)) _ | refine Below.alloc ?_ (by first | omega | (simp <;> omega)) _))
  have q0 : (w.alloc (.cells #[.int .i64 p, .int .i64 q] 56)).cell? ⟨w.heap.size, 0, none⟩ = some (.int .i64 p) := by simp [go_sem]
  have q1 : (w.alloc (.cells #[.int .i64 p, .int .i64 q] 56)).cell? ⟨w.heap.size, 1, none⟩ = some (.int .i64 q) := by simp [go_sem]
  have lw : w.heap.size < (w.alloc (.cells #[.int .i64 p, .int .i64 q] 56)).heap.size := by simp
  replace p1 := cellk HW.out lV p1
  replace lV := Nat.lt_of_lt_of_le lV HW.out.size
  refine (covers1_any B C a c p q _ V1.out (R1.out.kept HW.out) (heap_keep HW.out B1.out) (heap_keep HW.out C1.out)).mono ?_
  rintro e w1 ⟨rfl, hb1⟩
  rw [K1.out]
  have HB := Lib.hid (HW.out.trans (hb1.mono HW.out.size))
  replace p1 := cellk hb1 lV p1
  replace q0 := cellk hb1 lw q0
  replace q1 := cellk hb1 lw q1
  clear hb1
  rcases k1 with _ | _
  all_goals
    go_wp2_with (fail)
    first
      | (go_ret; exact ⟨rfl, HB.out⟩)
      | (refine (covers1_any B' C' a' c' p q _ V2.out (R2.out.kept HB.out) (heap_keep HB.out B2.out) (heap_keep HB.out C2.out)).mono ?_
         rintro e w2 ⟨rfl, hb2⟩
         rw [K2.out]
         have HB2 := Lib.hid (HB.out.trans (hb2.mono HB.out.size))
         clear hb2
         go_wp2_with (fail)
         go_ret
         exact ⟨by first | rfl | simp, HB2.out⟩)
end Go.Proofs.YtllagjncibfcmaaGreatDoor

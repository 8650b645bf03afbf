/- Programs told anew: absolutely, and relatively. -/
import Derived.Test.YthmplflmjjccfaaQb
import Derived.Test.YthmplflmjjccfaaGv
set_option linter.unusedSimpArgs false
set_option linter.unusedVariables false
namespace Go.Proofs.Ythmplflmjjccfaa
open Go.RowKit
theorem retoldA_tells (m : Ma) (j pS pF pA : Nat) (a : Option Addr) (n c : Nat) (S : Nat → St) (hn : n ≤ 5000) (hj : j ≤ 5000) (hm : MB j m) (hok : ∀ i, i < n → SOk (S i)) (hpS : pS < pA) (hpF : pF < pA) (hab : 0 < n → ∀ x, a = some x → x.block < pA) :
    Tells 44 #[.pointer (some ⟨pS, 0, none⟩), .pointer (some ⟨pF, 0, none⟩), .pointer (some ⟨pA, 0, none⟩)] m S n (pA + 1) (· = pA) (TInv 42 plA m pS pF pA (pA + 1) a n c S) :=
  ⟨enter_of Try.func44 (by kernel_rfl) (by kernel_rfl),
    fun i w w1 hi hI h2 hb => retA_any m j pS pF pA (pA + 1) i a n c S w w1 hi hn hj hm hok hI (by omega) hpS hpF hab h2 hb,
    fun i w w' h hm => by
      obtain ⟨ao, co, h1, h2, h3, h4, h5⟩ := h
      exact ⟨ao, co, heap_mut h1 hm (by omega), heap_mut h2 hm (by omega), heap_mut h3 hm (by omega), own_mut h4 hm (fun b hb e => by have := (h4.lt b hb).1; omega), h5.mutC hm (fun h0 x hx e => by have := hab h0 x hx; omega)⟩,
    fun x h => by omega⟩
set_option maxRecDepth 100000 in
set_option maxHeartbeats 4000000 in
theorem retoldA_any (m : Ma) (j : Nat) (a : Option Addr) (n c : Nat) (S : Nat → St) (w : World) (hn : n ≤ 5000) (hj : j ≤ 5000) (hm : MB j m) (hok : ∀ i, i < n → SOk (S i)) (hp : StepsR w a n S) :
    Calls Try.prog 23 #[(.agg #[.int .i64 m.x, .int .i64 m.y, .int .i64 m.z, .int .i64 m.s, .int .i64 m.h, .int .i64 m.t, .int .i64 m.f, .bool m.r]), .slice a n c, .func (.func 42) #[] #[]] w fun e w' => ∃ ao co, e = .returned (.slice ao (toldL plA m S n).length co) ∧ w'.ownsRow w.heap.size 36 6 (.slice ao (toldL plA m S n).length co) (toldL plA m S n).length (rowS (toldL plA m S n)) ∧ Below w.heap.size w w' := by
  have HP := Lib.hid hp
  have HOK := Lib.hid hok
  have HM := Lib.hid hm
  have HB := Lib.hid (fun (h0 : 0 < n) (x : Addr) (hx : a = some x) => (show x.block < w.heap.size + 1 + 1 + 1 by have := hp.blk h0 x hx; omega))
  have hb1 : Below w.heap.size w ((((w.alloc (.cells #[.int .i64 m.x, .int .i64 m.y, .int .i64 m.z, .int .i64 m.s, .int .i64 m.h, .int .i64 m.t, .int .i64 m.f, .bool m.r] 44)).alloc (.cells #[.slice a n c] 26)).alloc (.cells #[.func (.func 42) #[] #[]] 48)).alloc (.cells #[.slice none 0 0] 26)) := (by repeat (first | exact Below.refl _ _ | assumption | refine Below.drew ?_ | refine bdrewN ?_ _ | refine Below.setCell ?_ (by first | omega | (simp <;> omega)) _ | refine Below.alloc ?_ (by first | omega | (simp <;> omega)) _))
  have B1 := Lib.hid hb1
  have hh1 : ((((w.alloc (.cells #[.int .i64 m.x, .int .i64 m.y, .int .i64 m.z, .int .i64 m.s, .int .i64 m.h, .int .i64 m.t, .int .i64 m.f, .bool m.r] 44)).alloc (.cells #[.slice a n c] 26)).alloc (.cells #[.func (.func 42) #[] #[]] 48)).alloc (.cells #[.slice none 0 0] 26)).heap[w.heap.size]? = some (.cells #[.int .i64 m.x, .int .i64 m.y, .int .i64 m.z, .int .i64 m.s, .int .i64 m.h, .int .i64 m.t, .int .i64 m.f, .bool m.r] 44 (0, 0)) := (Below.heap_alloc _ _ _ (by simp <;> omega)).trans ((Below.heap_alloc _ _ _ (by simp <;> omega)).trans ((Below.heap_alloc _ _ _ (by simp)).trans (heap_new rfl)))
  have hh2 : ((((w.alloc (.cells #[.int .i64 m.x, .int .i64 m.y, .int .i64 m.z, .int .i64 m.s, .int .i64 m.h, .int .i64 m.t, .int .i64 m.f, .bool m.r] 44)).alloc (.cells #[.slice a n c] 26)).alloc (.cells #[.func (.func 42) #[] #[]] 48)).alloc (.cells #[.slice none 0 0] 26)).heap[w.heap.size + 1]? = some (.cells #[.slice a n c] 26 (0, 0)) := (Below.heap_alloc _ _ _ (by simp <;> omega)).trans ((Below.heap_alloc _ _ _ (by simp)).trans (heap_new (by simp)))
  have hh3 : ((((w.alloc (.cells #[.int .i64 m.x, .int .i64 m.y, .int .i64 m.z, .int .i64 m.s, .int .i64 m.h, .int .i64 m.t, .int .i64 m.f, .bool m.r] 44)).alloc (.cells #[.slice a n c] 26)).alloc (.cells #[.func (.func 42) #[] #[]] 48)).alloc (.cells #[.slice none 0 0] 26)).heap[w.heap.size + 1 + 1]? = some (.cells #[.func (.func 42) #[] #[]] 48 (0, 0)) := (Below.heap_alloc _ _ _ (by simp)).trans (heap_new (by simp))
  have hh4 : ((((w.alloc (.cells #[.int .i64 m.x, .int .i64 m.y, .int .i64 m.z, .int .i64 m.s, .int .i64 m.h, .int .i64 m.t, .int .i64 m.f, .bool m.r] 44)).alloc (.cells #[.slice a n c] 26)).alloc (.cells #[.func (.func 42) #[] #[]] 48)).alloc (.cells #[.slice none 0 0] 26)).heap[w.heap.size + 1 + 1 + 1]? = some (.cells #[.slice none 0 0] 26 (0, 0)) := heap_new (by simp)
  have hs4 : ((((w.alloc (.cells #[.int .i64 m.x, .int .i64 m.y, .int .i64 m.z, .int .i64 m.s, .int .i64 m.h, .int .i64 m.t, .int .i64 m.f, .bool m.r] 44)).alloc (.cells #[.slice a n c] 26)).alloc (.cells #[.func (.func 42) #[] #[]] 48)).alloc (.cells #[.slice none 0 0] 26)).heap.size = w.heap.size + 1 + 1 + 1 + 1 := by simp
  have HP4 := Lib.hid (hp.kept hb1)
  have HH1 := Lib.hid hh1
  have HI : Hid (TInv 42 plA m (w.heap.size + 1) (w.heap.size + 1 + 1) (w.heap.size + 1 + 1 + 1) (w.heap.size + 1 + 1 + 1 + 1) a n c S 0 ((((w.alloc (.cells #[.int .i64 m.x, .int .i64 m.y, .int .i64 m.z, .int .i64 m.s, .int .i64 m.h, .int .i64 m.t, .int .i64 m.f, .bool m.r] 44)).alloc (.cells #[.slice a n c] 26)).alloc (.cells #[.func (.func 42) #[] #[]] 48)).alloc (.cells #[.slice none 0 0] 26))) := Lib.hid ⟨none, 0, hh4, hh2, hh3, World.ownsRow_nil _ _ _ _, HP4.out⟩
  clear hp hok hb1 hh1 hh2 hh3 hh4 hm
  go_enter Try.func23, Try.ntmps23
  go_upto_region 2 with (fail)
  generalize ((((w.alloc (.cells #[.int .i64 m.x, .int .i64 m.y, .int .i64 m.z, .int .i64 m.s, .int .i64 m.h, .int .i64 m.t, .int .i64 m.f, .bool m.r] 44)).alloc (.cells #[.slice a n c] 26)).alloc (.cells #[.func (.func 42) #[] #[]] 48)).alloc (.cells #[.slice none 0 0] 26)) = w4 at *
  obtain ⟨q, hq⟩ : ∃ q, w.heap.size = q := ⟨_, rfl⟩
  have HQ := Lib.hid hq
  rw [hq] at HI HB hs4 HH1
  try rw [hq]
  clear hq
  have hh2 : w4.heap[q + 1]? = some (.cells #[.slice a n c] 26 (0, 0)) := by obtain ⟨_, _, _, h, _⟩ := HI.out; exact h
  have d0 : w4.cell? ⟨q, 0, none⟩ = some (.int .i64 m.x) := cell_of HH1.out (i := 0) rfl
  have d1 : w4.cell? ⟨q, 1, none⟩ = some (.int .i64 m.y) := cell_of HH1.out (i := 1) rfl
  have d2 : w4.cell? ⟨q, 2, none⟩ = some (.int .i64 m.z) := cell_of HH1.out (i := 2) rfl
  have d3 : w4.cell? ⟨q, 3, none⟩ = some (.int .i64 m.s) := cell_of HH1.out (i := 3) rfl
  have d4 : w4.cell? ⟨q, 4, none⟩ = some (.int .i64 m.h) := cell_of HH1.out (i := 4) rfl
  have d5 : w4.cell? ⟨q, 5, none⟩ = some (.int .i64 m.t) := cell_of HH1.out (i := 5) rfl
  have d6 : w4.cell? ⟨q, 6, none⟩ = some (.int .i64 m.f) := cell_of HH1.out (i := 6) rfl
  have d7 : w4.cell? ⟨q, 7, none⟩ = some (.bool m.r) := cell_of HH1.out (i := 7) rfl
  have p1 : w4.cell? ⟨q + 1, 0, none⟩ = some (.slice a n c) := cell_of hh2 (i := 0) rfl
  clear hh2
  go_wp2_with (fail)
  refine (walk_any 44 #[.pointer (some ⟨q + 1, 0, none⟩), .pointer (some ⟨q + 1 + 1, 0, none⟩), .pointer (some ⟨q + 1 + 1 + 1, 0, none⟩)] m j a n c S (· = q + 1 + 1 + 1) (TInv 42 plA m (q + 1) (q + 1 + 1) (q + 1 + 1 + 1) (q + 1 + 1 + 1 + 1) a n c S) w4 hn hj HM.out HOK.out (by rw [hs4]; exact retoldA_tells m j (q + 1) (q + 1 + 1) (q + 1 + 1 + 1) a n c S hn hj HM.out HOK.out (by omega) (by omega) HB.out) HI.out (fun h0 x hx e => by have := HB.out h0 x hx; omega) HP4.out).mono ?_
  rintro e w5 ⟨rfl, ⟨ao, co, hh, -, -, hown, -⟩, hmt⟩
  have B5 := Lib.hid (B1.out.trans (hmt.toBelow w.heap.size B1.out.size (fun b hb h => by have := HQ.out; omega)))
  have HOW := Lib.hid (own_base (base' := w.heap.size) hown (by have := HQ.out; omega))
  have p0 : w5.cell? ⟨q + 1 + 1 + 1, 0, none⟩ = some (.slice ao (toldL plA m S n).length co) := cell_of hh (i := 0) rfl
  clear hh hown hmt d0 d1 d2 d3 d4 d5 d6 d7 p1
  go_wp2_with (fail)
  go_ret
  exact ⟨ao, co, rfl, HOW.out, B5.out⟩
theorem retoldR_tells (m : Ma) (j pS pF pA : Nat) (a : Option Addr) (n c : Nat) (S : Nat → St) (hn : n ≤ 5000) (hj : j ≤ 5000) (hm : MB j m) (hok : ∀ i, i < n → SOk (S i)) (hpS : pS < pA) (hpF : pF < pA) (hab : 0 < n → ∀ x, a = some x → x.block < pA) :
    Tells 44 #[.pointer (some ⟨pS, 0, none⟩), .pointer (some ⟨pF, 0, none⟩), .pointer (some ⟨pA, 0, none⟩)] m S n (pA + 1) (· = pA) (TInv 24 plR m pS pF pA (pA + 1) a n c S) :=
  ⟨enter_of Try.func44 (by kernel_rfl) (by kernel_rfl),
    fun i w w1 hi hI h2 hb => retR_any m j pS pF pA (pA + 1) i a n c S w w1 hi hn hj hm hok hI (by omega) hpS hpF hab h2 hb,
    fun i w w' h hm => by
      obtain ⟨ao, co, h1, h2, h3, h4, h5⟩ := h
      exact ⟨ao, co, heap_mut h1 hm (by omega), heap_mut h2 hm (by omega), heap_mut h3 hm (by omega), own_mut h4 hm (fun b hb e => by have := (h4.lt b hb).1; omega), h5.mutC hm (fun h0 x hx e => by have := hab h0 x hx; omega)⟩,
    fun x h => by omega⟩
set_option maxRecDepth 100000 in
set_option maxHeartbeats 4000000 in
theorem retoldR_any (m : Ma) (j : Nat) (a : Option Addr) (n c : Nat) (S : Nat → St) (w : World) (hn : n ≤ 5000) (hj : j ≤ 5000) (hm : MB j m) (hok : ∀ i, i < n → SOk (S i)) (hp : StepsR w a n S) :
    Calls Try.prog 23 #[(.agg #[.int .i64 m.x, .int .i64 m.y, .int .i64 m.z, .int .i64 m.s, .int .i64 m.h, .int .i64 m.t, .int .i64 m.f, .bool m.r]), .slice a n c, .func (.func 24) #[] #[]] w fun e w' => ∃ ao co, e = .returned (.slice ao (toldL plR m S n).length co) ∧ w'.ownsRow w.heap.size 36 6 (.slice ao (toldL plR m S n).length co) (toldL plR m S n).length (rowS (toldL plR m S n)) ∧ Below w.heap.size w w' := by
  have HP := Lib.hid hp
  have HOK := Lib.hid hok
  have HM := Lib.hid hm
  have HB := Lib.hid (fun (h0 : 0 < n) (x : Addr) (hx : a = some x) => (show x.block < w.heap.size + 1 + 1 + 1 by have := hp.blk h0 x hx; omega))
  have hb1 : Below w.heap.size w ((((w.alloc (.cells #[.int .i64 m.x, .int .i64 m.y, .int .i64 m.z, .int .i64 m.s, .int .i64 m.h, .int .i64 m.t, .int .i64 m.f, .bool m.r] 44)).alloc (.cells #[.slice a n c] 26)).alloc (.cells #[.func (.func 24) #[] #[]] 48)).alloc (.cells #[.slice none 0 0] 26)) := (by repeat (first | exact Below.refl _ _ | assumption | refine Below.drew ?_ | refine bdrewN ?_ _ | refine Below.setCell ?_ (by first | omega | (simp <;> omega)) _ | refine Below.alloc ?_ (by first | omega | (simp <;> omega)) _))
  have B1 := Lib.hid hb1
  have hh1 : ((((w.alloc (.cells #[.int .i64 m.x, .int .i64 m.y, .int .i64 m.z, .int .i64 m.s, .int .i64 m.h, .int .i64 m.t, .int .i64 m.f, .bool m.r] 44)).alloc (.cells #[.slice a n c] 26)).alloc (.cells #[.func (.func 24) #[] #[]] 48)).alloc (.cells #[.slice none 0 0] 26)).heap[w.heap.size]? = some (.cells #[.int .i64 m.x, .int .i64 m.y, .int .i64 m.z, .int .i64 m.s, .int .i64 m.h, .int .i64 m.t, .int .i64 m.f, .bool m.r] 44 (0, 0)) := (Below.heap_alloc _ _ _ (by simp <;> omega)).trans ((Below.heap_alloc _ _ _ (by simp <;> omega)).trans ((Below.heap_alloc _ _ _ (by simp)).trans (heap_new rfl)))
  have hh2 : ((((w.alloc (.cells #[.int .i64 m.x, .int .i64 m.y, .int .i64 m.z, .int .i64 m.s, .int .i64 m.h, .int .i64 m.t, .int .i64 m.f, .bool m.r] 44)).alloc (.cells #[.slice a n c] 26)).alloc (.cells #[.func (.func 24) #[] #[]] 48)).alloc (.cells #[.slice none 0 0] 26)).heap[w.heap.size + 1]? = some (.cells #[.slice a n c] 26 (0, 0)) := (Below.heap_alloc _ _ _ (by simp <;> omega)).trans ((Below.heap_alloc _ _ _ (by simp)).trans (heap_new (by simp)))
  have hh3 : ((((w.alloc (.cells #[.int .i64 m.x, .int .i64 m.y, .int .i64 m.z, .int .i64 m.s, .int .i64 m.h, .int .i64 m.t, .int .i64 m.f, .bool m.r] 44)).alloc (.cells #[.slice a n c] 26)).alloc (.cells #[.func (.func 24) #[] #[]] 48)).alloc (.cells #[.slice none 0 0] 26)).heap[w.heap.size + 1 + 1]? = some (.cells #[.func (.func 24) #[] #[]] 48 (0, 0)) := (Below.heap_alloc _ _ _ (by simp)).trans (heap_new (by simp))
  have hh4 : ((((w.alloc (.cells #[.int .i64 m.x, .int .i64 m.y, .int .i64 m.z, .int .i64 m.s, .int .i64 m.h, .int .i64 m.t, .int .i64 m.f, .bool m.r] 44)).alloc (.cells #[.slice a n c] 26)).alloc (.cells #[.func (.func 24) #[] #[]] 48)).alloc (.cells #[.slice none 0 0] 26)).heap[w.heap.size + 1 + 1 + 1]? = some (.cells #[.slice none 0 0] 26 (0, 0)) := heap_new (by simp)
  have hs4 : ((((w.alloc (.cells #[.int .i64 m.x, .int .i64 m.y, .int .i64 m.z, .int .i64 m.s, .int .i64 m.h, .int .i64 m.t, .int .i64 m.f, .bool m.r] 44)).alloc (.cells #[.slice a n c] 26)).alloc (.cells #[.func (.func 24) #[] #[]] 48)).alloc (.cells #[.slice none 0 0] 26)).heap.size = w.heap.size + 1 + 1 + 1 + 1 := by simp
  have HP4 := Lib.hid (hp.kept hb1)
  have HH1 := Lib.hid hh1
  have HI : Hid (TInv 24 plR m (w.heap.size + 1) (w.heap.size + 1 + 1) (w.heap.size + 1 + 1 + 1) (w.heap.size + 1 + 1 + 1 + 1) a n c S 0 ((((w.alloc (.cells #[.int .i64 m.x, .int .i64 m.y, .int .i64 m.z, .int .i64 m.s, .int .i64 m.h, .int .i64 m.t, .int .i64 m.f, .bool m.r] 44)).alloc (.cells #[.slice a n c] 26)).alloc (.cells #[.func (.func 24) #[] #[]] 48)).alloc (.cells #[.slice none 0 0] 26))) := Lib.hid ⟨none, 0, hh4, hh2, hh3, World.ownsRow_nil _ _ _ _, HP4.out⟩
  clear hp hok hb1 hh1 hh2 hh3 hh4 hm
  go_enter Try.func23, Try.ntmps23
  go_upto_region 2 with (fail)
  generalize ((((w.alloc (.cells #[.int .i64 m.x, .int .i64 m.y, .int .i64 m.z, .int .i64 m.s, .int .i64 m.h, .int .i64 m.t, .int .i64 m.f, .bool m.r] 44)).alloc (.cells #[.slice a n c] 26)).alloc (.cells #[.func (.func 24) #[] #[]] 48)).alloc (.cells #[.slice none 0 0] 26)) = w4 at *
  obtain ⟨q, hq⟩ : ∃ q, w.heap.size = q := ⟨_, rfl⟩
  have HQ := Lib.hid hq
  rw [hq] at HI HB hs4 HH1
  try rw [hq]
  clear hq
  have hh2 : w4.heap[q + 1]? = some (.cells #[.slice a n c] 26 (0, 0)) := by obtain ⟨_, _, _, h, _⟩ := HI.out; exact h
  have d0 : w4.cell? ⟨q, 0, none⟩ = some (.int .i64 m.x) := cell_of HH1.out (i := 0) rfl
  have d1 : w4.cell? ⟨q, 1, none⟩ = some (.int .i64 m.y) := cell_of HH1.out (i := 1) rfl
  have d2 : w4.cell? ⟨q, 2, none⟩ = some (.int .i64 m.z) := cell_of HH1.out (i := 2) rfl
  have d3 : w4.cell? ⟨q, 3, none⟩ = some (.int .i64 m.s) := cell_of HH1.out (i := 3) rfl
  have d4 : w4.cell? ⟨q, 4, none⟩ = some (.int .i64 m.h) := cell_of HH1.out (i := 4) rfl
  have d5 : w4.cell? ⟨q, 5, none⟩ = some (.int .i64 m.t) := cell_of HH1.out (i := 5) rfl
  have d6 : w4.cell? ⟨q, 6, none⟩ = some (.int .i64 m.f) := cell_of HH1.out (i := 6) rfl
  have d7 : w4.cell? ⟨q, 7, none⟩ = some (.bool m.r) := cell_of HH1.out (i := 7) rfl
  have p1 : w4.cell? ⟨q + 1, 0, none⟩ = some (.slice a n c) := cell_of hh2 (i := 0) rfl
  clear hh2
  go_wp2_with (fail)
  refine (walk_any 44 #[.pointer (some ⟨q + 1, 0, none⟩), .pointer (some ⟨q + 1 + 1, 0, none⟩), .pointer (some ⟨q + 1 + 1 + 1, 0, none⟩)] m j a n c S (· = q + 1 + 1 + 1) (TInv 24 plR m (q + 1) (q + 1 + 1) (q + 1 + 1 + 1) (q + 1 + 1 + 1 + 1) a n c S) w4 hn hj HM.out HOK.out (by rw [hs4]; exact retoldR_tells m j (q + 1) (q + 1 + 1) (q + 1 + 1 + 1) a n c S hn hj HM.out HOK.out (by omega) (by omega) HB.out) HI.out (fun h0 x hx e => by have := HB.out h0 x hx; omega) HP4.out).mono ?_
  rintro e w5 ⟨rfl, ⟨ao, co, hh, -, -, hown, -⟩, hmt⟩
  have B5 := Lib.hid (B1.out.trans (hmt.toBelow w.heap.size B1.out.size (fun b hb h => by have := HQ.out; omega)))
  have HOW := Lib.hid (own_base (base' := w.heap.size) hown (by have := HQ.out; omega))
  have p0 : w5.cell? ⟨q + 1 + 1 + 1, 0, none⟩ = some (.slice ao (toldL plR m S n).length co) := cell_of hh (i := 0) rfl
  clear hh hown hmt d0 d1 d2 d3 d4 d5 d6 d7 p1
  go_wp2_with (fail)
  go_ret
  exact ⟨ao, co, rfl, HOW.out, B5.out⟩
set_option maxRecDepth 100000 in
set_option maxHeartbeats 4000000 in
theorem absoluteP_any (m : Ma) (j : Nat) (a : Option Addr) (n c : Nat) (S : Nat → St) (w : World) (hn : n ≤ 5000) (hj : j ≤ 5000) (hm : MB j m) (hok : ∀ i, i < n → SOk (S i)) (hp : StepsR w a n S) :
    Calls Try.prog 22 #[(.agg #[.int .i64 m.x, .int .i64 m.y, .int .i64 m.z, .int .i64 m.s, .int .i64 m.h, .int .i64 m.t, .int .i64 m.f, .bool m.r]), .slice a n c] w fun e w' => ∃ ao co, e = .returned (.slice ao (toldL plA m S n).length co) ∧ w'.ownsRow w.heap.size 36 6 (.slice ao (toldL plA m S n).length co) (toldL plA m S n).length (rowS (toldL plA m S n)) ∧ Below w.heap.size w w' := by
  have hb1 : Below w.heap.size w (w.alloc (.cells #[.int .i64 m.x, .int .i64 m.y, .int .i64 m.z, .int .i64 m.s, .int .i64 m.h, .int .i64 m.t, .int .i64 m.f, .bool m.r] 44)) := (by repeat (first | exact Below.refl _ _ | assumption | refine Below.drew ?_ | refine bdrewN ?_ _ | refine Below.setCell ?_ (by first | omega | (simp <;> omega)) _ | refine Below.alloc ?_ (by first | omega | (simp <;> omega)) _))
  have B1 := Lib.hid hb1
  have HP := Lib.hid (hp.kept hb1)
  have hh := heap_alloc_new w (.cells #[.int .i64 m.x, .int .i64 m.y, .int .i64 m.z, .int .i64 m.s, .int .i64 m.h, .int .i64 m.t, .int .i64 m.f, .bool m.r] 44)
  have HH := Lib.hid hh
  have hs1 : (w.alloc (.cells #[.int .i64 m.x, .int .i64 m.y, .int .i64 m.z, .int .i64 m.s, .int .i64 m.h, .int .i64 m.t, .int .i64 m.f, .bool m.r] 44)).heap.size = w.heap.size + 1 := by simp
  clear hb1 hp hh
  go_enter Try.func22, Try.ntmps22
  go_wp2_with (fail)
  generalize (w.alloc (.cells #[.int .i64 m.x, .int .i64 m.y, .int .i64 m.z, .int .i64 m.s, .int .i64 m.h, .int .i64 m.t, .int .i64 m.f, .bool m.r] 44)) = w1 at *
  refine (retoldA_any m j a n c S w1 hn hj hm hok HP.out).mono ?_
  rintro e w2 ⟨ao, co, rfl, hown, hb⟩
  have HO := Lib.hid (own_base (base' := w.heap.size) hown (by omega))
  have B2 := Lib.hid (B1.out.trans (hb.mono B1.out.size))
  clear hown hb
  go_wp2_with (fail)
  go_ret
  exact ⟨ao, co, rfl, HO.out, B2.out⟩
set_option maxRecDepth 100000 in
set_option maxHeartbeats 4000000 in
theorem checked_any (a : Option Addr) (n c : Nat) (S : Nat → St) (w : World) (hn : n ≤ 5000) (hp : StepsR w a n S) :
    Calls Try.prog 21 #[.slice a n c] w fun e w' => e = .returned (.tuple #[if stepsE n S = 0 then .slice a n c else .slice none 0 0, .int .i64 (stepsE n S)]) ∧ Below w.heap.size w w' := by
  go_enter Try.func21, Try.ntmps21
  go_wp2_with (fail)
  refine (checkSteps_any a n c S w hn hp).mono ?_
  rintro e w1 ⟨rfl, hb⟩
  have B1 := Lib.hid hb
  clear hb
  by_cases hz : stepsE n S = 0
  · have HZ := Lib.hid hz
    have hz' : (stepsE n S != 0) = false := by simp [hz]
    clear hz
    go_wp2_with (fail)
    exact bodyPost_ret (v := .tuple #[.slice a n c, .int .i64 0]) (by simp [results, Try.results21, go_sem]) rfl ⟨rfl, B1.out⟩
  · have HZ := Lib.hid hz
    have hz' : (stepsE n S != 0) = true := by simpa using hz
    clear hz
    go_wp2_with (fail)
    exact bodyPost_ret (v := .tuple #[.slice none 0 0, .int .i64 (stepsE n S)]) (by simp [results, Try.results21, go_sem]) rfl ⟨rfl, B1.out⟩

/-! ### Absolute, as it is exported -/
/-- Steps that were made, with their error: what both give. -/
def MadeS (w : World) (E : Int) (l : List St) (e : Ending) (w' : World) : Prop :=
  ∃ ao no co T, e = .returned (.tuple #[.slice ao no co, .int .i64 E]) ∧ no ≤ l.length ∧ no ≤ co ∧ StepsR w' ao no T ∧ (E = 0 → no = l.length ∧ T = lf l) ∧ (E ≠ 0 → no = 0) ∧ Below w.heap.size w w'
def oneE (n : Nat) (S : Nat → St) (E : Int) : Int := if stepsE n S = 0 then E else stepsE n S
set_option maxRecDepth 100000 in
set_option maxHeartbeats 4000000 in
theorem Absolute_any (a : Option Addr) (n c : Nat) (S : Nat → St) (w : World) (hn : n ≤ 5000) (hp : StepsR w a n S) :
    Calls Try.prog 5 #[.slice a n c] w (MadeS w (oneE n S (absE n S)) (absL S n)) := by
  have HP := Lib.hid hp
  clear hp
  go_enter Try.func5, Try.ntmps5
  go_wp2_with (fail)
  refine (checkSteps_any a n c S w hn HP.out).mono ?_
  rintro e w1 ⟨rfl, hb⟩
  replace HP := Lib.hid (HP.out.kept hb)
  have B1 := Lib.hid hb
  clear hb
  by_cases hz : stepsE n S = 0
  · have HZ := Lib.hid hz
    have hok := stepsE_zero hz
    have HOK := Lib.hid (fun i hi => sok (hok i hi))
    have hz' : (stepsE n S != 0) = false := by simp [hz]
    clear hz hok
    have HE := Lib.hid (show oneE n S (absE n S) = absE n S by unfold oneE; rw [if_pos HZ.out])
    go_wp2_with (fail)
    refine (absoluteP_any m00 0 a n c S w1 hn (by omega) mb0 HOK.out HP.out).mono ?_
    rintro e w2 ⟨ao, co, rfl, hown, hb⟩
    rw [toldA] at hown
    rw [toldA]
    have HO := Lib.hid hown
    have B2 := Lib.hid (B1.out.trans (hb.mono B1.out.size))
    have hL := absL_len S n
    have HEE := Lib.hid (show stepsE (absL S n).length (lf (absL S n)) = absE n S from rfl)
    clear hown hb
    obtain ⟨l, hl⟩ : ∃ l, absL S n = l := ⟨_, rfl⟩
    have HL := Lib.hid hl
    rw [hl] at HO hL HEE ⊢
    clear hl
    go_wp2_with (fail)
    refine (checked_any ao l.length co (lf l) w2 (by omega) (own_rowS HO.out rfl)).mono ?_
    rintro e w3 ⟨rfl, hb⟩
    replace HO := Lib.hid (ownsRow_below HO.out hb)
    have B3 := Lib.hid (B2.out.trans (hb.mono B2.out.size))
    clear hb
    rw [HEE.out]
    by_cases hz : absE n S = 0
    · have HZ2 := Lib.hid hz
      rw [if_pos hz, hz]
      clear hz
      go_wp2_with (fail)
      exact bodyPost_ret (v := .tuple #[.slice ao l.length co, .int .i64 0]) (by simp [results, Try.results5, go_sem]) rfl ⟨ao, l.length, co, _, by rw [HE.out, HZ2.out], by rw [HL.out]; exact Nat.le_refl _, own_cap HO.out, own_rowS HO.out rfl, fun _ => ⟨by rw [HL.out], by rw [HL.out]⟩, fun h => absurd (HE.out.trans HZ2.out) h, B3.out⟩
    · have HZ2 := Lib.hid hz
      rw [if_neg hz]
      clear hz
      go_wp2_with (fail)
      exact bodyPost_ret (v := .tuple #[.slice none 0 0, .int .i64 (absE n S)]) (by simp [results, Try.results5, go_sem]) rfl ⟨none, 0, 0, fun _ => s00, by rw [HE.out], Nat.zero_le _, Nat.le_refl _, .inl rfl, fun h => absurd (HE.out.symm.trans h) HZ2.out, fun _ => rfl, B3.out⟩
  · have HZ := Lib.hid hz
    have hz' : (stepsE n S != 0) = true := by simpa using hz
    have HE := Lib.hid (show oneE n S (absE n S) = stepsE n S by unfold oneE; rw [if_neg HZ.out])
    clear hz
    go_wp2_with (fail)
    exact bodyPost_ret (v := .tuple #[.slice none 0 0, .int .i64 (stepsE n S)]) (by simp [results, Try.results5, go_sem]) rfl ⟨none, 0, 0, fun _ => s00, by rw [HE.out], Nat.zero_le _, Nat.le_refl _, .inl rfl, fun h => absurd (HE.out.symm.trans h) HZ.out, fun _ => rfl, B1.out⟩
end Go.Proofs.Ythmplflmjjccfaa

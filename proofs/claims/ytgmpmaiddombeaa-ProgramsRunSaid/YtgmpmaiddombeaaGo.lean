/- What two programs do, compared: by the program and by the reference. -/
import Derived.Test.YtgmpmaiddombeaaGl
import Derived.Test.YtgmpmaiddombeaaGg
set_option linter.unusedSimpArgs false
set_option linter.unusedVariables false
namespace Go.Proofs.Ytgmpmaiddombeaa
open Go.RowKit
/-- Statuses with waits in memory, or none. -/
def YsR (w : World) (a : Option Addr) (l : List (Ma × Int)) : Prop :=
  l.length = 0 ∨ ∃ b off, a = some ⟨b, off, none⟩ ∧ b < w.heap.size ∧ ∀ i, i < l.length → w.cell? ⟨b, off + i * 9, none⟩ = some (.int .i64 (l.getD i (m00, 0)).1.x) ∧ w.cell? ⟨b, off + i * 9 + 1, none⟩ = some (.int .i64 (l.getD i (m00, 0)).1.y) ∧ w.cell? ⟨b, off + i * 9 + 2, none⟩ = some (.int .i64 (l.getD i (m00, 0)).1.z) ∧ w.cell? ⟨b, off + i * 9 + 3, none⟩ = some (.int .i64 (l.getD i (m00, 0)).1.s) ∧ w.cell? ⟨b, off + i * 9 + 4, none⟩ = some (.int .i64 (l.getD i (m00, 0)).1.h) ∧ w.cell? ⟨b, off + i * 9 + 5, none⟩ = some (.int .i64 (l.getD i (m00, 0)).1.t) ∧ w.cell? ⟨b, off + i * 9 + 6, none⟩ = some (.int .i64 (l.getD i (m00, 0)).1.f) ∧ w.cell? ⟨b, off + i * 9 + 7, none⟩ = some (.bool (l.getD i (m00, 0)).1.r) ∧ w.cell? ⟨b, off + i * 9 + 8, none⟩ = some (.int .i64 (l.getD i (m00, 0)).2)
theorem YsR.kept {w w' : World} {a : Option Addr} {l : List (Ma × Int)} (h : YsR w a l) (hb : Below w.heap.size w w') : YsR w' a l := by
  rcases h with h | ⟨b, off, rfl, h1, h2⟩
  · exact .inl h
  · exact .inr ⟨b, off, rfl, Nat.lt_of_lt_of_le h1 hb.size, fun i hi => by
      obtain ⟨p0, p1, p2, p3, p4, p5, p6, p7, p8⟩ := h2 i hi
      exact ⟨cellk hb h1 p0, cellk hb h1 p1, cellk hb h1 p2, cellk hb h1 p3, cellk hb h1 p4, cellk hb h1 p5, cellk hb h1 p6, cellk hb h1 p7, cellk hb h1 p8⟩⟩
theorem own_ys {w : World} {base n c : Nat} {e : TypeId} {a : Option Addr} {l : List (Ma × Int)} (h : w.ownsRow base e 9 (.slice a n c) n (rowL l)) (hn : n = l.length) : YsR w a l := by
  subst hn
  by_cases hn : l.length = 0
  · exact .inl hn
  · obtain ⟨g, cap', hv, _, hlt⟩ := h.form (by omega)
    cases hv
    refine .inr ⟨g, 0, rfl, hlt, fun i hi => ?_⟩
    have hk : ∀ j, j < 9 → w.cell? ⟨g, i * 9 + j, none⟩ = (yV (l.getD i (m00, 0)))[j]? := fun j hj => by
      rw [h.cellAt (i * 9 + j) (by omega)]
      exact rowL_get hi hj
    simp only [Nat.zero_add]
    exact ⟨hk 0 (by omega), hk 1 (by omega), hk 2 (by omega), hk 3 (by omega), hk 4 (by omega), hk 5 (by omega), hk 6 (by omega), hk 7 (by omega), hk 8 (by omega)⟩
theorem lists_eq {l m : List (Ma × Int)} (h : l.length = m.length) (he : ∀ j, j < l.length → l.getD j (m00, 0) = m.getD j (m00, 0)) : l = m := by
  refine List.ext_getElem h (fun j h1 h2 => ?_)
  have := he j h1
  rw [List.getD_eq_getElem?_getD, List.getD_eq_getElem?_getD, List.getElem?_eq_getElem h1, List.getElem?_eq_getElem h2] at this
  exact this
theorem st_stay : Try.prog.stoodInHeld 62 = false := by kernel_rfl
theorem gd_stay : Try.prog.eqGuardType Try.prog.depth 62 = false := by kernel_rfl
theorem neq_stay (s t : Ma × Int) (w : World) : (Go.binOp .neq 62 (.agg #[.int .i64 s.1.x, .int .i64 s.1.y, .int .i64 s.1.z, .int .i64 s.1.s, .int .i64 s.1.h, .int .i64 s.1.t, .int .i64 s.1.f, .bool s.1.r, .int .i64 s.2]) (.agg #[.int .i64 t.1.x, .int .i64 t.1.y, .int .i64 t.1.z, .int .i64 t.1.s, .int .i64 t.1.h, .int .i64 t.1.t, .int .i64 t.1.f, .bool t.1.r, .int .i64 t.2])).run Try.prog w = Result.ok (.bool (!decide (s = t))) w := by
  rw [run_neq_struct, run_equalIn_agg (ht := by kernel_rfl) (hp := st_stay)]
  rcases s with ⟨⟨a0, a1, a2, a3, a4, a5, a6, a7⟩, a8⟩
  rcases t with ⟨⟨b0, b1, b2, b3, b4, b5, b6, b7⟩, b8⟩
  simp [go_sem]
  repeat' split
  all_goals simp_all
set_option maxRecDepth 100000 in
set_option maxHeartbeats 4000000 in
theorem equal_stay (a1 a2 : Option Addr) (n1 n2 c1 c2 : Nat) (l1 l2 : List (Ma × Int)) (w : World) (h1 : YsR w a1 l1) (h2 : YsR w a2 l2) (e1 : n1 = l1.length) (e2 : n2 = l2.length) (hn : n1 ≤ 6000) (hn2 : n2 ≤ 6000) :
    Calls Try.prog 29 #[.slice a1 n1 c1, .slice a2 n2 c2] w fun e w' => e = .returned (.bool (decide (l1 = l2))) ∧ Below w.heap.size w w' := by
  have H1 := Lib.hid h1
  have H2 := Lib.hid h2
  have E1 := Lib.hid e1
  have E2 := Lib.hid e2
  clear h1 h2 e1 e2
  by_cases hlen : n1 = n2
  · subst hlen
    go_enter Try.func29, Try.ntmps29
    go_wp2_with (fail)
    go_loopw [13] (fun i wr => ∃ t : Nat, t ≤ n1 ∧ i = .int .i64 t ∧ (∀ j, j < t → l1.getD j (m00, 0) = l2.getD j (m00, 0)) ∧ Below w.heap.size w wr) (fun i _ => n1 - (intOf i).toNat)
    case atStart => exact ⟨0, by omega, rfl, fun j hj => by omega, Below.refl _ _⟩
    case round =>
      obtain ⟨t, ht, rfl, hj, hbel⟩ := hrel
      have HJ := Lib.hid hj
      have HB := Lib.hid hbel
      have hsz := hbel.size
      clear hbel hj
      by_cases hlt : t < n1
      · rcases H1.out with h | ⟨b, off, rfl, hb, hd⟩
        · have := E1.out; omega
        rcases H2.out with h | ⟨b2, off2, rfl, hb2, hd2⟩
        · have := E2.out; omega
        obtain ⟨p0, p1, p2, p3, p4, p5, p6, p7, p8⟩ := hd t (by have := E1.out; omega)
        obtain ⟨q0, q1, q2, q3, q4, q5, q6, q7, q8⟩ := hd2 t (by have := E2.out; omega)
        obtain ⟨x, hx⟩ : ∃ x, l1.getD t (m00, 0) = x := ⟨_, rfl⟩
        obtain ⟨y, hy⟩ : ∃ y, l2.getD t (m00, 0) = y := ⟨_, rfl⟩
        rw [hx] at p0 p1 p2 p3 p4 p5 p6 p7 p8
        rw [hy] at q0 q1 q2 q3 q4 q5 q6 q7 q8
        have HX := Lib.hid hx
        have HY := Lib.hid hy
        replace p0 := cellk HB.out hb p0
        replace q0 := cellk HB.out hb2 q0
        replace p1 := cellk HB.out hb p1
        replace q1 := cellk HB.out hb2 q1
        replace p2 := cellk HB.out hb p2
        replace q2 := cellk HB.out hb2 q2
        replace p3 := cellk HB.out hb p3
        replace q3 := cellk HB.out hb2 q3
        replace p4 := cellk HB.out hb p4
        replace q4 := cellk HB.out hb2 q4
        replace p5 := cellk HB.out hb p5
        replace q5 := cellk HB.out hb2 q5
        replace p6 := cellk HB.out hb p6
        replace q6 := cellk HB.out hb2 q6
        replace p7 := cellk HB.out hb p7
        replace q7 := cellk HB.out hb2 q7
        replace p8 := cellk HB.out hb p8
        replace q8 := cellk HB.out hb2 q8
        have hE := fun wx => neq_stay x y wx
        obtain ⟨vb, hvb⟩ : ∃ vb, (!decide (x = y)) = vb := ⟨_, rfl⟩
        rw [hvb] at hE
        have HV := Lib.hid hvb
        have hG := gd_stay
        have hi0 : (0 : Int) ≤ (t : Int) := by omega
        have hi1 : (t : Int) < (n1 : Int) := by omega
        have hbw : b < wr.heap.size := by omega
        have hbw2 : b2 < wr.heap.size := by omega
        clear hd hd2 hx hy hvb
        go_wp2_with (fail)
        go_quiet (fail)
        have HB2 := Lib.hid (bdrewN HB.out nq)
        clear p0 p1 p2 p3 p4 p5 p6 p7 p8 q0 q1 q2 q3 q4 q5 q6 q7 q8 hE
        rcases vb with _ | _
        · have hxy : x = y := by have := HV.out; simpa using this
          go_wp2_with (fail)
          go_roundw
          case rel => exact ⟨t + 1, by omega, by go_num, fun j hj => (by
            rcases Nat.lt_or_ge j t with h | h
            · exact HJ.out j h
            · obtain rfl : j = t := by omega
              rw [HX.out, HY.out]; exact hxy), HB2.out⟩
          case measure => simp [intOf] <;> omega
        · have hxy : x ≠ y := by have := HV.out; simpa using this
          have hd : decide (l1 = l2) = false := by
            rw [decide_eq_false_iff_not]
            rintro rfl
            exact hxy (HX.out.symm.trans HY.out)
          have HD := Lib.hid hd
          clear hd
          go_wp2_with (fail)
          go_ret
          exact ⟨by rw [HD.out]; rfl, HB2.out⟩
      · obtain rfl : n1 = t := by omega
        have hd : decide (l1 = l2) = true := by
          rw [decide_eq_true_eq]
          exact lists_eq (by rw [← E1.out, ← E2.out]) (fun j hj => HJ.out j (by rw [E1.out]; exact hj))
        have HD := Lib.hid hd
        clear hd
        go_wp2_with (fail)
        go_ret
        exact ⟨by rw [HD.out]; rfl, HB.out⟩
  · have hd : decide (l1 = l2) = false := by
      rw [decide_eq_false_iff_not]
      rintro rfl
      exact hlen (E1.out.trans E2.out.symm)
    have HD := Lib.hid hd
    have hne : ¬ (n1 : Int) = (n2 : Int) := by omega
    clear hd
    go_enter Try.func29, Try.ntmps29
    go_wp2_with (fail)
    go_ret
    exact ⟨by rw [HD.out]; rfl, (by repeat (first | exact Below.refl _ _ | assumption | refine Below.drew ?_ | refine bdrewN ?_ _ | refine Below.setCell ?_ (by first | omega | (simp <;> omega)) _ | refine Below.alloc ?_ (by first | omega | (simp <;> omega)) _))⟩
theorem st_mom : Try.prog.stoodInHeld 71 = false := by kernel_rfl
theorem gd_mom : Try.prog.eqGuardType Try.prog.depth 71 = false := by kernel_rfl
theorem neq_mom (s t : Ma × Int) (w : World) : (Go.binOp .neq 71 (.agg #[.int .i64 s.1.x, .int .i64 s.1.y, .int .i64 s.1.z, .int .i64 s.1.s, .int .i64 s.1.h, .int .i64 s.1.t, .int .i64 s.1.f, .bool s.1.r, .int .i64 s.2]) (.agg #[.int .i64 t.1.x, .int .i64 t.1.y, .int .i64 t.1.z, .int .i64 t.1.s, .int .i64 t.1.h, .int .i64 t.1.t, .int .i64 t.1.f, .bool t.1.r, .int .i64 t.2])).run Try.prog w = Result.ok (.bool (!decide (s = t))) w := by
  rw [run_neq_struct, run_equalIn_agg (ht := by kernel_rfl) (hp := st_mom)]
  rcases s with ⟨⟨a0, a1, a2, a3, a4, a5, a6, a7⟩, a8⟩
  rcases t with ⟨⟨b0, b1, b2, b3, b4, b5, b6, b7⟩, b8⟩
  simp [go_sem]
  repeat' split
  all_goals simp_all
set_option maxRecDepth 100000 in
set_option maxHeartbeats 4000000 in
theorem equal_mom (a1 a2 : Option Addr) (n1 n2 c1 c2 : Nat) (l1 l2 : List (Ma × Int)) (w : World) (h1 : YsR w a1 l1) (h2 : YsR w a2 l2) (e1 : n1 = l1.length) (e2 : n2 = l2.length) (hn : n1 ≤ 6000) (hn2 : n2 ≤ 6000) :
    Calls Try.prog 33 #[.slice a1 n1 c1, .slice a2 n2 c2] w fun e w' => e = .returned (.bool (decide (l1 = l2))) ∧ Below w.heap.size w w' := by
  have H1 := Lib.hid h1
  have H2 := Lib.hid h2
  have E1 := Lib.hid e1
  have E2 := Lib.hid e2
  clear h1 h2 e1 e2
  by_cases hlen : n1 = n2
  · subst hlen
    go_enter Try.func33, Try.ntmps33
    go_wp2_with (fail)
    go_loopw [13] (fun i wr => ∃ t : Nat, t ≤ n1 ∧ i = .int .i64 t ∧ (∀ j, j < t → l1.getD j (m00, 0) = l2.getD j (m00, 0)) ∧ Below w.heap.size w wr) (fun i _ => n1 - (intOf i).toNat)
    case atStart => exact ⟨0, by omega, rfl, fun j hj => by omega, Below.refl _ _⟩
    case round =>
      obtain ⟨t, ht, rfl, hj, hbel⟩ := hrel
      have HJ := Lib.hid hj
      have HB := Lib.hid hbel
      have hsz := hbel.size
      clear hbel hj
      by_cases hlt : t < n1
      · rcases H1.out with h | ⟨b, off, rfl, hb, hd⟩
        · have := E1.out; omega
        rcases H2.out with h | ⟨b2, off2, rfl, hb2, hd2⟩
        · have := E2.out; omega
        obtain ⟨p0, p1, p2, p3, p4, p5, p6, p7, p8⟩ := hd t (by have := E1.out; omega)
        obtain ⟨q0, q1, q2, q3, q4, q5, q6, q7, q8⟩ := hd2 t (by have := E2.out; omega)
        obtain ⟨x, hx⟩ : ∃ x, l1.getD t (m00, 0) = x := ⟨_, rfl⟩
        obtain ⟨y, hy⟩ : ∃ y, l2.getD t (m00, 0) = y := ⟨_, rfl⟩
        rw [hx] at p0 p1 p2 p3 p4 p5 p6 p7 p8
        rw [hy] at q0 q1 q2 q3 q4 q5 q6 q7 q8
        have HX := Lib.hid hx
        have HY := Lib.hid hy
        replace p0 := cellk HB.out hb p0
        replace q0 := cellk HB.out hb2 q0
        replace p1 := cellk HB.out hb p1
        replace q1 := cellk HB.out hb2 q1
        replace p2 := cellk HB.out hb p2
        replace q2 := cellk HB.out hb2 q2
        replace p3 := cellk HB.out hb p3
        replace q3 := cellk HB.out hb2 q3
        replace p4 := cellk HB.out hb p4
        replace q4 := cellk HB.out hb2 q4
        replace p5 := cellk HB.out hb p5
        replace q5 := cellk HB.out hb2 q5
        replace p6 := cellk HB.out hb p6
        replace q6 := cellk HB.out hb2 q6
        replace p7 := cellk HB.out hb p7
        replace q7 := cellk HB.out hb2 q7
        replace p8 := cellk HB.out hb p8
        replace q8 := cellk HB.out hb2 q8
        have hE := fun wx => neq_mom x y wx
        obtain ⟨vb, hvb⟩ : ∃ vb, (!decide (x = y)) = vb := ⟨_, rfl⟩
        rw [hvb] at hE
        have HV := Lib.hid hvb
        have hG := gd_mom
        have hi0 : (0 : Int) ≤ (t : Int) := by omega
        have hi1 : (t : Int) < (n1 : Int) := by omega
        have hbw : b < wr.heap.size := by omega
        have hbw2 : b2 < wr.heap.size := by omega
        clear hd hd2 hx hy hvb
        go_wp2_with (fail)
        go_quiet (fail)
        have HB2 := Lib.hid (bdrewN HB.out nq)
        clear p0 p1 p2 p3 p4 p5 p6 p7 p8 q0 q1 q2 q3 q4 q5 q6 q7 q8 hE
        rcases vb with _ | _
        · have hxy : x = y := by have := HV.out; simpa using this
          go_wp2_with (fail)
          go_roundw
          case rel => exact ⟨t + 1, by omega, by go_num, fun j hj => (by
            rcases Nat.lt_or_ge j t with h | h
            · exact HJ.out j h
            · obtain rfl : j = t := by omega
              rw [HX.out, HY.out]; exact hxy), HB2.out⟩
          case measure => simp [intOf] <;> omega
        · have hxy : x ≠ y := by have := HV.out; simpa using this
          have hd : decide (l1 = l2) = false := by
            rw [decide_eq_false_iff_not]
            rintro rfl
            exact hxy (HX.out.symm.trans HY.out)
          have HD := Lib.hid hd
          clear hd
          go_wp2_with (fail)
          go_ret
          exact ⟨by rw [HD.out]; rfl, HB2.out⟩
      · obtain rfl : n1 = t := by omega
        have hd : decide (l1 = l2) = true := by
          rw [decide_eq_true_eq]
          exact lists_eq (by rw [← E1.out, ← E2.out]) (fun j hj => HJ.out j (by rw [E1.out]; exact hj))
        have HD := Lib.hid hd
        clear hd
        go_wp2_with (fail)
        go_ret
        exact ⟨by rw [HD.out]; rfl, HB.out⟩
  · have hd : decide (l1 = l2) = false := by
      rw [decide_eq_false_iff_not]
      rintro rfl
      exact hlen (E1.out.trans E2.out.symm)
    have HD := Lib.hid hd
    have hne : ¬ (n1 : Int) = (n2 : Int) := by omega
    clear hd
    go_enter Try.func33, Try.ntmps33
    go_wp2_with (fail)
    go_ret
    exact ⟨by rw [HD.out]; rfl, (by repeat (first | exact Below.refl _ _ | assumption | refine Below.drew ?_ | refine bdrewN ?_ _ | refine Below.setCell ?_ (by first | omega | (simp <;> omega)) _ | refine Below.alloc ?_ (by first | omega | (simp <;> omega)) _))⟩

theorem stays_tells (p q r0 base : Nat) (a : Option Addr) (n c : Nat) (S : Nat → St) (hn : n ≤ 5000) (hok : ∀ i, i < n → SOk (S i)) (hqr : q < r0) (hrp : r0 < p) (hpb : p < base) (hab : 0 < n → ∀ x, a = some x → x.block < r0) : Tells 40 #[.pointer (some ⟨p, 0, none⟩), .pointer (some ⟨q, 0, none⟩)] m00 S n base (fun b => b = p ∨ b = r0) (StayInv p q r0 base a n c S) :=
  ⟨enter_of Try.func40 (by kernel_rfl) (by kernel_rfl),
    fun i w w1 hi hI h2 hb => stays1_any p q r0 base i a n c S _ w w1 hi hn hok hI hqr hrp hpb hab h2 hb,
    fun i w w' h hm => by
      obtain ⟨g, co, h1, h2, h3, h4, h5⟩ := h
      exact ⟨g, co, heap_mut h1 hm (by omega), heap_mut h2 hm (by omega), own_mut h3 hm (fun b hb e => by have e' : g = b := Option.some.inj hb; omega), h4, h5.mutC hm (fun h0 x hx e => by have := hab h0 x hx; omega)⟩,
    fun x h => by omega⟩
set_option maxRecDepth 100000 in
set_option maxHeartbeats 4000000 in
theorem stays_any (a : Option Addr) (n c : Nat) (S : Nat → St) (w : World) (hn : n ≤ 5000) (hok : ∀ i, i < n → SOk (S i)) (hp : StepsR w a n S) :
    Calls Try.prog 30 #[.slice a n c] w fun e w' => ∃ ao co, e = .returned (.slice ao (syL S n).length co) ∧ YsR w' ao (syL S n) ∧ Below w.heap.size w w' := by
  have HP := Lib.hid hp
  have HOK := Lib.hid hok
  have HB := Lib.hid (fun (h0 : 0 < n) (x : Addr) (hx : a = some x) => (show x.block < w.heap.size + 1 by have := hp.blk h0 x hx; omega))
  have hb1 : Below w.heap.size w (((w.alloc (.cells #[.slice a n c] 26)).alloc (.cells #[.int .i64 0, .int .i64 0, .int .i64 0, .int .i64 0, .int .i64 0, .int .i64 0, .int .i64 0, .bool false, .int .i64 0] 62)).alloc (.cells #[.slice (some ⟨w.heap.size + 1, 0, none⟩) 1 1] 60)) := (by repeat (first | exact Below.refl _ _ | assumption | refine Below.drew ?_ | refine bdrewN ?_ _ | refine Below.setCell ?_ (by first | omega | (simp <;> omega)) _ | refine Below.alloc ?_ (by first | omega | (simp <;> omega)) _))
  have B1 := Lib.hid hb1
  have hh1 : (((w.alloc (.cells #[.slice a n c] 26)).alloc (.cells #[.int .i64 0, .int .i64 0, .int .i64 0, .int .i64 0, .int .i64 0, .int .i64 0, .int .i64 0, .bool false, .int .i64 0] 62)).alloc (.cells #[.slice (some ⟨w.heap.size + 1, 0, none⟩) 1 1] 60)).heap[w.heap.size]? = some (.cells #[.slice a n c] 26 (0, 0)) := (Below.heap_alloc _ _ _ (by simp; omega)).trans ((Below.heap_alloc _ _ _ (by simp)).trans (heap_new rfl))
  have hh2 : (((w.alloc (.cells #[.slice a n c] 26)).alloc (.cells #[.int .i64 0, .int .i64 0, .int .i64 0, .int .i64 0, .int .i64 0, .int .i64 0, .int .i64 0, .bool false, .int .i64 0] 62)).alloc (.cells #[.slice (some ⟨w.heap.size + 1, 0, none⟩) 1 1] 60)).heap[w.heap.size + 1]? = some (.cells #[.int .i64 0, .int .i64 0, .int .i64 0, .int .i64 0, .int .i64 0, .int .i64 0, .int .i64 0, .bool false, .int .i64 0] 62 (0, 0)) := (Below.heap_alloc _ _ _ (by simp)).trans (heap_new (by simp))
  have hh3 : (((w.alloc (.cells #[.slice a n c] 26)).alloc (.cells #[.int .i64 0, .int .i64 0, .int .i64 0, .int .i64 0, .int .i64 0, .int .i64 0, .int .i64 0, .bool false, .int .i64 0] 62)).alloc (.cells #[.slice (some ⟨w.heap.size + 1, 0, none⟩) 1 1] 60)).heap[w.heap.size + 1 + 1]? = some (.cells #[.slice (some ⟨w.heap.size + 1, 0, none⟩) 1 1] 60 (0, 0)) := heap_new (by simp)
  have hs3 : (((w.alloc (.cells #[.slice a n c] 26)).alloc (.cells #[.int .i64 0, .int .i64 0, .int .i64 0, .int .i64 0, .int .i64 0, .int .i64 0, .int .i64 0, .bool false, .int .i64 0] 62)).alloc (.cells #[.slice (some ⟨w.heap.size + 1, 0, none⟩) 1 1] 60)).heap.size = w.heap.size + 1 + 1 + 1 := by simp
  have HP3 := Lib.hid (hp.kept hb1)
  have HI : Hid (StayInv (w.heap.size + 1 + 1) w.heap.size (w.heap.size + 1) (w.heap.size + 1 + 1 + 1) a n c S 0 (((w.alloc (.cells #[.slice a n c] 26)).alloc (.cells #[.int .i64 0, .int .i64 0, .int .i64 0, .int .i64 0, .int .i64 0, .int .i64 0, .int .i64 0, .bool false, .int .i64 0] 62)).alloc (.cells #[.slice (some ⟨w.heap.size + 1, 0, none⟩) 1 1] 60))) := Lib.hid ⟨w.heap.size + 1, 1, hh3, hh1, ⟨rfl, .inr ⟨w.heap.size + 1, 1, #[.int .i64 0, .int .i64 0, .int .i64 0, .int .i64 0, .int .i64 0, .int .i64 0, .int .i64 0, .bool false, .int .i64 0], rfl, Nat.le_refl _, hh2, Nat.le_refl 1, by unfold maxLen; decide, rfl, rfl⟩⟩, .inl rfl, HP3.out⟩
  clear hp hok hb1 hh1 hh2 hh3
  go_enter Try.func30, Try.ntmps30
  go_wp2_with (fail)
  generalize (((w.alloc (.cells #[.slice a n c] 26)).alloc (.cells #[.int .i64 0, .int .i64 0, .int .i64 0, .int .i64 0, .int .i64 0, .int .i64 0, .int .i64 0, .bool false, .int .i64 0] 62)).alloc (.cells #[.slice (some ⟨w.heap.size + 1, 0, none⟩) 1 1] 60)) = w3 at *
  obtain ⟨q, hq⟩ : ∃ q, w.heap.size = q := ⟨_, rfl⟩
  have HQ := Lib.hid hq
  rw [hq] at HI HB hs3
  try rw [hq]
  clear hq
  refine (walk_any 40 #[.pointer (some ⟨q + 1 + 1, 0, none⟩), .pointer (some ⟨q, 0, none⟩)] m00 0 a n c S (fun b => b = q + 1 + 1 ∨ b = q + 1) (StayInv (q + 1 + 1) q (q + 1) (q + 1 + 1 + 1) a n c S) w3 hn (by omega) mb0 HOK.out (by rw [hs3]; exact stays_tells (q + 1 + 1) q (q + 1) (q + 1 + 1 + 1) a n c S hn HOK.out (by omega) (by omega) (by omega) HB.out) HI.out (fun h0 x hx e => by have := HB.out h0 x hx; omega) HP3.out).mono ?_
  rintro e w4 ⟨rfl, ⟨g, co, hh, -, hown, -, -⟩, hm⟩
  have B4 := Lib.hid (B1.out.trans (hm.toBelow w.heap.size B1.out.size (fun b hb h => by have := HQ.out; omega)))
  have HOW := Lib.hid hown
  have p0 : w4.cell? ⟨q + 1 + 1, 0, none⟩ = some (.slice (some ⟨g, 0, none⟩) (syL S n).length co) := cell_of hh (i := 0) rfl
  clear hh hown hm
  go_wp2_with (fail)
  go_ret
  exact ⟨_, co, rfl, own_ys HOW.out rfl, B4.out⟩
/-- What Same tells. -/
def sameE (n : Nat) (S : Nat → St) (m : Nat) (T : Nat → St) : Int := if stepsE n S = 0 then stepsE m T else stepsE n S
def sameB (n : Nat) (S : Nat → St) (m : Nat) (T : Nat → St) : Bool := if sameE n S m T = 0 then decide (syL S n = syL T m) else false
set_option maxRecDepth 100000 in
set_option maxHeartbeats 4000000 in
theorem same_any (a : Option Addr) (n c : Nat) (S : Nat → St) (a' : Option Addr) (n' c' : Nat) (T : Nat → St) (w : World) (hn : n ≤ 5000) (hn' : n' ≤ 5000) (hp : StepsR w a n S) (hp' : StepsR w a' n' T) :
    Calls Try.prog 13 #[.slice a n c, .slice a' n' c'] w fun e w' => e = .returned (.tuple #[.bool (sameB n S n' T), .int .i64 (sameE n S n' T)]) ∧ Below w.heap.size w w' := by
  have HP := Lib.hid hp
  have HP' := Lib.hid hp'
  clear hp hp'
  go_enter Try.func13, Try.ntmps13
  go_wp2_with (fail)
  refine (checkSteps_any a n c S w hn HP.out).mono ?_
  rintro e w1 ⟨rfl, hb⟩
  replace HP := Lib.hid (HP.out.kept hb)
  replace HP' := Lib.hid (HP'.out.kept hb)
  have B0 := Lib.hid hb
  clear hb
  by_cases hz : stepsE n S = 0
  · have HE := Lib.hid hz
    have hok := stepsE_zero hz
    have HOK := Lib.hid (fun i hi => sok (hok i hi))
    have hz' : (stepsE n S != 0) = false := by simp [hz]
    clear hz hok
    go_wp2_with (fail)
    refine (checkSteps_any a' n' c' T w1 hn' HP'.out).mono ?_
    rintro e w2 ⟨rfl, hb⟩
    replace HP := Lib.hid (HP.out.kept hb)
    replace HP' := Lib.hid (HP'.out.kept hb)
    replace B0 := Lib.hid (B0.out.trans (hb.mono B0.out.size))
    clear hb hz'
    by_cases hz : stepsE n' T = 0
    · have HE' := Lib.hid hz
      have hok := stepsE_zero hz
      have HOK' := Lib.hid (fun i hi => sok (hok i hi))
      have hz' : (stepsE n' T != 0) = false := by simp [hz]
      clear hz hok
      go_wp2_with (fail)
      refine (stays_any a n c S w2 hn HOK.out HP.out).mono ?_
      rintro e w3 ⟨ao, co, rfl, hy, hb⟩
      have HY := Lib.hid hy
      replace HP' := Lib.hid (HP'.out.kept hb)
      replace B0 := Lib.hid (B0.out.trans (hb.mono B0.out.size))
      clear hb hy
      have hl1 := syL_len S n
      have hl2 := mo_len S n
      have hl3 := syL_len T n'
      have hl4 := mo_len T n'
      obtain ⟨l1, hL1⟩ : ∃ l, (syL S n).length = l := ⟨_, rfl⟩
      obtain ⟨l2, hL2⟩ : ∃ l, (syL T n').length = l := ⟨_, rfl⟩
      have HL1 := Lib.hid hL1
      have HL2 := Lib.hid hL2
      rw [hL1] at hl1 ⊢
      rw [hL2] at hl3
      have hb1 : l1 ≤ 6000 := by omega
      have hb2 : l2 ≤ 6000 := by omega
      clear hL1 hL2 hl1 hl2 hl3 hl4
      go_wp2_with (fail)
      refine (stays_any a' n' c' T w3 hn' HOK'.out HP'.out).mono ?_
      rintro e w4 ⟨ao', co', rfl, hy, hb⟩
      have HY' := Lib.hid hy
      replace HY := Lib.hid (HY.out.kept hb)
      replace B0 := Lib.hid (B0.out.trans (hb.mono B0.out.size))
      clear hb hy
      rw [HL2.out]
      go_wp2_with (fail)
      refine (equal_stay ao ao' l1 l2 co co' (syL S n) (syL T n') w4 HY.out HY'.out HL1.out.symm HL2.out.symm hb1 hb2).mono ?_
      rintro e w5 ⟨rfl, hb⟩
      replace B0 := Lib.hid (B0.out.trans (hb.mono B0.out.size))
      clear hb
      have HEE := Lib.hid (show sameE n S n' T = 0 by unfold sameE; rw [if_pos HE.out]; exact HE'.out)
      go_wp2_with (fail)
      exact bodyPost_ret (v := .tuple #[.bool (decide (syL S n = syL T n')), .int .i64 0]) (by simp [results, Try.results13, go_sem]) rfl ⟨by unfold sameB; rw [if_pos HEE.out, HEE.out], B0.out⟩
    · have HE' := Lib.hid hz
      have hz' : (stepsE n' T != 0) = true := by simpa using hz
      have HEE := Lib.hid (show sameE n S n' T = stepsE n' T by unfold sameE; rw [if_pos HE.out])
      clear hz
      go_wp2_with (fail)
      exact bodyPost_ret (v := .tuple #[.bool false, .int .i64 (stepsE n' T)]) (by simp [results, Try.results13, go_sem]) rfl ⟨by unfold sameB; rw [HEE.out, if_neg HE'.out], B0.out⟩
  · have HE := Lib.hid hz
    have hz' : (stepsE n S != 0) = true := by simpa using hz
    have HEE := Lib.hid (show sameE n S n' T = stepsE n S by unfold sameE; rw [if_neg HE.out])
    clear hz
    go_wp2_with (fail)
    exact bodyPost_ret (v := .tuple #[.bool false, .int .i64 (stepsE n S)]) (by simp [results, Try.results13, go_sem]) rfl ⟨by unfold sameB; rw [HEE.out, if_neg HE.out], B0.out⟩
end Go.Proofs.Ytgmpmaiddombeaa

/- The area of a ring alone. -/
import Derived.Test.YthaecpcpeelcnaaRg
set_option linter.unusedSimpArgs false
set_option linter.unusedVariables false
namespace Go.Proofs.Ythaecpcpeelcnaa
open Go.RowKit

set_option maxRecDepth 100000 in
set_option maxHeartbeats 4000000 in
theorem checkRegion_one (br or b off n c cr : Nat) (X Y : Nat → Int) (w : World) (hbr : br < w.heap.size) (hr : w.cell? ⟨br, or, none⟩ = some (.slice (some ⟨b, off, none⟩) n c)) (hb : b < w.heap.size) (hd : Du w b off n X Y) (h3 : 3 ≤ n) (hn : n ≤ 500) (hs : ∀ i, i < n → rB (X i) (Y i) = true) (hf : Far n X Y) (hm : NoMeet n X Y) :
    Calls Try.prog 42 #[.slice (some ⟨br, or, none⟩) 1 cr] w fun e w' => e = .returned (.int .i64 0) ∧ Below w.heap.size w w' := by
  have HD := Lib.hid hd
  clear hd
  have e1 : IntKind.i64.wrap (0 + (n : Int)) = (n : Int) := by rw [Int.zero_add]; exact w64 (by omega)
  have e1' : IntKind.i64.wrap (n : Int) = (n : Int) := w64 (by omega)
  have l2 : ¬ (2000 : Int) < (n : Int) := by omega
  go_enter Try.func42, Try.ntmps42
  go_wp2_with (fail)
  refine wp_loop_rounds 2 ?_
  rw [rounds_succ]
  go_wp2_with (fail)
  rw [rounds_succ]
  go_wp2_with (fail)
  refine wp_loop_rounds 2 ?_
  rw [rounds_succ]
  go_wp2_with (fail)
  refine (checkRing_ok b off n c X Y w hb HD.out h3 hn hs hf hm).mono ?_
  rintro e w1 ⟨rfl, hb1⟩
  have B1 := Lib.hid hb1
  have hs1 := hb1.size
  have hr1 := cellk hb1 hbr hr
  clear hb1 hr
  go_wp2_with (fail)
  rw [rounds_succ]
  go_wp2_with (fail)
  refine (meetEach_one br or b off n c cr X Y w1 (by omega) hr1 (by omega) (HD.out.kept B1.out hb) (by omega) hn).mono ?_
  rintro e w2 ⟨rfl, hb2⟩
  have R := Lib.hid (B1.out.trans (hb2.mono hs1))
  clear hb2
  go_wp2
  go_ret
  exact ⟨rfl, R.out⟩

theorem checkRegionR_one (br or b off n c cr : Nat) (X Y : Nat → Int) (w : World) (hbr : br < w.heap.size) (hr : w.cell? ⟨br, or, none⟩ = some (.slice (some ⟨b, off, none⟩) n c)) (hb : b < w.heap.size) (hd : Du w b off n X Y) (h3 : 3 ≤ n) (hn : n ≤ 500) (hs : ∀ i, i < n → rB (X i) (Y i) = true) (hf : Far n X Y) (hm : NoMeet n X Y) :
    Calls Try.prog 39 #[.slice (some ⟨br, or, none⟩) 1 cr] w fun e w' => e = .returned (.int .i64 0) ∧ Below w.heap.size w w' := by
  go_enter Try.func39, Try.ntmps39
  go_wp2_with (fail)
  refine (checkRegion_one br or b off n c cr X Y w hbr hr hb hd h3 hn hs hf hm).mono ?_
  rintro e w1 ⟨rfl, hb1⟩
  go_wp2
  go_ret
  exact ⟨rfl, hb1⟩
theorem info_int1R : (Try.prog.info? 3).map (fun i => (i.zero, i.size, i.bytes)) = some (some (.int .i64 0), 1, 8) := by kernel_rfl
theorem mk_one (w : World) : (Instr.makeSlice 22 (.int .i64 1) (.int .i64 1)).run Try.prog w = .ok (.slice (some ⟨w.heap.size, 0, none⟩) 1 1) (w.alloc (.cells #[.int .i64 0] 3)) := by
  obtain ⟨i0, hi0, hz0, hz1, hz2⟩ := info_partsR info_int1R
  have h := run_makeSlice (P := Try.prog) w 22 3 i0 (.int .i64 0) Try.underlying22 hi0 hz0 .i64 .i64 1 1 (by omega) (by omega) (by rw [hz1]; omega) (by rw [hz2]; omega) (by omega)
  rw [h, hz1]
  have hm : madeCells (Value.int .i64 0).cells (Int.toNat 1 * 1) = #[.int .i64 0] := by
    apply Array.ext
    · simp [size_madeCells]
    · intro i h1 h2
      simp at h2
      subst h2
      simp [madeCells, Value.cells]
  rw [hm]
  rfl

set_option maxRecDepth 100000 in
set_option maxHeartbeats 4000000 in
theorem depths_one (br or b off n c cr : Nat) (X Y : Nat → Int) (w : World) (hbr : br < w.heap.size) (hr : w.cell? ⟨br, or, none⟩ = some (.slice (some ⟨b, off, none⟩) n c)) (hb : b < w.heap.size) (hd : Du w b off n X Y) (h3 : 3 ≤ n) (hn : n ≤ 500) (hs : ∀ i, i < n → rB (X i) (Y i) = true) (hf : Far n X Y) (hm : NoMeet n X Y) :
    Calls Try.prog 31 #[.slice (some ⟨br, or, none⟩) 1 cr] w fun e w' => ∃ g, e = .returned (.tuple #[.slice (some ⟨g, 0, none⟩) 1 1, .int .i64 0]) ∧ w'.cell? ⟨g, 0, none⟩ = some (.int .i64 0) ∧ w.heap.size ≤ g ∧ g < w'.heap.size ∧ Below w.heap.size w w' := by
  have HD := Lib.hid hd
  clear hd
  have hmk := mk_one
  go_enter Try.func31, Try.ntmps31
  go_wp2_with (fail)
  refine (checkRegionR_one br or b off n c cr X Y w hbr hr hb HD.out h3 hn hs hf hm).mono ?_
  rintro e w1 ⟨rfl, hb1⟩
  have B1 := Lib.hid hb1
  have hs1 := hb1.size
  have hr1 := cellk hb1 hbr hr
  clear hb1 hr
  have hbr1 : br < w1.heap.size := by omega
  go_wp2_with (fail)
  refine wp_loop_rounds 2 ?_
  rw [rounds_succ]
  go_wp2_with (fail)
  refine wp_loop_rounds 2 ?_
  rw [rounds_succ]
  go_wp2_with (fail)
  rw [rounds_succ]
  go_wp2_with (fail)
  rw [rounds_succ]
  go_wp2_with (fail)
  have R := Lib.hid (B1.out.alloc hs1 (.cells #[.int .i64 0] 3))
  go_wp2
  exact bodyPost_ret (v := .tuple #[.slice (some ⟨w1.heap.size, 0, none⟩) 1 1, .int .i64 0]) (by simp [results, Try.results31, go_sem]) rfl ⟨_, rfl, by simp [go_sem], hs1, by simp, R.out⟩

/-- Twice the area of a ring, by its first k sides. -/
def dbl (n : Nat) (X Y : Nat → Int) : Nat → Int
  | 0 => 0
  | k + 1 => dbl n X Y k + (X k * Y (nx n k) - Y k * X (nx n k))
theorem dbl_b {n : Nat} {X Y : Nat → Int} (hs : ∀ i, i < n → sm (X i) ∧ sm (Y i)) : ∀ k, k ≤ n → -((k : Int) * 2000000000000) ≤ dbl n X Y k ∧ dbl n X Y k ≤ (k : Int) * 2000000000000
  | 0, _ => by simp [dbl]
  | k + 1, h => by
    have := dbl_b hs k (by omega)
    have a := hs k (by omega)
    have b := hs (nx n k) (nx_lt (by omega))
    unfold sm at a b
    have m1 := mulB (a := X k) (b := Y (nx n k)) (M := 1000000) (N := 1000000) a.1 b.2
    have m2 := mulB (a := Y k) (b := X (nx n k)) (M := 1000000) (N := 1000000) a.2 b.1
    simp only [dbl]
    omega
set_option maxRecDepth 100000 in
set_option maxHeartbeats 4000000 in
theorem doubled_any (b off n c : Nat) (X Y : Nat → Int) (w : World) (hb : b < w.heap.size) (hd : Du w b off n X Y) (hn : n ≤ 1000) (hs : ∀ i, i < n → sm (X i) ∧ sm (Y i)) :
    Calls Try.prog 32 #[.slice (some ⟨b, off, none⟩) n c] w fun e w' => e = .returned (.int .i64 (dbl n X Y n)) ∧ Below w.heap.size w w' := by
  have HD := Lib.hid hd
  have HS := Lib.hid hs
  clear hd hs
  go_enter Try.func32, Try.ntmps32
  go_wp2_with (fail)
  go_loopw [3, 9] (fun s i wr => ∃ k : Nat, k ≤ n ∧ s = .int .i64 (dbl n X Y k) ∧ i = .int .i64 k ∧ Below w.heap.size w wr) (fun _ i _ => n - (intOf i).toNat)
  case atStart => exact ⟨0, by omega, rfl, rfl, Below.refl _ _⟩
  case round =>
    obtain ⟨k, hk, rfl, rfl, hbel⟩ := hrel
    have hsz := hbel.size
    by_cases hlt : k < n
    · obtain ⟨c0, c1⟩ := (HD.out.kept hbel hb) k hlt
      have hx := nx_lt hlt
      obtain ⟨d0, d1⟩ := (HD.out.kept hbel hb) (nx n k) hx
      have hmod := nx_mod n k
      have hbw : b < wr.heap.size := by omega
      have hbw1 : b < wr.heap.size + 1 := by omega
      have a := HS.out k hlt
      have a' := HS.out (nx n k) hx
      have hD := dbl_b HS.out k hk
      have hD2 := dbl_b HS.out (k + 1) hlt
      obtain ⟨T, hT⟩ : ∃ T, dbl n X Y (k + 1) = T := ⟨_, rfl⟩
      have hT2 : dbl n X Y k + (X k * Y (nx n k) - Y k * X (nx n k)) = T := hT
      rw [hT] at hD2
      have HT := Lib.hid hT
      clear hT
      generalize dbl n X Y k = D at *
      generalize nx n k = m at *
      unfold sm at a a'
      have m1 := mulB (a := X k) (b := Y m) (M := 1000000) (N := 1000000) a.1 a'.2
      have m2 := mulB (a := Y k) (b := X m) (M := 1000000) (N := 1000000) a.2 a'.1
      have w1 : IntKind.i64.wrap (X k * Y m) = X k * Y m := w64 (by omega)
      have w2 : IntKind.i64.wrap (Y k * X m) = Y k * X m := w64 (by omega)
      have w3 : IntKind.i64.wrap (X k * Y m - Y k * X m) = X k * Y m - Y k * X m := w64 (by omega)
      have w4 : IntKind.i64.wrap (D + (X k * Y m - Y k * X m)) = T := by rw [hT2]; exact w64 (by omega)
      have hw1 : IntKind.i64.wrap ((k : Int) + 1) = (k : Int) + 1 := w64 (by omega)
      have hn0 : ¬ n = 0 := by omega
      have hm0 : (0 : Int) ≤ (m : Int) := by omega
      have hm1 : (m : Int) < (n : Int) := by omega
      have HB := Lib.hid hbel
      clear hbel m1 m2 a a' hD hD2 hT2
      have R := Lib.hid ((HB.out.alloc hsz (.cells #[.int .i64 (X k), .int .i64 (Y k)] 49)).alloc (by simp; omega) (.cells #[.int .i64 (X m), .int .i64 (Y m)] 49))
      go_wp2_with (fail)
      go_roundw
      case rel => exact ⟨k + 1, by omega, by rw [HT.out], by go_num, R.out⟩
      case measure => simp [intOf]; omega
    · obtain rfl : n = k := by omega
      go_wp2
      go_ret
      exact ⟨rfl, hbel⟩

theorem isOuter_zero (w : World) : Calls Try.prog 33 #[.int .i64 0] w fun e w' => e = .returned (.bool true) ∧ w = w' := by
  go_enter Try.func33, Try.ntmps33
  go_wp2
  go_ret
  exact ⟨rfl, rfl⟩
set_option maxRecDepth 100000 in
set_option maxHeartbeats 4000000 in
theorem area_one (br or b off n c cr : Nat) (X Y : Nat → Int) (w : World) (hbr : br < w.heap.size) (hr : w.cell? ⟨br, or, none⟩ = some (.slice (some ⟨b, off, none⟩) n c)) (hb : b < w.heap.size) (hd : Du w b off n X Y) (h3 : 3 ≤ n) (hn : n ≤ 500) (hs : ∀ i, i < n → rB (X i) (Y i) = true) (hf : Far n X Y) (hm : NoMeet n X Y) (D : Int) (hD : dbl n X Y n = D) (hD0 : 0 ≤ D) :
    Calls Try.prog 21 #[.slice (some ⟨br, or, none⟩) 1 cr] w fun e w' => e = .returned (.tuple #[.int .i64 D, .int .i64 0]) ∧ Below w.heap.size w w' := by
  have hsm : ∀ i, i < n → sm (X i) ∧ sm (Y i) := fun i hi => by
    have := hs i hi
    unfold rB at this
    simp only [decide_eq_true_eq] at this
    unfold sm
    omega
  have HD := Lib.hid hd
  have HSM := Lib.hid hsm
  have HDD := Lib.hid hD
  have hDb := dbl_b hsm n (Nat.le_refl _)
  rw [hD] at hDb
  have hDn : IntKind.i64.wrap (-D) = -D := w64 (by omega)
  have hD0w : IntKind.i64.wrap (0 + D) = D := by rw [Int.zero_add]; exact w64 (by omega)
  have hDw : IntKind.i64.wrap D = D := w64 (by omega)
  have hmx : ¬ D < -D := by omega
  have hmx2 : -D ≤ D := by omega
  clear hd hsm hD hDb
  go_enter Try.func21, Try.ntmps21
  go_wp2_with (fail)
  refine (depths_one br or b off n c cr X Y w hbr hr hb HD.out h3 hn hs hf hm).mono ?_
  rintro e w1 ⟨g, rfl, hg0, hg1, hg2, hb1⟩
  have B1 := Lib.hid hb1
  have hs1 := hb1.size
  have hr1 := cellk hb1 hbr hr
  clear hb1 hr
  have hbr1 : br < w1.heap.size := by omega
  go_wp2_with (fail)
  refine wp_loop_rounds 2 ?_
  rw [rounds_succ]
  go_wp2_with (fail)
  refine (doubled_any b off n c X Y w1 (by omega) (HD.out.kept B1.out hb) (by omega) HSM.out).mono ?_
  rintro e w2 ⟨rfl, hb2⟩
  rw [HDD.out]
  have R := Lib.hid (B1.out.trans (hb2.mono hs1))
  have hg3 := cellk hb2 hg2 hg0
  clear hb2 hg0
  go_wp2_with (go_at_call 33; refine (isOuter_zero _).mono ?_; rintro e w' ⟨rfl, rfl⟩)
  rw [rounds_succ]
  go_wp2
  exact bodyPost_ret (v := .tuple #[.int .i64 D, .int .i64 0]) (by simp [results, Try.results21, go_sem]) rfl ⟨rfl, R.out⟩

/-- The corners of a square. -/
def qX (i : Nat) : Int := if i = 1 ∨ i = 2 then 4 else 0
def qY (i : Nat) : Int := if i = 2 ∨ i = 3 then 4 else 0
theorem q_far : Far 4 qX qY := fun i j h1 h2 => by
  have hj : j = 1 ∨ j = 2 ∨ j = 3 := by omega
  have hi : i = 0 ∨ i = 1 ∨ i = 2 := by omega
  rcases hj with rfl | rfl | rfl <;> rcases hi with rfl | rfl | rfl <;> first | omega | decide
theorem q_in : ∀ i, i < 4 → rB (qX i) (qY i) = true := by decide
theorem q_turns : ∀ i, i < 4 → tbB (qX i) (qY i) (qX (nx 4 i)) (qY (nx 4 i)) (qX (nx 4 i)) (qY (nx 4 i)) (qX (nx 4 (nx 4 i))) (qY (nx 4 (nx 4 i))) = false := by decide
theorem q_no : NoMeet 4 qX qY := ⟨q_turns, fun i k h1 h2 h3 => by
  have hk : k = 2 ∨ k = 3 := by omega
  have hi : i = 0 ∨ i = 1 := by omega
  rcases hk with rfl | rfl <;> rcases hi with rfl | rfl <;> first | omega | decide⟩
theorem q_area : dbl 4 qX qY 4 = 32 := by decide
theorem q_du {w : World} {b : Nat} (h : w.heap[b]? = some (.cells #[.int .i64 0, .int .i64 0, .int .i64 4, .int .i64 0, .int .i64 4, .int .i64 4, .int .i64 0, .int .i64 4] 49 (0, 0))) : Du w b 0 4 qX qY := fun i hi => by
  have : i = 0 ∨ i = 1 ∨ i = 2 ∨ i = 3 := by omega
  rcases this with rfl | rfl | rfl | rfl <;> exact ⟨cell_of h (by rfl), cell_of h (by rfl)⟩
end Go.Proofs.Ythaecpcpeelcnaa

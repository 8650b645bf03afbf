/- Steps are checked by the program: kinds, places, numbers, what is not used. -/
import Derived.Test.YtgmpmaiddombeaaGa
import Derived.BigRegion
set_option linter.unusedSimpArgs false
set_option linter.unusedVariables false
namespace Go.Proofs.Ytgmpmaiddombeaa
open Go.RowKit
theorem within_any (n lo hi : Int) (w : World) : Calls Try.prog 43 #[.int .i64 n, .int .i64 lo, .int .i64 hi] w fun e w' => e = .returned (.bool (inZ n lo hi)) ∧ w = w' := by
  by_cases h1 : lo ≤ n
  · by_cases h2 : n ≤ hi
    · go_enter Try.func43, Try.ntmps43
      go_wp2
      go_ret
      exact ⟨by simp [inZ, h1, h2], rfl⟩
    · go_enter Try.func43, Try.ntmps43
      go_wp2
      go_ret
      exact ⟨by simp [inZ, h1, h2], rfl⟩
  · have h2 : decide (lo ≤ n) = false := by simp; omega
    go_enter Try.func43, Try.ntmps43
    go_wp2
    go_ret
    exact ⟨by simp [inZ, h2], rfl⟩
theorem inref_any (n lo hi : Int) (w : World) : Calls Try.prog 37 #[.int .i64 n, .int .i64 lo, .int .i64 hi] w fun e w' => e = .returned (.bool (inZ n lo hi)) ∧ w = w' := by
  by_cases h1 : lo ≤ n
  · by_cases h2 : n ≤ hi
    · go_enter Try.func37, Try.ntmps37
      go_wp2
      go_ret
      exact ⟨by simp [inZ, h1, h2], rfl⟩
    · go_enter Try.func37, Try.ntmps37
      go_wp2
      go_ret
      exact ⟨by simp [inZ, h1, h2], rfl⟩
  · have h2 : decide (lo ≤ n) = false := by simp; omega
    go_enter Try.func37, Try.ntmps37
    go_wp2
    go_ret
    exact ⟨by simp [inZ, h2], rfl⟩
theorem isKind_any (k : Int) (w : World) : Calls Try.prog 41 #[.int .i64 k] w fun e w' => e = .returned (.bool (inZ k 1 9)) ∧ w = w' := by
  go_enter Try.func41, Try.ntmps41
  go_wp2_with (go_at_call 43; refine (within_any _ _ _ _).mono ?_; rintro e w' ⟨rfl, rfl⟩)
  go_ret
  exact ⟨rfl, rfl⟩
set_option maxRecDepth 100000 in
set_option maxHeartbeats 4000000 in
theorem isPlace_any (s : St) (w : World) : Calls Try.prog 42 #[(.agg #[.int .i64 s.k, .int .i64 s.x, .int .i64 s.y, .int .i64 s.z, .int .i64 s.f, .int .i64 s.n])] w fun e w' => e = .returned (.bool (plB s)) ∧ Below w.heap.size w w' := by
  have hb : Below w.heap.size w (w.alloc (.cells #[.int .i64 s.k, .int .i64 s.x, .int .i64 s.y, .int .i64 s.z, .int .i64 s.f, .int .i64 s.n] 36)) := (by repeat (first | exact Below.refl _ _ | assumption | refine Below.drew ?_ | refine bdrewN ?_ _ | refine Below.setCell ?_ (by first | omega | (simp <;> omega)) _ | refine Below.alloc ?_ (by first | omega | (simp <;> omega)) _))
  have HB := Lib.hid hb
  clear hb
  rcases hx : inZ s.x (-200000) 200000 with _ | _
  · have HX := Lib.hid hx
    clear hx
    go_enter Try.func42, Try.ntmps42
    go_wp2_with (go_at_call 43; refine (within_any _ _ _ _).mono ?_; rintro e w' ⟨rfl, rfl⟩; rw [HX.out])
    go_ret
    exact ⟨by simp [plB, HX.out], HB.out⟩
  · have HX := Lib.hid hx
    clear hx
    rcases hy : inZ s.y (-200000) 200000 with _ | _
    · have HY := Lib.hid hy
      clear hy
      go_enter Try.func42, Try.ntmps42
      go_wp2_with (first | (go_at_call 43; refine (within_any _ _ _ _).mono ?_; rintro e w' ⟨rfl, rfl⟩; rw [HX.out]) | (go_at_call 43; refine (within_any _ _ _ _).mono ?_; rintro e w' ⟨rfl, rfl⟩; rw [HY.out]))
      go_ret
      exact ⟨by simp [plB, HY.out], HB.out⟩
    · have HY := Lib.hid hy
      clear hy
      go_enter Try.func42, Try.ntmps42
      go_wp2_with (first | (go_at_call 43; refine (within_any _ _ _ _).mono ?_; rintro e w' ⟨rfl, rfl⟩; rw [HX.out]) | (go_at_call 43; refine (within_any _ _ _ _).mono ?_; rintro e w' ⟨rfl, rfl⟩; rw [HY.out]) | (go_at_call 43; refine (within_any _ _ _ _).mono ?_; rintro e w' ⟨rfl, rfl⟩))
      go_ret
      exact ⟨by simp [plB, HX.out, HY.out], HB.out⟩
set_option maxRecDepth 100000 in
set_option maxHeartbeats 4000000 in
theorem isNumber_any (s : St) (w : World) : Calls Try.prog 44 #[(.agg #[.int .i64 s.k, .int .i64 s.x, .int .i64 s.y, .int .i64 s.z, .int .i64 s.f, .int .i64 s.n])] w fun e w' => e = .returned (.bool (nuB s)) ∧ Below w.heap.size w w' := by
  rcases s with ⟨k, x, y, z, f, n⟩
  dsimp only
  have hb : Below w.heap.size w (w.alloc (.cells #[.int .i64 k, .int .i64 x, .int .i64 y, .int .i64 z, .int .i64 f, .int .i64 n] 36)) := (by repeat (first | exact Below.refl _ _ | assumption | refine Below.drew ?_ | refine bdrewN ?_ _ | refine Below.setCell ?_ (by first | omega | (simp <;> omega)) _ | refine Below.alloc ?_ (by first | omega | (simp <;> omega)) _))
  have HB := Lib.hid hb
  clear hb
  by_cases h6 : k = 6
  · subst h6
    go_enter Try.func44, Try.ntmps44
    go_wp2_with (go_at_call 43; refine (within_any _ _ _ _).mono ?_; rintro e w' ⟨rfl, rfl⟩)
    go_ret
    exact ⟨by simp [nuB], HB.out⟩
  by_cases h7 : k = 7
  · subst h7
    go_enter Try.func44, Try.ntmps44
    go_wp2_with (go_at_call 43; refine (within_any _ _ _ _).mono ?_; rintro e w' ⟨rfl, rfl⟩)
    go_ret
    exact ⟨by simp [nuB], HB.out⟩
  by_cases h8 : k = 8
  · subst h8
    go_enter Try.func44, Try.ntmps44
    go_wp2_with (go_at_call 43; refine (within_any _ _ _ _).mono ?_; rintro e w' ⟨rfl, rfl⟩)
    go_ret
    exact ⟨by simp [nuB], HB.out⟩
  by_cases h9 : k = 9
  · subst h9
    go_enter Try.func44, Try.ntmps44
    go_wp2_with (go_at_call 43; refine (within_any _ _ _ _).mono ?_; rintro e w' ⟨rfl, rfl⟩)
    go_ret
    exact ⟨by simp [nuB], HB.out⟩
  have HK := Lib.hid (show nuB ⟨k, x, y, z, f, n⟩ = true by unfold nuB; rw [if_neg h6, if_neg h7, if_neg h8, if_neg h9])
  go_enter Try.func44, Try.ntmps44
  go_wp2_with (go_at_call 43; refine (within_any _ _ _ _).mono ?_; rintro e w' ⟨rfl, rfl⟩)
  go_ret
  exact ⟨by rw [HK.out]; rfl, HB.out⟩
set_option maxRecDepth 100000 in
set_option maxHeartbeats 8000000 in
theorem unused1_any (x y z f n : Int) (w : World) : Calls Try.prog 45 #[(.agg #[.int .i64 1, .int .i64 x, .int .i64 y, .int .i64 z, .int .i64 f, .int .i64 n])] w fun e w' => e = .returned (.bool (!decide ((⟨1, x, y, z, f, n⟩ : St) = used ⟨1, x, y, z, f, n⟩))) ∧ Below w.heap.size w w' := by
  have HU := Lib.hid (show (!decide ((⟨1, x, y, z, f, n⟩ : St) = ⟨1, 0, 0, 0, 0, 0⟩)) = (!decide ((⟨1, x, y, z, f, n⟩ : St) = used ⟨1, x, y, z, f, n⟩)) by
    simp [used, s00])
  have hE := fun wx => neq_st ⟨1, x, y, z, f, n⟩ ⟨1, 0, 0, 0, 0, 0⟩ wx
  have hG := gd_st
  dsimp only at hE
  obtain ⟨r, hr⟩ : ∃ r, (!decide ((⟨1, x, y, z, f, n⟩ : St) = ⟨1, 0, 0, 0, 0, 0⟩)) = r := ⟨_, rfl⟩
  rw [hr] at HU hE
  clear hr
  go_enter Try.func45, Try.ntmps45
  go_wp2_with (go_at_call 47; go_enter Try.func47, Try.ntmps47; go_wp2_with (fail))
  refine wp_loop_rounds 1 ?_
  rw [rounds_succ]
  go_wp2_with (fail)
  go_ret
  exact ⟨by rw [← HU.out]; rfl, (by repeat (first | exact Below.refl _ _ | assumption | refine Below.drew ?_ | refine bdrewN ?_ _ | refine Below.setCell ?_ (by first | omega | (simp <;> omega)) _ | refine Below.alloc ?_ (by first | omega | (simp <;> omega)) _))⟩
set_option maxRecDepth 100000 in
set_option maxHeartbeats 8000000 in
theorem unused2_any (x y z f n : Int) (w : World) : Calls Try.prog 45 #[(.agg #[.int .i64 2, .int .i64 x, .int .i64 y, .int .i64 z, .int .i64 f, .int .i64 n])] w fun e w' => e = .returned (.bool (!decide ((⟨2, x, y, z, f, n⟩ : St) = used ⟨2, x, y, z, f, n⟩))) ∧ Below w.heap.size w w' := by
  have HU := Lib.hid (show (!decide ((⟨2, x, y, z, f, n⟩ : St) = ⟨2, 0, 0, 0, 0, 0⟩)) = (!decide ((⟨2, x, y, z, f, n⟩ : St) = used ⟨2, x, y, z, f, n⟩)) by
    simp [used, s00])
  have hE := fun wx => neq_st ⟨2, x, y, z, f, n⟩ ⟨2, 0, 0, 0, 0, 0⟩ wx
  have hG := gd_st
  dsimp only at hE
  obtain ⟨r, hr⟩ : ∃ r, (!decide ((⟨2, x, y, z, f, n⟩ : St) = ⟨2, 0, 0, 0, 0, 0⟩)) = r := ⟨_, rfl⟩
  rw [hr] at HU hE
  clear hr
  go_enter Try.func45, Try.ntmps45
  go_wp2_with (go_at_call 47; go_enter Try.func47, Try.ntmps47; go_wp2_with (fail))
  refine wp_loop_rounds 1 ?_
  rw [rounds_succ]
  go_wp2_with (fail)
  go_ret
  exact ⟨by rw [← HU.out]; rfl, (by repeat (first | exact Below.refl _ _ | assumption | refine Below.drew ?_ | refine bdrewN ?_ _ | refine Below.setCell ?_ (by first | omega | (simp <;> omega)) _ | refine Below.alloc ?_ (by first | omega | (simp <;> omega)) _))⟩
set_option maxRecDepth 100000 in
set_option maxHeartbeats 8000000 in
theorem unused3_any (x y z f n : Int) (w : World) : Calls Try.prog 45 #[(.agg #[.int .i64 3, .int .i64 x, .int .i64 y, .int .i64 z, .int .i64 f, .int .i64 n])] w fun e w' => e = .returned (.bool (!decide ((⟨3, x, y, z, f, n⟩ : St) = used ⟨3, x, y, z, f, n⟩))) ∧ Below w.heap.size w w' := by
  have HU := Lib.hid (show (!decide ((⟨3, 0, 0, z, f, n⟩ : St) = ⟨3, 0, 0, 0, 0, 0⟩)) = (!decide ((⟨3, x, y, z, f, n⟩ : St) = used ⟨3, x, y, z, f, n⟩)) by
    simp [used, s00])
  have hE := fun wx => neq_st ⟨3, 0, 0, z, f, n⟩ ⟨3, 0, 0, 0, 0, 0⟩ wx
  have hG := gd_st
  dsimp only at hE
  obtain ⟨r, hr⟩ : ∃ r, (!decide ((⟨3, 0, 0, z, f, n⟩ : St) = ⟨3, 0, 0, 0, 0, 0⟩)) = r := ⟨_, rfl⟩
  rw [hr] at HU hE
  clear hr
  go_enter Try.func45, Try.ntmps45
  go_wp2_with (go_at_call 47; go_enter Try.func47, Try.ntmps47; go_wp2_with (fail))
  go_region
  go_wp2_with (fail)
  refine wp_loop_rounds 3 ?_
  rw [rounds_succ]
  go_wp2_with (fail)
  rw [rounds_succ]
  go_wp2_with (fail)
  rw [rounds_succ]
  go_wp2_with (fail)
  go_ret
  exact ⟨by rw [← HU.out]; rfl, (by repeat (first | exact Below.refl _ _ | assumption | refine Below.drew ?_ | refine bdrewN ?_ _ | refine Below.setCell ?_ (by first | omega | (simp <;> omega)) _ | refine Below.alloc ?_ (by first | omega | (simp <;> omega)) _))⟩
set_option maxRecDepth 100000 in
set_option maxHeartbeats 8000000 in
theorem unused4_any (x y z f n : Int) (w : World) : Calls Try.prog 45 #[(.agg #[.int .i64 4, .int .i64 x, .int .i64 y, .int .i64 z, .int .i64 f, .int .i64 n])] w fun e w' => e = .returned (.bool (!decide ((⟨4, x, y, z, f, n⟩ : St) = used ⟨4, x, y, z, f, n⟩))) ∧ Below w.heap.size w w' := by
  have HU := Lib.hid (show (!decide ((⟨4, 0, 0, z, 0, n⟩ : St) = ⟨4, 0, 0, 0, 0, 0⟩)) = (!decide ((⟨4, x, y, z, f, n⟩ : St) = used ⟨4, x, y, z, f, n⟩)) by
    simp [used, s00])
  have hE := fun wx => neq_st ⟨4, 0, 0, z, 0, n⟩ ⟨4, 0, 0, 0, 0, 0⟩ wx
  have hG := gd_st
  dsimp only at hE
  obtain ⟨r, hr⟩ : ∃ r, (!decide ((⟨4, 0, 0, z, 0, n⟩ : St) = ⟨4, 0, 0, 0, 0, 0⟩)) = r := ⟨_, rfl⟩
  rw [hr] at HU hE
  clear hr
  go_enter Try.func45, Try.ntmps45
  go_wp2_with (go_at_call 47; go_enter Try.func47, Try.ntmps47; go_wp2_with (fail))
  go_region
  go_wp2_with (fail)
  refine wp_loop_rounds 4 ?_
  rw [rounds_succ]
  go_wp2_with (fail)
  rw [rounds_succ]
  go_wp2_with (fail)
  rw [rounds_succ]
  go_wp2_with (fail)
  rw [rounds_succ]
  go_wp2_with (fail)
  go_ret
  exact ⟨by rw [← HU.out]; rfl, (by repeat (first | exact Below.refl _ _ | assumption | refine Below.drew ?_ | refine bdrewN ?_ _ | refine Below.setCell ?_ (by first | omega | (simp <;> omega)) _ | refine Below.alloc ?_ (by first | omega | (simp <;> omega)) _))⟩
set_option maxRecDepth 100000 in
set_option maxHeartbeats 8000000 in
theorem unused5_any (x y z f n : Int) (w : World) : Calls Try.prog 45 #[(.agg #[.int .i64 5, .int .i64 x, .int .i64 y, .int .i64 z, .int .i64 f, .int .i64 n])] w fun e w' => e = .returned (.bool (!decide ((⟨5, x, y, z, f, n⟩ : St) = used ⟨5, x, y, z, f, n⟩))) ∧ Below w.heap.size w w' := by
  have HU := Lib.hid (show (!decide ((⟨5, x, y, 0, f, n⟩ : St) = ⟨5, 0, 0, 0, 0, 0⟩)) = (!decide ((⟨5, x, y, z, f, n⟩ : St) = used ⟨5, x, y, z, f, n⟩)) by
    simp [used, s00])
  have hE := fun wx => neq_st ⟨5, x, y, 0, f, n⟩ ⟨5, 0, 0, 0, 0, 0⟩ wx
  have hG := gd_st
  dsimp only at hE
  obtain ⟨r, hr⟩ : ∃ r, (!decide ((⟨5, x, y, 0, f, n⟩ : St) = ⟨5, 0, 0, 0, 0, 0⟩)) = r := ⟨_, rfl⟩
  rw [hr] at HU hE
  clear hr
  go_enter Try.func45, Try.ntmps45
  go_wp2_with (go_at_call 47; go_enter Try.func47, Try.ntmps47; go_wp2_with (fail))
  refine wp_loop_rounds 2 ?_
  rw [rounds_succ]
  go_wp2_with (fail)
  rw [rounds_succ]
  go_wp2_with (fail)
  go_ret
  exact ⟨by rw [← HU.out]; rfl, (by repeat (first | exact Below.refl _ _ | assumption | refine Below.drew ?_ | refine bdrewN ?_ _ | refine Below.setCell ?_ (by first | omega | (simp <;> omega)) _ | refine Below.alloc ?_ (by first | omega | (simp <;> omega)) _))⟩
set_option maxRecDepth 100000 in
set_option maxHeartbeats 8000000 in
theorem unused6_any (x y z f n : Int) (w : World) : Calls Try.prog 45 #[(.agg #[.int .i64 6, .int .i64 x, .int .i64 y, .int .i64 z, .int .i64 f, .int .i64 n])] w fun e w' => e = .returned (.bool (!decide ((⟨6, x, y, z, f, n⟩ : St) = used ⟨6, x, y, z, f, n⟩))) ∧ Below w.heap.size w w' := by
  have HU := Lib.hid (show (!decide ((⟨6, x, y, z, f, 0⟩ : St) = ⟨6, 0, 0, 0, 0, 0⟩)) = (!decide ((⟨6, x, y, z, f, n⟩ : St) = used ⟨6, x, y, z, f, n⟩)) by
    simp [used, s00])
  have hE := fun wx => neq_st ⟨6, x, y, z, f, 0⟩ ⟨6, 0, 0, 0, 0, 0⟩ wx
  have hG := gd_st
  dsimp only at hE
  obtain ⟨r, hr⟩ : ∃ r, (!decide ((⟨6, x, y, z, f, 0⟩ : St) = ⟨6, 0, 0, 0, 0, 0⟩)) = r := ⟨_, rfl⟩
  rw [hr] at HU hE
  clear hr
  go_enter Try.func45, Try.ntmps45
  go_wp2_with (go_at_call 47; go_enter Try.func47, Try.ntmps47; go_wp2_with (fail))
  refine wp_loop_rounds 2 ?_
  rw [rounds_succ]
  go_wp2_with (fail)
  rw [rounds_succ]
  go_wp2_with (fail)
  go_ret
  exact ⟨by rw [← HU.out]; rfl, (by repeat (first | exact Below.refl _ _ | assumption | refine Below.drew ?_ | refine bdrewN ?_ _ | refine Below.setCell ?_ (by first | omega | (simp <;> omega)) _ | refine Below.alloc ?_ (by first | omega | (simp <;> omega)) _))⟩
set_option maxRecDepth 100000 in
set_option maxHeartbeats 8000000 in
theorem unused7_any (x y z f n : Int) (w : World) : Calls Try.prog 45 #[(.agg #[.int .i64 7, .int .i64 x, .int .i64 y, .int .i64 z, .int .i64 f, .int .i64 n])] w fun e w' => e = .returned (.bool (!decide ((⟨7, x, y, z, f, n⟩ : St) = used ⟨7, x, y, z, f, n⟩))) ∧ Below w.heap.size w w' := by
  have HU := Lib.hid (show (!decide ((⟨7, x, y, z, f, 0⟩ : St) = ⟨7, 0, 0, 0, 0, 0⟩)) = (!decide ((⟨7, x, y, z, f, n⟩ : St) = used ⟨7, x, y, z, f, n⟩)) by
    simp [used, s00])
  have hE := fun wx => neq_st ⟨7, x, y, z, f, 0⟩ ⟨7, 0, 0, 0, 0, 0⟩ wx
  have hG := gd_st
  dsimp only at hE
  obtain ⟨r, hr⟩ : ∃ r, (!decide ((⟨7, x, y, z, f, 0⟩ : St) = ⟨7, 0, 0, 0, 0, 0⟩)) = r := ⟨_, rfl⟩
  rw [hr] at HU hE
  clear hr
  go_enter Try.func45, Try.ntmps45
  go_wp2_with (go_at_call 47; go_enter Try.func47, Try.ntmps47; go_wp2_with (fail))
  refine wp_loop_rounds 2 ?_
  rw [rounds_succ]
  go_wp2_with (fail)
  rw [rounds_succ]
  go_wp2_with (fail)
  go_ret
  exact ⟨by rw [← HU.out]; rfl, (by repeat (first | exact Below.refl _ _ | assumption | refine Below.drew ?_ | refine bdrewN ?_ _ | refine Below.setCell ?_ (by first | omega | (simp <;> omega)) _ | refine Below.alloc ?_ (by first | omega | (simp <;> omega)) _))⟩
set_option maxRecDepth 100000 in
set_option maxHeartbeats 8000000 in
theorem unused8_any (x y z f n : Int) (w : World) : Calls Try.prog 45 #[(.agg #[.int .i64 8, .int .i64 x, .int .i64 y, .int .i64 z, .int .i64 f, .int .i64 n])] w fun e w' => e = .returned (.bool (!decide ((⟨8, x, y, z, f, n⟩ : St) = used ⟨8, x, y, z, f, n⟩))) ∧ Below w.heap.size w w' := by
  have HU := Lib.hid (show (!decide ((⟨8, x, y, z, f, 0⟩ : St) = ⟨8, 0, 0, 0, 0, 0⟩)) = (!decide ((⟨8, x, y, z, f, n⟩ : St) = used ⟨8, x, y, z, f, n⟩)) by
    simp [used, s00])
  have hE := fun wx => neq_st ⟨8, x, y, z, f, 0⟩ ⟨8, 0, 0, 0, 0, 0⟩ wx
  have hG := gd_st
  dsimp only at hE
  obtain ⟨r, hr⟩ : ∃ r, (!decide ((⟨8, x, y, z, f, 0⟩ : St) = ⟨8, 0, 0, 0, 0, 0⟩)) = r := ⟨_, rfl⟩
  rw [hr] at HU hE
  clear hr
  go_enter Try.func45, Try.ntmps45
  go_wp2_with (go_at_call 47; go_enter Try.func47, Try.ntmps47; go_wp2_with (fail))
  refine wp_loop_rounds 2 ?_
  rw [rounds_succ]
  go_wp2_with (fail)
  rw [rounds_succ]
  go_wp2_with (fail)
  go_ret
  exact ⟨by rw [← HU.out]; rfl, (by repeat (first | exact Below.refl _ _ | assumption | refine Below.drew ?_ | refine bdrewN ?_ _ | refine Below.setCell ?_ (by first | omega | (simp <;> omega)) _ | refine Below.alloc ?_ (by first | omega | (simp <;> omega)) _))⟩
set_option maxRecDepth 100000 in
set_option maxHeartbeats 8000000 in
theorem unused9_any (x y z f n : Int) (w : World) : Calls Try.prog 45 #[(.agg #[.int .i64 9, .int .i64 x, .int .i64 y, .int .i64 z, .int .i64 f, .int .i64 n])] w fun e w' => e = .returned (.bool (!decide ((⟨9, x, y, z, f, n⟩ : St) = used ⟨9, x, y, z, f, n⟩))) ∧ Below w.heap.size w w' := by
  have HU := Lib.hid (show (!decide ((⟨9, x, y, z, f, 0⟩ : St) = ⟨9, 0, 0, 0, 0, 0⟩)) = (!decide ((⟨9, x, y, z, f, n⟩ : St) = used ⟨9, x, y, z, f, n⟩)) by
    simp [used, s00])
  have hE := fun wx => neq_st ⟨9, x, y, z, f, 0⟩ ⟨9, 0, 0, 0, 0, 0⟩ wx
  have hG := gd_st
  dsimp only at hE
  obtain ⟨r, hr⟩ : ∃ r, (!decide ((⟨9, x, y, z, f, 0⟩ : St) = ⟨9, 0, 0, 0, 0, 0⟩)) = r := ⟨_, rfl⟩
  rw [hr] at HU hE
  clear hr
  go_enter Try.func45, Try.ntmps45
  go_wp2_with (go_at_call 47; go_enter Try.func47, Try.ntmps47; go_wp2_with (fail))
  refine wp_loop_rounds 2 ?_
  rw [rounds_succ]
  go_wp2_with (fail)
  rw [rounds_succ]
  go_wp2_with (fail)
  go_ret
  exact ⟨by rw [← HU.out]; rfl, (by repeat (first | exact Below.refl _ _ | assumption | refine Below.drew ?_ | refine bdrewN ?_ _ | refine Below.setCell ?_ (by first | omega | (simp <;> omega)) _ | refine Below.alloc ?_ (by first | omega | (simp <;> omega)) _))⟩
theorem hasUnused_any (s : St) (w : World) (hk : inZ s.k 1 9 = true) : Calls Try.prog 45 #[(.agg #[.int .i64 s.k, .int .i64 s.x, .int .i64 s.y, .int .i64 s.z, .int .i64 s.f, .int .i64 s.n])] w fun e w' => e = .returned (.bool (!decide (s = used s))) ∧ Below w.heap.size w w' := by
  have h := inZ_yes hk
  rcases s with ⟨k, x, y, z, f, n⟩
  dsimp only at h ⊢
  have h' : k = 1 ∨ k = 2 ∨ k = 3 ∨ k = 4 ∨ k = 5 ∨ k = 6 ∨ k = 7 ∨ k = 8 ∨ k = 9 := by omega
  rcases h' with rfl | rfl | rfl | rfl | rfl | rfl | rfl | rfl | rfl
  · exact unused1_any x y z f n w
  · exact unused2_any x y z f n w
  · exact unused3_any x y z f n w
  · exact unused4_any x y z f n w
  · exact unused5_any x y z f n w
  · exact unused6_any x y z f n w
  · exact unused7_any x y z f n w
  · exact unused8_any x y z f n w
  · exact unused9_any x y z f n w
end Go.Proofs.Ytgmpmaiddombeaa

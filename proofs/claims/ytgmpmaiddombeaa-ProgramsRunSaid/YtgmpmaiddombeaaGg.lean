/- Steps are checked by the reference. -/
import Derived.Test.YtgmpmaiddombeaaGb
set_option linter.unusedSimpArgs false
set_option linter.unusedVariables false
namespace Go.Proofs.Ytgmpmaiddombeaa
open Go.RowKit
set_option maxRecDepth 100000 in
set_option maxHeartbeats 16000000 in
theorem stepFault1_any (x y z f n : Int) (w : World) : Calls Try.prog 23 #[(.agg #[.int .i64 1, .int .i64 x, .int .i64 y, .int .i64 z, .int .i64 f, .int .i64 n])] w fun e w' => e = .returned (.int .i64 (stepE ⟨1, x, y, z, f, n⟩)) ∧ Below w.heap.size w w' := by
  have hE := fun wx => neq_st ⟨1, x, y, z, f, n⟩ ⟨1, 0, 0, 0, 0, 0⟩ wx
  have hG := gd_st
  dsimp only at hE
  have HS := Lib.hid (show stepE ⟨1, x, y, z, f, n⟩ = if inZ x (-200000) 200000 = false then 1 else if inZ y (-200000) 200000 = false then 1 else if inZ z (-1000000) 1000000 = false then 1 else if inZ f 0 100000000 = false then 1 else if (!decide ((⟨1, x, y, z, f, n⟩ : St) = ⟨1, 0, 0, 0, 0, 0⟩)) = false then 0 else 3 by
    unfold stepE plB nuB used s00
    dsimp only
    rw [show inZ 1 1 9 = true from rfl]
    simp only [Bool.false_eq_true, if_false, if_true, decide_eq_true_eq, reduceCtorEq, Int.reduceEq, Int.reduceLE, and_self, and_true, true_and, Bool.and_eq_false_iff]
    (repeat' split) <;> simp_all)
  obtain ⟨r, hr⟩ : ∃ r, (!decide ((⟨1, x, y, z, f, n⟩ : St) = ⟨1, 0, 0, 0, 0, 0⟩)) = r := ⟨_, rfl⟩
  rw [hr] at HS hE
  clear hr
  go_enter Try.func23, Try.ntmps23
  go_wp2_with (go_at_call 37; refine (inref_any _ _ _ _).mono ?_; rintro e w' ⟨rfl, rfl⟩; rw [show inZ 1 6 9 = false from rfl])
  refine (inref_any _ _ _ _).mono ?_
  rintro e w' ⟨rfl, rfl⟩
  rcases hx : inZ x (-200000) 200000 with _ | _
  · have Hx := Lib.hid hx
    clear hx
    go_wp2_with (fail)
    go_ret
    exact ⟨ret_int (by rw [HS.out]; simp [Hx.out]), (by repeat (first | exact Below.refl _ _ | assumption | refine Below.drew ?_ | refine bdrewN ?_ _ | refine Below.setCell ?_ (by first | omega | (simp <;> omega)) _ | refine Below.alloc ?_ (by first | omega | (simp <;> omega)) _))⟩
  have Hx := Lib.hid hx
  clear hx
  go_wp2_with (fail)
  refine (inref_any _ _ _ _).mono ?_
  rintro e w' ⟨rfl, rfl⟩
  rcases hy : inZ y (-200000) 200000 with _ | _
  · have Hy := Lib.hid hy
    clear hy
    go_wp2_with (fail)
    go_ret
    exact ⟨ret_int (by rw [HS.out]; simp [Hx.out, Hy.out]), (by repeat (first | exact Below.refl _ _ | assumption | refine Below.drew ?_ | refine bdrewN ?_ _ | refine Below.setCell ?_ (by first | omega | (simp <;> omega)) _ | refine Below.alloc ?_ (by first | omega | (simp <;> omega)) _))⟩
  have Hy := Lib.hid hy
  clear hy
  go_wp2_with (fail)
  refine (inref_any _ _ _ _).mono ?_
  rintro e w' ⟨rfl, rfl⟩
  rcases hz : inZ z (-1000000) 1000000 with _ | _
  · have Hz := Lib.hid hz
    clear hz
    go_wp2_with (fail)
    go_ret
    exact ⟨ret_int (by rw [HS.out]; simp [Hx.out, Hy.out, Hz.out]), (by repeat (first | exact Below.refl _ _ | assumption | refine Below.drew ?_ | refine bdrewN ?_ _ | refine Below.setCell ?_ (by first | omega | (simp <;> omega)) _ | refine Below.alloc ?_ (by first | omega | (simp <;> omega)) _))⟩
  have Hz := Lib.hid hz
  clear hz
  go_wp2_with (fail)
  refine (inref_any _ _ _ _).mono ?_
  rintro e w' ⟨rfl, rfl⟩
  rcases hf : inZ f 0 100000000 with _ | _
  · have Hf := Lib.hid hf
    clear hf
    go_wp2_with (fail)
    go_ret
    exact ⟨ret_int (by rw [HS.out]; simp [Hx.out, Hy.out, Hz.out, Hf.out]), (by repeat (first | exact Below.refl _ _ | assumption | refine Below.drew ?_ | refine bdrewN ?_ _ | refine Below.setCell ?_ (by first | omega | (simp <;> omega)) _ | refine Below.alloc ?_ (by first | omega | (simp <;> omega)) _))⟩
  have Hf := Lib.hid hf
  clear hf
  rcases r with _ | _
  · go_wp2_with (fail)
    go_ret
    exact ⟨ret_int (by rw [HS.out]; simp [Hx.out, Hy.out, Hz.out, Hf.out]), (by repeat (first | exact Below.refl _ _ | assumption | refine Below.drew ?_ | refine bdrewN ?_ _ | refine Below.setCell ?_ (by first | omega | (simp <;> omega)) _ | refine Below.alloc ?_ (by first | omega | (simp <;> omega)) _))⟩
  · go_wp2_with (fail)
    go_ret
    exact ⟨ret_int (by rw [HS.out]; simp [Hx.out, Hy.out, Hz.out, Hf.out]), (by repeat (first | exact Below.refl _ _ | assumption | refine Below.drew ?_ | refine bdrewN ?_ _ | refine Below.setCell ?_ (by first | omega | (simp <;> omega)) _ | refine Below.alloc ?_ (by first | omega | (simp <;> omega)) _))⟩
set_option maxRecDepth 100000 in
set_option maxHeartbeats 16000000 in
theorem stepFault2_any (x y z f n : Int) (w : World) : Calls Try.prog 23 #[(.agg #[.int .i64 2, .int .i64 x, .int .i64 y, .int .i64 z, .int .i64 f, .int .i64 n])] w fun e w' => e = .returned (.int .i64 (stepE ⟨2, x, y, z, f, n⟩)) ∧ Below w.heap.size w w' := by
  have hE := fun wx => neq_st ⟨2, x, y, z, f, n⟩ ⟨2, 0, 0, 0, 0, 0⟩ wx
  have hG := gd_st
  dsimp only at hE
  have HS := Lib.hid (show stepE ⟨2, x, y, z, f, n⟩ = if inZ x (-200000) 200000 = false then 1 else if inZ y (-200000) 200000 = false then 1 else if inZ z (-1000000) 1000000 = false then 1 else if inZ f 0 100000000 = false then 1 else if (!decide ((⟨2, x, y, z, f, n⟩ : St) = ⟨2, 0, 0, 0, 0, 0⟩)) = false then 0 else 3 by
    unfold stepE plB nuB used s00
    dsimp only
    rw [show inZ 2 1 9 = true from rfl]
    simp only [Bool.false_eq_true, if_false, if_true, decide_eq_true_eq, reduceCtorEq, Int.reduceEq, Int.reduceLE, and_self, and_true, true_and, Bool.and_eq_false_iff]
    (repeat' split) <;> simp_all)
  obtain ⟨r, hr⟩ : ∃ r, (!decide ((⟨2, x, y, z, f, n⟩ : St) = ⟨2, 0, 0, 0, 0, 0⟩)) = r := ⟨_, rfl⟩
  rw [hr] at HS hE
  clear hr
  go_enter Try.func23, Try.ntmps23
  go_wp2_with (go_at_call 37; refine (inref_any _ _ _ _).mono ?_; rintro e w' ⟨rfl, rfl⟩; rw [show inZ 2 6 9 = false from rfl])
  refine (inref_any _ _ _ _).mono ?_
  rintro e w' ⟨rfl, rfl⟩
  rcases hx : inZ x (-200000) 200000 with _ | _
  · have Hx := Lib.hid hx
    clear hx
    go_wp2_with (fail)
    go_ret
    exact ⟨ret_int (by rw [HS.out]; simp [Hx.out]), (by repeat (first | exact Below.refl _ _ | assumption | refine Below.drew ?_ | refine bdrewN ?_ _ | refine Below.setCell ?_ (by first | omega | (simp <;> omega)) _ | refine Below.alloc ?_ (by first | omega | (simp <;> omega)) _))⟩
  have Hx := Lib.hid hx
  clear hx
  go_wp2_with (fail)
  refine (inref_any _ _ _ _).mono ?_
  rintro e w' ⟨rfl, rfl⟩
  rcases hy : inZ y (-200000) 200000 with _ | _
  · have Hy := Lib.hid hy
    clear hy
    go_wp2_with (fail)
    go_ret
    exact ⟨ret_int (by rw [HS.out]; simp [Hx.out, Hy.out]), (by repeat (first | exact Below.refl _ _ | assumption | refine Below.drew ?_ | refine bdrewN ?_ _ | refine Below.setCell ?_ (by first | omega | (simp <;> omega)) _ | refine Below.alloc ?_ (by first | omega | (simp <;> omega)) _))⟩
  have Hy := Lib.hid hy
  clear hy
  go_wp2_with (fail)
  refine (inref_any _ _ _ _).mono ?_
  rintro e w' ⟨rfl, rfl⟩
  rcases hz : inZ z (-1000000) 1000000 with _ | _
  · have Hz := Lib.hid hz
    clear hz
    go_wp2_with (fail)
    go_ret
    exact ⟨ret_int (by rw [HS.out]; simp [Hx.out, Hy.out, Hz.out]), (by repeat (first | exact Below.refl _ _ | assumption | refine Below.drew ?_ | refine bdrewN ?_ _ | refine Below.setCell ?_ (by first | omega | (simp <;> omega)) _ | refine Below.alloc ?_ (by first | omega | (simp <;> omega)) _))⟩
  have Hz := Lib.hid hz
  clear hz
  go_wp2_with (fail)
  refine (inref_any _ _ _ _).mono ?_
  rintro e w' ⟨rfl, rfl⟩
  rcases hf : inZ f 0 100000000 with _ | _
  · have Hf := Lib.hid hf
    clear hf
    go_wp2_with (fail)
    go_ret
    exact ⟨ret_int (by rw [HS.out]; simp [Hx.out, Hy.out, Hz.out, Hf.out]), (by repeat (first | exact Below.refl _ _ | assumption | refine Below.drew ?_ | refine bdrewN ?_ _ | refine Below.setCell ?_ (by first | omega | (simp <;> omega)) _ | refine Below.alloc ?_ (by first | omega | (simp <;> omega)) _))⟩
  have Hf := Lib.hid hf
  clear hf
  rcases r with _ | _
  · go_wp2_with (fail)
    go_ret
    exact ⟨ret_int (by rw [HS.out]; simp [Hx.out, Hy.out, Hz.out, Hf.out]), (by repeat (first | exact Below.refl _ _ | assumption | refine Below.drew ?_ | refine bdrewN ?_ _ | refine Below.setCell ?_ (by first | omega | (simp <;> omega)) _ | refine Below.alloc ?_ (by first | omega | (simp <;> omega)) _))⟩
  · go_wp2_with (fail)
    go_ret
    exact ⟨ret_int (by rw [HS.out]; simp [Hx.out, Hy.out, Hz.out, Hf.out]), (by repeat (first | exact Below.refl _ _ | assumption | refine Below.drew ?_ | refine bdrewN ?_ _ | refine Below.setCell ?_ (by first | omega | (simp <;> omega)) _ | refine Below.alloc ?_ (by first | omega | (simp <;> omega)) _))⟩
set_option maxRecDepth 100000 in
set_option maxHeartbeats 16000000 in
theorem stepFault3_any (x y z f n : Int) (w : World) : Calls Try.prog 23 #[(.agg #[.int .i64 3, .int .i64 x, .int .i64 y, .int .i64 z, .int .i64 f, .int .i64 n])] w fun e w' => e = .returned (.int .i64 (stepE ⟨3, x, y, z, f, n⟩)) ∧ Below w.heap.size w w' := by
  have hE := fun wx => neq_st ⟨3, x, y, z, f, n⟩ ⟨3, x, y, 0, 0, 0⟩ wx
  have hG := gd_st
  dsimp only at hE
  have HS := Lib.hid (show stepE ⟨3, x, y, z, f, n⟩ = if inZ x (-200000) 200000 = false then 1 else if inZ y (-200000) 200000 = false then 1 else if inZ z (-1000000) 1000000 = false then 1 else if inZ f 0 100000000 = false then 1 else if (!decide ((⟨3, x, y, z, f, n⟩ : St) = ⟨3, x, y, 0, 0, 0⟩)) = false then 0 else 3 by
    unfold stepE plB nuB used s00
    dsimp only
    rw [show inZ 3 1 9 = true from rfl]
    simp only [Bool.false_eq_true, if_false, if_true, decide_eq_true_eq, reduceCtorEq, Int.reduceEq, Int.reduceLE, and_self, and_true, true_and, Bool.and_eq_false_iff]
    (repeat' split) <;> simp_all)
  obtain ⟨r, hr⟩ : ∃ r, (!decide ((⟨3, x, y, z, f, n⟩ : St) = ⟨3, x, y, 0, 0, 0⟩)) = r := ⟨_, rfl⟩
  rw [hr] at HS hE
  clear hr
  go_enter Try.func23, Try.ntmps23
  go_wp2_with (go_at_call 37; refine (inref_any _ _ _ _).mono ?_; rintro e w' ⟨rfl, rfl⟩; rw [show inZ 3 6 9 = false from rfl])
  go_region
  go_wp2_with (go_at_call 37; refine (inref_any _ _ _ _).mono ?_; rintro e w' ⟨rfl, rfl⟩; rw [show inZ 3 6 9 = false from rfl])
  refine (inref_any _ _ _ _).mono ?_
  rintro e w' ⟨rfl, rfl⟩
  rcases hx : inZ x (-200000) 200000 with _ | _
  · have Hx := Lib.hid hx
    clear hx
    go_wp2_with (fail)
    go_ret
    exact ⟨ret_int (by rw [HS.out]; simp [Hx.out]), (by repeat (first | exact Below.refl _ _ | assumption | refine Below.drew ?_ | refine bdrewN ?_ _ | refine Below.setCell ?_ (by first | omega | (simp <;> omega)) _ | refine Below.alloc ?_ (by first | omega | (simp <;> omega)) _))⟩
  have Hx := Lib.hid hx
  clear hx
  go_wp2_with (fail)
  refine (inref_any _ _ _ _).mono ?_
  rintro e w' ⟨rfl, rfl⟩
  rcases hy : inZ y (-200000) 200000 with _ | _
  · have Hy := Lib.hid hy
    clear hy
    go_wp2_with (fail)
    go_ret
    exact ⟨ret_int (by rw [HS.out]; simp [Hx.out, Hy.out]), (by repeat (first | exact Below.refl _ _ | assumption | refine Below.drew ?_ | refine bdrewN ?_ _ | refine Below.setCell ?_ (by first | omega | (simp <;> omega)) _ | refine Below.alloc ?_ (by first | omega | (simp <;> omega)) _))⟩
  have Hy := Lib.hid hy
  clear hy
  go_wp2_with (fail)
  refine (inref_any _ _ _ _).mono ?_
  rintro e w' ⟨rfl, rfl⟩
  rcases hz : inZ z (-1000000) 1000000 with _ | _
  · have Hz := Lib.hid hz
    clear hz
    go_wp2_with (fail)
    go_ret
    exact ⟨ret_int (by rw [HS.out]; simp [Hx.out, Hy.out, Hz.out]), (by repeat (first | exact Below.refl _ _ | assumption | refine Below.drew ?_ | refine bdrewN ?_ _ | refine Below.setCell ?_ (by first | omega | (simp <;> omega)) _ | refine Below.alloc ?_ (by first | omega | (simp <;> omega)) _))⟩
  have Hz := Lib.hid hz
  clear hz
  go_wp2_with (fail)
  refine (inref_any _ _ _ _).mono ?_
  rintro e w' ⟨rfl, rfl⟩
  rcases hf : inZ f 0 100000000 with _ | _
  · have Hf := Lib.hid hf
    clear hf
    go_wp2_with (fail)
    go_ret
    exact ⟨ret_int (by rw [HS.out]; simp [Hx.out, Hy.out, Hz.out, Hf.out]), (by repeat (first | exact Below.refl _ _ | assumption | refine Below.drew ?_ | refine bdrewN ?_ _ | refine Below.setCell ?_ (by first | omega | (simp <;> omega)) _ | refine Below.alloc ?_ (by first | omega | (simp <;> omega)) _))⟩
  have Hf := Lib.hid hf
  clear hf
  rcases r with _ | _
  · go_wp2_with (fail)
    go_ret
    exact ⟨ret_int (by rw [HS.out]; simp [Hx.out, Hy.out, Hz.out, Hf.out]), (by repeat (first | exact Below.refl _ _ | assumption | refine Below.drew ?_ | refine bdrewN ?_ _ | refine Below.setCell ?_ (by first | omega | (simp <;> omega)) _ | refine Below.alloc ?_ (by first | omega | (simp <;> omega)) _))⟩
  · go_wp2_with (fail)
    go_ret
    exact ⟨ret_int (by rw [HS.out]; simp [Hx.out, Hy.out, Hz.out, Hf.out]), (by repeat (first | exact Below.refl _ _ | assumption | refine Below.drew ?_ | refine bdrewN ?_ _ | refine Below.setCell ?_ (by first | omega | (simp <;> omega)) _ | refine Below.alloc ?_ (by first | omega | (simp <;> omega)) _))⟩
set_option maxRecDepth 100000 in
set_option maxHeartbeats 16000000 in
theorem stepFault4_any (x y z f n : Int) (w : World) : Calls Try.prog 23 #[(.agg #[.int .i64 4, .int .i64 x, .int .i64 y, .int .i64 z, .int .i64 f, .int .i64 n])] w fun e w' => e = .returned (.int .i64 (stepE ⟨4, x, y, z, f, n⟩)) ∧ Below w.heap.size w w' := by
  have hE := fun wx => neq_st ⟨4, x, y, z, f, n⟩ ⟨4, x, y, 0, f, 0⟩ wx
  have hG := gd_st
  dsimp only at hE
  have HS := Lib.hid (show stepE ⟨4, x, y, z, f, n⟩ = if inZ x (-200000) 200000 = false then 1 else if inZ y (-200000) 200000 = false then 1 else if inZ z (-1000000) 1000000 = false then 1 else if inZ f 0 100000000 = false then 1 else if (!decide ((⟨4, x, y, z, f, n⟩ : St) = ⟨4, x, y, 0, f, 0⟩)) = false then 0 else 3 by
    unfold stepE plB nuB used s00
    dsimp only
    rw [show inZ 4 1 9 = true from rfl]
    simp only [Bool.false_eq_true, if_false, if_true, decide_eq_true_eq, reduceCtorEq, Int.reduceEq, Int.reduceLE, and_self, and_true, true_and, Bool.and_eq_false_iff]
    (repeat' split) <;> simp_all)
  obtain ⟨r, hr⟩ : ∃ r, (!decide ((⟨4, x, y, z, f, n⟩ : St) = ⟨4, x, y, 0, f, 0⟩)) = r := ⟨_, rfl⟩
  rw [hr] at HS hE
  clear hr
  go_enter Try.func23, Try.ntmps23
  go_wp2_with (go_at_call 37; refine (inref_any _ _ _ _).mono ?_; rintro e w' ⟨rfl, rfl⟩; rw [show inZ 4 6 9 = false from rfl])
  go_region
  go_wp2_with (go_at_call 37; refine (inref_any _ _ _ _).mono ?_; rintro e w' ⟨rfl, rfl⟩; rw [show inZ 4 6 9 = false from rfl])
  refine (inref_any _ _ _ _).mono ?_
  rintro e w' ⟨rfl, rfl⟩
  rcases hx : inZ x (-200000) 200000 with _ | _
  · have Hx := Lib.hid hx
    clear hx
    go_wp2_with (fail)
    go_ret
    exact ⟨ret_int (by rw [HS.out]; simp [Hx.out]), (by repeat (first | exact Below.refl _ _ | assumption | refine Below.drew ?_ | refine bdrewN ?_ _ | refine Below.setCell ?_ (by first | omega | (simp <;> omega)) _ | refine Below.alloc ?_ (by first | omega | (simp <;> omega)) _))⟩
  have Hx := Lib.hid hx
  clear hx
  go_wp2_with (fail)
  refine (inref_any _ _ _ _).mono ?_
  rintro e w' ⟨rfl, rfl⟩
  rcases hy : inZ y (-200000) 200000 with _ | _
  · have Hy := Lib.hid hy
    clear hy
    go_wp2_with (fail)
    go_ret
    exact ⟨ret_int (by rw [HS.out]; simp [Hx.out, Hy.out]), (by repeat (first | exact Below.refl _ _ | assumption | refine Below.drew ?_ | refine bdrewN ?_ _ | refine Below.setCell ?_ (by first | omega | (simp <;> omega)) _ | refine Below.alloc ?_ (by first | omega | (simp <;> omega)) _))⟩
  have Hy := Lib.hid hy
  clear hy
  go_wp2_with (fail)
  refine (inref_any _ _ _ _).mono ?_
  rintro e w' ⟨rfl, rfl⟩
  rcases hz : inZ z (-1000000) 1000000 with _ | _
  · have Hz := Lib.hid hz
    clear hz
    go_wp2_with (fail)
    go_ret
    exact ⟨ret_int (by rw [HS.out]; simp [Hx.out, Hy.out, Hz.out]), (by repeat (first | exact Below.refl _ _ | assumption | refine Below.drew ?_ | refine bdrewN ?_ _ | refine Below.setCell ?_ (by first | omega | (simp <;> omega)) _ | refine Below.alloc ?_ (by first | omega | (simp <;> omega)) _))⟩
  have Hz := Lib.hid hz
  clear hz
  go_wp2_with (fail)
  refine (inref_any _ _ _ _).mono ?_
  rintro e w' ⟨rfl, rfl⟩
  rcases hf : inZ f 0 100000000 with _ | _
  · have Hf := Lib.hid hf
    clear hf
    go_wp2_with (fail)
    go_ret
    exact ⟨ret_int (by rw [HS.out]; simp [Hx.out, Hy.out, Hz.out, Hf.out]), (by repeat (first | exact Below.refl _ _ | assumption | refine Below.drew ?_ | refine bdrewN ?_ _ | refine Below.setCell ?_ (by first | omega | (simp <;> omega)) _ | refine Below.alloc ?_ (by first | omega | (simp <;> omega)) _))⟩
  have Hf := Lib.hid hf
  clear hf
  rcases r with _ | _
  · go_wp2_with (fail)
    go_ret
    exact ⟨ret_int (by rw [HS.out]; simp [Hx.out, Hy.out, Hz.out, Hf.out]), (by repeat (first | exact Below.refl _ _ | assumption | refine Below.drew ?_ | refine bdrewN ?_ _ | refine Below.setCell ?_ (by first | omega | (simp <;> omega)) _ | refine Below.alloc ?_ (by first | omega | (simp <;> omega)) _))⟩
  · go_wp2_with (fail)
    go_ret
    exact ⟨ret_int (by rw [HS.out]; simp [Hx.out, Hy.out, Hz.out, Hf.out]), (by repeat (first | exact Below.refl _ _ | assumption | refine Below.drew ?_ | refine bdrewN ?_ _ | refine Below.setCell ?_ (by first | omega | (simp <;> omega)) _ | refine Below.alloc ?_ (by first | omega | (simp <;> omega)) _))⟩
set_option maxRecDepth 100000 in
set_option maxHeartbeats 16000000 in
theorem stepFault5_any (x y z f n : Int) (w : World) : Calls Try.prog 23 #[(.agg #[.int .i64 5, .int .i64 x, .int .i64 y, .int .i64 z, .int .i64 f, .int .i64 n])] w fun e w' => e = .returned (.int .i64 (stepE ⟨5, x, y, z, f, n⟩)) ∧ Below w.heap.size w w' := by
  have hE := fun wx => neq_st ⟨5, x, y, z, f, n⟩ ⟨5, 0, 0, z, 0, 0⟩ wx
  have hG := gd_st
  dsimp only at hE
  have HS := Lib.hid (show stepE ⟨5, x, y, z, f, n⟩ = if inZ x (-200000) 200000 = false then 1 else if inZ y (-200000) 200000 = false then 1 else if inZ z (-1000000) 1000000 = false then 1 else if inZ f 0 100000000 = false then 1 else if (!decide ((⟨5, x, y, z, f, n⟩ : St) = ⟨5, 0, 0, z, 0, 0⟩)) = false then 0 else 3 by
    unfold stepE plB nuB used s00
    dsimp only
    rw [show inZ 5 1 9 = true from rfl]
    simp only [Bool.false_eq_true, if_false, if_true, decide_eq_true_eq, reduceCtorEq, Int.reduceEq, Int.reduceLE, and_self, and_true, true_and, Bool.and_eq_false_iff]
    (repeat' split) <;> simp_all)
  obtain ⟨r, hr⟩ : ∃ r, (!decide ((⟨5, x, y, z, f, n⟩ : St) = ⟨5, 0, 0, z, 0, 0⟩)) = r := ⟨_, rfl⟩
  rw [hr] at HS hE
  clear hr
  go_enter Try.func23, Try.ntmps23
  go_wp2_with (go_at_call 37; refine (inref_any _ _ _ _).mono ?_; rintro e w' ⟨rfl, rfl⟩; rw [show inZ 5 6 9 = false from rfl])
  refine (inref_any _ _ _ _).mono ?_
  rintro e w' ⟨rfl, rfl⟩
  rcases hx : inZ x (-200000) 200000 with _ | _
  · have Hx := Lib.hid hx
    clear hx
    go_wp2_with (fail)
    go_ret
    exact ⟨ret_int (by rw [HS.out]; simp [Hx.out]), (by repeat (first | exact Below.refl _ _ | assumption | refine Below.drew ?_ | refine bdrewN ?_ _ | refine Below.setCell ?_ (by first | omega | (simp <;> omega)) _ | refine Below.alloc ?_ (by first | omega | (simp <;> omega)) _))⟩
  have Hx := Lib.hid hx
  clear hx
  go_wp2_with (fail)
  refine (inref_any _ _ _ _).mono ?_
  rintro e w' ⟨rfl, rfl⟩
  rcases hy : inZ y (-200000) 200000 with _ | _
  · have Hy := Lib.hid hy
    clear hy
    go_wp2_with (fail)
    go_ret
    exact ⟨ret_int (by rw [HS.out]; simp [Hx.out, Hy.out]), (by repeat (first | exact Below.refl _ _ | assumption | refine Below.drew ?_ | refine bdrewN ?_ _ | refine Below.setCell ?_ (by first | omega | (simp <;> omega)) _ | refine Below.alloc ?_ (by first | omega | (simp <;> omega)) _))⟩
  have Hy := Lib.hid hy
  clear hy
  go_wp2_with (fail)
  refine (inref_any _ _ _ _).mono ?_
  rintro e w' ⟨rfl, rfl⟩
  rcases hz : inZ z (-1000000) 1000000 with _ | _
  · have Hz := Lib.hid hz
    clear hz
    go_wp2_with (fail)
    go_ret
    exact ⟨ret_int (by rw [HS.out]; simp [Hx.out, Hy.out, Hz.out]), (by repeat (first | exact Below.refl _ _ | assumption | refine Below.drew ?_ | refine bdrewN ?_ _ | refine Below.setCell ?_ (by first | omega | (simp <;> omega)) _ | refine Below.alloc ?_ (by first | omega | (simp <;> omega)) _))⟩
  have Hz := Lib.hid hz
  clear hz
  go_wp2_with (fail)
  refine (inref_any _ _ _ _).mono ?_
  rintro e w' ⟨rfl, rfl⟩
  rcases hf : inZ f 0 100000000 with _ | _
  · have Hf := Lib.hid hf
    clear hf
    go_wp2_with (fail)
    go_ret
    exact ⟨ret_int (by rw [HS.out]; simp [Hx.out, Hy.out, Hz.out, Hf.out]), (by repeat (first | exact Below.refl _ _ | assumption | refine Below.drew ?_ | refine bdrewN ?_ _ | refine Below.setCell ?_ (by first | omega | (simp <;> omega)) _ | refine Below.alloc ?_ (by first | omega | (simp <;> omega)) _))⟩
  have Hf := Lib.hid hf
  clear hf
  rcases r with _ | _
  · go_wp2_with (fail)
    go_ret
    exact ⟨ret_int (by rw [HS.out]; simp [Hx.out, Hy.out, Hz.out, Hf.out]), (by repeat (first | exact Below.refl _ _ | assumption | refine Below.drew ?_ | refine bdrewN ?_ _ | refine Below.setCell ?_ (by first | omega | (simp <;> omega)) _ | refine Below.alloc ?_ (by first | omega | (simp <;> omega)) _))⟩
  · go_wp2_with (fail)
    go_ret
    exact ⟨ret_int (by rw [HS.out]; simp [Hx.out, Hy.out, Hz.out, Hf.out]), (by repeat (first | exact Below.refl _ _ | assumption | refine Below.drew ?_ | refine bdrewN ?_ _ | refine Below.setCell ?_ (by first | omega | (simp <;> omega)) _ | refine Below.alloc ?_ (by first | omega | (simp <;> omega)) _))⟩
set_option maxRecDepth 100000 in
set_option maxHeartbeats 16000000 in
theorem stepFault6_any (x y z f n : Int) (w : World) : Calls Try.prog 23 #[(.agg #[.int .i64 6, .int .i64 x, .int .i64 y, .int .i64 z, .int .i64 f, .int .i64 n])] w fun e w' => e = .returned (.int .i64 (stepE ⟨6, x, y, z, f, n⟩)) ∧ Below w.heap.size w w' := by
  have hE := fun wx => neq_st ⟨6, x, y, z, f, n⟩ ⟨6, 0, 0, 0, 0, n⟩ wx
  have hG := gd_st
  dsimp only at hE
  have HS := Lib.hid (show stepE ⟨6, x, y, z, f, n⟩ = if inZ x (-200000) 200000 = false then 1 else if inZ y (-200000) 200000 = false then 1 else if inZ z (-1000000) 1000000 = false then 1 else if inZ f 0 100000000 = false then 1 else if inZ n 1 100000 = false then 1 else if (!decide ((⟨6, x, y, z, f, n⟩ : St) = ⟨6, 0, 0, 0, 0, n⟩)) = false then 0 else 3 by
    unfold stepE plB nuB used s00
    dsimp only
    rw [show inZ 6 1 9 = true from rfl]
    simp only [Bool.false_eq_true, if_false, if_true, decide_eq_true_eq, reduceCtorEq, Int.reduceEq, Int.reduceLE, and_self, and_true, true_and, Bool.and_eq_false_iff]
    (repeat' split) <;> simp_all)
  obtain ⟨r, hr⟩ : ∃ r, (!decide ((⟨6, x, y, z, f, n⟩ : St) = ⟨6, 0, 0, 0, 0, n⟩)) = r := ⟨_, rfl⟩
  rw [hr] at HS hE
  clear hr
  go_enter Try.func23, Try.ntmps23
  go_wp2_with (go_at_call 37; refine (inref_any _ _ _ _).mono ?_; rintro e w' ⟨rfl, rfl⟩; rw [show inZ 6 6 9 = true from rfl])
  refine (inref_any _ _ _ _).mono ?_
  rintro e w' ⟨rfl, rfl⟩
  rcases hx : inZ x (-200000) 200000 with _ | _
  · have Hx := Lib.hid hx
    clear hx
    go_wp2_with (fail)
    go_ret
    exact ⟨ret_int (by rw [HS.out]; simp [Hx.out]), (by repeat (first | exact Below.refl _ _ | assumption | refine Below.drew ?_ | refine bdrewN ?_ _ | refine Below.setCell ?_ (by first | omega | (simp <;> omega)) _ | refine Below.alloc ?_ (by first | omega | (simp <;> omega)) _))⟩
  have Hx := Lib.hid hx
  clear hx
  go_wp2_with (fail)
  refine (inref_any _ _ _ _).mono ?_
  rintro e w' ⟨rfl, rfl⟩
  rcases hy : inZ y (-200000) 200000 with _ | _
  · have Hy := Lib.hid hy
    clear hy
    go_wp2_with (fail)
    go_ret
    exact ⟨ret_int (by rw [HS.out]; simp [Hx.out, Hy.out]), (by repeat (first | exact Below.refl _ _ | assumption | refine Below.drew ?_ | refine bdrewN ?_ _ | refine Below.setCell ?_ (by first | omega | (simp <;> omega)) _ | refine Below.alloc ?_ (by first | omega | (simp <;> omega)) _))⟩
  have Hy := Lib.hid hy
  clear hy
  go_wp2_with (fail)
  refine (inref_any _ _ _ _).mono ?_
  rintro e w' ⟨rfl, rfl⟩
  rcases hz : inZ z (-1000000) 1000000 with _ | _
  · have Hz := Lib.hid hz
    clear hz
    go_wp2_with (fail)
    go_ret
    exact ⟨ret_int (by rw [HS.out]; simp [Hx.out, Hy.out, Hz.out]), (by repeat (first | exact Below.refl _ _ | assumption | refine Below.drew ?_ | refine bdrewN ?_ _ | refine Below.setCell ?_ (by first | omega | (simp <;> omega)) _ | refine Below.alloc ?_ (by first | omega | (simp <;> omega)) _))⟩
  have Hz := Lib.hid hz
  clear hz
  go_wp2_with (fail)
  refine (inref_any _ _ _ _).mono ?_
  rintro e w' ⟨rfl, rfl⟩
  rcases hf : inZ f 0 100000000 with _ | _
  · have Hf := Lib.hid hf
    clear hf
    go_wp2_with (fail)
    go_ret
    exact ⟨ret_int (by rw [HS.out]; simp [Hx.out, Hy.out, Hz.out, Hf.out]), (by repeat (first | exact Below.refl _ _ | assumption | refine Below.drew ?_ | refine bdrewN ?_ _ | refine Below.setCell ?_ (by first | omega | (simp <;> omega)) _ | refine Below.alloc ?_ (by first | omega | (simp <;> omega)) _))⟩
  have Hf := Lib.hid hf
  clear hf
  go_wp2_with (fail)
  refine (inref_any _ _ _ _).mono ?_
  rintro e w' ⟨rfl, rfl⟩
  rcases hn : inZ n 1 100000 with _ | _
  · have Hn := Lib.hid hn
    clear hn
    go_wp2_with (fail)
    go_ret
    exact ⟨ret_int (by rw [HS.out]; simp [Hx.out, Hy.out, Hz.out, Hf.out, Hn.out]), (by repeat (first | exact Below.refl _ _ | assumption | refine Below.drew ?_ | refine bdrewN ?_ _ | refine Below.setCell ?_ (by first | omega | (simp <;> omega)) _ | refine Below.alloc ?_ (by first | omega | (simp <;> omega)) _))⟩
  have Hn := Lib.hid hn
  clear hn
  rcases r with _ | _
  · go_wp2_with (fail)
    go_ret
    exact ⟨ret_int (by rw [HS.out]; simp [Hx.out, Hy.out, Hz.out, Hf.out, Hn.out]), (by repeat (first | exact Below.refl _ _ | assumption | refine Below.drew ?_ | refine bdrewN ?_ _ | refine Below.setCell ?_ (by first | omega | (simp <;> omega)) _ | refine Below.alloc ?_ (by first | omega | (simp <;> omega)) _))⟩
  · go_wp2_with (fail)
    go_ret
    exact ⟨ret_int (by rw [HS.out]; simp [Hx.out, Hy.out, Hz.out, Hf.out, Hn.out]), (by repeat (first | exact Below.refl _ _ | assumption | refine Below.drew ?_ | refine bdrewN ?_ _ | refine Below.setCell ?_ (by first | omega | (simp <;> omega)) _ | refine Below.alloc ?_ (by first | omega | (simp <;> omega)) _))⟩
set_option maxRecDepth 100000 in
set_option maxHeartbeats 16000000 in
theorem stepFault7_any (x y z f n : Int) (w : World) : Calls Try.prog 23 #[(.agg #[.int .i64 7, .int .i64 x, .int .i64 y, .int .i64 z, .int .i64 f, .int .i64 n])] w fun e w' => e = .returned (.int .i64 (stepE ⟨7, x, y, z, f, n⟩)) ∧ Below w.heap.size w w' := by
  have hE := fun wx => neq_st ⟨7, x, y, z, f, n⟩ ⟨7, 0, 0, 0, 0, n⟩ wx
  have hG := gd_st
  dsimp only at hE
  have HS := Lib.hid (show stepE ⟨7, x, y, z, f, n⟩ = if inZ x (-200000) 200000 = false then 1 else if inZ y (-200000) 200000 = false then 1 else if inZ z (-1000000) 1000000 = false then 1 else if inZ f 0 100000000 = false then 1 else if inZ n 0 10000000 = false then 1 else if (!decide ((⟨7, x, y, z, f, n⟩ : St) = ⟨7, 0, 0, 0, 0, n⟩)) = false then 0 else 3 by
    unfold stepE plB nuB used s00
    dsimp only
    rw [show inZ 7 1 9 = true from rfl]
    simp only [Bool.false_eq_true, if_false, if_true, decide_eq_true_eq, reduceCtorEq, Int.reduceEq, Int.reduceLE, and_self, and_true, true_and, Bool.and_eq_false_iff]
    (repeat' split) <;> simp_all)
  obtain ⟨r, hr⟩ : ∃ r, (!decide ((⟨7, x, y, z, f, n⟩ : St) = ⟨7, 0, 0, 0, 0, n⟩)) = r := ⟨_, rfl⟩
  rw [hr] at HS hE
  clear hr
  go_enter Try.func23, Try.ntmps23
  go_wp2_with (go_at_call 37; refine (inref_any _ _ _ _).mono ?_; rintro e w' ⟨rfl, rfl⟩; rw [show inZ 7 6 9 = true from rfl])
  refine (inref_any _ _ _ _).mono ?_
  rintro e w' ⟨rfl, rfl⟩
  rcases hx : inZ x (-200000) 200000 with _ | _
  · have Hx := Lib.hid hx
    clear hx
    go_wp2_with (fail)
    go_ret
    exact ⟨ret_int (by rw [HS.out]; simp [Hx.out]), (by repeat (first | exact Below.refl _ _ | assumption | refine Below.drew ?_ | refine bdrewN ?_ _ | refine Below.setCell ?_ (by first | omega | (simp <;> omega)) _ | refine Below.alloc ?_ (by first | omega | (simp <;> omega)) _))⟩
  have Hx := Lib.hid hx
  clear hx
  go_wp2_with (fail)
  refine (inref_any _ _ _ _).mono ?_
  rintro e w' ⟨rfl, rfl⟩
  rcases hy : inZ y (-200000) 200000 with _ | _
  · have Hy := Lib.hid hy
    clear hy
    go_wp2_with (fail)
    go_ret
    exact ⟨ret_int (by rw [HS.out]; simp [Hx.out, Hy.out]), (by repeat (first | exact Below.refl _ _ | assumption | refine Below.drew ?_ | refine bdrewN ?_ _ | refine Below.setCell ?_ (by first | omega | (simp <;> omega)) _ | refine Below.alloc ?_ (by first | omega | (simp <;> omega)) _))⟩
  have Hy := Lib.hid hy
  clear hy
  go_wp2_with (fail)
  refine (inref_any _ _ _ _).mono ?_
  rintro e w' ⟨rfl, rfl⟩
  rcases hz : inZ z (-1000000) 1000000 with _ | _
  · have Hz := Lib.hid hz
    clear hz
    go_wp2_with (fail)
    go_ret
    exact ⟨ret_int (by rw [HS.out]; simp [Hx.out, Hy.out, Hz.out]), (by repeat (first | exact Below.refl _ _ | assumption | refine Below.drew ?_ | refine bdrewN ?_ _ | refine Below.setCell ?_ (by first | omega | (simp <;> omega)) _ | refine Below.alloc ?_ (by first | omega | (simp <;> omega)) _))⟩
  have Hz := Lib.hid hz
  clear hz
  go_wp2_with (fail)
  refine (inref_any _ _ _ _).mono ?_
  rintro e w' ⟨rfl, rfl⟩
  rcases hf : inZ f 0 100000000 with _ | _
  · have Hf := Lib.hid hf
    clear hf
    go_wp2_with (fail)
    go_ret
    exact ⟨ret_int (by rw [HS.out]; simp [Hx.out, Hy.out, Hz.out, Hf.out]), (by repeat (first | exact Below.refl _ _ | assumption | refine Below.drew ?_ | refine bdrewN ?_ _ | refine Below.setCell ?_ (by first | omega | (simp <;> omega)) _ | refine Below.alloc ?_ (by first | omega | (simp <;> omega)) _))⟩
  have Hf := Lib.hid hf
  clear hf
  go_wp2_with (fail)
  refine (inref_any _ _ _ _).mono ?_
  rintro e w' ⟨rfl, rfl⟩
  rcases hn : inZ n 0 10000000 with _ | _
  · have Hn := Lib.hid hn
    clear hn
    go_wp2_with (fail)
    go_ret
    exact ⟨ret_int (by rw [HS.out]; simp [Hx.out, Hy.out, Hz.out, Hf.out, Hn.out]), (by repeat (first | exact Below.refl _ _ | assumption | refine Below.drew ?_ | refine bdrewN ?_ _ | refine Below.setCell ?_ (by first | omega | (simp <;> omega)) _ | refine Below.alloc ?_ (by first | omega | (simp <;> omega)) _))⟩
  have Hn := Lib.hid hn
  clear hn
  rcases r with _ | _
  · go_wp2_with (fail)
    go_ret
    exact ⟨ret_int (by rw [HS.out]; simp [Hx.out, Hy.out, Hz.out, Hf.out, Hn.out]), (by repeat (first | exact Below.refl _ _ | assumption | refine Below.drew ?_ | refine bdrewN ?_ _ | refine Below.setCell ?_ (by first | omega | (simp <;> omega)) _ | refine Below.alloc ?_ (by first | omega | (simp <;> omega)) _))⟩
  · go_wp2_with (fail)
    go_ret
    exact ⟨ret_int (by rw [HS.out]; simp [Hx.out, Hy.out, Hz.out, Hf.out, Hn.out]), (by repeat (first | exact Below.refl _ _ | assumption | refine Below.drew ?_ | refine bdrewN ?_ _ | refine Below.setCell ?_ (by first | omega | (simp <;> omega)) _ | refine Below.alloc ?_ (by first | omega | (simp <;> omega)) _))⟩
set_option maxRecDepth 100000 in
set_option maxHeartbeats 16000000 in
theorem stepFault8_any (x y z f n : Int) (w : World) : Calls Try.prog 23 #[(.agg #[.int .i64 8, .int .i64 x, .int .i64 y, .int .i64 z, .int .i64 f, .int .i64 n])] w fun e w' => e = .returned (.int .i64 (stepE ⟨8, x, y, z, f, n⟩)) ∧ Below w.heap.size w w' := by
  have hE := fun wx => neq_st ⟨8, x, y, z, f, n⟩ ⟨8, 0, 0, 0, 0, n⟩ wx
  have hG := gd_st
  dsimp only at hE
  have HS := Lib.hid (show stepE ⟨8, x, y, z, f, n⟩ = if inZ x (-200000) 200000 = false then 1 else if inZ y (-200000) 200000 = false then 1 else if inZ z (-1000000) 1000000 = false then 1 else if inZ f 0 100000000 = false then 1 else if inZ n 0 500 = false then 1 else if (!decide ((⟨8, x, y, z, f, n⟩ : St) = ⟨8, 0, 0, 0, 0, n⟩)) = false then 0 else 3 by
    unfold stepE plB nuB used s00
    dsimp only
    rw [show inZ 8 1 9 = true from rfl]
    simp only [Bool.false_eq_true, if_false, if_true, decide_eq_true_eq, reduceCtorEq, Int.reduceEq, Int.reduceLE, and_self, and_true, true_and, Bool.and_eq_false_iff]
    (repeat' split) <;> simp_all)
  obtain ⟨r, hr⟩ : ∃ r, (!decide ((⟨8, x, y, z, f, n⟩ : St) = ⟨8, 0, 0, 0, 0, n⟩)) = r := ⟨_, rfl⟩
  rw [hr] at HS hE
  clear hr
  go_enter Try.func23, Try.ntmps23
  go_wp2_with (go_at_call 37; refine (inref_any _ _ _ _).mono ?_; rintro e w' ⟨rfl, rfl⟩; rw [show inZ 8 6 9 = true from rfl])
  refine (inref_any _ _ _ _).mono ?_
  rintro e w' ⟨rfl, rfl⟩
  rcases hx : inZ x (-200000) 200000 with _ | _
  · have Hx := Lib.hid hx
    clear hx
    go_wp2_with (fail)
    go_ret
    exact ⟨ret_int (by rw [HS.out]; simp [Hx.out]), (by repeat (first | exact Below.refl _ _ | assumption | refine Below.drew ?_ | refine bdrewN ?_ _ | refine Below.setCell ?_ (by first | omega | (simp <;> omega)) _ | refine Below.alloc ?_ (by first | omega | (simp <;> omega)) _))⟩
  have Hx := Lib.hid hx
  clear hx
  go_wp2_with (fail)
  refine (inref_any _ _ _ _).mono ?_
  rintro e w' ⟨rfl, rfl⟩
  rcases hy : inZ y (-200000) 200000 with _ | _
  · have Hy := Lib.hid hy
    clear hy
    go_wp2_with (fail)
    go_ret
    exact ⟨ret_int (by rw [HS.out]; simp [Hx.out, Hy.out]), (by repeat (first | exact Below.refl _ _ | assumption | refine Below.drew ?_ | refine bdrewN ?_ _ | refine Below.setCell ?_ (by first | omega | (simp <;> omega)) _ | refine Below.alloc ?_ (by first | omega | (simp <;> omega)) _))⟩
  have Hy := Lib.hid hy
  clear hy
  go_wp2_with (fail)
  refine (inref_any _ _ _ _).mono ?_
  rintro e w' ⟨rfl, rfl⟩
  rcases hz : inZ z (-1000000) 1000000 with _ | _
  · have Hz := Lib.hid hz
    clear hz
    go_wp2_with (fail)
    go_ret
    exact ⟨ret_int (by rw [HS.out]; simp [Hx.out, Hy.out, Hz.out]), (by repeat (first | exact Below.refl _ _ | assumption | refine Below.drew ?_ | refine bdrewN ?_ _ | refine Below.setCell ?_ (by first | omega | (simp <;> omega)) _ | refine Below.alloc ?_ (by first | omega | (simp <;> omega)) _))⟩
  have Hz := Lib.hid hz
  clear hz
  go_wp2_with (fail)
  refine (inref_any _ _ _ _).mono ?_
  rintro e w' ⟨rfl, rfl⟩
  rcases hf : inZ f 0 100000000 with _ | _
  · have Hf := Lib.hid hf
    clear hf
    go_wp2_with (fail)
    go_ret
    exact ⟨ret_int (by rw [HS.out]; simp [Hx.out, Hy.out, Hz.out, Hf.out]), (by repeat (first | exact Below.refl _ _ | assumption | refine Below.drew ?_ | refine bdrewN ?_ _ | refine Below.setCell ?_ (by first | omega | (simp <;> omega)) _ | refine Below.alloc ?_ (by first | omega | (simp <;> omega)) _))⟩
  have Hf := Lib.hid hf
  clear hf
  go_wp2_with (fail)
  refine (inref_any _ _ _ _).mono ?_
  rintro e w' ⟨rfl, rfl⟩
  rcases hn : inZ n 0 500 with _ | _
  · have Hn := Lib.hid hn
    clear hn
    go_wp2_with (fail)
    go_ret
    exact ⟨ret_int (by rw [HS.out]; simp [Hx.out, Hy.out, Hz.out, Hf.out, Hn.out]), (by repeat (first | exact Below.refl _ _ | assumption | refine Below.drew ?_ | refine bdrewN ?_ _ | refine Below.setCell ?_ (by first | omega | (simp <;> omega)) _ | refine Below.alloc ?_ (by first | omega | (simp <;> omega)) _))⟩
  have Hn := Lib.hid hn
  clear hn
  rcases r with _ | _
  · go_wp2_with (fail)
    go_ret
    exact ⟨ret_int (by rw [HS.out]; simp [Hx.out, Hy.out, Hz.out, Hf.out, Hn.out]), (by repeat (first | exact Below.refl _ _ | assumption | refine Below.drew ?_ | refine bdrewN ?_ _ | refine Below.setCell ?_ (by first | omega | (simp <;> omega)) _ | refine Below.alloc ?_ (by first | omega | (simp <;> omega)) _))⟩
  · go_wp2_with (fail)
    go_ret
    exact ⟨ret_int (by rw [HS.out]; simp [Hx.out, Hy.out, Hz.out, Hf.out, Hn.out]), (by repeat (first | exact Below.refl _ _ | assumption | refine Below.drew ?_ | refine bdrewN ?_ _ | refine Below.setCell ?_ (by first | omega | (simp <;> omega)) _ | refine Below.alloc ?_ (by first | omega | (simp <;> omega)) _))⟩
set_option maxRecDepth 100000 in
set_option maxHeartbeats 16000000 in
theorem stepFault9_any (x y z f n : Int) (w : World) : Calls Try.prog 23 #[(.agg #[.int .i64 9, .int .i64 x, .int .i64 y, .int .i64 z, .int .i64 f, .int .i64 n])] w fun e w' => e = .returned (.int .i64 (stepE ⟨9, x, y, z, f, n⟩)) ∧ Below w.heap.size w w' := by
  have hE := fun wx => neq_st ⟨9, x, y, z, f, n⟩ ⟨9, 0, 0, 0, 0, n⟩ wx
  have hG := gd_st
  dsimp only at hE
  have HS := Lib.hid (show stepE ⟨9, x, y, z, f, n⟩ = if inZ x (-200000) 200000 = false then 1 else if inZ y (-200000) 200000 = false then 1 else if inZ z (-1000000) 1000000 = false then 1 else if inZ f 0 100000000 = false then 1 else if inZ n 0 9 = false then 1 else if (!decide ((⟨9, x, y, z, f, n⟩ : St) = ⟨9, 0, 0, 0, 0, n⟩)) = false then 0 else 3 by
    unfold stepE plB nuB used s00
    dsimp only
    rw [show inZ 9 1 9 = true from rfl]
    simp only [Bool.false_eq_true, if_false, if_true, decide_eq_true_eq, reduceCtorEq, Int.reduceEq, Int.reduceLE, and_self, and_true, true_and, Bool.and_eq_false_iff]
    (repeat' split) <;> simp_all)
  obtain ⟨r, hr⟩ : ∃ r, (!decide ((⟨9, x, y, z, f, n⟩ : St) = ⟨9, 0, 0, 0, 0, n⟩)) = r := ⟨_, rfl⟩
  rw [hr] at HS hE
  clear hr
  go_enter Try.func23, Try.ntmps23
  go_wp2_with (go_at_call 37; refine (inref_any _ _ _ _).mono ?_; rintro e w' ⟨rfl, rfl⟩; rw [show inZ 9 6 9 = true from rfl])
  refine (inref_any _ _ _ _).mono ?_
  rintro e w' ⟨rfl, rfl⟩
  rcases hx : inZ x (-200000) 200000 with _ | _
  · have Hx := Lib.hid hx
    clear hx
    go_wp2_with (fail)
    go_ret
    exact ⟨ret_int (by rw [HS.out]; simp [Hx.out]), (by repeat (first | exact Below.refl _ _ | assumption | refine Below.drew ?_ | refine bdrewN ?_ _ | refine Below.setCell ?_ (by first | omega | (simp <;> omega)) _ | refine Below.alloc ?_ (by first | omega | (simp <;> omega)) _))⟩
  have Hx := Lib.hid hx
  clear hx
  go_wp2_with (fail)
  refine (inref_any _ _ _ _).mono ?_
  rintro e w' ⟨rfl, rfl⟩
  rcases hy : inZ y (-200000) 200000 with _ | _
  · have Hy := Lib.hid hy
    clear hy
    go_wp2_with (fail)
    go_ret
    exact ⟨ret_int (by rw [HS.out]; simp [Hx.out, Hy.out]), (by repeat (first | exact Below.refl _ _ | assumption | refine Below.drew ?_ | refine bdrewN ?_ _ | refine Below.setCell ?_ (by first | omega | (simp <;> omega)) _ | refine Below.alloc ?_ (by first | omega | (simp <;> omega)) _))⟩
  have Hy := Lib.hid hy
  clear hy
  go_wp2_with (fail)
  refine (inref_any _ _ _ _).mono ?_
  rintro e w' ⟨rfl, rfl⟩
  rcases hz : inZ z (-1000000) 1000000 with _ | _
  · have Hz := Lib.hid hz
    clear hz
    go_wp2_with (fail)
    go_ret
    exact ⟨ret_int (by rw [HS.out]; simp [Hx.out, Hy.out, Hz.out]), (by repeat (first | exact Below.refl _ _ | assumption | refine Below.drew ?_ | refine bdrewN ?_ _ | refine Below.setCell ?_ (by first | omega | (simp <;> omega)) _ | refine Below.alloc ?_ (by first | omega | (simp <;> omega)) _))⟩
  have Hz := Lib.hid hz
  clear hz
  go_wp2_with (fail)
  refine (inref_any _ _ _ _).mono ?_
  rintro e w' ⟨rfl, rfl⟩
  rcases hf : inZ f 0 100000000 with _ | _
  · have Hf := Lib.hid hf
    clear hf
    go_wp2_with (fail)
    go_ret
    exact ⟨ret_int (by rw [HS.out]; simp [Hx.out, Hy.out, Hz.out, Hf.out]), (by repeat (first | exact Below.refl _ _ | assumption | refine Below.drew ?_ | refine bdrewN ?_ _ | refine Below.setCell ?_ (by first | omega | (simp <;> omega)) _ | refine Below.alloc ?_ (by first | omega | (simp <;> omega)) _))⟩
  have Hf := Lib.hid hf
  clear hf
  go_wp2_with (fail)
  refine (inref_any _ _ _ _).mono ?_
  rintro e w' ⟨rfl, rfl⟩
  rcases hn : inZ n 0 9 with _ | _
  · have Hn := Lib.hid hn
    clear hn
    go_wp2_with (fail)
    go_ret
    exact ⟨ret_int (by rw [HS.out]; simp [Hx.out, Hy.out, Hz.out, Hf.out, Hn.out]), (by repeat (first | exact Below.refl _ _ | assumption | refine Below.drew ?_ | refine bdrewN ?_ _ | refine Below.setCell ?_ (by first | omega | (simp <;> omega)) _ | refine Below.alloc ?_ (by first | omega | (simp <;> omega)) _))⟩
  have Hn := Lib.hid hn
  clear hn
  rcases r with _ | _
  · go_wp2_with (fail)
    go_ret
    exact ⟨ret_int (by rw [HS.out]; simp [Hx.out, Hy.out, Hz.out, Hf.out, Hn.out]), (by repeat (first | exact Below.refl _ _ | assumption | refine Below.drew ?_ | refine bdrewN ?_ _ | refine Below.setCell ?_ (by first | omega | (simp <;> omega)) _ | refine Below.alloc ?_ (by first | omega | (simp <;> omega)) _))⟩
  · go_wp2_with (fail)
    go_ret
    exact ⟨ret_int (by rw [HS.out]; simp [Hx.out, Hy.out, Hz.out, Hf.out, Hn.out]), (by repeat (first | exact Below.refl _ _ | assumption | refine Below.drew ?_ | refine bdrewN ?_ _ | refine Below.setCell ?_ (by first | omega | (simp <;> omega)) _ | refine Below.alloc ?_ (by first | omega | (simp <;> omega)) _))⟩
set_option maxRecDepth 100000 in
set_option maxHeartbeats 4000000 in
theorem stepFault0_any (k x y z f n : Int) (w : World) (hk : k < 1 ∨ 9 < k) : Calls Try.prog 23 #[(.agg #[.int .i64 k, .int .i64 x, .int .i64 y, .int .i64 z, .int .i64 f, .int .i64 n])] w fun e w' => e = .returned (.int .i64 4) ∧ Below w.heap.size w w' := by
  have k1 : ¬ k = 1 := by omega
  have k2 : ¬ k = 2 := by omega
  have k3 : ¬ k = 3 := by omega
  have k4 : ¬ k = 4 := by omega
  have k5 : ¬ k = 5 := by omega
  have k6 : ¬ k = 6 := by omega
  have k7 : ¬ k = 7 := by omega
  have k8 : ¬ k = 8 := by omega
  have k9 : ¬ k = 9 := by omega
  clear hk
  go_enter Try.func23, Try.ntmps23
  go_wp2_with (fail)
  go_ret
  exact ⟨rfl, (by repeat (first | exact Below.refl _ _ | assumption | refine Below.drew ?_ | refine bdrewN ?_ _ | refine Below.setCell ?_ (by first | omega | (simp <;> omega)) _ | refine Below.alloc ?_ (by first | omega | (simp <;> omega)) _))⟩
theorem stepFault_any (s : St) (w : World) : Calls Try.prog 23 #[(.agg #[.int .i64 s.k, .int .i64 s.x, .int .i64 s.y, .int .i64 s.z, .int .i64 s.f, .int .i64 s.n])] w fun e w' => e = .returned (.int .i64 (stepE s)) ∧ Below w.heap.size w w' := by
  rcases s with ⟨k, x, y, z, f, n⟩
  dsimp only
  by_cases h : k < 1 ∨ 9 < k
  · have hz : stepE ⟨k, x, y, z, f, n⟩ = 4 := by
      unfold stepE
      rw [if_pos]
      unfold inZ
      rw [Bool.and_eq_false_iff, decide_eq_false_iff_not, decide_eq_false_iff_not]
      dsimp only
      omega
    rw [hz]
    exact stepFault0_any k x y z f n w h
  · have h' : k = 1 ∨ k = 2 ∨ k = 3 ∨ k = 4 ∨ k = 5 ∨ k = 6 ∨ k = 7 ∨ k = 8 ∨ k = 9 := by omega
    rcases h' with rfl | rfl | rfl | rfl | rfl | rfl | rfl | rfl | rfl
    · exact stepFault1_any x y z f n w
    · exact stepFault2_any x y z f n w
    · exact stepFault3_any x y z f n w
    · exact stepFault4_any x y z f n w
    · exact stepFault5_any x y z f n w
    · exact stepFault6_any x y z f n w
    · exact stepFault7_any x y z f n w
    · exact stepFault8_any x y z f n w
    · exact stepFault9_any x y z f n w
set_option maxRecDepth 100000 in
set_option maxHeartbeats 4000000 in
theorem stepsFault_any (a : Option Addr) (n c : Nat) (S : Nat → St) (w : World) (hn : n ≤ 5000) (hp : StepsR w a n S) :
    Calls Try.prog 5 #[.slice a n c] w fun e w' => e = .returned (.int .i64 (stepsE n S)) ∧ Below w.heap.size w w' := by
  have HP := Lib.hid hp
  clear hp
  have l2 : ¬ (5000 : Int) < (n : Int) := by omega
  go_enter Try.func5, Try.ntmps5
  go_wp2_with (fail)
  go_loopw [11] (fun i wr => ∃ k : Nat, k ≤ n ∧ i = .int .i64 k ∧ (∀ j, j < k → stepE (S j) = 0) ∧ Below w.heap.size w wr) (fun i _ => n - (intOf i).toNat)
  case atStart => exact ⟨0, by omega, rfl, fun j hj => by omega, Below.refl _ _⟩
  case round =>
    obtain ⟨k, hk, rfl, hj, hbel⟩ := hrel
    have HJ := Lib.hid hj
    have HB := Lib.hid hbel
    have hsz := hbel.size
    clear hj hbel
    by_cases hlt : k < n
    · rcases HP.out with h0 | ⟨b, off, rfl, hb, hd⟩
      · omega
      obtain ⟨c0, c1, c2, c3, c4, c5⟩ := hd k hlt
      replace c0 := cellk HB.out hb c0
      replace c1 := cellk HB.out hb c1
      replace c2 := cellk HB.out hb c2
      replace c3 := cellk HB.out hb c3
      replace c4 := cellk HB.out hb c4
      replace c5 := cellk HB.out hb c5
      have hbw : b < wr.heap.size := by omega
      clear hd
      obtain ⟨s, hs⟩ : ∃ s, S k = s := ⟨_, rfl⟩
      have RS := Lib.hid hs
      rw [hs] at c0 c1 c2 c3 c4 c5
      clear hs
      go_wp2_with (fail)
      have hb1 : Below wr.heap.size wr (wr.alloc (.cells #[.int .i64 s.k, .int .i64 s.x, .int .i64 s.y, .int .i64 s.z, .int .i64 s.f, .int .i64 s.n] 36)) := (Below.refl _ _).alloc (Nat.le_refl _) _
      have B1 := Lib.hid (HB.out.trans (hb1.mono hsz))
      clear hb1 c0 c1 c2 c3 c4 c5
      generalize (wr.alloc (.cells #[.int .i64 s.k, .int .i64 s.x, .int .i64 s.y, .int .i64 s.z, .int .i64 s.f, .int .i64 s.n] 36)) = w1 at *
      refine (stepFault_any s _).mono ?_
      rintro e w2 ⟨rfl, hb2⟩
      have B2 := Lib.hid (B1.out.trans (hb2.mono B1.out.size))
      clear hb2
      by_cases hz : stepE s = 0
      · have HZ := Lib.hid hz
        have hz' : (stepE s != 0) = false := by simp [hz]
        clear hz
        go_wp2_with (fail)
        go_roundw
        case rel => exact ⟨k + 1, by omega, by go_num, fun j hj => (by
          rcases Nat.lt_or_ge j k with h | h
          · exact HJ.out j h
          · obtain rfl : j = k := by omega
            rw [RS.out]; exact HZ.out), B2.out⟩
        case measure => simp [intOf]; omega
      · have HZ := Lib.hid hz
        have hz' : (stepE s != 0) = true := by simpa using hz
        clear hz
        go_wp2_with (fail)
        go_ret
        exact ⟨ret_int (by rw [stepsE_at hlt HJ.out (by rw [RS.out]; exact HZ.out), RS.out]), B2.out⟩
    · obtain rfl : n = k := by omega
      go_wp2_with (fail)
      go_ret
      exact ⟨ret_int (stepsE_ok HJ.out).symm, HB.out⟩
end Go.Proofs.Ytgmpmaiddombeaa

/- Points are compared; the package does something. -/
import Derived.Test.YtapihgmokgkaaaaYt
import Derived.Laws.StructEq
set_option linter.unusedSimpArgs false
set_option linter.unusedVariables false
namespace Go.Proofs.Ytapihgmokgkaaaa
open Go.RowKit

theorem st_pt : Try.prog.stoodInHeld 27 = false := by kernel_rfl
theorem gd_pt : Try.prog.eqGuardType Try.prog.depth 27 = false := by kernel_rfl
theorem neq_pt_self (x y : Int) (w : World) : (Go.binOp .neq 27 (.agg #[.int .i64 x, .int .i64 y]) (.agg #[.int .i64 x, .int .i64 y])).run Try.prog w = Result.ok (.bool false) w := by
  rw [run_neq_struct, run_equalIn_agg (ht := by kernel_rfl) (hp := st_pt)]
  simp [go_sem]
theorem eql_pt_self (x y : Int) (w : World) : (Go.binOp .eql 27 (.agg #[.int .i64 x, .int .i64 y]) (.agg #[.int .i64 x, .int .i64 y])).run Try.prog w = Result.ok (.bool true) w := by
  rw [run_eql_struct, run_equalIn_agg (ht := by kernel_rfl) (hp := st_pt)]
  simp [go_sem]
set_option maxHeartbeats 1000000 in
theorem equalP_any (a b : Option Addr) (n c d : Nat) (X Y : Nat → Int) (w : World) (ha : PtsR w a n X Y) (hb : PtsR w b n X Y) (hn : n ≤ 1000000) :
    Calls Try.prog 20 #[.slice a n c, .slice b n d] w fun e w' => e = .returned (.bool true) ∧ Below w.heap.size w w' := by
  have HA := Lib.hid ha
  have HB := Lib.hid hb
  clear ha hb
  go_enter Try.func20, Try.ntmps20
  go_wp2
  go_loopw [13] (fun i wr => ∃ k : Nat, k ≤ n ∧ i = .int .i64 k ∧ Below w.heap.size w wr) (fun i _ => n - (intOf i).toNat)
  case atStart => exact ⟨0, by omega, rfl, (by repeat (first | exact Below.refl _ _ | assumption | refine Below.drew ?_ | refine bdrewN ?_ _ | refine Below.setCell ?_ (by first | omega | (simp <;> omega)) _ | refine Below.alloc ?_ (by first | omega | (simp <;> omega)) _))⟩
  case round =>
    obtain ⟨k, hk, rfl, hbel⟩ := hrel
    have hsz := hbel.size
    by_cases hlt : k < n
    · rcases HA.out with h | ⟨ba, oa, rfl, hba, ca⟩
      · omega
      rcases HB.out with h | ⟨bb, ob, rfl, hbb, cb⟩
      · omega
      obtain ⟨c0, c1⟩ := (ca.kept hbel hba) k hlt
      obtain ⟨d0, d1⟩ := (cb.kept hbel hbb) k hlt
      have l1 : ba < wr.heap.size := by omega
      have l2 : bb < wr.heap.size := by omega
      have hE := fun wx => neq_pt_self (X k) (Y k) wx
      have hG := gd_pt
      have hi0 : (0 : Int) ≤ (k : Int) := by omega
      have hi1 : (k : Int) < (n : Int) := by omega
      clear ca cb
      have HBL := Lib.hid hbel
      clear hbel
      go_wp2
      go_quiet (fail)
      go_wp2
      go_roundw
      case rel => exact ⟨k + 1, by omega, by go_num, bdrewN HBL.out _⟩
      case measure => simp [intOf]; omega
    · obtain rfl : n = k := by omega
      go_wp2
      go_ret
      exact ⟨rfl, hbel⟩
set_option maxHeartbeats 1000000 in
theorem equalI_one (g h c d : Nat) (z : Int) (w : World) (hg : w.cell? ⟨g, 0, none⟩ = some (.int .i64 z)) (hh : w.cell? ⟨h, 0, none⟩ = some (.int .i64 z)) :
    Calls Try.prog 42 #[.slice (some ⟨g, 0, none⟩) 1 c, .slice (some ⟨h, 0, none⟩) 1 d] w fun e w' => e = .returned (.bool true) ∧ Below w.heap.size w w' := by
  go_enter Try.func42, Try.ntmps42
  go_wp2
  refine wp_loop_rounds 2 ?_
  rw [rounds_succ]
  go_wp2
  go_quiet (fail)
  go_wp2
  rw [rounds_succ]
  go_wp2
  go_ret
  exact ⟨rfl, (by repeat (first | exact Below.refl _ _ | assumption | refine Below.drew ?_ | refine bdrewN ?_ _ | refine Below.setCell ?_ (by first | omega | (simp <;> omega)) _ | refine Below.alloc ?_ (by first | omega | (simp <;> omega)) _))⟩
set_option maxRecDepth 100000 in
set_option maxHeartbeats 4000000 in
theorem pathed_any (w : World) : Calls Try.prog 21 #[] w fun e w' => e = .returned (.bool true) ∧ Below w.heap.size w w' := by
  go_enter Try.func21, Try.ntmps21
  go_wp2_with (fail)
  have B0 : Below w.heap.size w ((w.alloc (.cells #[.int .i64 0, .int .i64 0, .int .i64 3, .int .i64 2] 27)).alloc (.cells #[.slice (some ⟨w.heap.size, 0, none⟩) 2 2, .bool false] 59)) := (by repeat (first | exact Below.refl _ _ | assumption | refine Below.drew ?_ | refine bdrewN ?_ _ | refine Below.setCell ?_ (by first | omega | (simp <;> omega)) _ | refine Below.alloc ?_ (by first | omega | (simp <;> omega)) _))
  have hs : ((w.alloc (.cells #[.int .i64 0, .int .i64 0, .int .i64 3, .int .i64 2] 27)).alloc (.cells #[.slice (some ⟨w.heap.size, 0, none⟩) 2 2, .bool false] 59)).heap.size = w.heap.size + 1 + 1 := by simp
  have r0 : ((w.alloc (.cells #[.int .i64 0, .int .i64 0, .int .i64 3, .int .i64 2] 27)).alloc (.cells #[.slice (some ⟨w.heap.size, 0, none⟩) 2 2, .bool false] 59)).cell? ⟨w.heap.size, 0, none⟩ = some (.int .i64 0) := by simp [go_sem]
  have r1 : ((w.alloc (.cells #[.int .i64 0, .int .i64 0, .int .i64 3, .int .i64 2] 27)).alloc (.cells #[.slice (some ⟨w.heap.size, 0, none⟩) 2 2, .bool false] 59)).cell? ⟨w.heap.size, 1, none⟩ = some (.int .i64 0) := by simp [go_sem]
  have r2 : ((w.alloc (.cells #[.int .i64 0, .int .i64 0, .int .i64 3, .int .i64 2] 27)).alloc (.cells #[.slice (some ⟨w.heap.size, 0, none⟩) 2 2, .bool false] 59)).cell? ⟨w.heap.size, 2, none⟩ = some (.int .i64 3) := by simp [go_sem]
  have r3 : ((w.alloc (.cells #[.int .i64 0, .int .i64 0, .int .i64 3, .int .i64 2] 27)).alloc (.cells #[.slice (some ⟨w.heap.size, 0, none⟩) 2 2, .bool false] 59)).cell? ⟨w.heap.size, 3, none⟩ = some (.int .i64 2) := by simp [go_sem]
  have p0 : ((w.alloc (.cells #[.int .i64 0, .int .i64 0, .int .i64 3, .int .i64 2] 27)).alloc (.cells #[.slice (some ⟨w.heap.size, 0, none⟩) 2 2, .bool false] 59)).cell? ⟨w.heap.size + 1, 0, none⟩ = some (.slice (some ⟨w.heap.size, 0, none⟩) 2 2) := by simp [go_sem]
  have p1 : ((w.alloc (.cells #[.int .i64 0, .int .i64 0, .int .i64 3, .int .i64 2] 27)).alloc (.cells #[.slice (some ⟨w.heap.size, 0, none⟩) 2 2, .bool false] 59)).cell? ⟨w.heap.size + 1, 1, none⟩ = some (.bool false) := by simp [go_sem]
  generalize ((w.alloc (.cells #[.int .i64 0, .int .i64 0, .int .i64 3, .int .i64 2] 27)).alloc (.cells #[.slice (some ⟨w.heap.size, 0, none⟩) 2 2, .bool false] 59)) = w0 at *
  have hR : PathsR w0 (some ⟨w.heap.size + 1, 0, none⟩) 1 (fun _ => ⟨some ⟨w.heap.size, 0, none⟩, 2, 2, fun i => if i = 0 then 0 else 3, fun i => if i = 0 then 0 else 2, false⟩) := by
    refine .inr ⟨_, _, rfl, by omega, fun i hi => ?_⟩
    obtain rfl : i = 0 := by omega
    refine ⟨⟨p0, p1⟩, .inr ⟨_, _, rfl, by show w.heap.size < w0.heap.size; omega, fun i hi => ?_⟩⟩
    have : i = 0 ∨ i = 1 := by have : i < 2 := hi; omega
    rcases this with rfl | rfl
    · exact ⟨r0, r1⟩
    · exact ⟨r2, r3⟩
  refine (long_one (some ⟨w.heap.size + 1, 0, none⟩) 1 _ w0 hR rfl (Nat.le_refl _) rfl rfl rfl rfl rfl).mono ?_
  rintro e w1 ⟨g, c', rfl, hk, hb1⟩
  have B1 := Lib.hid (B0.trans (hb1.mono B0.size))
  have hgl := cell_lt hk
  dsimp only at hgl
  clear r0 r1 r2 r3 p0 p1 hR hb1 B0 hs
  go_wp2_with (fail)
  have B2 : Below w1.heap.size w1 (w1.alloc (.cells #[.int .i64 3] 3)) := (by repeat (first | exact Below.refl _ _ | assumption | refine Below.drew ?_ | refine bdrewN ?_ _ | refine Below.setCell ?_ (by first | omega | (simp <;> omega)) _ | refine Below.alloc ?_ (by first | omega | (simp <;> omega)) _))
  refine (equalI_one g w1.heap.size c' 1 3 _ (cellk B2 hgl hk) (by simp [go_sem])).mono ?_
  rintro e w2 ⟨rfl, hb2⟩
  have B3 := Lib.hid (B1.out.trans ((B2.trans (hb2.mono B2.size)).mono B1.out.size))
  clear hb2 B2
  go_wp2_with (fail)
  go_ret
  exact ⟨rfl, B3.out⟩
end Go.Proofs.Ytapihgmokgkaaaa

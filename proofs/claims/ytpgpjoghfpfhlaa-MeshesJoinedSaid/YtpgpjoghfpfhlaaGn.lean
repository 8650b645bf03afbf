/- General bits for the law MeshesJoined. -/
import Derived.Test.YtpgpjoghfpfhlaaPl
import Derived.Test.YtpgpjoghfpfhlaaMF3
import Derived.Test.YtpgpjoghfpfhlaaCM2
import Derived.Lib.SliceRun
set_option linter.unusedSimpArgs false
set_option linter.unusedVariables false
namespace Go.Proofs.Ytpgpjoghfpfhlaa
open Go.RowKit

theorem made_at {w : World} {base g size cap : Nat} {e : TypeId} (cur : Array Value) (hg : w.heap.size = g) (hb : base ≤ g) (hm : cap ≤ maxLen) (hs : cur.size = cap * size) :
    (w.alloc (.cells cur e)).ownsRow base e size (.slice (some ⟨g, 0, none⟩) 0 cap) 0 [] := by
  subst hg; exact World.ownsRow_made w cur cap hb hm hs
/-- cmp.Or of two errors. -/
def orE (a b : Int) : Int := if a = 0 then b else a
theorem or_any (g : Nat) (a b : Int) (w : World) (hg : w.heap.size = g) : Calls Try.prog 11 #[.slice (some ⟨g, 0, none⟩) 2 2] (w.alloc (.cells #[.int .i64 a, .int .i64 b] 33)) fun e w' => e = .returned (.int .i64 (orE a b)) ∧ w.alloc (.cells #[.int .i64 a, .int .i64 b] 33) = w' := by
  subst hg
  by_cases ha : a = 0
  · subst ha
    by_cases hb : b = 0
    · subst hb
      go_enter Try.func11, Try.ntmps11
      go_wp2
      refine wp_loop_rounds 3 ?_
      rw [rounds_succ]; go_wp2
      rw [rounds_succ]; go_wp2
      rw [rounds_succ]; go_wp2
      go_ret
      exact ⟨rfl, rfl⟩
    · have e1 : (b != 0) = true := by simpa using hb
      go_enter Try.func11, Try.ntmps11
      go_wp2
      refine wp_loop_rounds 3 ?_
      rw [rounds_succ]; go_wp2
      rw [rounds_succ]; go_wp2
      go_ret
      exact ⟨rfl, rfl⟩
  · have e1 : (a != 0) = true := by simpa using ha
    have HA := Lib.hid ha
    clear ha
    go_enter Try.func11, Try.ntmps11
    go_wp2
    refine wp_loop_rounds 3 ?_
    rw [rounds_succ]; go_wp2
    go_ret
    exact ⟨ret_int (by simp [orE, HA.out]), rfl⟩

theorem or2B (g : Nat) (a b : Int) (w : World) (hg : w.heap.size = g) : Calls Try.prog 11 #[.slice (some ⟨g, 0, none⟩) 2 2] (w.alloc (.cells #[.int .i64 a, .int .i64 b] 33)) fun e w' => e = .returned (.int .i64 (orE a b)) ∧ Below w.heap.size w w' :=
  (or_any g a b w hg).mono fun _ _ h => ⟨h.1, h.2 ▸ (Below.refl _ w).alloc (Nat.le_refl _) _⟩
theorem tEq_self (x y z : Int) : tEq x y z x y z = true := by simp [tEq]
theorem neq_vec_self (x y z : Int) (w : World) : (Go.binOp .neq 47 (.agg #[.int .i64 x, .int .i64 y, .int .i64 z]) (.agg #[.int .i64 x, .int .i64 y, .int .i64 z])).run Try.prog w = Result.ok (.bool false) w := by
  rw [neq_vec, tEq_self]; rfl
set_option maxHeartbeats 1000000 in
theorem equalV_any (a b : Option Addr) (n c d : Nat) (V : Nat → V3) (w : World) (ha : Row3 w a n V) (hb : Row3 w b n V) (hn : n ≤ 1000000) :
    Calls Try.prog 47 #[.slice a n c, .slice b n d] w fun e w' => e = .returned (.bool true) ∧ Below w.heap.size w w' := by
  have HA := Lib.hid ha
  have HB := Lib.hid hb
  clear ha hb
  go_enter Try.func47, Try.ntmps47
  go_wp2
  go_loopw [13] (fun i wr => ∃ k : Nat, k ≤ n ∧ i = .int .i64 k ∧ Below w.heap.size w wr) (fun i _ => n - (intOf i).toNat)
  case atStart => exact ⟨0, by omega, rfl, (by repeat (first | exact Below.refl _ _ | assumption | refine Below.drew ?_ | refine bdrewN ?_ _ | refine Below.setCell ?_ (by first | omega | (simp <;> omega)) _ | refine Below.alloc ?_ (by first | omega | (simp <;> omega)) _))⟩
  case round =>
    obtain ⟨k, hk, rfl, hbel⟩ := hrel
    have hsz := hbel.size
    by_cases hlt : k < n
    · rcases HA.out with h | ⟨ba, oa, rfl, hba, ca⟩
      · omega
      rcases HB.out with h | ⟨bb, ob, rfl, hbb, cb⟩
      · omega
      obtain ⟨c0, c1, c2⟩ := (ca.kept hbel hba) k hlt
      obtain ⟨d0, d1, d2⟩ := (cb.kept hbel hbb) k hlt
      have l1 : ba < wr.heap.size := by omega
      have l2 : bb < wr.heap.size := by omega
      have hE := fun wx => neq_vec_self (V k).x (V k).y (V k).z wx
      have hG := gd_vec
      have hi0 : (0 : Int) ≤ (k : Int) := by omega
      have hi1 : (k : Int) < (n : Int) := by omega
      clear ca cb
      have HBL := Lib.hid hbel
      clear hbel
      go_wp2
      go_quiet (fail)
      go_wp2
      go_roundw
      case rel => exact ⟨k + 1, by omega, by go_num, bdrewN HBL.out _⟩
      case measure => simp [intOf]; omega
    · obtain rfl : n = k := by omega
      go_wp2
      go_ret
      exact ⟨rfl, hbel⟩
theorem neq_face_self (x y z : Int) (w : World) : (Go.binOp .neq 52 (.agg #[.int .i64 x, .int .i64 y, .int .i64 z]) (.agg #[.int .i64 x, .int .i64 y, .int .i64 z])).run Try.prog w = Result.ok (.bool false) w := by
  rw [neq_face, tEq_self]; rfl
set_option maxHeartbeats 1000000 in
theorem equalF_any (a b : Option Addr) (n c d : Nat) (V : Nat → V3) (w : World) (ha : Row3 w a n V) (hb : Row3 w b n V) (hn : n ≤ 1000000) :
    Calls Try.prog 48 #[.slice a n c, .slice b n d] w fun e w' => e = .returned (.bool true) ∧ Below w.heap.size w w' := by
  have HA := Lib.hid ha
  have HB := Lib.hid hb
  clear ha hb
  go_enter Try.func48, Try.ntmps48
  go_wp2
  go_loopw [13] (fun i wr => ∃ k : Nat, k ≤ n ∧ i = .int .i64 k ∧ Below w.heap.size w wr) (fun i _ => n - (intOf i).toNat)
  case atStart => exact ⟨0, by omega, rfl, (by repeat (first | exact Below.refl _ _ | assumption | refine Below.drew ?_ | refine bdrewN ?_ _ | refine Below.setCell ?_ (by first | omega | (simp <;> omega)) _ | refine Below.alloc ?_ (by first | omega | (simp <;> omega)) _))⟩
  case round =>
    obtain ⟨k, hk, rfl, hbel⟩ := hrel
    have hsz := hbel.size
    by_cases hlt : k < n
    · rcases HA.out with h | ⟨ba, oa, rfl, hba, ca⟩
      · omega
      rcases HB.out with h | ⟨bb, ob, rfl, hbb, cb⟩
      · omega
      obtain ⟨c0, c1, c2⟩ := (ca.kept hbel hba) k hlt
      obtain ⟨d0, d1, d2⟩ := (cb.kept hbel hbb) k hlt
      have l1 : ba < wr.heap.size := by omega
      have l2 : bb < wr.heap.size := by omega
      have hE := fun wx => neq_face_self (V k).x (V k).y (V k).z wx
      have hG := gd_face
      have hi0 : (0 : Int) ≤ (k : Int) := by omega
      have hi1 : (k : Int) < (n : Int) := by omega
      clear ca cb
      have HBL := Lib.hid hbel
      clear hbel
      go_wp2
      go_quiet (fail)
      go_wp2
      go_roundw
      case rel => exact ⟨k + 1, by omega, by go_num, bdrewN HBL.out _⟩
      case measure => simp [intOf]; omega
    · obtain rfl : n = k := by omega
      go_wp2
      go_ret
      exact ⟨rfl, hbel⟩
/-- Two meshes with the same triples are the same. -/
theorem sameMesh_any (a b a' b' : Option Addr) (n c d m c' d' : Nat) (V F : Nat → V3) (w : World) (ha : Row3 w a n V) (hb : Row3 w b n V) (ha' : Row3 w a' m F) (hb' : Row3 w b' m F) (hn : n ≤ 1000000) (hm : m ≤ 1000000) :
    Calls Try.prog 16 #[.agg #[.slice a n c, .slice a' m c'], .agg #[.slice b n d, .slice b' m d']] w fun e w' => e = .returned (.bool true) ∧ Below w.heap.size w w' := by
  have HA := Lib.hid ha
  have HB := Lib.hid hb
  have HA' := Lib.hid ha'
  have HB' := Lib.hid hb'
  clear ha hb ha' hb'
  go_enter Try.func16, Try.ntmps16
  go_wp2_with (fail)
  refine (equalV_any a b n c d V _ (HA.out.kept (by repeat (first | exact Below.refl _ _ | assumption | refine Below.drew ?_ | refine bdrewN ?_ _ | refine Below.setCell ?_ (by first | omega | (simp <;> omega)) _ | refine Below.alloc ?_ (by first | omega | (simp <;> omega)) _))) (HB.out.kept (by repeat (first | exact Below.refl _ _ | assumption | refine Below.drew ?_ | refine bdrewN ?_ _ | refine Below.setCell ?_ (by first | omega | (simp <;> omega)) _ | refine Below.alloc ?_ (by first | omega | (simp <;> omega)) _))) hn).mono ?_
  rintro e w1 ⟨rfl, hb1⟩
  have B1 : Below w.heap.size w w1 := Below.trans (by repeat (first | exact Below.refl _ _ | assumption | refine Below.drew ?_ | refine bdrewN ?_ _ | refine Below.setCell ?_ (by first | omega | (simp <;> omega)) _ | refine Below.alloc ?_ (by first | omega | (simp <;> omega)) _)) (hb1.mono (by simp; omega))
  have z1 : w.heap.size + 1 + 1 ≤ w1.heap.size := by have := hb1.size; simpa using this
  have l0 : w.heap.size < w1.heap.size := by omega
  have l1 : w.heap.size + 1 < w1.heap.size := by omega
  have m1 : w1.cell? ⟨w.heap.size, 1, none⟩ = some (.slice a' m c') := by rw [hb1.cell (by simp <;> omega)]; simp [go_sem]
  have n1 : w1.cell? ⟨w.heap.size + 1, 1, none⟩ = some (.slice b' m d') := by rw [hb1.cell (by simp <;> omega)]; simp [go_sem]
  have HBB := Lib.hid B1
  clear hb1 B1
  go_wp2_with (fail)
  refine (equalF_any a' b' m c' d' F _ (HA'.out.kept HBB.out) (HB'.out.kept HBB.out) hm).mono ?_
  rintro e w2 ⟨rfl, hb2⟩
  have R := Lib.hid (HBB.out.trans (hb2.mono HBB.out.size))
  clear hb2
  go_wp2
  go_ret
  exact ⟨rfl, R.out⟩
/-! The errors, and the movers. -/
theorem fault_ok {nv nf : Nat} {V F : Nat → V3} (h : fault nv V nf F = 0) : nf ≠ 0 ∧ ¬ (1000 < nv ∨ 1000 < nf) ∧ first (vErr V) nv = 0 ∧ first (fErr nv V F) nf = 0 := by
  have h1 : nf ≠ 0 := by
    intro e; simp [fault, e] at h
  have h2 : ¬ (1000 < nv ∨ 1000 < nf) := by
    intro e; rw [fault, if_neg h1, if_pos e] at h; omega
  have h3 : first (vErr V) nv = 0 := by
    refine Decidable.byContradiction fun e => ?_
    rw [fault, if_neg h1, if_neg h2, if_pos e] at h; exact e h
  have h4 : first (fErr nv V F) nf = 0 := by
    refine Decidable.byContradiction fun e => ?_
    rw [fault, if_neg h1, if_neg h2, if_neg (by simp [h3]), if_pos e] at h; exact e h
  exact ⟨h1, h2, h3, h4⟩
theorem fault_pos {nv nf : Nat} {V F : Nat → V3} (h : fault nv V nf F = 0) : 0 < nv := by
  obtain ⟨h1, _, _, h4⟩ := fault_ok h
  have := first_none h4 0 (by omega)
  unfold fErr at this
  split at this
  · rename_i h5
    simp [fIx, inB] at h5
    omega
  · omega
theorem vOk_iff {v : V3} : vOk v = true ↔ (-100000 ≤ v.x ∧ v.x ≤ 100000) ∧ (-100000 ≤ v.y ∧ v.y ≤ 100000) ∧ (-100000 ≤ v.z ∧ v.z ≤ 100000) := by simp [vOk, inB]
end Go.Proofs.Ytpgpjoghfpfhlaa

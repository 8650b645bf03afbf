/- SameMesh of equal meshes; the three movers, whole. -/
import Derived.Test.YtbkipjceglpmcaaTm
import Derived.Test.YtbkipjceglpmcaaTr
import Derived.Test.YtbkipjceglpmcaaSm
set_option linter.unusedSimpArgs false
set_option linter.unusedVariables false
namespace Go.Proofs.Ytbkipjceglpmcaa
open Go.RowKit

theorem tEq_self (x y z : Int) : tEq x y z x y z = true := by simp [tEq]
theorem short_bd (n : Int) : -300000 ≤ short n ∧ short n ≤ 300000 := by unfold short; omega
theorem or3_any (g : Nat) (a b c : Int) (w : World) (hg : w.heap.size = g) : Calls Try.prog 12 #[.slice (some ⟨g, 0, none⟩) 3 3] (w.alloc (.cells #[.int .i64 a, .int .i64 b, .int .i64 c] 34)) fun e w' => e = .returned (.int .i64 (orE a (orE b c))) ∧ w.alloc (.cells #[.int .i64 a, .int .i64 b, .int .i64 c] 34) = w' := by
  subst hg
  by_cases ha : a = 0
  · subst ha
    by_cases hb : b = 0
    · subst hb
      by_cases hc : c = 0
      · subst hc
        go_enter Try.func12, Try.ntmps12
        go_wp2
        refine wp_loop_rounds 4 ?_
        rw [rounds_succ]; go_wp2
        rw [rounds_succ]; go_wp2
        rw [rounds_succ]; go_wp2
        rw [rounds_succ]; go_wp2
        go_ret
        exact ⟨rfl, rfl⟩
      · have e1 : (c != 0) = true := by simpa using hc
        go_enter Try.func12, Try.ntmps12
        go_wp2
        refine wp_loop_rounds 4 ?_
        rw [rounds_succ]; go_wp2
        rw [rounds_succ]; go_wp2
        rw [rounds_succ]; go_wp2
        go_ret
        exact ⟨rfl, rfl⟩
    · have e1 : (b != 0) = true := by simpa using hb
      have HB := Lib.hid hb
      clear hb
      go_enter Try.func12, Try.ntmps12
      go_wp2
      refine wp_loop_rounds 4 ?_
      rw [rounds_succ]; go_wp2
      rw [rounds_succ]; go_wp2
      go_ret
      exact ⟨ret_int (by simp [orE, HB.out]), rfl⟩
  · have e1 : (a != 0) = true := by simpa using ha
    have HA := Lib.hid ha
    clear ha
    go_enter Try.func12, Try.ntmps12
    go_wp2
    refine wp_loop_rounds 4 ?_
    rw [rounds_succ]; go_wp2
    go_ret
    exact ⟨ret_int (by simp [orE, HA.out]), rfl⟩

theorem neq_vec_self (x y z : Int) (w : World) : (Go.binOp .neq 33 (.agg #[.int .i64 x, .int .i64 y, .int .i64 z]) (.agg #[.int .i64 x, .int .i64 y, .int .i64 z])).run Try.prog w = Result.ok (.bool false) w := by
  rw [neq_vec, tEq_self]; rfl
set_option maxHeartbeats 1000000 in
theorem equalV_any (a b : Option Addr) (n c d : Nat) (V : Nat → V3) (w : World) (ha : Row3 w a n V) (hb : Row3 w b n V) (hn : n ≤ 1000000) :
    Calls Try.prog 61 #[.slice a n c, .slice b n d] w fun e w' => e = .returned (.bool true) ∧ Below w.heap.size w w' := by
  have HA := Lib.hid ha
  have HB := Lib.hid hb
  clear ha hb
  go_enter Try.func61, Try.ntmps61
  go_wp2
  go_loopw [13] (fun i wr => ∃ k : Nat, k ≤ n ∧ i = .int .i64 k ∧ Below w.heap.size w wr) (fun i _ => n - (intOf i).toNat)
  case atStart => exact ⟨0, by omega, rfl, (by repeat (first | exact Below.refl _ _ | assumption | refine Below.drew ?_ | refine bdrewN ?_ _ | refine Below.setCell ?_ (by first | omega | (simp <;> omega)) _ | refine Below.alloc ?_ (by first | omega | (simp <;> omega)) _))⟩
  case round =>
    obtain ⟨k, hk, rfl, hbel⟩ := hrel
    have hsz := hbel.size
    by_cases hlt : k < n
    · rcases HA.out with h | ⟨ba, oa, rfl, hba, ca⟩
      · omega
      rcases HB.out with h | ⟨bb, ob, rfl, hbb, cb⟩
      · omega
      obtain ⟨c0, c1, c2⟩ := (ca.kept hbel hba) k hlt
      obtain ⟨d0, d1, d2⟩ := (cb.kept hbel hbb) k hlt
      have l1 : ba < wr.heap.size := by omega
      have l2 : bb < wr.heap.size := by omega
      have hE := fun wx => neq_vec_self (V k).x (V k).y (V k).z wx
      have hG := gd_vec
      have hi0 : (0 : Int) ≤ (k : Int) := by omega
      have hi1 : (k : Int) < (n : Int) := by omega
      clear ca cb
      have HBL := Lib.hid hbel
      clear hbel
      go_wp2
      go_quiet (fail)
      go_wp2
      go_roundw
      case rel => exact ⟨k + 1, by omega, by go_num, bdrewN HBL.out _⟩
      case measure => simp [intOf]; omega
    · obtain rfl : n = k := by omega
      go_wp2
      go_ret
      exact ⟨rfl, hbel⟩

theorem neq_face_self (x y z : Int) (w : World) : (Go.binOp .neq 67 (.agg #[.int .i64 x, .int .i64 y, .int .i64 z]) (.agg #[.int .i64 x, .int .i64 y, .int .i64 z])).run Try.prog w = Result.ok (.bool false) w := by
  rw [neq_face, tEq_self]; rfl
set_option maxHeartbeats 1000000 in
theorem equalF_any (a b : Option Addr) (n c d : Nat) (V : Nat → V3) (w : World) (ha : Row3 w a n V) (hb : Row3 w b n V) (hn : n ≤ 1000000) :
    Calls Try.prog 62 #[.slice a n c, .slice b n d] w fun e w' => e = .returned (.bool true) ∧ Below w.heap.size w w' := by
  have HA := Lib.hid ha
  have HB := Lib.hid hb
  clear ha hb
  go_enter Try.func62, Try.ntmps62
  go_wp2
  go_loopw [13] (fun i wr => ∃ k : Nat, k ≤ n ∧ i = .int .i64 k ∧ Below w.heap.size w wr) (fun i _ => n - (intOf i).toNat)
  case atStart => exact ⟨0, by omega, rfl, (by repeat (first | exact Below.refl _ _ | assumption | refine Below.drew ?_ | refine bdrewN ?_ _ | refine Below.setCell ?_ (by first | omega | (simp <;> omega)) _ | refine Below.alloc ?_ (by first | omega | (simp <;> omega)) _))⟩
  case round =>
    obtain ⟨k, hk, rfl, hbel⟩ := hrel
    have hsz := hbel.size
    by_cases hlt : k < n
    · rcases HA.out with h | ⟨ba, oa, rfl, hba, ca⟩
      · omega
      rcases HB.out with h | ⟨bb, ob, rfl, hbb, cb⟩
      · omega
      obtain ⟨c0, c1, c2⟩ := (ca.kept hbel hba) k hlt
      obtain ⟨d0, d1, d2⟩ := (cb.kept hbel hbb) k hlt
      have l1 : ba < wr.heap.size := by omega
      have l2 : bb < wr.heap.size := by omega
      have hE := fun wx => neq_face_self (V k).x (V k).y (V k).z wx
      have hG := gd_face
      have hi0 : (0 : Int) ≤ (k : Int) := by omega
      have hi1 : (k : Int) < (n : Int) := by omega
      clear ca cb
      have HBL := Lib.hid hbel
      clear hbel
      go_wp2
      go_quiet (fail)
      go_wp2
      go_roundw
      case rel => exact ⟨k + 1, by omega, by go_num, bdrewN HBL.out _⟩
      case measure => simp [intOf]; omega
    · obtain rfl : n = k := by omega
      go_wp2
      go_ret
      exact ⟨rfl, hbel⟩

/-- Two meshes with the same triples are the same. -/
theorem sameMesh_any (a b a' b' : Option Addr) (n c d m c' d' : Nat) (V F : Nat → V3) (w : World) (ha : Row3 w a n V) (hb : Row3 w b n V) (ha' : Row3 w a' m F) (hb' : Row3 w b' m F) (hn : n ≤ 1000000) (hm : m ≤ 1000000) :
    Calls Try.prog 18 #[.agg #[.slice a n c, .slice a' m c'], .agg #[.slice b n d, .slice b' m d']] w fun e w' => e = .returned (.bool true) ∧ Below w.heap.size w w' := by
  have HA := Lib.hid ha
  have HB := Lib.hid hb
  have HA' := Lib.hid ha'
  have HB' := Lib.hid hb'
  clear ha hb ha' hb'
  go_enter Try.func18, Try.ntmps18
  go_wp2_with (fail)
  refine (equalV_any a b n c d V _ (HA.out.kept (by repeat (first | exact Below.refl _ _ | assumption | refine Below.drew ?_ | refine bdrewN ?_ _ | refine Below.setCell ?_ (by first | omega | (simp <;> omega)) _ | refine Below.alloc ?_ (by first | omega | (simp <;> omega)) _))) (HB.out.kept (by repeat (first | exact Below.refl _ _ | assumption | refine Below.drew ?_ | refine bdrewN ?_ _ | refine Below.setCell ?_ (by first | omega | (simp <;> omega)) _ | refine Below.alloc ?_ (by first | omega | (simp <;> omega)) _))) hn).mono ?_
  rintro e w1 ⟨rfl, hb1⟩
  have B1 : Below w.heap.size w w1 := Below.trans (by repeat (first | exact Below.refl _ _ | assumption | refine Below.drew ?_ | refine bdrewN ?_ _ | refine Below.setCell ?_ (by first | omega | (simp <;> omega)) _ | refine Below.alloc ?_ (by first | omega | (simp <;> omega)) _)) (hb1.mono (by simp; omega))
  have z1 : w.heap.size + 1 + 1 ≤ w1.heap.size := by have := hb1.size; simpa using this
  have l0 : w.heap.size < w1.heap.size := by omega
  have l1 : w.heap.size + 1 < w1.heap.size := by omega
  have m1 : w1.cell? ⟨w.heap.size, 1, none⟩ = some (.slice a' m c') := by rw [hb1.cell (by simp <;> omega)]; simp [go_sem]
  have n1 : w1.cell? ⟨w.heap.size + 1, 1, none⟩ = some (.slice b' m d') := by rw [hb1.cell (by simp <;> omega)]; simp [go_sem]
  have HBB := Lib.hid B1
  clear hb1 B1
  go_wp2_with (fail)
  refine (equalF_any a' b' m c' d' F _ (HA'.out.kept HBB.out) (HB'.out.kept HBB.out) hm).mono ?_
  rintro e w2 ⟨rfl, hb2⟩
  have R := Lib.hid (HBB.out.trans (hb2.mono HBB.out.size))
  clear hb2
  go_wp2
  go_ret
  exact ⟨rfl, R.out⟩

/-! The errors, and the movers. -/
def turnedE (f a q fb : Int) : Int := orE f (orE (axisE a) (orE (spanE q 0 3) fb))
theorem turned_any (av af : Option Addr) (nv cv nf cf : Nat) (V F : Nat → V3) (a q : Int) (w : World) (hv : Row3 w av nv V) (hf : Row3 w af nf F) (hnv : nv ≤ 1000000) (hnf : nf ≤ 1000000) :
    Calls Try.prog 9 #[.agg #[.slice av nv cv, .slice af nf cf], .int .i64 a, .int .i64 q] w (MeshR w (turnedE (fault nv V nf F) a q (fault nv (fun i => qn a q.toNat (V i)) nf F)) nv (fun i => qn a q.toNat (V i)) nf F) := by
  by_cases h0 : fault nv V nf F = 0
  · by_cases ha : 0 ≤ a ∧ a ≤ 2
    · have hE : ∀ x, turnedE (fault nv V nf F) a q x = orE (spanE q 0 3) x := fun x => by simp [turnedE, orE, h0, axisE, ha]
      rw [hE]
      rcases hq : inB q 0 3 with _ | _
      · have e : ∀ x, orE (spanE q 0 3) x = 1 := fun x => by simp [spanE, orE, hq]
        rw [e]
        rcases (show a = 0 ∨ a = 1 ∨ a = 2 by omega) with rfl | rfl | rfl
        · exact turned_q0 av af nv cv nf cf V F q w hv hf hnv hnf h0 hq _ _
        · exact turned_q1 av af nv cv nf cf V F q w hv hf hnv hnf h0 hq _ _
        · exact turned_q2 av af nv cv nf cf V F q w hv hf hnv hnf h0 hq _ _
      · have e : ∀ x, orE (spanE q 0 3) x = x := fun x => by simp [spanE, orE, hq]
        rw [e]
        simp [inB] at hq
        obtain ⟨n, rfl⟩ := Int.eq_ofNat_of_zero_le hq.1
        rcases (show a = 0 ∨ a = 1 ∨ a = 2 by omega) with rfl | rfl | rfl
        · exact turned_0 av af nv cv nf cf V F n w hv hf hnv hnf h0 (by omega)
        · exact turned_1 av af nv cv nf cf V F n w hv hf hnv hnf h0 (by omega)
        · exact turned_2 av af nv cv nf cf V F n w hv hf hnv hnf h0 (by omega)
    · have hE : ∀ x, turnedE (fault nv V nf F) a q x = 4 := fun x => by simp [turnedE, orE, h0, axisE, ha]
      rw [hE]
      exact turned_x av af nv cv nf cf V F a q w hv hf hnv hnf h0 ha _ _
  · have hE : ∀ x, turnedE (fault nv V nf F) a q x = fault nv V nf F := fun x => by simp [turnedE, orE, h0]
    rw [hE]
    exact turned_f av af nv cv nf cf V F a q w hv hf hnv hnf h0 _ _
def mirE (f a fb : Int) : Int := orE f (orE (axisE a) fb)
theorem mir_any (av af : Option Addr) (nv cv nf cf : Nat) (V F : Nat → V3) (a : Int) (w : World) (hv : Row3 w av nv V) (hf : Row3 w af nf F) (hnv : nv ≤ 1000000) (hnf : nf ≤ 1000000) :
    Calls Try.prog 11 #[.agg #[.slice av nv cv, .slice af nf cf], .int .i64 a] w (MeshR w (mirE (fault nv V nf F) a (fault nv (fun i => mv a (V i)) nf (fun i => sw (F i)))) nv (fun i => mv a (V i)) nf (fun i => sw (F i))) := by
  by_cases h0 : fault nv V nf F = 0
  · by_cases ha : 0 ≤ a ∧ a ≤ 2
    · have hE : ∀ x, mirE (fault nv V nf F) a x = x := fun x => by simp [mirE, orE, h0, axisE, ha]
      rw [hE]
      rcases (show a = 0 ∨ a = 1 ∨ a = 2 by omega) with rfl | rfl | rfl
      · exact mir_0 av af nv cv nf cf V F w hv hf hnv hnf h0
      · exact mir_1 av af nv cv nf cf V F w hv hf hnv hnf h0
      · exact mir_2 av af nv cv nf cf V F w hv hf hnv hnf h0
    · have hE : ∀ x, mirE (fault nv V nf F) a x = 4 := fun x => by simp [mirE, orE, h0, axisE, ha]
      rw [hE]
      exact mir_x av af nv cv nf cf V F a w hv hf hnv hnf h0 ha _ _
  · have hE : ∀ x, mirE (fault nv V nf F) a x = fault nv V nf F := fun x => by simp [mirE, orE, h0]
    rw [hE]
    exact mir_f av af nv cv nf cf V F a w hv hf hnv hnf h0 _ _
/-- Where a mesh is that is moved. -/
def movV (V : Nat → V3) (p q r : Int) (i : Nat) : V3 := addv ⟨short p, short q, short r⟩ (V i)
theorem moved_any (av af : Option Addr) (nv cv nf cf : Nat) (V F : Nat → V3) (p q r : Int) (w : World) (hv : Row3 w av nv V) (hf : Row3 w af nf F) (hnv : nv ≤ 1000000) (hnf : nf ≤ 1000000) :
    Calls Try.prog 10 #[.agg #[.slice av nv cv, .slice af nf cf], .agg #[.int .i64 p, .int .i64 q, .int .i64 r]] w (MeshR w (orE (fault nv V nf F) (fault nv (movV V p q r) nf F)) nv (movV V p q r) nf F) := by
  by_cases h0 : fault nv V nf F = 0
  · rw [show orE (fault nv V nf F) (fault nv (movV V p q r) nf F) = fault nv (movV V p q r) nf F by simp [orE, h0]]
    exact moved_ok av af nv cv nf cf V F p q r w hv hf hnv hnf h0
  · rw [show orE (fault nv V nf F) (fault nv (movV V p q r) nf F) = fault nv V nf F by simp [orE, h0]]
    exact moved_f av af nv cv nf cf V F p q r w hv hf hnv hnf h0 _ _
theorem fault_ok {nv nf : Nat} {V F : Nat → V3} (h : fault nv V nf F = 0) : nf ≠ 0 ∧ ¬ (1000 < nv ∨ 1000 < nf) ∧ first (vErr V) nv = 0 ∧ first (fErr nv V F) nf = 0 := by
  have h1 : nf ≠ 0 := by
    intro e; simp [fault, e] at h
  have h2 : ¬ (1000 < nv ∨ 1000 < nf) := by
    intro e; rw [fault, if_neg h1, if_pos e] at h; omega
  have h3 : first (vErr V) nv = 0 := by
    refine Decidable.byContradiction fun e => ?_
    rw [fault, if_neg h1, if_neg h2, if_pos e] at h; exact e h
  have h4 : first (fErr nv V F) nf = 0 := by
    refine Decidable.byContradiction fun e => ?_
    rw [fault, if_neg h1, if_neg h2, if_neg (by simp [h3]), if_pos e] at h; exact e h
  exact ⟨h1, h2, h3, h4⟩
theorem fault_pos {nv nf : Nat} {V F : Nat → V3} (h : fault nv V nf F = 0) : 0 < nv := by
  obtain ⟨h1, _, _, h4⟩ := fault_ok h
  have := first_none h4 0 (by omega)
  unfold fErr at this
  split at this
  · rename_i h5
    simp [fIx, inB] at h5
    omega
  · omega
theorem vErr_01 (V : Nat → V3) (i : Nat) : vErr V i = 0 ∨ vErr V i = 1 := by unfold vErr; split <;> simp
theorem vOk_iff {v : V3} : vOk v = true ↔ (-100000 ≤ v.x ∧ v.x ≤ 100000) ∧ (-100000 ≤ v.y ∧ v.y ≤ 100000) ∧ (-100000 ≤ v.z ∧ v.z ≤ 100000) := by simp [vOk, inB]
/-- What is moved far is out of range. -/
theorem fault_far {nv nf : Nat} {V F : Nat → V3} {p q r : Int} (h : fault nv V nf F = 0) (hb : inB p (-300000) 300000 = false ∨ inB q (-300000) 300000 = false ∨ inB r (-300000) 300000 = false) : fault nv (movV V p q r) nf F = 1 := by
  obtain ⟨h1, h2, h3, _⟩ := fault_ok h
  have hp := fault_pos h
  have hv := first_none h3 0 hp
  have hv2 : vOk (V 0) = true := by
    unfold vErr at hv
    split at hv
    · assumption
    · omega
  simp only [vOk, inB, Bool.and_eq_true, decide_eq_true_eq] at hv2
  obtain ⟨⟨x0, x1⟩, ⟨y0, y1⟩, z0, z1⟩ := hv2
  have w0 : ∀ n : Int, -9223372036854775808 ≤ n → n ≤ 9223372036854775807 → wrap64 n = n := fun n a b => by unfold wrap64; omega
  have e1 : vErr (movV V p q r) 0 = 1 := by
    refine vErr_no ?_
    have sp := short_bd p
    have sq := short_bd q
    have sr := short_bd r
    rcases hk : vOk (movV V p q r 0) with _ | _
    · rfl
    exfalso
    rw [vOk_iff] at hk
    simp only [movV, addv] at hk
    rw [w0 ((V 0).x + short p) (by omega) (by omega), w0 ((V 0).y + short q) (by omega) (by omega), w0 ((V 0).z + short r) (by omega) (by omega)] at hk
    rcases hb with hb | hb | hb
    · simp only [inB, decide_eq_false_iff_not] at hb
      rcases short_far hb with e | e <;> rw [e] at hk <;> omega
    · simp only [inB, decide_eq_false_iff_not] at hb
      rcases short_far hb with e | e <;> rw [e] at hk <;> omega
    · simp only [inB, decide_eq_false_iff_not] at hb
      rcases short_far hb with e | e <;> rw [e] at hk <;> omega
  have e2 : first (vErr (movV V p q r)) nv = 1 := by rw [first_hit hp (fun j hj => by omega) (by omega), e1]
  rw [fault, if_neg h1, if_neg h2, if_pos (by omega), e2]
theorem movedM_any (av af : Option Addr) (nv cv nf cf : Nat) (V F : Nat → V3) (p q r : Int) (w : World) (hv : Row3 w av nv V) (hf : Row3 w af nf F) (hnv : nv ≤ 1000000) (hnf : nf ≤ 1000000) (h0 : fault nv V nf F = 0) :
    Calls Try.prog 16 #[.agg #[.slice av nv cv, .slice af nf cf], .agg #[.int .i64 p, .int .i64 q, .int .i64 r]] w (MeshR w (fault nv (movV V p q r) nf F) nv (movV V p q r) nf F) := by
  have hp : decide (0 < nv) = true := by simpa using fault_pos h0
  rcases hx : inB p (-300000) 300000 with _ | _
  · rw [fault_far h0 (.inl hx)]
    exact movedM_1 av af nv cv nf cf V F p q r w hx hp _ _
  rcases hy : inB q (-300000) 300000 with _ | _
  · rw [fault_far h0 (.inr (.inl hy))]
    exact movedM_2 av af nv cv nf cf V F p q r w hx hy hp _ _
  rcases hz : inB r (-300000) 300000 with _ | _
  · rw [fault_far h0 (.inr (.inr hz))]
    exact movedM_3 av af nv cv nf cf V F p q r w hx hy hz hp _ _
  have e : movV V p q r = fun i => addv ⟨p, q, r⟩ (V i) := by
    funext i
    simp only [inB, decide_eq_true_eq] at hx hy hz
    simp only [movV, short_in hx, short_in hy, short_in hz]
  rw [e]
  exact movedM_ok av af nv cv nf cf V F p q r w hv hf hnv hnf hx hy hz
end Go.Proofs.Ytbkipjceglpmcaa

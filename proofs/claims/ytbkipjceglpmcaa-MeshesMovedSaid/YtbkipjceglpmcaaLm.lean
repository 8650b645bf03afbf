/- The law MeshesMoved. -/
import Derived.Test.YtbkipjceglpmcaaSa
import Derived.Test.YtbkipjceglpmcaaRx
set_option linter.unusedSimpArgs false
set_option linter.unusedVariables false
namespace Go.Proofs.Ytbkipjceglpmcaa
open Go.RowKit

theorem turnedM_any (av af : Option Addr) (nv cv nf cf : Nat) (V F : Nat → V3) (a q : Int) (w : World) (hv : Row3 w av nv V) (hf : Row3 w af nf F) (hnv : nv ≤ 1000000) (hnf : nf ≤ 1000000) (hq : 0 ≤ q ∧ q ≤ 3) :
    Calls Try.prog 15 #[.agg #[.slice av nv cv, .slice af nf cf], .int .i64 a, .int .i64 q] w (MeshR w (fault nv (fun i => qn a q.toNat (V i)) nf F) nv (fun i => qn a q.toNat (V i)) nf F) := by
  obtain ⟨n, rfl⟩ := Int.eq_ofNat_of_zero_le hq.1
  exact turnedM av af nv cv nf cf V F a n w hv hf hnv hnf (by omega)
theorem one_zero {f a q fb : Int} (h : orE f (orE (axisE a) (spanE q 0 3)) = 0) : turnedE f a q fb = fb ∧ 0 ≤ q ∧ q ≤ 3 := by
  unfold orE at h
  split at h
  · split at h
    · refine ⟨by simp [turnedE, orE, *], ?_⟩
      unfold spanE at h
      split at h
      · rename_i hq; simpa [inB] using hq
      · omega
    · contradiction
  · contradiction
theorem one_not {f a q fb : Int} (h : orE f (orE (axisE a) (spanE q 0 3)) ≠ 0) : turnedE f a q fb = orE f (orE (axisE a) (spanE q 0 3)) := by
  unfold turnedE orE at *
  by_cases h1 : f = 0 <;> by_cases h2 : axisE a = 0 <;> by_cases h3 : spanE q 0 3 = 0 <;> simp_all
theorem three_zero {f a fb : Int} (h : orE f (axisE a) = 0) : mirE f a fb = fb := by
  unfold mirE orE at *
  by_cases h1 : f = 0 <;> by_cases h2 : axisE a = 0 <;> simp_all
theorem three_not {f a fb : Int} (h : orE f (axisE a) ≠ 0) : mirE f a fb = orE f (axisE a) := by
  unfold mirE orE at *
  by_cases h1 : f = 0 <;> by_cases h2 : axisE a = 0 <;> simp_all
theorem pick_lit (B k : Nat) (l : List Int) (n : Nat) (P : Int → Prop) (w : World) (g : Nat) (hg : w.heap.size = g) (arr : Array Value) (harr : arr = (l.map (Value.int .i64)).toArray) (hs : Strm w B k) (hk : k + 1 ≤ 1000000) (hn : l.length = n) (h3 : 1 ≤ n) (h4 : n ≤ 1000000) (hP : ∀ z ∈ l, P z) :
    Calls Try.prog 7 #[.pointer (some ⟨B, 0, none⟩), .slice (some ⟨g, 0, none⟩) n n] (w.alloc (.cells arr 3)) (StrmPost w B k 1 (IntE P)) := by
  subst harr hg
  exact pick_new B k l n P w hs hk hn h3 h4 hP
theorem or3B (g : Nat) (a b c : Int) (w : World) (hg : w.heap.size = g) : Calls Try.prog 12 #[.slice (some ⟨g, 0, none⟩) 3 3] (w.alloc (.cells #[.int .i64 a, .int .i64 b, .int .i64 c] 34)) fun e w' => e = .returned (.int .i64 (orE a (orE b c))) ∧ Below w.heap.size w w' :=
  (or3_any g a b c w hg).mono fun _ _ h => ⟨h.1, h.2 ▸ (Below.refl _ w).alloc (Nat.le_refl _) _⟩
theorem or2B (g : Nat) (a b : Int) (w : World) (hg : w.heap.size = g) : Calls Try.prog 12 #[.slice (some ⟨g, 0, none⟩) 2 2] (w.alloc (.cells #[.int .i64 a, .int .i64 b] 34)) fun e w' => e = .returned (.int .i64 (orE a b)) ∧ Below w.heap.size w w' :=
  (or_any g a b w hg).mono fun _ _ h => ⟨h.1, h.2 ▸ (Below.refl _ w).alloc (Nat.le_refl _) _⟩
theorem turnedM_E (E : Int) (av af : Option Addr) (nv cv nf cf : Nat) (V F : Nat → V3) (a q : Int) (w : World) (hv : Row3 w av nv V) (hf : Row3 w af nf F) (hnv : nv ≤ 1000000) (hnf : nf ≤ 1000000) (hq : 0 ≤ q ∧ q ≤ 3) (hE : E = fault nv (fun i => qn a q.toNat (V i)) nf F) :
    Calls Try.prog 15 #[.agg #[.slice av nv cv, .slice af nf cf], .int .i64 a, .int .i64 q] w (MeshR w E nv (fun i => qn a q.toNat (V i)) nf F) := by
  subst hE; exact turnedM_any av af nv cv nf cf V F a q w hv hf hnv hnf hq
theorem movedM_E (E : Int) (av af : Option Addr) (nv cv nf cf : Nat) (V F : Nat → V3) (p q r : Int) (w : World) (hv : Row3 w av nv V) (hf : Row3 w af nf F) (hnv : nv ≤ 1000000) (hnf : nf ≤ 1000000) (h0 : fault nv V nf F = 0) (hE : E = fault nv (movV V p q r) nf F) :
    Calls Try.prog 16 #[.agg #[.slice av nv cv, .slice af nf cf], .agg #[.int .i64 p, .int .i64 q, .int .i64 r]] w (MeshR w E nv (movV V p q r) nf F) := by
  subst hE; exact movedM_any av af nv cv nf cf V F p q r w hv hf hnv hnf h0
theorem mirM_E (E : Int) (av af : Option Addr) (nv cv nf cf : Nat) (V F : Nat → V3) (a : Int) (w : World) (hv : Row3 w av nv V) (hf : Row3 w af nf F) (hnv : nv ≤ 1000000) (hnf : nf ≤ 1000000) (hE : E = fault nv (fun i => mv a (V i)) nf (fun i => sw (F i))) :
    Calls Try.prog 17 #[.agg #[.slice av nv cv, .slice af nf cf], .int .i64 a] w (MeshR w E nv (fun i => mv a (V i)) nf (fun i => sw (F i))) := by
  subst hE; exact mirM av af nv cv nf cf V F a w hv hf hnv hnf
theorem zr_not {E : Int} (h : E ≠ 0) (n : Nat) : zr E n = 0 := by simp [zr, h]

set_option maxRecDepth 100000 in
set_option maxHeartbeats 16000000 in
theorem meshesMoved_walk (a0 : Option Addr) (len0 cap0 : Nat) (z0 : List Int) (w : World) (w0 : IsRow .i64 w a0 len0 cap0 z0) :
    Calls Try.prog 3 #[.slice a0 len0 cap0] w fun e w' => e = .returned (.bool true) ∧ Below w.heap.size w w' := by
  have HS0 := Lib.hid (Strm.start w0)
  go_enter Try.func3, Try.ntmps3
  go_wp2_with (fail)
  refine (amesh_any w.heap.size 0 _ HS0.out (by omega)).mono ?_
  rintro e w1 ⟨av, cv, af, cf, nv, nf, V, F, rfl, rv, rf, hnv, hnf, hst, hmt⟩
  have hs1 := hmt.size
  simp at hs1
  have HV := Lib.hid rv
  have HF := Lib.hid rf
  have HT := Lib.hid hst
  have M1 : Mut (· = w.heap.size) w w1 := ((Mut.refl _ w).alloc _).trans hmt
  have HM := Lib.hid M1
  clear rv rf hst hmt M1 HS0
  go_wp2_with (fail)
  refine (pick_lit w.heap.size 100 [0, 1, 2, -1, 3] 5 (fun _ => True) _ _ (by simp) _ (by simp) HT.out (by omega) rfl (by omega) (by omega) (fun _ _ => trivial)).mono ?_
  rintro e w2 ⟨⟨a, rfl, h_a⟩, hst, hmt⟩
  have hs2 := hmt.size
  replace HT := Lib.hid hst
  replace HM := Lib.hid (HM.out.trans hmt)
  replace HV := Lib.hid (HV.out.mut hmt (by first | omega | (simp; omega)))
  replace HF := Lib.hid (HF.out.mut hmt (by first | omega | (simp; omega)))
  clear hst hmt
  go_wp2_with (fail)
  refine (pick_lit w.heap.size 101 [0, 1, 2, 3, -1, 4] 6 (fun _ => True) _ _ (by simp) _ (by simp) HT.out (by omega) rfl (by omega) (by omega) (fun _ _ => trivial)).mono ?_
  rintro e w3 ⟨⟨q, rfl, h_q⟩, hst, hmt⟩
  have hs3 := hmt.size
  replace HT := Lib.hid hst
  replace HM := Lib.hid (HM.out.trans hmt)
  replace HV := Lib.hid (HV.out.mut hmt (by first | omega | (simp; omega)))
  replace HF := Lib.hid (HF.out.mut hmt (by first | omega | (simp; omega)))
  clear hst hmt
  replace HT := Lib.hid (HT.out.alloc (.cells #[.slice av nv cv, .slice af nf cf] 29))
  replace HM := Lib.hid (HM.out.alloc (.cells #[.slice av nv cv, .slice af nf cf] 29))
  replace HV := Lib.hid (HV.out.mut ((Mut.refl (· = w.heap.size) w3).alloc (.cells #[.slice av nv cv, .slice af nf cf] 29)) (by omega))
  replace HF := Lib.hid (HF.out.mut ((Mut.refl (· = w.heap.size) w3).alloc (.cells #[.slice av nv cv, .slice af nf cf] 29)) (by omega))
  go_wp2_with (fail)
  refine (pick_lit w.heap.size 102 [0, 5, -70, 100000] 4 (fun _ => True) (w3.alloc (.cells #[.slice av nv cv, .slice af nf cf] 29)) _ (by simp) _ (by simp) HT.out (by omega) rfl (by omega) (by omega) (fun _ _ => trivial)).mono ?_
  rintro e w4 ⟨⟨x, rfl, h_x⟩, hst, hmt⟩
  have hs4 := hmt.size
  simp at hs4
  have m0 : w4.cell? ⟨w3.heap.size, 0, none⟩ = some (.slice av nv cv) := by rw [hmt.cell (p := ⟨w3.heap.size, 0, none⟩) (by simp) (by show ¬ w3.heap.size = w.heap.size; omega)]; simp [go_sem]
  have m1 : w4.cell? ⟨w3.heap.size, 1, none⟩ = some (.slice af nf cf) := by rw [hmt.cell (p := ⟨w3.heap.size, 1, none⟩) (by simp) (by show ¬ w3.heap.size = w.heap.size; omega)]; simp [go_sem]
  replace HT := Lib.hid hst
  replace HM := Lib.hid (HM.out.trans hmt)
  replace HV := Lib.hid (HV.out.mut hmt (by first | omega | (simp; omega)))
  replace HF := Lib.hid (HF.out.mut hmt (by first | omega | (simp; omega)))
  clear hst hmt
  go_wp2_with (fail)
  refine (pick_lit w.heap.size 103 [0, 9] 2 (fun _ => True) _ _ (by simp) _ (by simp) HT.out (by omega) rfl (by omega) (by omega) (fun _ _ => trivial)).mono ?_
  rintro e w5 ⟨⟨y, rfl, h_y⟩, hst, hmt⟩
  have hs5 := hmt.size
  replace m0 := (hmt.cell (p := ⟨w3.heap.size, 0, none⟩) (by show w3.heap.size < _; omega) (by show ¬ w3.heap.size = w.heap.size; omega)).trans m0
  replace m1 := (hmt.cell (p := ⟨w3.heap.size, 1, none⟩) (by show w3.heap.size < _; omega) (by show ¬ w3.heap.size = w.heap.size; omega)).trans m1
  replace HT := Lib.hid hst
  replace HM := Lib.hid (HM.out.trans hmt)
  replace HV := Lib.hid (HV.out.mut hmt (by first | omega | (simp; omega)))
  replace HF := Lib.hid (HF.out.mut hmt (by first | omega | (simp; omega)))
  clear hst hmt
  go_wp2_with (fail)
  refine (pick_lit w.heap.size 104 [0, -3, 4611686018427387904, -9223372036854775808] 4 (fun _ => True) _ _ (by simp) _ (by simp) HT.out (by omega) rfl (by omega) (by omega) (fun _ _ => trivial)).mono ?_
  rintro e w6 ⟨⟨z, rfl, h_z⟩, hst, hmt⟩
  have hs6 := hmt.size
  replace m0 := (hmt.cell (p := ⟨w3.heap.size, 0, none⟩) (by show w3.heap.size < _; omega) (by show ¬ w3.heap.size = w.heap.size; omega)).trans m0
  replace m1 := (hmt.cell (p := ⟨w3.heap.size, 1, none⟩) (by show w3.heap.size < _; omega) (by show ¬ w3.heap.size = w.heap.size; omega)).trans m1
  replace HT := Lib.hid hst
  replace HM := Lib.hid (HM.out.trans hmt)
  replace HV := Lib.hid (HV.out.mut hmt (by first | omega | (simp; omega)))
  replace HF := Lib.hid (HF.out.mut hmt (by first | omega | (simp; omega)))
  clear hst hmt
  have l_m : w3.heap.size < w6.heap.size := by omega
  have hw6 : w.heap.size ≤ w6.heap.size := by omega
  replace HV := Lib.hid HV.out.row3
  replace HF := Lib.hid HF.out.row3
  have HB := Lib.hid (Below.refl w6.heap.size w6)
  clear HT hs1 hs2 hs3 hs4 hs5 hs6 h_a h_q h_x h_y h_z
  go_wp2_with (fail)
  refine (meshFault_any av af nv cv nf cf V F _ (HV.out.kept (by repeat (first | exact Below.refl _ _ | assumption | refine Below.drew ?_ | refine bdrewN ?_ _ | refine Below.setCell ?_ (by first | omega | (simp <;> omega)) _ | refine Below.alloc ?_ (by first | omega | (simp <;> omega)) _))) (HF.out.kept (by repeat (first | exact Below.refl _ _ | assumption | refine Below.drew ?_ | refine bdrewN ?_ _ | refine Below.setCell ?_ (by first | omega | (simp <;> omega)) _ | refine Below.alloc ?_ (by first | omega | (simp <;> omega)) _))) (by omega) (by omega)).mono ?_
  rintro e w7 ⟨rfl, hb⟩
  have B7 : Below w6.heap.size w6 w7 := Below.trans (by repeat (first | exact Below.refl _ _ | assumption | refine Below.drew ?_ | refine bdrewN ?_ _ | refine Below.setCell ?_ (by first | omega | (simp <;> omega)) _ | refine Below.alloc ?_ (by first | omega | (simp <;> omega)) _)) (hb.mono (by simp <;> omega))
  replace m0 := cellk B7 l_m m0
  replace m1 := cellk B7 l_m m1
  replace l_m := Nat.lt_of_lt_of_le l_m B7.size
  have b0 : w7.cell? ⟨w6.heap.size, 0, none⟩ = some (.int .i64 x) := by rw [hb.cell (by simp <;> omega)]; simp [go_sem]
  have b1 : w7.cell? ⟨w6.heap.size, 1, none⟩ = some (.int .i64 y) := by rw [hb.cell (by simp <;> omega)]; simp [go_sem]
  have b2 : w7.cell? ⟨w6.heap.size, 2, none⟩ = some (.int .i64 z) := by rw [hb.cell (by simp <;> omega)]; simp [go_sem]
  have l_b : w6.heap.size < w7.heap.size := by have := hb.size; simp at this; omega
  replace HV := Lib.hid (HV.out.kept B7)
  replace HF := Lib.hid (HF.out.kept B7)
  replace HB := Lib.hid (HB.out.trans (B7.mono HB.out.size))
  clear hb B7
  go_wp2_with (fail)
  refine (turned_any av af nv cv nf cf V F a q _ (HV.out.kept (by repeat (first | exact Below.refl _ _ | assumption | refine Below.drew ?_ | refine bdrewN ?_ _ | refine Below.setCell ?_ (by first | omega | (simp <;> omega)) _ | refine Below.alloc ?_ (by first | omega | (simp <;> omega)) _))) (HF.out.kept (by repeat (first | exact Below.refl _ _ | assumption | refine Below.drew ?_ | refine bdrewN ?_ _ | refine Below.setCell ?_ (by first | omega | (simp <;> omega)) _ | refine Below.alloc ?_ (by first | omega | (simp <;> omega)) _))) (by omega) (by omega)).mono ?_
  rintro e w8 ⟨v1, c1, u1, d1, rfl, rv1, rf1, hb⟩
  have B8 : Below w7.heap.size w7 w8 := hb
  replace m0 := cellk B8 l_m m0
  replace m1 := cellk B8 l_m m1
  replace b0 := cellk B8 l_b b0
  replace b1 := cellk B8 l_b b1
  replace b2 := cellk B8 l_b b2
  replace l_m := Nat.lt_of_lt_of_le l_m B8.size
  replace l_b := Nat.lt_of_lt_of_le l_b B8.size
  replace HV := Lib.hid (HV.out.kept B8)
  replace HF := Lib.hid (HF.out.kept B8)
  replace HB := Lib.hid (HB.out.trans (B8.mono HB.out.size))
  have HV1 := Lib.hid rv1
  clear rv1
  have HF1 := Lib.hid rf1
  clear rf1
  clear B8
  have T1z : Hid ((orE (fault nv V nf F) (orE (axisE a) (spanE q 0 3))) = 0 → turnedE (fault nv V nf F) a q (fault nv (fun i => qn a q.toNat (V i)) nf F) = fault nv (fun i => qn a q.toNat (V i)) nf F ∧ 0 ≤ q ∧ q ≤ 3) := Lib.hid one_zero
  have T1n : Hid ((orE (fault nv V nf F) (orE (axisE a) (spanE q 0 3))) ≠ 0 → turnedE (fault nv V nf F) a q (fault nv (fun i => qn a q.toNat (V i)) nf F) = (orE (fault nv V nf F) (orE (axisE a) (spanE q 0 3)))) := Lib.hid one_not
  generalize turnedE (fault nv V nf F) a q (fault nv (fun i => qn a q.toNat (V i)) nf F) = E1 at *
  go_wp2_with (fail)
  refine (moved_any av af nv cv nf cf V F x y z _ (HV.out.kept (by repeat (first | exact Below.refl _ _ | assumption | refine Below.drew ?_ | refine bdrewN ?_ _ | refine Below.setCell ?_ (by first | omega | (simp <;> omega)) _ | refine Below.alloc ?_ (by first | omega | (simp <;> omega)) _))) (HF.out.kept (by repeat (first | exact Below.refl _ _ | assumption | refine Below.drew ?_ | refine bdrewN ?_ _ | refine Below.setCell ?_ (by first | omega | (simp <;> omega)) _ | refine Below.alloc ?_ (by first | omega | (simp <;> omega)) _))) (by omega) (by omega)).mono ?_
  rintro e w9 ⟨v2, c2, u2, d2, rfl, rv2, rf2, hb⟩
  have B9 : Below w8.heap.size w8 w9 := Below.trans (by repeat (first | exact Below.refl _ _ | assumption | refine Below.drew ?_ | refine bdrewN ?_ _ | refine Below.setCell ?_ (by first | omega | (simp <;> omega)) _ | refine Below.alloc ?_ (by first | omega | (simp <;> omega)) _)) (hb.mono (by simp <;> omega))
  replace m0 := cellk B9 l_m m0
  replace m1 := cellk B9 l_m m1
  replace b0 := cellk B9 l_b b0
  replace b1 := cellk B9 l_b b1
  replace b2 := cellk B9 l_b b2
  replace l_m := Nat.lt_of_lt_of_le l_m B9.size
  replace l_b := Nat.lt_of_lt_of_le l_b B9.size
  have ma0 : w9.cell? ⟨w8.heap.size, 0, none⟩ = some (.slice v1 (zr E1 nv) c1) := by rw [hb.cell (by simp <;> omega)]; simp [go_sem]
  have ma1 : w9.cell? ⟨w8.heap.size, 1, none⟩ = some (.slice u1 (zr E1 nf) d1) := by rw [hb.cell (by simp <;> omega)]; simp [go_sem]
  have l_ma : w8.heap.size < w9.heap.size := by have := hb.size; simp at this; omega
  replace HV := Lib.hid (HV.out.kept B9)
  replace HF := Lib.hid (HF.out.kept B9)
  replace HV1 := Lib.hid (HV1.out.kept B9)
  replace HF1 := Lib.hid (HF1.out.kept B9)
  replace HB := Lib.hid (HB.out.trans (B9.mono HB.out.size))
  have HV2 := Lib.hid rv2
  clear rv2
  have HF2 := Lib.hid rf2
  clear rf2
  clear hb B9
  have T2z : Hid ((fault nv V nf F) = 0 → orE (fault nv V nf F) (fault nv (movV V x y z) nf F) = fault nv (movV V x y z) nf F) := Lib.hid (fun h => by simp [orE, h])
  have T2n : Hid ((fault nv V nf F) ≠ 0 → orE (fault nv V nf F) (fault nv (movV V x y z) nf F) = (fault nv V nf F)) := Lib.hid (fun h => by simp [orE, h])
  generalize orE (fault nv V nf F) (fault nv (movV V x y z) nf F) = E2 at *
  go_wp2_with (fail)
  refine (mir_any av af nv cv nf cf V F a _ (HV.out.kept (by repeat (first | exact Below.refl _ _ | assumption | refine Below.drew ?_ | refine bdrewN ?_ _ | refine Below.setCell ?_ (by first | omega | (simp <;> omega)) _ | refine Below.alloc ?_ (by first | omega | (simp <;> omega)) _))) (HF.out.kept (by repeat (first | exact Below.refl _ _ | assumption | refine Below.drew ?_ | refine bdrewN ?_ _ | refine Below.setCell ?_ (by first | omega | (simp <;> omega)) _ | refine Below.alloc ?_ (by first | omega | (simp <;> omega)) _))) (by omega) (by omega)).mono ?_
  rintro e w10 ⟨v3, c3, u3, d3, rfl, rv3, rf3, hb⟩
  have B10 : Below w9.heap.size w9 w10 := Below.trans (by repeat (first | exact Below.refl _ _ | assumption | refine Below.drew ?_ | refine bdrewN ?_ _ | refine Below.setCell ?_ (by first | omega | (simp <;> omega)) _ | refine Below.alloc ?_ (by first | omega | (simp <;> omega)) _)) (hb.mono (by simp <;> omega))
  replace m0 := cellk B10 l_m m0
  replace m1 := cellk B10 l_m m1
  replace b0 := cellk B10 l_b b0
  replace b1 := cellk B10 l_b b1
  replace b2 := cellk B10 l_b b2
  replace ma0 := cellk B10 l_ma ma0
  replace ma1 := cellk B10 l_ma ma1
  replace l_m := Nat.lt_of_lt_of_le l_m B10.size
  replace l_b := Nat.lt_of_lt_of_le l_b B10.size
  replace l_ma := Nat.lt_of_lt_of_le l_ma B10.size
  have mb0 : w10.cell? ⟨w9.heap.size, 0, none⟩ = some (.slice v2 (zr E2 nv) c2) := by rw [hb.cell (by simp <;> omega)]; simp [go_sem]
  have mb1 : w10.cell? ⟨w9.heap.size, 1, none⟩ = some (.slice u2 (zr E2 nf) d2) := by rw [hb.cell (by simp <;> omega)]; simp [go_sem]
  have l_mb : w9.heap.size < w10.heap.size := by have := hb.size; simp at this; omega
  replace HV := Lib.hid (HV.out.kept B10)
  replace HF := Lib.hid (HF.out.kept B10)
  replace HV1 := Lib.hid (HV1.out.kept B10)
  replace HF1 := Lib.hid (HF1.out.kept B10)
  replace HV2 := Lib.hid (HV2.out.kept B10)
  replace HF2 := Lib.hid (HF2.out.kept B10)
  replace HB := Lib.hid (HB.out.trans (B10.mono HB.out.size))
  have HV3 := Lib.hid rv3
  clear rv3
  have HF3 := Lib.hid rf3
  clear rf3
  clear hb B10
  have T3z : Hid ((orE (fault nv V nf F) (axisE a)) = 0 → mirE (fault nv V nf F) a (fault nv (fun i => mv a (V i)) nf (fun i => sw (F i))) = fault nv (fun i => mv a (V i)) nf (fun i => sw (F i))) := Lib.hid three_zero
  have T3n : Hid ((orE (fault nv V nf F) (axisE a)) ≠ 0 → mirE (fault nv V nf F) a (fault nv (fun i => mv a (V i)) nf (fun i => sw (F i))) = (orE (fault nv V nf F) (axisE a))) := Lib.hid three_not
  generalize mirE (fault nv V nf F) a (fault nv (fun i => mv a (V i)) nf (fun i => sw (F i))) = E3 at *
  go_wp2_with (fail)
  go_wp2_with (first | (go_at_call 13; refine (axisFault_any _ _).mono ?_; rintro e w' ⟨rfl, rfl⟩) | (go_at_call 14; refine (spanFault_any _ _ _ _).mono ?_; rintro e w' ⟨rfl, rfl⟩))
  refine (or3B _ (fault nv V nf F) (axisE a) (spanE q 0 3) (w10.alloc (.cells #[.slice v3 (zr E3 nv) c3, .slice u3 (zr E3 nf) d3] 29)) (by simp)).mono ?_
  rintro e w11 ⟨rfl, hb⟩
  have B11 : Below w10.heap.size w10 w11 := Below.trans (by repeat (first | exact Below.refl _ _ | assumption | refine Below.drew ?_ | refine bdrewN ?_ _ | refine Below.setCell ?_ (by first | omega | (simp <;> omega)) _ | refine Below.alloc ?_ (by first | omega | (simp <;> omega)) _)) (hb.mono (by simp <;> omega))
  replace m0 := cellk B11 l_m m0
  replace m1 := cellk B11 l_m m1
  replace b0 := cellk B11 l_b b0
  replace b1 := cellk B11 l_b b1
  replace b2 := cellk B11 l_b b2
  replace ma0 := cellk B11 l_ma ma0
  replace ma1 := cellk B11 l_ma ma1
  replace mb0 := cellk B11 l_mb mb0
  replace mb1 := cellk B11 l_mb mb1
  replace l_m := Nat.lt_of_lt_of_le l_m B11.size
  replace l_b := Nat.lt_of_lt_of_le l_b B11.size
  replace l_ma := Nat.lt_of_lt_of_le l_ma B11.size
  replace l_mb := Nat.lt_of_lt_of_le l_mb B11.size
  have mc0 : w11.cell? ⟨w10.heap.size, 0, none⟩ = some (.slice v3 (zr E3 nv) c3) := by rw [hb.cell (by simp <;> omega)]; simp [go_sem]
  have mc1 : w11.cell? ⟨w10.heap.size, 1, none⟩ = some (.slice u3 (zr E3 nf) d3) := by rw [hb.cell (by simp <;> omega)]; simp [go_sem]
  have l_mc : w10.heap.size < w11.heap.size := by have := hb.size; simp at this; omega
  replace HV := Lib.hid (HV.out.kept B11)
  replace HF := Lib.hid (HF.out.kept B11)
  replace HV1 := Lib.hid (HV1.out.kept B11)
  replace HF1 := Lib.hid (HF1.out.kept B11)
  replace HV2 := Lib.hid (HV2.out.kept B11)
  replace HF2 := Lib.hid (HF2.out.kept B11)
  replace HV3 := Lib.hid (HV3.out.kept B11)
  replace HF3 := Lib.hid (HF3.out.kept B11)
  replace HB := Lib.hid (HB.out.trans (B11.mono HB.out.size))
  clear hb B11
  go_wp2_with (fail)
  go_wp2_with (first | (go_at_call 13; refine (axisFault_any _ _).mono ?_; rintro e w' ⟨rfl, rfl⟩) | (go_at_call 14; refine (spanFault_any _ _ _ _).mono ?_; rintro e w' ⟨rfl, rfl⟩))
  refine (or2B _ (fault nv V nf F) (axisE a) w11 rfl).mono ?_
  rintro e w12 ⟨rfl, hb⟩
  have B12 : Below w11.heap.size w11 w12 := hb
  replace m0 := cellk B12 l_m m0
  replace m1 := cellk B12 l_m m1
  replace b0 := cellk B12 l_b b0
  replace b1 := cellk B12 l_b b1
  replace b2 := cellk B12 l_b b2
  replace ma0 := cellk B12 l_ma ma0
  replace ma1 := cellk B12 l_ma ma1
  replace mb0 := cellk B12 l_mb mb0
  replace mb1 := cellk B12 l_mb mb1
  replace mc0 := cellk B12 l_mc mc0
  replace mc1 := cellk B12 l_mc mc1
  replace l_m := Nat.lt_of_lt_of_le l_m B12.size
  replace l_b := Nat.lt_of_lt_of_le l_b B12.size
  replace l_ma := Nat.lt_of_lt_of_le l_ma B12.size
  replace l_mb := Nat.lt_of_lt_of_le l_mb B12.size
  replace l_mc := Nat.lt_of_lt_of_le l_mc B12.size
  replace HV := Lib.hid (HV.out.kept B12)
  replace HF := Lib.hid (HF.out.kept B12)
  replace HV1 := Lib.hid (HV1.out.kept B12)
  replace HF1 := Lib.hid (HF1.out.kept B12)
  replace HV2 := Lib.hid (HV2.out.kept B12)
  replace HF2 := Lib.hid (HF2.out.kept B12)
  replace HV3 := Lib.hid (HV3.out.kept B12)
  replace HF3 := Lib.hid (HF3.out.kept B12)
  replace HB := Lib.hid (HB.out.trans (B12.mono HB.out.size))
  clear B12
  generalize (orE (fault nv V nf F) (orE (axisE a) (spanE q 0 3))) = O1 at *
  generalize (orE (fault nv V nf F) (axisE a)) = O3 at *
  generalize hf0 : (fault nv V nf F) = f0 at *
  have HF0 := Lib.hid hf0
  clear hf0
  have p_m : w3.heap.size < w12.heap.size := l_m
  have p_b : w6.heap.size < w12.heap.size := l_b
  have p_ma : w8.heap.size < w12.heap.size := l_ma
  have p_mb : w9.heap.size < w12.heap.size := l_mb
  have p_mc : w10.heap.size < w12.heap.size := l_mc
  have p_B := HB.out.size
  have HP := Lib.hid (Below.refl w12.heap.size w12)
  by_cases h1 : O1 = 0
  · skip
    by_cases h2 : f0 = 0
    · skip
      by_cases h3 : O3 = 0
      · skip
        subst h1
        have Q1 := Lib.hid (T1z.out (by trivial)).2
        have R1 := Lib.hid (T1z.out (by trivial)).1
        have x_m1 : w3.heap.size < w12.heap.size + 1 := by omega
        have x_m2 : w3.heap.size < w12.heap.size + 1 + 1 := by omega
        have x_b1 : w6.heap.size < w12.heap.size + 1 := by omega
        have x_b2 : w6.heap.size < w12.heap.size + 1 + 1 := by omega
        have x_ma1 : w8.heap.size < w12.heap.size + 1 := by omega
        have x_ma2 : w8.heap.size < w12.heap.size + 1 + 1 := by omega
        have x_mb1 : w9.heap.size < w12.heap.size + 1 := by omega
        have x_mb2 : w9.heap.size < w12.heap.size + 1 + 1 := by omega
        have x_mc1 : w10.heap.size < w12.heap.size + 1 := by omega
        have x_mc2 : w10.heap.size < w12.heap.size + 1 + 1 := by omega
        go_wp2_with (fail)
        clear x_m1 x_m2 x_b1 x_b2 x_ma1 x_ma2 x_mb1 x_mb2 x_mc1 x_mc2
        refine (turnedM_E E1 av af nv cv nf cf V F a q _ (HV.out.kept (Below.trans HP.out (Below.mono (B := w12.heap.size) (by repeat (first | exact Below.refl _ _ | assumption | refine Below.drew ?_ | refine bdrewN ?_ _ | refine Below.setCell ?_ (by first | omega | (simp <;> omega)) _ | refine Below.alloc ?_ (by first | omega | (simp <;> omega)) _)) HP.out.size))) (HF.out.kept (Below.trans HP.out (Below.mono (B := w12.heap.size) (by repeat (first | exact Below.refl _ _ | assumption | refine Below.drew ?_ | refine bdrewN ?_ _ | refine Below.setCell ?_ (by first | omega | (simp <;> omega)) _ | refine Below.alloc ?_ (by first | omega | (simp <;> omega)) _)) HP.out.size))) (by omega) (by omega) Q1.out R1.out).mono ?_
        rintro e w13 ⟨V1, C1, U1, D1, rfl, rv1, rf1, hb⟩
        have B13 : Below w12.heap.size w12 w13 := Below.trans (by repeat (first | exact Below.refl _ _ | assumption | refine Below.drew ?_ | refine bdrewN ?_ _ | refine Below.setCell ?_ (by first | omega | (simp <;> omega)) _ | refine Below.alloc ?_ (by first | omega | (simp <;> omega)) _)) (hb.mono (by simp <;> omega))
        replace m0 := cellk B13 l_m m0
        replace m1 := cellk B13 l_m m1
        replace b0 := cellk B13 l_b b0
        replace b1 := cellk B13 l_b b1
        replace b2 := cellk B13 l_b b2
        replace ma0 := cellk B13 l_ma ma0
        replace ma1 := cellk B13 l_ma ma1
        replace mb0 := cellk B13 l_mb mb0
        replace mb1 := cellk B13 l_mb mb1
        replace mc0 := cellk B13 l_mc mc0
        replace mc1 := cellk B13 l_mc mc1
        replace l_m := Nat.lt_of_lt_of_le l_m B13.size
        replace l_b := Nat.lt_of_lt_of_le l_b B13.size
        replace l_ma := Nat.lt_of_lt_of_le l_ma B13.size
        replace l_mb := Nat.lt_of_lt_of_le l_mb B13.size
        replace l_mc := Nat.lt_of_lt_of_le l_mc B13.size
        have X0 : w13.cell? ⟨w12.heap.size, 0, none⟩ = some (.slice none 0 0) := by rw [hb.cell (by simp <;> omega)]; simp [go_sem]
        have fz_X0 : w13.frozen? ⟨w12.heap.size, 0, none⟩ = false := by rw [hb.frozen (by simp <;> omega)]; simp [go_sem]
        have X1 : w13.cell? ⟨w12.heap.size, 1, none⟩ = some (.slice none 0 0) := by rw [hb.cell (by simp <;> omega)]; simp [go_sem]
        have fz_X1 : w13.frozen? ⟨w12.heap.size, 1, none⟩ = false := by rw [hb.frozen (by simp <;> omega)]; simp [go_sem]
        have l_X : w12.heap.size < w13.heap.size := by have := hb.size; simp at this; omega
        have Y0 : w13.cell? ⟨w12.heap.size + 1, 0, none⟩ = some (.slice none 0 0) := by rw [hb.cell (by simp <;> omega)]; simp [go_sem]
        have fz_Y0 : w13.frozen? ⟨w12.heap.size + 1, 0, none⟩ = false := by rw [hb.frozen (by simp <;> omega)]; simp [go_sem]
        have Y1 : w13.cell? ⟨w12.heap.size + 1, 1, none⟩ = some (.slice none 0 0) := by rw [hb.cell (by simp <;> omega)]; simp [go_sem]
        have fz_Y1 : w13.frozen? ⟨w12.heap.size + 1, 1, none⟩ = false := by rw [hb.frozen (by simp <;> omega)]; simp [go_sem]
        have l_Y : w12.heap.size + 1 < w13.heap.size := by have := hb.size; simp at this; omega
        have Z0 : w13.cell? ⟨w12.heap.size + 1 + 1, 0, none⟩ = some (.slice none 0 0) := by rw [hb.cell (by simp <;> omega)]; simp [go_sem]
        have fz_Z0 : w13.frozen? ⟨w12.heap.size + 1 + 1, 0, none⟩ = false := by rw [hb.frozen (by simp <;> omega)]; simp [go_sem]
        have Z1 : w13.cell? ⟨w12.heap.size + 1 + 1, 1, none⟩ = some (.slice none 0 0) := by rw [hb.cell (by simp <;> omega)]; simp [go_sem]
        have fz_Z1 : w13.frozen? ⟨w12.heap.size + 1 + 1, 1, none⟩ = false := by rw [hb.frozen (by simp <;> omega)]; simp [go_sem]
        have l_Z : w12.heap.size + 1 + 1 < w13.heap.size := by have := hb.size; simp at this; omega
        replace HB := Lib.hid (HB.out.trans (B13.mono HB.out.size))
        replace HP := Lib.hid (HP.out.trans (B13.mono HP.out.size))
        have GV1 := Lib.hid (rv1.weak (base' := w12.heap.size + 1 + 1 + 1) (by have := HP.out.size; simp <;> omega))
        clear rv1
        have GF1 := Lib.hid (rf1.weak (base' := w12.heap.size + 1 + 1 + 1) (by have := HP.out.size; simp <;> omega))
        clear rf1
        clear hb B13
        replace m0 : ((w13.setCell ⟨w12.heap.size, 0, none⟩ (.slice V1 (zr E1 nv) C1)).setCell ⟨w12.heap.size, 1, none⟩ (.slice U1 (zr E1 nf) D1)).cell? ⟨w3.heap.size, 0, none⟩ = some (.slice av nv cv) := (sc_other (ne_block (by omega))).trans ((sc_other (ne_block (by omega))).trans (m0))
        replace m1 : ((w13.setCell ⟨w12.heap.size, 0, none⟩ (.slice V1 (zr E1 nv) C1)).setCell ⟨w12.heap.size, 1, none⟩ (.slice U1 (zr E1 nf) D1)).cell? ⟨w3.heap.size, 1, none⟩ = some (.slice af nf cf) := (sc_other (ne_block (by omega))).trans ((sc_other (ne_block (by omega))).trans (m1))
        replace b0 : ((w13.setCell ⟨w12.heap.size, 0, none⟩ (.slice V1 (zr E1 nv) C1)).setCell ⟨w12.heap.size, 1, none⟩ (.slice U1 (zr E1 nf) D1)).cell? ⟨w6.heap.size, 0, none⟩ = some (.int .i64 x) := (sc_other (ne_block (by omega))).trans ((sc_other (ne_block (by omega))).trans (b0))
        replace b1 : ((w13.setCell ⟨w12.heap.size, 0, none⟩ (.slice V1 (zr E1 nv) C1)).setCell ⟨w12.heap.size, 1, none⟩ (.slice U1 (zr E1 nf) D1)).cell? ⟨w6.heap.size, 1, none⟩ = some (.int .i64 y) := (sc_other (ne_block (by omega))).trans ((sc_other (ne_block (by omega))).trans (b1))
        replace b2 : ((w13.setCell ⟨w12.heap.size, 0, none⟩ (.slice V1 (zr E1 nv) C1)).setCell ⟨w12.heap.size, 1, none⟩ (.slice U1 (zr E1 nf) D1)).cell? ⟨w6.heap.size, 2, none⟩ = some (.int .i64 z) := (sc_other (ne_block (by omega))).trans ((sc_other (ne_block (by omega))).trans (b2))
        replace ma0 : ((w13.setCell ⟨w12.heap.size, 0, none⟩ (.slice V1 (zr E1 nv) C1)).setCell ⟨w12.heap.size, 1, none⟩ (.slice U1 (zr E1 nf) D1)).cell? ⟨w8.heap.size, 0, none⟩ = some (.slice v1 (zr E1 nv) c1) := (sc_other (ne_block (by omega))).trans ((sc_other (ne_block (by omega))).trans (ma0))
        replace ma1 : ((w13.setCell ⟨w12.heap.size, 0, none⟩ (.slice V1 (zr E1 nv) C1)).setCell ⟨w12.heap.size, 1, none⟩ (.slice U1 (zr E1 nf) D1)).cell? ⟨w8.heap.size, 1, none⟩ = some (.slice u1 (zr E1 nf) d1) := (sc_other (ne_block (by omega))).trans ((sc_other (ne_block (by omega))).trans (ma1))
        replace mb0 : ((w13.setCell ⟨w12.heap.size, 0, none⟩ (.slice V1 (zr E1 nv) C1)).setCell ⟨w12.heap.size, 1, none⟩ (.slice U1 (zr E1 nf) D1)).cell? ⟨w9.heap.size, 0, none⟩ = some (.slice v2 (zr E2 nv) c2) := (sc_other (ne_block (by omega))).trans ((sc_other (ne_block (by omega))).trans (mb0))
        replace mb1 : ((w13.setCell ⟨w12.heap.size, 0, none⟩ (.slice V1 (zr E1 nv) C1)).setCell ⟨w12.heap.size, 1, none⟩ (.slice U1 (zr E1 nf) D1)).cell? ⟨w9.heap.size, 1, none⟩ = some (.slice u2 (zr E2 nf) d2) := (sc_other (ne_block (by omega))).trans ((sc_other (ne_block (by omega))).trans (mb1))
        replace mc0 : ((w13.setCell ⟨w12.heap.size, 0, none⟩ (.slice V1 (zr E1 nv) C1)).setCell ⟨w12.heap.size, 1, none⟩ (.slice U1 (zr E1 nf) D1)).cell? ⟨w10.heap.size, 0, none⟩ = some (.slice v3 (zr E3 nv) c3) := (sc_other (ne_block (by omega))).trans ((sc_other (ne_block (by omega))).trans (mc0))
        replace mc1 : ((w13.setCell ⟨w12.heap.size, 0, none⟩ (.slice V1 (zr E1 nv) C1)).setCell ⟨w12.heap.size, 1, none⟩ (.slice U1 (zr E1 nf) D1)).cell? ⟨w10.heap.size, 1, none⟩ = some (.slice u3 (zr E3 nf) d3) := (sc_other (ne_block (by omega))).trans ((sc_other (ne_block (by omega))).trans (mc1))
        replace Y0 : ((w13.setCell ⟨w12.heap.size, 0, none⟩ (.slice V1 (zr E1 nv) C1)).setCell ⟨w12.heap.size, 1, none⟩ (.slice U1 (zr E1 nf) D1)).cell? ⟨w12.heap.size + 1, 0, none⟩ = some (.slice none 0 0) := (sc_other (ne_block (by omega))).trans ((sc_other (ne_block (by omega))).trans (Y0))
        replace Y1 : ((w13.setCell ⟨w12.heap.size, 0, none⟩ (.slice V1 (zr E1 nv) C1)).setCell ⟨w12.heap.size, 1, none⟩ (.slice U1 (zr E1 nf) D1)).cell? ⟨w12.heap.size + 1, 1, none⟩ = some (.slice none 0 0) := (sc_other (ne_block (by omega))).trans ((sc_other (ne_block (by omega))).trans (Y1))
        replace Z0 : ((w13.setCell ⟨w12.heap.size, 0, none⟩ (.slice V1 (zr E1 nv) C1)).setCell ⟨w12.heap.size, 1, none⟩ (.slice U1 (zr E1 nf) D1)).cell? ⟨w12.heap.size + 1 + 1, 0, none⟩ = some (.slice none 0 0) := (sc_other (ne_block (by omega))).trans ((sc_other (ne_block (by omega))).trans (Z0))
        replace Z1 : ((w13.setCell ⟨w12.heap.size, 0, none⟩ (.slice V1 (zr E1 nv) C1)).setCell ⟨w12.heap.size, 1, none⟩ (.slice U1 (zr E1 nf) D1)).cell? ⟨w12.heap.size + 1 + 1, 1, none⟩ = some (.slice none 0 0) := (sc_other (ne_block (by omega))).trans ((sc_other (ne_block (by omega))).trans (Z1))
        have n_X0 : ((w13.setCell ⟨w12.heap.size, 0, none⟩ (.slice V1 (zr E1 nv) C1)).setCell ⟨w12.heap.size, 1, none⟩ (.slice U1 (zr E1 nf) D1)).cell? ⟨w12.heap.size, 0, none⟩ = some (.slice V1 (zr E1 nv) C1) := (sc_other (ne_off (by decide))).trans (sc_same (X0))
        have n_X1 : ((w13.setCell ⟨w12.heap.size, 0, none⟩ (.slice V1 (zr E1 nv) C1)).setCell ⟨w12.heap.size, 1, none⟩ (.slice U1 (zr E1 nf) D1)).cell? ⟨w12.heap.size, 1, none⟩ = some (.slice U1 (zr E1 nf) D1) := sc_same ((sc_other (ne_off (by decide))).trans (X1))
        have g_X0 : ((w13.setCell ⟨w12.heap.size, 0, none⟩ (.slice V1 (zr E1 nv) C1)).setCell ⟨w12.heap.size, 1, none⟩ (.slice U1 (zr E1 nf) D1)).frozen? ⟨w12.heap.size, 0, none⟩ = false := by simp [go_sem, fz_X0]
        have g_X1 : ((w13.setCell ⟨w12.heap.size, 0, none⟩ (.slice V1 (zr E1 nv) C1)).setCell ⟨w12.heap.size, 1, none⟩ (.slice U1 (zr E1 nf) D1)).frozen? ⟨w12.heap.size, 1, none⟩ = false := by simp [go_sem, fz_X1]
        have g_Y0 : ((w13.setCell ⟨w12.heap.size, 0, none⟩ (.slice V1 (zr E1 nv) C1)).setCell ⟨w12.heap.size, 1, none⟩ (.slice U1 (zr E1 nf) D1)).frozen? ⟨w12.heap.size + 1, 0, none⟩ = false := by simp [go_sem, fz_Y0]
        have g_Y1 : ((w13.setCell ⟨w12.heap.size, 0, none⟩ (.slice V1 (zr E1 nv) C1)).setCell ⟨w12.heap.size, 1, none⟩ (.slice U1 (zr E1 nf) D1)).frozen? ⟨w12.heap.size + 1, 1, none⟩ = false := by simp [go_sem, fz_Y1]
        have g_Z0 : ((w13.setCell ⟨w12.heap.size, 0, none⟩ (.slice V1 (zr E1 nv) C1)).setCell ⟨w12.heap.size, 1, none⟩ (.slice U1 (zr E1 nf) D1)).frozen? ⟨w12.heap.size + 1 + 1, 0, none⟩ = false := by simp [go_sem, fz_Z0]
        have g_Z1 : ((w13.setCell ⟨w12.heap.size, 0, none⟩ (.slice V1 (zr E1 nv) C1)).setCell ⟨w12.heap.size, 1, none⟩ (.slice U1 (zr E1 nf) D1)).frozen? ⟨w12.heap.size + 1 + 1, 1, none⟩ = false := by simp [go_sem, fz_Z1]
        replace l_m : w3.heap.size < ((w13.setCell ⟨w12.heap.size, 0, none⟩ (.slice V1 (zr E1 nv) C1)).setCell ⟨w12.heap.size, 1, none⟩ (.slice U1 (zr E1 nf) D1)).heap.size := by simpa [World.setCell] using l_m
        replace l_b : w6.heap.size < ((w13.setCell ⟨w12.heap.size, 0, none⟩ (.slice V1 (zr E1 nv) C1)).setCell ⟨w12.heap.size, 1, none⟩ (.slice U1 (zr E1 nf) D1)).heap.size := by simpa [World.setCell] using l_b
        replace l_ma : w8.heap.size < ((w13.setCell ⟨w12.heap.size, 0, none⟩ (.slice V1 (zr E1 nv) C1)).setCell ⟨w12.heap.size, 1, none⟩ (.slice U1 (zr E1 nf) D1)).heap.size := by simpa [World.setCell] using l_ma
        replace l_mb : w9.heap.size < ((w13.setCell ⟨w12.heap.size, 0, none⟩ (.slice V1 (zr E1 nv) C1)).setCell ⟨w12.heap.size, 1, none⟩ (.slice U1 (zr E1 nf) D1)).heap.size := by simpa [World.setCell] using l_mb
        replace l_mc : w10.heap.size < ((w13.setCell ⟨w12.heap.size, 0, none⟩ (.slice V1 (zr E1 nv) C1)).setCell ⟨w12.heap.size, 1, none⟩ (.slice U1 (zr E1 nf) D1)).heap.size := by simpa [World.setCell] using l_mc
        replace l_X : w12.heap.size < ((w13.setCell ⟨w12.heap.size, 0, none⟩ (.slice V1 (zr E1 nv) C1)).setCell ⟨w12.heap.size, 1, none⟩ (.slice U1 (zr E1 nf) D1)).heap.size := by simpa [World.setCell] using l_X
        replace l_Y : w12.heap.size + 1 < ((w13.setCell ⟨w12.heap.size, 0, none⟩ (.slice V1 (zr E1 nv) C1)).setCell ⟨w12.heap.size, 1, none⟩ (.slice U1 (zr E1 nf) D1)).heap.size := by simpa [World.setCell] using l_Y
        replace l_Z : w12.heap.size + 1 + 1 < ((w13.setCell ⟨w12.heap.size, 0, none⟩ (.slice V1 (zr E1 nv) C1)).setCell ⟨w12.heap.size, 1, none⟩ (.slice U1 (zr E1 nf) D1)).heap.size := by simpa [World.setCell] using l_Z
        have HB2 := Lib.hid (((HB.out).setCell (p := ⟨w12.heap.size, 0, none⟩) (by show _ ≤ w12.heap.size; omega) (.slice V1 (zr E1 nv) C1)).setCell (p := ⟨w12.heap.size, 1, none⟩) (by show _ ≤ w12.heap.size; omega) (.slice U1 (zr E1 nf) D1))
        have HP2 := Lib.hid (((HP.out).setCell (p := ⟨w12.heap.size, 0, none⟩) (by show _ ≤ w12.heap.size; omega) (.slice V1 (zr E1 nv) C1)).setCell (p := ⟨w12.heap.size, 1, none⟩) (by show _ ≤ w12.heap.size; omega) (.slice U1 (zr E1 nf) D1))
        replace GV1 := Lib.hid (((GV1.out).set (p := ⟨w12.heap.size, 0, none⟩) (by show w12.heap.size < _; omega) (.slice V1 (zr E1 nv) C1)).set (p := ⟨w12.heap.size, 1, none⟩) (by show w12.heap.size < _; omega) (.slice U1 (zr E1 nf) D1))
        replace GF1 := Lib.hid (((GF1.out).set (p := ⟨w12.heap.size, 0, none⟩) (by show w12.heap.size < _; omega) (.slice V1 (zr E1 nv) C1)).set (p := ⟨w12.heap.size, 1, none⟩) (by show w12.heap.size < _; omega) (.slice U1 (zr E1 nf) D1))
        go_wp2_with (fail)
        generalize ((w13.setCell ⟨w12.heap.size, 0, none⟩ (.slice V1 (zr E1 nv) C1)).setCell ⟨w12.heap.size, 1, none⟩ (.slice U1 (zr E1 nf) D1)) = w14 at *
        clear X0 X1 HB HP fz_X0 fz_X1 fz_Y0 fz_Y1 fz_Z0 fz_Z1
        have X0 := n_X0
        clear n_X0
        have X1 := n_X1
        clear n_X1
        have fz_X0 := g_X0
        clear g_X0
        have fz_X1 := g_X1
        clear g_X1
        have fz_Y0 := g_Y0
        clear g_Y0
        have fz_Y1 := g_Y1
        clear g_Y1
        have fz_Z0 := g_Z0
        clear g_Z0
        have fz_Z1 := g_Z1
        clear g_Z1
        have HB := HB2
        have HP := HP2
        clear HB2 HP2
        subst h2
        have R2 := Lib.hid (T2z.out (by trivial))
        have zz2 : w12.heap.size + 1 + 1 + 1 ≤ w14.heap.size := by omega
        go_wp2_with (fail)
        refine (movedM_E E2 av af nv cv nf cf V F x y z _ (HV.out.kept (Below.trans HP.out (Below.mono (B := w14.heap.size) (by repeat (first | exact Below.refl _ _ | assumption | refine Below.drew ?_ | refine bdrewN ?_ _ | refine Below.setCell ?_ (by first | omega | (simp <;> omega)) _ | refine Below.alloc ?_ (by first | omega | (simp <;> omega)) _)) HP.out.size))) (HF.out.kept (Below.trans HP.out (Below.mono (B := w14.heap.size) (by repeat (first | exact Below.refl _ _ | assumption | refine Below.drew ?_ | refine bdrewN ?_ _ | refine Below.setCell ?_ (by first | omega | (simp <;> omega)) _ | refine Below.alloc ?_ (by first | omega | (simp <;> omega)) _)) HP.out.size))) (by omega) (by omega) HF0.out R2.out).mono ?_
        rintro e w15 ⟨V2, C2, U2, D2, rfl, rv2, rf2, hb⟩
        have B15 : Below w14.heap.size w14 w15 := hb
        replace m0 := cellk B15 l_m m0
        replace m1 := cellk B15 l_m m1
        replace b0 := cellk B15 l_b b0
        replace b1 := cellk B15 l_b b1
        replace b2 := cellk B15 l_b b2
        replace ma0 := cellk B15 l_ma ma0
        replace ma1 := cellk B15 l_ma ma1
        replace mb0 := cellk B15 l_mb mb0
        replace mb1 := cellk B15 l_mb mb1
        replace mc0 := cellk B15 l_mc mc0
        replace mc1 := cellk B15 l_mc mc1
        replace X0 := cellk B15 l_X X0
        replace X1 := cellk B15 l_X X1
        replace Y0 := cellk B15 l_Y Y0
        replace Y1 := cellk B15 l_Y Y1
        replace Z0 := cellk B15 l_Z Z0
        replace Z1 := cellk B15 l_Z Z1
        replace fz_X0 := (B15.frozen (p := ⟨w12.heap.size, 0, none⟩) l_X).trans fz_X0
        replace fz_X1 := (B15.frozen (p := ⟨w12.heap.size, 1, none⟩) l_X).trans fz_X1
        replace fz_Y0 := (B15.frozen (p := ⟨w12.heap.size + 1, 0, none⟩) l_Y).trans fz_Y0
        replace fz_Y1 := (B15.frozen (p := ⟨w12.heap.size + 1, 1, none⟩) l_Y).trans fz_Y1
        replace fz_Z0 := (B15.frozen (p := ⟨w12.heap.size + 1 + 1, 0, none⟩) l_Z).trans fz_Z0
        replace fz_Z1 := (B15.frozen (p := ⟨w12.heap.size + 1 + 1, 1, none⟩) l_Z).trans fz_Z1
        replace l_m := Nat.lt_of_lt_of_le l_m B15.size
        replace l_b := Nat.lt_of_lt_of_le l_b B15.size
        replace l_ma := Nat.lt_of_lt_of_le l_ma B15.size
        replace l_mb := Nat.lt_of_lt_of_le l_mb B15.size
        replace l_mc := Nat.lt_of_lt_of_le l_mc B15.size
        replace l_X := Nat.lt_of_lt_of_le l_X B15.size
        replace l_Y := Nat.lt_of_lt_of_le l_Y B15.size
        replace l_Z := Nat.lt_of_lt_of_le l_Z B15.size
        replace GV1 := Lib.hid (GV1.out.kept B15)
        replace GF1 := Lib.hid (GF1.out.kept B15)
        replace HB := Lib.hid (HB.out.trans (B15.mono HB.out.size))
        replace HP := Lib.hid (HP.out.trans (B15.mono HP.out.size))
        have GV2 := Lib.hid (rv2.weak (base' := w12.heap.size + 1 + 1 + 1) (by omega))
        clear rv2
        have GF2 := Lib.hid (rf2.weak (base' := w12.heap.size + 1 + 1 + 1) (by omega))
        clear rf2
        clear B15
        replace m0 : ((w15.setCell ⟨w12.heap.size + 1, 0, none⟩ (.slice V2 (zr E2 nv) C2)).setCell ⟨w12.heap.size + 1, 1, none⟩ (.slice U2 (zr E2 nf) D2)).cell? ⟨w3.heap.size, 0, none⟩ = some (.slice av nv cv) := (sc_other (ne_block (by omega))).trans ((sc_other (ne_block (by omega))).trans (m0))
        replace m1 : ((w15.setCell ⟨w12.heap.size + 1, 0, none⟩ (.slice V2 (zr E2 nv) C2)).setCell ⟨w12.heap.size + 1, 1, none⟩ (.slice U2 (zr E2 nf) D2)).cell? ⟨w3.heap.size, 1, none⟩ = some (.slice af nf cf) := (sc_other (ne_block (by omega))).trans ((sc_other (ne_block (by omega))).trans (m1))
        replace b0 : ((w15.setCell ⟨w12.heap.size + 1, 0, none⟩ (.slice V2 (zr E2 nv) C2)).setCell ⟨w12.heap.size + 1, 1, none⟩ (.slice U2 (zr E2 nf) D2)).cell? ⟨w6.heap.size, 0, none⟩ = some (.int .i64 x) := (sc_other (ne_block (by omega))).trans ((sc_other (ne_block (by omega))).trans (b0))
        replace b1 : ((w15.setCell ⟨w12.heap.size + 1, 0, none⟩ (.slice V2 (zr E2 nv) C2)).setCell ⟨w12.heap.size + 1, 1, none⟩ (.slice U2 (zr E2 nf) D2)).cell? ⟨w6.heap.size, 1, none⟩ = some (.int .i64 y) := (sc_other (ne_block (by omega))).trans ((sc_other (ne_block (by omega))).trans (b1))
        replace b2 : ((w15.setCell ⟨w12.heap.size + 1, 0, none⟩ (.slice V2 (zr E2 nv) C2)).setCell ⟨w12.heap.size + 1, 1, none⟩ (.slice U2 (zr E2 nf) D2)).cell? ⟨w6.heap.size, 2, none⟩ = some (.int .i64 z) := (sc_other (ne_block (by omega))).trans ((sc_other (ne_block (by omega))).trans (b2))
        replace ma0 : ((w15.setCell ⟨w12.heap.size + 1, 0, none⟩ (.slice V2 (zr E2 nv) C2)).setCell ⟨w12.heap.size + 1, 1, none⟩ (.slice U2 (zr E2 nf) D2)).cell? ⟨w8.heap.size, 0, none⟩ = some (.slice v1 (zr E1 nv) c1) := (sc_other (ne_block (by omega))).trans ((sc_other (ne_block (by omega))).trans (ma0))
        replace ma1 : ((w15.setCell ⟨w12.heap.size + 1, 0, none⟩ (.slice V2 (zr E2 nv) C2)).setCell ⟨w12.heap.size + 1, 1, none⟩ (.slice U2 (zr E2 nf) D2)).cell? ⟨w8.heap.size, 1, none⟩ = some (.slice u1 (zr E1 nf) d1) := (sc_other (ne_block (by omega))).trans ((sc_other (ne_block (by omega))).trans (ma1))
        replace mb0 : ((w15.setCell ⟨w12.heap.size + 1, 0, none⟩ (.slice V2 (zr E2 nv) C2)).setCell ⟨w12.heap.size + 1, 1, none⟩ (.slice U2 (zr E2 nf) D2)).cell? ⟨w9.heap.size, 0, none⟩ = some (.slice v2 (zr E2 nv) c2) := (sc_other (ne_block (by omega))).trans ((sc_other (ne_block (by omega))).trans (mb0))
        replace mb1 : ((w15.setCell ⟨w12.heap.size + 1, 0, none⟩ (.slice V2 (zr E2 nv) C2)).setCell ⟨w12.heap.size + 1, 1, none⟩ (.slice U2 (zr E2 nf) D2)).cell? ⟨w9.heap.size, 1, none⟩ = some (.slice u2 (zr E2 nf) d2) := (sc_other (ne_block (by omega))).trans ((sc_other (ne_block (by omega))).trans (mb1))
        replace mc0 : ((w15.setCell ⟨w12.heap.size + 1, 0, none⟩ (.slice V2 (zr E2 nv) C2)).setCell ⟨w12.heap.size + 1, 1, none⟩ (.slice U2 (zr E2 nf) D2)).cell? ⟨w10.heap.size, 0, none⟩ = some (.slice v3 (zr E3 nv) c3) := (sc_other (ne_block (by omega))).trans ((sc_other (ne_block (by omega))).trans (mc0))
        replace mc1 : ((w15.setCell ⟨w12.heap.size + 1, 0, none⟩ (.slice V2 (zr E2 nv) C2)).setCell ⟨w12.heap.size + 1, 1, none⟩ (.slice U2 (zr E2 nf) D2)).cell? ⟨w10.heap.size, 1, none⟩ = some (.slice u3 (zr E3 nf) d3) := (sc_other (ne_block (by omega))).trans ((sc_other (ne_block (by omega))).trans (mc1))
        replace X0 : ((w15.setCell ⟨w12.heap.size + 1, 0, none⟩ (.slice V2 (zr E2 nv) C2)).setCell ⟨w12.heap.size + 1, 1, none⟩ (.slice U2 (zr E2 nf) D2)).cell? ⟨w12.heap.size, 0, none⟩ = some (.slice V1 (zr E1 nv) C1) := (sc_other (ne_block (by omega))).trans ((sc_other (ne_block (by omega))).trans (X0))
        replace X1 : ((w15.setCell ⟨w12.heap.size + 1, 0, none⟩ (.slice V2 (zr E2 nv) C2)).setCell ⟨w12.heap.size + 1, 1, none⟩ (.slice U2 (zr E2 nf) D2)).cell? ⟨w12.heap.size, 1, none⟩ = some (.slice U1 (zr E1 nf) D1) := (sc_other (ne_block (by omega))).trans ((sc_other (ne_block (by omega))).trans (X1))
        replace Z0 : ((w15.setCell ⟨w12.heap.size + 1, 0, none⟩ (.slice V2 (zr E2 nv) C2)).setCell ⟨w12.heap.size + 1, 1, none⟩ (.slice U2 (zr E2 nf) D2)).cell? ⟨w12.heap.size + 1 + 1, 0, none⟩ = some (.slice none 0 0) := (sc_other (ne_block (by omega))).trans ((sc_other (ne_block (by omega))).trans (Z0))
        replace Z1 : ((w15.setCell ⟨w12.heap.size + 1, 0, none⟩ (.slice V2 (zr E2 nv) C2)).setCell ⟨w12.heap.size + 1, 1, none⟩ (.slice U2 (zr E2 nf) D2)).cell? ⟨w12.heap.size + 1 + 1, 1, none⟩ = some (.slice none 0 0) := (sc_other (ne_block (by omega))).trans ((sc_other (ne_block (by omega))).trans (Z1))
        have n_Y0 : ((w15.setCell ⟨w12.heap.size + 1, 0, none⟩ (.slice V2 (zr E2 nv) C2)).setCell ⟨w12.heap.size + 1, 1, none⟩ (.slice U2 (zr E2 nf) D2)).cell? ⟨w12.heap.size + 1, 0, none⟩ = some (.slice V2 (zr E2 nv) C2) := (sc_other (ne_off (by decide))).trans (sc_same (Y0))
        have n_Y1 : ((w15.setCell ⟨w12.heap.size + 1, 0, none⟩ (.slice V2 (zr E2 nv) C2)).setCell ⟨w12.heap.size + 1, 1, none⟩ (.slice U2 (zr E2 nf) D2)).cell? ⟨w12.heap.size + 1, 1, none⟩ = some (.slice U2 (zr E2 nf) D2) := sc_same ((sc_other (ne_off (by decide))).trans (Y1))
        have g_X0 : ((w15.setCell ⟨w12.heap.size + 1, 0, none⟩ (.slice V2 (zr E2 nv) C2)).setCell ⟨w12.heap.size + 1, 1, none⟩ (.slice U2 (zr E2 nf) D2)).frozen? ⟨w12.heap.size, 0, none⟩ = false := by simp [go_sem, fz_X0]
        have g_X1 : ((w15.setCell ⟨w12.heap.size + 1, 0, none⟩ (.slice V2 (zr E2 nv) C2)).setCell ⟨w12.heap.size + 1, 1, none⟩ (.slice U2 (zr E2 nf) D2)).frozen? ⟨w12.heap.size, 1, none⟩ = false := by simp [go_sem, fz_X1]
        have g_Y0 : ((w15.setCell ⟨w12.heap.size + 1, 0, none⟩ (.slice V2 (zr E2 nv) C2)).setCell ⟨w12.heap.size + 1, 1, none⟩ (.slice U2 (zr E2 nf) D2)).frozen? ⟨w12.heap.size + 1, 0, none⟩ = false := by simp [go_sem, fz_Y0]
        have g_Y1 : ((w15.setCell ⟨w12.heap.size + 1, 0, none⟩ (.slice V2 (zr E2 nv) C2)).setCell ⟨w12.heap.size + 1, 1, none⟩ (.slice U2 (zr E2 nf) D2)).frozen? ⟨w12.heap.size + 1, 1, none⟩ = false := by simp [go_sem, fz_Y1]
        have g_Z0 : ((w15.setCell ⟨w12.heap.size + 1, 0, none⟩ (.slice V2 (zr E2 nv) C2)).setCell ⟨w12.heap.size + 1, 1, none⟩ (.slice U2 (zr E2 nf) D2)).frozen? ⟨w12.heap.size + 1 + 1, 0, none⟩ = false := by simp [go_sem, fz_Z0]
        have g_Z1 : ((w15.setCell ⟨w12.heap.size + 1, 0, none⟩ (.slice V2 (zr E2 nv) C2)).setCell ⟨w12.heap.size + 1, 1, none⟩ (.slice U2 (zr E2 nf) D2)).frozen? ⟨w12.heap.size + 1 + 1, 1, none⟩ = false := by simp [go_sem, fz_Z1]
        replace l_m : w3.heap.size < ((w15.setCell ⟨w12.heap.size + 1, 0, none⟩ (.slice V2 (zr E2 nv) C2)).setCell ⟨w12.heap.size + 1, 1, none⟩ (.slice U2 (zr E2 nf) D2)).heap.size := by simpa [World.setCell] using l_m
        replace l_b : w6.heap.size < ((w15.setCell ⟨w12.heap.size + 1, 0, none⟩ (.slice V2 (zr E2 nv) C2)).setCell ⟨w12.heap.size + 1, 1, none⟩ (.slice U2 (zr E2 nf) D2)).heap.size := by simpa [World.setCell] using l_b
        replace l_ma : w8.heap.size < ((w15.setCell ⟨w12.heap.size + 1, 0, none⟩ (.slice V2 (zr E2 nv) C2)).setCell ⟨w12.heap.size + 1, 1, none⟩ (.slice U2 (zr E2 nf) D2)).heap.size := by simpa [World.setCell] using l_ma
        replace l_mb : w9.heap.size < ((w15.setCell ⟨w12.heap.size + 1, 0, none⟩ (.slice V2 (zr E2 nv) C2)).setCell ⟨w12.heap.size + 1, 1, none⟩ (.slice U2 (zr E2 nf) D2)).heap.size := by simpa [World.setCell] using l_mb
        replace l_mc : w10.heap.size < ((w15.setCell ⟨w12.heap.size + 1, 0, none⟩ (.slice V2 (zr E2 nv) C2)).setCell ⟨w12.heap.size + 1, 1, none⟩ (.slice U2 (zr E2 nf) D2)).heap.size := by simpa [World.setCell] using l_mc
        replace l_X : w12.heap.size < ((w15.setCell ⟨w12.heap.size + 1, 0, none⟩ (.slice V2 (zr E2 nv) C2)).setCell ⟨w12.heap.size + 1, 1, none⟩ (.slice U2 (zr E2 nf) D2)).heap.size := by simpa [World.setCell] using l_X
        replace l_Y : w12.heap.size + 1 < ((w15.setCell ⟨w12.heap.size + 1, 0, none⟩ (.slice V2 (zr E2 nv) C2)).setCell ⟨w12.heap.size + 1, 1, none⟩ (.slice U2 (zr E2 nf) D2)).heap.size := by simpa [World.setCell] using l_Y
        replace l_Z : w12.heap.size + 1 + 1 < ((w15.setCell ⟨w12.heap.size + 1, 0, none⟩ (.slice V2 (zr E2 nv) C2)).setCell ⟨w12.heap.size + 1, 1, none⟩ (.slice U2 (zr E2 nf) D2)).heap.size := by simpa [World.setCell] using l_Z
        have HB2 := Lib.hid (((HB.out).setCell (p := ⟨w12.heap.size + 1, 0, none⟩) (by show _ ≤ w12.heap.size + 1; omega) (.slice V2 (zr E2 nv) C2)).setCell (p := ⟨w12.heap.size + 1, 1, none⟩) (by show _ ≤ w12.heap.size + 1; omega) (.slice U2 (zr E2 nf) D2))
        have HP2 := Lib.hid (((HP.out).setCell (p := ⟨w12.heap.size + 1, 0, none⟩) (by show _ ≤ w12.heap.size + 1; omega) (.slice V2 (zr E2 nv) C2)).setCell (p := ⟨w12.heap.size + 1, 1, none⟩) (by show _ ≤ w12.heap.size + 1; omega) (.slice U2 (zr E2 nf) D2))
        replace GV1 := Lib.hid (((GV1.out).set (p := ⟨w12.heap.size + 1, 0, none⟩) (by show w12.heap.size + 1 < _; omega) (.slice V2 (zr E2 nv) C2)).set (p := ⟨w12.heap.size + 1, 1, none⟩) (by show w12.heap.size + 1 < _; omega) (.slice U2 (zr E2 nf) D2))
        replace GF1 := Lib.hid (((GF1.out).set (p := ⟨w12.heap.size + 1, 0, none⟩) (by show w12.heap.size + 1 < _; omega) (.slice V2 (zr E2 nv) C2)).set (p := ⟨w12.heap.size + 1, 1, none⟩) (by show w12.heap.size + 1 < _; omega) (.slice U2 (zr E2 nf) D2))
        replace GV2 := Lib.hid (((GV2.out).set (p := ⟨w12.heap.size + 1, 0, none⟩) (by show w12.heap.size + 1 < _; omega) (.slice V2 (zr E2 nv) C2)).set (p := ⟨w12.heap.size + 1, 1, none⟩) (by show w12.heap.size + 1 < _; omega) (.slice U2 (zr E2 nf) D2))
        replace GF2 := Lib.hid (((GF2.out).set (p := ⟨w12.heap.size + 1, 0, none⟩) (by show w12.heap.size + 1 < _; omega) (.slice V2 (zr E2 nv) C2)).set (p := ⟨w12.heap.size + 1, 1, none⟩) (by show w12.heap.size + 1 < _; omega) (.slice U2 (zr E2 nf) D2))
        go_wp2_with (fail)
        generalize ((w15.setCell ⟨w12.heap.size + 1, 0, none⟩ (.slice V2 (zr E2 nv) C2)).setCell ⟨w12.heap.size + 1, 1, none⟩ (.slice U2 (zr E2 nf) D2)) = w16 at *
        clear Y0 Y1 HB HP fz_X0 fz_X1 fz_Y0 fz_Y1 fz_Z0 fz_Z1
        have Y0 := n_Y0
        clear n_Y0
        have Y1 := n_Y1
        clear n_Y1
        have fz_X0 := g_X0
        clear g_X0
        have fz_X1 := g_X1
        clear g_X1
        have fz_Y0 := g_Y0
        clear g_Y0
        have fz_Y1 := g_Y1
        clear g_Y1
        have fz_Z0 := g_Z0
        clear g_Z0
        have fz_Z1 := g_Z1
        clear g_Z1
        have HB := HB2
        have HP := HP2
        clear HB2 HP2
        subst h3
        have R3 := Lib.hid (T3z.out (by trivial))
        have zz3 : w12.heap.size + 1 + 1 + 1 ≤ w16.heap.size := by omega
        go_wp2_with (fail)
        refine (mirM_E E3 av af nv cv nf cf V F a _ (HV.out.kept (Below.trans HP.out (Below.mono (B := w16.heap.size) (by repeat (first | exact Below.refl _ _ | assumption | refine Below.drew ?_ | refine bdrewN ?_ _ | refine Below.setCell ?_ (by first | omega | (simp <;> omega)) _ | refine Below.alloc ?_ (by first | omega | (simp <;> omega)) _)) HP.out.size))) (HF.out.kept (Below.trans HP.out (Below.mono (B := w16.heap.size) (by repeat (first | exact Below.refl _ _ | assumption | refine Below.drew ?_ | refine bdrewN ?_ _ | refine Below.setCell ?_ (by first | omega | (simp <;> omega)) _ | refine Below.alloc ?_ (by first | omega | (simp <;> omega)) _)) HP.out.size))) (by omega) (by omega) R3.out).mono ?_
        rintro e w17 ⟨V3, C3, U3, D3, rfl, rv3, rf3, hb⟩
        have B17 : Below w16.heap.size w16 w17 := hb
        replace m0 := cellk B17 l_m m0
        replace m1 := cellk B17 l_m m1
        replace b0 := cellk B17 l_b b0
        replace b1 := cellk B17 l_b b1
        replace b2 := cellk B17 l_b b2
        replace ma0 := cellk B17 l_ma ma0
        replace ma1 := cellk B17 l_ma ma1
        replace mb0 := cellk B17 l_mb mb0
        replace mb1 := cellk B17 l_mb mb1
        replace mc0 := cellk B17 l_mc mc0
        replace mc1 := cellk B17 l_mc mc1
        replace X0 := cellk B17 l_X X0
        replace X1 := cellk B17 l_X X1
        replace Y0 := cellk B17 l_Y Y0
        replace Y1 := cellk B17 l_Y Y1
        replace Z0 := cellk B17 l_Z Z0
        replace Z1 := cellk B17 l_Z Z1
        replace fz_X0 := (B17.frozen (p := ⟨w12.heap.size, 0, none⟩) l_X).trans fz_X0
        replace fz_X1 := (B17.frozen (p := ⟨w12.heap.size, 1, none⟩) l_X).trans fz_X1
        replace fz_Y0 := (B17.frozen (p := ⟨w12.heap.size + 1, 0, none⟩) l_Y).trans fz_Y0
        replace fz_Y1 := (B17.frozen (p := ⟨w12.heap.size + 1, 1, none⟩) l_Y).trans fz_Y1
        replace fz_Z0 := (B17.frozen (p := ⟨w12.heap.size + 1 + 1, 0, none⟩) l_Z).trans fz_Z0
        replace fz_Z1 := (B17.frozen (p := ⟨w12.heap.size + 1 + 1, 1, none⟩) l_Z).trans fz_Z1
        replace l_m := Nat.lt_of_lt_of_le l_m B17.size
        replace l_b := Nat.lt_of_lt_of_le l_b B17.size
        replace l_ma := Nat.lt_of_lt_of_le l_ma B17.size
        replace l_mb := Nat.lt_of_lt_of_le l_mb B17.size
        replace l_mc := Nat.lt_of_lt_of_le l_mc B17.size
        replace l_X := Nat.lt_of_lt_of_le l_X B17.size
        replace l_Y := Nat.lt_of_lt_of_le l_Y B17.size
        replace l_Z := Nat.lt_of_lt_of_le l_Z B17.size
        replace GV1 := Lib.hid (GV1.out.kept B17)
        replace GF1 := Lib.hid (GF1.out.kept B17)
        replace GV2 := Lib.hid (GV2.out.kept B17)
        replace GF2 := Lib.hid (GF2.out.kept B17)
        replace HB := Lib.hid (HB.out.trans (B17.mono HB.out.size))
        replace HP := Lib.hid (HP.out.trans (B17.mono HP.out.size))
        have GV3 := Lib.hid (rv3.weak (base' := w12.heap.size + 1 + 1 + 1) (by omega))
        clear rv3
        have GF3 := Lib.hid (rf3.weak (base' := w12.heap.size + 1 + 1 + 1) (by omega))
        clear rf3
        clear B17
        replace m0 : ((w17.setCell ⟨w12.heap.size + 1 + 1, 0, none⟩ (.slice V3 (zr E3 nv) C3)).setCell ⟨w12.heap.size + 1 + 1, 1, none⟩ (.slice U3 (zr E3 nf) D3)).cell? ⟨w3.heap.size, 0, none⟩ = some (.slice av nv cv) := (sc_other (ne_block (by omega))).trans ((sc_other (ne_block (by omega))).trans (m0))
        replace m1 : ((w17.setCell ⟨w12.heap.size + 1 + 1, 0, none⟩ (.slice V3 (zr E3 nv) C3)).setCell ⟨w12.heap.size + 1 + 1, 1, none⟩ (.slice U3 (zr E3 nf) D3)).cell? ⟨w3.heap.size, 1, none⟩ = some (.slice af nf cf) := (sc_other (ne_block (by omega))).trans ((sc_other (ne_block (by omega))).trans (m1))
        replace b0 : ((w17.setCell ⟨w12.heap.size + 1 + 1, 0, none⟩ (.slice V3 (zr E3 nv) C3)).setCell ⟨w12.heap.size + 1 + 1, 1, none⟩ (.slice U3 (zr E3 nf) D3)).cell? ⟨w6.heap.size, 0, none⟩ = some (.int .i64 x) := (sc_other (ne_block (by omega))).trans ((sc_other (ne_block (by omega))).trans (b0))
        replace b1 : ((w17.setCell ⟨w12.heap.size + 1 + 1, 0, none⟩ (.slice V3 (zr E3 nv) C3)).setCell ⟨w12.heap.size + 1 + 1, 1, none⟩ (.slice U3 (zr E3 nf) D3)).cell? ⟨w6.heap.size, 1, none⟩ = some (.int .i64 y) := (sc_other (ne_block (by omega))).trans ((sc_other (ne_block (by omega))).trans (b1))
        replace b2 : ((w17.setCell ⟨w12.heap.size + 1 + 1, 0, none⟩ (.slice V3 (zr E3 nv) C3)).setCell ⟨w12.heap.size + 1 + 1, 1, none⟩ (.slice U3 (zr E3 nf) D3)).cell? ⟨w6.heap.size, 2, none⟩ = some (.int .i64 z) := (sc_other (ne_block (by omega))).trans ((sc_other (ne_block (by omega))).trans (b2))
        replace ma0 : ((w17.setCell ⟨w12.heap.size + 1 + 1, 0, none⟩ (.slice V3 (zr E3 nv) C3)).setCell ⟨w12.heap.size + 1 + 1, 1, none⟩ (.slice U3 (zr E3 nf) D3)).cell? ⟨w8.heap.size, 0, none⟩ = some (.slice v1 (zr E1 nv) c1) := (sc_other (ne_block (by omega))).trans ((sc_other (ne_block (by omega))).trans (ma0))
        replace ma1 : ((w17.setCell ⟨w12.heap.size + 1 + 1, 0, none⟩ (.slice V3 (zr E3 nv) C3)).setCell ⟨w12.heap.size + 1 + 1, 1, none⟩ (.slice U3 (zr E3 nf) D3)).cell? ⟨w8.heap.size, 1, none⟩ = some (.slice u1 (zr E1 nf) d1) := (sc_other (ne_block (by omega))).trans ((sc_other (ne_block (by omega))).trans (ma1))
        replace mb0 : ((w17.setCell ⟨w12.heap.size + 1 + 1, 0, none⟩ (.slice V3 (zr E3 nv) C3)).setCell ⟨w12.heap.size + 1 + 1, 1, none⟩ (.slice U3 (zr E3 nf) D3)).cell? ⟨w9.heap.size, 0, none⟩ = some (.slice v2 (zr E2 nv) c2) := (sc_other (ne_block (by omega))).trans ((sc_other (ne_block (by omega))).trans (mb0))
        replace mb1 : ((w17.setCell ⟨w12.heap.size + 1 + 1, 0, none⟩ (.slice V3 (zr E3 nv) C3)).setCell ⟨w12.heap.size + 1 + 1, 1, none⟩ (.slice U3 (zr E3 nf) D3)).cell? ⟨w9.heap.size, 1, none⟩ = some (.slice u2 (zr E2 nf) d2) := (sc_other (ne_block (by omega))).trans ((sc_other (ne_block (by omega))).trans (mb1))
        replace mc0 : ((w17.setCell ⟨w12.heap.size + 1 + 1, 0, none⟩ (.slice V3 (zr E3 nv) C3)).setCell ⟨w12.heap.size + 1 + 1, 1, none⟩ (.slice U3 (zr E3 nf) D3)).cell? ⟨w10.heap.size, 0, none⟩ = some (.slice v3 (zr E3 nv) c3) := (sc_other (ne_block (by omega))).trans ((sc_other (ne_block (by omega))).trans (mc0))
        replace mc1 : ((w17.setCell ⟨w12.heap.size + 1 + 1, 0, none⟩ (.slice V3 (zr E3 nv) C3)).setCell ⟨w12.heap.size + 1 + 1, 1, none⟩ (.slice U3 (zr E3 nf) D3)).cell? ⟨w10.heap.size, 1, none⟩ = some (.slice u3 (zr E3 nf) d3) := (sc_other (ne_block (by omega))).trans ((sc_other (ne_block (by omega))).trans (mc1))
        replace X0 : ((w17.setCell ⟨w12.heap.size + 1 + 1, 0, none⟩ (.slice V3 (zr E3 nv) C3)).setCell ⟨w12.heap.size + 1 + 1, 1, none⟩ (.slice U3 (zr E3 nf) D3)).cell? ⟨w12.heap.size, 0, none⟩ = some (.slice V1 (zr E1 nv) C1) := (sc_other (ne_block (by omega))).trans ((sc_other (ne_block (by omega))).trans (X0))
        replace X1 : ((w17.setCell ⟨w12.heap.size + 1 + 1, 0, none⟩ (.slice V3 (zr E3 nv) C3)).setCell ⟨w12.heap.size + 1 + 1, 1, none⟩ (.slice U3 (zr E3 nf) D3)).cell? ⟨w12.heap.size, 1, none⟩ = some (.slice U1 (zr E1 nf) D1) := (sc_other (ne_block (by omega))).trans ((sc_other (ne_block (by omega))).trans (X1))
        replace Y0 : ((w17.setCell ⟨w12.heap.size + 1 + 1, 0, none⟩ (.slice V3 (zr E3 nv) C3)).setCell ⟨w12.heap.size + 1 + 1, 1, none⟩ (.slice U3 (zr E3 nf) D3)).cell? ⟨w12.heap.size + 1, 0, none⟩ = some (.slice V2 (zr E2 nv) C2) := (sc_other (ne_block (by omega))).trans ((sc_other (ne_block (by omega))).trans (Y0))
        replace Y1 : ((w17.setCell ⟨w12.heap.size + 1 + 1, 0, none⟩ (.slice V3 (zr E3 nv) C3)).setCell ⟨w12.heap.size + 1 + 1, 1, none⟩ (.slice U3 (zr E3 nf) D3)).cell? ⟨w12.heap.size + 1, 1, none⟩ = some (.slice U2 (zr E2 nf) D2) := (sc_other (ne_block (by omega))).trans ((sc_other (ne_block (by omega))).trans (Y1))
        have n_Z0 : ((w17.setCell ⟨w12.heap.size + 1 + 1, 0, none⟩ (.slice V3 (zr E3 nv) C3)).setCell ⟨w12.heap.size + 1 + 1, 1, none⟩ (.slice U3 (zr E3 nf) D3)).cell? ⟨w12.heap.size + 1 + 1, 0, none⟩ = some (.slice V3 (zr E3 nv) C3) := (sc_other (ne_off (by decide))).trans (sc_same (Z0))
        have n_Z1 : ((w17.setCell ⟨w12.heap.size + 1 + 1, 0, none⟩ (.slice V3 (zr E3 nv) C3)).setCell ⟨w12.heap.size + 1 + 1, 1, none⟩ (.slice U3 (zr E3 nf) D3)).cell? ⟨w12.heap.size + 1 + 1, 1, none⟩ = some (.slice U3 (zr E3 nf) D3) := sc_same ((sc_other (ne_off (by decide))).trans (Z1))
        have g_X0 : ((w17.setCell ⟨w12.heap.size + 1 + 1, 0, none⟩ (.slice V3 (zr E3 nv) C3)).setCell ⟨w12.heap.size + 1 + 1, 1, none⟩ (.slice U3 (zr E3 nf) D3)).frozen? ⟨w12.heap.size, 0, none⟩ = false := by simp [go_sem, fz_X0]
        have g_X1 : ((w17.setCell ⟨w12.heap.size + 1 + 1, 0, none⟩ (.slice V3 (zr E3 nv) C3)).setCell ⟨w12.heap.size + 1 + 1, 1, none⟩ (.slice U3 (zr E3 nf) D3)).frozen? ⟨w12.heap.size, 1, none⟩ = false := by simp [go_sem, fz_X1]
        have g_Y0 : ((w17.setCell ⟨w12.heap.size + 1 + 1, 0, none⟩ (.slice V3 (zr E3 nv) C3)).setCell ⟨w12.heap.size + 1 + 1, 1, none⟩ (.slice U3 (zr E3 nf) D3)).frozen? ⟨w12.heap.size + 1, 0, none⟩ = false := by simp [go_sem, fz_Y0]
        have g_Y1 : ((w17.setCell ⟨w12.heap.size + 1 + 1, 0, none⟩ (.slice V3 (zr E3 nv) C3)).setCell ⟨w12.heap.size + 1 + 1, 1, none⟩ (.slice U3 (zr E3 nf) D3)).frozen? ⟨w12.heap.size + 1, 1, none⟩ = false := by simp [go_sem, fz_Y1]
        have g_Z0 : ((w17.setCell ⟨w12.heap.size + 1 + 1, 0, none⟩ (.slice V3 (zr E3 nv) C3)).setCell ⟨w12.heap.size + 1 + 1, 1, none⟩ (.slice U3 (zr E3 nf) D3)).frozen? ⟨w12.heap.size + 1 + 1, 0, none⟩ = false := by simp [go_sem, fz_Z0]
        have g_Z1 : ((w17.setCell ⟨w12.heap.size + 1 + 1, 0, none⟩ (.slice V3 (zr E3 nv) C3)).setCell ⟨w12.heap.size + 1 + 1, 1, none⟩ (.slice U3 (zr E3 nf) D3)).frozen? ⟨w12.heap.size + 1 + 1, 1, none⟩ = false := by simp [go_sem, fz_Z1]
        replace l_m : w3.heap.size < ((w17.setCell ⟨w12.heap.size + 1 + 1, 0, none⟩ (.slice V3 (zr E3 nv) C3)).setCell ⟨w12.heap.size + 1 + 1, 1, none⟩ (.slice U3 (zr E3 nf) D3)).heap.size := by simpa [World.setCell] using l_m
        replace l_b : w6.heap.size < ((w17.setCell ⟨w12.heap.size + 1 + 1, 0, none⟩ (.slice V3 (zr E3 nv) C3)).setCell ⟨w12.heap.size + 1 + 1, 1, none⟩ (.slice U3 (zr E3 nf) D3)).heap.size := by simpa [World.setCell] using l_b
        replace l_ma : w8.heap.size < ((w17.setCell ⟨w12.heap.size + 1 + 1, 0, none⟩ (.slice V3 (zr E3 nv) C3)).setCell ⟨w12.heap.size + 1 + 1, 1, none⟩ (.slice U3 (zr E3 nf) D3)).heap.size := by simpa [World.setCell] using l_ma
        replace l_mb : w9.heap.size < ((w17.setCell ⟨w12.heap.size + 1 + 1, 0, none⟩ (.slice V3 (zr E3 nv) C3)).setCell ⟨w12.heap.size + 1 + 1, 1, none⟩ (.slice U3 (zr E3 nf) D3)).heap.size := by simpa [World.setCell] using l_mb
        replace l_mc : w10.heap.size < ((w17.setCell ⟨w12.heap.size + 1 + 1, 0, none⟩ (.slice V3 (zr E3 nv) C3)).setCell ⟨w12.heap.size + 1 + 1, 1, none⟩ (.slice U3 (zr E3 nf) D3)).heap.size := by simpa [World.setCell] using l_mc
        replace l_X : w12.heap.size < ((w17.setCell ⟨w12.heap.size + 1 + 1, 0, none⟩ (.slice V3 (zr E3 nv) C3)).setCell ⟨w12.heap.size + 1 + 1, 1, none⟩ (.slice U3 (zr E3 nf) D3)).heap.size := by simpa [World.setCell] using l_X
        replace l_Y : w12.heap.size + 1 < ((w17.setCell ⟨w12.heap.size + 1 + 1, 0, none⟩ (.slice V3 (zr E3 nv) C3)).setCell ⟨w12.heap.size + 1 + 1, 1, none⟩ (.slice U3 (zr E3 nf) D3)).heap.size := by simpa [World.setCell] using l_Y
        replace l_Z : w12.heap.size + 1 + 1 < ((w17.setCell ⟨w12.heap.size + 1 + 1, 0, none⟩ (.slice V3 (zr E3 nv) C3)).setCell ⟨w12.heap.size + 1 + 1, 1, none⟩ (.slice U3 (zr E3 nf) D3)).heap.size := by simpa [World.setCell] using l_Z
        have HB2 := Lib.hid (((HB.out).setCell (p := ⟨w12.heap.size + 1 + 1, 0, none⟩) (by show _ ≤ w12.heap.size + 1 + 1; omega) (.slice V3 (zr E3 nv) C3)).setCell (p := ⟨w12.heap.size + 1 + 1, 1, none⟩) (by show _ ≤ w12.heap.size + 1 + 1; omega) (.slice U3 (zr E3 nf) D3))
        have HP2 := Lib.hid (((HP.out).setCell (p := ⟨w12.heap.size + 1 + 1, 0, none⟩) (by show _ ≤ w12.heap.size + 1 + 1; omega) (.slice V3 (zr E3 nv) C3)).setCell (p := ⟨w12.heap.size + 1 + 1, 1, none⟩) (by show _ ≤ w12.heap.size + 1 + 1; omega) (.slice U3 (zr E3 nf) D3))
        replace GV1 := Lib.hid (((GV1.out).set (p := ⟨w12.heap.size + 1 + 1, 0, none⟩) (by show w12.heap.size + 1 + 1 < _; omega) (.slice V3 (zr E3 nv) C3)).set (p := ⟨w12.heap.size + 1 + 1, 1, none⟩) (by show w12.heap.size + 1 + 1 < _; omega) (.slice U3 (zr E3 nf) D3))
        replace GF1 := Lib.hid (((GF1.out).set (p := ⟨w12.heap.size + 1 + 1, 0, none⟩) (by show w12.heap.size + 1 + 1 < _; omega) (.slice V3 (zr E3 nv) C3)).set (p := ⟨w12.heap.size + 1 + 1, 1, none⟩) (by show w12.heap.size + 1 + 1 < _; omega) (.slice U3 (zr E3 nf) D3))
        replace GV2 := Lib.hid (((GV2.out).set (p := ⟨w12.heap.size + 1 + 1, 0, none⟩) (by show w12.heap.size + 1 + 1 < _; omega) (.slice V3 (zr E3 nv) C3)).set (p := ⟨w12.heap.size + 1 + 1, 1, none⟩) (by show w12.heap.size + 1 + 1 < _; omega) (.slice U3 (zr E3 nf) D3))
        replace GF2 := Lib.hid (((GF2.out).set (p := ⟨w12.heap.size + 1 + 1, 0, none⟩) (by show w12.heap.size + 1 + 1 < _; omega) (.slice V3 (zr E3 nv) C3)).set (p := ⟨w12.heap.size + 1 + 1, 1, none⟩) (by show w12.heap.size + 1 + 1 < _; omega) (.slice U3 (zr E3 nf) D3))
        replace GV3 := Lib.hid (((GV3.out).set (p := ⟨w12.heap.size + 1 + 1, 0, none⟩) (by show w12.heap.size + 1 + 1 < _; omega) (.slice V3 (zr E3 nv) C3)).set (p := ⟨w12.heap.size + 1 + 1, 1, none⟩) (by show w12.heap.size + 1 + 1 < _; omega) (.slice U3 (zr E3 nf) D3))
        replace GF3 := Lib.hid (((GF3.out).set (p := ⟨w12.heap.size + 1 + 1, 0, none⟩) (by show w12.heap.size + 1 + 1 < _; omega) (.slice V3 (zr E3 nv) C3)).set (p := ⟨w12.heap.size + 1 + 1, 1, none⟩) (by show w12.heap.size + 1 + 1 < _; omega) (.slice U3 (zr E3 nf) D3))
        go_wp2_with (fail)
        generalize ((w17.setCell ⟨w12.heap.size + 1 + 1, 0, none⟩ (.slice V3 (zr E3 nv) C3)).setCell ⟨w12.heap.size + 1 + 1, 1, none⟩ (.slice U3 (zr E3 nf) D3)) = w18 at *
        clear Z0 Z1 HB HP fz_X0 fz_X1 fz_Y0 fz_Y1 fz_Z0 fz_Z1
        have Z0 := n_Z0
        clear n_Z0
        have Z1 := n_Z1
        clear n_Z1
        have fz_X0 := g_X0
        clear g_X0
        have fz_X1 := g_X1
        clear g_X1
        have fz_Y0 := g_Y0
        clear g_Y0
        have fz_Y1 := g_Y1
        clear g_Y1
        have fz_Z0 := g_Z0
        clear g_Z0
        have fz_Z1 := g_Z1
        clear g_Z1
        have HB := HB2
        have HP := HP2
        clear HB2 HP2
        go_wp2_with (fail)
        refine (sameMesh_any v1 V1 u1 U1 _ c1 C1 _ d1 D1 (fun i => qn a q.toNat (V i)) F _ (HV1.out.row3.kept (Below.trans HP.out (Below.mono (B := w18.heap.size) (by repeat (first | exact Below.refl _ _ | assumption | refine Below.drew ?_ | refine bdrewN ?_ _ | refine Below.setCell ?_ (by first | omega | (simp <;> omega)) _ | refine Below.alloc ?_ (by first | omega | (simp <;> omega)) _)) HP.out.size))) (GV1.out.row3.kept (by repeat (first | exact Below.refl _ _ | assumption | refine Below.drew ?_ | refine bdrewN ?_ _ | refine Below.setCell ?_ (by first | omega | (simp <;> omega)) _ | refine Below.alloc ?_ (by first | omega | (simp <;> omega)) _))) (HF1.out.row3.kept (Below.trans HP.out (Below.mono (B := w18.heap.size) (by repeat (first | exact Below.refl _ _ | assumption | refine Below.drew ?_ | refine bdrewN ?_ _ | refine Below.setCell ?_ (by first | omega | (simp <;> omega)) _ | refine Below.alloc ?_ (by first | omega | (simp <;> omega)) _)) HP.out.size))) (GF1.out.row3.kept (by repeat (first | exact Below.refl _ _ | assumption | refine Below.drew ?_ | refine bdrewN ?_ _ | refine Below.setCell ?_ (by first | omega | (simp <;> omega)) _ | refine Below.alloc ?_ (by first | omega | (simp <;> omega)) _))) (by have := zr_le E1 nv; omega) (by have := zr_le E1 nf; omega)).mono ?_
        rintro e w19 ⟨rfl, hb⟩
        have B19 : Below w18.heap.size w18 w19 := hb
        replace m0 := cellk B19 l_m m0
        replace m1 := cellk B19 l_m m1
        replace b0 := cellk B19 l_b b0
        replace b1 := cellk B19 l_b b1
        replace b2 := cellk B19 l_b b2
        replace ma0 := cellk B19 l_ma ma0
        replace ma1 := cellk B19 l_ma ma1
        replace mb0 := cellk B19 l_mb mb0
        replace mb1 := cellk B19 l_mb mb1
        replace mc0 := cellk B19 l_mc mc0
        replace mc1 := cellk B19 l_mc mc1
        replace X0 := cellk B19 l_X X0
        replace X1 := cellk B19 l_X X1
        replace Y0 := cellk B19 l_Y Y0
        replace Y1 := cellk B19 l_Y Y1
        replace Z0 := cellk B19 l_Z Z0
        replace Z1 := cellk B19 l_Z Z1
        replace fz_X0 := (B19.frozen (p := ⟨w12.heap.size, 0, none⟩) l_X).trans fz_X0
        replace fz_X1 := (B19.frozen (p := ⟨w12.heap.size, 1, none⟩) l_X).trans fz_X1
        replace fz_Y0 := (B19.frozen (p := ⟨w12.heap.size + 1, 0, none⟩) l_Y).trans fz_Y0
        replace fz_Y1 := (B19.frozen (p := ⟨w12.heap.size + 1, 1, none⟩) l_Y).trans fz_Y1
        replace fz_Z0 := (B19.frozen (p := ⟨w12.heap.size + 1 + 1, 0, none⟩) l_Z).trans fz_Z0
        replace fz_Z1 := (B19.frozen (p := ⟨w12.heap.size + 1 + 1, 1, none⟩) l_Z).trans fz_Z1
        replace l_m := Nat.lt_of_lt_of_le l_m B19.size
        replace l_b := Nat.lt_of_lt_of_le l_b B19.size
        replace l_ma := Nat.lt_of_lt_of_le l_ma B19.size
        replace l_mb := Nat.lt_of_lt_of_le l_mb B19.size
        replace l_mc := Nat.lt_of_lt_of_le l_mc B19.size
        replace l_X := Nat.lt_of_lt_of_le l_X B19.size
        replace l_Y := Nat.lt_of_lt_of_le l_Y B19.size
        replace l_Z := Nat.lt_of_lt_of_le l_Z B19.size
        replace GV1 := Lib.hid (GV1.out.kept B19)
        replace GF1 := Lib.hid (GF1.out.kept B19)
        replace GV2 := Lib.hid (GV2.out.kept B19)
        replace GF2 := Lib.hid (GF2.out.kept B19)
        replace GV3 := Lib.hid (GV3.out.kept B19)
        replace GF3 := Lib.hid (GF3.out.kept B19)
        replace HB := Lib.hid (HB.out.trans (B19.mono HB.out.size))
        replace HP := Lib.hid (HP.out.trans (B19.mono HP.out.size))
        clear B19
        go_wp2_with (fail)
        refine (sameMesh_any v2 V2 u2 U2 _ c2 C2 _ d2 D2 (movV V x y z) F _ (HV2.out.row3.kept (Below.trans HP.out (Below.mono (B := w19.heap.size) (by repeat (first | exact Below.refl _ _ | assumption | refine Below.drew ?_ | refine bdrewN ?_ _ | refine Below.setCell ?_ (by first | omega | (simp <;> omega)) _ | refine Below.alloc ?_ (by first | omega | (simp <;> omega)) _)) HP.out.size))) (GV2.out.row3.kept (by repeat (first | exact Below.refl _ _ | assumption | refine Below.drew ?_ | refine bdrewN ?_ _ | refine Below.setCell ?_ (by first | omega | (simp <;> omega)) _ | refine Below.alloc ?_ (by first | omega | (simp <;> omega)) _))) (HF2.out.row3.kept (Below.trans HP.out (Below.mono (B := w19.heap.size) (by repeat (first | exact Below.refl _ _ | assumption | refine Below.drew ?_ | refine bdrewN ?_ _ | refine Below.setCell ?_ (by first | omega | (simp <;> omega)) _ | refine Below.alloc ?_ (by first | omega | (simp <;> omega)) _)) HP.out.size))) (GF2.out.row3.kept (by repeat (first | exact Below.refl _ _ | assumption | refine Below.drew ?_ | refine bdrewN ?_ _ | refine Below.setCell ?_ (by first | omega | (simp <;> omega)) _ | refine Below.alloc ?_ (by first | omega | (simp <;> omega)) _))) (by have := zr_le E2 nv; omega) (by have := zr_le E2 nf; omega)).mono ?_
        rintro e w20 ⟨rfl, hb⟩
        have B20 : Below w19.heap.size w19 w20 := hb
        replace m0 := cellk B20 l_m m0
        replace m1 := cellk B20 l_m m1
        replace b0 := cellk B20 l_b b0
        replace b1 := cellk B20 l_b b1
        replace b2 := cellk B20 l_b b2
        replace ma0 := cellk B20 l_ma ma0
        replace ma1 := cellk B20 l_ma ma1
        replace mb0 := cellk B20 l_mb mb0
        replace mb1 := cellk B20 l_mb mb1
        replace mc0 := cellk B20 l_mc mc0
        replace mc1 := cellk B20 l_mc mc1
        replace X0 := cellk B20 l_X X0
        replace X1 := cellk B20 l_X X1
        replace Y0 := cellk B20 l_Y Y0
        replace Y1 := cellk B20 l_Y Y1
        replace Z0 := cellk B20 l_Z Z0
        replace Z1 := cellk B20 l_Z Z1
        replace fz_X0 := (B20.frozen (p := ⟨w12.heap.size, 0, none⟩) l_X).trans fz_X0
        replace fz_X1 := (B20.frozen (p := ⟨w12.heap.size, 1, none⟩) l_X).trans fz_X1
        replace fz_Y0 := (B20.frozen (p := ⟨w12.heap.size + 1, 0, none⟩) l_Y).trans fz_Y0
        replace fz_Y1 := (B20.frozen (p := ⟨w12.heap.size + 1, 1, none⟩) l_Y).trans fz_Y1
        replace fz_Z0 := (B20.frozen (p := ⟨w12.heap.size + 1 + 1, 0, none⟩) l_Z).trans fz_Z0
        replace fz_Z1 := (B20.frozen (p := ⟨w12.heap.size + 1 + 1, 1, none⟩) l_Z).trans fz_Z1
        replace l_m := Nat.lt_of_lt_of_le l_m B20.size
        replace l_b := Nat.lt_of_lt_of_le l_b B20.size
        replace l_ma := Nat.lt_of_lt_of_le l_ma B20.size
        replace l_mb := Nat.lt_of_lt_of_le l_mb B20.size
        replace l_mc := Nat.lt_of_lt_of_le l_mc B20.size
        replace l_X := Nat.lt_of_lt_of_le l_X B20.size
        replace l_Y := Nat.lt_of_lt_of_le l_Y B20.size
        replace l_Z := Nat.lt_of_lt_of_le l_Z B20.size
        replace GV1 := Lib.hid (GV1.out.kept B20)
        replace GF1 := Lib.hid (GF1.out.kept B20)
        replace GV2 := Lib.hid (GV2.out.kept B20)
        replace GF2 := Lib.hid (GF2.out.kept B20)
        replace GV3 := Lib.hid (GV3.out.kept B20)
        replace GF3 := Lib.hid (GF3.out.kept B20)
        replace HB := Lib.hid (HB.out.trans (B20.mono HB.out.size))
        replace HP := Lib.hid (HP.out.trans (B20.mono HP.out.size))
        clear B20
        go_wp2_with (fail)
        refine (sameMesh_any v3 V3 u3 U3 _ c3 C3 _ d3 D3 (fun i => mv a (V i)) (fun i => sw (F i)) _ (HV3.out.row3.kept (Below.trans HP.out (Below.mono (B := w20.heap.size) (by repeat (first | exact Below.refl _ _ | assumption | refine Below.drew ?_ | refine bdrewN ?_ _ | refine Below.setCell ?_ (by first | omega | (simp <;> omega)) _ | refine Below.alloc ?_ (by first | omega | (simp <;> omega)) _)) HP.out.size))) (GV3.out.row3.kept (by repeat (first | exact Below.refl _ _ | assumption | refine Below.drew ?_ | refine bdrewN ?_ _ | refine Below.setCell ?_ (by first | omega | (simp <;> omega)) _ | refine Below.alloc ?_ (by first | omega | (simp <;> omega)) _))) (HF3.out.row3.kept (Below.trans HP.out (Below.mono (B := w20.heap.size) (by repeat (first | exact Below.refl _ _ | assumption | refine Below.drew ?_ | refine bdrewN ?_ _ | refine Below.setCell ?_ (by first | omega | (simp <;> omega)) _ | refine Below.alloc ?_ (by first | omega | (simp <;> omega)) _)) HP.out.size))) (GF3.out.row3.kept (by repeat (first | exact Below.refl _ _ | assumption | refine Below.drew ?_ | refine bdrewN ?_ _ | refine Below.setCell ?_ (by first | omega | (simp <;> omega)) _ | refine Below.alloc ?_ (by first | omega | (simp <;> omega)) _))) (by have := zr_le E3 nv; omega) (by have := zr_le E3 nf; omega)).mono ?_
        rintro e w21 ⟨rfl, hb⟩
        have B21 : Below w20.heap.size w20 w21 := hb
        replace m0 := cellk B21 l_m m0
        replace m1 := cellk B21 l_m m1
        replace b0 := cellk B21 l_b b0
        replace b1 := cellk B21 l_b b1
        replace b2 := cellk B21 l_b b2
        replace ma0 := cellk B21 l_ma ma0
        replace ma1 := cellk B21 l_ma ma1
        replace mb0 := cellk B21 l_mb mb0
        replace mb1 := cellk B21 l_mb mb1
        replace mc0 := cellk B21 l_mc mc0
        replace mc1 := cellk B21 l_mc mc1
        replace X0 := cellk B21 l_X X0
        replace X1 := cellk B21 l_X X1
        replace Y0 := cellk B21 l_Y Y0
        replace Y1 := cellk B21 l_Y Y1
        replace Z0 := cellk B21 l_Z Z0
        replace Z1 := cellk B21 l_Z Z1
        replace fz_X0 := (B21.frozen (p := ⟨w12.heap.size, 0, none⟩) l_X).trans fz_X0
        replace fz_X1 := (B21.frozen (p := ⟨w12.heap.size, 1, none⟩) l_X).trans fz_X1
        replace fz_Y0 := (B21.frozen (p := ⟨w12.heap.size + 1, 0, none⟩) l_Y).trans fz_Y0
        replace fz_Y1 := (B21.frozen (p := ⟨w12.heap.size + 1, 1, none⟩) l_Y).trans fz_Y1
        replace fz_Z0 := (B21.frozen (p := ⟨w12.heap.size + 1 + 1, 0, none⟩) l_Z).trans fz_Z0
        replace fz_Z1 := (B21.frozen (p := ⟨w12.heap.size + 1 + 1, 1, none⟩) l_Z).trans fz_Z1
        replace l_m := Nat.lt_of_lt_of_le l_m B21.size
        replace l_b := Nat.lt_of_lt_of_le l_b B21.size
        replace l_ma := Nat.lt_of_lt_of_le l_ma B21.size
        replace l_mb := Nat.lt_of_lt_of_le l_mb B21.size
        replace l_mc := Nat.lt_of_lt_of_le l_mc B21.size
        replace l_X := Nat.lt_of_lt_of_le l_X B21.size
        replace l_Y := Nat.lt_of_lt_of_le l_Y B21.size
        replace l_Z := Nat.lt_of_lt_of_le l_Z B21.size
        replace GV1 := Lib.hid (GV1.out.kept B21)
        replace GF1 := Lib.hid (GF1.out.kept B21)
        replace GV2 := Lib.hid (GV2.out.kept B21)
        replace GF2 := Lib.hid (GF2.out.kept B21)
        replace GV3 := Lib.hid (GV3.out.kept B21)
        replace GF3 := Lib.hid (GF3.out.kept B21)
        replace HB := Lib.hid (HB.out.trans (B21.mono HB.out.size))
        replace HP := Lib.hid (HP.out.trans (B21.mono HP.out.size))
        clear B21
        go_wp2_with (fail)
        refine (meshed_any _).mono ?_
        rintro e w22 ⟨rfl, hb⟩
        have B22 : Below w21.heap.size w21 w22 := hb
        replace m0 := cellk B22 l_m m0
        replace m1 := cellk B22 l_m m1
        replace b0 := cellk B22 l_b b0
        replace b1 := cellk B22 l_b b1
        replace b2 := cellk B22 l_b b2
        replace ma0 := cellk B22 l_ma ma0
        replace ma1 := cellk B22 l_ma ma1
        replace mb0 := cellk B22 l_mb mb0
        replace mb1 := cellk B22 l_mb mb1
        replace mc0 := cellk B22 l_mc mc0
        replace mc1 := cellk B22 l_mc mc1
        replace X0 := cellk B22 l_X X0
        replace X1 := cellk B22 l_X X1
        replace Y0 := cellk B22 l_Y Y0
        replace Y1 := cellk B22 l_Y Y1
        replace Z0 := cellk B22 l_Z Z0
        replace Z1 := cellk B22 l_Z Z1
        replace fz_X0 := (B22.frozen (p := ⟨w12.heap.size, 0, none⟩) l_X).trans fz_X0
        replace fz_X1 := (B22.frozen (p := ⟨w12.heap.size, 1, none⟩) l_X).trans fz_X1
        replace fz_Y0 := (B22.frozen (p := ⟨w12.heap.size + 1, 0, none⟩) l_Y).trans fz_Y0
        replace fz_Y1 := (B22.frozen (p := ⟨w12.heap.size + 1, 1, none⟩) l_Y).trans fz_Y1
        replace fz_Z0 := (B22.frozen (p := ⟨w12.heap.size + 1 + 1, 0, none⟩) l_Z).trans fz_Z0
        replace fz_Z1 := (B22.frozen (p := ⟨w12.heap.size + 1 + 1, 1, none⟩) l_Z).trans fz_Z1
        replace l_m := Nat.lt_of_lt_of_le l_m B22.size
        replace l_b := Nat.lt_of_lt_of_le l_b B22.size
        replace l_ma := Nat.lt_of_lt_of_le l_ma B22.size
        replace l_mb := Nat.lt_of_lt_of_le l_mb B22.size
        replace l_mc := Nat.lt_of_lt_of_le l_mc B22.size
        replace l_X := Nat.lt_of_lt_of_le l_X B22.size
        replace l_Y := Nat.lt_of_lt_of_le l_Y B22.size
        replace l_Z := Nat.lt_of_lt_of_le l_Z B22.size
        replace GV1 := Lib.hid (GV1.out.kept B22)
        replace GF1 := Lib.hid (GF1.out.kept B22)
        replace GV2 := Lib.hid (GV2.out.kept B22)
        replace GF2 := Lib.hid (GF2.out.kept B22)
        replace GV3 := Lib.hid (GV3.out.kept B22)
        replace GF3 := Lib.hid (GF3.out.kept B22)
        replace HB := Lib.hid (HB.out.trans (B22.mono HB.out.size))
        replace HP := Lib.hid (HP.out.trans (B22.mono HP.out.size))
        clear B22
        have R := Lib.hid ((HM.out.toBelow w.heap.size (Nat.le_refl _) (fun k hk => by omega)).trans (HB.out.mono hw6))
        go_wp2
        go_ret
        exact ⟨rfl, R.out⟩
      · skip
        subst h1
        have Q1 := Lib.hid (T1z.out (by trivial)).2
        have R1 := Lib.hid (T1z.out (by trivial)).1
        have x_m1 : w3.heap.size < w12.heap.size + 1 := by omega
        have x_m2 : w3.heap.size < w12.heap.size + 1 + 1 := by omega
        have x_b1 : w6.heap.size < w12.heap.size + 1 := by omega
        have x_b2 : w6.heap.size < w12.heap.size + 1 + 1 := by omega
        have x_ma1 : w8.heap.size < w12.heap.size + 1 := by omega
        have x_ma2 : w8.heap.size < w12.heap.size + 1 + 1 := by omega
        have x_mb1 : w9.heap.size < w12.heap.size + 1 := by omega
        have x_mb2 : w9.heap.size < w12.heap.size + 1 + 1 := by omega
        have x_mc1 : w10.heap.size < w12.heap.size + 1 := by omega
        have x_mc2 : w10.heap.size < w12.heap.size + 1 + 1 := by omega
        go_wp2_with (fail)
        clear x_m1 x_m2 x_b1 x_b2 x_ma1 x_ma2 x_mb1 x_mb2 x_mc1 x_mc2
        refine (turnedM_E E1 av af nv cv nf cf V F a q _ (HV.out.kept (Below.trans HP.out (Below.mono (B := w12.heap.size) (by repeat (first | exact Below.refl _ _ | assumption | refine Below.drew ?_ | refine bdrewN ?_ _ | refine Below.setCell ?_ (by first | omega | (simp <;> omega)) _ | refine Below.alloc ?_ (by first | omega | (simp <;> omega)) _)) HP.out.size))) (HF.out.kept (Below.trans HP.out (Below.mono (B := w12.heap.size) (by repeat (first | exact Below.refl _ _ | assumption | refine Below.drew ?_ | refine bdrewN ?_ _ | refine Below.setCell ?_ (by first | omega | (simp <;> omega)) _ | refine Below.alloc ?_ (by first | omega | (simp <;> omega)) _)) HP.out.size))) (by omega) (by omega) Q1.out R1.out).mono ?_
        rintro e w13 ⟨V1, C1, U1, D1, rfl, rv1, rf1, hb⟩
        have B13 : Below w12.heap.size w12 w13 := Below.trans (by repeat (first | exact Below.refl _ _ | assumption | refine Below.drew ?_ | refine bdrewN ?_ _ | refine Below.setCell ?_ (by first | omega | (simp <;> omega)) _ | refine Below.alloc ?_ (by first | omega | (simp <;> omega)) _)) (hb.mono (by simp <;> omega))
        replace m0 := cellk B13 l_m m0
        replace m1 := cellk B13 l_m m1
        replace b0 := cellk B13 l_b b0
        replace b1 := cellk B13 l_b b1
        replace b2 := cellk B13 l_b b2
        replace ma0 := cellk B13 l_ma ma0
        replace ma1 := cellk B13 l_ma ma1
        replace mb0 := cellk B13 l_mb mb0
        replace mb1 := cellk B13 l_mb mb1
        replace mc0 := cellk B13 l_mc mc0
        replace mc1 := cellk B13 l_mc mc1
        replace l_m := Nat.lt_of_lt_of_le l_m B13.size
        replace l_b := Nat.lt_of_lt_of_le l_b B13.size
        replace l_ma := Nat.lt_of_lt_of_le l_ma B13.size
        replace l_mb := Nat.lt_of_lt_of_le l_mb B13.size
        replace l_mc := Nat.lt_of_lt_of_le l_mc B13.size
        have X0 : w13.cell? ⟨w12.heap.size, 0, none⟩ = some (.slice none 0 0) := by rw [hb.cell (by simp <;> omega)]; simp [go_sem]
        have fz_X0 : w13.frozen? ⟨w12.heap.size, 0, none⟩ = false := by rw [hb.frozen (by simp <;> omega)]; simp [go_sem]
        have X1 : w13.cell? ⟨w12.heap.size, 1, none⟩ = some (.slice none 0 0) := by rw [hb.cell (by simp <;> omega)]; simp [go_sem]
        have fz_X1 : w13.frozen? ⟨w12.heap.size, 1, none⟩ = false := by rw [hb.frozen (by simp <;> omega)]; simp [go_sem]
        have l_X : w12.heap.size < w13.heap.size := by have := hb.size; simp at this; omega
        have Y0 : w13.cell? ⟨w12.heap.size + 1, 0, none⟩ = some (.slice none 0 0) := by rw [hb.cell (by simp <;> omega)]; simp [go_sem]
        have fz_Y0 : w13.frozen? ⟨w12.heap.size + 1, 0, none⟩ = false := by rw [hb.frozen (by simp <;> omega)]; simp [go_sem]
        have Y1 : w13.cell? ⟨w12.heap.size + 1, 1, none⟩ = some (.slice none 0 0) := by rw [hb.cell (by simp <;> omega)]; simp [go_sem]
        have fz_Y1 : w13.frozen? ⟨w12.heap.size + 1, 1, none⟩ = false := by rw [hb.frozen (by simp <;> omega)]; simp [go_sem]
        have l_Y : w12.heap.size + 1 < w13.heap.size := by have := hb.size; simp at this; omega
        have Z0 : w13.cell? ⟨w12.heap.size + 1 + 1, 0, none⟩ = some (.slice none 0 0) := by rw [hb.cell (by simp <;> omega)]; simp [go_sem]
        have fz_Z0 : w13.frozen? ⟨w12.heap.size + 1 + 1, 0, none⟩ = false := by rw [hb.frozen (by simp <;> omega)]; simp [go_sem]
        have Z1 : w13.cell? ⟨w12.heap.size + 1 + 1, 1, none⟩ = some (.slice none 0 0) := by rw [hb.cell (by simp <;> omega)]; simp [go_sem]
        have fz_Z1 : w13.frozen? ⟨w12.heap.size + 1 + 1, 1, none⟩ = false := by rw [hb.frozen (by simp <;> omega)]; simp [go_sem]
        have l_Z : w12.heap.size + 1 + 1 < w13.heap.size := by have := hb.size; simp at this; omega
        replace HB := Lib.hid (HB.out.trans (B13.mono HB.out.size))
        replace HP := Lib.hid (HP.out.trans (B13.mono HP.out.size))
        have GV1 := Lib.hid (rv1.weak (base' := w12.heap.size + 1 + 1 + 1) (by have := HP.out.size; simp <;> omega))
        clear rv1
        have GF1 := Lib.hid (rf1.weak (base' := w12.heap.size + 1 + 1 + 1) (by have := HP.out.size; simp <;> omega))
        clear rf1
        clear hb B13
        replace m0 : ((w13.setCell ⟨w12.heap.size, 0, none⟩ (.slice V1 (zr E1 nv) C1)).setCell ⟨w12.heap.size, 1, none⟩ (.slice U1 (zr E1 nf) D1)).cell? ⟨w3.heap.size, 0, none⟩ = some (.slice av nv cv) := (sc_other (ne_block (by omega))).trans ((sc_other (ne_block (by omega))).trans (m0))
        replace m1 : ((w13.setCell ⟨w12.heap.size, 0, none⟩ (.slice V1 (zr E1 nv) C1)).setCell ⟨w12.heap.size, 1, none⟩ (.slice U1 (zr E1 nf) D1)).cell? ⟨w3.heap.size, 1, none⟩ = some (.slice af nf cf) := (sc_other (ne_block (by omega))).trans ((sc_other (ne_block (by omega))).trans (m1))
        replace b0 : ((w13.setCell ⟨w12.heap.size, 0, none⟩ (.slice V1 (zr E1 nv) C1)).setCell ⟨w12.heap.size, 1, none⟩ (.slice U1 (zr E1 nf) D1)).cell? ⟨w6.heap.size, 0, none⟩ = some (.int .i64 x) := (sc_other (ne_block (by omega))).trans ((sc_other (ne_block (by omega))).trans (b0))
        replace b1 : ((w13.setCell ⟨w12.heap.size, 0, none⟩ (.slice V1 (zr E1 nv) C1)).setCell ⟨w12.heap.size, 1, none⟩ (.slice U1 (zr E1 nf) D1)).cell? ⟨w6.heap.size, 1, none⟩ = some (.int .i64 y) := (sc_other (ne_block (by omega))).trans ((sc_other (ne_block (by omega))).trans (b1))
        replace b2 : ((w13.setCell ⟨w12.heap.size, 0, none⟩ (.slice V1 (zr E1 nv) C1)).setCell ⟨w12.heap.size, 1, none⟩ (.slice U1 (zr E1 nf) D1)).cell? ⟨w6.heap.size, 2, none⟩ = some (.int .i64 z) := (sc_other (ne_block (by omega))).trans ((sc_other (ne_block (by omega))).trans (b2))
        replace ma0 : ((w13.setCell ⟨w12.heap.size, 0, none⟩ (.slice V1 (zr E1 nv) C1)).setCell ⟨w12.heap.size, 1, none⟩ (.slice U1 (zr E1 nf) D1)).cell? ⟨w8.heap.size, 0, none⟩ = some (.slice v1 (zr E1 nv) c1) := (sc_other (ne_block (by omega))).trans ((sc_other (ne_block (by omega))).trans (ma0))
        replace ma1 : ((w13.setCell ⟨w12.heap.size, 0, none⟩ (.slice V1 (zr E1 nv) C1)).setCell ⟨w12.heap.size, 1, none⟩ (.slice U1 (zr E1 nf) D1)).cell? ⟨w8.heap.size, 1, none⟩ = some (.slice u1 (zr E1 nf) d1) := (sc_other (ne_block (by omega))).trans ((sc_other (ne_block (by omega))).trans (ma1))
        replace mb0 : ((w13.setCell ⟨w12.heap.size, 0, none⟩ (.slice V1 (zr E1 nv) C1)).setCell ⟨w12.heap.size, 1, none⟩ (.slice U1 (zr E1 nf) D1)).cell? ⟨w9.heap.size, 0, none⟩ = some (.slice v2 (zr E2 nv) c2) := (sc_other (ne_block (by omega))).trans ((sc_other (ne_block (by omega))).trans (mb0))
        replace mb1 : ((w13.setCell ⟨w12.heap.size, 0, none⟩ (.slice V1 (zr E1 nv) C1)).setCell ⟨w12.heap.size, 1, none⟩ (.slice U1 (zr E1 nf) D1)).cell? ⟨w9.heap.size, 1, none⟩ = some (.slice u2 (zr E2 nf) d2) := (sc_other (ne_block (by omega))).trans ((sc_other (ne_block (by omega))).trans (mb1))
        replace mc0 : ((w13.setCell ⟨w12.heap.size, 0, none⟩ (.slice V1 (zr E1 nv) C1)).setCell ⟨w12.heap.size, 1, none⟩ (.slice U1 (zr E1 nf) D1)).cell? ⟨w10.heap.size, 0, none⟩ = some (.slice v3 (zr E3 nv) c3) := (sc_other (ne_block (by omega))).trans ((sc_other (ne_block (by omega))).trans (mc0))
        replace mc1 : ((w13.setCell ⟨w12.heap.size, 0, none⟩ (.slice V1 (zr E1 nv) C1)).setCell ⟨w12.heap.size, 1, none⟩ (.slice U1 (zr E1 nf) D1)).cell? ⟨w10.heap.size, 1, none⟩ = some (.slice u3 (zr E3 nf) d3) := (sc_other (ne_block (by omega))).trans ((sc_other (ne_block (by omega))).trans (mc1))
        replace Y0 : ((w13.setCell ⟨w12.heap.size, 0, none⟩ (.slice V1 (zr E1 nv) C1)).setCell ⟨w12.heap.size, 1, none⟩ (.slice U1 (zr E1 nf) D1)).cell? ⟨w12.heap.size + 1, 0, none⟩ = some (.slice none 0 0) := (sc_other (ne_block (by omega))).trans ((sc_other (ne_block (by omega))).trans (Y0))
        replace Y1 : ((w13.setCell ⟨w12.heap.size, 0, none⟩ (.slice V1 (zr E1 nv) C1)).setCell ⟨w12.heap.size, 1, none⟩ (.slice U1 (zr E1 nf) D1)).cell? ⟨w12.heap.size + 1, 1, none⟩ = some (.slice none 0 0) := (sc_other (ne_block (by omega))).trans ((sc_other (ne_block (by omega))).trans (Y1))
        replace Z0 : ((w13.setCell ⟨w12.heap.size, 0, none⟩ (.slice V1 (zr E1 nv) C1)).setCell ⟨w12.heap.size, 1, none⟩ (.slice U1 (zr E1 nf) D1)).cell? ⟨w12.heap.size + 1 + 1, 0, none⟩ = some (.slice none 0 0) := (sc_other (ne_block (by omega))).trans ((sc_other (ne_block (by omega))).trans (Z0))
        replace Z1 : ((w13.setCell ⟨w12.heap.size, 0, none⟩ (.slice V1 (zr E1 nv) C1)).setCell ⟨w12.heap.size, 1, none⟩ (.slice U1 (zr E1 nf) D1)).cell? ⟨w12.heap.size + 1 + 1, 1, none⟩ = some (.slice none 0 0) := (sc_other (ne_block (by omega))).trans ((sc_other (ne_block (by omega))).trans (Z1))
        have n_X0 : ((w13.setCell ⟨w12.heap.size, 0, none⟩ (.slice V1 (zr E1 nv) C1)).setCell ⟨w12.heap.size, 1, none⟩ (.slice U1 (zr E1 nf) D1)).cell? ⟨w12.heap.size, 0, none⟩ = some (.slice V1 (zr E1 nv) C1) := (sc_other (ne_off (by decide))).trans (sc_same (X0))
        have n_X1 : ((w13.setCell ⟨w12.heap.size, 0, none⟩ (.slice V1 (zr E1 nv) C1)).setCell ⟨w12.heap.size, 1, none⟩ (.slice U1 (zr E1 nf) D1)).cell? ⟨w12.heap.size, 1, none⟩ = some (.slice U1 (zr E1 nf) D1) := sc_same ((sc_other (ne_off (by decide))).trans (X1))
        have g_X0 : ((w13.setCell ⟨w12.heap.size, 0, none⟩ (.slice V1 (zr E1 nv) C1)).setCell ⟨w12.heap.size, 1, none⟩ (.slice U1 (zr E1 nf) D1)).frozen? ⟨w12.heap.size, 0, none⟩ = false := by simp [go_sem, fz_X0]
        have g_X1 : ((w13.setCell ⟨w12.heap.size, 0, none⟩ (.slice V1 (zr E1 nv) C1)).setCell ⟨w12.heap.size, 1, none⟩ (.slice U1 (zr E1 nf) D1)).frozen? ⟨w12.heap.size, 1, none⟩ = false := by simp [go_sem, fz_X1]
        have g_Y0 : ((w13.setCell ⟨w12.heap.size, 0, none⟩ (.slice V1 (zr E1 nv) C1)).setCell ⟨w12.heap.size, 1, none⟩ (.slice U1 (zr E1 nf) D1)).frozen? ⟨w12.heap.size + 1, 0, none⟩ = false := by simp [go_sem, fz_Y0]
        have g_Y1 : ((w13.setCell ⟨w12.heap.size, 0, none⟩ (.slice V1 (zr E1 nv) C1)).setCell ⟨w12.heap.size, 1, none⟩ (.slice U1 (zr E1 nf) D1)).frozen? ⟨w12.heap.size + 1, 1, none⟩ = false := by simp [go_sem, fz_Y1]
        have g_Z0 : ((w13.setCell ⟨w12.heap.size, 0, none⟩ (.slice V1 (zr E1 nv) C1)).setCell ⟨w12.heap.size, 1, none⟩ (.slice U1 (zr E1 nf) D1)).frozen? ⟨w12.heap.size + 1 + 1, 0, none⟩ = false := by simp [go_sem, fz_Z0]
        have g_Z1 : ((w13.setCell ⟨w12.heap.size, 0, none⟩ (.slice V1 (zr E1 nv) C1)).setCell ⟨w12.heap.size, 1, none⟩ (.slice U1 (zr E1 nf) D1)).frozen? ⟨w12.heap.size + 1 + 1, 1, none⟩ = false := by simp [go_sem, fz_Z1]
        replace l_m : w3.heap.size < ((w13.setCell ⟨w12.heap.size, 0, none⟩ (.slice V1 (zr E1 nv) C1)).setCell ⟨w12.heap.size, 1, none⟩ (.slice U1 (zr E1 nf) D1)).heap.size := by simpa [World.setCell] using l_m
        replace l_b : w6.heap.size < ((w13.setCell ⟨w12.heap.size, 0, none⟩ (.slice V1 (zr E1 nv) C1)).setCell ⟨w12.heap.size, 1, none⟩ (.slice U1 (zr E1 nf) D1)).heap.size := by simpa [World.setCell] using l_b
        replace l_ma : w8.heap.size < ((w13.setCell ⟨w12.heap.size, 0, none⟩ (.slice V1 (zr E1 nv) C1)).setCell ⟨w12.heap.size, 1, none⟩ (.slice U1 (zr E1 nf) D1)).heap.size := by simpa [World.setCell] using l_ma
        replace l_mb : w9.heap.size < ((w13.setCell ⟨w12.heap.size, 0, none⟩ (.slice V1 (zr E1 nv) C1)).setCell ⟨w12.heap.size, 1, none⟩ (.slice U1 (zr E1 nf) D1)).heap.size := by simpa [World.setCell] using l_mb
        replace l_mc : w10.heap.size < ((w13.setCell ⟨w12.heap.size, 0, none⟩ (.slice V1 (zr E1 nv) C1)).setCell ⟨w12.heap.size, 1, none⟩ (.slice U1 (zr E1 nf) D1)).heap.size := by simpa [World.setCell] using l_mc
        replace l_X : w12.heap.size < ((w13.setCell ⟨w12.heap.size, 0, none⟩ (.slice V1 (zr E1 nv) C1)).setCell ⟨w12.heap.size, 1, none⟩ (.slice U1 (zr E1 nf) D1)).heap.size := by simpa [World.setCell] using l_X
        replace l_Y : w12.heap.size + 1 < ((w13.setCell ⟨w12.heap.size, 0, none⟩ (.slice V1 (zr E1 nv) C1)).setCell ⟨w12.heap.size, 1, none⟩ (.slice U1 (zr E1 nf) D1)).heap.size := by simpa [World.setCell] using l_Y
        replace l_Z : w12.heap.size + 1 + 1 < ((w13.setCell ⟨w12.heap.size, 0, none⟩ (.slice V1 (zr E1 nv) C1)).setCell ⟨w12.heap.size, 1, none⟩ (.slice U1 (zr E1 nf) D1)).heap.size := by simpa [World.setCell] using l_Z
        have HB2 := Lib.hid (((HB.out).setCell (p := ⟨w12.heap.size, 0, none⟩) (by show _ ≤ w12.heap.size; omega) (.slice V1 (zr E1 nv) C1)).setCell (p := ⟨w12.heap.size, 1, none⟩) (by show _ ≤ w12.heap.size; omega) (.slice U1 (zr E1 nf) D1))
        have HP2 := Lib.hid (((HP.out).setCell (p := ⟨w12.heap.size, 0, none⟩) (by show _ ≤ w12.heap.size; omega) (.slice V1 (zr E1 nv) C1)).setCell (p := ⟨w12.heap.size, 1, none⟩) (by show _ ≤ w12.heap.size; omega) (.slice U1 (zr E1 nf) D1))
        replace GV1 := Lib.hid (((GV1.out).set (p := ⟨w12.heap.size, 0, none⟩) (by show w12.heap.size < _; omega) (.slice V1 (zr E1 nv) C1)).set (p := ⟨w12.heap.size, 1, none⟩) (by show w12.heap.size < _; omega) (.slice U1 (zr E1 nf) D1))
        replace GF1 := Lib.hid (((GF1.out).set (p := ⟨w12.heap.size, 0, none⟩) (by show w12.heap.size < _; omega) (.slice V1 (zr E1 nv) C1)).set (p := ⟨w12.heap.size, 1, none⟩) (by show w12.heap.size < _; omega) (.slice U1 (zr E1 nf) D1))
        go_wp2_with (fail)
        generalize ((w13.setCell ⟨w12.heap.size, 0, none⟩ (.slice V1 (zr E1 nv) C1)).setCell ⟨w12.heap.size, 1, none⟩ (.slice U1 (zr E1 nf) D1)) = w14 at *
        clear X0 X1 HB HP fz_X0 fz_X1 fz_Y0 fz_Y1 fz_Z0 fz_Z1
        have X0 := n_X0
        clear n_X0
        have X1 := n_X1
        clear n_X1
        have fz_X0 := g_X0
        clear g_X0
        have fz_X1 := g_X1
        clear g_X1
        have fz_Y0 := g_Y0
        clear g_Y0
        have fz_Y1 := g_Y1
        clear g_Y1
        have fz_Z0 := g_Z0
        clear g_Z0
        have fz_Z1 := g_Z1
        clear g_Z1
        have HB := HB2
        have HP := HP2
        clear HB2 HP2
        subst h2
        have R2 := Lib.hid (T2z.out (by trivial))
        have zz2 : w12.heap.size + 1 + 1 + 1 ≤ w14.heap.size := by omega
        go_wp2_with (fail)
        refine (movedM_E E2 av af nv cv nf cf V F x y z _ (HV.out.kept (Below.trans HP.out (Below.mono (B := w14.heap.size) (by repeat (first | exact Below.refl _ _ | assumption | refine Below.drew ?_ | refine bdrewN ?_ _ | refine Below.setCell ?_ (by first | omega | (simp <;> omega)) _ | refine Below.alloc ?_ (by first | omega | (simp <;> omega)) _)) HP.out.size))) (HF.out.kept (Below.trans HP.out (Below.mono (B := w14.heap.size) (by repeat (first | exact Below.refl _ _ | assumption | refine Below.drew ?_ | refine bdrewN ?_ _ | refine Below.setCell ?_ (by first | omega | (simp <;> omega)) _ | refine Below.alloc ?_ (by first | omega | (simp <;> omega)) _)) HP.out.size))) (by omega) (by omega) HF0.out R2.out).mono ?_
        rintro e w15 ⟨V2, C2, U2, D2, rfl, rv2, rf2, hb⟩
        have B15 : Below w14.heap.size w14 w15 := hb
        replace m0 := cellk B15 l_m m0
        replace m1 := cellk B15 l_m m1
        replace b0 := cellk B15 l_b b0
        replace b1 := cellk B15 l_b b1
        replace b2 := cellk B15 l_b b2
        replace ma0 := cellk B15 l_ma ma0
        replace ma1 := cellk B15 l_ma ma1
        replace mb0 := cellk B15 l_mb mb0
        replace mb1 := cellk B15 l_mb mb1
        replace mc0 := cellk B15 l_mc mc0
        replace mc1 := cellk B15 l_mc mc1
        replace X0 := cellk B15 l_X X0
        replace X1 := cellk B15 l_X X1
        replace Y0 := cellk B15 l_Y Y0
        replace Y1 := cellk B15 l_Y Y1
        replace Z0 := cellk B15 l_Z Z0
        replace Z1 := cellk B15 l_Z Z1
        replace fz_X0 := (B15.frozen (p := ⟨w12.heap.size, 0, none⟩) l_X).trans fz_X0
        replace fz_X1 := (B15.frozen (p := ⟨w12.heap.size, 1, none⟩) l_X).trans fz_X1
        replace fz_Y0 := (B15.frozen (p := ⟨w12.heap.size + 1, 0, none⟩) l_Y).trans fz_Y0
        replace fz_Y1 := (B15.frozen (p := ⟨w12.heap.size + 1, 1, none⟩) l_Y).trans fz_Y1
        replace fz_Z0 := (B15.frozen (p := ⟨w12.heap.size + 1 + 1, 0, none⟩) l_Z).trans fz_Z0
        replace fz_Z1 := (B15.frozen (p := ⟨w12.heap.size + 1 + 1, 1, none⟩) l_Z).trans fz_Z1
        replace l_m := Nat.lt_of_lt_of_le l_m B15.size
        replace l_b := Nat.lt_of_lt_of_le l_b B15.size
        replace l_ma := Nat.lt_of_lt_of_le l_ma B15.size
        replace l_mb := Nat.lt_of_lt_of_le l_mb B15.size
        replace l_mc := Nat.lt_of_lt_of_le l_mc B15.size
        replace l_X := Nat.lt_of_lt_of_le l_X B15.size
        replace l_Y := Nat.lt_of_lt_of_le l_Y B15.size
        replace l_Z := Nat.lt_of_lt_of_le l_Z B15.size
        replace GV1 := Lib.hid (GV1.out.kept B15)
        replace GF1 := Lib.hid (GF1.out.kept B15)
        replace HB := Lib.hid (HB.out.trans (B15.mono HB.out.size))
        replace HP := Lib.hid (HP.out.trans (B15.mono HP.out.size))
        have GV2 := Lib.hid (rv2.weak (base' := w12.heap.size + 1 + 1 + 1) (by omega))
        clear rv2
        have GF2 := Lib.hid (rf2.weak (base' := w12.heap.size + 1 + 1 + 1) (by omega))
        clear rf2
        clear B15
        replace m0 : ((w15.setCell ⟨w12.heap.size + 1, 0, none⟩ (.slice V2 (zr E2 nv) C2)).setCell ⟨w12.heap.size + 1, 1, none⟩ (.slice U2 (zr E2 nf) D2)).cell? ⟨w3.heap.size, 0, none⟩ = some (.slice av nv cv) := (sc_other (ne_block (by omega))).trans ((sc_other (ne_block (by omega))).trans (m0))
        replace m1 : ((w15.setCell ⟨w12.heap.size + 1, 0, none⟩ (.slice V2 (zr E2 nv) C2)).setCell ⟨w12.heap.size + 1, 1, none⟩ (.slice U2 (zr E2 nf) D2)).cell? ⟨w3.heap.size, 1, none⟩ = some (.slice af nf cf) := (sc_other (ne_block (by omega))).trans ((sc_other (ne_block (by omega))).trans (m1))
        replace b0 : ((w15.setCell ⟨w12.heap.size + 1, 0, none⟩ (.slice V2 (zr E2 nv) C2)).setCell ⟨w12.heap.size + 1, 1, none⟩ (.slice U2 (zr E2 nf) D2)).cell? ⟨w6.heap.size, 0, none⟩ = some (.int .i64 x) := (sc_other (ne_block (by omega))).trans ((sc_other (ne_block (by omega))).trans (b0))
        replace b1 : ((w15.setCell ⟨w12.heap.size + 1, 0, none⟩ (.slice V2 (zr E2 nv) C2)).setCell ⟨w12.heap.size + 1, 1, none⟩ (.slice U2 (zr E2 nf) D2)).cell? ⟨w6.heap.size, 1, none⟩ = some (.int .i64 y) := (sc_other (ne_block (by omega))).trans ((sc_other (ne_block (by omega))).trans (b1))
        replace b2 : ((w15.setCell ⟨w12.heap.size + 1, 0, none⟩ (.slice V2 (zr E2 nv) C2)).setCell ⟨w12.heap.size + 1, 1, none⟩ (.slice U2 (zr E2 nf) D2)).cell? ⟨w6.heap.size, 2, none⟩ = some (.int .i64 z) := (sc_other (ne_block (by omega))).trans ((sc_other (ne_block (by omega))).trans (b2))
        replace ma0 : ((w15.setCell ⟨w12.heap.size + 1, 0, none⟩ (.slice V2 (zr E2 nv) C2)).setCell ⟨w12.heap.size + 1, 1, none⟩ (.slice U2 (zr E2 nf) D2)).cell? ⟨w8.heap.size, 0, none⟩ = some (.slice v1 (zr E1 nv) c1) := (sc_other (ne_block (by omega))).trans ((sc_other (ne_block (by omega))).trans (ma0))
        replace ma1 : ((w15.setCell ⟨w12.heap.size + 1, 0, none⟩ (.slice V2 (zr E2 nv) C2)).setCell ⟨w12.heap.size + 1, 1, none⟩ (.slice U2 (zr E2 nf) D2)).cell? ⟨w8.heap.size, 1, none⟩ = some (.slice u1 (zr E1 nf) d1) := (sc_other (ne_block (by omega))).trans ((sc_other (ne_block (by omega))).trans (ma1))
        replace mb0 : ((w15.setCell ⟨w12.heap.size + 1, 0, none⟩ (.slice V2 (zr E2 nv) C2)).setCell ⟨w12.heap.size + 1, 1, none⟩ (.slice U2 (zr E2 nf) D2)).cell? ⟨w9.heap.size, 0, none⟩ = some (.slice v2 (zr E2 nv) c2) := (sc_other (ne_block (by omega))).trans ((sc_other (ne_block (by omega))).trans (mb0))
        replace mb1 : ((w15.setCell ⟨w12.heap.size + 1, 0, none⟩ (.slice V2 (zr E2 nv) C2)).setCell ⟨w12.heap.size + 1, 1, none⟩ (.slice U2 (zr E2 nf) D2)).cell? ⟨w9.heap.size, 1, none⟩ = some (.slice u2 (zr E2 nf) d2) := (sc_other (ne_block (by omega))).trans ((sc_other (ne_block (by omega))).trans (mb1))
        replace mc0 : ((w15.setCell ⟨w12.heap.size + 1, 0, none⟩ (.slice V2 (zr E2 nv) C2)).setCell ⟨w12.heap.size + 1, 1, none⟩ (.slice U2 (zr E2 nf) D2)).cell? ⟨w10.heap.size, 0, none⟩ = some (.slice v3 (zr E3 nv) c3) := (sc_other (ne_block (by omega))).trans ((sc_other (ne_block (by omega))).trans (mc0))
        replace mc1 : ((w15.setCell ⟨w12.heap.size + 1, 0, none⟩ (.slice V2 (zr E2 nv) C2)).setCell ⟨w12.heap.size + 1, 1, none⟩ (.slice U2 (zr E2 nf) D2)).cell? ⟨w10.heap.size, 1, none⟩ = some (.slice u3 (zr E3 nf) d3) := (sc_other (ne_block (by omega))).trans ((sc_other (ne_block (by omega))).trans (mc1))
        replace X0 : ((w15.setCell ⟨w12.heap.size + 1, 0, none⟩ (.slice V2 (zr E2 nv) C2)).setCell ⟨w12.heap.size + 1, 1, none⟩ (.slice U2 (zr E2 nf) D2)).cell? ⟨w12.heap.size, 0, none⟩ = some (.slice V1 (zr E1 nv) C1) := (sc_other (ne_block (by omega))).trans ((sc_other (ne_block (by omega))).trans (X0))
        replace X1 : ((w15.setCell ⟨w12.heap.size + 1, 0, none⟩ (.slice V2 (zr E2 nv) C2)).setCell ⟨w12.heap.size + 1, 1, none⟩ (.slice U2 (zr E2 nf) D2)).cell? ⟨w12.heap.size, 1, none⟩ = some (.slice U1 (zr E1 nf) D1) := (sc_other (ne_block (by omega))).trans ((sc_other (ne_block (by omega))).trans (X1))
        replace Z0 : ((w15.setCell ⟨w12.heap.size + 1, 0, none⟩ (.slice V2 (zr E2 nv) C2)).setCell ⟨w12.heap.size + 1, 1, none⟩ (.slice U2 (zr E2 nf) D2)).cell? ⟨w12.heap.size + 1 + 1, 0, none⟩ = some (.slice none 0 0) := (sc_other (ne_block (by omega))).trans ((sc_other (ne_block (by omega))).trans (Z0))
        replace Z1 : ((w15.setCell ⟨w12.heap.size + 1, 0, none⟩ (.slice V2 (zr E2 nv) C2)).setCell ⟨w12.heap.size + 1, 1, none⟩ (.slice U2 (zr E2 nf) D2)).cell? ⟨w12.heap.size + 1 + 1, 1, none⟩ = some (.slice none 0 0) := (sc_other (ne_block (by omega))).trans ((sc_other (ne_block (by omega))).trans (Z1))
        have n_Y0 : ((w15.setCell ⟨w12.heap.size + 1, 0, none⟩ (.slice V2 (zr E2 nv) C2)).setCell ⟨w12.heap.size + 1, 1, none⟩ (.slice U2 (zr E2 nf) D2)).cell? ⟨w12.heap.size + 1, 0, none⟩ = some (.slice V2 (zr E2 nv) C2) := (sc_other (ne_off (by decide))).trans (sc_same (Y0))
        have n_Y1 : ((w15.setCell ⟨w12.heap.size + 1, 0, none⟩ (.slice V2 (zr E2 nv) C2)).setCell ⟨w12.heap.size + 1, 1, none⟩ (.slice U2 (zr E2 nf) D2)).cell? ⟨w12.heap.size + 1, 1, none⟩ = some (.slice U2 (zr E2 nf) D2) := sc_same ((sc_other (ne_off (by decide))).trans (Y1))
        have g_X0 : ((w15.setCell ⟨w12.heap.size + 1, 0, none⟩ (.slice V2 (zr E2 nv) C2)).setCell ⟨w12.heap.size + 1, 1, none⟩ (.slice U2 (zr E2 nf) D2)).frozen? ⟨w12.heap.size, 0, none⟩ = false := by simp [go_sem, fz_X0]
        have g_X1 : ((w15.setCell ⟨w12.heap.size + 1, 0, none⟩ (.slice V2 (zr E2 nv) C2)).setCell ⟨w12.heap.size + 1, 1, none⟩ (.slice U2 (zr E2 nf) D2)).frozen? ⟨w12.heap.size, 1, none⟩ = false := by simp [go_sem, fz_X1]
        have g_Y0 : ((w15.setCell ⟨w12.heap.size + 1, 0, none⟩ (.slice V2 (zr E2 nv) C2)).setCell ⟨w12.heap.size + 1, 1, none⟩ (.slice U2 (zr E2 nf) D2)).frozen? ⟨w12.heap.size + 1, 0, none⟩ = false := by simp [go_sem, fz_Y0]
        have g_Y1 : ((w15.setCell ⟨w12.heap.size + 1, 0, none⟩ (.slice V2 (zr E2 nv) C2)).setCell ⟨w12.heap.size + 1, 1, none⟩ (.slice U2 (zr E2 nf) D2)).frozen? ⟨w12.heap.size + 1, 1, none⟩ = false := by simp [go_sem, fz_Y1]
        have g_Z0 : ((w15.setCell ⟨w12.heap.size + 1, 0, none⟩ (.slice V2 (zr E2 nv) C2)).setCell ⟨w12.heap.size + 1, 1, none⟩ (.slice U2 (zr E2 nf) D2)).frozen? ⟨w12.heap.size + 1 + 1, 0, none⟩ = false := by simp [go_sem, fz_Z0]
        have g_Z1 : ((w15.setCell ⟨w12.heap.size + 1, 0, none⟩ (.slice V2 (zr E2 nv) C2)).setCell ⟨w12.heap.size + 1, 1, none⟩ (.slice U2 (zr E2 nf) D2)).frozen? ⟨w12.heap.size + 1 + 1, 1, none⟩ = false := by simp [go_sem, fz_Z1]
        replace l_m : w3.heap.size < ((w15.setCell ⟨w12.heap.size + 1, 0, none⟩ (.slice V2 (zr E2 nv) C2)).setCell ⟨w12.heap.size + 1, 1, none⟩ (.slice U2 (zr E2 nf) D2)).heap.size := by simpa [World.setCell] using l_m
        replace l_b : w6.heap.size < ((w15.setCell ⟨w12.heap.size + 1, 0, none⟩ (.slice V2 (zr E2 nv) C2)).setCell ⟨w12.heap.size + 1, 1, none⟩ (.slice U2 (zr E2 nf) D2)).heap.size := by simpa [World.setCell] using l_b
        replace l_ma : w8.heap.size < ((w15.setCell ⟨w12.heap.size + 1, 0, none⟩ (.slice V2 (zr E2 nv) C2)).setCell ⟨w12.heap.size + 1, 1, none⟩ (.slice U2 (zr E2 nf) D2)).heap.size := by simpa [World.setCell] using l_ma
        replace l_mb : w9.heap.size < ((w15.setCell ⟨w12.heap.size + 1, 0, none⟩ (.slice V2 (zr E2 nv) C2)).setCell ⟨w12.heap.size + 1, 1, none⟩ (.slice U2 (zr E2 nf) D2)).heap.size := by simpa [World.setCell] using l_mb
        replace l_mc : w10.heap.size < ((w15.setCell ⟨w12.heap.size + 1, 0, none⟩ (.slice V2 (zr E2 nv) C2)).setCell ⟨w12.heap.size + 1, 1, none⟩ (.slice U2 (zr E2 nf) D2)).heap.size := by simpa [World.setCell] using l_mc
        replace l_X : w12.heap.size < ((w15.setCell ⟨w12.heap.size + 1, 0, none⟩ (.slice V2 (zr E2 nv) C2)).setCell ⟨w12.heap.size + 1, 1, none⟩ (.slice U2 (zr E2 nf) D2)).heap.size := by simpa [World.setCell] using l_X
        replace l_Y : w12.heap.size + 1 < ((w15.setCell ⟨w12.heap.size + 1, 0, none⟩ (.slice V2 (zr E2 nv) C2)).setCell ⟨w12.heap.size + 1, 1, none⟩ (.slice U2 (zr E2 nf) D2)).heap.size := by simpa [World.setCell] using l_Y
        replace l_Z : w12.heap.size + 1 + 1 < ((w15.setCell ⟨w12.heap.size + 1, 0, none⟩ (.slice V2 (zr E2 nv) C2)).setCell ⟨w12.heap.size + 1, 1, none⟩ (.slice U2 (zr E2 nf) D2)).heap.size := by simpa [World.setCell] using l_Z
        have HB2 := Lib.hid (((HB.out).setCell (p := ⟨w12.heap.size + 1, 0, none⟩) (by show _ ≤ w12.heap.size + 1; omega) (.slice V2 (zr E2 nv) C2)).setCell (p := ⟨w12.heap.size + 1, 1, none⟩) (by show _ ≤ w12.heap.size + 1; omega) (.slice U2 (zr E2 nf) D2))
        have HP2 := Lib.hid (((HP.out).setCell (p := ⟨w12.heap.size + 1, 0, none⟩) (by show _ ≤ w12.heap.size + 1; omega) (.slice V2 (zr E2 nv) C2)).setCell (p := ⟨w12.heap.size + 1, 1, none⟩) (by show _ ≤ w12.heap.size + 1; omega) (.slice U2 (zr E2 nf) D2))
        replace GV1 := Lib.hid (((GV1.out).set (p := ⟨w12.heap.size + 1, 0, none⟩) (by show w12.heap.size + 1 < _; omega) (.slice V2 (zr E2 nv) C2)).set (p := ⟨w12.heap.size + 1, 1, none⟩) (by show w12.heap.size + 1 < _; omega) (.slice U2 (zr E2 nf) D2))
        replace GF1 := Lib.hid (((GF1.out).set (p := ⟨w12.heap.size + 1, 0, none⟩) (by show w12.heap.size + 1 < _; omega) (.slice V2 (zr E2 nv) C2)).set (p := ⟨w12.heap.size + 1, 1, none⟩) (by show w12.heap.size + 1 < _; omega) (.slice U2 (zr E2 nf) D2))
        replace GV2 := Lib.hid (((GV2.out).set (p := ⟨w12.heap.size + 1, 0, none⟩) (by show w12.heap.size + 1 < _; omega) (.slice V2 (zr E2 nv) C2)).set (p := ⟨w12.heap.size + 1, 1, none⟩) (by show w12.heap.size + 1 < _; omega) (.slice U2 (zr E2 nf) D2))
        replace GF2 := Lib.hid (((GF2.out).set (p := ⟨w12.heap.size + 1, 0, none⟩) (by show w12.heap.size + 1 < _; omega) (.slice V2 (zr E2 nv) C2)).set (p := ⟨w12.heap.size + 1, 1, none⟩) (by show w12.heap.size + 1 < _; omega) (.slice U2 (zr E2 nf) D2))
        have e3 : (O3 == 0) = false := by simpa using h3
        obtain rfl : E3 = O3 := T3n.out h3
        simp only [zr_not h3] at mc0 mc1
        go_wp2_with (fail)
        generalize ((w15.setCell ⟨w12.heap.size + 1, 0, none⟩ (.slice V2 (zr E2 nv) C2)).setCell ⟨w12.heap.size + 1, 1, none⟩ (.slice U2 (zr E2 nf) D2)) = w16 at *
        clear Y0 Y1 HB HP fz_X0 fz_X1 fz_Y0 fz_Y1 fz_Z0 fz_Z1
        have Y0 := n_Y0
        clear n_Y0
        have Y1 := n_Y1
        clear n_Y1
        have fz_X0 := g_X0
        clear g_X0
        have fz_X1 := g_X1
        clear g_X1
        have fz_Y0 := g_Y0
        clear g_Y0
        have fz_Y1 := g_Y1
        clear g_Y1
        have fz_Z0 := g_Z0
        clear g_Z0
        have fz_Z1 := g_Z1
        clear g_Z1
        have HB := HB2
        have HP := HP2
        clear HB2 HP2
        go_wp2_with (fail)
        refine (sameMesh_any v1 V1 u1 U1 _ c1 C1 _ d1 D1 (fun i => qn a q.toNat (V i)) F _ (HV1.out.row3.kept (Below.trans HP.out (Below.mono (B := w16.heap.size) (by repeat (first | exact Below.refl _ _ | assumption | refine Below.drew ?_ | refine bdrewN ?_ _ | refine Below.setCell ?_ (by first | omega | (simp <;> omega)) _ | refine Below.alloc ?_ (by first | omega | (simp <;> omega)) _)) HP.out.size))) (GV1.out.row3.kept (by repeat (first | exact Below.refl _ _ | assumption | refine Below.drew ?_ | refine bdrewN ?_ _ | refine Below.setCell ?_ (by first | omega | (simp <;> omega)) _ | refine Below.alloc ?_ (by first | omega | (simp <;> omega)) _))) (HF1.out.row3.kept (Below.trans HP.out (Below.mono (B := w16.heap.size) (by repeat (first | exact Below.refl _ _ | assumption | refine Below.drew ?_ | refine bdrewN ?_ _ | refine Below.setCell ?_ (by first | omega | (simp <;> omega)) _ | refine Below.alloc ?_ (by first | omega | (simp <;> omega)) _)) HP.out.size))) (GF1.out.row3.kept (by repeat (first | exact Below.refl _ _ | assumption | refine Below.drew ?_ | refine bdrewN ?_ _ | refine Below.setCell ?_ (by first | omega | (simp <;> omega)) _ | refine Below.alloc ?_ (by first | omega | (simp <;> omega)) _))) (by have := zr_le E1 nv; omega) (by have := zr_le E1 nf; omega)).mono ?_
        rintro e w17 ⟨rfl, hb⟩
        have B17 : Below w16.heap.size w16 w17 := hb
        replace m0 := cellk B17 l_m m0
        replace m1 := cellk B17 l_m m1
        replace b0 := cellk B17 l_b b0
        replace b1 := cellk B17 l_b b1
        replace b2 := cellk B17 l_b b2
        replace ma0 := cellk B17 l_ma ma0
        replace ma1 := cellk B17 l_ma ma1
        replace mb0 := cellk B17 l_mb mb0
        replace mb1 := cellk B17 l_mb mb1
        replace mc0 := cellk B17 l_mc mc0
        replace mc1 := cellk B17 l_mc mc1
        replace X0 := cellk B17 l_X X0
        replace X1 := cellk B17 l_X X1
        replace Y0 := cellk B17 l_Y Y0
        replace Y1 := cellk B17 l_Y Y1
        replace Z0 := cellk B17 l_Z Z0
        replace Z1 := cellk B17 l_Z Z1
        replace fz_X0 := (B17.frozen (p := ⟨w12.heap.size, 0, none⟩) l_X).trans fz_X0
        replace fz_X1 := (B17.frozen (p := ⟨w12.heap.size, 1, none⟩) l_X).trans fz_X1
        replace fz_Y0 := (B17.frozen (p := ⟨w12.heap.size + 1, 0, none⟩) l_Y).trans fz_Y0
        replace fz_Y1 := (B17.frozen (p := ⟨w12.heap.size + 1, 1, none⟩) l_Y).trans fz_Y1
        replace fz_Z0 := (B17.frozen (p := ⟨w12.heap.size + 1 + 1, 0, none⟩) l_Z).trans fz_Z0
        replace fz_Z1 := (B17.frozen (p := ⟨w12.heap.size + 1 + 1, 1, none⟩) l_Z).trans fz_Z1
        replace l_m := Nat.lt_of_lt_of_le l_m B17.size
        replace l_b := Nat.lt_of_lt_of_le l_b B17.size
        replace l_ma := Nat.lt_of_lt_of_le l_ma B17.size
        replace l_mb := Nat.lt_of_lt_of_le l_mb B17.size
        replace l_mc := Nat.lt_of_lt_of_le l_mc B17.size
        replace l_X := Nat.lt_of_lt_of_le l_X B17.size
        replace l_Y := Nat.lt_of_lt_of_le l_Y B17.size
        replace l_Z := Nat.lt_of_lt_of_le l_Z B17.size
        replace GV1 := Lib.hid (GV1.out.kept B17)
        replace GF1 := Lib.hid (GF1.out.kept B17)
        replace GV2 := Lib.hid (GV2.out.kept B17)
        replace GF2 := Lib.hid (GF2.out.kept B17)
        replace HB := Lib.hid (HB.out.trans (B17.mono HB.out.size))
        replace HP := Lib.hid (HP.out.trans (B17.mono HP.out.size))
        clear B17
        go_wp2_with (fail)
        refine (sameMesh_any v2 V2 u2 U2 _ c2 C2 _ d2 D2 (movV V x y z) F _ (HV2.out.row3.kept (Below.trans HP.out (Below.mono (B := w17.heap.size) (by repeat (first | exact Below.refl _ _ | assumption | refine Below.drew ?_ | refine bdrewN ?_ _ | refine Below.setCell ?_ (by first | omega | (simp <;> omega)) _ | refine Below.alloc ?_ (by first | omega | (simp <;> omega)) _)) HP.out.size))) (GV2.out.row3.kept (by repeat (first | exact Below.refl _ _ | assumption | refine Below.drew ?_ | refine bdrewN ?_ _ | refine Below.setCell ?_ (by first | omega | (simp <;> omega)) _ | refine Below.alloc ?_ (by first | omega | (simp <;> omega)) _))) (HF2.out.row3.kept (Below.trans HP.out (Below.mono (B := w17.heap.size) (by repeat (first | exact Below.refl _ _ | assumption | refine Below.drew ?_ | refine bdrewN ?_ _ | refine Below.setCell ?_ (by first | omega | (simp <;> omega)) _ | refine Below.alloc ?_ (by first | omega | (simp <;> omega)) _)) HP.out.size))) (GF2.out.row3.kept (by repeat (first | exact Below.refl _ _ | assumption | refine Below.drew ?_ | refine bdrewN ?_ _ | refine Below.setCell ?_ (by first | omega | (simp <;> omega)) _ | refine Below.alloc ?_ (by first | omega | (simp <;> omega)) _))) (by have := zr_le E2 nv; omega) (by have := zr_le E2 nf; omega)).mono ?_
        rintro e w18 ⟨rfl, hb⟩
        have B18 : Below w17.heap.size w17 w18 := hb
        replace m0 := cellk B18 l_m m0
        replace m1 := cellk B18 l_m m1
        replace b0 := cellk B18 l_b b0
        replace b1 := cellk B18 l_b b1
        replace b2 := cellk B18 l_b b2
        replace ma0 := cellk B18 l_ma ma0
        replace ma1 := cellk B18 l_ma ma1
        replace mb0 := cellk B18 l_mb mb0
        replace mb1 := cellk B18 l_mb mb1
        replace mc0 := cellk B18 l_mc mc0
        replace mc1 := cellk B18 l_mc mc1
        replace X0 := cellk B18 l_X X0
        replace X1 := cellk B18 l_X X1
        replace Y0 := cellk B18 l_Y Y0
        replace Y1 := cellk B18 l_Y Y1
        replace Z0 := cellk B18 l_Z Z0
        replace Z1 := cellk B18 l_Z Z1
        replace fz_X0 := (B18.frozen (p := ⟨w12.heap.size, 0, none⟩) l_X).trans fz_X0
        replace fz_X1 := (B18.frozen (p := ⟨w12.heap.size, 1, none⟩) l_X).trans fz_X1
        replace fz_Y0 := (B18.frozen (p := ⟨w12.heap.size + 1, 0, none⟩) l_Y).trans fz_Y0
        replace fz_Y1 := (B18.frozen (p := ⟨w12.heap.size + 1, 1, none⟩) l_Y).trans fz_Y1
        replace fz_Z0 := (B18.frozen (p := ⟨w12.heap.size + 1 + 1, 0, none⟩) l_Z).trans fz_Z0
        replace fz_Z1 := (B18.frozen (p := ⟨w12.heap.size + 1 + 1, 1, none⟩) l_Z).trans fz_Z1
        replace l_m := Nat.lt_of_lt_of_le l_m B18.size
        replace l_b := Nat.lt_of_lt_of_le l_b B18.size
        replace l_ma := Nat.lt_of_lt_of_le l_ma B18.size
        replace l_mb := Nat.lt_of_lt_of_le l_mb B18.size
        replace l_mc := Nat.lt_of_lt_of_le l_mc B18.size
        replace l_X := Nat.lt_of_lt_of_le l_X B18.size
        replace l_Y := Nat.lt_of_lt_of_le l_Y B18.size
        replace l_Z := Nat.lt_of_lt_of_le l_Z B18.size
        replace GV1 := Lib.hid (GV1.out.kept B18)
        replace GF1 := Lib.hid (GF1.out.kept B18)
        replace GV2 := Lib.hid (GV2.out.kept B18)
        replace GF2 := Lib.hid (GF2.out.kept B18)
        replace HB := Lib.hid (HB.out.trans (B18.mono HB.out.size))
        replace HP := Lib.hid (HP.out.trans (B18.mono HP.out.size))
        clear B18
        go_wp2_with (fail)
        refine (sameMesh_any v3 none u3 none 0 c3 0 0 d3 0 V F _ (.inl rfl) (.inl rfl) (.inl rfl) (.inl rfl) (by omega) (by omega)).mono ?_
        rintro e w19 ⟨rfl, hb⟩
        have B19 : Below w18.heap.size w18 w19 := hb
        replace m0 := cellk B19 l_m m0
        replace m1 := cellk B19 l_m m1
        replace b0 := cellk B19 l_b b0
        replace b1 := cellk B19 l_b b1
        replace b2 := cellk B19 l_b b2
        replace ma0 := cellk B19 l_ma ma0
        replace ma1 := cellk B19 l_ma ma1
        replace mb0 := cellk B19 l_mb mb0
        replace mb1 := cellk B19 l_mb mb1
        replace mc0 := cellk B19 l_mc mc0
        replace mc1 := cellk B19 l_mc mc1
        replace X0 := cellk B19 l_X X0
        replace X1 := cellk B19 l_X X1
        replace Y0 := cellk B19 l_Y Y0
        replace Y1 := cellk B19 l_Y Y1
        replace Z0 := cellk B19 l_Z Z0
        replace Z1 := cellk B19 l_Z Z1
        replace fz_X0 := (B19.frozen (p := ⟨w12.heap.size, 0, none⟩) l_X).trans fz_X0
        replace fz_X1 := (B19.frozen (p := ⟨w12.heap.size, 1, none⟩) l_X).trans fz_X1
        replace fz_Y0 := (B19.frozen (p := ⟨w12.heap.size + 1, 0, none⟩) l_Y).trans fz_Y0
        replace fz_Y1 := (B19.frozen (p := ⟨w12.heap.size + 1, 1, none⟩) l_Y).trans fz_Y1
        replace fz_Z0 := (B19.frozen (p := ⟨w12.heap.size + 1 + 1, 0, none⟩) l_Z).trans fz_Z0
        replace fz_Z1 := (B19.frozen (p := ⟨w12.heap.size + 1 + 1, 1, none⟩) l_Z).trans fz_Z1
        replace l_m := Nat.lt_of_lt_of_le l_m B19.size
        replace l_b := Nat.lt_of_lt_of_le l_b B19.size
        replace l_ma := Nat.lt_of_lt_of_le l_ma B19.size
        replace l_mb := Nat.lt_of_lt_of_le l_mb B19.size
        replace l_mc := Nat.lt_of_lt_of_le l_mc B19.size
        replace l_X := Nat.lt_of_lt_of_le l_X B19.size
        replace l_Y := Nat.lt_of_lt_of_le l_Y B19.size
        replace l_Z := Nat.lt_of_lt_of_le l_Z B19.size
        replace GV1 := Lib.hid (GV1.out.kept B19)
        replace GF1 := Lib.hid (GF1.out.kept B19)
        replace GV2 := Lib.hid (GV2.out.kept B19)
        replace GF2 := Lib.hid (GF2.out.kept B19)
        replace HB := Lib.hid (HB.out.trans (B19.mono HB.out.size))
        replace HP := Lib.hid (HP.out.trans (B19.mono HP.out.size))
        clear B19
        go_wp2_with (fail)
        refine (meshed_any _).mono ?_
        rintro e w20 ⟨rfl, hb⟩
        have B20 : Below w19.heap.size w19 w20 := hb
        replace m0 := cellk B20 l_m m0
        replace m1 := cellk B20 l_m m1
        replace b0 := cellk B20 l_b b0
        replace b1 := cellk B20 l_b b1
        replace b2 := cellk B20 l_b b2
        replace ma0 := cellk B20 l_ma ma0
        replace ma1 := cellk B20 l_ma ma1
        replace mb0 := cellk B20 l_mb mb0
        replace mb1 := cellk B20 l_mb mb1
        replace mc0 := cellk B20 l_mc mc0
        replace mc1 := cellk B20 l_mc mc1
        replace X0 := cellk B20 l_X X0
        replace X1 := cellk B20 l_X X1
        replace Y0 := cellk B20 l_Y Y0
        replace Y1 := cellk B20 l_Y Y1
        replace Z0 := cellk B20 l_Z Z0
        replace Z1 := cellk B20 l_Z Z1
        replace fz_X0 := (B20.frozen (p := ⟨w12.heap.size, 0, none⟩) l_X).trans fz_X0
        replace fz_X1 := (B20.frozen (p := ⟨w12.heap.size, 1, none⟩) l_X).trans fz_X1
        replace fz_Y0 := (B20.frozen (p := ⟨w12.heap.size + 1, 0, none⟩) l_Y).trans fz_Y0
        replace fz_Y1 := (B20.frozen (p := ⟨w12.heap.size + 1, 1, none⟩) l_Y).trans fz_Y1
        replace fz_Z0 := (B20.frozen (p := ⟨w12.heap.size + 1 + 1, 0, none⟩) l_Z).trans fz_Z0
        replace fz_Z1 := (B20.frozen (p := ⟨w12.heap.size + 1 + 1, 1, none⟩) l_Z).trans fz_Z1
        replace l_m := Nat.lt_of_lt_of_le l_m B20.size
        replace l_b := Nat.lt_of_lt_of_le l_b B20.size
        replace l_ma := Nat.lt_of_lt_of_le l_ma B20.size
        replace l_mb := Nat.lt_of_lt_of_le l_mb B20.size
        replace l_mc := Nat.lt_of_lt_of_le l_mc B20.size
        replace l_X := Nat.lt_of_lt_of_le l_X B20.size
        replace l_Y := Nat.lt_of_lt_of_le l_Y B20.size
        replace l_Z := Nat.lt_of_lt_of_le l_Z B20.size
        replace GV1 := Lib.hid (GV1.out.kept B20)
        replace GF1 := Lib.hid (GF1.out.kept B20)
        replace GV2 := Lib.hid (GV2.out.kept B20)
        replace GF2 := Lib.hid (GF2.out.kept B20)
        replace HB := Lib.hid (HB.out.trans (B20.mono HB.out.size))
        replace HP := Lib.hid (HP.out.trans (B20.mono HP.out.size))
        clear B20
        have R := Lib.hid ((HM.out.toBelow w.heap.size (Nat.le_refl _) (fun k hk => by omega)).trans (HB.out.mono hw6))
        go_wp2
        go_ret
        exact ⟨rfl, R.out⟩
    · skip
      by_cases h3 : O3 = 0
      · skip
        subst h1
        have Q1 := Lib.hid (T1z.out (by trivial)).2
        have R1 := Lib.hid (T1z.out (by trivial)).1
        have x_m1 : w3.heap.size < w12.heap.size + 1 := by omega
        have x_m2 : w3.heap.size < w12.heap.size + 1 + 1 := by omega
        have x_b1 : w6.heap.size < w12.heap.size + 1 := by omega
        have x_b2 : w6.heap.size < w12.heap.size + 1 + 1 := by omega
        have x_ma1 : w8.heap.size < w12.heap.size + 1 := by omega
        have x_ma2 : w8.heap.size < w12.heap.size + 1 + 1 := by omega
        have x_mb1 : w9.heap.size < w12.heap.size + 1 := by omega
        have x_mb2 : w9.heap.size < w12.heap.size + 1 + 1 := by omega
        have x_mc1 : w10.heap.size < w12.heap.size + 1 := by omega
        have x_mc2 : w10.heap.size < w12.heap.size + 1 + 1 := by omega
        go_wp2_with (fail)
        clear x_m1 x_m2 x_b1 x_b2 x_ma1 x_ma2 x_mb1 x_mb2 x_mc1 x_mc2
        refine (turnedM_E E1 av af nv cv nf cf V F a q _ (HV.out.kept (Below.trans HP.out (Below.mono (B := w12.heap.size) (by repeat (first | exact Below.refl _ _ | assumption | refine Below.drew ?_ | refine bdrewN ?_ _ | refine Below.setCell ?_ (by first | omega | (simp <;> omega)) _ | refine Below.alloc ?_ (by first | omega | (simp <;> omega)) _)) HP.out.size))) (HF.out.kept (Below.trans HP.out (Below.mono (B := w12.heap.size) (by repeat (first | exact Below.refl _ _ | assumption | refine Below.drew ?_ | refine bdrewN ?_ _ | refine Below.setCell ?_ (by first | omega | (simp <;> omega)) _ | refine Below.alloc ?_ (by first | omega | (simp <;> omega)) _)) HP.out.size))) (by omega) (by omega) Q1.out R1.out).mono ?_
        rintro e w13 ⟨V1, C1, U1, D1, rfl, rv1, rf1, hb⟩
        have B13 : Below w12.heap.size w12 w13 := Below.trans (by repeat (first | exact Below.refl _ _ | assumption | refine Below.drew ?_ | refine bdrewN ?_ _ | refine Below.setCell ?_ (by first | omega | (simp <;> omega)) _ | refine Below.alloc ?_ (by first | omega | (simp <;> omega)) _)) (hb.mono (by simp <;> omega))
        replace m0 := cellk B13 l_m m0
        replace m1 := cellk B13 l_m m1
        replace b0 := cellk B13 l_b b0
        replace b1 := cellk B13 l_b b1
        replace b2 := cellk B13 l_b b2
        replace ma0 := cellk B13 l_ma ma0
        replace ma1 := cellk B13 l_ma ma1
        replace mb0 := cellk B13 l_mb mb0
        replace mb1 := cellk B13 l_mb mb1
        replace mc0 := cellk B13 l_mc mc0
        replace mc1 := cellk B13 l_mc mc1
        replace l_m := Nat.lt_of_lt_of_le l_m B13.size
        replace l_b := Nat.lt_of_lt_of_le l_b B13.size
        replace l_ma := Nat.lt_of_lt_of_le l_ma B13.size
        replace l_mb := Nat.lt_of_lt_of_le l_mb B13.size
        replace l_mc := Nat.lt_of_lt_of_le l_mc B13.size
        have X0 : w13.cell? ⟨w12.heap.size, 0, none⟩ = some (.slice none 0 0) := by rw [hb.cell (by simp <;> omega)]; simp [go_sem]
        have fz_X0 : w13.frozen? ⟨w12.heap.size, 0, none⟩ = false := by rw [hb.frozen (by simp <;> omega)]; simp [go_sem]
        have X1 : w13.cell? ⟨w12.heap.size, 1, none⟩ = some (.slice none 0 0) := by rw [hb.cell (by simp <;> omega)]; simp [go_sem]
        have fz_X1 : w13.frozen? ⟨w12.heap.size, 1, none⟩ = false := by rw [hb.frozen (by simp <;> omega)]; simp [go_sem]
        have l_X : w12.heap.size < w13.heap.size := by have := hb.size; simp at this; omega
        have Y0 : w13.cell? ⟨w12.heap.size + 1, 0, none⟩ = some (.slice none 0 0) := by rw [hb.cell (by simp <;> omega)]; simp [go_sem]
        have fz_Y0 : w13.frozen? ⟨w12.heap.size + 1, 0, none⟩ = false := by rw [hb.frozen (by simp <;> omega)]; simp [go_sem]
        have Y1 : w13.cell? ⟨w12.heap.size + 1, 1, none⟩ = some (.slice none 0 0) := by rw [hb.cell (by simp <;> omega)]; simp [go_sem]
        have fz_Y1 : w13.frozen? ⟨w12.heap.size + 1, 1, none⟩ = false := by rw [hb.frozen (by simp <;> omega)]; simp [go_sem]
        have l_Y : w12.heap.size + 1 < w13.heap.size := by have := hb.size; simp at this; omega
        have Z0 : w13.cell? ⟨w12.heap.size + 1 + 1, 0, none⟩ = some (.slice none 0 0) := by rw [hb.cell (by simp <;> omega)]; simp [go_sem]
        have fz_Z0 : w13.frozen? ⟨w12.heap.size + 1 + 1, 0, none⟩ = false := by rw [hb.frozen (by simp <;> omega)]; simp [go_sem]
        have Z1 : w13.cell? ⟨w12.heap.size + 1 + 1, 1, none⟩ = some (.slice none 0 0) := by rw [hb.cell (by simp <;> omega)]; simp [go_sem]
        have fz_Z1 : w13.frozen? ⟨w12.heap.size + 1 + 1, 1, none⟩ = false := by rw [hb.frozen (by simp <;> omega)]; simp [go_sem]
        have l_Z : w12.heap.size + 1 + 1 < w13.heap.size := by have := hb.size; simp at this; omega
        replace HB := Lib.hid (HB.out.trans (B13.mono HB.out.size))
        replace HP := Lib.hid (HP.out.trans (B13.mono HP.out.size))
        have GV1 := Lib.hid (rv1.weak (base' := w12.heap.size + 1 + 1 + 1) (by have := HP.out.size; simp <;> omega))
        clear rv1
        have GF1 := Lib.hid (rf1.weak (base' := w12.heap.size + 1 + 1 + 1) (by have := HP.out.size; simp <;> omega))
        clear rf1
        clear hb B13
        replace m0 : ((w13.setCell ⟨w12.heap.size, 0, none⟩ (.slice V1 (zr E1 nv) C1)).setCell ⟨w12.heap.size, 1, none⟩ (.slice U1 (zr E1 nf) D1)).cell? ⟨w3.heap.size, 0, none⟩ = some (.slice av nv cv) := (sc_other (ne_block (by omega))).trans ((sc_other (ne_block (by omega))).trans (m0))
        replace m1 : ((w13.setCell ⟨w12.heap.size, 0, none⟩ (.slice V1 (zr E1 nv) C1)).setCell ⟨w12.heap.size, 1, none⟩ (.slice U1 (zr E1 nf) D1)).cell? ⟨w3.heap.size, 1, none⟩ = some (.slice af nf cf) := (sc_other (ne_block (by omega))).trans ((sc_other (ne_block (by omega))).trans (m1))
        replace b0 : ((w13.setCell ⟨w12.heap.size, 0, none⟩ (.slice V1 (zr E1 nv) C1)).setCell ⟨w12.heap.size, 1, none⟩ (.slice U1 (zr E1 nf) D1)).cell? ⟨w6.heap.size, 0, none⟩ = some (.int .i64 x) := (sc_other (ne_block (by omega))).trans ((sc_other (ne_block (by omega))).trans (b0))
        replace b1 : ((w13.setCell ⟨w12.heap.size, 0, none⟩ (.slice V1 (zr E1 nv) C1)).setCell ⟨w12.heap.size, 1, none⟩ (.slice U1 (zr E1 nf) D1)).cell? ⟨w6.heap.size, 1, none⟩ = some (.int .i64 y) := (sc_other (ne_block (by omega))).trans ((sc_other (ne_block (by omega))).trans (b1))
        replace b2 : ((w13.setCell ⟨w12.heap.size, 0, none⟩ (.slice V1 (zr E1 nv) C1)).setCell ⟨w12.heap.size, 1, none⟩ (.slice U1 (zr E1 nf) D1)).cell? ⟨w6.heap.size, 2, none⟩ = some (.int .i64 z) := (sc_other (ne_block (by omega))).trans ((sc_other (ne_block (by omega))).trans (b2))
        replace ma0 : ((w13.setCell ⟨w12.heap.size, 0, none⟩ (.slice V1 (zr E1 nv) C1)).setCell ⟨w12.heap.size, 1, none⟩ (.slice U1 (zr E1 nf) D1)).cell? ⟨w8.heap.size, 0, none⟩ = some (.slice v1 (zr E1 nv) c1) := (sc_other (ne_block (by omega))).trans ((sc_other (ne_block (by omega))).trans (ma0))
        replace ma1 : ((w13.setCell ⟨w12.heap.size, 0, none⟩ (.slice V1 (zr E1 nv) C1)).setCell ⟨w12.heap.size, 1, none⟩ (.slice U1 (zr E1 nf) D1)).cell? ⟨w8.heap.size, 1, none⟩ = some (.slice u1 (zr E1 nf) d1) := (sc_other (ne_block (by omega))).trans ((sc_other (ne_block (by omega))).trans (ma1))
        replace mb0 : ((w13.setCell ⟨w12.heap.size, 0, none⟩ (.slice V1 (zr E1 nv) C1)).setCell ⟨w12.heap.size, 1, none⟩ (.slice U1 (zr E1 nf) D1)).cell? ⟨w9.heap.size, 0, none⟩ = some (.slice v2 (zr E2 nv) c2) := (sc_other (ne_block (by omega))).trans ((sc_other (ne_block (by omega))).trans (mb0))
        replace mb1 : ((w13.setCell ⟨w12.heap.size, 0, none⟩ (.slice V1 (zr E1 nv) C1)).setCell ⟨w12.heap.size, 1, none⟩ (.slice U1 (zr E1 nf) D1)).cell? ⟨w9.heap.size, 1, none⟩ = some (.slice u2 (zr E2 nf) d2) := (sc_other (ne_block (by omega))).trans ((sc_other (ne_block (by omega))).trans (mb1))
        replace mc0 : ((w13.setCell ⟨w12.heap.size, 0, none⟩ (.slice V1 (zr E1 nv) C1)).setCell ⟨w12.heap.size, 1, none⟩ (.slice U1 (zr E1 nf) D1)).cell? ⟨w10.heap.size, 0, none⟩ = some (.slice v3 (zr E3 nv) c3) := (sc_other (ne_block (by omega))).trans ((sc_other (ne_block (by omega))).trans (mc0))
        replace mc1 : ((w13.setCell ⟨w12.heap.size, 0, none⟩ (.slice V1 (zr E1 nv) C1)).setCell ⟨w12.heap.size, 1, none⟩ (.slice U1 (zr E1 nf) D1)).cell? ⟨w10.heap.size, 1, none⟩ = some (.slice u3 (zr E3 nf) d3) := (sc_other (ne_block (by omega))).trans ((sc_other (ne_block (by omega))).trans (mc1))
        replace Y0 : ((w13.setCell ⟨w12.heap.size, 0, none⟩ (.slice V1 (zr E1 nv) C1)).setCell ⟨w12.heap.size, 1, none⟩ (.slice U1 (zr E1 nf) D1)).cell? ⟨w12.heap.size + 1, 0, none⟩ = some (.slice none 0 0) := (sc_other (ne_block (by omega))).trans ((sc_other (ne_block (by omega))).trans (Y0))
        replace Y1 : ((w13.setCell ⟨w12.heap.size, 0, none⟩ (.slice V1 (zr E1 nv) C1)).setCell ⟨w12.heap.size, 1, none⟩ (.slice U1 (zr E1 nf) D1)).cell? ⟨w12.heap.size + 1, 1, none⟩ = some (.slice none 0 0) := (sc_other (ne_block (by omega))).trans ((sc_other (ne_block (by omega))).trans (Y1))
        replace Z0 : ((w13.setCell ⟨w12.heap.size, 0, none⟩ (.slice V1 (zr E1 nv) C1)).setCell ⟨w12.heap.size, 1, none⟩ (.slice U1 (zr E1 nf) D1)).cell? ⟨w12.heap.size + 1 + 1, 0, none⟩ = some (.slice none 0 0) := (sc_other (ne_block (by omega))).trans ((sc_other (ne_block (by omega))).trans (Z0))
        replace Z1 : ((w13.setCell ⟨w12.heap.size, 0, none⟩ (.slice V1 (zr E1 nv) C1)).setCell ⟨w12.heap.size, 1, none⟩ (.slice U1 (zr E1 nf) D1)).cell? ⟨w12.heap.size + 1 + 1, 1, none⟩ = some (.slice none 0 0) := (sc_other (ne_block (by omega))).trans ((sc_other (ne_block (by omega))).trans (Z1))
        have n_X0 : ((w13.setCell ⟨w12.heap.size, 0, none⟩ (.slice V1 (zr E1 nv) C1)).setCell ⟨w12.heap.size, 1, none⟩ (.slice U1 (zr E1 nf) D1)).cell? ⟨w12.heap.size, 0, none⟩ = some (.slice V1 (zr E1 nv) C1) := (sc_other (ne_off (by decide))).trans (sc_same (X0))
        have n_X1 : ((w13.setCell ⟨w12.heap.size, 0, none⟩ (.slice V1 (zr E1 nv) C1)).setCell ⟨w12.heap.size, 1, none⟩ (.slice U1 (zr E1 nf) D1)).cell? ⟨w12.heap.size, 1, none⟩ = some (.slice U1 (zr E1 nf) D1) := sc_same ((sc_other (ne_off (by decide))).trans (X1))
        have g_X0 : ((w13.setCell ⟨w12.heap.size, 0, none⟩ (.slice V1 (zr E1 nv) C1)).setCell ⟨w12.heap.size, 1, none⟩ (.slice U1 (zr E1 nf) D1)).frozen? ⟨w12.heap.size, 0, none⟩ = false := by simp [go_sem, fz_X0]
        have g_X1 : ((w13.setCell ⟨w12.heap.size, 0, none⟩ (.slice V1 (zr E1 nv) C1)).setCell ⟨w12.heap.size, 1, none⟩ (.slice U1 (zr E1 nf) D1)).frozen? ⟨w12.heap.size, 1, none⟩ = false := by simp [go_sem, fz_X1]
        have g_Y0 : ((w13.setCell ⟨w12.heap.size, 0, none⟩ (.slice V1 (zr E1 nv) C1)).setCell ⟨w12.heap.size, 1, none⟩ (.slice U1 (zr E1 nf) D1)).frozen? ⟨w12.heap.size + 1, 0, none⟩ = false := by simp [go_sem, fz_Y0]
        have g_Y1 : ((w13.setCell ⟨w12.heap.size, 0, none⟩ (.slice V1 (zr E1 nv) C1)).setCell ⟨w12.heap.size, 1, none⟩ (.slice U1 (zr E1 nf) D1)).frozen? ⟨w12.heap.size + 1, 1, none⟩ = false := by simp [go_sem, fz_Y1]
        have g_Z0 : ((w13.setCell ⟨w12.heap.size, 0, none⟩ (.slice V1 (zr E1 nv) C1)).setCell ⟨w12.heap.size, 1, none⟩ (.slice U1 (zr E1 nf) D1)).frozen? ⟨w12.heap.size + 1 + 1, 0, none⟩ = false := by simp [go_sem, fz_Z0]
        have g_Z1 : ((w13.setCell ⟨w12.heap.size, 0, none⟩ (.slice V1 (zr E1 nv) C1)).setCell ⟨w12.heap.size, 1, none⟩ (.slice U1 (zr E1 nf) D1)).frozen? ⟨w12.heap.size + 1 + 1, 1, none⟩ = false := by simp [go_sem, fz_Z1]
        replace l_m : w3.heap.size < ((w13.setCell ⟨w12.heap.size, 0, none⟩ (.slice V1 (zr E1 nv) C1)).setCell ⟨w12.heap.size, 1, none⟩ (.slice U1 (zr E1 nf) D1)).heap.size := by simpa [World.setCell] using l_m
        replace l_b : w6.heap.size < ((w13.setCell ⟨w12.heap.size, 0, none⟩ (.slice V1 (zr E1 nv) C1)).setCell ⟨w12.heap.size, 1, none⟩ (.slice U1 (zr E1 nf) D1)).heap.size := by simpa [World.setCell] using l_b
        replace l_ma : w8.heap.size < ((w13.setCell ⟨w12.heap.size, 0, none⟩ (.slice V1 (zr E1 nv) C1)).setCell ⟨w12.heap.size, 1, none⟩ (.slice U1 (zr E1 nf) D1)).heap.size := by simpa [World.setCell] using l_ma
        replace l_mb : w9.heap.size < ((w13.setCell ⟨w12.heap.size, 0, none⟩ (.slice V1 (zr E1 nv) C1)).setCell ⟨w12.heap.size, 1, none⟩ (.slice U1 (zr E1 nf) D1)).heap.size := by simpa [World.setCell] using l_mb
        replace l_mc : w10.heap.size < ((w13.setCell ⟨w12.heap.size, 0, none⟩ (.slice V1 (zr E1 nv) C1)).setCell ⟨w12.heap.size, 1, none⟩ (.slice U1 (zr E1 nf) D1)).heap.size := by simpa [World.setCell] using l_mc
        replace l_X : w12.heap.size < ((w13.setCell ⟨w12.heap.size, 0, none⟩ (.slice V1 (zr E1 nv) C1)).setCell ⟨w12.heap.size, 1, none⟩ (.slice U1 (zr E1 nf) D1)).heap.size := by simpa [World.setCell] using l_X
        replace l_Y : w12.heap.size + 1 < ((w13.setCell ⟨w12.heap.size, 0, none⟩ (.slice V1 (zr E1 nv) C1)).setCell ⟨w12.heap.size, 1, none⟩ (.slice U1 (zr E1 nf) D1)).heap.size := by simpa [World.setCell] using l_Y
        replace l_Z : w12.heap.size + 1 + 1 < ((w13.setCell ⟨w12.heap.size, 0, none⟩ (.slice V1 (zr E1 nv) C1)).setCell ⟨w12.heap.size, 1, none⟩ (.slice U1 (zr E1 nf) D1)).heap.size := by simpa [World.setCell] using l_Z
        have HB2 := Lib.hid (((HB.out).setCell (p := ⟨w12.heap.size, 0, none⟩) (by show _ ≤ w12.heap.size; omega) (.slice V1 (zr E1 nv) C1)).setCell (p := ⟨w12.heap.size, 1, none⟩) (by show _ ≤ w12.heap.size; omega) (.slice U1 (zr E1 nf) D1))
        have HP2 := Lib.hid (((HP.out).setCell (p := ⟨w12.heap.size, 0, none⟩) (by show _ ≤ w12.heap.size; omega) (.slice V1 (zr E1 nv) C1)).setCell (p := ⟨w12.heap.size, 1, none⟩) (by show _ ≤ w12.heap.size; omega) (.slice U1 (zr E1 nf) D1))
        replace GV1 := Lib.hid (((GV1.out).set (p := ⟨w12.heap.size, 0, none⟩) (by show w12.heap.size < _; omega) (.slice V1 (zr E1 nv) C1)).set (p := ⟨w12.heap.size, 1, none⟩) (by show w12.heap.size < _; omega) (.slice U1 (zr E1 nf) D1))
        replace GF1 := Lib.hid (((GF1.out).set (p := ⟨w12.heap.size, 0, none⟩) (by show w12.heap.size < _; omega) (.slice V1 (zr E1 nv) C1)).set (p := ⟨w12.heap.size, 1, none⟩) (by show w12.heap.size < _; omega) (.slice U1 (zr E1 nf) D1))
        have e2 : (f0 == 0) = false := by simpa using h2
        obtain rfl : E2 = f0 := T2n.out h2
        simp only [zr_not h2] at mb0 mb1
        go_wp2_with (fail)
        generalize ((w13.setCell ⟨w12.heap.size, 0, none⟩ (.slice V1 (zr E1 nv) C1)).setCell ⟨w12.heap.size, 1, none⟩ (.slice U1 (zr E1 nf) D1)) = w14 at *
        clear X0 X1 HB HP fz_X0 fz_X1 fz_Y0 fz_Y1 fz_Z0 fz_Z1
        have X0 := n_X0
        clear n_X0
        have X1 := n_X1
        clear n_X1
        have fz_X0 := g_X0
        clear g_X0
        have fz_X1 := g_X1
        clear g_X1
        have fz_Y0 := g_Y0
        clear g_Y0
        have fz_Y1 := g_Y1
        clear g_Y1
        have fz_Z0 := g_Z0
        clear g_Z0
        have fz_Z1 := g_Z1
        clear g_Z1
        have HB := HB2
        have HP := HP2
        clear HB2 HP2
        subst h3
        have R3 := Lib.hid (T3z.out (by trivial))
        have zz3 : w12.heap.size + 1 + 1 + 1 ≤ w14.heap.size := by omega
        go_wp2_with (fail)
        refine (mirM_E E3 av af nv cv nf cf V F a _ (HV.out.kept (Below.trans HP.out (Below.mono (B := w14.heap.size) (by repeat (first | exact Below.refl _ _ | assumption | refine Below.drew ?_ | refine bdrewN ?_ _ | refine Below.setCell ?_ (by first | omega | (simp <;> omega)) _ | refine Below.alloc ?_ (by first | omega | (simp <;> omega)) _)) HP.out.size))) (HF.out.kept (Below.trans HP.out (Below.mono (B := w14.heap.size) (by repeat (first | exact Below.refl _ _ | assumption | refine Below.drew ?_ | refine bdrewN ?_ _ | refine Below.setCell ?_ (by first | omega | (simp <;> omega)) _ | refine Below.alloc ?_ (by first | omega | (simp <;> omega)) _)) HP.out.size))) (by omega) (by omega) R3.out).mono ?_
        rintro e w15 ⟨V3, C3, U3, D3, rfl, rv3, rf3, hb⟩
        have B15 : Below w14.heap.size w14 w15 := hb
        replace m0 := cellk B15 l_m m0
        replace m1 := cellk B15 l_m m1
        replace b0 := cellk B15 l_b b0
        replace b1 := cellk B15 l_b b1
        replace b2 := cellk B15 l_b b2
        replace ma0 := cellk B15 l_ma ma0
        replace ma1 := cellk B15 l_ma ma1
        replace mb0 := cellk B15 l_mb mb0
        replace mb1 := cellk B15 l_mb mb1
        replace mc0 := cellk B15 l_mc mc0
        replace mc1 := cellk B15 l_mc mc1
        replace X0 := cellk B15 l_X X0
        replace X1 := cellk B15 l_X X1
        replace Y0 := cellk B15 l_Y Y0
        replace Y1 := cellk B15 l_Y Y1
        replace Z0 := cellk B15 l_Z Z0
        replace Z1 := cellk B15 l_Z Z1
        replace fz_X0 := (B15.frozen (p := ⟨w12.heap.size, 0, none⟩) l_X).trans fz_X0
        replace fz_X1 := (B15.frozen (p := ⟨w12.heap.size, 1, none⟩) l_X).trans fz_X1
        replace fz_Y0 := (B15.frozen (p := ⟨w12.heap.size + 1, 0, none⟩) l_Y).trans fz_Y0
        replace fz_Y1 := (B15.frozen (p := ⟨w12.heap.size + 1, 1, none⟩) l_Y).trans fz_Y1
        replace fz_Z0 := (B15.frozen (p := ⟨w12.heap.size + 1 + 1, 0, none⟩) l_Z).trans fz_Z0
        replace fz_Z1 := (B15.frozen (p := ⟨w12.heap.size + 1 + 1, 1, none⟩) l_Z).trans fz_Z1
        replace l_m := Nat.lt_of_lt_of_le l_m B15.size
        replace l_b := Nat.lt_of_lt_of_le l_b B15.size
        replace l_ma := Nat.lt_of_lt_of_le l_ma B15.size
        replace l_mb := Nat.lt_of_lt_of_le l_mb B15.size
        replace l_mc := Nat.lt_of_lt_of_le l_mc B15.size
        replace l_X := Nat.lt_of_lt_of_le l_X B15.size
        replace l_Y := Nat.lt_of_lt_of_le l_Y B15.size
        replace l_Z := Nat.lt_of_lt_of_le l_Z B15.size
        replace GV1 := Lib.hid (GV1.out.kept B15)
        replace GF1 := Lib.hid (GF1.out.kept B15)
        replace HB := Lib.hid (HB.out.trans (B15.mono HB.out.size))
        replace HP := Lib.hid (HP.out.trans (B15.mono HP.out.size))
        have GV3 := Lib.hid (rv3.weak (base' := w12.heap.size + 1 + 1 + 1) (by omega))
        clear rv3
        have GF3 := Lib.hid (rf3.weak (base' := w12.heap.size + 1 + 1 + 1) (by omega))
        clear rf3
        clear B15
        replace m0 : ((w15.setCell ⟨w12.heap.size + 1 + 1, 0, none⟩ (.slice V3 (zr E3 nv) C3)).setCell ⟨w12.heap.size + 1 + 1, 1, none⟩ (.slice U3 (zr E3 nf) D3)).cell? ⟨w3.heap.size, 0, none⟩ = some (.slice av nv cv) := (sc_other (ne_block (by omega))).trans ((sc_other (ne_block (by omega))).trans (m0))
        replace m1 : ((w15.setCell ⟨w12.heap.size + 1 + 1, 0, none⟩ (.slice V3 (zr E3 nv) C3)).setCell ⟨w12.heap.size + 1 + 1, 1, none⟩ (.slice U3 (zr E3 nf) D3)).cell? ⟨w3.heap.size, 1, none⟩ = some (.slice af nf cf) := (sc_other (ne_block (by omega))).trans ((sc_other (ne_block (by omega))).trans (m1))
        replace b0 : ((w15.setCell ⟨w12.heap.size + 1 + 1, 0, none⟩ (.slice V3 (zr E3 nv) C3)).setCell ⟨w12.heap.size + 1 + 1, 1, none⟩ (.slice U3 (zr E3 nf) D3)).cell? ⟨w6.heap.size, 0, none⟩ = some (.int .i64 x) := (sc_other (ne_block (by omega))).trans ((sc_other (ne_block (by omega))).trans (b0))
        replace b1 : ((w15.setCell ⟨w12.heap.size + 1 + 1, 0, none⟩ (.slice V3 (zr E3 nv) C3)).setCell ⟨w12.heap.size + 1 + 1, 1, none⟩ (.slice U3 (zr E3 nf) D3)).cell? ⟨w6.heap.size, 1, none⟩ = some (.int .i64 y) := (sc_other (ne_block (by omega))).trans ((sc_other (ne_block (by omega))).trans (b1))
        replace b2 : ((w15.setCell ⟨w12.heap.size + 1 + 1, 0, none⟩ (.slice V3 (zr E3 nv) C3)).setCell ⟨w12.heap.size + 1 + 1, 1, none⟩ (.slice U3 (zr E3 nf) D3)).cell? ⟨w6.heap.size, 2, none⟩ = some (.int .i64 z) := (sc_other (ne_block (by omega))).trans ((sc_other (ne_block (by omega))).trans (b2))
        replace ma0 : ((w15.setCell ⟨w12.heap.size + 1 + 1, 0, none⟩ (.slice V3 (zr E3 nv) C3)).setCell ⟨w12.heap.size + 1 + 1, 1, none⟩ (.slice U3 (zr E3 nf) D3)).cell? ⟨w8.heap.size, 0, none⟩ = some (.slice v1 (zr E1 nv) c1) := (sc_other (ne_block (by omega))).trans ((sc_other (ne_block (by omega))).trans (ma0))
        replace ma1 : ((w15.setCell ⟨w12.heap.size + 1 + 1, 0, none⟩ (.slice V3 (zr E3 nv) C3)).setCell ⟨w12.heap.size + 1 + 1, 1, none⟩ (.slice U3 (zr E3 nf) D3)).cell? ⟨w8.heap.size, 1, none⟩ = some (.slice u1 (zr E1 nf) d1) := (sc_other (ne_block (by omega))).trans ((sc_other (ne_block (by omega))).trans (ma1))
        replace mb0 : ((w15.setCell ⟨w12.heap.size + 1 + 1, 0, none⟩ (.slice V3 (zr E3 nv) C3)).setCell ⟨w12.heap.size + 1 + 1, 1, none⟩ (.slice U3 (zr E3 nf) D3)).cell? ⟨w9.heap.size, 0, none⟩ = some (.slice v2 0 c2) := (sc_other (ne_block (by omega))).trans ((sc_other (ne_block (by omega))).trans (mb0))
        replace mb1 : ((w15.setCell ⟨w12.heap.size + 1 + 1, 0, none⟩ (.slice V3 (zr E3 nv) C3)).setCell ⟨w12.heap.size + 1 + 1, 1, none⟩ (.slice U3 (zr E3 nf) D3)).cell? ⟨w9.heap.size, 1, none⟩ = some (.slice u2 0 d2) := (sc_other (ne_block (by omega))).trans ((sc_other (ne_block (by omega))).trans (mb1))
        replace mc0 : ((w15.setCell ⟨w12.heap.size + 1 + 1, 0, none⟩ (.slice V3 (zr E3 nv) C3)).setCell ⟨w12.heap.size + 1 + 1, 1, none⟩ (.slice U3 (zr E3 nf) D3)).cell? ⟨w10.heap.size, 0, none⟩ = some (.slice v3 (zr E3 nv) c3) := (sc_other (ne_block (by omega))).trans ((sc_other (ne_block (by omega))).trans (mc0))
        replace mc1 : ((w15.setCell ⟨w12.heap.size + 1 + 1, 0, none⟩ (.slice V3 (zr E3 nv) C3)).setCell ⟨w12.heap.size + 1 + 1, 1, none⟩ (.slice U3 (zr E3 nf) D3)).cell? ⟨w10.heap.size, 1, none⟩ = some (.slice u3 (zr E3 nf) d3) := (sc_other (ne_block (by omega))).trans ((sc_other (ne_block (by omega))).trans (mc1))
        replace X0 : ((w15.setCell ⟨w12.heap.size + 1 + 1, 0, none⟩ (.slice V3 (zr E3 nv) C3)).setCell ⟨w12.heap.size + 1 + 1, 1, none⟩ (.slice U3 (zr E3 nf) D3)).cell? ⟨w12.heap.size, 0, none⟩ = some (.slice V1 (zr E1 nv) C1) := (sc_other (ne_block (by omega))).trans ((sc_other (ne_block (by omega))).trans (X0))
        replace X1 : ((w15.setCell ⟨w12.heap.size + 1 + 1, 0, none⟩ (.slice V3 (zr E3 nv) C3)).setCell ⟨w12.heap.size + 1 + 1, 1, none⟩ (.slice U3 (zr E3 nf) D3)).cell? ⟨w12.heap.size, 1, none⟩ = some (.slice U1 (zr E1 nf) D1) := (sc_other (ne_block (by omega))).trans ((sc_other (ne_block (by omega))).trans (X1))
        replace Y0 : ((w15.setCell ⟨w12.heap.size + 1 + 1, 0, none⟩ (.slice V3 (zr E3 nv) C3)).setCell ⟨w12.heap.size + 1 + 1, 1, none⟩ (.slice U3 (zr E3 nf) D3)).cell? ⟨w12.heap.size + 1, 0, none⟩ = some (.slice none 0 0) := (sc_other (ne_block (by omega))).trans ((sc_other (ne_block (by omega))).trans (Y0))
        replace Y1 : ((w15.setCell ⟨w12.heap.size + 1 + 1, 0, none⟩ (.slice V3 (zr E3 nv) C3)).setCell ⟨w12.heap.size + 1 + 1, 1, none⟩ (.slice U3 (zr E3 nf) D3)).cell? ⟨w12.heap.size + 1, 1, none⟩ = some (.slice none 0 0) := (sc_other (ne_block (by omega))).trans ((sc_other (ne_block (by omega))).trans (Y1))
        have n_Z0 : ((w15.setCell ⟨w12.heap.size + 1 + 1, 0, none⟩ (.slice V3 (zr E3 nv) C3)).setCell ⟨w12.heap.size + 1 + 1, 1, none⟩ (.slice U3 (zr E3 nf) D3)).cell? ⟨w12.heap.size + 1 + 1, 0, none⟩ = some (.slice V3 (zr E3 nv) C3) := (sc_other (ne_off (by decide))).trans (sc_same (Z0))
        have n_Z1 : ((w15.setCell ⟨w12.heap.size + 1 + 1, 0, none⟩ (.slice V3 (zr E3 nv) C3)).setCell ⟨w12.heap.size + 1 + 1, 1, none⟩ (.slice U3 (zr E3 nf) D3)).cell? ⟨w12.heap.size + 1 + 1, 1, none⟩ = some (.slice U3 (zr E3 nf) D3) := sc_same ((sc_other (ne_off (by decide))).trans (Z1))
        have g_X0 : ((w15.setCell ⟨w12.heap.size + 1 + 1, 0, none⟩ (.slice V3 (zr E3 nv) C3)).setCell ⟨w12.heap.size + 1 + 1, 1, none⟩ (.slice U3 (zr E3 nf) D3)).frozen? ⟨w12.heap.size, 0, none⟩ = false := by simp [go_sem, fz_X0]
        have g_X1 : ((w15.setCell ⟨w12.heap.size + 1 + 1, 0, none⟩ (.slice V3 (zr E3 nv) C3)).setCell ⟨w12.heap.size + 1 + 1, 1, none⟩ (.slice U3 (zr E3 nf) D3)).frozen? ⟨w12.heap.size, 1, none⟩ = false := by simp [go_sem, fz_X1]
        have g_Y0 : ((w15.setCell ⟨w12.heap.size + 1 + 1, 0, none⟩ (.slice V3 (zr E3 nv) C3)).setCell ⟨w12.heap.size + 1 + 1, 1, none⟩ (.slice U3 (zr E3 nf) D3)).frozen? ⟨w12.heap.size + 1, 0, none⟩ = false := by simp [go_sem, fz_Y0]
        have g_Y1 : ((w15.setCell ⟨w12.heap.size + 1 + 1, 0, none⟩ (.slice V3 (zr E3 nv) C3)).setCell ⟨w12.heap.size + 1 + 1, 1, none⟩ (.slice U3 (zr E3 nf) D3)).frozen? ⟨w12.heap.size + 1, 1, none⟩ = false := by simp [go_sem, fz_Y1]
        have g_Z0 : ((w15.setCell ⟨w12.heap.size + 1 + 1, 0, none⟩ (.slice V3 (zr E3 nv) C3)).setCell ⟨w12.heap.size + 1 + 1, 1, none⟩ (.slice U3 (zr E3 nf) D3)).frozen? ⟨w12.heap.size + 1 + 1, 0, none⟩ = false := by simp [go_sem, fz_Z0]
        have g_Z1 : ((w15.setCell ⟨w12.heap.size + 1 + 1, 0, none⟩ (.slice V3 (zr E3 nv) C3)).setCell ⟨w12.heap.size + 1 + 1, 1, none⟩ (.slice U3 (zr E3 nf) D3)).frozen? ⟨w12.heap.size + 1 + 1, 1, none⟩ = false := by simp [go_sem, fz_Z1]
        replace l_m : w3.heap.size < ((w15.setCell ⟨w12.heap.size + 1 + 1, 0, none⟩ (.slice V3 (zr E3 nv) C3)).setCell ⟨w12.heap.size + 1 + 1, 1, none⟩ (.slice U3 (zr E3 nf) D3)).heap.size := by simpa [World.setCell] using l_m
        replace l_b : w6.heap.size < ((w15.setCell ⟨w12.heap.size + 1 + 1, 0, none⟩ (.slice V3 (zr E3 nv) C3)).setCell ⟨w12.heap.size + 1 + 1, 1, none⟩ (.slice U3 (zr E3 nf) D3)).heap.size := by simpa [World.setCell] using l_b
        replace l_ma : w8.heap.size < ((w15.setCell ⟨w12.heap.size + 1 + 1, 0, none⟩ (.slice V3 (zr E3 nv) C3)).setCell ⟨w12.heap.size + 1 + 1, 1, none⟩ (.slice U3 (zr E3 nf) D3)).heap.size := by simpa [World.setCell] using l_ma
        replace l_mb : w9.heap.size < ((w15.setCell ⟨w12.heap.size + 1 + 1, 0, none⟩ (.slice V3 (zr E3 nv) C3)).setCell ⟨w12.heap.size + 1 + 1, 1, none⟩ (.slice U3 (zr E3 nf) D3)).heap.size := by simpa [World.setCell] using l_mb
        replace l_mc : w10.heap.size < ((w15.setCell ⟨w12.heap.size + 1 + 1, 0, none⟩ (.slice V3 (zr E3 nv) C3)).setCell ⟨w12.heap.size + 1 + 1, 1, none⟩ (.slice U3 (zr E3 nf) D3)).heap.size := by simpa [World.setCell] using l_mc
        replace l_X : w12.heap.size < ((w15.setCell ⟨w12.heap.size + 1 + 1, 0, none⟩ (.slice V3 (zr E3 nv) C3)).setCell ⟨w12.heap.size + 1 + 1, 1, none⟩ (.slice U3 (zr E3 nf) D3)).heap.size := by simpa [World.setCell] using l_X
        replace l_Y : w12.heap.size + 1 < ((w15.setCell ⟨w12.heap.size + 1 + 1, 0, none⟩ (.slice V3 (zr E3 nv) C3)).setCell ⟨w12.heap.size + 1 + 1, 1, none⟩ (.slice U3 (zr E3 nf) D3)).heap.size := by simpa [World.setCell] using l_Y
        replace l_Z : w12.heap.size + 1 + 1 < ((w15.setCell ⟨w12.heap.size + 1 + 1, 0, none⟩ (.slice V3 (zr E3 nv) C3)).setCell ⟨w12.heap.size + 1 + 1, 1, none⟩ (.slice U3 (zr E3 nf) D3)).heap.size := by simpa [World.setCell] using l_Z
        have HB2 := Lib.hid (((HB.out).setCell (p := ⟨w12.heap.size + 1 + 1, 0, none⟩) (by show _ ≤ w12.heap.size + 1 + 1; omega) (.slice V3 (zr E3 nv) C3)).setCell (p := ⟨w12.heap.size + 1 + 1, 1, none⟩) (by show _ ≤ w12.heap.size + 1 + 1; omega) (.slice U3 (zr E3 nf) D3))
        have HP2 := Lib.hid (((HP.out).setCell (p := ⟨w12.heap.size + 1 + 1, 0, none⟩) (by show _ ≤ w12.heap.size + 1 + 1; omega) (.slice V3 (zr E3 nv) C3)).setCell (p := ⟨w12.heap.size + 1 + 1, 1, none⟩) (by show _ ≤ w12.heap.size + 1 + 1; omega) (.slice U3 (zr E3 nf) D3))
        replace GV1 := Lib.hid (((GV1.out).set (p := ⟨w12.heap.size + 1 + 1, 0, none⟩) (by show w12.heap.size + 1 + 1 < _; omega) (.slice V3 (zr E3 nv) C3)).set (p := ⟨w12.heap.size + 1 + 1, 1, none⟩) (by show w12.heap.size + 1 + 1 < _; omega) (.slice U3 (zr E3 nf) D3))
        replace GF1 := Lib.hid (((GF1.out).set (p := ⟨w12.heap.size + 1 + 1, 0, none⟩) (by show w12.heap.size + 1 + 1 < _; omega) (.slice V3 (zr E3 nv) C3)).set (p := ⟨w12.heap.size + 1 + 1, 1, none⟩) (by show w12.heap.size + 1 + 1 < _; omega) (.slice U3 (zr E3 nf) D3))
        replace GV3 := Lib.hid (((GV3.out).set (p := ⟨w12.heap.size + 1 + 1, 0, none⟩) (by show w12.heap.size + 1 + 1 < _; omega) (.slice V3 (zr E3 nv) C3)).set (p := ⟨w12.heap.size + 1 + 1, 1, none⟩) (by show w12.heap.size + 1 + 1 < _; omega) (.slice U3 (zr E3 nf) D3))
        replace GF3 := Lib.hid (((GF3.out).set (p := ⟨w12.heap.size + 1 + 1, 0, none⟩) (by show w12.heap.size + 1 + 1 < _; omega) (.slice V3 (zr E3 nv) C3)).set (p := ⟨w12.heap.size + 1 + 1, 1, none⟩) (by show w12.heap.size + 1 + 1 < _; omega) (.slice U3 (zr E3 nf) D3))
        go_wp2_with (fail)
        generalize ((w15.setCell ⟨w12.heap.size + 1 + 1, 0, none⟩ (.slice V3 (zr E3 nv) C3)).setCell ⟨w12.heap.size + 1 + 1, 1, none⟩ (.slice U3 (zr E3 nf) D3)) = w16 at *
        clear Z0 Z1 HB HP fz_X0 fz_X1 fz_Y0 fz_Y1 fz_Z0 fz_Z1
        have Z0 := n_Z0
        clear n_Z0
        have Z1 := n_Z1
        clear n_Z1
        have fz_X0 := g_X0
        clear g_X0
        have fz_X1 := g_X1
        clear g_X1
        have fz_Y0 := g_Y0
        clear g_Y0
        have fz_Y1 := g_Y1
        clear g_Y1
        have fz_Z0 := g_Z0
        clear g_Z0
        have fz_Z1 := g_Z1
        clear g_Z1
        have HB := HB2
        have HP := HP2
        clear HB2 HP2
        go_wp2_with (fail)
        refine (sameMesh_any v1 V1 u1 U1 _ c1 C1 _ d1 D1 (fun i => qn a q.toNat (V i)) F _ (HV1.out.row3.kept (Below.trans HP.out (Below.mono (B := w16.heap.size) (by repeat (first | exact Below.refl _ _ | assumption | refine Below.drew ?_ | refine bdrewN ?_ _ | refine Below.setCell ?_ (by first | omega | (simp <;> omega)) _ | refine Below.alloc ?_ (by first | omega | (simp <;> omega)) _)) HP.out.size))) (GV1.out.row3.kept (by repeat (first | exact Below.refl _ _ | assumption | refine Below.drew ?_ | refine bdrewN ?_ _ | refine Below.setCell ?_ (by first | omega | (simp <;> omega)) _ | refine Below.alloc ?_ (by first | omega | (simp <;> omega)) _))) (HF1.out.row3.kept (Below.trans HP.out (Below.mono (B := w16.heap.size) (by repeat (first | exact Below.refl _ _ | assumption | refine Below.drew ?_ | refine bdrewN ?_ _ | refine Below.setCell ?_ (by first | omega | (simp <;> omega)) _ | refine Below.alloc ?_ (by first | omega | (simp <;> omega)) _)) HP.out.size))) (GF1.out.row3.kept (by repeat (first | exact Below.refl _ _ | assumption | refine Below.drew ?_ | refine bdrewN ?_ _ | refine Below.setCell ?_ (by first | omega | (simp <;> omega)) _ | refine Below.alloc ?_ (by first | omega | (simp <;> omega)) _))) (by have := zr_le E1 nv; omega) (by have := zr_le E1 nf; omega)).mono ?_
        rintro e w17 ⟨rfl, hb⟩
        have B17 : Below w16.heap.size w16 w17 := hb
        replace m0 := cellk B17 l_m m0
        replace m1 := cellk B17 l_m m1
        replace b0 := cellk B17 l_b b0
        replace b1 := cellk B17 l_b b1
        replace b2 := cellk B17 l_b b2
        replace ma0 := cellk B17 l_ma ma0
        replace ma1 := cellk B17 l_ma ma1
        replace mb0 := cellk B17 l_mb mb0
        replace mb1 := cellk B17 l_mb mb1
        replace mc0 := cellk B17 l_mc mc0
        replace mc1 := cellk B17 l_mc mc1
        replace X0 := cellk B17 l_X X0
        replace X1 := cellk B17 l_X X1
        replace Y0 := cellk B17 l_Y Y0
        replace Y1 := cellk B17 l_Y Y1
        replace Z0 := cellk B17 l_Z Z0
        replace Z1 := cellk B17 l_Z Z1
        replace fz_X0 := (B17.frozen (p := ⟨w12.heap.size, 0, none⟩) l_X).trans fz_X0
        replace fz_X1 := (B17.frozen (p := ⟨w12.heap.size, 1, none⟩) l_X).trans fz_X1
        replace fz_Y0 := (B17.frozen (p := ⟨w12.heap.size + 1, 0, none⟩) l_Y).trans fz_Y0
        replace fz_Y1 := (B17.frozen (p := ⟨w12.heap.size + 1, 1, none⟩) l_Y).trans fz_Y1
        replace fz_Z0 := (B17.frozen (p := ⟨w12.heap.size + 1 + 1, 0, none⟩) l_Z).trans fz_Z0
        replace fz_Z1 := (B17.frozen (p := ⟨w12.heap.size + 1 + 1, 1, none⟩) l_Z).trans fz_Z1
        replace l_m := Nat.lt_of_lt_of_le l_m B17.size
        replace l_b := Nat.lt_of_lt_of_le l_b B17.size
        replace l_ma := Nat.lt_of_lt_of_le l_ma B17.size
        replace l_mb := Nat.lt_of_lt_of_le l_mb B17.size
        replace l_mc := Nat.lt_of_lt_of_le l_mc B17.size
        replace l_X := Nat.lt_of_lt_of_le l_X B17.size
        replace l_Y := Nat.lt_of_lt_of_le l_Y B17.size
        replace l_Z := Nat.lt_of_lt_of_le l_Z B17.size
        replace GV1 := Lib.hid (GV1.out.kept B17)
        replace GF1 := Lib.hid (GF1.out.kept B17)
        replace GV3 := Lib.hid (GV3.out.kept B17)
        replace GF3 := Lib.hid (GF3.out.kept B17)
        replace HB := Lib.hid (HB.out.trans (B17.mono HB.out.size))
        replace HP := Lib.hid (HP.out.trans (B17.mono HP.out.size))
        clear B17
        go_wp2_with (fail)
        refine (sameMesh_any v2 none u2 none 0 c2 0 0 d2 0 V F _ (.inl rfl) (.inl rfl) (.inl rfl) (.inl rfl) (by omega) (by omega)).mono ?_
        rintro e w18 ⟨rfl, hb⟩
        have B18 : Below w17.heap.size w17 w18 := hb
        replace m0 := cellk B18 l_m m0
        replace m1 := cellk B18 l_m m1
        replace b0 := cellk B18 l_b b0
        replace b1 := cellk B18 l_b b1
        replace b2 := cellk B18 l_b b2
        replace ma0 := cellk B18 l_ma ma0
        replace ma1 := cellk B18 l_ma ma1
        replace mb0 := cellk B18 l_mb mb0
        replace mb1 := cellk B18 l_mb mb1
        replace mc0 := cellk B18 l_mc mc0
        replace mc1 := cellk B18 l_mc mc1
        replace X0 := cellk B18 l_X X0
        replace X1 := cellk B18 l_X X1
        replace Y0 := cellk B18 l_Y Y0
        replace Y1 := cellk B18 l_Y Y1
        replace Z0 := cellk B18 l_Z Z0
        replace Z1 := cellk B18 l_Z Z1
        replace fz_X0 := (B18.frozen (p := ⟨w12.heap.size, 0, none⟩) l_X).trans fz_X0
        replace fz_X1 := (B18.frozen (p := ⟨w12.heap.size, 1, none⟩) l_X).trans fz_X1
        replace fz_Y0 := (B18.frozen (p := ⟨w12.heap.size + 1, 0, none⟩) l_Y).trans fz_Y0
        replace fz_Y1 := (B18.frozen (p := ⟨w12.heap.size + 1, 1, none⟩) l_Y).trans fz_Y1
        replace fz_Z0 := (B18.frozen (p := ⟨w12.heap.size + 1 + 1, 0, none⟩) l_Z).trans fz_Z0
        replace fz_Z1 := (B18.frozen (p := ⟨w12.heap.size + 1 + 1, 1, none⟩) l_Z).trans fz_Z1
        replace l_m := Nat.lt_of_lt_of_le l_m B18.size
        replace l_b := Nat.lt_of_lt_of_le l_b B18.size
        replace l_ma := Nat.lt_of_lt_of_le l_ma B18.size
        replace l_mb := Nat.lt_of_lt_of_le l_mb B18.size
        replace l_mc := Nat.lt_of_lt_of_le l_mc B18.size
        replace l_X := Nat.lt_of_lt_of_le l_X B18.size
        replace l_Y := Nat.lt_of_lt_of_le l_Y B18.size
        replace l_Z := Nat.lt_of_lt_of_le l_Z B18.size
        replace GV1 := Lib.hid (GV1.out.kept B18)
        replace GF1 := Lib.hid (GF1.out.kept B18)
        replace GV3 := Lib.hid (GV3.out.kept B18)
        replace GF3 := Lib.hid (GF3.out.kept B18)
        replace HB := Lib.hid (HB.out.trans (B18.mono HB.out.size))
        replace HP := Lib.hid (HP.out.trans (B18.mono HP.out.size))
        clear B18
        go_wp2_with (fail)
        refine (sameMesh_any v3 V3 u3 U3 _ c3 C3 _ d3 D3 (fun i => mv a (V i)) (fun i => sw (F i)) _ (HV3.out.row3.kept (Below.trans HP.out (Below.mono (B := w18.heap.size) (by repeat (first | exact Below.refl _ _ | assumption | refine Below.drew ?_ | refine bdrewN ?_ _ | refine Below.setCell ?_ (by first | omega | (simp <;> omega)) _ | refine Below.alloc ?_ (by first | omega | (simp <;> omega)) _)) HP.out.size))) (GV3.out.row3.kept (by repeat (first | exact Below.refl _ _ | assumption | refine Below.drew ?_ | refine bdrewN ?_ _ | refine Below.setCell ?_ (by first | omega | (simp <;> omega)) _ | refine Below.alloc ?_ (by first | omega | (simp <;> omega)) _))) (HF3.out.row3.kept (Below.trans HP.out (Below.mono (B := w18.heap.size) (by repeat (first | exact Below.refl _ _ | assumption | refine Below.drew ?_ | refine bdrewN ?_ _ | refine Below.setCell ?_ (by first | omega | (simp <;> omega)) _ | refine Below.alloc ?_ (by first | omega | (simp <;> omega)) _)) HP.out.size))) (GF3.out.row3.kept (by repeat (first | exact Below.refl _ _ | assumption | refine Below.drew ?_ | refine bdrewN ?_ _ | refine Below.setCell ?_ (by first | omega | (simp <;> omega)) _ | refine Below.alloc ?_ (by first | omega | (simp <;> omega)) _))) (by have := zr_le E3 nv; omega) (by have := zr_le E3 nf; omega)).mono ?_
        rintro e w19 ⟨rfl, hb⟩
        have B19 : Below w18.heap.size w18 w19 := hb
        replace m0 := cellk B19 l_m m0
        replace m1 := cellk B19 l_m m1
        replace b0 := cellk B19 l_b b0
        replace b1 := cellk B19 l_b b1
        replace b2 := cellk B19 l_b b2
        replace ma0 := cellk B19 l_ma ma0
        replace ma1 := cellk B19 l_ma ma1
        replace mb0 := cellk B19 l_mb mb0
        replace mb1 := cellk B19 l_mb mb1
        replace mc0 := cellk B19 l_mc mc0
        replace mc1 := cellk B19 l_mc mc1
        replace X0 := cellk B19 l_X X0
        replace X1 := cellk B19 l_X X1
        replace Y0 := cellk B19 l_Y Y0
        replace Y1 := cellk B19 l_Y Y1
        replace Z0 := cellk B19 l_Z Z0
        replace Z1 := cellk B19 l_Z Z1
        replace fz_X0 := (B19.frozen (p := ⟨w12.heap.size, 0, none⟩) l_X).trans fz_X0
        replace fz_X1 := (B19.frozen (p := ⟨w12.heap.size, 1, none⟩) l_X).trans fz_X1
        replace fz_Y0 := (B19.frozen (p := ⟨w12.heap.size + 1, 0, none⟩) l_Y).trans fz_Y0
        replace fz_Y1 := (B19.frozen (p := ⟨w12.heap.size + 1, 1, none⟩) l_Y).trans fz_Y1
        replace fz_Z0 := (B19.frozen (p := ⟨w12.heap.size + 1 + 1, 0, none⟩) l_Z).trans fz_Z0
        replace fz_Z1 := (B19.frozen (p := ⟨w12.heap.size + 1 + 1, 1, none⟩) l_Z).trans fz_Z1
        replace l_m := Nat.lt_of_lt_of_le l_m B19.size
        replace l_b := Nat.lt_of_lt_of_le l_b B19.size
        replace l_ma := Nat.lt_of_lt_of_le l_ma B19.size
        replace l_mb := Nat.lt_of_lt_of_le l_mb B19.size
        replace l_mc := Nat.lt_of_lt_of_le l_mc B19.size
        replace l_X := Nat.lt_of_lt_of_le l_X B19.size
        replace l_Y := Nat.lt_of_lt_of_le l_Y B19.size
        replace l_Z := Nat.lt_of_lt_of_le l_Z B19.size
        replace GV1 := Lib.hid (GV1.out.kept B19)
        replace GF1 := Lib.hid (GF1.out.kept B19)
        replace GV3 := Lib.hid (GV3.out.kept B19)
        replace GF3 := Lib.hid (GF3.out.kept B19)
        replace HB := Lib.hid (HB.out.trans (B19.mono HB.out.size))
        replace HP := Lib.hid (HP.out.trans (B19.mono HP.out.size))
        clear B19
        go_wp2_with (fail)
        refine (meshed_any _).mono ?_
        rintro e w20 ⟨rfl, hb⟩
        have B20 : Below w19.heap.size w19 w20 := hb
        replace m0 := cellk B20 l_m m0
        replace m1 := cellk B20 l_m m1
        replace b0 := cellk B20 l_b b0
        replace b1 := cellk B20 l_b b1
        replace b2 := cellk B20 l_b b2
        replace ma0 := cellk B20 l_ma ma0
        replace ma1 := cellk B20 l_ma ma1
        replace mb0 := cellk B20 l_mb mb0
        replace mb1 := cellk B20 l_mb mb1
        replace mc0 := cellk B20 l_mc mc0
        replace mc1 := cellk B20 l_mc mc1
        replace X0 := cellk B20 l_X X0
        replace X1 := cellk B20 l_X X1
        replace Y0 := cellk B20 l_Y Y0
        replace Y1 := cellk B20 l_Y Y1
        replace Z0 := cellk B20 l_Z Z0
        replace Z1 := cellk B20 l_Z Z1
        replace fz_X0 := (B20.frozen (p := ⟨w12.heap.size, 0, none⟩) l_X).trans fz_X0
        replace fz_X1 := (B20.frozen (p := ⟨w12.heap.size, 1, none⟩) l_X).trans fz_X1
        replace fz_Y0 := (B20.frozen (p := ⟨w12.heap.size + 1, 0, none⟩) l_Y).trans fz_Y0
        replace fz_Y1 := (B20.frozen (p := ⟨w12.heap.size + 1, 1, none⟩) l_Y).trans fz_Y1
        replace fz_Z0 := (B20.frozen (p := ⟨w12.heap.size + 1 + 1, 0, none⟩) l_Z).trans fz_Z0
        replace fz_Z1 := (B20.frozen (p := ⟨w12.heap.size + 1 + 1, 1, none⟩) l_Z).trans fz_Z1
        replace l_m := Nat.lt_of_lt_of_le l_m B20.size
        replace l_b := Nat.lt_of_lt_of_le l_b B20.size
        replace l_ma := Nat.lt_of_lt_of_le l_ma B20.size
        replace l_mb := Nat.lt_of_lt_of_le l_mb B20.size
        replace l_mc := Nat.lt_of_lt_of_le l_mc B20.size
        replace l_X := Nat.lt_of_lt_of_le l_X B20.size
        replace l_Y := Nat.lt_of_lt_of_le l_Y B20.size
        replace l_Z := Nat.lt_of_lt_of_le l_Z B20.size
        replace GV1 := Lib.hid (GV1.out.kept B20)
        replace GF1 := Lib.hid (GF1.out.kept B20)
        replace GV3 := Lib.hid (GV3.out.kept B20)
        replace GF3 := Lib.hid (GF3.out.kept B20)
        replace HB := Lib.hid (HB.out.trans (B20.mono HB.out.size))
        replace HP := Lib.hid (HP.out.trans (B20.mono HP.out.size))
        clear B20
        have R := Lib.hid ((HM.out.toBelow w.heap.size (Nat.le_refl _) (fun k hk => by omega)).trans (HB.out.mono hw6))
        go_wp2
        go_ret
        exact ⟨rfl, R.out⟩
      · skip
        subst h1
        have Q1 := Lib.hid (T1z.out (by trivial)).2
        have R1 := Lib.hid (T1z.out (by trivial)).1
        have x_m1 : w3.heap.size < w12.heap.size + 1 := by omega
        have x_m2 : w3.heap.size < w12.heap.size + 1 + 1 := by omega
        have x_b1 : w6.heap.size < w12.heap.size + 1 := by omega
        have x_b2 : w6.heap.size < w12.heap.size + 1 + 1 := by omega
        have x_ma1 : w8.heap.size < w12.heap.size + 1 := by omega
        have x_ma2 : w8.heap.size < w12.heap.size + 1 + 1 := by omega
        have x_mb1 : w9.heap.size < w12.heap.size + 1 := by omega
        have x_mb2 : w9.heap.size < w12.heap.size + 1 + 1 := by omega
        have x_mc1 : w10.heap.size < w12.heap.size + 1 := by omega
        have x_mc2 : w10.heap.size < w12.heap.size + 1 + 1 := by omega
        go_wp2_with (fail)
        clear x_m1 x_m2 x_b1 x_b2 x_ma1 x_ma2 x_mb1 x_mb2 x_mc1 x_mc2
        refine (turnedM_E E1 av af nv cv nf cf V F a q _ (HV.out.kept (Below.trans HP.out (Below.mono (B := w12.heap.size) (by repeat (first | exact Below.refl _ _ | assumption | refine Below.drew ?_ | refine bdrewN ?_ _ | refine Below.setCell ?_ (by first | omega | (simp <;> omega)) _ | refine Below.alloc ?_ (by first | omega | (simp <;> omega)) _)) HP.out.size))) (HF.out.kept (Below.trans HP.out (Below.mono (B := w12.heap.size) (by repeat (first | exact Below.refl _ _ | assumption | refine Below.drew ?_ | refine bdrewN ?_ _ | refine Below.setCell ?_ (by first | omega | (simp <;> omega)) _ | refine Below.alloc ?_ (by first | omega | (simp <;> omega)) _)) HP.out.size))) (by omega) (by omega) Q1.out R1.out).mono ?_
        rintro e w13 ⟨V1, C1, U1, D1, rfl, rv1, rf1, hb⟩
        have B13 : Below w12.heap.size w12 w13 := Below.trans (by repeat (first | exact Below.refl _ _ | assumption | refine Below.drew ?_ | refine bdrewN ?_ _ | refine Below.setCell ?_ (by first | omega | (simp <;> omega)) _ | refine Below.alloc ?_ (by first | omega | (simp <;> omega)) _)) (hb.mono (by simp <;> omega))
        replace m0 := cellk B13 l_m m0
        replace m1 := cellk B13 l_m m1
        replace b0 := cellk B13 l_b b0
        replace b1 := cellk B13 l_b b1
        replace b2 := cellk B13 l_b b2
        replace ma0 := cellk B13 l_ma ma0
        replace ma1 := cellk B13 l_ma ma1
        replace mb0 := cellk B13 l_mb mb0
        replace mb1 := cellk B13 l_mb mb1
        replace mc0 := cellk B13 l_mc mc0
        replace mc1 := cellk B13 l_mc mc1
        replace l_m := Nat.lt_of_lt_of_le l_m B13.size
        replace l_b := Nat.lt_of_lt_of_le l_b B13.size
        replace l_ma := Nat.lt_of_lt_of_le l_ma B13.size
        replace l_mb := Nat.lt_of_lt_of_le l_mb B13.size
        replace l_mc := Nat.lt_of_lt_of_le l_mc B13.size
        have X0 : w13.cell? ⟨w12.heap.size, 0, none⟩ = some (.slice none 0 0) := by rw [hb.cell (by simp <;> omega)]; simp [go_sem]
        have fz_X0 : w13.frozen? ⟨w12.heap.size, 0, none⟩ = false := by rw [hb.frozen (by simp <;> omega)]; simp [go_sem]
        have X1 : w13.cell? ⟨w12.heap.size, 1, none⟩ = some (.slice none 0 0) := by rw [hb.cell (by simp <;> omega)]; simp [go_sem]
        have fz_X1 : w13.frozen? ⟨w12.heap.size, 1, none⟩ = false := by rw [hb.frozen (by simp <;> omega)]; simp [go_sem]
        have l_X : w12.heap.size < w13.heap.size := by have := hb.size; simp at this; omega
        have Y0 : w13.cell? ⟨w12.heap.size + 1, 0, none⟩ = some (.slice none 0 0) := by rw [hb.cell (by simp <;> omega)]; simp [go_sem]
        have fz_Y0 : w13.frozen? ⟨w12.heap.size + 1, 0, none⟩ = false := by rw [hb.frozen (by simp <;> omega)]; simp [go_sem]
        have Y1 : w13.cell? ⟨w12.heap.size + 1, 1, none⟩ = some (.slice none 0 0) := by rw [hb.cell (by simp <;> omega)]; simp [go_sem]
        have fz_Y1 : w13.frozen? ⟨w12.heap.size + 1, 1, none⟩ = false := by rw [hb.frozen (by simp <;> omega)]; simp [go_sem]
        have l_Y : w12.heap.size + 1 < w13.heap.size := by have := hb.size; simp at this; omega
        have Z0 : w13.cell? ⟨w12.heap.size + 1 + 1, 0, none⟩ = some (.slice none 0 0) := by rw [hb.cell (by simp <;> omega)]; simp [go_sem]
        have fz_Z0 : w13.frozen? ⟨w12.heap.size + 1 + 1, 0, none⟩ = false := by rw [hb.frozen (by simp <;> omega)]; simp [go_sem]
        have Z1 : w13.cell? ⟨w12.heap.size + 1 + 1, 1, none⟩ = some (.slice none 0 0) := by rw [hb.cell (by simp <;> omega)]; simp [go_sem]
        have fz_Z1 : w13.frozen? ⟨w12.heap.size + 1 + 1, 1, none⟩ = false := by rw [hb.frozen (by simp <;> omega)]; simp [go_sem]
        have l_Z : w12.heap.size + 1 + 1 < w13.heap.size := by have := hb.size; simp at this; omega
        replace HB := Lib.hid (HB.out.trans (B13.mono HB.out.size))
        replace HP := Lib.hid (HP.out.trans (B13.mono HP.out.size))
        have GV1 := Lib.hid (rv1.weak (base' := w12.heap.size + 1 + 1 + 1) (by have := HP.out.size; simp <;> omega))
        clear rv1
        have GF1 := Lib.hid (rf1.weak (base' := w12.heap.size + 1 + 1 + 1) (by have := HP.out.size; simp <;> omega))
        clear rf1
        clear hb B13
        replace m0 : ((w13.setCell ⟨w12.heap.size, 0, none⟩ (.slice V1 (zr E1 nv) C1)).setCell ⟨w12.heap.size, 1, none⟩ (.slice U1 (zr E1 nf) D1)).cell? ⟨w3.heap.size, 0, none⟩ = some (.slice av nv cv) := (sc_other (ne_block (by omega))).trans ((sc_other (ne_block (by omega))).trans (m0))
        replace m1 : ((w13.setCell ⟨w12.heap.size, 0, none⟩ (.slice V1 (zr E1 nv) C1)).setCell ⟨w12.heap.size, 1, none⟩ (.slice U1 (zr E1 nf) D1)).cell? ⟨w3.heap.size, 1, none⟩ = some (.slice af nf cf) := (sc_other (ne_block (by omega))).trans ((sc_other (ne_block (by omega))).trans (m1))
        replace b0 : ((w13.setCell ⟨w12.heap.size, 0, none⟩ (.slice V1 (zr E1 nv) C1)).setCell ⟨w12.heap.size, 1, none⟩ (.slice U1 (zr E1 nf) D1)).cell? ⟨w6.heap.size, 0, none⟩ = some (.int .i64 x) := (sc_other (ne_block (by omega))).trans ((sc_other (ne_block (by omega))).trans (b0))
        replace b1 : ((w13.setCell ⟨w12.heap.size, 0, none⟩ (.slice V1 (zr E1 nv) C1)).setCell ⟨w12.heap.size, 1, none⟩ (.slice U1 (zr E1 nf) D1)).cell? ⟨w6.heap.size, 1, none⟩ = some (.int .i64 y) := (sc_other (ne_block (by omega))).trans ((sc_other (ne_block (by omega))).trans (b1))
        replace b2 : ((w13.setCell ⟨w12.heap.size, 0, none⟩ (.slice V1 (zr E1 nv) C1)).setCell ⟨w12.heap.size, 1, none⟩ (.slice U1 (zr E1 nf) D1)).cell? ⟨w6.heap.size, 2, none⟩ = some (.int .i64 z) := (sc_other (ne_block (by omega))).trans ((sc_other (ne_block (by omega))).trans (b2))
        replace ma0 : ((w13.setCell ⟨w12.heap.size, 0, none⟩ (.slice V1 (zr E1 nv) C1)).setCell ⟨w12.heap.size, 1, none⟩ (.slice U1 (zr E1 nf) D1)).cell? ⟨w8.heap.size, 0, none⟩ = some (.slice v1 (zr E1 nv) c1) := (sc_other (ne_block (by omega))).trans ((sc_other (ne_block (by omega))).trans (ma0))
        replace ma1 : ((w13.setCell ⟨w12.heap.size, 0, none⟩ (.slice V1 (zr E1 nv) C1)).setCell ⟨w12.heap.size, 1, none⟩ (.slice U1 (zr E1 nf) D1)).cell? ⟨w8.heap.size, 1, none⟩ = some (.slice u1 (zr E1 nf) d1) := (sc_other (ne_block (by omega))).trans ((sc_other (ne_block (by omega))).trans (ma1))
        replace mb0 : ((w13.setCell ⟨w12.heap.size, 0, none⟩ (.slice V1 (zr E1 nv) C1)).setCell ⟨w12.heap.size, 1, none⟩ (.slice U1 (zr E1 nf) D1)).cell? ⟨w9.heap.size, 0, none⟩ = some (.slice v2 (zr E2 nv) c2) := (sc_other (ne_block (by omega))).trans ((sc_other (ne_block (by omega))).trans (mb0))
        replace mb1 : ((w13.setCell ⟨w12.heap.size, 0, none⟩ (.slice V1 (zr E1 nv) C1)).setCell ⟨w12.heap.size, 1, none⟩ (.slice U1 (zr E1 nf) D1)).cell? ⟨w9.heap.size, 1, none⟩ = some (.slice u2 (zr E2 nf) d2) := (sc_other (ne_block (by omega))).trans ((sc_other (ne_block (by omega))).trans (mb1))
        replace mc0 : ((w13.setCell ⟨w12.heap.size, 0, none⟩ (.slice V1 (zr E1 nv) C1)).setCell ⟨w12.heap.size, 1, none⟩ (.slice U1 (zr E1 nf) D1)).cell? ⟨w10.heap.size, 0, none⟩ = some (.slice v3 (zr E3 nv) c3) := (sc_other (ne_block (by omega))).trans ((sc_other (ne_block (by omega))).trans (mc0))
        replace mc1 : ((w13.setCell ⟨w12.heap.size, 0, none⟩ (.slice V1 (zr E1 nv) C1)).setCell ⟨w12.heap.size, 1, none⟩ (.slice U1 (zr E1 nf) D1)).cell? ⟨w10.heap.size, 1, none⟩ = some (.slice u3 (zr E3 nf) d3) := (sc_other (ne_block (by omega))).trans ((sc_other (ne_block (by omega))).trans (mc1))
        replace Y0 : ((w13.setCell ⟨w12.heap.size, 0, none⟩ (.slice V1 (zr E1 nv) C1)).setCell ⟨w12.heap.size, 1, none⟩ (.slice U1 (zr E1 nf) D1)).cell? ⟨w12.heap.size + 1, 0, none⟩ = some (.slice none 0 0) := (sc_other (ne_block (by omega))).trans ((sc_other (ne_block (by omega))).trans (Y0))
        replace Y1 : ((w13.setCell ⟨w12.heap.size, 0, none⟩ (.slice V1 (zr E1 nv) C1)).setCell ⟨w12.heap.size, 1, none⟩ (.slice U1 (zr E1 nf) D1)).cell? ⟨w12.heap.size + 1, 1, none⟩ = some (.slice none 0 0) := (sc_other (ne_block (by omega))).trans ((sc_other (ne_block (by omega))).trans (Y1))
        replace Z0 : ((w13.setCell ⟨w12.heap.size, 0, none⟩ (.slice V1 (zr E1 nv) C1)).setCell ⟨w12.heap.size, 1, none⟩ (.slice U1 (zr E1 nf) D1)).cell? ⟨w12.heap.size + 1 + 1, 0, none⟩ = some (.slice none 0 0) := (sc_other (ne_block (by omega))).trans ((sc_other (ne_block (by omega))).trans (Z0))
        replace Z1 : ((w13.setCell ⟨w12.heap.size, 0, none⟩ (.slice V1 (zr E1 nv) C1)).setCell ⟨w12.heap.size, 1, none⟩ (.slice U1 (zr E1 nf) D1)).cell? ⟨w12.heap.size + 1 + 1, 1, none⟩ = some (.slice none 0 0) := (sc_other (ne_block (by omega))).trans ((sc_other (ne_block (by omega))).trans (Z1))
        have n_X0 : ((w13.setCell ⟨w12.heap.size, 0, none⟩ (.slice V1 (zr E1 nv) C1)).setCell ⟨w12.heap.size, 1, none⟩ (.slice U1 (zr E1 nf) D1)).cell? ⟨w12.heap.size, 0, none⟩ = some (.slice V1 (zr E1 nv) C1) := (sc_other (ne_off (by decide))).trans (sc_same (X0))
        have n_X1 : ((w13.setCell ⟨w12.heap.size, 0, none⟩ (.slice V1 (zr E1 nv) C1)).setCell ⟨w12.heap.size, 1, none⟩ (.slice U1 (zr E1 nf) D1)).cell? ⟨w12.heap.size, 1, none⟩ = some (.slice U1 (zr E1 nf) D1) := sc_same ((sc_other (ne_off (by decide))).trans (X1))
        have g_X0 : ((w13.setCell ⟨w12.heap.size, 0, none⟩ (.slice V1 (zr E1 nv) C1)).setCell ⟨w12.heap.size, 1, none⟩ (.slice U1 (zr E1 nf) D1)).frozen? ⟨w12.heap.size, 0, none⟩ = false := by simp [go_sem, fz_X0]
        have g_X1 : ((w13.setCell ⟨w12.heap.size, 0, none⟩ (.slice V1 (zr E1 nv) C1)).setCell ⟨w12.heap.size, 1, none⟩ (.slice U1 (zr E1 nf) D1)).frozen? ⟨w12.heap.size, 1, none⟩ = false := by simp [go_sem, fz_X1]
        have g_Y0 : ((w13.setCell ⟨w12.heap.size, 0, none⟩ (.slice V1 (zr E1 nv) C1)).setCell ⟨w12.heap.size, 1, none⟩ (.slice U1 (zr E1 nf) D1)).frozen? ⟨w12.heap.size + 1, 0, none⟩ = false := by simp [go_sem, fz_Y0]
        have g_Y1 : ((w13.setCell ⟨w12.heap.size, 0, none⟩ (.slice V1 (zr E1 nv) C1)).setCell ⟨w12.heap.size, 1, none⟩ (.slice U1 (zr E1 nf) D1)).frozen? ⟨w12.heap.size + 1, 1, none⟩ = false := by simp [go_sem, fz_Y1]
        have g_Z0 : ((w13.setCell ⟨w12.heap.size, 0, none⟩ (.slice V1 (zr E1 nv) C1)).setCell ⟨w12.heap.size, 1, none⟩ (.slice U1 (zr E1 nf) D1)).frozen? ⟨w12.heap.size + 1 + 1, 0, none⟩ = false := by simp [go_sem, fz_Z0]
        have g_Z1 : ((w13.setCell ⟨w12.heap.size, 0, none⟩ (.slice V1 (zr E1 nv) C1)).setCell ⟨w12.heap.size, 1, none⟩ (.slice U1 (zr E1 nf) D1)).frozen? ⟨w12.heap.size + 1 + 1, 1, none⟩ = false := by simp [go_sem, fz_Z1]
        replace l_m : w3.heap.size < ((w13.setCell ⟨w12.heap.size, 0, none⟩ (.slice V1 (zr E1 nv) C1)).setCell ⟨w12.heap.size, 1, none⟩ (.slice U1 (zr E1 nf) D1)).heap.size := by simpa [World.setCell] using l_m
        replace l_b : w6.heap.size < ((w13.setCell ⟨w12.heap.size, 0, none⟩ (.slice V1 (zr E1 nv) C1)).setCell ⟨w12.heap.size, 1, none⟩ (.slice U1 (zr E1 nf) D1)).heap.size := by simpa [World.setCell] using l_b
        replace l_ma : w8.heap.size < ((w13.setCell ⟨w12.heap.size, 0, none⟩ (.slice V1 (zr E1 nv) C1)).setCell ⟨w12.heap.size, 1, none⟩ (.slice U1 (zr E1 nf) D1)).heap.size := by simpa [World.setCell] using l_ma
        replace l_mb : w9.heap.size < ((w13.setCell ⟨w12.heap.size, 0, none⟩ (.slice V1 (zr E1 nv) C1)).setCell ⟨w12.heap.size, 1, none⟩ (.slice U1 (zr E1 nf) D1)).heap.size := by simpa [World.setCell] using l_mb
        replace l_mc : w10.heap.size < ((w13.setCell ⟨w12.heap.size, 0, none⟩ (.slice V1 (zr E1 nv) C1)).setCell ⟨w12.heap.size, 1, none⟩ (.slice U1 (zr E1 nf) D1)).heap.size := by simpa [World.setCell] using l_mc
        replace l_X : w12.heap.size < ((w13.setCell ⟨w12.heap.size, 0, none⟩ (.slice V1 (zr E1 nv) C1)).setCell ⟨w12.heap.size, 1, none⟩ (.slice U1 (zr E1 nf) D1)).heap.size := by simpa [World.setCell] using l_X
        replace l_Y : w12.heap.size + 1 < ((w13.setCell ⟨w12.heap.size, 0, none⟩ (.slice V1 (zr E1 nv) C1)).setCell ⟨w12.heap.size, 1, none⟩ (.slice U1 (zr E1 nf) D1)).heap.size := by simpa [World.setCell] using l_Y
        replace l_Z : w12.heap.size + 1 + 1 < ((w13.setCell ⟨w12.heap.size, 0, none⟩ (.slice V1 (zr E1 nv) C1)).setCell ⟨w12.heap.size, 1, none⟩ (.slice U1 (zr E1 nf) D1)).heap.size := by simpa [World.setCell] using l_Z
        have HB2 := Lib.hid (((HB.out).setCell (p := ⟨w12.heap.size, 0, none⟩) (by show _ ≤ w12.heap.size; omega) (.slice V1 (zr E1 nv) C1)).setCell (p := ⟨w12.heap.size, 1, none⟩) (by show _ ≤ w12.heap.size; omega) (.slice U1 (zr E1 nf) D1))
        have HP2 := Lib.hid (((HP.out).setCell (p := ⟨w12.heap.size, 0, none⟩) (by show _ ≤ w12.heap.size; omega) (.slice V1 (zr E1 nv) C1)).setCell (p := ⟨w12.heap.size, 1, none⟩) (by show _ ≤ w12.heap.size; omega) (.slice U1 (zr E1 nf) D1))
        replace GV1 := Lib.hid (((GV1.out).set (p := ⟨w12.heap.size, 0, none⟩) (by show w12.heap.size < _; omega) (.slice V1 (zr E1 nv) C1)).set (p := ⟨w12.heap.size, 1, none⟩) (by show w12.heap.size < _; omega) (.slice U1 (zr E1 nf) D1))
        replace GF1 := Lib.hid (((GF1.out).set (p := ⟨w12.heap.size, 0, none⟩) (by show w12.heap.size < _; omega) (.slice V1 (zr E1 nv) C1)).set (p := ⟨w12.heap.size, 1, none⟩) (by show w12.heap.size < _; omega) (.slice U1 (zr E1 nf) D1))
        have e2 : (f0 == 0) = false := by simpa using h2
        obtain rfl : E2 = f0 := T2n.out h2
        simp only [zr_not h2] at mb0 mb1
        have e3 : (O3 == 0) = false := by simpa using h3
        obtain rfl : E3 = O3 := T3n.out h3
        simp only [zr_not h3] at mc0 mc1
        go_wp2_with (fail)
        generalize ((w13.setCell ⟨w12.heap.size, 0, none⟩ (.slice V1 (zr E1 nv) C1)).setCell ⟨w12.heap.size, 1, none⟩ (.slice U1 (zr E1 nf) D1)) = w14 at *
        clear X0 X1 HB HP fz_X0 fz_X1 fz_Y0 fz_Y1 fz_Z0 fz_Z1
        have X0 := n_X0
        clear n_X0
        have X1 := n_X1
        clear n_X1
        have fz_X0 := g_X0
        clear g_X0
        have fz_X1 := g_X1
        clear g_X1
        have fz_Y0 := g_Y0
        clear g_Y0
        have fz_Y1 := g_Y1
        clear g_Y1
        have fz_Z0 := g_Z0
        clear g_Z0
        have fz_Z1 := g_Z1
        clear g_Z1
        have HB := HB2
        have HP := HP2
        clear HB2 HP2
        go_wp2_with (fail)
        refine (sameMesh_any v1 V1 u1 U1 _ c1 C1 _ d1 D1 (fun i => qn a q.toNat (V i)) F _ (HV1.out.row3.kept (Below.trans HP.out (Below.mono (B := w14.heap.size) (by repeat (first | exact Below.refl _ _ | assumption | refine Below.drew ?_ | refine bdrewN ?_ _ | refine Below.setCell ?_ (by first | omega | (simp <;> omega)) _ | refine Below.alloc ?_ (by first | omega | (simp <;> omega)) _)) HP.out.size))) (GV1.out.row3.kept (by repeat (first | exact Below.refl _ _ | assumption | refine Below.drew ?_ | refine bdrewN ?_ _ | refine Below.setCell ?_ (by first | omega | (simp <;> omega)) _ | refine Below.alloc ?_ (by first | omega | (simp <;> omega)) _))) (HF1.out.row3.kept (Below.trans HP.out (Below.mono (B := w14.heap.size) (by repeat (first | exact Below.refl _ _ | assumption | refine Below.drew ?_ | refine bdrewN ?_ _ | refine Below.setCell ?_ (by first | omega | (simp <;> omega)) _ | refine Below.alloc ?_ (by first | omega | (simp <;> omega)) _)) HP.out.size))) (GF1.out.row3.kept (by repeat (first | exact Below.refl _ _ | assumption | refine Below.drew ?_ | refine bdrewN ?_ _ | refine Below.setCell ?_ (by first | omega | (simp <;> omega)) _ | refine Below.alloc ?_ (by first | omega | (simp <;> omega)) _))) (by have := zr_le E1 nv; omega) (by have := zr_le E1 nf; omega)).mono ?_
        rintro e w15 ⟨rfl, hb⟩
        have B15 : Below w14.heap.size w14 w15 := hb
        replace m0 := cellk B15 l_m m0
        replace m1 := cellk B15 l_m m1
        replace b0 := cellk B15 l_b b0
        replace b1 := cellk B15 l_b b1
        replace b2 := cellk B15 l_b b2
        replace ma0 := cellk B15 l_ma ma0
        replace ma1 := cellk B15 l_ma ma1
        replace mb0 := cellk B15 l_mb mb0
        replace mb1 := cellk B15 l_mb mb1
        replace mc0 := cellk B15 l_mc mc0
        replace mc1 := cellk B15 l_mc mc1
        replace X0 := cellk B15 l_X X0
        replace X1 := cellk B15 l_X X1
        replace Y0 := cellk B15 l_Y Y0
        replace Y1 := cellk B15 l_Y Y1
        replace Z0 := cellk B15 l_Z Z0
        replace Z1 := cellk B15 l_Z Z1
        replace fz_X0 := (B15.frozen (p := ⟨w12.heap.size, 0, none⟩) l_X).trans fz_X0
        replace fz_X1 := (B15.frozen (p := ⟨w12.heap.size, 1, none⟩) l_X).trans fz_X1
        replace fz_Y0 := (B15.frozen (p := ⟨w12.heap.size + 1, 0, none⟩) l_Y).trans fz_Y0
        replace fz_Y1 := (B15.frozen (p := ⟨w12.heap.size + 1, 1, none⟩) l_Y).trans fz_Y1
        replace fz_Z0 := (B15.frozen (p := ⟨w12.heap.size + 1 + 1, 0, none⟩) l_Z).trans fz_Z0
        replace fz_Z1 := (B15.frozen (p := ⟨w12.heap.size + 1 + 1, 1, none⟩) l_Z).trans fz_Z1
        replace l_m := Nat.lt_of_lt_of_le l_m B15.size
        replace l_b := Nat.lt_of_lt_of_le l_b B15.size
        replace l_ma := Nat.lt_of_lt_of_le l_ma B15.size
        replace l_mb := Nat.lt_of_lt_of_le l_mb B15.size
        replace l_mc := Nat.lt_of_lt_of_le l_mc B15.size
        replace l_X := Nat.lt_of_lt_of_le l_X B15.size
        replace l_Y := Nat.lt_of_lt_of_le l_Y B15.size
        replace l_Z := Nat.lt_of_lt_of_le l_Z B15.size
        replace GV1 := Lib.hid (GV1.out.kept B15)
        replace GF1 := Lib.hid (GF1.out.kept B15)
        replace HB := Lib.hid (HB.out.trans (B15.mono HB.out.size))
        replace HP := Lib.hid (HP.out.trans (B15.mono HP.out.size))
        clear B15
        go_wp2_with (fail)
        refine (sameMesh_any v2 none u2 none 0 c2 0 0 d2 0 V F _ (.inl rfl) (.inl rfl) (.inl rfl) (.inl rfl) (by omega) (by omega)).mono ?_
        rintro e w16 ⟨rfl, hb⟩
        have B16 : Below w15.heap.size w15 w16 := hb
        replace m0 := cellk B16 l_m m0
        replace m1 := cellk B16 l_m m1
        replace b0 := cellk B16 l_b b0
        replace b1 := cellk B16 l_b b1
        replace b2 := cellk B16 l_b b2
        replace ma0 := cellk B16 l_ma ma0
        replace ma1 := cellk B16 l_ma ma1
        replace mb0 := cellk B16 l_mb mb0
        replace mb1 := cellk B16 l_mb mb1
        replace mc0 := cellk B16 l_mc mc0
        replace mc1 := cellk B16 l_mc mc1
        replace X0 := cellk B16 l_X X0
        replace X1 := cellk B16 l_X X1
        replace Y0 := cellk B16 l_Y Y0
        replace Y1 := cellk B16 l_Y Y1
        replace Z0 := cellk B16 l_Z Z0
        replace Z1 := cellk B16 l_Z Z1
        replace fz_X0 := (B16.frozen (p := ⟨w12.heap.size, 0, none⟩) l_X).trans fz_X0
        replace fz_X1 := (B16.frozen (p := ⟨w12.heap.size, 1, none⟩) l_X).trans fz_X1
        replace fz_Y0 := (B16.frozen (p := ⟨w12.heap.size + 1, 0, none⟩) l_Y).trans fz_Y0
        replace fz_Y1 := (B16.frozen (p := ⟨w12.heap.size + 1, 1, none⟩) l_Y).trans fz_Y1
        replace fz_Z0 := (B16.frozen (p := ⟨w12.heap.size + 1 + 1, 0, none⟩) l_Z).trans fz_Z0
        replace fz_Z1 := (B16.frozen (p := ⟨w12.heap.size + 1 + 1, 1, none⟩) l_Z).trans fz_Z1
        replace l_m := Nat.lt_of_lt_of_le l_m B16.size
        replace l_b := Nat.lt_of_lt_of_le l_b B16.size
        replace l_ma := Nat.lt_of_lt_of_le l_ma B16.size
        replace l_mb := Nat.lt_of_lt_of_le l_mb B16.size
        replace l_mc := Nat.lt_of_lt_of_le l_mc B16.size
        replace l_X := Nat.lt_of_lt_of_le l_X B16.size
        replace l_Y := Nat.lt_of_lt_of_le l_Y B16.size
        replace l_Z := Nat.lt_of_lt_of_le l_Z B16.size
        replace GV1 := Lib.hid (GV1.out.kept B16)
        replace GF1 := Lib.hid (GF1.out.kept B16)
        replace HB := Lib.hid (HB.out.trans (B16.mono HB.out.size))
        replace HP := Lib.hid (HP.out.trans (B16.mono HP.out.size))
        clear B16
        go_wp2_with (fail)
        refine (sameMesh_any v3 none u3 none 0 c3 0 0 d3 0 V F _ (.inl rfl) (.inl rfl) (.inl rfl) (.inl rfl) (by omega) (by omega)).mono ?_
        rintro e w17 ⟨rfl, hb⟩
        have B17 : Below w16.heap.size w16 w17 := hb
        replace m0 := cellk B17 l_m m0
        replace m1 := cellk B17 l_m m1
        replace b0 := cellk B17 l_b b0
        replace b1 := cellk B17 l_b b1
        replace b2 := cellk B17 l_b b2
        replace ma0 := cellk B17 l_ma ma0
        replace ma1 := cellk B17 l_ma ma1
        replace mb0 := cellk B17 l_mb mb0
        replace mb1 := cellk B17 l_mb mb1
        replace mc0 := cellk B17 l_mc mc0
        replace mc1 := cellk B17 l_mc mc1
        replace X0 := cellk B17 l_X X0
        replace X1 := cellk B17 l_X X1
        replace Y0 := cellk B17 l_Y Y0
        replace Y1 := cellk B17 l_Y Y1
        replace Z0 := cellk B17 l_Z Z0
        replace Z1 := cellk B17 l_Z Z1
        replace fz_X0 := (B17.frozen (p := ⟨w12.heap.size, 0, none⟩) l_X).trans fz_X0
        replace fz_X1 := (B17.frozen (p := ⟨w12.heap.size, 1, none⟩) l_X).trans fz_X1
        replace fz_Y0 := (B17.frozen (p := ⟨w12.heap.size + 1, 0, none⟩) l_Y).trans fz_Y0
        replace fz_Y1 := (B17.frozen (p := ⟨w12.heap.size + 1, 1, none⟩) l_Y).trans fz_Y1
        replace fz_Z0 := (B17.frozen (p := ⟨w12.heap.size + 1 + 1, 0, none⟩) l_Z).trans fz_Z0
        replace fz_Z1 := (B17.frozen (p := ⟨w12.heap.size + 1 + 1, 1, none⟩) l_Z).trans fz_Z1
        replace l_m := Nat.lt_of_lt_of_le l_m B17.size
        replace l_b := Nat.lt_of_lt_of_le l_b B17.size
        replace l_ma := Nat.lt_of_lt_of_le l_ma B17.size
        replace l_mb := Nat.lt_of_lt_of_le l_mb B17.size
        replace l_mc := Nat.lt_of_lt_of_le l_mc B17.size
        replace l_X := Nat.lt_of_lt_of_le l_X B17.size
        replace l_Y := Nat.lt_of_lt_of_le l_Y B17.size
        replace l_Z := Nat.lt_of_lt_of_le l_Z B17.size
        replace GV1 := Lib.hid (GV1.out.kept B17)
        replace GF1 := Lib.hid (GF1.out.kept B17)
        replace HB := Lib.hid (HB.out.trans (B17.mono HB.out.size))
        replace HP := Lib.hid (HP.out.trans (B17.mono HP.out.size))
        clear B17
        go_wp2_with (fail)
        refine (meshed_any _).mono ?_
        rintro e w18 ⟨rfl, hb⟩
        have B18 : Below w17.heap.size w17 w18 := hb
        replace m0 := cellk B18 l_m m0
        replace m1 := cellk B18 l_m m1
        replace b0 := cellk B18 l_b b0
        replace b1 := cellk B18 l_b b1
        replace b2 := cellk B18 l_b b2
        replace ma0 := cellk B18 l_ma ma0
        replace ma1 := cellk B18 l_ma ma1
        replace mb0 := cellk B18 l_mb mb0
        replace mb1 := cellk B18 l_mb mb1
        replace mc0 := cellk B18 l_mc mc0
        replace mc1 := cellk B18 l_mc mc1
        replace X0 := cellk B18 l_X X0
        replace X1 := cellk B18 l_X X1
        replace Y0 := cellk B18 l_Y Y0
        replace Y1 := cellk B18 l_Y Y1
        replace Z0 := cellk B18 l_Z Z0
        replace Z1 := cellk B18 l_Z Z1
        replace fz_X0 := (B18.frozen (p := ⟨w12.heap.size, 0, none⟩) l_X).trans fz_X0
        replace fz_X1 := (B18.frozen (p := ⟨w12.heap.size, 1, none⟩) l_X).trans fz_X1
        replace fz_Y0 := (B18.frozen (p := ⟨w12.heap.size + 1, 0, none⟩) l_Y).trans fz_Y0
        replace fz_Y1 := (B18.frozen (p := ⟨w12.heap.size + 1, 1, none⟩) l_Y).trans fz_Y1
        replace fz_Z0 := (B18.frozen (p := ⟨w12.heap.size + 1 + 1, 0, none⟩) l_Z).trans fz_Z0
        replace fz_Z1 := (B18.frozen (p := ⟨w12.heap.size + 1 + 1, 1, none⟩) l_Z).trans fz_Z1
        replace l_m := Nat.lt_of_lt_of_le l_m B18.size
        replace l_b := Nat.lt_of_lt_of_le l_b B18.size
        replace l_ma := Nat.lt_of_lt_of_le l_ma B18.size
        replace l_mb := Nat.lt_of_lt_of_le l_mb B18.size
        replace l_mc := Nat.lt_of_lt_of_le l_mc B18.size
        replace l_X := Nat.lt_of_lt_of_le l_X B18.size
        replace l_Y := Nat.lt_of_lt_of_le l_Y B18.size
        replace l_Z := Nat.lt_of_lt_of_le l_Z B18.size
        replace GV1 := Lib.hid (GV1.out.kept B18)
        replace GF1 := Lib.hid (GF1.out.kept B18)
        replace HB := Lib.hid (HB.out.trans (B18.mono HB.out.size))
        replace HP := Lib.hid (HP.out.trans (B18.mono HP.out.size))
        clear B18
        have R := Lib.hid ((HM.out.toBelow w.heap.size (Nat.le_refl _) (fun k hk => by omega)).trans (HB.out.mono hw6))
        go_wp2
        go_ret
        exact ⟨rfl, R.out⟩
  · skip
    by_cases h2 : f0 = 0
    · skip
      by_cases h3 : O3 = 0
      · skip
        have e1 : (O1 == 0) = false := by simpa using h1
        obtain rfl : E1 = O1 := T1n.out h1
        simp only [zr_not h1] at ma0 ma1
        subst h2
        have R2 := Lib.hid (T2z.out (by trivial))
        have x_m1 : w3.heap.size < w12.heap.size + 1 := by omega
        have x_m2 : w3.heap.size < w12.heap.size + 1 + 1 := by omega
        have x_b1 : w6.heap.size < w12.heap.size + 1 := by omega
        have x_b2 : w6.heap.size < w12.heap.size + 1 + 1 := by omega
        have x_ma1 : w8.heap.size < w12.heap.size + 1 := by omega
        have x_ma2 : w8.heap.size < w12.heap.size + 1 + 1 := by omega
        have x_mb1 : w9.heap.size < w12.heap.size + 1 := by omega
        have x_mb2 : w9.heap.size < w12.heap.size + 1 + 1 := by omega
        have x_mc1 : w10.heap.size < w12.heap.size + 1 := by omega
        have x_mc2 : w10.heap.size < w12.heap.size + 1 + 1 := by omega
        go_wp2_with (fail)
        clear x_m1 x_m2 x_b1 x_b2 x_ma1 x_ma2 x_mb1 x_mb2 x_mc1 x_mc2
        refine (movedM_E E2 av af nv cv nf cf V F x y z _ (HV.out.kept (Below.trans HP.out (Below.mono (B := w12.heap.size) (by repeat (first | exact Below.refl _ _ | assumption | refine Below.drew ?_ | refine bdrewN ?_ _ | refine Below.setCell ?_ (by first | omega | (simp <;> omega)) _ | refine Below.alloc ?_ (by first | omega | (simp <;> omega)) _)) HP.out.size))) (HF.out.kept (Below.trans HP.out (Below.mono (B := w12.heap.size) (by repeat (first | exact Below.refl _ _ | assumption | refine Below.drew ?_ | refine bdrewN ?_ _ | refine Below.setCell ?_ (by first | omega | (simp <;> omega)) _ | refine Below.alloc ?_ (by first | omega | (simp <;> omega)) _)) HP.out.size))) (by omega) (by omega) HF0.out R2.out).mono ?_
        rintro e w13 ⟨V2, C2, U2, D2, rfl, rv2, rf2, hb⟩
        have B13 : Below w12.heap.size w12 w13 := Below.trans (by repeat (first | exact Below.refl _ _ | assumption | refine Below.drew ?_ | refine bdrewN ?_ _ | refine Below.setCell ?_ (by first | omega | (simp <;> omega)) _ | refine Below.alloc ?_ (by first | omega | (simp <;> omega)) _)) (hb.mono (by simp <;> omega))
        replace m0 := cellk B13 l_m m0
        replace m1 := cellk B13 l_m m1
        replace b0 := cellk B13 l_b b0
        replace b1 := cellk B13 l_b b1
        replace b2 := cellk B13 l_b b2
        replace ma0 := cellk B13 l_ma ma0
        replace ma1 := cellk B13 l_ma ma1
        replace mb0 := cellk B13 l_mb mb0
        replace mb1 := cellk B13 l_mb mb1
        replace mc0 := cellk B13 l_mc mc0
        replace mc1 := cellk B13 l_mc mc1
        replace l_m := Nat.lt_of_lt_of_le l_m B13.size
        replace l_b := Nat.lt_of_lt_of_le l_b B13.size
        replace l_ma := Nat.lt_of_lt_of_le l_ma B13.size
        replace l_mb := Nat.lt_of_lt_of_le l_mb B13.size
        replace l_mc := Nat.lt_of_lt_of_le l_mc B13.size
        have X0 : w13.cell? ⟨w12.heap.size, 0, none⟩ = some (.slice none 0 0) := by rw [hb.cell (by simp <;> omega)]; simp [go_sem]
        have fz_X0 : w13.frozen? ⟨w12.heap.size, 0, none⟩ = false := by rw [hb.frozen (by simp <;> omega)]; simp [go_sem]
        have X1 : w13.cell? ⟨w12.heap.size, 1, none⟩ = some (.slice none 0 0) := by rw [hb.cell (by simp <;> omega)]; simp [go_sem]
        have fz_X1 : w13.frozen? ⟨w12.heap.size, 1, none⟩ = false := by rw [hb.frozen (by simp <;> omega)]; simp [go_sem]
        have l_X : w12.heap.size < w13.heap.size := by have := hb.size; simp at this; omega
        have Y0 : w13.cell? ⟨w12.heap.size + 1, 0, none⟩ = some (.slice none 0 0) := by rw [hb.cell (by simp <;> omega)]; simp [go_sem]
        have fz_Y0 : w13.frozen? ⟨w12.heap.size + 1, 0, none⟩ = false := by rw [hb.frozen (by simp <;> omega)]; simp [go_sem]
        have Y1 : w13.cell? ⟨w12.heap.size + 1, 1, none⟩ = some (.slice none 0 0) := by rw [hb.cell (by simp <;> omega)]; simp [go_sem]
        have fz_Y1 : w13.frozen? ⟨w12.heap.size + 1, 1, none⟩ = false := by rw [hb.frozen (by simp <;> omega)]; simp [go_sem]
        have l_Y : w12.heap.size + 1 < w13.heap.size := by have := hb.size; simp at this; omega
        have Z0 : w13.cell? ⟨w12.heap.size + 1 + 1, 0, none⟩ = some (.slice none 0 0) := by rw [hb.cell (by simp <;> omega)]; simp [go_sem]
        have fz_Z0 : w13.frozen? ⟨w12.heap.size + 1 + 1, 0, none⟩ = false := by rw [hb.frozen (by simp <;> omega)]; simp [go_sem]
        have Z1 : w13.cell? ⟨w12.heap.size + 1 + 1, 1, none⟩ = some (.slice none 0 0) := by rw [hb.cell (by simp <;> omega)]; simp [go_sem]
        have fz_Z1 : w13.frozen? ⟨w12.heap.size + 1 + 1, 1, none⟩ = false := by rw [hb.frozen (by simp <;> omega)]; simp [go_sem]
        have l_Z : w12.heap.size + 1 + 1 < w13.heap.size := by have := hb.size; simp at this; omega
        replace HB := Lib.hid (HB.out.trans (B13.mono HB.out.size))
        replace HP := Lib.hid (HP.out.trans (B13.mono HP.out.size))
        have GV2 := Lib.hid (rv2.weak (base' := w12.heap.size + 1 + 1 + 1) (by have := HP.out.size; simp <;> omega))
        clear rv2
        have GF2 := Lib.hid (rf2.weak (base' := w12.heap.size + 1 + 1 + 1) (by have := HP.out.size; simp <;> omega))
        clear rf2
        clear hb B13
        replace m0 : ((w13.setCell ⟨w12.heap.size + 1, 0, none⟩ (.slice V2 (zr E2 nv) C2)).setCell ⟨w12.heap.size + 1, 1, none⟩ (.slice U2 (zr E2 nf) D2)).cell? ⟨w3.heap.size, 0, none⟩ = some (.slice av nv cv) := (sc_other (ne_block (by omega))).trans ((sc_other (ne_block (by omega))).trans (m0))
        replace m1 : ((w13.setCell ⟨w12.heap.size + 1, 0, none⟩ (.slice V2 (zr E2 nv) C2)).setCell ⟨w12.heap.size + 1, 1, none⟩ (.slice U2 (zr E2 nf) D2)).cell? ⟨w3.heap.size, 1, none⟩ = some (.slice af nf cf) := (sc_other (ne_block (by omega))).trans ((sc_other (ne_block (by omega))).trans (m1))
        replace b0 : ((w13.setCell ⟨w12.heap.size + 1, 0, none⟩ (.slice V2 (zr E2 nv) C2)).setCell ⟨w12.heap.size + 1, 1, none⟩ (.slice U2 (zr E2 nf) D2)).cell? ⟨w6.heap.size, 0, none⟩ = some (.int .i64 x) := (sc_other (ne_block (by omega))).trans ((sc_other (ne_block (by omega))).trans (b0))
        replace b1 : ((w13.setCell ⟨w12.heap.size + 1, 0, none⟩ (.slice V2 (zr E2 nv) C2)).setCell ⟨w12.heap.size + 1, 1, none⟩ (.slice U2 (zr E2 nf) D2)).cell? ⟨w6.heap.size, 1, none⟩ = some (.int .i64 y) := (sc_other (ne_block (by omega))).trans ((sc_other (ne_block (by omega))).trans (b1))
        replace b2 : ((w13.setCell ⟨w12.heap.size + 1, 0, none⟩ (.slice V2 (zr E2 nv) C2)).setCell ⟨w12.heap.size + 1, 1, none⟩ (.slice U2 (zr E2 nf) D2)).cell? ⟨w6.heap.size, 2, none⟩ = some (.int .i64 z) := (sc_other (ne_block (by omega))).trans ((sc_other (ne_block (by omega))).trans (b2))
        replace ma0 : ((w13.setCell ⟨w12.heap.size + 1, 0, none⟩ (.slice V2 (zr E2 nv) C2)).setCell ⟨w12.heap.size + 1, 1, none⟩ (.slice U2 (zr E2 nf) D2)).cell? ⟨w8.heap.size, 0, none⟩ = some (.slice v1 0 c1) := (sc_other (ne_block (by omega))).trans ((sc_other (ne_block (by omega))).trans (ma0))
        replace ma1 : ((w13.setCell ⟨w12.heap.size + 1, 0, none⟩ (.slice V2 (zr E2 nv) C2)).setCell ⟨w12.heap.size + 1, 1, none⟩ (.slice U2 (zr E2 nf) D2)).cell? ⟨w8.heap.size, 1, none⟩ = some (.slice u1 0 d1) := (sc_other (ne_block (by omega))).trans ((sc_other (ne_block (by omega))).trans (ma1))
        replace mb0 : ((w13.setCell ⟨w12.heap.size + 1, 0, none⟩ (.slice V2 (zr E2 nv) C2)).setCell ⟨w12.heap.size + 1, 1, none⟩ (.slice U2 (zr E2 nf) D2)).cell? ⟨w9.heap.size, 0, none⟩ = some (.slice v2 (zr E2 nv) c2) := (sc_other (ne_block (by omega))).trans ((sc_other (ne_block (by omega))).trans (mb0))
        replace mb1 : ((w13.setCell ⟨w12.heap.size + 1, 0, none⟩ (.slice V2 (zr E2 nv) C2)).setCell ⟨w12.heap.size + 1, 1, none⟩ (.slice U2 (zr E2 nf) D2)).cell? ⟨w9.heap.size, 1, none⟩ = some (.slice u2 (zr E2 nf) d2) := (sc_other (ne_block (by omega))).trans ((sc_other (ne_block (by omega))).trans (mb1))
        replace mc0 : ((w13.setCell ⟨w12.heap.size + 1, 0, none⟩ (.slice V2 (zr E2 nv) C2)).setCell ⟨w12.heap.size + 1, 1, none⟩ (.slice U2 (zr E2 nf) D2)).cell? ⟨w10.heap.size, 0, none⟩ = some (.slice v3 (zr E3 nv) c3) := (sc_other (ne_block (by omega))).trans ((sc_other (ne_block (by omega))).trans (mc0))
        replace mc1 : ((w13.setCell ⟨w12.heap.size + 1, 0, none⟩ (.slice V2 (zr E2 nv) C2)).setCell ⟨w12.heap.size + 1, 1, none⟩ (.slice U2 (zr E2 nf) D2)).cell? ⟨w10.heap.size, 1, none⟩ = some (.slice u3 (zr E3 nf) d3) := (sc_other (ne_block (by omega))).trans ((sc_other (ne_block (by omega))).trans (mc1))
        replace X0 : ((w13.setCell ⟨w12.heap.size + 1, 0, none⟩ (.slice V2 (zr E2 nv) C2)).setCell ⟨w12.heap.size + 1, 1, none⟩ (.slice U2 (zr E2 nf) D2)).cell? ⟨w12.heap.size, 0, none⟩ = some (.slice none 0 0) := (sc_other (ne_block (by omega))).trans ((sc_other (ne_block (by omega))).trans (X0))
        replace X1 : ((w13.setCell ⟨w12.heap.size + 1, 0, none⟩ (.slice V2 (zr E2 nv) C2)).setCell ⟨w12.heap.size + 1, 1, none⟩ (.slice U2 (zr E2 nf) D2)).cell? ⟨w12.heap.size, 1, none⟩ = some (.slice none 0 0) := (sc_other (ne_block (by omega))).trans ((sc_other (ne_block (by omega))).trans (X1))
        replace Z0 : ((w13.setCell ⟨w12.heap.size + 1, 0, none⟩ (.slice V2 (zr E2 nv) C2)).setCell ⟨w12.heap.size + 1, 1, none⟩ (.slice U2 (zr E2 nf) D2)).cell? ⟨w12.heap.size + 1 + 1, 0, none⟩ = some (.slice none 0 0) := (sc_other (ne_block (by omega))).trans ((sc_other (ne_block (by omega))).trans (Z0))
        replace Z1 : ((w13.setCell ⟨w12.heap.size + 1, 0, none⟩ (.slice V2 (zr E2 nv) C2)).setCell ⟨w12.heap.size + 1, 1, none⟩ (.slice U2 (zr E2 nf) D2)).cell? ⟨w12.heap.size + 1 + 1, 1, none⟩ = some (.slice none 0 0) := (sc_other (ne_block (by omega))).trans ((sc_other (ne_block (by omega))).trans (Z1))
        have n_Y0 : ((w13.setCell ⟨w12.heap.size + 1, 0, none⟩ (.slice V2 (zr E2 nv) C2)).setCell ⟨w12.heap.size + 1, 1, none⟩ (.slice U2 (zr E2 nf) D2)).cell? ⟨w12.heap.size + 1, 0, none⟩ = some (.slice V2 (zr E2 nv) C2) := (sc_other (ne_off (by decide))).trans (sc_same (Y0))
        have n_Y1 : ((w13.setCell ⟨w12.heap.size + 1, 0, none⟩ (.slice V2 (zr E2 nv) C2)).setCell ⟨w12.heap.size + 1, 1, none⟩ (.slice U2 (zr E2 nf) D2)).cell? ⟨w12.heap.size + 1, 1, none⟩ = some (.slice U2 (zr E2 nf) D2) := sc_same ((sc_other (ne_off (by decide))).trans (Y1))
        have g_X0 : ((w13.setCell ⟨w12.heap.size + 1, 0, none⟩ (.slice V2 (zr E2 nv) C2)).setCell ⟨w12.heap.size + 1, 1, none⟩ (.slice U2 (zr E2 nf) D2)).frozen? ⟨w12.heap.size, 0, none⟩ = false := by simp [go_sem, fz_X0]
        have g_X1 : ((w13.setCell ⟨w12.heap.size + 1, 0, none⟩ (.slice V2 (zr E2 nv) C2)).setCell ⟨w12.heap.size + 1, 1, none⟩ (.slice U2 (zr E2 nf) D2)).frozen? ⟨w12.heap.size, 1, none⟩ = false := by simp [go_sem, fz_X1]
        have g_Y0 : ((w13.setCell ⟨w12.heap.size + 1, 0, none⟩ (.slice V2 (zr E2 nv) C2)).setCell ⟨w12.heap.size + 1, 1, none⟩ (.slice U2 (zr E2 nf) D2)).frozen? ⟨w12.heap.size + 1, 0, none⟩ = false := by simp [go_sem, fz_Y0]
        have g_Y1 : ((w13.setCell ⟨w12.heap.size + 1, 0, none⟩ (.slice V2 (zr E2 nv) C2)).setCell ⟨w12.heap.size + 1, 1, none⟩ (.slice U2 (zr E2 nf) D2)).frozen? ⟨w12.heap.size + 1, 1, none⟩ = false := by simp [go_sem, fz_Y1]
        have g_Z0 : ((w13.setCell ⟨w12.heap.size + 1, 0, none⟩ (.slice V2 (zr E2 nv) C2)).setCell ⟨w12.heap.size + 1, 1, none⟩ (.slice U2 (zr E2 nf) D2)).frozen? ⟨w12.heap.size + 1 + 1, 0, none⟩ = false := by simp [go_sem, fz_Z0]
        have g_Z1 : ((w13.setCell ⟨w12.heap.size + 1, 0, none⟩ (.slice V2 (zr E2 nv) C2)).setCell ⟨w12.heap.size + 1, 1, none⟩ (.slice U2 (zr E2 nf) D2)).frozen? ⟨w12.heap.size + 1 + 1, 1, none⟩ = false := by simp [go_sem, fz_Z1]
        replace l_m : w3.heap.size < ((w13.setCell ⟨w12.heap.size + 1, 0, none⟩ (.slice V2 (zr E2 nv) C2)).setCell ⟨w12.heap.size + 1, 1, none⟩ (.slice U2 (zr E2 nf) D2)).heap.size := by simpa [World.setCell] using l_m
        replace l_b : w6.heap.size < ((w13.setCell ⟨w12.heap.size + 1, 0, none⟩ (.slice V2 (zr E2 nv) C2)).setCell ⟨w12.heap.size + 1, 1, none⟩ (.slice U2 (zr E2 nf) D2)).heap.size := by simpa [World.setCell] using l_b
        replace l_ma : w8.heap.size < ((w13.setCell ⟨w12.heap.size + 1, 0, none⟩ (.slice V2 (zr E2 nv) C2)).setCell ⟨w12.heap.size + 1, 1, none⟩ (.slice U2 (zr E2 nf) D2)).heap.size := by simpa [World.setCell] using l_ma
        replace l_mb : w9.heap.size < ((w13.setCell ⟨w12.heap.size + 1, 0, none⟩ (.slice V2 (zr E2 nv) C2)).setCell ⟨w12.heap.size + 1, 1, none⟩ (.slice U2 (zr E2 nf) D2)).heap.size := by simpa [World.setCell] using l_mb
        replace l_mc : w10.heap.size < ((w13.setCell ⟨w12.heap.size + 1, 0, none⟩ (.slice V2 (zr E2 nv) C2)).setCell ⟨w12.heap.size + 1, 1, none⟩ (.slice U2 (zr E2 nf) D2)).heap.size := by simpa [World.setCell] using l_mc
        replace l_X : w12.heap.size < ((w13.setCell ⟨w12.heap.size + 1, 0, none⟩ (.slice V2 (zr E2 nv) C2)).setCell ⟨w12.heap.size + 1, 1, none⟩ (.slice U2 (zr E2 nf) D2)).heap.size := by simpa [World.setCell] using l_X
        replace l_Y : w12.heap.size + 1 < ((w13.setCell ⟨w12.heap.size + 1, 0, none⟩ (.slice V2 (zr E2 nv) C2)).setCell ⟨w12.heap.size + 1, 1, none⟩ (.slice U2 (zr E2 nf) D2)).heap.size := by simpa [World.setCell] using l_Y
        replace l_Z : w12.heap.size + 1 + 1 < ((w13.setCell ⟨w12.heap.size + 1, 0, none⟩ (.slice V2 (zr E2 nv) C2)).setCell ⟨w12.heap.size + 1, 1, none⟩ (.slice U2 (zr E2 nf) D2)).heap.size := by simpa [World.setCell] using l_Z
        have HB2 := Lib.hid (((HB.out).setCell (p := ⟨w12.heap.size + 1, 0, none⟩) (by show _ ≤ w12.heap.size + 1; omega) (.slice V2 (zr E2 nv) C2)).setCell (p := ⟨w12.heap.size + 1, 1, none⟩) (by show _ ≤ w12.heap.size + 1; omega) (.slice U2 (zr E2 nf) D2))
        have HP2 := Lib.hid (((HP.out).setCell (p := ⟨w12.heap.size + 1, 0, none⟩) (by show _ ≤ w12.heap.size + 1; omega) (.slice V2 (zr E2 nv) C2)).setCell (p := ⟨w12.heap.size + 1, 1, none⟩) (by show _ ≤ w12.heap.size + 1; omega) (.slice U2 (zr E2 nf) D2))
        replace GV2 := Lib.hid (((GV2.out).set (p := ⟨w12.heap.size + 1, 0, none⟩) (by show w12.heap.size + 1 < _; omega) (.slice V2 (zr E2 nv) C2)).set (p := ⟨w12.heap.size + 1, 1, none⟩) (by show w12.heap.size + 1 < _; omega) (.slice U2 (zr E2 nf) D2))
        replace GF2 := Lib.hid (((GF2.out).set (p := ⟨w12.heap.size + 1, 0, none⟩) (by show w12.heap.size + 1 < _; omega) (.slice V2 (zr E2 nv) C2)).set (p := ⟨w12.heap.size + 1, 1, none⟩) (by show w12.heap.size + 1 < _; omega) (.slice U2 (zr E2 nf) D2))
        go_wp2_with (fail)
        generalize ((w13.setCell ⟨w12.heap.size + 1, 0, none⟩ (.slice V2 (zr E2 nv) C2)).setCell ⟨w12.heap.size + 1, 1, none⟩ (.slice U2 (zr E2 nf) D2)) = w14 at *
        clear Y0 Y1 HB HP fz_X0 fz_X1 fz_Y0 fz_Y1 fz_Z0 fz_Z1
        have Y0 := n_Y0
        clear n_Y0
        have Y1 := n_Y1
        clear n_Y1
        have fz_X0 := g_X0
        clear g_X0
        have fz_X1 := g_X1
        clear g_X1
        have fz_Y0 := g_Y0
        clear g_Y0
        have fz_Y1 := g_Y1
        clear g_Y1
        have fz_Z0 := g_Z0
        clear g_Z0
        have fz_Z1 := g_Z1
        clear g_Z1
        have HB := HB2
        have HP := HP2
        clear HB2 HP2
        subst h3
        have R3 := Lib.hid (T3z.out (by trivial))
        have zz3 : w12.heap.size + 1 + 1 + 1 ≤ w14.heap.size := by omega
        go_wp2_with (fail)
        refine (mirM_E E3 av af nv cv nf cf V F a _ (HV.out.kept (Below.trans HP.out (Below.mono (B := w14.heap.size) (by repeat (first | exact Below.refl _ _ | assumption | refine Below.drew ?_ | refine bdrewN ?_ _ | refine Below.setCell ?_ (by first | omega | (simp <;> omega)) _ | refine Below.alloc ?_ (by first | omega | (simp <;> omega)) _)) HP.out.size))) (HF.out.kept (Below.trans HP.out (Below.mono (B := w14.heap.size) (by repeat (first | exact Below.refl _ _ | assumption | refine Below.drew ?_ | refine bdrewN ?_ _ | refine Below.setCell ?_ (by first | omega | (simp <;> omega)) _ | refine Below.alloc ?_ (by first | omega | (simp <;> omega)) _)) HP.out.size))) (by omega) (by omega) R3.out).mono ?_
        rintro e w15 ⟨V3, C3, U3, D3, rfl, rv3, rf3, hb⟩
        have B15 : Below w14.heap.size w14 w15 := hb
        replace m0 := cellk B15 l_m m0
        replace m1 := cellk B15 l_m m1
        replace b0 := cellk B15 l_b b0
        replace b1 := cellk B15 l_b b1
        replace b2 := cellk B15 l_b b2
        replace ma0 := cellk B15 l_ma ma0
        replace ma1 := cellk B15 l_ma ma1
        replace mb0 := cellk B15 l_mb mb0
        replace mb1 := cellk B15 l_mb mb1
        replace mc0 := cellk B15 l_mc mc0
        replace mc1 := cellk B15 l_mc mc1
        replace X0 := cellk B15 l_X X0
        replace X1 := cellk B15 l_X X1
        replace Y0 := cellk B15 l_Y Y0
        replace Y1 := cellk B15 l_Y Y1
        replace Z0 := cellk B15 l_Z Z0
        replace Z1 := cellk B15 l_Z Z1
        replace fz_X0 := (B15.frozen (p := ⟨w12.heap.size, 0, none⟩) l_X).trans fz_X0
        replace fz_X1 := (B15.frozen (p := ⟨w12.heap.size, 1, none⟩) l_X).trans fz_X1
        replace fz_Y0 := (B15.frozen (p := ⟨w12.heap.size + 1, 0, none⟩) l_Y).trans fz_Y0
        replace fz_Y1 := (B15.frozen (p := ⟨w12.heap.size + 1, 1, none⟩) l_Y).trans fz_Y1
        replace fz_Z0 := (B15.frozen (p := ⟨w12.heap.size + 1 + 1, 0, none⟩) l_Z).trans fz_Z0
        replace fz_Z1 := (B15.frozen (p := ⟨w12.heap.size + 1 + 1, 1, none⟩) l_Z).trans fz_Z1
        replace l_m := Nat.lt_of_lt_of_le l_m B15.size
        replace l_b := Nat.lt_of_lt_of_le l_b B15.size
        replace l_ma := Nat.lt_of_lt_of_le l_ma B15.size
        replace l_mb := Nat.lt_of_lt_of_le l_mb B15.size
        replace l_mc := Nat.lt_of_lt_of_le l_mc B15.size
        replace l_X := Nat.lt_of_lt_of_le l_X B15.size
        replace l_Y := Nat.lt_of_lt_of_le l_Y B15.size
        replace l_Z := Nat.lt_of_lt_of_le l_Z B15.size
        replace GV2 := Lib.hid (GV2.out.kept B15)
        replace GF2 := Lib.hid (GF2.out.kept B15)
        replace HB := Lib.hid (HB.out.trans (B15.mono HB.out.size))
        replace HP := Lib.hid (HP.out.trans (B15.mono HP.out.size))
        have GV3 := Lib.hid (rv3.weak (base' := w12.heap.size + 1 + 1 + 1) (by omega))
        clear rv3
        have GF3 := Lib.hid (rf3.weak (base' := w12.heap.size + 1 + 1 + 1) (by omega))
        clear rf3
        clear B15
        replace m0 : ((w15.setCell ⟨w12.heap.size + 1 + 1, 0, none⟩ (.slice V3 (zr E3 nv) C3)).setCell ⟨w12.heap.size + 1 + 1, 1, none⟩ (.slice U3 (zr E3 nf) D3)).cell? ⟨w3.heap.size, 0, none⟩ = some (.slice av nv cv) := (sc_other (ne_block (by omega))).trans ((sc_other (ne_block (by omega))).trans (m0))
        replace m1 : ((w15.setCell ⟨w12.heap.size + 1 + 1, 0, none⟩ (.slice V3 (zr E3 nv) C3)).setCell ⟨w12.heap.size + 1 + 1, 1, none⟩ (.slice U3 (zr E3 nf) D3)).cell? ⟨w3.heap.size, 1, none⟩ = some (.slice af nf cf) := (sc_other (ne_block (by omega))).trans ((sc_other (ne_block (by omega))).trans (m1))
        replace b0 : ((w15.setCell ⟨w12.heap.size + 1 + 1, 0, none⟩ (.slice V3 (zr E3 nv) C3)).setCell ⟨w12.heap.size + 1 + 1, 1, none⟩ (.slice U3 (zr E3 nf) D3)).cell? ⟨w6.heap.size, 0, none⟩ = some (.int .i64 x) := (sc_other (ne_block (by omega))).trans ((sc_other (ne_block (by omega))).trans (b0))
        replace b1 : ((w15.setCell ⟨w12.heap.size + 1 + 1, 0, none⟩ (.slice V3 (zr E3 nv) C3)).setCell ⟨w12.heap.size + 1 + 1, 1, none⟩ (.slice U3 (zr E3 nf) D3)).cell? ⟨w6.heap.size, 1, none⟩ = some (.int .i64 y) := (sc_other (ne_block (by omega))).trans ((sc_other (ne_block (by omega))).trans (b1))
        replace b2 : ((w15.setCell ⟨w12.heap.size + 1 + 1, 0, none⟩ (.slice V3 (zr E3 nv) C3)).setCell ⟨w12.heap.size + 1 + 1, 1, none⟩ (.slice U3 (zr E3 nf) D3)).cell? ⟨w6.heap.size, 2, none⟩ = some (.int .i64 z) := (sc_other (ne_block (by omega))).trans ((sc_other (ne_block (by omega))).trans (b2))
        replace ma0 : ((w15.setCell ⟨w12.heap.size + 1 + 1, 0, none⟩ (.slice V3 (zr E3 nv) C3)).setCell ⟨w12.heap.size + 1 + 1, 1, none⟩ (.slice U3 (zr E3 nf) D3)).cell? ⟨w8.heap.size, 0, none⟩ = some (.slice v1 0 c1) := (sc_other (ne_block (by omega))).trans ((sc_other (ne_block (by omega))).trans (ma0))
        replace ma1 : ((w15.setCell ⟨w12.heap.size + 1 + 1, 0, none⟩ (.slice V3 (zr E3 nv) C3)).setCell ⟨w12.heap.size + 1 + 1, 1, none⟩ (.slice U3 (zr E3 nf) D3)).cell? ⟨w8.heap.size, 1, none⟩ = some (.slice u1 0 d1) := (sc_other (ne_block (by omega))).trans ((sc_other (ne_block (by omega))).trans (ma1))
        replace mb0 : ((w15.setCell ⟨w12.heap.size + 1 + 1, 0, none⟩ (.slice V3 (zr E3 nv) C3)).setCell ⟨w12.heap.size + 1 + 1, 1, none⟩ (.slice U3 (zr E3 nf) D3)).cell? ⟨w9.heap.size, 0, none⟩ = some (.slice v2 (zr E2 nv) c2) := (sc_other (ne_block (by omega))).trans ((sc_other (ne_block (by omega))).trans (mb0))
        replace mb1 : ((w15.setCell ⟨w12.heap.size + 1 + 1, 0, none⟩ (.slice V3 (zr E3 nv) C3)).setCell ⟨w12.heap.size + 1 + 1, 1, none⟩ (.slice U3 (zr E3 nf) D3)).cell? ⟨w9.heap.size, 1, none⟩ = some (.slice u2 (zr E2 nf) d2) := (sc_other (ne_block (by omega))).trans ((sc_other (ne_block (by omega))).trans (mb1))
        replace mc0 : ((w15.setCell ⟨w12.heap.size + 1 + 1, 0, none⟩ (.slice V3 (zr E3 nv) C3)).setCell ⟨w12.heap.size + 1 + 1, 1, none⟩ (.slice U3 (zr E3 nf) D3)).cell? ⟨w10.heap.size, 0, none⟩ = some (.slice v3 (zr E3 nv) c3) := (sc_other (ne_block (by omega))).trans ((sc_other (ne_block (by omega))).trans (mc0))
        replace mc1 : ((w15.setCell ⟨w12.heap.size + 1 + 1, 0, none⟩ (.slice V3 (zr E3 nv) C3)).setCell ⟨w12.heap.size + 1 + 1, 1, none⟩ (.slice U3 (zr E3 nf) D3)).cell? ⟨w10.heap.size, 1, none⟩ = some (.slice u3 (zr E3 nf) d3) := (sc_other (ne_block (by omega))).trans ((sc_other (ne_block (by omega))).trans (mc1))
        replace X0 : ((w15.setCell ⟨w12.heap.size + 1 + 1, 0, none⟩ (.slice V3 (zr E3 nv) C3)).setCell ⟨w12.heap.size + 1 + 1, 1, none⟩ (.slice U3 (zr E3 nf) D3)).cell? ⟨w12.heap.size, 0, none⟩ = some (.slice none 0 0) := (sc_other (ne_block (by omega))).trans ((sc_other (ne_block (by omega))).trans (X0))
        replace X1 : ((w15.setCell ⟨w12.heap.size + 1 + 1, 0, none⟩ (.slice V3 (zr E3 nv) C3)).setCell ⟨w12.heap.size + 1 + 1, 1, none⟩ (.slice U3 (zr E3 nf) D3)).cell? ⟨w12.heap.size, 1, none⟩ = some (.slice none 0 0) := (sc_other (ne_block (by omega))).trans ((sc_other (ne_block (by omega))).trans (X1))
        replace Y0 : ((w15.setCell ⟨w12.heap.size + 1 + 1, 0, none⟩ (.slice V3 (zr E3 nv) C3)).setCell ⟨w12.heap.size + 1 + 1, 1, none⟩ (.slice U3 (zr E3 nf) D3)).cell? ⟨w12.heap.size + 1, 0, none⟩ = some (.slice V2 (zr E2 nv) C2) := (sc_other (ne_block (by omega))).trans ((sc_other (ne_block (by omega))).trans (Y0))
        replace Y1 : ((w15.setCell ⟨w12.heap.size + 1 + 1, 0, none⟩ (.slice V3 (zr E3 nv) C3)).setCell ⟨w12.heap.size + 1 + 1, 1, none⟩ (.slice U3 (zr E3 nf) D3)).cell? ⟨w12.heap.size + 1, 1, none⟩ = some (.slice U2 (zr E2 nf) D2) := (sc_other (ne_block (by omega))).trans ((sc_other (ne_block (by omega))).trans (Y1))
        have n_Z0 : ((w15.setCell ⟨w12.heap.size + 1 + 1, 0, none⟩ (.slice V3 (zr E3 nv) C3)).setCell ⟨w12.heap.size + 1 + 1, 1, none⟩ (.slice U3 (zr E3 nf) D3)).cell? ⟨w12.heap.size + 1 + 1, 0, none⟩ = some (.slice V3 (zr E3 nv) C3) := (sc_other (ne_off (by decide))).trans (sc_same (Z0))
        have n_Z1 : ((w15.setCell ⟨w12.heap.size + 1 + 1, 0, none⟩ (.slice V3 (zr E3 nv) C3)).setCell ⟨w12.heap.size + 1 + 1, 1, none⟩ (.slice U3 (zr E3 nf) D3)).cell? ⟨w12.heap.size + 1 + 1, 1, none⟩ = some (.slice U3 (zr E3 nf) D3) := sc_same ((sc_other (ne_off (by decide))).trans (Z1))
        have g_X0 : ((w15.setCell ⟨w12.heap.size + 1 + 1, 0, none⟩ (.slice V3 (zr E3 nv) C3)).setCell ⟨w12.heap.size + 1 + 1, 1, none⟩ (.slice U3 (zr E3 nf) D3)).frozen? ⟨w12.heap.size, 0, none⟩ = false := by simp [go_sem, fz_X0]
        have g_X1 : ((w15.setCell ⟨w12.heap.size + 1 + 1, 0, none⟩ (.slice V3 (zr E3 nv) C3)).setCell ⟨w12.heap.size + 1 + 1, 1, none⟩ (.slice U3 (zr E3 nf) D3)).frozen? ⟨w12.heap.size, 1, none⟩ = false := by simp [go_sem, fz_X1]
        have g_Y0 : ((w15.setCell ⟨w12.heap.size + 1 + 1, 0, none⟩ (.slice V3 (zr E3 nv) C3)).setCell ⟨w12.heap.size + 1 + 1, 1, none⟩ (.slice U3 (zr E3 nf) D3)).frozen? ⟨w12.heap.size + 1, 0, none⟩ = false := by simp [go_sem, fz_Y0]
        have g_Y1 : ((w15.setCell ⟨w12.heap.size + 1 + 1, 0, none⟩ (.slice V3 (zr E3 nv) C3)).setCell ⟨w12.heap.size + 1 + 1, 1, none⟩ (.slice U3 (zr E3 nf) D3)).frozen? ⟨w12.heap.size + 1, 1, none⟩ = false := by simp [go_sem, fz_Y1]
        have g_Z0 : ((w15.setCell ⟨w12.heap.size + 1 + 1, 0, none⟩ (.slice V3 (zr E3 nv) C3)).setCell ⟨w12.heap.size + 1 + 1, 1, none⟩ (.slice U3 (zr E3 nf) D3)).frozen? ⟨w12.heap.size + 1 + 1, 0, none⟩ = false := by simp [go_sem, fz_Z0]
        have g_Z1 : ((w15.setCell ⟨w12.heap.size + 1 + 1, 0, none⟩ (.slice V3 (zr E3 nv) C3)).setCell ⟨w12.heap.size + 1 + 1, 1, none⟩ (.slice U3 (zr E3 nf) D3)).frozen? ⟨w12.heap.size + 1 + 1, 1, none⟩ = false := by simp [go_sem, fz_Z1]
        replace l_m : w3.heap.size < ((w15.setCell ⟨w12.heap.size + 1 + 1, 0, none⟩ (.slice V3 (zr E3 nv) C3)).setCell ⟨w12.heap.size + 1 + 1, 1, none⟩ (.slice U3 (zr E3 nf) D3)).heap.size := by simpa [World.setCell] using l_m
        replace l_b : w6.heap.size < ((w15.setCell ⟨w12.heap.size + 1 + 1, 0, none⟩ (.slice V3 (zr E3 nv) C3)).setCell ⟨w12.heap.size + 1 + 1, 1, none⟩ (.slice U3 (zr E3 nf) D3)).heap.size := by simpa [World.setCell] using l_b
        replace l_ma : w8.heap.size < ((w15.setCell ⟨w12.heap.size + 1 + 1, 0, none⟩ (.slice V3 (zr E3 nv) C3)).setCell ⟨w12.heap.size + 1 + 1, 1, none⟩ (.slice U3 (zr E3 nf) D3)).heap.size := by simpa [World.setCell] using l_ma
        replace l_mb : w9.heap.size < ((w15.setCell ⟨w12.heap.size + 1 + 1, 0, none⟩ (.slice V3 (zr E3 nv) C3)).setCell ⟨w12.heap.size + 1 + 1, 1, none⟩ (.slice U3 (zr E3 nf) D3)).heap.size := by simpa [World.setCell] using l_mb
        replace l_mc : w10.heap.size < ((w15.setCell ⟨w12.heap.size + 1 + 1, 0, none⟩ (.slice V3 (zr E3 nv) C3)).setCell ⟨w12.heap.size + 1 + 1, 1, none⟩ (.slice U3 (zr E3 nf) D3)).heap.size := by simpa [World.setCell] using l_mc
        replace l_X : w12.heap.size < ((w15.setCell ⟨w12.heap.size + 1 + 1, 0, none⟩ (.slice V3 (zr E3 nv) C3)).setCell ⟨w12.heap.size + 1 + 1, 1, none⟩ (.slice U3 (zr E3 nf) D3)).heap.size := by simpa [World.setCell] using l_X
        replace l_Y : w12.heap.size + 1 < ((w15.setCell ⟨w12.heap.size + 1 + 1, 0, none⟩ (.slice V3 (zr E3 nv) C3)).setCell ⟨w12.heap.size + 1 + 1, 1, none⟩ (.slice U3 (zr E3 nf) D3)).heap.size := by simpa [World.setCell] using l_Y
        replace l_Z : w12.heap.size + 1 + 1 < ((w15.setCell ⟨w12.heap.size + 1 + 1, 0, none⟩ (.slice V3 (zr E3 nv) C3)).setCell ⟨w12.heap.size + 1 + 1, 1, none⟩ (.slice U3 (zr E3 nf) D3)).heap.size := by simpa [World.setCell] using l_Z
        have HB2 := Lib.hid (((HB.out).setCell (p := ⟨w12.heap.size + 1 + 1, 0, none⟩) (by show _ ≤ w12.heap.size + 1 + 1; omega) (.slice V3 (zr E3 nv) C3)).setCell (p := ⟨w12.heap.size + 1 + 1, 1, none⟩) (by show _ ≤ w12.heap.size + 1 + 1; omega) (.slice U3 (zr E3 nf) D3))
        have HP2 := Lib.hid (((HP.out).setCell (p := ⟨w12.heap.size + 1 + 1, 0, none⟩) (by show _ ≤ w12.heap.size + 1 + 1; omega) (.slice V3 (zr E3 nv) C3)).setCell (p := ⟨w12.heap.size + 1 + 1, 1, none⟩) (by show _ ≤ w12.heap.size + 1 + 1; omega) (.slice U3 (zr E3 nf) D3))
        replace GV2 := Lib.hid (((GV2.out).set (p := ⟨w12.heap.size + 1 + 1, 0, none⟩) (by show w12.heap.size + 1 + 1 < _; omega) (.slice V3 (zr E3 nv) C3)).set (p := ⟨w12.heap.size + 1 + 1, 1, none⟩) (by show w12.heap.size + 1 + 1 < _; omega) (.slice U3 (zr E3 nf) D3))
        replace GF2 := Lib.hid (((GF2.out).set (p := ⟨w12.heap.size + 1 + 1, 0, none⟩) (by show w12.heap.size + 1 + 1 < _; omega) (.slice V3 (zr E3 nv) C3)).set (p := ⟨w12.heap.size + 1 + 1, 1, none⟩) (by show w12.heap.size + 1 + 1 < _; omega) (.slice U3 (zr E3 nf) D3))
        replace GV3 := Lib.hid (((GV3.out).set (p := ⟨w12.heap.size + 1 + 1, 0, none⟩) (by show w12.heap.size + 1 + 1 < _; omega) (.slice V3 (zr E3 nv) C3)).set (p := ⟨w12.heap.size + 1 + 1, 1, none⟩) (by show w12.heap.size + 1 + 1 < _; omega) (.slice U3 (zr E3 nf) D3))
        replace GF3 := Lib.hid (((GF3.out).set (p := ⟨w12.heap.size + 1 + 1, 0, none⟩) (by show w12.heap.size + 1 + 1 < _; omega) (.slice V3 (zr E3 nv) C3)).set (p := ⟨w12.heap.size + 1 + 1, 1, none⟩) (by show w12.heap.size + 1 + 1 < _; omega) (.slice U3 (zr E3 nf) D3))
        go_wp2_with (fail)
        generalize ((w15.setCell ⟨w12.heap.size + 1 + 1, 0, none⟩ (.slice V3 (zr E3 nv) C3)).setCell ⟨w12.heap.size + 1 + 1, 1, none⟩ (.slice U3 (zr E3 nf) D3)) = w16 at *
        clear Z0 Z1 HB HP fz_X0 fz_X1 fz_Y0 fz_Y1 fz_Z0 fz_Z1
        have Z0 := n_Z0
        clear n_Z0
        have Z1 := n_Z1
        clear n_Z1
        have fz_X0 := g_X0
        clear g_X0
        have fz_X1 := g_X1
        clear g_X1
        have fz_Y0 := g_Y0
        clear g_Y0
        have fz_Y1 := g_Y1
        clear g_Y1
        have fz_Z0 := g_Z0
        clear g_Z0
        have fz_Z1 := g_Z1
        clear g_Z1
        have HB := HB2
        have HP := HP2
        clear HB2 HP2
        go_wp2_with (fail)
        refine (sameMesh_any v1 none u1 none 0 c1 0 0 d1 0 V F _ (.inl rfl) (.inl rfl) (.inl rfl) (.inl rfl) (by omega) (by omega)).mono ?_
        rintro e w17 ⟨rfl, hb⟩
        have B17 : Below w16.heap.size w16 w17 := hb
        replace m0 := cellk B17 l_m m0
        replace m1 := cellk B17 l_m m1
        replace b0 := cellk B17 l_b b0
        replace b1 := cellk B17 l_b b1
        replace b2 := cellk B17 l_b b2
        replace ma0 := cellk B17 l_ma ma0
        replace ma1 := cellk B17 l_ma ma1
        replace mb0 := cellk B17 l_mb mb0
        replace mb1 := cellk B17 l_mb mb1
        replace mc0 := cellk B17 l_mc mc0
        replace mc1 := cellk B17 l_mc mc1
        replace X0 := cellk B17 l_X X0
        replace X1 := cellk B17 l_X X1
        replace Y0 := cellk B17 l_Y Y0
        replace Y1 := cellk B17 l_Y Y1
        replace Z0 := cellk B17 l_Z Z0
        replace Z1 := cellk B17 l_Z Z1
        replace fz_X0 := (B17.frozen (p := ⟨w12.heap.size, 0, none⟩) l_X).trans fz_X0
        replace fz_X1 := (B17.frozen (p := ⟨w12.heap.size, 1, none⟩) l_X).trans fz_X1
        replace fz_Y0 := (B17.frozen (p := ⟨w12.heap.size + 1, 0, none⟩) l_Y).trans fz_Y0
        replace fz_Y1 := (B17.frozen (p := ⟨w12.heap.size + 1, 1, none⟩) l_Y).trans fz_Y1
        replace fz_Z0 := (B17.frozen (p := ⟨w12.heap.size + 1 + 1, 0, none⟩) l_Z).trans fz_Z0
        replace fz_Z1 := (B17.frozen (p := ⟨w12.heap.size + 1 + 1, 1, none⟩) l_Z).trans fz_Z1
        replace l_m := Nat.lt_of_lt_of_le l_m B17.size
        replace l_b := Nat.lt_of_lt_of_le l_b B17.size
        replace l_ma := Nat.lt_of_lt_of_le l_ma B17.size
        replace l_mb := Nat.lt_of_lt_of_le l_mb B17.size
        replace l_mc := Nat.lt_of_lt_of_le l_mc B17.size
        replace l_X := Nat.lt_of_lt_of_le l_X B17.size
        replace l_Y := Nat.lt_of_lt_of_le l_Y B17.size
        replace l_Z := Nat.lt_of_lt_of_le l_Z B17.size
        replace GV2 := Lib.hid (GV2.out.kept B17)
        replace GF2 := Lib.hid (GF2.out.kept B17)
        replace GV3 := Lib.hid (GV3.out.kept B17)
        replace GF3 := Lib.hid (GF3.out.kept B17)
        replace HB := Lib.hid (HB.out.trans (B17.mono HB.out.size))
        replace HP := Lib.hid (HP.out.trans (B17.mono HP.out.size))
        clear B17
        go_wp2_with (fail)
        refine (sameMesh_any v2 V2 u2 U2 _ c2 C2 _ d2 D2 (movV V x y z) F _ (HV2.out.row3.kept (Below.trans HP.out (Below.mono (B := w17.heap.size) (by repeat (first | exact Below.refl _ _ | assumption | refine Below.drew ?_ | refine bdrewN ?_ _ | refine Below.setCell ?_ (by first | omega | (simp <;> omega)) _ | refine Below.alloc ?_ (by first | omega | (simp <;> omega)) _)) HP.out.size))) (GV2.out.row3.kept (by repeat (first | exact Below.refl _ _ | assumption | refine Below.drew ?_ | refine bdrewN ?_ _ | refine Below.setCell ?_ (by first | omega | (simp <;> omega)) _ | refine Below.alloc ?_ (by first | omega | (simp <;> omega)) _))) (HF2.out.row3.kept (Below.trans HP.out (Below.mono (B := w17.heap.size) (by repeat (first | exact Below.refl _ _ | assumption | refine Below.drew ?_ | refine bdrewN ?_ _ | refine Below.setCell ?_ (by first | omega | (simp <;> omega)) _ | refine Below.alloc ?_ (by first | omega | (simp <;> omega)) _)) HP.out.size))) (GF2.out.row3.kept (by repeat (first | exact Below.refl _ _ | assumption | refine Below.drew ?_ | refine bdrewN ?_ _ | refine Below.setCell ?_ (by first | omega | (simp <;> omega)) _ | refine Below.alloc ?_ (by first | omega | (simp <;> omega)) _))) (by have := zr_le E2 nv; omega) (by have := zr_le E2 nf; omega)).mono ?_
        rintro e w18 ⟨rfl, hb⟩
        have B18 : Below w17.heap.size w17 w18 := hb
        replace m0 := cellk B18 l_m m0
        replace m1 := cellk B18 l_m m1
        replace b0 := cellk B18 l_b b0
        replace b1 := cellk B18 l_b b1
        replace b2 := cellk B18 l_b b2
        replace ma0 := cellk B18 l_ma ma0
        replace ma1 := cellk B18 l_ma ma1
        replace mb0 := cellk B18 l_mb mb0
        replace mb1 := cellk B18 l_mb mb1
        replace mc0 := cellk B18 l_mc mc0
        replace mc1 := cellk B18 l_mc mc1
        replace X0 := cellk B18 l_X X0
        replace X1 := cellk B18 l_X X1
        replace Y0 := cellk B18 l_Y Y0
        replace Y1 := cellk B18 l_Y Y1
        replace Z0 := cellk B18 l_Z Z0
        replace Z1 := cellk B18 l_Z Z1
        replace fz_X0 := (B18.frozen (p := ⟨w12.heap.size, 0, none⟩) l_X).trans fz_X0
        replace fz_X1 := (B18.frozen (p := ⟨w12.heap.size, 1, none⟩) l_X).trans fz_X1
        replace fz_Y0 := (B18.frozen (p := ⟨w12.heap.size + 1, 0, none⟩) l_Y).trans fz_Y0
        replace fz_Y1 := (B18.frozen (p := ⟨w12.heap.size + 1, 1, none⟩) l_Y).trans fz_Y1
        replace fz_Z0 := (B18.frozen (p := ⟨w12.heap.size + 1 + 1, 0, none⟩) l_Z).trans fz_Z0
        replace fz_Z1 := (B18.frozen (p := ⟨w12.heap.size + 1 + 1, 1, none⟩) l_Z).trans fz_Z1
        replace l_m := Nat.lt_of_lt_of_le l_m B18.size
        replace l_b := Nat.lt_of_lt_of_le l_b B18.size
        replace l_ma := Nat.lt_of_lt_of_le l_ma B18.size
        replace l_mb := Nat.lt_of_lt_of_le l_mb B18.size
        replace l_mc := Nat.lt_of_lt_of_le l_mc B18.size
        replace l_X := Nat.lt_of_lt_of_le l_X B18.size
        replace l_Y := Nat.lt_of_lt_of_le l_Y B18.size
        replace l_Z := Nat.lt_of_lt_of_le l_Z B18.size
        replace GV2 := Lib.hid (GV2.out.kept B18)
        replace GF2 := Lib.hid (GF2.out.kept B18)
        replace GV3 := Lib.hid (GV3.out.kept B18)
        replace GF3 := Lib.hid (GF3.out.kept B18)
        replace HB := Lib.hid (HB.out.trans (B18.mono HB.out.size))
        replace HP := Lib.hid (HP.out.trans (B18.mono HP.out.size))
        clear B18
        go_wp2_with (fail)
        refine (sameMesh_any v3 V3 u3 U3 _ c3 C3 _ d3 D3 (fun i => mv a (V i)) (fun i => sw (F i)) _ (HV3.out.row3.kept (Below.trans HP.out (Below.mono (B := w18.heap.size) (by repeat (first | exact Below.refl _ _ | assumption | refine Below.drew ?_ | refine bdrewN ?_ _ | refine Below.setCell ?_ (by first | omega | (simp <;> omega)) _ | refine Below.alloc ?_ (by first | omega | (simp <;> omega)) _)) HP.out.size))) (GV3.out.row3.kept (by repeat (first | exact Below.refl _ _ | assumption | refine Below.drew ?_ | refine bdrewN ?_ _ | refine Below.setCell ?_ (by first | omega | (simp <;> omega)) _ | refine Below.alloc ?_ (by first | omega | (simp <;> omega)) _))) (HF3.out.row3.kept (Below.trans HP.out (Below.mono (B := w18.heap.size) (by repeat (first | exact Below.refl _ _ | assumption | refine Below.drew ?_ | refine bdrewN ?_ _ | refine Below.setCell ?_ (by first | omega | (simp <;> omega)) _ | refine Below.alloc ?_ (by first | omega | (simp <;> omega)) _)) HP.out.size))) (GF3.out.row3.kept (by repeat (first | exact Below.refl _ _ | assumption | refine Below.drew ?_ | refine bdrewN ?_ _ | refine Below.setCell ?_ (by first | omega | (simp <;> omega)) _ | refine Below.alloc ?_ (by first | omega | (simp <;> omega)) _))) (by have := zr_le E3 nv; omega) (by have := zr_le E3 nf; omega)).mono ?_
        rintro e w19 ⟨rfl, hb⟩
        have B19 : Below w18.heap.size w18 w19 := hb
        replace m0 := cellk B19 l_m m0
        replace m1 := cellk B19 l_m m1
        replace b0 := cellk B19 l_b b0
        replace b1 := cellk B19 l_b b1
        replace b2 := cellk B19 l_b b2
        replace ma0 := cellk B19 l_ma ma0
        replace ma1 := cellk B19 l_ma ma1
        replace mb0 := cellk B19 l_mb mb0
        replace mb1 := cellk B19 l_mb mb1
        replace mc0 := cellk B19 l_mc mc0
        replace mc1 := cellk B19 l_mc mc1
        replace X0 := cellk B19 l_X X0
        replace X1 := cellk B19 l_X X1
        replace Y0 := cellk B19 l_Y Y0
        replace Y1 := cellk B19 l_Y Y1
        replace Z0 := cellk B19 l_Z Z0
        replace Z1 := cellk B19 l_Z Z1
        replace fz_X0 := (B19.frozen (p := ⟨w12.heap.size, 0, none⟩) l_X).trans fz_X0
        replace fz_X1 := (B19.frozen (p := ⟨w12.heap.size, 1, none⟩) l_X).trans fz_X1
        replace fz_Y0 := (B19.frozen (p := ⟨w12.heap.size + 1, 0, none⟩) l_Y).trans fz_Y0
        replace fz_Y1 := (B19.frozen (p := ⟨w12.heap.size + 1, 1, none⟩) l_Y).trans fz_Y1
        replace fz_Z0 := (B19.frozen (p := ⟨w12.heap.size + 1 + 1, 0, none⟩) l_Z).trans fz_Z0
        replace fz_Z1 := (B19.frozen (p := ⟨w12.heap.size + 1 + 1, 1, none⟩) l_Z).trans fz_Z1
        replace l_m := Nat.lt_of_lt_of_le l_m B19.size
        replace l_b := Nat.lt_of_lt_of_le l_b B19.size
        replace l_ma := Nat.lt_of_lt_of_le l_ma B19.size
        replace l_mb := Nat.lt_of_lt_of_le l_mb B19.size
        replace l_mc := Nat.lt_of_lt_of_le l_mc B19.size
        replace l_X := Nat.lt_of_lt_of_le l_X B19.size
        replace l_Y := Nat.lt_of_lt_of_le l_Y B19.size
        replace l_Z := Nat.lt_of_lt_of_le l_Z B19.size
        replace GV2 := Lib.hid (GV2.out.kept B19)
        replace GF2 := Lib.hid (GF2.out.kept B19)
        replace GV3 := Lib.hid (GV3.out.kept B19)
        replace GF3 := Lib.hid (GF3.out.kept B19)
        replace HB := Lib.hid (HB.out.trans (B19.mono HB.out.size))
        replace HP := Lib.hid (HP.out.trans (B19.mono HP.out.size))
        clear B19
        go_wp2_with (fail)
        refine (meshed_any _).mono ?_
        rintro e w20 ⟨rfl, hb⟩
        have B20 : Below w19.heap.size w19 w20 := hb
        replace m0 := cellk B20 l_m m0
        replace m1 := cellk B20 l_m m1
        replace b0 := cellk B20 l_b b0
        replace b1 := cellk B20 l_b b1
        replace b2 := cellk B20 l_b b2
        replace ma0 := cellk B20 l_ma ma0
        replace ma1 := cellk B20 l_ma ma1
        replace mb0 := cellk B20 l_mb mb0
        replace mb1 := cellk B20 l_mb mb1
        replace mc0 := cellk B20 l_mc mc0
        replace mc1 := cellk B20 l_mc mc1
        replace X0 := cellk B20 l_X X0
        replace X1 := cellk B20 l_X X1
        replace Y0 := cellk B20 l_Y Y0
        replace Y1 := cellk B20 l_Y Y1
        replace Z0 := cellk B20 l_Z Z0
        replace Z1 := cellk B20 l_Z Z1
        replace fz_X0 := (B20.frozen (p := ⟨w12.heap.size, 0, none⟩) l_X).trans fz_X0
        replace fz_X1 := (B20.frozen (p := ⟨w12.heap.size, 1, none⟩) l_X).trans fz_X1
        replace fz_Y0 := (B20.frozen (p := ⟨w12.heap.size + 1, 0, none⟩) l_Y).trans fz_Y0
        replace fz_Y1 := (B20.frozen (p := ⟨w12.heap.size + 1, 1, none⟩) l_Y).trans fz_Y1
        replace fz_Z0 := (B20.frozen (p := ⟨w12.heap.size + 1 + 1, 0, none⟩) l_Z).trans fz_Z0
        replace fz_Z1 := (B20.frozen (p := ⟨w12.heap.size + 1 + 1, 1, none⟩) l_Z).trans fz_Z1
        replace l_m := Nat.lt_of_lt_of_le l_m B20.size
        replace l_b := Nat.lt_of_lt_of_le l_b B20.size
        replace l_ma := Nat.lt_of_lt_of_le l_ma B20.size
        replace l_mb := Nat.lt_of_lt_of_le l_mb B20.size
        replace l_mc := Nat.lt_of_lt_of_le l_mc B20.size
        replace l_X := Nat.lt_of_lt_of_le l_X B20.size
        replace l_Y := Nat.lt_of_lt_of_le l_Y B20.size
        replace l_Z := Nat.lt_of_lt_of_le l_Z B20.size
        replace GV2 := Lib.hid (GV2.out.kept B20)
        replace GF2 := Lib.hid (GF2.out.kept B20)
        replace GV3 := Lib.hid (GV3.out.kept B20)
        replace GF3 := Lib.hid (GF3.out.kept B20)
        replace HB := Lib.hid (HB.out.trans (B20.mono HB.out.size))
        replace HP := Lib.hid (HP.out.trans (B20.mono HP.out.size))
        clear B20
        have R := Lib.hid ((HM.out.toBelow w.heap.size (Nat.le_refl _) (fun k hk => by omega)).trans (HB.out.mono hw6))
        go_wp2
        go_ret
        exact ⟨rfl, R.out⟩
      · skip
        have e1 : (O1 == 0) = false := by simpa using h1
        obtain rfl : E1 = O1 := T1n.out h1
        simp only [zr_not h1] at ma0 ma1
        subst h2
        have R2 := Lib.hid (T2z.out (by trivial))
        have x_m1 : w3.heap.size < w12.heap.size + 1 := by omega
        have x_m2 : w3.heap.size < w12.heap.size + 1 + 1 := by omega
        have x_b1 : w6.heap.size < w12.heap.size + 1 := by omega
        have x_b2 : w6.heap.size < w12.heap.size + 1 + 1 := by omega
        have x_ma1 : w8.heap.size < w12.heap.size + 1 := by omega
        have x_ma2 : w8.heap.size < w12.heap.size + 1 + 1 := by omega
        have x_mb1 : w9.heap.size < w12.heap.size + 1 := by omega
        have x_mb2 : w9.heap.size < w12.heap.size + 1 + 1 := by omega
        have x_mc1 : w10.heap.size < w12.heap.size + 1 := by omega
        have x_mc2 : w10.heap.size < w12.heap.size + 1 + 1 := by omega
        go_wp2_with (fail)
        clear x_m1 x_m2 x_b1 x_b2 x_ma1 x_ma2 x_mb1 x_mb2 x_mc1 x_mc2
        refine (movedM_E E2 av af nv cv nf cf V F x y z _ (HV.out.kept (Below.trans HP.out (Below.mono (B := w12.heap.size) (by repeat (first | exact Below.refl _ _ | assumption | refine Below.drew ?_ | refine bdrewN ?_ _ | refine Below.setCell ?_ (by first | omega | (simp <;> omega)) _ | refine Below.alloc ?_ (by first | omega | (simp <;> omega)) _)) HP.out.size))) (HF.out.kept (Below.trans HP.out (Below.mono (B := w12.heap.size) (by repeat (first | exact Below.refl _ _ | assumption | refine Below.drew ?_ | refine bdrewN ?_ _ | refine Below.setCell ?_ (by first | omega | (simp <;> omega)) _ | refine Below.alloc ?_ (by first | omega | (simp <;> omega)) _)) HP.out.size))) (by omega) (by omega) HF0.out R2.out).mono ?_
        rintro e w13 ⟨V2, C2, U2, D2, rfl, rv2, rf2, hb⟩
        have B13 : Below w12.heap.size w12 w13 := Below.trans (by repeat (first | exact Below.refl _ _ | assumption | refine Below.drew ?_ | refine bdrewN ?_ _ | refine Below.setCell ?_ (by first | omega | (simp <;> omega)) _ | refine Below.alloc ?_ (by first | omega | (simp <;> omega)) _)) (hb.mono (by simp <;> omega))
        replace m0 := cellk B13 l_m m0
        replace m1 := cellk B13 l_m m1
        replace b0 := cellk B13 l_b b0
        replace b1 := cellk B13 l_b b1
        replace b2 := cellk B13 l_b b2
        replace ma0 := cellk B13 l_ma ma0
        replace ma1 := cellk B13 l_ma ma1
        replace mb0 := cellk B13 l_mb mb0
        replace mb1 := cellk B13 l_mb mb1
        replace mc0 := cellk B13 l_mc mc0
        replace mc1 := cellk B13 l_mc mc1
        replace l_m := Nat.lt_of_lt_of_le l_m B13.size
        replace l_b := Nat.lt_of_lt_of_le l_b B13.size
        replace l_ma := Nat.lt_of_lt_of_le l_ma B13.size
        replace l_mb := Nat.lt_of_lt_of_le l_mb B13.size
        replace l_mc := Nat.lt_of_lt_of_le l_mc B13.size
        have X0 : w13.cell? ⟨w12.heap.size, 0, none⟩ = some (.slice none 0 0) := by rw [hb.cell (by simp <;> omega)]; simp [go_sem]
        have fz_X0 : w13.frozen? ⟨w12.heap.size, 0, none⟩ = false := by rw [hb.frozen (by simp <;> omega)]; simp [go_sem]
        have X1 : w13.cell? ⟨w12.heap.size, 1, none⟩ = some (.slice none 0 0) := by rw [hb.cell (by simp <;> omega)]; simp [go_sem]
        have fz_X1 : w13.frozen? ⟨w12.heap.size, 1, none⟩ = false := by rw [hb.frozen (by simp <;> omega)]; simp [go_sem]
        have l_X : w12.heap.size < w13.heap.size := by have := hb.size; simp at this; omega
        have Y0 : w13.cell? ⟨w12.heap.size + 1, 0, none⟩ = some (.slice none 0 0) := by rw [hb.cell (by simp <;> omega)]; simp [go_sem]
        have fz_Y0 : w13.frozen? ⟨w12.heap.size + 1, 0, none⟩ = false := by rw [hb.frozen (by simp <;> omega)]; simp [go_sem]
        have Y1 : w13.cell? ⟨w12.heap.size + 1, 1, none⟩ = some (.slice none 0 0) := by rw [hb.cell (by simp <;> omega)]; simp [go_sem]
        have fz_Y1 : w13.frozen? ⟨w12.heap.size + 1, 1, none⟩ = false := by rw [hb.frozen (by simp <;> omega)]; simp [go_sem]
        have l_Y : w12.heap.size + 1 < w13.heap.size := by have := hb.size; simp at this; omega
        have Z0 : w13.cell? ⟨w12.heap.size + 1 + 1, 0, none⟩ = some (.slice none 0 0) := by rw [hb.cell (by simp <;> omega)]; simp [go_sem]
        have fz_Z0 : w13.frozen? ⟨w12.heap.size + 1 + 1, 0, none⟩ = false := by rw [hb.frozen (by simp <;> omega)]; simp [go_sem]
        have Z1 : w13.cell? ⟨w12.heap.size + 1 + 1, 1, none⟩ = some (.slice none 0 0) := by rw [hb.cell (by simp <;> omega)]; simp [go_sem]
        have fz_Z1 : w13.frozen? ⟨w12.heap.size + 1 + 1, 1, none⟩ = false := by rw [hb.frozen (by simp <;> omega)]; simp [go_sem]
        have l_Z : w12.heap.size + 1 + 1 < w13.heap.size := by have := hb.size; simp at this; omega
        replace HB := Lib.hid (HB.out.trans (B13.mono HB.out.size))
        replace HP := Lib.hid (HP.out.trans (B13.mono HP.out.size))
        have GV2 := Lib.hid (rv2.weak (base' := w12.heap.size + 1 + 1 + 1) (by have := HP.out.size; simp <;> omega))
        clear rv2
        have GF2 := Lib.hid (rf2.weak (base' := w12.heap.size + 1 + 1 + 1) (by have := HP.out.size; simp <;> omega))
        clear rf2
        clear hb B13
        replace m0 : ((w13.setCell ⟨w12.heap.size + 1, 0, none⟩ (.slice V2 (zr E2 nv) C2)).setCell ⟨w12.heap.size + 1, 1, none⟩ (.slice U2 (zr E2 nf) D2)).cell? ⟨w3.heap.size, 0, none⟩ = some (.slice av nv cv) := (sc_other (ne_block (by omega))).trans ((sc_other (ne_block (by omega))).trans (m0))
        replace m1 : ((w13.setCell ⟨w12.heap.size + 1, 0, none⟩ (.slice V2 (zr E2 nv) C2)).setCell ⟨w12.heap.size + 1, 1, none⟩ (.slice U2 (zr E2 nf) D2)).cell? ⟨w3.heap.size, 1, none⟩ = some (.slice af nf cf) := (sc_other (ne_block (by omega))).trans ((sc_other (ne_block (by omega))).trans (m1))
        replace b0 : ((w13.setCell ⟨w12.heap.size + 1, 0, none⟩ (.slice V2 (zr E2 nv) C2)).setCell ⟨w12.heap.size + 1, 1, none⟩ (.slice U2 (zr E2 nf) D2)).cell? ⟨w6.heap.size, 0, none⟩ = some (.int .i64 x) := (sc_other (ne_block (by omega))).trans ((sc_other (ne_block (by omega))).trans (b0))
        replace b1 : ((w13.setCell ⟨w12.heap.size + 1, 0, none⟩ (.slice V2 (zr E2 nv) C2)).setCell ⟨w12.heap.size + 1, 1, none⟩ (.slice U2 (zr E2 nf) D2)).cell? ⟨w6.heap.size, 1, none⟩ = some (.int .i64 y) := (sc_other (ne_block (by omega))).trans ((sc_other (ne_block (by omega))).trans (b1))
        replace b2 : ((w13.setCell ⟨w12.heap.size + 1, 0, none⟩ (.slice V2 (zr E2 nv) C2)).setCell ⟨w12.heap.size + 1, 1, none⟩ (.slice U2 (zr E2 nf) D2)).cell? ⟨w6.heap.size, 2, none⟩ = some (.int .i64 z) := (sc_other (ne_block (by omega))).trans ((sc_other (ne_block (by omega))).trans (b2))
        replace ma0 : ((w13.setCell ⟨w12.heap.size + 1, 0, none⟩ (.slice V2 (zr E2 nv) C2)).setCell ⟨w12.heap.size + 1, 1, none⟩ (.slice U2 (zr E2 nf) D2)).cell? ⟨w8.heap.size, 0, none⟩ = some (.slice v1 0 c1) := (sc_other (ne_block (by omega))).trans ((sc_other (ne_block (by omega))).trans (ma0))
        replace ma1 : ((w13.setCell ⟨w12.heap.size + 1, 0, none⟩ (.slice V2 (zr E2 nv) C2)).setCell ⟨w12.heap.size + 1, 1, none⟩ (.slice U2 (zr E2 nf) D2)).cell? ⟨w8.heap.size, 1, none⟩ = some (.slice u1 0 d1) := (sc_other (ne_block (by omega))).trans ((sc_other (ne_block (by omega))).trans (ma1))
        replace mb0 : ((w13.setCell ⟨w12.heap.size + 1, 0, none⟩ (.slice V2 (zr E2 nv) C2)).setCell ⟨w12.heap.size + 1, 1, none⟩ (.slice U2 (zr E2 nf) D2)).cell? ⟨w9.heap.size, 0, none⟩ = some (.slice v2 (zr E2 nv) c2) := (sc_other (ne_block (by omega))).trans ((sc_other (ne_block (by omega))).trans (mb0))
        replace mb1 : ((w13.setCell ⟨w12.heap.size + 1, 0, none⟩ (.slice V2 (zr E2 nv) C2)).setCell ⟨w12.heap.size + 1, 1, none⟩ (.slice U2 (zr E2 nf) D2)).cell? ⟨w9.heap.size, 1, none⟩ = some (.slice u2 (zr E2 nf) d2) := (sc_other (ne_block (by omega))).trans ((sc_other (ne_block (by omega))).trans (mb1))
        replace mc0 : ((w13.setCell ⟨w12.heap.size + 1, 0, none⟩ (.slice V2 (zr E2 nv) C2)).setCell ⟨w12.heap.size + 1, 1, none⟩ (.slice U2 (zr E2 nf) D2)).cell? ⟨w10.heap.size, 0, none⟩ = some (.slice v3 (zr E3 nv) c3) := (sc_other (ne_block (by omega))).trans ((sc_other (ne_block (by omega))).trans (mc0))
        replace mc1 : ((w13.setCell ⟨w12.heap.size + 1, 0, none⟩ (.slice V2 (zr E2 nv) C2)).setCell ⟨w12.heap.size + 1, 1, none⟩ (.slice U2 (zr E2 nf) D2)).cell? ⟨w10.heap.size, 1, none⟩ = some (.slice u3 (zr E3 nf) d3) := (sc_other (ne_block (by omega))).trans ((sc_other (ne_block (by omega))).trans (mc1))
        replace X0 : ((w13.setCell ⟨w12.heap.size + 1, 0, none⟩ (.slice V2 (zr E2 nv) C2)).setCell ⟨w12.heap.size + 1, 1, none⟩ (.slice U2 (zr E2 nf) D2)).cell? ⟨w12.heap.size, 0, none⟩ = some (.slice none 0 0) := (sc_other (ne_block (by omega))).trans ((sc_other (ne_block (by omega))).trans (X0))
        replace X1 : ((w13.setCell ⟨w12.heap.size + 1, 0, none⟩ (.slice V2 (zr E2 nv) C2)).setCell ⟨w12.heap.size + 1, 1, none⟩ (.slice U2 (zr E2 nf) D2)).cell? ⟨w12.heap.size, 1, none⟩ = some (.slice none 0 0) := (sc_other (ne_block (by omega))).trans ((sc_other (ne_block (by omega))).trans (X1))
        replace Z0 : ((w13.setCell ⟨w12.heap.size + 1, 0, none⟩ (.slice V2 (zr E2 nv) C2)).setCell ⟨w12.heap.size + 1, 1, none⟩ (.slice U2 (zr E2 nf) D2)).cell? ⟨w12.heap.size + 1 + 1, 0, none⟩ = some (.slice none 0 0) := (sc_other (ne_block (by omega))).trans ((sc_other (ne_block (by omega))).trans (Z0))
        replace Z1 : ((w13.setCell ⟨w12.heap.size + 1, 0, none⟩ (.slice V2 (zr E2 nv) C2)).setCell ⟨w12.heap.size + 1, 1, none⟩ (.slice U2 (zr E2 nf) D2)).cell? ⟨w12.heap.size + 1 + 1, 1, none⟩ = some (.slice none 0 0) := (sc_other (ne_block (by omega))).trans ((sc_other (ne_block (by omega))).trans (Z1))
        have n_Y0 : ((w13.setCell ⟨w12.heap.size + 1, 0, none⟩ (.slice V2 (zr E2 nv) C2)).setCell ⟨w12.heap.size + 1, 1, none⟩ (.slice U2 (zr E2 nf) D2)).cell? ⟨w12.heap.size + 1, 0, none⟩ = some (.slice V2 (zr E2 nv) C2) := (sc_other (ne_off (by decide))).trans (sc_same (Y0))
        have n_Y1 : ((w13.setCell ⟨w12.heap.size + 1, 0, none⟩ (.slice V2 (zr E2 nv) C2)).setCell ⟨w12.heap.size + 1, 1, none⟩ (.slice U2 (zr E2 nf) D2)).cell? ⟨w12.heap.size + 1, 1, none⟩ = some (.slice U2 (zr E2 nf) D2) := sc_same ((sc_other (ne_off (by decide))).trans (Y1))
        have g_X0 : ((w13.setCell ⟨w12.heap.size + 1, 0, none⟩ (.slice V2 (zr E2 nv) C2)).setCell ⟨w12.heap.size + 1, 1, none⟩ (.slice U2 (zr E2 nf) D2)).frozen? ⟨w12.heap.size, 0, none⟩ = false := by simp [go_sem, fz_X0]
        have g_X1 : ((w13.setCell ⟨w12.heap.size + 1, 0, none⟩ (.slice V2 (zr E2 nv) C2)).setCell ⟨w12.heap.size + 1, 1, none⟩ (.slice U2 (zr E2 nf) D2)).frozen? ⟨w12.heap.size, 1, none⟩ = false := by simp [go_sem, fz_X1]
        have g_Y0 : ((w13.setCell ⟨w12.heap.size + 1, 0, none⟩ (.slice V2 (zr E2 nv) C2)).setCell ⟨w12.heap.size + 1, 1, none⟩ (.slice U2 (zr E2 nf) D2)).frozen? ⟨w12.heap.size + 1, 0, none⟩ = false := by simp [go_sem, fz_Y0]
        have g_Y1 : ((w13.setCell ⟨w12.heap.size + 1, 0, none⟩ (.slice V2 (zr E2 nv) C2)).setCell ⟨w12.heap.size + 1, 1, none⟩ (.slice U2 (zr E2 nf) D2)).frozen? ⟨w12.heap.size + 1, 1, none⟩ = false := by simp [go_sem, fz_Y1]
        have g_Z0 : ((w13.setCell ⟨w12.heap.size + 1, 0, none⟩ (.slice V2 (zr E2 nv) C2)).setCell ⟨w12.heap.size + 1, 1, none⟩ (.slice U2 (zr E2 nf) D2)).frozen? ⟨w12.heap.size + 1 + 1, 0, none⟩ = false := by simp [go_sem, fz_Z0]
        have g_Z1 : ((w13.setCell ⟨w12.heap.size + 1, 0, none⟩ (.slice V2 (zr E2 nv) C2)).setCell ⟨w12.heap.size + 1, 1, none⟩ (.slice U2 (zr E2 nf) D2)).frozen? ⟨w12.heap.size + 1 + 1, 1, none⟩ = false := by simp [go_sem, fz_Z1]
        replace l_m : w3.heap.size < ((w13.setCell ⟨w12.heap.size + 1, 0, none⟩ (.slice V2 (zr E2 nv) C2)).setCell ⟨w12.heap.size + 1, 1, none⟩ (.slice U2 (zr E2 nf) D2)).heap.size := by simpa [World.setCell] using l_m
        replace l_b : w6.heap.size < ((w13.setCell ⟨w12.heap.size + 1, 0, none⟩ (.slice V2 (zr E2 nv) C2)).setCell ⟨w12.heap.size + 1, 1, none⟩ (.slice U2 (zr E2 nf) D2)).heap.size := by simpa [World.setCell] using l_b
        replace l_ma : w8.heap.size < ((w13.setCell ⟨w12.heap.size + 1, 0, none⟩ (.slice V2 (zr E2 nv) C2)).setCell ⟨w12.heap.size + 1, 1, none⟩ (.slice U2 (zr E2 nf) D2)).heap.size := by simpa [World.setCell] using l_ma
        replace l_mb : w9.heap.size < ((w13.setCell ⟨w12.heap.size + 1, 0, none⟩ (.slice V2 (zr E2 nv) C2)).setCell ⟨w12.heap.size + 1, 1, none⟩ (.slice U2 (zr E2 nf) D2)).heap.size := by simpa [World.setCell] using l_mb
        replace l_mc : w10.heap.size < ((w13.setCell ⟨w12.heap.size + 1, 0, none⟩ (.slice V2 (zr E2 nv) C2)).setCell ⟨w12.heap.size + 1, 1, none⟩ (.slice U2 (zr E2 nf) D2)).heap.size := by simpa [World.setCell] using l_mc
        replace l_X : w12.heap.size < ((w13.setCell ⟨w12.heap.size + 1, 0, none⟩ (.slice V2 (zr E2 nv) C2)).setCell ⟨w12.heap.size + 1, 1, none⟩ (.slice U2 (zr E2 nf) D2)).heap.size := by simpa [World.setCell] using l_X
        replace l_Y : w12.heap.size + 1 < ((w13.setCell ⟨w12.heap.size + 1, 0, none⟩ (.slice V2 (zr E2 nv) C2)).setCell ⟨w12.heap.size + 1, 1, none⟩ (.slice U2 (zr E2 nf) D2)).heap.size := by simpa [World.setCell] using l_Y
        replace l_Z : w12.heap.size + 1 + 1 < ((w13.setCell ⟨w12.heap.size + 1, 0, none⟩ (.slice V2 (zr E2 nv) C2)).setCell ⟨w12.heap.size + 1, 1, none⟩ (.slice U2 (zr E2 nf) D2)).heap.size := by simpa [World.setCell] using l_Z
        have HB2 := Lib.hid (((HB.out).setCell (p := ⟨w12.heap.size + 1, 0, none⟩) (by show _ ≤ w12.heap.size + 1; omega) (.slice V2 (zr E2 nv) C2)).setCell (p := ⟨w12.heap.size + 1, 1, none⟩) (by show _ ≤ w12.heap.size + 1; omega) (.slice U2 (zr E2 nf) D2))
        have HP2 := Lib.hid (((HP.out).setCell (p := ⟨w12.heap.size + 1, 0, none⟩) (by show _ ≤ w12.heap.size + 1; omega) (.slice V2 (zr E2 nv) C2)).setCell (p := ⟨w12.heap.size + 1, 1, none⟩) (by show _ ≤ w12.heap.size + 1; omega) (.slice U2 (zr E2 nf) D2))
        replace GV2 := Lib.hid (((GV2.out).set (p := ⟨w12.heap.size + 1, 0, none⟩) (by show w12.heap.size + 1 < _; omega) (.slice V2 (zr E2 nv) C2)).set (p := ⟨w12.heap.size + 1, 1, none⟩) (by show w12.heap.size + 1 < _; omega) (.slice U2 (zr E2 nf) D2))
        replace GF2 := Lib.hid (((GF2.out).set (p := ⟨w12.heap.size + 1, 0, none⟩) (by show w12.heap.size + 1 < _; omega) (.slice V2 (zr E2 nv) C2)).set (p := ⟨w12.heap.size + 1, 1, none⟩) (by show w12.heap.size + 1 < _; omega) (.slice U2 (zr E2 nf) D2))
        have e3 : (O3 == 0) = false := by simpa using h3
        obtain rfl : E3 = O3 := T3n.out h3
        simp only [zr_not h3] at mc0 mc1
        go_wp2_with (fail)
        generalize ((w13.setCell ⟨w12.heap.size + 1, 0, none⟩ (.slice V2 (zr E2 nv) C2)).setCell ⟨w12.heap.size + 1, 1, none⟩ (.slice U2 (zr E2 nf) D2)) = w14 at *
        clear Y0 Y1 HB HP fz_X0 fz_X1 fz_Y0 fz_Y1 fz_Z0 fz_Z1
        have Y0 := n_Y0
        clear n_Y0
        have Y1 := n_Y1
        clear n_Y1
        have fz_X0 := g_X0
        clear g_X0
        have fz_X1 := g_X1
        clear g_X1
        have fz_Y0 := g_Y0
        clear g_Y0
        have fz_Y1 := g_Y1
        clear g_Y1
        have fz_Z0 := g_Z0
        clear g_Z0
        have fz_Z1 := g_Z1
        clear g_Z1
        have HB := HB2
        have HP := HP2
        clear HB2 HP2
        go_wp2_with (fail)
        refine (sameMesh_any v1 none u1 none 0 c1 0 0 d1 0 V F _ (.inl rfl) (.inl rfl) (.inl rfl) (.inl rfl) (by omega) (by omega)).mono ?_
        rintro e w15 ⟨rfl, hb⟩
        have B15 : Below w14.heap.size w14 w15 := hb
        replace m0 := cellk B15 l_m m0
        replace m1 := cellk B15 l_m m1
        replace b0 := cellk B15 l_b b0
        replace b1 := cellk B15 l_b b1
        replace b2 := cellk B15 l_b b2
        replace ma0 := cellk B15 l_ma ma0
        replace ma1 := cellk B15 l_ma ma1
        replace mb0 := cellk B15 l_mb mb0
        replace mb1 := cellk B15 l_mb mb1
        replace mc0 := cellk B15 l_mc mc0
        replace mc1 := cellk B15 l_mc mc1
        replace X0 := cellk B15 l_X X0
        replace X1 := cellk B15 l_X X1
        replace Y0 := cellk B15 l_Y Y0
        replace Y1 := cellk B15 l_Y Y1
        replace Z0 := cellk B15 l_Z Z0
        replace Z1 := cellk B15 l_Z Z1
        replace fz_X0 := (B15.frozen (p := ⟨w12.heap.size, 0, none⟩) l_X).trans fz_X0
        replace fz_X1 := (B15.frozen (p := ⟨w12.heap.size, 1, none⟩) l_X).trans fz_X1
        replace fz_Y0 := (B15.frozen (p := ⟨w12.heap.size + 1, 0, none⟩) l_Y).trans fz_Y0
        replace fz_Y1 := (B15.frozen (p := ⟨w12.heap.size + 1, 1, none⟩) l_Y).trans fz_Y1
        replace fz_Z0 := (B15.frozen (p := ⟨w12.heap.size + 1 + 1, 0, none⟩) l_Z).trans fz_Z0
        replace fz_Z1 := (B15.frozen (p := ⟨w12.heap.size + 1 + 1, 1, none⟩) l_Z).trans fz_Z1
        replace l_m := Nat.lt_of_lt_of_le l_m B15.size
        replace l_b := Nat.lt_of_lt_of_le l_b B15.size
        replace l_ma := Nat.lt_of_lt_of_le l_ma B15.size
        replace l_mb := Nat.lt_of_lt_of_le l_mb B15.size
        replace l_mc := Nat.lt_of_lt_of_le l_mc B15.size
        replace l_X := Nat.lt_of_lt_of_le l_X B15.size
        replace l_Y := Nat.lt_of_lt_of_le l_Y B15.size
        replace l_Z := Nat.lt_of_lt_of_le l_Z B15.size
        replace GV2 := Lib.hid (GV2.out.kept B15)
        replace GF2 := Lib.hid (GF2.out.kept B15)
        replace HB := Lib.hid (HB.out.trans (B15.mono HB.out.size))
        replace HP := Lib.hid (HP.out.trans (B15.mono HP.out.size))
        clear B15
        go_wp2_with (fail)
        refine (sameMesh_any v2 V2 u2 U2 _ c2 C2 _ d2 D2 (movV V x y z) F _ (HV2.out.row3.kept (Below.trans HP.out (Below.mono (B := w15.heap.size) (by repeat (first | exact Below.refl _ _ | assumption | refine Below.drew ?_ | refine bdrewN ?_ _ | refine Below.setCell ?_ (by first | omega | (simp <;> omega)) _ | refine Below.alloc ?_ (by first | omega | (simp <;> omega)) _)) HP.out.size))) (GV2.out.row3.kept (by repeat (first | exact Below.refl _ _ | assumption | refine Below.drew ?_ | refine bdrewN ?_ _ | refine Below.setCell ?_ (by first | omega | (simp <;> omega)) _ | refine Below.alloc ?_ (by first | omega | (simp <;> omega)) _))) (HF2.out.row3.kept (Below.trans HP.out (Below.mono (B := w15.heap.size) (by repeat (first | exact Below.refl _ _ | assumption | refine Below.drew ?_ | refine bdrewN ?_ _ | refine Below.setCell ?_ (by first | omega | (simp <;> omega)) _ | refine Below.alloc ?_ (by first | omega | (simp <;> omega)) _)) HP.out.size))) (GF2.out.row3.kept (by repeat (first | exact Below.refl _ _ | assumption | refine Below.drew ?_ | refine bdrewN ?_ _ | refine Below.setCell ?_ (by first | omega | (simp <;> omega)) _ | refine Below.alloc ?_ (by first | omega | (simp <;> omega)) _))) (by have := zr_le E2 nv; omega) (by have := zr_le E2 nf; omega)).mono ?_
        rintro e w16 ⟨rfl, hb⟩
        have B16 : Below w15.heap.size w15 w16 := hb
        replace m0 := cellk B16 l_m m0
        replace m1 := cellk B16 l_m m1
        replace b0 := cellk B16 l_b b0
        replace b1 := cellk B16 l_b b1
        replace b2 := cellk B16 l_b b2
        replace ma0 := cellk B16 l_ma ma0
        replace ma1 := cellk B16 l_ma ma1
        replace mb0 := cellk B16 l_mb mb0
        replace mb1 := cellk B16 l_mb mb1
        replace mc0 := cellk B16 l_mc mc0
        replace mc1 := cellk B16 l_mc mc1
        replace X0 := cellk B16 l_X X0
        replace X1 := cellk B16 l_X X1
        replace Y0 := cellk B16 l_Y Y0
        replace Y1 := cellk B16 l_Y Y1
        replace Z0 := cellk B16 l_Z Z0
        replace Z1 := cellk B16 l_Z Z1
        replace fz_X0 := (B16.frozen (p := ⟨w12.heap.size, 0, none⟩) l_X).trans fz_X0
        replace fz_X1 := (B16.frozen (p := ⟨w12.heap.size, 1, none⟩) l_X).trans fz_X1
        replace fz_Y0 := (B16.frozen (p := ⟨w12.heap.size + 1, 0, none⟩) l_Y).trans fz_Y0
        replace fz_Y1 := (B16.frozen (p := ⟨w12.heap.size + 1, 1, none⟩) l_Y).trans fz_Y1
        replace fz_Z0 := (B16.frozen (p := ⟨w12.heap.size + 1 + 1, 0, none⟩) l_Z).trans fz_Z0
        replace fz_Z1 := (B16.frozen (p := ⟨w12.heap.size + 1 + 1, 1, none⟩) l_Z).trans fz_Z1
        replace l_m := Nat.lt_of_lt_of_le l_m B16.size
        replace l_b := Nat.lt_of_lt_of_le l_b B16.size
        replace l_ma := Nat.lt_of_lt_of_le l_ma B16.size
        replace l_mb := Nat.lt_of_lt_of_le l_mb B16.size
        replace l_mc := Nat.lt_of_lt_of_le l_mc B16.size
        replace l_X := Nat.lt_of_lt_of_le l_X B16.size
        replace l_Y := Nat.lt_of_lt_of_le l_Y B16.size
        replace l_Z := Nat.lt_of_lt_of_le l_Z B16.size
        replace GV2 := Lib.hid (GV2.out.kept B16)
        replace GF2 := Lib.hid (GF2.out.kept B16)
        replace HB := Lib.hid (HB.out.trans (B16.mono HB.out.size))
        replace HP := Lib.hid (HP.out.trans (B16.mono HP.out.size))
        clear B16
        go_wp2_with (fail)
        refine (sameMesh_any v3 none u3 none 0 c3 0 0 d3 0 V F _ (.inl rfl) (.inl rfl) (.inl rfl) (.inl rfl) (by omega) (by omega)).mono ?_
        rintro e w17 ⟨rfl, hb⟩
        have B17 : Below w16.heap.size w16 w17 := hb
        replace m0 := cellk B17 l_m m0
        replace m1 := cellk B17 l_m m1
        replace b0 := cellk B17 l_b b0
        replace b1 := cellk B17 l_b b1
        replace b2 := cellk B17 l_b b2
        replace ma0 := cellk B17 l_ma ma0
        replace ma1 := cellk B17 l_ma ma1
        replace mb0 := cellk B17 l_mb mb0
        replace mb1 := cellk B17 l_mb mb1
        replace mc0 := cellk B17 l_mc mc0
        replace mc1 := cellk B17 l_mc mc1
        replace X0 := cellk B17 l_X X0
        replace X1 := cellk B17 l_X X1
        replace Y0 := cellk B17 l_Y Y0
        replace Y1 := cellk B17 l_Y Y1
        replace Z0 := cellk B17 l_Z Z0
        replace Z1 := cellk B17 l_Z Z1
        replace fz_X0 := (B17.frozen (p := ⟨w12.heap.size, 0, none⟩) l_X).trans fz_X0
        replace fz_X1 := (B17.frozen (p := ⟨w12.heap.size, 1, none⟩) l_X).trans fz_X1
        replace fz_Y0 := (B17.frozen (p := ⟨w12.heap.size + 1, 0, none⟩) l_Y).trans fz_Y0
        replace fz_Y1 := (B17.frozen (p := ⟨w12.heap.size + 1, 1, none⟩) l_Y).trans fz_Y1
        replace fz_Z0 := (B17.frozen (p := ⟨w12.heap.size + 1 + 1, 0, none⟩) l_Z).trans fz_Z0
        replace fz_Z1 := (B17.frozen (p := ⟨w12.heap.size + 1 + 1, 1, none⟩) l_Z).trans fz_Z1
        replace l_m := Nat.lt_of_lt_of_le l_m B17.size
        replace l_b := Nat.lt_of_lt_of_le l_b B17.size
        replace l_ma := Nat.lt_of_lt_of_le l_ma B17.size
        replace l_mb := Nat.lt_of_lt_of_le l_mb B17.size
        replace l_mc := Nat.lt_of_lt_of_le l_mc B17.size
        replace l_X := Nat.lt_of_lt_of_le l_X B17.size
        replace l_Y := Nat.lt_of_lt_of_le l_Y B17.size
        replace l_Z := Nat.lt_of_lt_of_le l_Z B17.size
        replace GV2 := Lib.hid (GV2.out.kept B17)
        replace GF2 := Lib.hid (GF2.out.kept B17)
        replace HB := Lib.hid (HB.out.trans (B17.mono HB.out.size))
        replace HP := Lib.hid (HP.out.trans (B17.mono HP.out.size))
        clear B17
        go_wp2_with (fail)
        refine (meshed_any _).mono ?_
        rintro e w18 ⟨rfl, hb⟩
        have B18 : Below w17.heap.size w17 w18 := hb
        replace m0 := cellk B18 l_m m0
        replace m1 := cellk B18 l_m m1
        replace b0 := cellk B18 l_b b0
        replace b1 := cellk B18 l_b b1
        replace b2 := cellk B18 l_b b2
        replace ma0 := cellk B18 l_ma ma0
        replace ma1 := cellk B18 l_ma ma1
        replace mb0 := cellk B18 l_mb mb0
        replace mb1 := cellk B18 l_mb mb1
        replace mc0 := cellk B18 l_mc mc0
        replace mc1 := cellk B18 l_mc mc1
        replace X0 := cellk B18 l_X X0
        replace X1 := cellk B18 l_X X1
        replace Y0 := cellk B18 l_Y Y0
        replace Y1 := cellk B18 l_Y Y1
        replace Z0 := cellk B18 l_Z Z0
        replace Z1 := cellk B18 l_Z Z1
        replace fz_X0 := (B18.frozen (p := ⟨w12.heap.size, 0, none⟩) l_X).trans fz_X0
        replace fz_X1 := (B18.frozen (p := ⟨w12.heap.size, 1, none⟩) l_X).trans fz_X1
        replace fz_Y0 := (B18.frozen (p := ⟨w12.heap.size + 1, 0, none⟩) l_Y).trans fz_Y0
        replace fz_Y1 := (B18.frozen (p := ⟨w12.heap.size + 1, 1, none⟩) l_Y).trans fz_Y1
        replace fz_Z0 := (B18.frozen (p := ⟨w12.heap.size + 1 + 1, 0, none⟩) l_Z).trans fz_Z0
        replace fz_Z1 := (B18.frozen (p := ⟨w12.heap.size + 1 + 1, 1, none⟩) l_Z).trans fz_Z1
        replace l_m := Nat.lt_of_lt_of_le l_m B18.size
        replace l_b := Nat.lt_of_lt_of_le l_b B18.size
        replace l_ma := Nat.lt_of_lt_of_le l_ma B18.size
        replace l_mb := Nat.lt_of_lt_of_le l_mb B18.size
        replace l_mc := Nat.lt_of_lt_of_le l_mc B18.size
        replace l_X := Nat.lt_of_lt_of_le l_X B18.size
        replace l_Y := Nat.lt_of_lt_of_le l_Y B18.size
        replace l_Z := Nat.lt_of_lt_of_le l_Z B18.size
        replace GV2 := Lib.hid (GV2.out.kept B18)
        replace GF2 := Lib.hid (GF2.out.kept B18)
        replace HB := Lib.hid (HB.out.trans (B18.mono HB.out.size))
        replace HP := Lib.hid (HP.out.trans (B18.mono HP.out.size))
        clear B18
        have R := Lib.hid ((HM.out.toBelow w.heap.size (Nat.le_refl _) (fun k hk => by omega)).trans (HB.out.mono hw6))
        go_wp2
        go_ret
        exact ⟨rfl, R.out⟩
    · skip
      by_cases h3 : O3 = 0
      · skip
        have e1 : (O1 == 0) = false := by simpa using h1
        obtain rfl : E1 = O1 := T1n.out h1
        simp only [zr_not h1] at ma0 ma1
        have e2 : (f0 == 0) = false := by simpa using h2
        obtain rfl : E2 = f0 := T2n.out h2
        simp only [zr_not h2] at mb0 mb1
        subst h3
        have R3 := Lib.hid (T3z.out (by trivial))
        have x_m1 : w3.heap.size < w12.heap.size + 1 := by omega
        have x_m2 : w3.heap.size < w12.heap.size + 1 + 1 := by omega
        have x_b1 : w6.heap.size < w12.heap.size + 1 := by omega
        have x_b2 : w6.heap.size < w12.heap.size + 1 + 1 := by omega
        have x_ma1 : w8.heap.size < w12.heap.size + 1 := by omega
        have x_ma2 : w8.heap.size < w12.heap.size + 1 + 1 := by omega
        have x_mb1 : w9.heap.size < w12.heap.size + 1 := by omega
        have x_mb2 : w9.heap.size < w12.heap.size + 1 + 1 := by omega
        have x_mc1 : w10.heap.size < w12.heap.size + 1 := by omega
        have x_mc2 : w10.heap.size < w12.heap.size + 1 + 1 := by omega
        go_wp2_with (fail)
        clear x_m1 x_m2 x_b1 x_b2 x_ma1 x_ma2 x_mb1 x_mb2 x_mc1 x_mc2
        refine (mirM_E E3 av af nv cv nf cf V F a _ (HV.out.kept (Below.trans HP.out (Below.mono (B := w12.heap.size) (by repeat (first | exact Below.refl _ _ | assumption | refine Below.drew ?_ | refine bdrewN ?_ _ | refine Below.setCell ?_ (by first | omega | (simp <;> omega)) _ | refine Below.alloc ?_ (by first | omega | (simp <;> omega)) _)) HP.out.size))) (HF.out.kept (Below.trans HP.out (Below.mono (B := w12.heap.size) (by repeat (first | exact Below.refl _ _ | assumption | refine Below.drew ?_ | refine bdrewN ?_ _ | refine Below.setCell ?_ (by first | omega | (simp <;> omega)) _ | refine Below.alloc ?_ (by first | omega | (simp <;> omega)) _)) HP.out.size))) (by omega) (by omega) R3.out).mono ?_
        rintro e w13 ⟨V3, C3, U3, D3, rfl, rv3, rf3, hb⟩
        have B13 : Below w12.heap.size w12 w13 := Below.trans (by repeat (first | exact Below.refl _ _ | assumption | refine Below.drew ?_ | refine bdrewN ?_ _ | refine Below.setCell ?_ (by first | omega | (simp <;> omega)) _ | refine Below.alloc ?_ (by first | omega | (simp <;> omega)) _)) (hb.mono (by simp <;> omega))
        replace m0 := cellk B13 l_m m0
        replace m1 := cellk B13 l_m m1
        replace b0 := cellk B13 l_b b0
        replace b1 := cellk B13 l_b b1
        replace b2 := cellk B13 l_b b2
        replace ma0 := cellk B13 l_ma ma0
        replace ma1 := cellk B13 l_ma ma1
        replace mb0 := cellk B13 l_mb mb0
        replace mb1 := cellk B13 l_mb mb1
        replace mc0 := cellk B13 l_mc mc0
        replace mc1 := cellk B13 l_mc mc1
        replace l_m := Nat.lt_of_lt_of_le l_m B13.size
        replace l_b := Nat.lt_of_lt_of_le l_b B13.size
        replace l_ma := Nat.lt_of_lt_of_le l_ma B13.size
        replace l_mb := Nat.lt_of_lt_of_le l_mb B13.size
        replace l_mc := Nat.lt_of_lt_of_le l_mc B13.size
        have X0 : w13.cell? ⟨w12.heap.size, 0, none⟩ = some (.slice none 0 0) := by rw [hb.cell (by simp <;> omega)]; simp [go_sem]
        have fz_X0 : w13.frozen? ⟨w12.heap.size, 0, none⟩ = false := by rw [hb.frozen (by simp <;> omega)]; simp [go_sem]
        have X1 : w13.cell? ⟨w12.heap.size, 1, none⟩ = some (.slice none 0 0) := by rw [hb.cell (by simp <;> omega)]; simp [go_sem]
        have fz_X1 : w13.frozen? ⟨w12.heap.size, 1, none⟩ = false := by rw [hb.frozen (by simp <;> omega)]; simp [go_sem]
        have l_X : w12.heap.size < w13.heap.size := by have := hb.size; simp at this; omega
        have Y0 : w13.cell? ⟨w12.heap.size + 1, 0, none⟩ = some (.slice none 0 0) := by rw [hb.cell (by simp <;> omega)]; simp [go_sem]
        have fz_Y0 : w13.frozen? ⟨w12.heap.size + 1, 0, none⟩ = false := by rw [hb.frozen (by simp <;> omega)]; simp [go_sem]
        have Y1 : w13.cell? ⟨w12.heap.size + 1, 1, none⟩ = some (.slice none 0 0) := by rw [hb.cell (by simp <;> omega)]; simp [go_sem]
        have fz_Y1 : w13.frozen? ⟨w12.heap.size + 1, 1, none⟩ = false := by rw [hb.frozen (by simp <;> omega)]; simp [go_sem]
        have l_Y : w12.heap.size + 1 < w13.heap.size := by have := hb.size; simp at this; omega
        have Z0 : w13.cell? ⟨w12.heap.size + 1 + 1, 0, none⟩ = some (.slice none 0 0) := by rw [hb.cell (by simp <;> omega)]; simp [go_sem]
        have fz_Z0 : w13.frozen? ⟨w12.heap.size + 1 + 1, 0, none⟩ = false := by rw [hb.frozen (by simp <;> omega)]; simp [go_sem]
        have Z1 : w13.cell? ⟨w12.heap.size + 1 + 1, 1, none⟩ = some (.slice none 0 0) := by rw [hb.cell (by simp <;> omega)]; simp [go_sem]
        have fz_Z1 : w13.frozen? ⟨w12.heap.size + 1 + 1, 1, none⟩ = false := by rw [hb.frozen (by simp <;> omega)]; simp [go_sem]
        have l_Z : w12.heap.size + 1 + 1 < w13.heap.size := by have := hb.size; simp at this; omega
        replace HB := Lib.hid (HB.out.trans (B13.mono HB.out.size))
        replace HP := Lib.hid (HP.out.trans (B13.mono HP.out.size))
        have GV3 := Lib.hid (rv3.weak (base' := w12.heap.size + 1 + 1 + 1) (by have := HP.out.size; simp <;> omega))
        clear rv3
        have GF3 := Lib.hid (rf3.weak (base' := w12.heap.size + 1 + 1 + 1) (by have := HP.out.size; simp <;> omega))
        clear rf3
        clear hb B13
        replace m0 : ((w13.setCell ⟨w12.heap.size + 1 + 1, 0, none⟩ (.slice V3 (zr E3 nv) C3)).setCell ⟨w12.heap.size + 1 + 1, 1, none⟩ (.slice U3 (zr E3 nf) D3)).cell? ⟨w3.heap.size, 0, none⟩ = some (.slice av nv cv) := (sc_other (ne_block (by omega))).trans ((sc_other (ne_block (by omega))).trans (m0))
        replace m1 : ((w13.setCell ⟨w12.heap.size + 1 + 1, 0, none⟩ (.slice V3 (zr E3 nv) C3)).setCell ⟨w12.heap.size + 1 + 1, 1, none⟩ (.slice U3 (zr E3 nf) D3)).cell? ⟨w3.heap.size, 1, none⟩ = some (.slice af nf cf) := (sc_other (ne_block (by omega))).trans ((sc_other (ne_block (by omega))).trans (m1))
        replace b0 : ((w13.setCell ⟨w12.heap.size + 1 + 1, 0, none⟩ (.slice V3 (zr E3 nv) C3)).setCell ⟨w12.heap.size + 1 + 1, 1, none⟩ (.slice U3 (zr E3 nf) D3)).cell? ⟨w6.heap.size, 0, none⟩ = some (.int .i64 x) := (sc_other (ne_block (by omega))).trans ((sc_other (ne_block (by omega))).trans (b0))
        replace b1 : ((w13.setCell ⟨w12.heap.size + 1 + 1, 0, none⟩ (.slice V3 (zr E3 nv) C3)).setCell ⟨w12.heap.size + 1 + 1, 1, none⟩ (.slice U3 (zr E3 nf) D3)).cell? ⟨w6.heap.size, 1, none⟩ = some (.int .i64 y) := (sc_other (ne_block (by omega))).trans ((sc_other (ne_block (by omega))).trans (b1))
        replace b2 : ((w13.setCell ⟨w12.heap.size + 1 + 1, 0, none⟩ (.slice V3 (zr E3 nv) C3)).setCell ⟨w12.heap.size + 1 + 1, 1, none⟩ (.slice U3 (zr E3 nf) D3)).cell? ⟨w6.heap.size, 2, none⟩ = some (.int .i64 z) := (sc_other (ne_block (by omega))).trans ((sc_other (ne_block (by omega))).trans (b2))
        replace ma0 : ((w13.setCell ⟨w12.heap.size + 1 + 1, 0, none⟩ (.slice V3 (zr E3 nv) C3)).setCell ⟨w12.heap.size + 1 + 1, 1, none⟩ (.slice U3 (zr E3 nf) D3)).cell? ⟨w8.heap.size, 0, none⟩ = some (.slice v1 0 c1) := (sc_other (ne_block (by omega))).trans ((sc_other (ne_block (by omega))).trans (ma0))
        replace ma1 : ((w13.setCell ⟨w12.heap.size + 1 + 1, 0, none⟩ (.slice V3 (zr E3 nv) C3)).setCell ⟨w12.heap.size + 1 + 1, 1, none⟩ (.slice U3 (zr E3 nf) D3)).cell? ⟨w8.heap.size, 1, none⟩ = some (.slice u1 0 d1) := (sc_other (ne_block (by omega))).trans ((sc_other (ne_block (by omega))).trans (ma1))
        replace mb0 : ((w13.setCell ⟨w12.heap.size + 1 + 1, 0, none⟩ (.slice V3 (zr E3 nv) C3)).setCell ⟨w12.heap.size + 1 + 1, 1, none⟩ (.slice U3 (zr E3 nf) D3)).cell? ⟨w9.heap.size, 0, none⟩ = some (.slice v2 0 c2) := (sc_other (ne_block (by omega))).trans ((sc_other (ne_block (by omega))).trans (mb0))
        replace mb1 : ((w13.setCell ⟨w12.heap.size + 1 + 1, 0, none⟩ (.slice V3 (zr E3 nv) C3)).setCell ⟨w12.heap.size + 1 + 1, 1, none⟩ (.slice U3 (zr E3 nf) D3)).cell? ⟨w9.heap.size, 1, none⟩ = some (.slice u2 0 d2) := (sc_other (ne_block (by omega))).trans ((sc_other (ne_block (by omega))).trans (mb1))
        replace mc0 : ((w13.setCell ⟨w12.heap.size + 1 + 1, 0, none⟩ (.slice V3 (zr E3 nv) C3)).setCell ⟨w12.heap.size + 1 + 1, 1, none⟩ (.slice U3 (zr E3 nf) D3)).cell? ⟨w10.heap.size, 0, none⟩ = some (.slice v3 (zr E3 nv) c3) := (sc_other (ne_block (by omega))).trans ((sc_other (ne_block (by omega))).trans (mc0))
        replace mc1 : ((w13.setCell ⟨w12.heap.size + 1 + 1, 0, none⟩ (.slice V3 (zr E3 nv) C3)).setCell ⟨w12.heap.size + 1 + 1, 1, none⟩ (.slice U3 (zr E3 nf) D3)).cell? ⟨w10.heap.size, 1, none⟩ = some (.slice u3 (zr E3 nf) d3) := (sc_other (ne_block (by omega))).trans ((sc_other (ne_block (by omega))).trans (mc1))
        replace X0 : ((w13.setCell ⟨w12.heap.size + 1 + 1, 0, none⟩ (.slice V3 (zr E3 nv) C3)).setCell ⟨w12.heap.size + 1 + 1, 1, none⟩ (.slice U3 (zr E3 nf) D3)).cell? ⟨w12.heap.size, 0, none⟩ = some (.slice none 0 0) := (sc_other (ne_block (by omega))).trans ((sc_other (ne_block (by omega))).trans (X0))
        replace X1 : ((w13.setCell ⟨w12.heap.size + 1 + 1, 0, none⟩ (.slice V3 (zr E3 nv) C3)).setCell ⟨w12.heap.size + 1 + 1, 1, none⟩ (.slice U3 (zr E3 nf) D3)).cell? ⟨w12.heap.size, 1, none⟩ = some (.slice none 0 0) := (sc_other (ne_block (by omega))).trans ((sc_other (ne_block (by omega))).trans (X1))
        replace Y0 : ((w13.setCell ⟨w12.heap.size + 1 + 1, 0, none⟩ (.slice V3 (zr E3 nv) C3)).setCell ⟨w12.heap.size + 1 + 1, 1, none⟩ (.slice U3 (zr E3 nf) D3)).cell? ⟨w12.heap.size + 1, 0, none⟩ = some (.slice none 0 0) := (sc_other (ne_block (by omega))).trans ((sc_other (ne_block (by omega))).trans (Y0))
        replace Y1 : ((w13.setCell ⟨w12.heap.size + 1 + 1, 0, none⟩ (.slice V3 (zr E3 nv) C3)).setCell ⟨w12.heap.size + 1 + 1, 1, none⟩ (.slice U3 (zr E3 nf) D3)).cell? ⟨w12.heap.size + 1, 1, none⟩ = some (.slice none 0 0) := (sc_other (ne_block (by omega))).trans ((sc_other (ne_block (by omega))).trans (Y1))
        have n_Z0 : ((w13.setCell ⟨w12.heap.size + 1 + 1, 0, none⟩ (.slice V3 (zr E3 nv) C3)).setCell ⟨w12.heap.size + 1 + 1, 1, none⟩ (.slice U3 (zr E3 nf) D3)).cell? ⟨w12.heap.size + 1 + 1, 0, none⟩ = some (.slice V3 (zr E3 nv) C3) := (sc_other (ne_off (by decide))).trans (sc_same (Z0))
        have n_Z1 : ((w13.setCell ⟨w12.heap.size + 1 + 1, 0, none⟩ (.slice V3 (zr E3 nv) C3)).setCell ⟨w12.heap.size + 1 + 1, 1, none⟩ (.slice U3 (zr E3 nf) D3)).cell? ⟨w12.heap.size + 1 + 1, 1, none⟩ = some (.slice U3 (zr E3 nf) D3) := sc_same ((sc_other (ne_off (by decide))).trans (Z1))
        have g_X0 : ((w13.setCell ⟨w12.heap.size + 1 + 1, 0, none⟩ (.slice V3 (zr E3 nv) C3)).setCell ⟨w12.heap.size + 1 + 1, 1, none⟩ (.slice U3 (zr E3 nf) D3)).frozen? ⟨w12.heap.size, 0, none⟩ = false := by simp [go_sem, fz_X0]
        have g_X1 : ((w13.setCell ⟨w12.heap.size + 1 + 1, 0, none⟩ (.slice V3 (zr E3 nv) C3)).setCell ⟨w12.heap.size + 1 + 1, 1, none⟩ (.slice U3 (zr E3 nf) D3)).frozen? ⟨w12.heap.size, 1, none⟩ = false := by simp [go_sem, fz_X1]
        have g_Y0 : ((w13.setCell ⟨w12.heap.size + 1 + 1, 0, none⟩ (.slice V3 (zr E3 nv) C3)).setCell ⟨w12.heap.size + 1 + 1, 1, none⟩ (.slice U3 (zr E3 nf) D3)).frozen? ⟨w12.heap.size + 1, 0, none⟩ = false := by simp [go_sem, fz_Y0]
        have g_Y1 : ((w13.setCell ⟨w12.heap.size + 1 + 1, 0, none⟩ (.slice V3 (zr E3 nv) C3)).setCell ⟨w12.heap.size + 1 + 1, 1, none⟩ (.slice U3 (zr E3 nf) D3)).frozen? ⟨w12.heap.size + 1, 1, none⟩ = false := by simp [go_sem, fz_Y1]
        have g_Z0 : ((w13.setCell ⟨w12.heap.size + 1 + 1, 0, none⟩ (.slice V3 (zr E3 nv) C3)).setCell ⟨w12.heap.size + 1 + 1, 1, none⟩ (.slice U3 (zr E3 nf) D3)).frozen? ⟨w12.heap.size + 1 + 1, 0, none⟩ = false := by simp [go_sem, fz_Z0]
        have g_Z1 : ((w13.setCell ⟨w12.heap.size + 1 + 1, 0, none⟩ (.slice V3 (zr E3 nv) C3)).setCell ⟨w12.heap.size + 1 + 1, 1, none⟩ (.slice U3 (zr E3 nf) D3)).frozen? ⟨w12.heap.size + 1 + 1, 1, none⟩ = false := by simp [go_sem, fz_Z1]
        replace l_m : w3.heap.size < ((w13.setCell ⟨w12.heap.size + 1 + 1, 0, none⟩ (.slice V3 (zr E3 nv) C3)).setCell ⟨w12.heap.size + 1 + 1, 1, none⟩ (.slice U3 (zr E3 nf) D3)).heap.size := by simpa [World.setCell] using l_m
        replace l_b : w6.heap.size < ((w13.setCell ⟨w12.heap.size + 1 + 1, 0, none⟩ (.slice V3 (zr E3 nv) C3)).setCell ⟨w12.heap.size + 1 + 1, 1, none⟩ (.slice U3 (zr E3 nf) D3)).heap.size := by simpa [World.setCell] using l_b
        replace l_ma : w8.heap.size < ((w13.setCell ⟨w12.heap.size + 1 + 1, 0, none⟩ (.slice V3 (zr E3 nv) C3)).setCell ⟨w12.heap.size + 1 + 1, 1, none⟩ (.slice U3 (zr E3 nf) D3)).heap.size := by simpa [World.setCell] using l_ma
        replace l_mb : w9.heap.size < ((w13.setCell ⟨w12.heap.size + 1 + 1, 0, none⟩ (.slice V3 (zr E3 nv) C3)).setCell ⟨w12.heap.size + 1 + 1, 1, none⟩ (.slice U3 (zr E3 nf) D3)).heap.size := by simpa [World.setCell] using l_mb
        replace l_mc : w10.heap.size < ((w13.setCell ⟨w12.heap.size + 1 + 1, 0, none⟩ (.slice V3 (zr E3 nv) C3)).setCell ⟨w12.heap.size + 1 + 1, 1, none⟩ (.slice U3 (zr E3 nf) D3)).heap.size := by simpa [World.setCell] using l_mc
        replace l_X : w12.heap.size < ((w13.setCell ⟨w12.heap.size + 1 + 1, 0, none⟩ (.slice V3 (zr E3 nv) C3)).setCell ⟨w12.heap.size + 1 + 1, 1, none⟩ (.slice U3 (zr E3 nf) D3)).heap.size := by simpa [World.setCell] using l_X
        replace l_Y : w12.heap.size + 1 < ((w13.setCell ⟨w12.heap.size + 1 + 1, 0, none⟩ (.slice V3 (zr E3 nv) C3)).setCell ⟨w12.heap.size + 1 + 1, 1, none⟩ (.slice U3 (zr E3 nf) D3)).heap.size := by simpa [World.setCell] using l_Y
        replace l_Z : w12.heap.size + 1 + 1 < ((w13.setCell ⟨w12.heap.size + 1 + 1, 0, none⟩ (.slice V3 (zr E3 nv) C3)).setCell ⟨w12.heap.size + 1 + 1, 1, none⟩ (.slice U3 (zr E3 nf) D3)).heap.size := by simpa [World.setCell] using l_Z
        have HB2 := Lib.hid (((HB.out).setCell (p := ⟨w12.heap.size + 1 + 1, 0, none⟩) (by show _ ≤ w12.heap.size + 1 + 1; omega) (.slice V3 (zr E3 nv) C3)).setCell (p := ⟨w12.heap.size + 1 + 1, 1, none⟩) (by show _ ≤ w12.heap.size + 1 + 1; omega) (.slice U3 (zr E3 nf) D3))
        have HP2 := Lib.hid (((HP.out).setCell (p := ⟨w12.heap.size + 1 + 1, 0, none⟩) (by show _ ≤ w12.heap.size + 1 + 1; omega) (.slice V3 (zr E3 nv) C3)).setCell (p := ⟨w12.heap.size + 1 + 1, 1, none⟩) (by show _ ≤ w12.heap.size + 1 + 1; omega) (.slice U3 (zr E3 nf) D3))
        replace GV3 := Lib.hid (((GV3.out).set (p := ⟨w12.heap.size + 1 + 1, 0, none⟩) (by show w12.heap.size + 1 + 1 < _; omega) (.slice V3 (zr E3 nv) C3)).set (p := ⟨w12.heap.size + 1 + 1, 1, none⟩) (by show w12.heap.size + 1 + 1 < _; omega) (.slice U3 (zr E3 nf) D3))
        replace GF3 := Lib.hid (((GF3.out).set (p := ⟨w12.heap.size + 1 + 1, 0, none⟩) (by show w12.heap.size + 1 + 1 < _; omega) (.slice V3 (zr E3 nv) C3)).set (p := ⟨w12.heap.size + 1 + 1, 1, none⟩) (by show w12.heap.size + 1 + 1 < _; omega) (.slice U3 (zr E3 nf) D3))
        go_wp2_with (fail)
        generalize ((w13.setCell ⟨w12.heap.size + 1 + 1, 0, none⟩ (.slice V3 (zr E3 nv) C3)).setCell ⟨w12.heap.size + 1 + 1, 1, none⟩ (.slice U3 (zr E3 nf) D3)) = w14 at *
        clear Z0 Z1 HB HP fz_X0 fz_X1 fz_Y0 fz_Y1 fz_Z0 fz_Z1
        have Z0 := n_Z0
        clear n_Z0
        have Z1 := n_Z1
        clear n_Z1
        have fz_X0 := g_X0
        clear g_X0
        have fz_X1 := g_X1
        clear g_X1
        have fz_Y0 := g_Y0
        clear g_Y0
        have fz_Y1 := g_Y1
        clear g_Y1
        have fz_Z0 := g_Z0
        clear g_Z0
        have fz_Z1 := g_Z1
        clear g_Z1
        have HB := HB2
        have HP := HP2
        clear HB2 HP2
        go_wp2_with (fail)
        refine (sameMesh_any v1 none u1 none 0 c1 0 0 d1 0 V F _ (.inl rfl) (.inl rfl) (.inl rfl) (.inl rfl) (by omega) (by omega)).mono ?_
        rintro e w15 ⟨rfl, hb⟩
        have B15 : Below w14.heap.size w14 w15 := hb
        replace m0 := cellk B15 l_m m0
        replace m1 := cellk B15 l_m m1
        replace b0 := cellk B15 l_b b0
        replace b1 := cellk B15 l_b b1
        replace b2 := cellk B15 l_b b2
        replace ma0 := cellk B15 l_ma ma0
        replace ma1 := cellk B15 l_ma ma1
        replace mb0 := cellk B15 l_mb mb0
        replace mb1 := cellk B15 l_mb mb1
        replace mc0 := cellk B15 l_mc mc0
        replace mc1 := cellk B15 l_mc mc1
        replace X0 := cellk B15 l_X X0
        replace X1 := cellk B15 l_X X1
        replace Y0 := cellk B15 l_Y Y0
        replace Y1 := cellk B15 l_Y Y1
        replace Z0 := cellk B15 l_Z Z0
        replace Z1 := cellk B15 l_Z Z1
        replace fz_X0 := (B15.frozen (p := ⟨w12.heap.size, 0, none⟩) l_X).trans fz_X0
        replace fz_X1 := (B15.frozen (p := ⟨w12.heap.size, 1, none⟩) l_X).trans fz_X1
        replace fz_Y0 := (B15.frozen (p := ⟨w12.heap.size + 1, 0, none⟩) l_Y).trans fz_Y0
        replace fz_Y1 := (B15.frozen (p := ⟨w12.heap.size + 1, 1, none⟩) l_Y).trans fz_Y1
        replace fz_Z0 := (B15.frozen (p := ⟨w12.heap.size + 1 + 1, 0, none⟩) l_Z).trans fz_Z0
        replace fz_Z1 := (B15.frozen (p := ⟨w12.heap.size + 1 + 1, 1, none⟩) l_Z).trans fz_Z1
        replace l_m := Nat.lt_of_lt_of_le l_m B15.size
        replace l_b := Nat.lt_of_lt_of_le l_b B15.size
        replace l_ma := Nat.lt_of_lt_of_le l_ma B15.size
        replace l_mb := Nat.lt_of_lt_of_le l_mb B15.size
        replace l_mc := Nat.lt_of_lt_of_le l_mc B15.size
        replace l_X := Nat.lt_of_lt_of_le l_X B15.size
        replace l_Y := Nat.lt_of_lt_of_le l_Y B15.size
        replace l_Z := Nat.lt_of_lt_of_le l_Z B15.size
        replace GV3 := Lib.hid (GV3.out.kept B15)
        replace GF3 := Lib.hid (GF3.out.kept B15)
        replace HB := Lib.hid (HB.out.trans (B15.mono HB.out.size))
        replace HP := Lib.hid (HP.out.trans (B15.mono HP.out.size))
        clear B15
        go_wp2_with (fail)
        refine (sameMesh_any v2 none u2 none 0 c2 0 0 d2 0 V F _ (.inl rfl) (.inl rfl) (.inl rfl) (.inl rfl) (by omega) (by omega)).mono ?_
        rintro e w16 ⟨rfl, hb⟩
        have B16 : Below w15.heap.size w15 w16 := hb
        replace m0 := cellk B16 l_m m0
        replace m1 := cellk B16 l_m m1
        replace b0 := cellk B16 l_b b0
        replace b1 := cellk B16 l_b b1
        replace b2 := cellk B16 l_b b2
        replace ma0 := cellk B16 l_ma ma0
        replace ma1 := cellk B16 l_ma ma1
        replace mb0 := cellk B16 l_mb mb0
        replace mb1 := cellk B16 l_mb mb1
        replace mc0 := cellk B16 l_mc mc0
        replace mc1 := cellk B16 l_mc mc1
        replace X0 := cellk B16 l_X X0
        replace X1 := cellk B16 l_X X1
        replace Y0 := cellk B16 l_Y Y0
        replace Y1 := cellk B16 l_Y Y1
        replace Z0 := cellk B16 l_Z Z0
        replace Z1 := cellk B16 l_Z Z1
        replace fz_X0 := (B16.frozen (p := ⟨w12.heap.size, 0, none⟩) l_X).trans fz_X0
        replace fz_X1 := (B16.frozen (p := ⟨w12.heap.size, 1, none⟩) l_X).trans fz_X1
        replace fz_Y0 := (B16.frozen (p := ⟨w12.heap.size + 1, 0, none⟩) l_Y).trans fz_Y0
        replace fz_Y1 := (B16.frozen (p := ⟨w12.heap.size + 1, 1, none⟩) l_Y).trans fz_Y1
        replace fz_Z0 := (B16.frozen (p := ⟨w12.heap.size + 1 + 1, 0, none⟩) l_Z).trans fz_Z0
        replace fz_Z1 := (B16.frozen (p := ⟨w12.heap.size + 1 + 1, 1, none⟩) l_Z).trans fz_Z1
        replace l_m := Nat.lt_of_lt_of_le l_m B16.size
        replace l_b := Nat.lt_of_lt_of_le l_b B16.size
        replace l_ma := Nat.lt_of_lt_of_le l_ma B16.size
        replace l_mb := Nat.lt_of_lt_of_le l_mb B16.size
        replace l_mc := Nat.lt_of_lt_of_le l_mc B16.size
        replace l_X := Nat.lt_of_lt_of_le l_X B16.size
        replace l_Y := Nat.lt_of_lt_of_le l_Y B16.size
        replace l_Z := Nat.lt_of_lt_of_le l_Z B16.size
        replace GV3 := Lib.hid (GV3.out.kept B16)
        replace GF3 := Lib.hid (GF3.out.kept B16)
        replace HB := Lib.hid (HB.out.trans (B16.mono HB.out.size))
        replace HP := Lib.hid (HP.out.trans (B16.mono HP.out.size))
        clear B16
        go_wp2_with (fail)
        refine (sameMesh_any v3 V3 u3 U3 _ c3 C3 _ d3 D3 (fun i => mv a (V i)) (fun i => sw (F i)) _ (HV3.out.row3.kept (Below.trans HP.out (Below.mono (B := w16.heap.size) (by repeat (first | exact Below.refl _ _ | assumption | refine Below.drew ?_ | refine bdrewN ?_ _ | refine Below.setCell ?_ (by first | omega | (simp <;> omega)) _ | refine Below.alloc ?_ (by first | omega | (simp <;> omega)) _)) HP.out.size))) (GV3.out.row3.kept (by repeat (first | exact Below.refl _ _ | assumption | refine Below.drew ?_ | refine bdrewN ?_ _ | refine Below.setCell ?_ (by first | omega | (simp <;> omega)) _ | refine Below.alloc ?_ (by first | omega | (simp <;> omega)) _))) (HF3.out.row3.kept (Below.trans HP.out (Below.mono (B := w16.heap.size) (by repeat (first | exact Below.refl _ _ | assumption | refine Below.drew ?_ | refine bdrewN ?_ _ | refine Below.setCell ?_ (by first | omega | (simp <;> omega)) _ | refine Below.alloc ?_ (by first | omega | (simp <;> omega)) _)) HP.out.size))) (GF3.out.row3.kept (by repeat (first | exact Below.refl _ _ | assumption | refine Below.drew ?_ | refine bdrewN ?_ _ | refine Below.setCell ?_ (by first | omega | (simp <;> omega)) _ | refine Below.alloc ?_ (by first | omega | (simp <;> omega)) _))) (by have := zr_le E3 nv; omega) (by have := zr_le E3 nf; omega)).mono ?_
        rintro e w17 ⟨rfl, hb⟩
        have B17 : Below w16.heap.size w16 w17 := hb
        replace m0 := cellk B17 l_m m0
        replace m1 := cellk B17 l_m m1
        replace b0 := cellk B17 l_b b0
        replace b1 := cellk B17 l_b b1
        replace b2 := cellk B17 l_b b2
        replace ma0 := cellk B17 l_ma ma0
        replace ma1 := cellk B17 l_ma ma1
        replace mb0 := cellk B17 l_mb mb0
        replace mb1 := cellk B17 l_mb mb1
        replace mc0 := cellk B17 l_mc mc0
        replace mc1 := cellk B17 l_mc mc1
        replace X0 := cellk B17 l_X X0
        replace X1 := cellk B17 l_X X1
        replace Y0 := cellk B17 l_Y Y0
        replace Y1 := cellk B17 l_Y Y1
        replace Z0 := cellk B17 l_Z Z0
        replace Z1 := cellk B17 l_Z Z1
        replace fz_X0 := (B17.frozen (p := ⟨w12.heap.size, 0, none⟩) l_X).trans fz_X0
        replace fz_X1 := (B17.frozen (p := ⟨w12.heap.size, 1, none⟩) l_X).trans fz_X1
        replace fz_Y0 := (B17.frozen (p := ⟨w12.heap.size + 1, 0, none⟩) l_Y).trans fz_Y0
        replace fz_Y1 := (B17.frozen (p := ⟨w12.heap.size + 1, 1, none⟩) l_Y).trans fz_Y1
        replace fz_Z0 := (B17.frozen (p := ⟨w12.heap.size + 1 + 1, 0, none⟩) l_Z).trans fz_Z0
        replace fz_Z1 := (B17.frozen (p := ⟨w12.heap.size + 1 + 1, 1, none⟩) l_Z).trans fz_Z1
        replace l_m := Nat.lt_of_lt_of_le l_m B17.size
        replace l_b := Nat.lt_of_lt_of_le l_b B17.size
        replace l_ma := Nat.lt_of_lt_of_le l_ma B17.size
        replace l_mb := Nat.lt_of_lt_of_le l_mb B17.size
        replace l_mc := Nat.lt_of_lt_of_le l_mc B17.size
        replace l_X := Nat.lt_of_lt_of_le l_X B17.size
        replace l_Y := Nat.lt_of_lt_of_le l_Y B17.size
        replace l_Z := Nat.lt_of_lt_of_le l_Z B17.size
        replace GV3 := Lib.hid (GV3.out.kept B17)
        replace GF3 := Lib.hid (GF3.out.kept B17)
        replace HB := Lib.hid (HB.out.trans (B17.mono HB.out.size))
        replace HP := Lib.hid (HP.out.trans (B17.mono HP.out.size))
        clear B17
        go_wp2_with (fail)
        refine (meshed_any _).mono ?_
        rintro e w18 ⟨rfl, hb⟩
        have B18 : Below w17.heap.size w17 w18 := hb
        replace m0 := cellk B18 l_m m0
        replace m1 := cellk B18 l_m m1
        replace b0 := cellk B18 l_b b0
        replace b1 := cellk B18 l_b b1
        replace b2 := cellk B18 l_b b2
        replace ma0 := cellk B18 l_ma ma0
        replace ma1 := cellk B18 l_ma ma1
        replace mb0 := cellk B18 l_mb mb0
        replace mb1 := cellk B18 l_mb mb1
        replace mc0 := cellk B18 l_mc mc0
        replace mc1 := cellk B18 l_mc mc1
        replace X0 := cellk B18 l_X X0
        replace X1 := cellk B18 l_X X1
        replace Y0 := cellk B18 l_Y Y0
        replace Y1 := cellk B18 l_Y Y1
        replace Z0 := cellk B18 l_Z Z0
        replace Z1 := cellk B18 l_Z Z1
        replace fz_X0 := (B18.frozen (p := ⟨w12.heap.size, 0, none⟩) l_X).trans fz_X0
        replace fz_X1 := (B18.frozen (p := ⟨w12.heap.size, 1, none⟩) l_X).trans fz_X1
        replace fz_Y0 := (B18.frozen (p := ⟨w12.heap.size + 1, 0, none⟩) l_Y).trans fz_Y0
        replace fz_Y1 := (B18.frozen (p := ⟨w12.heap.size + 1, 1, none⟩) l_Y).trans fz_Y1
        replace fz_Z0 := (B18.frozen (p := ⟨w12.heap.size + 1 + 1, 0, none⟩) l_Z).trans fz_Z0
        replace fz_Z1 := (B18.frozen (p := ⟨w12.heap.size + 1 + 1, 1, none⟩) l_Z).trans fz_Z1
        replace l_m := Nat.lt_of_lt_of_le l_m B18.size
        replace l_b := Nat.lt_of_lt_of_le l_b B18.size
        replace l_ma := Nat.lt_of_lt_of_le l_ma B18.size
        replace l_mb := Nat.lt_of_lt_of_le l_mb B18.size
        replace l_mc := Nat.lt_of_lt_of_le l_mc B18.size
        replace l_X := Nat.lt_of_lt_of_le l_X B18.size
        replace l_Y := Nat.lt_of_lt_of_le l_Y B18.size
        replace l_Z := Nat.lt_of_lt_of_le l_Z B18.size
        replace GV3 := Lib.hid (GV3.out.kept B18)
        replace GF3 := Lib.hid (GF3.out.kept B18)
        replace HB := Lib.hid (HB.out.trans (B18.mono HB.out.size))
        replace HP := Lib.hid (HP.out.trans (B18.mono HP.out.size))
        clear B18
        have R := Lib.hid ((HM.out.toBelow w.heap.size (Nat.le_refl _) (fun k hk => by omega)).trans (HB.out.mono hw6))
        go_wp2
        go_ret
        exact ⟨rfl, R.out⟩
      · skip
        have e1 : (O1 == 0) = false := by simpa using h1
        obtain rfl : E1 = O1 := T1n.out h1
        simp only [zr_not h1] at ma0 ma1
        have e2 : (f0 == 0) = false := by simpa using h2
        obtain rfl : E2 = f0 := T2n.out h2
        simp only [zr_not h2] at mb0 mb1
        have e3 : (O3 == 0) = false := by simpa using h3
        obtain rfl : E3 = O3 := T3n.out h3
        simp only [zr_not h3] at mc0 mc1
        have x_m1 : w3.heap.size < w12.heap.size + 1 := by omega
        have x_m2 : w3.heap.size < w12.heap.size + 1 + 1 := by omega
        have x_b1 : w6.heap.size < w12.heap.size + 1 := by omega
        have x_b2 : w6.heap.size < w12.heap.size + 1 + 1 := by omega
        have x_ma1 : w8.heap.size < w12.heap.size + 1 := by omega
        have x_ma2 : w8.heap.size < w12.heap.size + 1 + 1 := by omega
        have x_mb1 : w9.heap.size < w12.heap.size + 1 := by omega
        have x_mb2 : w9.heap.size < w12.heap.size + 1 + 1 := by omega
        have x_mc1 : w10.heap.size < w12.heap.size + 1 := by omega
        have x_mc2 : w10.heap.size < w12.heap.size + 1 + 1 := by omega
        go_wp2_with (fail)
        clear x_m1 x_m2 x_b1 x_b2 x_ma1 x_ma2 x_mb1 x_mb2 x_mc1 x_mc2
        refine (sameMesh_any v1 none u1 none 0 c1 0 0 d1 0 V F _ (.inl rfl) (.inl rfl) (.inl rfl) (.inl rfl) (by omega) (by omega)).mono ?_
        rintro e w13 ⟨rfl, hb⟩
        have B13 : Below w12.heap.size w12 w13 := Below.trans (by repeat (first | exact Below.refl _ _ | assumption | refine Below.drew ?_ | refine bdrewN ?_ _ | refine Below.setCell ?_ (by first | omega | (simp <;> omega)) _ | refine Below.alloc ?_ (by first | omega | (simp <;> omega)) _)) (hb.mono (by simp <;> omega))
        replace m0 := cellk B13 l_m m0
        replace m1 := cellk B13 l_m m1
        replace b0 := cellk B13 l_b b0
        replace b1 := cellk B13 l_b b1
        replace b2 := cellk B13 l_b b2
        replace ma0 := cellk B13 l_ma ma0
        replace ma1 := cellk B13 l_ma ma1
        replace mb0 := cellk B13 l_mb mb0
        replace mb1 := cellk B13 l_mb mb1
        replace mc0 := cellk B13 l_mc mc0
        replace mc1 := cellk B13 l_mc mc1
        replace l_m := Nat.lt_of_lt_of_le l_m B13.size
        replace l_b := Nat.lt_of_lt_of_le l_b B13.size
        replace l_ma := Nat.lt_of_lt_of_le l_ma B13.size
        replace l_mb := Nat.lt_of_lt_of_le l_mb B13.size
        replace l_mc := Nat.lt_of_lt_of_le l_mc B13.size
        have X0 : w13.cell? ⟨w12.heap.size, 0, none⟩ = some (.slice none 0 0) := by rw [hb.cell (by simp <;> omega)]; simp [go_sem]
        have fz_X0 : w13.frozen? ⟨w12.heap.size, 0, none⟩ = false := by rw [hb.frozen (by simp <;> omega)]; simp [go_sem]
        have X1 : w13.cell? ⟨w12.heap.size, 1, none⟩ = some (.slice none 0 0) := by rw [hb.cell (by simp <;> omega)]; simp [go_sem]
        have fz_X1 : w13.frozen? ⟨w12.heap.size, 1, none⟩ = false := by rw [hb.frozen (by simp <;> omega)]; simp [go_sem]
        have l_X : w12.heap.size < w13.heap.size := by have := hb.size; simp at this; omega
        have Y0 : w13.cell? ⟨w12.heap.size + 1, 0, none⟩ = some (.slice none 0 0) := by rw [hb.cell (by simp <;> omega)]; simp [go_sem]
        have fz_Y0 : w13.frozen? ⟨w12.heap.size + 1, 0, none⟩ = false := by rw [hb.frozen (by simp <;> omega)]; simp [go_sem]
        have Y1 : w13.cell? ⟨w12.heap.size + 1, 1, none⟩ = some (.slice none 0 0) := by rw [hb.cell (by simp <;> omega)]; simp [go_sem]
        have fz_Y1 : w13.frozen? ⟨w12.heap.size + 1, 1, none⟩ = false := by rw [hb.frozen (by simp <;> omega)]; simp [go_sem]
        have l_Y : w12.heap.size + 1 < w13.heap.size := by have := hb.size; simp at this; omega
        have Z0 : w13.cell? ⟨w12.heap.size + 1 + 1, 0, none⟩ = some (.slice none 0 0) := by rw [hb.cell (by simp <;> omega)]; simp [go_sem]
        have fz_Z0 : w13.frozen? ⟨w12.heap.size + 1 + 1, 0, none⟩ = false := by rw [hb.frozen (by simp <;> omega)]; simp [go_sem]
        have Z1 : w13.cell? ⟨w12.heap.size + 1 + 1, 1, none⟩ = some (.slice none 0 0) := by rw [hb.cell (by simp <;> omega)]; simp [go_sem]
        have fz_Z1 : w13.frozen? ⟨w12.heap.size + 1 + 1, 1, none⟩ = false := by rw [hb.frozen (by simp <;> omega)]; simp [go_sem]
        have l_Z : w12.heap.size + 1 + 1 < w13.heap.size := by have := hb.size; simp at this; omega
        replace HB := Lib.hid (HB.out.trans (B13.mono HB.out.size))
        replace HP := Lib.hid (HP.out.trans (B13.mono HP.out.size))
        clear hb B13
        go_wp2_with (fail)
        refine (sameMesh_any v2 none u2 none 0 c2 0 0 d2 0 V F _ (.inl rfl) (.inl rfl) (.inl rfl) (.inl rfl) (by omega) (by omega)).mono ?_
        rintro e w14 ⟨rfl, hb⟩
        have B14 : Below w13.heap.size w13 w14 := hb
        replace m0 := cellk B14 l_m m0
        replace m1 := cellk B14 l_m m1
        replace b0 := cellk B14 l_b b0
        replace b1 := cellk B14 l_b b1
        replace b2 := cellk B14 l_b b2
        replace ma0 := cellk B14 l_ma ma0
        replace ma1 := cellk B14 l_ma ma1
        replace mb0 := cellk B14 l_mb mb0
        replace mb1 := cellk B14 l_mb mb1
        replace mc0 := cellk B14 l_mc mc0
        replace mc1 := cellk B14 l_mc mc1
        replace X0 := cellk B14 l_X X0
        replace X1 := cellk B14 l_X X1
        replace Y0 := cellk B14 l_Y Y0
        replace Y1 := cellk B14 l_Y Y1
        replace Z0 := cellk B14 l_Z Z0
        replace Z1 := cellk B14 l_Z Z1
        replace fz_X0 := (B14.frozen (p := ⟨w12.heap.size, 0, none⟩) l_X).trans fz_X0
        replace fz_X1 := (B14.frozen (p := ⟨w12.heap.size, 1, none⟩) l_X).trans fz_X1
        replace fz_Y0 := (B14.frozen (p := ⟨w12.heap.size + 1, 0, none⟩) l_Y).trans fz_Y0
        replace fz_Y1 := (B14.frozen (p := ⟨w12.heap.size + 1, 1, none⟩) l_Y).trans fz_Y1
        replace fz_Z0 := (B14.frozen (p := ⟨w12.heap.size + 1 + 1, 0, none⟩) l_Z).trans fz_Z0
        replace fz_Z1 := (B14.frozen (p := ⟨w12.heap.size + 1 + 1, 1, none⟩) l_Z).trans fz_Z1
        replace l_m := Nat.lt_of_lt_of_le l_m B14.size
        replace l_b := Nat.lt_of_lt_of_le l_b B14.size
        replace l_ma := Nat.lt_of_lt_of_le l_ma B14.size
        replace l_mb := Nat.lt_of_lt_of_le l_mb B14.size
        replace l_mc := Nat.lt_of_lt_of_le l_mc B14.size
        replace l_X := Nat.lt_of_lt_of_le l_X B14.size
        replace l_Y := Nat.lt_of_lt_of_le l_Y B14.size
        replace l_Z := Nat.lt_of_lt_of_le l_Z B14.size
        replace HB := Lib.hid (HB.out.trans (B14.mono HB.out.size))
        replace HP := Lib.hid (HP.out.trans (B14.mono HP.out.size))
        clear B14
        go_wp2_with (fail)
        refine (sameMesh_any v3 none u3 none 0 c3 0 0 d3 0 V F _ (.inl rfl) (.inl rfl) (.inl rfl) (.inl rfl) (by omega) (by omega)).mono ?_
        rintro e w15 ⟨rfl, hb⟩
        have B15 : Below w14.heap.size w14 w15 := hb
        replace m0 := cellk B15 l_m m0
        replace m1 := cellk B15 l_m m1
        replace b0 := cellk B15 l_b b0
        replace b1 := cellk B15 l_b b1
        replace b2 := cellk B15 l_b b2
        replace ma0 := cellk B15 l_ma ma0
        replace ma1 := cellk B15 l_ma ma1
        replace mb0 := cellk B15 l_mb mb0
        replace mb1 := cellk B15 l_mb mb1
        replace mc0 := cellk B15 l_mc mc0
        replace mc1 := cellk B15 l_mc mc1
        replace X0 := cellk B15 l_X X0
        replace X1 := cellk B15 l_X X1
        replace Y0 := cellk B15 l_Y Y0
        replace Y1 := cellk B15 l_Y Y1
        replace Z0 := cellk B15 l_Z Z0
        replace Z1 := cellk B15 l_Z Z1
        replace fz_X0 := (B15.frozen (p := ⟨w12.heap.size, 0, none⟩) l_X).trans fz_X0
        replace fz_X1 := (B15.frozen (p := ⟨w12.heap.size, 1, none⟩) l_X).trans fz_X1
        replace fz_Y0 := (B15.frozen (p := ⟨w12.heap.size + 1, 0, none⟩) l_Y).trans fz_Y0
        replace fz_Y1 := (B15.frozen (p := ⟨w12.heap.size + 1, 1, none⟩) l_Y).trans fz_Y1
        replace fz_Z0 := (B15.frozen (p := ⟨w12.heap.size + 1 + 1, 0, none⟩) l_Z).trans fz_Z0
        replace fz_Z1 := (B15.frozen (p := ⟨w12.heap.size + 1 + 1, 1, none⟩) l_Z).trans fz_Z1
        replace l_m := Nat.lt_of_lt_of_le l_m B15.size
        replace l_b := Nat.lt_of_lt_of_le l_b B15.size
        replace l_ma := Nat.lt_of_lt_of_le l_ma B15.size
        replace l_mb := Nat.lt_of_lt_of_le l_mb B15.size
        replace l_mc := Nat.lt_of_lt_of_le l_mc B15.size
        replace l_X := Nat.lt_of_lt_of_le l_X B15.size
        replace l_Y := Nat.lt_of_lt_of_le l_Y B15.size
        replace l_Z := Nat.lt_of_lt_of_le l_Z B15.size
        replace HB := Lib.hid (HB.out.trans (B15.mono HB.out.size))
        replace HP := Lib.hid (HP.out.trans (B15.mono HP.out.size))
        clear B15
        go_wp2_with (fail)
        refine (meshed_any _).mono ?_
        rintro e w16 ⟨rfl, hb⟩
        have B16 : Below w15.heap.size w15 w16 := hb
        replace m0 := cellk B16 l_m m0
        replace m1 := cellk B16 l_m m1
        replace b0 := cellk B16 l_b b0
        replace b1 := cellk B16 l_b b1
        replace b2 := cellk B16 l_b b2
        replace ma0 := cellk B16 l_ma ma0
        replace ma1 := cellk B16 l_ma ma1
        replace mb0 := cellk B16 l_mb mb0
        replace mb1 := cellk B16 l_mb mb1
        replace mc0 := cellk B16 l_mc mc0
        replace mc1 := cellk B16 l_mc mc1
        replace X0 := cellk B16 l_X X0
        replace X1 := cellk B16 l_X X1
        replace Y0 := cellk B16 l_Y Y0
        replace Y1 := cellk B16 l_Y Y1
        replace Z0 := cellk B16 l_Z Z0
        replace Z1 := cellk B16 l_Z Z1
        replace fz_X0 := (B16.frozen (p := ⟨w12.heap.size, 0, none⟩) l_X).trans fz_X0
        replace fz_X1 := (B16.frozen (p := ⟨w12.heap.size, 1, none⟩) l_X).trans fz_X1
        replace fz_Y0 := (B16.frozen (p := ⟨w12.heap.size + 1, 0, none⟩) l_Y).trans fz_Y0
        replace fz_Y1 := (B16.frozen (p := ⟨w12.heap.size + 1, 1, none⟩) l_Y).trans fz_Y1
        replace fz_Z0 := (B16.frozen (p := ⟨w12.heap.size + 1 + 1, 0, none⟩) l_Z).trans fz_Z0
        replace fz_Z1 := (B16.frozen (p := ⟨w12.heap.size + 1 + 1, 1, none⟩) l_Z).trans fz_Z1
        replace l_m := Nat.lt_of_lt_of_le l_m B16.size
        replace l_b := Nat.lt_of_lt_of_le l_b B16.size
        replace l_ma := Nat.lt_of_lt_of_le l_ma B16.size
        replace l_mb := Nat.lt_of_lt_of_le l_mb B16.size
        replace l_mc := Nat.lt_of_lt_of_le l_mc B16.size
        replace l_X := Nat.lt_of_lt_of_le l_X B16.size
        replace l_Y := Nat.lt_of_lt_of_le l_Y B16.size
        replace l_Z := Nat.lt_of_lt_of_le l_Z B16.size
        replace HB := Lib.hid (HB.out.trans (B16.mono HB.out.size))
        replace HP := Lib.hid (HP.out.trans (B16.mono HP.out.size))
        clear B16
        have R := Lib.hid ((HM.out.toBelow w.heap.size (Nat.le_refl _) (fun k hk => by omega)).trans (HB.out.mono hw6))
        go_wp2
        go_ret
        exact ⟨rfl, R.out⟩
end Go.Proofs.Ytbkipjceglpmcaa

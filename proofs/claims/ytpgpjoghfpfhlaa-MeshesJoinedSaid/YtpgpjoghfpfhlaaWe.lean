/- Welded. -/
import Derived.Test.YtpgpjoghfpfhlaaWk
import Derived.Test.YtpgpjoghfpfhlaaOpen
import Derived.Test.YtpgpjoghfpfhlaaPt
import Derived.Test.YtpgpjoghfpfhlaaFos
import Derived.Deep.QuietTactic
import Derived.BigQuiet
set_option linter.unusedSimpArgs false
set_option linter.unusedVariables false
namespace Go.Proofs.Ytpgpjoghfpfhlaa
open Go.RowKit Go.Maps

theorem ownsMap_heapEq {w w' : World} {b n : Nat} {D : DataW Unit} {P : Program} {k e : TypeId} (h : w.ownsMap P k (plainElem P e) b n D) (hq : w'.heap = w.heap) (ho : w'.os = w.os) (ht : w'.tape = w.tape) (hu : w'.output = w.output) : w'.ownsMap P k (plainElem P e) b n D :=
  ownsMap_below h ⟨ho, ht, hu, by rw [hq]; exact Nat.le_refl _, fun k _ => by rw [hq]⟩
theorem welded1_any (p q bm bv ov nv cv n i : Nat) (V : Nat → V3) (sf : Value) (w : World) (hp : w.cell? ⟨p, 0, none⟩ = some (.map (some bm))) (hq : w.cell? ⟨q, 0, none⟩ = some (.slice (some ⟨bv, ov, none⟩) nv cv)) (ht : Tri w bv ov nv V) (hi : i < nv) (hn : nv ≤ 1000000)
    (hmap : w.ownsMap Try.prog 47 (plainElem Try.prog 3) bm n (VD V nv)) (hV : ∀ j, j < nv → Wf3 (V j)) :
    Calls Try.prog 39 #[.int .i64 i, .pointer (some ⟨p, 0, none⟩), .pointer (some ⟨q, 0, none⟩)] w fun e w' => e = .returned (.int .i64 (ixV V (V i) nv : Int)) ∧ ∃ nq, w' = w.drewN nq := by
  obtain ⟨c0, c1, c2⟩ := ht i hi
  have hk := key_vec (V i).x (V i).y (V i).z (hV i hi).1 (hV i hi).2.1 (hV i hi).2.2
  have hL : ∀ nq, (Instr.lookup 71 (.map (some bm)) (.agg #[.int .i64 (V i).x, .int .i64 (V i).y, .int .i64 (V i).z]) false).run Try.prog (w.drewN nq) = .ok (.int .i64 (ixV V (V i) nv : Int)) (w.drewN nq) := fun nq => by
    obtain ⟨c, hrun, hat, _⟩ := (ownsMap_heapEq (w' := w.drewN nq) hmap rfl rfl rfl rfl).lookup_int vecKeyed Try.underlying71 Try.underlying3 (zeroInt _) hk
    have h2 := vd_at hV (hV i hi) (ixV_lt hi rfl) (.lit (.int .i64 0))
    rw [show (⟨(V i).x, (V i).y, (V i).z⟩ : V3) = V i from rfl] at hat
    rw [hat] at h2
    simp only [DataW.lit.injEq, Lit.int.injEq, true_and] at h2
    rw [h2] at hrun
    exact hrun
  have b1 : (i : Int) < (nv : Int) := by omega
  have b0 : (0 : Int) ≤ (i : Int) := by omega
  clear hmap hV ht hk
  go_enter Try.func39, Try.ntmps39
  go_wp2
  go_quiet (fail)
  go_wp2
  go_ret
  exact ⟨rfl, _, rfl⟩
/-- The faces with the first vertices at their places. -/
def wF (V : Nat → V3) (nv : Nat) (F : Nat → V3) (i : Nat) : V3 := rnf (fun z => (ixV V (V z.toNat) nv : Int)) (F i)
theorem wF_inb {nv nf : Nat} {V F : Nat → V3} (h : Inb nv nf F) : Inb nv nf (wF V nv F) := fun k hk => by
  obtain ⟨⟨x0, x1⟩, ⟨y0, y1⟩, z0, z1⟩ := h k hk
  have e : ∀ z : Int, 0 ≤ z → z < nv → 0 ≤ (ixV V (V z.toNat) nv : Int) ∧ (ixV V (V z.toNat) nv : Int) < nv := fun z a b => by
    have := ixV_lt (V := V) (v := V z.toNat) (n := nv) (i := z.toNat) (by omega) rfl
    omega
  exact ⟨e _ x0 x1, e _ y0 y1, e _ z0 z1⟩
theorem wf3_of {nv nf : Nat} {V F : Nat → V3} (h : fault nv V nf F = 0) : ∀ j, j < nv → Wf3 (V j) := fun j hj => by
  obtain ⟨_, _, h3, _⟩ := fault_ok h
  have hv := first_none h3 j hj
  have hv2 : vOk (V j) = true := by
    unfold vErr at hv
    split at hv
    · assumption
    · omega
  rw [vOk_iff] at hv2
  exact ⟨wf_of (by omega), wf_of (by omega), wf_of (by omega)⟩

set_option maxRecDepth 100000 in
set_option maxHeartbeats 4000000 in
theorem wel_f (av af : Option Addr) (nv cv nf cf : Nat) (V F : Nat → V3) (w : World) (hv : Row3 w av nv V) (hf : Row3 w af nf F) (hnv : nv ≤ 1000000) (hnf : nf ≤ 1000000) (h0 : fault nv V nf F ≠ 0) (nv' nf' : Nat) (G K : Nat → V3) :
    Calls Try.prog 10 #[.agg #[.slice av nv cv, .slice af nf cf]] w (MeshR w (fault nv V nf F) nv' G nf' K) := by
  have HV := Lib.hid hv
  have HF := Lib.hid hf
  clear hv hf
  go_enter Try.func10, Try.ntmps10
  go_wp2_with (fail)
  refine (checkMesh_any av af nv cv nf cf V F _ (HV.out.kept (by repeat (first | exact Below.refl _ _ | assumption | refine Below.drew ?_ | refine bdrewN ?_ _ | refine Below.setCell ?_ (by first | omega | (simp <;> omega)) _ | refine Below.alloc ?_ (by first | omega | (simp <;> omega)) _))) (HF.out.kept (by repeat (first | exact Below.refl _ _ | assumption | refine Below.drew ?_ | refine bdrewN ?_ _ | refine Below.setCell ?_ (by first | omega | (simp <;> omega)) _ | refine Below.alloc ?_ (by first | omega | (simp <;> omega)) _))) hnv hnf).mono ?_
  rintro e w1 ⟨rfl, hb1⟩
  have z1 : w.heap.size + 1 + 1 ≤ w1.heap.size := by have := hb1.size; simpa using this
  have B1 : Below w.heap.size w w1 := Below.trans (by repeat (first | exact Below.refl _ _ | assumption | refine Below.drew ?_ | refine bdrewN ?_ _ | refine Below.setCell ?_ (by first | omega | (simp <;> omega)) _ | refine Below.alloc ?_ (by first | omega | (simp <;> omega)) _)) (hb1.mono (by simp <;> omega))
  have lt0 : w.heap.size < w1.heap.size := by omega
  have hb_0 : w1.heap[w.heap.size]? = some (.cells #[.slice av nv cv, .slice af nf cf] 29 (0, 0)) := heap_keep hb1 (by repeat (first | (refine heap_new ?_; first | rfl | (simp; done)) | rw [Below.heap_setCell _ _ _ _ (by simp <;> omega)] | rw [Below.heap_alloc _ _ _ (by simp <;> omega)]))
  have b0c0 : w1.cell? ⟨w.heap.size, 0, none⟩ = some (.slice av nv cv) := by simp [World.cell?, hb_0]
  have b0f0 : w1.frozen? ⟨w.heap.size, 0, none⟩ = false := by simp [World.frozen?, hb_0]
  have b0c1 : w1.cell? ⟨w.heap.size, 1, none⟩ = some (.slice af nf cf) := by simp [World.cell?, hb_0]
  have b0f1 : w1.frozen? ⟨w.heap.size, 1, none⟩ = false := by simp [World.frozen?, hb_0]
  have BX0 := Lib.hid hb_0
  clear hb_0
  have lt1 : w.heap.size + 1 < w1.heap.size := by omega
  have hb_1 : w1.heap[w.heap.size + 1]? = some (.cells #[.slice none 0 0, .slice none 0 0] 29 (0, 0)) := heap_keep hb1 (by repeat (first | (refine heap_new ?_; first | rfl | (simp; done)) | rw [Below.heap_setCell _ _ _ _ (by simp <;> omega)] | rw [Below.heap_alloc _ _ _ (by simp <;> omega)]))
  have b1c0 : w1.cell? ⟨w.heap.size + 1, 0, none⟩ = some (.slice none 0 0) := by simp [World.cell?, hb_1]
  have b1f0 : w1.frozen? ⟨w.heap.size + 1, 0, none⟩ = false := by simp [World.frozen?, hb_1]
  have b1c1 : w1.cell? ⟨w.heap.size + 1, 1, none⟩ = some (.slice none 0 0) := by simp [World.cell?, hb_1]
  have b1f1 : w1.frozen? ⟨w.heap.size + 1, 1, none⟩ = false := by simp [World.frozen?, hb_1]
  have BX1 := Lib.hid hb_1
  clear hb_1
  have HB := Lib.hid B1
  clear hb1 B1
  have e0 : (fault nv V nf F != 0) = true := by simpa using h0
  go_wp2
  exact bodyPost_ret (v := .tuple #[.agg #[.slice none 0 0, .slice none 0 0], .int .i64 (fault nv V nf F)]) (by simp [results, Try.results10, go_sem, b1c0, b1c1, lt1]) rfl (meshR_no rfl (by first | assumption | decide) (by repeat (first | exact Below.refl _ _ | assumption | refine Below.drew ?_ | refine bdrewN ?_ _ | refine Below.setCell ?_ (by first | omega | (simp <;> omega)) _ | refine Below.alloc ?_ (by first | omega | (simp <;> omega)) _)))
set_option maxRecDepth 100000 in
set_option maxHeartbeats 16000000 in
theorem wel_ok (av af : Option Addr) (nv cv nf cf : Nat) (V F : Nat → V3) (w : World) (hv : Row3 w av nv V) (hf : Row3 w af nf F) (hnv : nv ≤ 1000000) (hnf : nf ≤ 1000000) (h0 : fault nv V nf F = 0)
    (kn : Nat) (kv kf : Nat → V3) (E : Int) (hK : (cnt (useB (wF V nv F) nf) nv) = kn) (hKV : (keepV (useB (wF V nv F) nf) V nv) = kv) (hCF : (fun i => rnf (place (useB (wF V nv F) nf)) (wF V nv F i)) = kf) (hE : fault kn kv nf kf = E) :
    Calls Try.prog 10 #[.agg #[.slice av nv cv, .slice af nf cf]] w (MeshR w E kn kv nf kf) := by
  have hmm := @run_makeMap Try.prog
  have HK := Lib.hid hK
  have HKV := Lib.hid hKV
  have HCF := Lib.hid hCF
  have HEE := Lib.hid hE
  clear hK hKV hCF hE
  have HI := Lib.hid (inb_of h0)
  have HW := Lib.hid (wf3_of h0)
  have HV := Lib.hid hv
  have HF := Lib.hid hf
  clear hv hf
  go_enter Try.func10, Try.ntmps10
  go_wp2_with (fail)
  refine (checkMesh_any av af nv cv nf cf V F _ (HV.out.kept (by repeat (first | exact Below.refl _ _ | assumption | refine Below.drew ?_ | refine bdrewN ?_ _ | refine Below.setCell ?_ (by first | omega | (simp <;> omega)) _ | refine Below.alloc ?_ (by first | omega | (simp <;> omega)) _))) (HF.out.kept (by repeat (first | exact Below.refl _ _ | assumption | refine Below.drew ?_ | refine bdrewN ?_ _ | refine Below.setCell ?_ (by first | omega | (simp <;> omega)) _ | refine Below.alloc ?_ (by first | omega | (simp <;> omega)) _))) hnv hnf).mono ?_
  rintro e w1 ⟨rfl, hb1⟩
  have z1 : w.heap.size + 1 + 1 ≤ w1.heap.size := by have := hb1.size; simpa using this
  have B1 : Below w.heap.size w w1 := Below.trans (by repeat (first | exact Below.refl _ _ | assumption | refine Below.drew ?_ | refine bdrewN ?_ _ | refine Below.setCell ?_ (by first | omega | (simp <;> omega)) _ | refine Below.alloc ?_ (by first | omega | (simp <;> omega)) _)) (hb1.mono (by simp <;> omega))
  have lt0 : w.heap.size < w1.heap.size := by omega
  have hb_0 : w1.heap[w.heap.size]? = some (.cells #[.slice av nv cv, .slice af nf cf] 29 (0, 0)) := heap_keep hb1 (by repeat (first | (refine heap_new ?_; first | rfl | (simp; done)) | rw [Below.heap_setCell _ _ _ _ (by simp <;> omega)] | rw [Below.heap_alloc _ _ _ (by simp <;> omega)]))
  have b0c0 : w1.cell? ⟨w.heap.size, 0, none⟩ = some (.slice av nv cv) := by simp [World.cell?, hb_0]
  have b0f0 : w1.frozen? ⟨w.heap.size, 0, none⟩ = false := by simp [World.frozen?, hb_0]
  have b0c1 : w1.cell? ⟨w.heap.size, 1, none⟩ = some (.slice af nf cf) := by simp [World.cell?, hb_0]
  have b0f1 : w1.frozen? ⟨w.heap.size, 1, none⟩ = false := by simp [World.frozen?, hb_0]
  have BX0 := Lib.hid hb_0
  clear hb_0
  have lt1 : w.heap.size + 1 < w1.heap.size := by omega
  have hb_1 : w1.heap[w.heap.size + 1]? = some (.cells #[.slice none 0 0, .slice none 0 0] 29 (0, 0)) := heap_keep hb1 (by repeat (first | (refine heap_new ?_; first | rfl | (simp; done)) | rw [Below.heap_setCell _ _ _ _ (by simp <;> omega)] | rw [Below.heap_alloc _ _ _ (by simp <;> omega)]))
  have b1c0 : w1.cell? ⟨w.heap.size + 1, 0, none⟩ = some (.slice none 0 0) := by simp [World.cell?, hb_1]
  have b1f0 : w1.frozen? ⟨w.heap.size + 1, 0, none⟩ = false := by simp [World.frozen?, hb_1]
  have b1c1 : w1.cell? ⟨w.heap.size + 1, 1, none⟩ = some (.slice none 0 0) := by simp [World.cell?, hb_1]
  have b1f1 : w1.frozen? ⟨w.heap.size + 1, 1, none⟩ = false := by simp [World.frozen?, hb_1]
  have BX1 := Lib.hid hb_1
  clear hb_1
  have HB := Lib.hid B1
  clear hb1 B1
  have e0 : (fault nv V nf F != 0) = false := by simp [h0]
  clear h0
  go_wp2_with (fail)
  go_loopw [21] (fun i wr => ∃ k : Nat, k ≤ nv ∧ i = .int .i64 k ∧ wr.ownsMap Try.prog 47 (plainElem Try.prog 3) w1.heap.size k (VD V k) ∧ wr.heap[w1.heap.size + 1]? = some (.cells #[.map (some w1.heap.size)] 71 (0, 0)) ∧ Below w1.heap.size w1 wr) (fun i _ => nv - (intOf i).toNat)
  case atStart => exact ⟨0, by omega, rfl, (World.ownsMap_made _ _ _ _).alloc _, heap_new (by simp), (by repeat (first | exact Below.refl _ _ | assumption | refine Below.drew ?_ | refine bdrewN ?_ _ | refine Below.setCell ?_ (by first | omega | (simp <;> omega)) _ | refine Below.alloc ?_ (by first | omega | (simp <;> omega)) _))⟩
  case round =>
    obtain ⟨k, hk, rfl, hown, hbx, hbel⟩ := hrel
    have hsz := hbel.size
    have HO := Lib.hid hown
    have HX := Lib.hid hbx
    have HBL := Lib.hid hbel
    have HBW := Lib.hid (HB.out.trans (hbel.mono HB.out.size))
    have lm := hown.lt
    have lx := lt_of_heap hbx
    have x0 : wr.cell? ⟨w1.heap.size + 1, 0, none⟩ = some (.map (some w1.heap.size)) := cell_of hbx rfl
    have m0 := cellk hbel lt0 b0c0
    have m1 := cellk hbel lt0 b0c1
    have l0 : w.heap.size < wr.heap.size := by omega
    clear hown hbx hbel b0c0 b0c1 b1c0 b1c1 b0f0 b0f1 b1f0 b1f1 hmm
    by_cases hlt : k < nv
    · rcases HV.out with h | ⟨bf, of, rfl, hbf, hF⟩
      · omega
      obtain ⟨c0, c1, c2⟩ := (hF.kept HBW.out hbf) k hlt
      have lbf : bf < wr.heap.size := by have := HBW.out.size; omega
      have HKY := Lib.hid (key_vec (V k).x (V k).y (V k).z (HW.out k hlt).1 (HW.out k hlt).2.1 (HW.out k hlt).2.2)
      clear hF
      have hi := vd_has (V := V) (n := k) (v := V k) (fun i hi => HW.out i (by omega)) (HW.out k hlt)
      by_cases hs : ixV V (V k) k < k
      · have HH : Hid (Maps.has (VD V k) (VK ⟨(V k).x, (V k).y, (V k).z⟩) = true) := Lib.hid (hi.2 hs)
        have HD : Hid (VD V (k + 1) = VD V k) := Lib.hid (by simp only [VD]; rw [if_pos hs])
        clear hi hs
        go_wp2_with (at_lookup; refine wpList_lookup_own_ok_int _ rfl _ _ 71 rfl 47 3 .i64 vecKeyed Try.underlying71 Try.underlying3 (zeroInt _) w1.heap.size k _ rfl (HO.out.alloc _) _ _ rfl HKY.out ?_; intro c hat hwc; rw [HH.out]; clear hat hwc)
        go_roundw
        case rel => exact ⟨k + 1, by omega, by go_num, by rw [HD.out]; exact (HO.out.alloc _).mono (by omega), (Below.heap_alloc wr _ _ lx).trans HX.out, HBL.out.alloc hsz _⟩
        case measure => simp [intOf]; omega
      · have HH : Hid (Maps.has (VD V k) (VK ⟨(V k).x, (V k).y, (V k).z⟩) = false) := Lib.hid (by
          rcases h : Maps.has (VD V k) (VK ⟨(V k).x, (V k).y, (V k).z⟩) with _ | _
          · rfl
          · exact absurd (hi.1 h) hs)
        have HD : Hid (VD V (k + 1) = (VD V k).put (VK ⟨(V k).x, (V k).y, (V k).z⟩) (.lit (.int .i64 (k : Int)))) := Lib.hid (by simp only [VD]; rw [if_neg hs])
        clear hi hs
        go_wp2_with (first
          | (at_lookup; refine wpList_lookup_own_ok_int _ rfl _ _ 71 rfl 47 3 .i64 vecKeyed Try.underlying71 Try.underlying3 (zeroInt _) w1.heap.size k _ rfl (HO.out.alloc _) _ _ rfl HKY.out ?_; intro c hat hwc; rw [HH.out]; clear hat hwc)
          | (at_mapUpdate; refine wpList_mapUpdate_own _ rfl _ _ _ 71 rfl 47 3 vecKeyed Try.underlying71 _ w1.heap.size k _ rfl (HO.out.alloc _) (by unfold maxLen; omega) _ _ _ rfl rfl HKY.out _ [] (plainElem_int Try.underlying3 (WalkArith.wf_i64 (by omega))) ?_; intro w4 hown4 hgrow4; have HO4 := Lib.hid hown4; have HG4 := Lib.hid hgrow4; clear hown4 hgrow4))
        have X4 := grow_keep HG4.out ((Below.heap_alloc wr _ _ lx).trans HX.out) (by simp)
        have HX4 := Lib.hid X4
        have HB4 := Lib.hid ((HBL.out.alloc hsz _).grown HG4.out (by simp; omega) (fun j hj => by cases hj; exact Nat.le_refl _))
        clear X4
        go_roundw
        case rel => exact ⟨k + 1, by omega, by go_num, by rw [HD.out]; exact HO4.out, HX4.out, HB4.out⟩
        case measure => simp [intOf]; omega
    · obtain rfl : nv = k := by omega
      go_wp2_with (fail)
      refine (renum_W (w1.heap.size + 1) w.heap.size (fun z => (ixV V (V z.toNat) nv : Int)) af nf cf F wr (HF.out.kept HBW.out) hnf (fun W hb t ht u hu => by
        have hu' : 0 ≤ u ∧ u < nv := by
          obtain ⟨⟨p0, p1⟩, ⟨q0, q1⟩, r0, r1⟩ := HI.out t ht
          rcases hu with rfl | rfl | rfl <;> exact ⟨by assumption, by assumption⟩
        obtain ⟨i, rfl⟩ := Int.eq_ofNat_of_zero_le hu'.1
        rcases HV.out with h | ⟨bf, of, rfl, hbf, hF⟩
        · omega
        exact welded1_any (w1.heap.size + 1) w.heap.size w1.heap.size bf of nv cv nv i V (.slice af nf cf) W (cellk hb lx x0) (cellk hb l0 m0) (hF.kept (HBW.out.trans (hb.mono HBW.out.size)) hbf) (by omega) hnv (ownsMap_below HO.out hb) HW.out)).mono ?_
      rintro e w5 ⟨a5, c5, rfl, ho5, hb5⟩
      have HO5 : Hid (w5.ownsRow wr.heap.size 52 3 (.slice a5 nf c5) nf (cells3 (wF V nv F) nf)) := Lib.hid ho5
      have B5 := Lib.hid (HBW.out.trans (hb5.mono HBW.out.size))
      have HR5 := Lib.hid (heap_keep hb5 ((HBL.out.block (w.heap.size + 1) lt1).trans BX1.out))
      have v0 := cellk hb5 l0 m0
      have l5 : w.heap.size < w5.heap.size := by have := hb5.size; omega
      clear ho5 hb5 m0 m1 x0 HO HX
      have RF := Lib.hid (own_row3 HO5.out)
      have RV := Lib.hid (HV.out.kept B5.out)
      have hs5 : w.heap.size ≤ w5.heap.size := B5.out.size
      go_wp2_with (fail)
      refine (compacted_any av a5 nv cv nf c5 V (wF V nv F) w5 RV.out RF.out hnv hnf (wF_inb HI.out)).mono ?_
      rintro e w2 ⟨a2, c2, a3, c3, rfl, ho2, ho3, hb2⟩
      rw [HK.out, HKV.out] at ho2
      rw [HCF.out] at ho3
      have hkn : kn ≤ 1000000 := by rw [← HK.out]; have := cnt_le (useB (wF V nv F) nf) nv; omega
      have HO2 := Lib.hid ho2
      have HO3 := Lib.hid ho3
      have HB2 := Lib.hid hb2
      have HR2 := Lib.hid (heap_keep hb2 HR5.out)
      rw [HK.out]
      clear ho2 ho3 hb2 v0
      go_wp2_with (fail)
      refine (checked_any a2 a3 kn c2 nf c3 kv kf _ (own_row3 HO2.out) (own_row3 HO3.out) hkn hnf).mono ?_
      rintro e w3 ⟨rfl, hb3⟩
      have hr := heap_keep hb3 HR2.out
      have hlr := lt_of_heap hr
      have rc0 : w3.cell? ⟨w.heap.size + 1, 0, none⟩ = some (.slice none 0 0) := (by simp [World.cell?, hr]); have rf0 : w3.frozen? ⟨w.heap.size + 1, 0, none⟩ = false := (by simp [World.frozen?, hr]); have rc1 : w3.cell? ⟨w.heap.size + 1, 1, none⟩ = some (.slice none 0 0) := (by simp [World.cell?, hr]); have rf1 : w3.frozen? ⟨w.heap.size + 1, 1, none⟩ = false := (by simp [World.frozen?, hr])
      have HR7 := Lib.hid hr
      rw [HEE.out]
      have R := Lib.hid (((B5.out.trans (HB2.out.mono B5.out.size)).trans (hb3.mono (Nat.le_trans B5.out.size HB2.out.size))).setCell (p := ⟨w.heap.size + 1, 0, none⟩) (by show _ ≤ w.heap.size + 1; omega) (.slice (za E a2) (zr E kn) (zr E c2)) |>.setCell (p := ⟨w.heap.size + 1, 1, none⟩) (by show _ ≤ w.heap.size + 1; omega) (.slice (za E a3) (zr E nf) (zr E c3)))
      have P1 := Lib.hid (own_set (o := 1) (u := .slice (za E a3) (zr E nf) (zr E c3)) (own_set (o := 0) (u := .slice (za E a2) (zr E kn) (zr E c2)) (ownsRow_below HO2.out hb3) HR7.out (by decide)) (set2_0 HR7.out) (by decide))
      have P2 := Lib.hid (own_set (o := 1) (u := .slice (za E a3) (zr E nf) (zr E c3)) (own_set (o := 0) (u := .slice (za E a2) (zr E kn) (zr E c2)) (ownsRow_below HO3.out hb3) HR7.out (by decide)) (set2_0 HR7.out) (by decide))
      clear hr hb3
      go_wp2
      exact bodyPost_ret (v := .tuple #[.agg #[.slice (za E a2) (zr E kn) (zr E c2), .slice (za E a3) (zr E nf) (zr E c3)], .int .i64 E]) (by simp [results, Try.results10, go_sem, rc0, rc1]) rfl (meshR_of P1.out P2.out (by omega) (by omega) R.out)
end Go.Proofs.Ytpgpjoghfpfhlaa

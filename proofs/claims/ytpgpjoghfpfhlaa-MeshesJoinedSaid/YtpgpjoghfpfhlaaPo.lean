/- The reference's part of a mesh. -/
import Derived.Test.YtpgpjoghfpfhlaaPt
import Derived.Test.YtpgpjoghfpfhlaaUs
set_option linter.unusedSimpArgs false
set_option linter.unusedVariables false
namespace Go.Proofs.Ytpgpjoghfpfhlaa
open Go.RowKit

set_option maxRecDepth 100000 in
set_option maxHeartbeats 16000000 in
theorem partM_any (av af : Option Addr) (nv cv nf cf : Nat) (V F : Nat → V3) (al : Option Addr) (n cl : Nat) (L : Nat → Int) (w : World) (hv : Row3 w av nv V) (hf : Row3 w af nf F) (hnv : nv ≤ 1000000) (hnf : nf ≤ 1000000) (hl : RowI w al n L) (hn : n ≤ 1000000) (h0 : fault nv V nf F = 0) (hLL : ∀ i, i < n → 0 ≤ L i ∧ L i < nf)
    (kn : Nat) (kv kf : Nat → V3) (E : Int) (hK : (cnt (useB (chF F L) n) nv) = kn) (hKV : (keepV (useB (chF F L) n) V nv) = kv) (hCF : (fun i => rnf (place (useB (chF F L) n)) (chF F L i)) = kf) (hE : fault kn kv n kf = E) :
    Calls Try.prog 14 #[.agg #[.slice av nv cv, .slice af nf cf], .slice al n cl] w (MeshR w E kn kv n kf) := by
  obtain ⟨i1, hi1, hy0, hy1, hy2⟩ := info_parts info_face
  have HK := Lib.hid hK
  have HKV := Lib.hid hKV
  have HCF := Lib.hid hCF
  have HEE := Lib.hid hE
  have HL0 := Lib.hid hl
  have HLL := Lib.hid hLL
  clear hK hKV hCF hE hl hLL
  have HI := Lib.hid (chF_inb (inb_of h0) HLL.out)
  have HV0 := Lib.hid hv
  have HF0 := Lib.hid hf
  clear hv hf h0
  go_enter Try.func14, Try.ntmps14
  go_wp2_with (fail)
  refine (cloneV_any av nv cv V _ (HV0.out.kept (by repeat (first | exact Below.refl _ _ | assumption | refine Below.drew ?_ | refine bdrewN ?_ _ | refine Below.setCell ?_ (by first | omega | (simp <;> omega)) _ | refine Below.alloc ?_ (by first | omega | (simp <;> omega)) _))) hnv).mono ?_
  rintro e w1 ⟨a1, c1, rfl, ho1, hb1⟩
  have z1 : w.heap.size + 1 + 1 ≤ w1.heap.size := by have := hb1.size; simpa using this
  have B1 : Below w.heap.size w w1 := Below.trans (by repeat (first | exact Below.refl _ _ | assumption | refine Below.drew ?_ | refine bdrewN ?_ _ | refine Below.setCell ?_ (by first | omega | (simp <;> omega)) _ | refine Below.alloc ?_ (by first | omega | (simp <;> omega)) _)) (hb1.mono (by simp <;> omega))
  have lm1 : w.heap.size < w1.heap.size := by omega
  have lr1 : w.heap.size + 1 < w1.heap.size := by omega
  have hm : w1.heap[w.heap.size]? = some (.cells #[.slice av nv cv, .slice af nf cf] 29 (0, 0)) := heap_keep hb1 (by repeat (first | (refine heap_new ?_; first | rfl | (simp; done)) | rw [Below.heap_setCell _ _ _ _ (by simp <;> omega)] | rw [Below.heap_alloc _ _ _ (by simp <;> omega)]))
  have HR := Lib.hid (show w1.heap[w.heap.size + 1]? = some (.cells #[.slice none 0 0, .slice none 0 0] 29 (0, 0)) from heap_keep hb1 (by repeat (first | (refine heap_new ?_; first | rfl | (simp; done)) | rw [Below.heap_setCell _ _ _ _ (by simp <;> omega)] | rw [Below.heap_alloc _ _ _ (by simp <;> omega)])))
  have m1 : w1.cell? ⟨w.heap.size, 1, none⟩ = some (.slice af nf cf) := cell_of hm rfl
  have HO1 := Lib.hid (own_base ho1 (base' := w.heap.size) (by simp <;> omega))
  have HB := Lib.hid B1
  have HF1 := Lib.hid (HF0.out.kept B1)
  have HL1 := Lib.hid (HL0.out.kept B1)
  clear hb1 B1 ho1 hm HV0 HF0 HL0
  go_wp2_with (fail)
  go_loopw [15] (fun i wr => ∃ k : Nat, k ≤ n ∧ i = .int .i64 k ∧ (∃ a2 c2, wr.heap[w1.heap.size]? = some (.cells #[.slice a1 nv c1, .slice a2 k c2] 29 (0, 0)) ∧ wr.ownsRow w1.heap.size 52 3 (.slice a2 k c2) k (cells3 (chF F L) k)) ∧ Below w1.heap.size w1 wr) (fun i _ => n - (intOf i).toNat)
  case atStart => exact ⟨0, by omega, rfl, ⟨none, 0, (by repeat (first | (refine heap_new ?_; first | rfl | (simp; done)) | rw [Below.heap_setCell _ _ _ _ (by simp <;> omega)] | rw [Below.heap_alloc _ _ _ (by simp <;> omega)])), World.ownsRow_nil _ _ _ _⟩, (by repeat (first | exact Below.refl _ _ | assumption | refine Below.drew ?_ | refine bdrewN ?_ _ | refine Below.setCell ?_ (by first | omega | (simp <;> omega)) _ | refine Below.alloc ?_ (by first | omega | (simp <;> omega)) _))⟩
  case round =>
    obtain ⟨k, hk, rfl, ⟨a2, c2, hq, hrow⟩, hbel⟩ := hrel
    have hsz := hbel.size
    have HQ := Lib.hid hq
    have HW := Lib.hid hrow
    have HBL := Lib.hid hbel
    have lq := lt_of_heap hq
    clear hbel
    have oc0 : wr.cell? ⟨w1.heap.size, 0, none⟩ = some (.slice a1 nv c1) := (by simp [World.cell?, hq]); have of0 : wr.frozen? ⟨w1.heap.size, 0, none⟩ = false := (by simp [World.frozen?, hq]); have oc1 : wr.cell? ⟨w1.heap.size, 1, none⟩ = some (.slice a2 k c2) := (by simp [World.cell?, hq]); have of1 : wr.frozen? ⟨w1.heap.size, 1, none⟩ = false := (by simp [World.frozen?, hq])
    clear hq hrow
    by_cases hlt : k < n
    · rcases HL1.out with h | ⟨bl, ol, rfl, hbl, hLc⟩
      · omega
      have lc := cellk HBL.out hbl (hLc k hlt)
      have hblw : bl < wr.heap.size := by omega
      obtain ⟨x0, x1⟩ := HLL.out k hlt
      obtain ⟨j, hj⟩ := Int.eq_ofNat_of_zero_le x0
      rw [hj] at lc x1
      rcases HF1.out with h | ⟨bf, of, rfl, hbf, hF⟩
      · omega
      obtain ⟨c0, c1', c2'⟩ := (hF.kept HBL.out hbf) j (by omega)
      have hbw : bf < wr.heap.size := by omega
      have HE : Hid (chF F L k = F j) := Lib.hid (by simp [chF, hj])
      have j0 : (0 : Int) ≤ (j : Int) := by omega
      have m1r := cellk HBL.out lm1 m1
      clear hF hLc hj x0
      go_wp2_with (fail)
      go_region_law (first
        | (refine step_append_lies _ (by rfl) _ _ 27 (by rfl) w1.heap.size 52 i1 (.agg #[.int .i64 0, .int .i64 0, .int .i64 0]) 3 24 Try.underlying27 hi1 hy0 hy1 hy2 rfl (by decide) (.slice a2 k c2) k (cells3 (chF F L) k) (by rfl) ((HW.out.alloc _).drew) ⟨wr.heap.size, 0, none⟩ 1 1 [.int .i64 (F j).x, .int .i64 (F j).y, .int .i64 (F j).z] (by rfl) (by rfl) (World.news_of_block (cs := #[.int .i64 (F j).x, .int .i64 (F j).y, .int .i64 (F j).z]) (t := 52) (fr := (0, 0)) (heap_alloc_new wr _)) (by simp [Value.oneCell']) (by omega) (by unfold maxLen; omega) (by omega) (by simp; omega) (wr.heap.size + 1) (by simp) ?_; intro g cap' w6 hown6 hgrow hat hlt6; have hq6 := grow_keep hgrow ((Below.heap_alloc wr _ _ lq).trans HQ.out) (own_ne HW.out HQ.out (by decide)); have tc0 : w6.cell? ⟨w1.heap.size, 0, none⟩ = some (.slice a1 nv c1) := (by simp [World.cell?, hq6]); have tf0 : w6.frozen? ⟨w1.heap.size, 0, none⟩ = false := (by simp [World.frozen?, hq6]); have tc1 : w6.cell? ⟨w1.heap.size, 1, none⟩ = some (.slice a2 k c2) := (by simp [World.cell?, hq6]); have tf1 : w6.frozen? ⟨w1.heap.size, 1, none⟩ = false := (by simp [World.frozen?, hq6]); have HQ6 := Lib.hid hq6; have HO6 := Lib.hid hown6; have HG6 := Lib.hid hgrow; clear hq6 hown6 hgrow hat))
      all_goals
        have M6 := Lib.hid (((((HBL.out.alloc hsz (.cells #[.int .i64 (F j).x, .int .i64 (F j).y, .int .i64 (F j).z] 52)).drew).grown HG6.out (by simp; omega) (fun b hb => (HW.out.lt b hb).1))).setCell (p := ⟨w1.heap.size, 1, none⟩) (by show _ ≤ w1.heap.size; omega) (.slice (some ⟨g, 0, none⟩) (k + 1) cap'))
        go_wp2
        go_roundw
        case rel => exact ⟨k + 1, by omega, by go_num, ⟨_, _, set2_1 HQ6.out, by simp only [cells3, HE.out]; exact own_set HO6.out HQ6.out (by decide)⟩, M6.out⟩
        case measure => simp [intOf]; omega
    · obtain rfl : n = k := by omega
      have RV := Lib.hid (own_row3 (ownsRow_below HO1.out HBL.out))
      have RF := Lib.hid (own_row3 HW.out)
      have B5 := Lib.hid (HB.out.trans (HBL.out.mono HB.out.size))
      have HR5 := Lib.hid (heap_keep HBL.out HR.out)
      have hs5 : w.heap.size ≤ wr.heap.size := B5.out.size
      clear m1
      go_wp2_with (fail)
      refine (used_any a1 a2 nv c1 n c2 V (chF F L) wr RV.out RF.out hnv hn HI.out).mono ?_
      rintro e w2 ⟨a3, c3', a4, c4, rfl, ho2, ho3, hb2⟩
      rw [HK.out, HKV.out] at ho2
      rw [HCF.out] at ho3
      have hkn : kn ≤ 1000000 := by rw [← HK.out]; have := cnt_le (useB (chF F L) n) nv; omega
      have HO2 := Lib.hid ho2
      have HO3 := Lib.hid ho3
      have HB2 := Lib.hid hb2
      have HR2 := Lib.hid (heap_keep hb2 HR5.out)
      rw [HK.out]
      clear ho2 ho3 hb2 oc0 oc1 of0 of1
      go_wp2_with (fail)
      refine (right_any a3 a4 kn c3' n c4 kv kf _ (own_row3 HO2.out) (own_row3 HO3.out) hkn hn).mono ?_
      rintro e w3 ⟨rfl, hb3⟩
      have hr := heap_keep hb3 HR2.out
      have hlr := lt_of_heap hr
      have rc0 : w3.cell? ⟨w.heap.size + 1, 0, none⟩ = some (.slice none 0 0) := (by simp [World.cell?, hr]); have rf0 : w3.frozen? ⟨w.heap.size + 1, 0, none⟩ = false := (by simp [World.frozen?, hr]); have rc1 : w3.cell? ⟨w.heap.size + 1, 1, none⟩ = some (.slice none 0 0) := (by simp [World.cell?, hr]); have rf1 : w3.frozen? ⟨w.heap.size + 1, 1, none⟩ = false := (by simp [World.frozen?, hr])
      have HR7 := Lib.hid hr
      rw [HEE.out]
      have R := Lib.hid (((B5.out.trans (HB2.out.mono B5.out.size)).trans (hb3.mono (Nat.le_trans B5.out.size HB2.out.size))).setCell (p := ⟨w.heap.size + 1, 0, none⟩) (by show _ ≤ w.heap.size + 1; omega) (.slice (za E a3) (zr E kn) (zr E c3')) |>.setCell (p := ⟨w.heap.size + 1, 1, none⟩) (by show _ ≤ w.heap.size + 1; omega) (.slice (za E a4) (zr E n) (zr E c4)))
      have P1 := Lib.hid (own_set (o := 1) (u := .slice (za E a4) (zr E n) (zr E c4)) (own_set (o := 0) (u := .slice (za E a3) (zr E kn) (zr E c3')) (ownsRow_below HO2.out hb3) HR7.out (by decide)) (set2_0 HR7.out) (by decide))
      have P2 := Lib.hid (own_set (o := 1) (u := .slice (za E a4) (zr E n) (zr E c4)) (own_set (o := 0) (u := .slice (za E a3) (zr E kn) (zr E c3')) (ownsRow_below HO3.out hb3) HR7.out (by decide)) (set2_0 HR7.out) (by decide))
      clear hr hb3
      go_wp2
      exact bodyPost_ret (v := .tuple #[.agg #[.slice (za E a3) (zr E kn) (zr E c3'), .slice (za E a4) (zr E n) (zr E c4)], .int .i64 E]) (by simp [results, Try.results14, go_sem, rc0, rc1]) rfl (meshR_of P1.out P2.out (by omega) (by omega) R.out)
end Go.Proofs.Ytpgpjoghfpfhlaa

/- compacted: the faces, and of the vertices those that they have. -/
import Derived.Test.YtpgpjoghfpfhlaaCo
set_option linter.unusedSimpArgs false
set_option linter.unusedVariables false
namespace Go.Proofs.Ytpgpjoghfpfhlaa
open Go.RowKit

/-- The faces' corners are vertices. -/
def Inb (nv nf : Nat) (F : Nat → V3) : Prop := ∀ k, k < nf → ((0 ≤ (F k).x ∧ (F k).x < nv) ∧ (0 ≤ (F k).y ∧ (F k).y < nv) ∧ 0 ≤ (F k).z ∧ (F k).z < nv)
/-- The place of a vertex among those that are kept. -/
def place (U : Nat → Bool) (z : Int) : Int := (cnt U z.toNat : Int)
/-- The places after k vertices. -/
def plc (U : Nat → Bool) (k t : Nat) : Int := if t < k ∧ U t = true then (cnt U t : Int) else 0
theorem plc_yes {U : Nat → Bool} {k n : Nat} (h : U k = true) : nvs (fun t => if t = k then (cnt U k : Int) else plc U k t) n = nvs (plc U (k + 1)) n := nvs_ext fun t _ => by
  unfold plc
  by_cases e : t = k
  · subst e; simp [h]
  · rw [if_neg e]
    by_cases h2 : t < k ∧ U t = true
    · rw [if_pos h2, if_pos ⟨by omega, h2.2⟩]
    · rw [if_neg h2, if_neg (fun h3 => h2 ⟨by omega, h3.2⟩)]
theorem plc_no {U : Nat → Bool} {k n : Nat} (h : U k = false) : nvs (plc U k) n = nvs (plc U (k + 1)) n := nvs_ext fun t _ => by
  unfold plc
  by_cases h2 : t < k ∧ U t = true
  · rw [if_pos h2, if_pos ⟨by omega, h2.2⟩]
  · rw [if_neg h2, if_neg (fun h3 => h2 ⟨by
      rcases Nat.lt_or_ge t k with h4 | h4
      · exact h4
      · exfalso
        have : t = k := by omega
        rw [this, h] at h3
        exact absurd h3.2 (by simp), h3.2⟩)]

theorem useB_mem (F : Nat → V3) (nf k : Nat) (hk : k < nf) (h : 0 ≤ (F k).x ∧ 0 ≤ (F k).y ∧ 0 ≤ (F k).z) : useB F nf (F k).x.toNat = true ∧ useB F nf (F k).y.toNat = true ∧ useB F nf (F k).z.toNat = true := by
  have e : ∀ z : Int, 0 ≤ z → (z == ((z.toNat : Nat) : Int)) = true := fun z hz => by simp; omega
  refine ⟨?_, ?_, ?_⟩
  all_goals
    unfold useB
    rw [List.any_eq_true]
    refine ⟨k, by simpa using hk, ?_⟩
    simp only [e _ h.1, e _ h.2.1, e _ h.2.2, Bool.or_true, Bool.true_or]

set_option maxRecDepth 100000 in
set_option maxHeartbeats 8000000 in
theorem compacted_any (av af : Option Addr) (nv cv nf cf : Nat) (V F : Nat → V3) (w : World) (hv : Row3 w av nv V) (hf : Row3 w af nf F) (hnv : nv ≤ 1000000) (hnf : nf ≤ 1000000) (hI : Inb nv nf F) :
    Calls Try.prog 38 #[.slice av nv cv, .slice af nf cf] w (MeshP w (cnt (useB F nf) nv) (keepV (useB F nf) V nv) nf (fun i => rnf (place (useB F nf)) (F i))) := by
  obtain ⟨i0, hi0, hz0, hz1, hz2⟩ := info_parts info_vec
  have HV := Lib.hid hv
  have HF := Lib.hid hf
  have HI := Lib.hid hI
  clear hv hf hI
  have hmkb := fun w => mk_bools nv hnv w
  go_enter Try.func38, Try.ntmps38
  go_wp2_with (fail)
  go_loopw [17] (fun i wr => ∃ k : Nat, k ≤ nf ∧ i = .int .i64 k ∧ wr.heap[w.heap.size]? = some (.cells #[.slice none 0 0, .slice none 0 0] 29 (0, 0)) ∧ wr.heap[w.heap.size + 1]? = some (.cells (bvs (useB F k) nv) 4 (0, 0)) ∧ Below w.heap.size w wr) (fun i _ => nf - (intOf i).toNat)
  case atStart => exact ⟨0, by omega, rfl, (Below.heap_alloc _ _ _ (by simp)).trans (heap_alloc_new w _), heap_new (by simp), (by repeat (first | exact Below.refl _ _ | assumption | refine Below.drew ?_ | refine bdrewN ?_ _ | refine Below.setCell ?_ (by first | omega | (simp <;> omega)) _ | refine Below.alloc ?_ (by first | omega | (simp <;> omega)) _))⟩
  case round =>
    obtain ⟨k, hk, rfl, hr, hu, hbel⟩ := hrel
    have hsz := hbel.size
    have hlr := lt_of_heap hr
    have hlu := lt_of_heap hu
    have HR := Lib.hid hr
    have HU := Lib.hid hu
    have HB := Lib.hid hbel
    clear hmkb
    by_cases hlt : k < nf
    · rcases HF.out with h | ⟨bf, of, rfl, hbf, hF⟩
      · omega
      obtain ⟨c0, c1, c2⟩ := (hF.kept hbel hbf) k hlt
      have hbw : bf < wr.heap.size := by omega
      obtain ⟨⟨x0, x1⟩, ⟨y0, y1⟩, z0, z1⟩ := HI.out k hlt
      obtain ⟨i, hi⟩ := Int.eq_ofNat_of_zero_le x0
      obtain ⟨j, hj⟩ := Int.eq_ofNat_of_zero_le y0
      obtain ⟨l, hl⟩ := Int.eq_ofNat_of_zero_le z0
      have HX : Hid (∀ t, useB F (k + 1) t = (((useB F k t || t == i) || t == j) || t == l)) := Lib.hid (fun t => by
        rw [useB_succ, hi, hj, hl]
        have e : ∀ a : Nat, ((a : Int) == (t : Int)) = (t == a) := fun a => by
          rw [Bool.eq_iff_iff]; simp; omega
        rw [e, e, e, Bool.or_assoc, Bool.or_assoc])
      rw [hi] at c0
      rw [hj] at c1
      rw [hl] at c2
      have i1 : i < nv := by omega
      have j1 : j < nv := by omega
      have l1 : l < nv := by omega
      have b1 : (i : Int) < (nv : Int) := by omega
      have b2 : (j : Int) < (nv : Int) := by omega
      have b3 : (l : Int) < (nv : Int) := by omega
      have b4 : (0 : Int) ≤ (i : Int) := by omega
      have b5 : (0 : Int) ≤ (j : Int) := by omega
      have b6 : (0 : Int) ≤ (l : Int) := by omega
      clear hF hbel hr hu hi hj hl x0 x1 y0 y1 z0 z1
      go_wp2_with (fail)
      have HU2 : Hid ((wr.alloc (.cells #[.int .i64 i, .int .i64 j, .int .i64 l] 52)).heap[w.heap.size + 1]? = some (.cells (bvs (useB F k) nv) 4 (0, 0))) := Lib.hid ((Below.heap_alloc wr _ _ hlu).trans HU.out)
      have HR2 : Hid ((wr.alloc (.cells #[.int .i64 i, .int .i64 j, .int .i64 l] 52)).heap[w.heap.size]? = some (.cells #[.slice none 0 0, .slice none 0 0] 29 (0, 0))) := Lib.hid ((Below.heap_alloc wr _ _ hlr).trans HR.out)
      have HB2 : Hid (Below w.heap.size w (wr.alloc (.cells #[.int .i64 i, .int .i64 j, .int .i64 l] 52))) := Lib.hid (HB.out.alloc hsz _)
      have d0 : (wr.alloc (.cells #[.int .i64 i, .int .i64 j, .int .i64 l] 52)).cell? ⟨wr.heap.size, 0, none⟩ = some (.int .i64 i) := by simp [go_sem]
      have d1 : (wr.alloc (.cells #[.int .i64 i, .int .i64 j, .int .i64 l] 52)).cell? ⟨wr.heap.size, 1, none⟩ = some (.int .i64 j) := by simp [go_sem]
      have d2 : (wr.alloc (.cells #[.int .i64 i, .int .i64 j, .int .i64 l] 52)).cell? ⟨wr.heap.size, 2, none⟩ = some (.int .i64 l) := by simp [go_sem]
      generalize (wr.alloc (.cells #[.int .i64 i, .int .i64 j, .int .i64 l] 52)) = w2 at *
      have ui := cell_of HU2.out (bvs_get _ nv i i1)
      have uj := cell_of HU2.out (bvs_get _ nv j j1)
      have ul := cell_of HU2.out (bvs_get _ nv l l1)
      have fi : w2.frozen? ⟨w.heap.size + 1, i, none⟩ = false := frozen_of HU2.out
      have fj : w2.frozen? ⟨w.heap.size + 1, j, none⟩ = false := frozen_of HU2.out
      have fl : w2.frozen? ⟨w.heap.size + 1, l, none⟩ = false := frozen_of HU2.out
      obtain ⟨v1, hv1⟩ := cell?_setCell_some (w := w2) (p := ⟨w.heap.size + 1, i, none⟩) (x := .bool true) (q := ⟨w.heap.size + 1, j, none⟩) uj
      obtain ⟨v2, hv2⟩ := cell?_setCell_some (w := w2) (p := ⟨w.heap.size + 1, i, none⟩) (x := .bool true) (q := ⟨w.heap.size + 1, l, none⟩) ul
      obtain ⟨v3, hv3⟩ := cell?_setCell_some (w := w2.setCell ⟨w.heap.size + 1, i, none⟩ (.bool true)) (p := ⟨w.heap.size + 1, j, none⟩) (x := .bool true) (q := ⟨w.heap.size + 1, l, none⟩) hv2
      clear c0 c1 c2
      go_region
      all_goals
        have hs3 := heap_set (i := l) (v := .bool true) (heap_set (i := j) (v := .bool true) (heap_set (i := i) (v := .bool true) HU2.out))
        rw [bvs_set, bvs_set, bvs_set, bvs_ext (fun t _ => (HX.out t).symm)] at hs3
        have HS3 := Lib.hid hs3
        have hne : w.heap.size ≠ w.heap.size + 1 := by omega
        have HR3 := Lib.hid ((Below.heap_setCell ((w2.setCell ⟨w.heap.size + 1, i, none⟩ (.bool true)).setCell ⟨w.heap.size + 1, j, none⟩ (.bool true)) ⟨w.heap.size + 1, l, none⟩ (.bool true) w.heap.size hne).trans ((Below.heap_setCell (w2.setCell ⟨w.heap.size + 1, i, none⟩ (.bool true)) ⟨w.heap.size + 1, j, none⟩ (.bool true) w.heap.size hne).trans ((Below.heap_setCell w2 ⟨w.heap.size + 1, i, none⟩ (.bool true) w.heap.size hne).trans HR2.out)))
        have HB3 := Lib.hid (((HB2.out.setCell (p := ⟨w.heap.size + 1, i, none⟩) (by show _ ≤ w.heap.size + 1; omega) (.bool true)).setCell (p := ⟨w.heap.size + 1, j, none⟩) (by show _ ≤ w.heap.size + 1; omega) (.bool true)).setCell (p := ⟨w.heap.size + 1, l, none⟩) (by show _ ≤ w.heap.size + 1; omega) (.bool true)).drew
        clear hs3
        go_wp2
        go_roundw
        case rel => exact ⟨k + 1, by omega, by go_num, HR3.out, HS3.out, HB3.out⟩
        case measure => simp [intOf]; omega
    · obtain rfl : nf = k := by omega
      have hmki := fun w => mk_ints nv hnv w
      generalize hU : useB F nf = U at *
      have HUU := Lib.hid hU
      clear hU hr hu hbel
      obtain ⟨w1, hw1⟩ : ∃ w1 : World, w1 = wr := ⟨_, rfl⟩
      subst hw1
      go_wp2_with (fail)
      have hK0 : ((w1.alloc (.cells (nvs (fun _ => 0) nv) 3)).alloc (.cells #[.slice (some ⟨w1.heap.size, 0, none⟩) nv nv] 22)).heap[w1.heap.size]? = some (.cells (nvs (plc U 0) nv) 3 (0, 0)) := by
        rw [nvs_ext (V := fun _ => 0) (fun t _ => by simp [plc])]
        exact (Below.heap_alloc _ _ _ (by simp)).trans (heap_alloc_new w1 _)
      have hK1 : ((w1.alloc (.cells (nvs (fun _ => 0) nv) 3)).alloc (.cells #[.slice (some ⟨w1.heap.size, 0, none⟩) nv nv] 22)).heap[w1.heap.size + 1]? = some (.cells #[.slice (some ⟨w1.heap.size, 0, none⟩) nv nv] 22 (0, 0)) := heap_new (by simp)
      go_loopw [9, 39] (fun v i wr => ∃ k : Nat, k ≤ nv ∧ i = .int .i64 k ∧ wr.ownsRow w1.heap.size 47 3 v (cnt U k) (cells3 (keepV U V k) (cnt U k)) ∧ wr.heap[w1.heap.size]? = some (.cells (nvs (plc U k) nv) 3 (0, 0)) ∧ wr.heap[w1.heap.size + 1]? = some (.cells #[.slice (some ⟨w1.heap.size, 0, none⟩) nv nv] 22 (0, 0)) ∧ Below w1.heap.size w1 wr) (fun _ i _ => nv - (intOf i).toNat)
      case atStart => exact ⟨0, by omega, rfl, World.ownsRow_nil _ _ _ _, hK0, hK1, (by repeat (first | exact Below.refl _ _ | assumption | refine Below.drew ?_ | refine bdrewN ?_ _ | refine Below.setCell ?_ (by first | omega | (simp <;> omega)) _ | refine Below.alloc ?_ (by first | omega | (simp <;> omega)) _))⟩
      case round =>
        obtain ⟨k, hk, rfl, hown, hp, hq, hbel⟩ := hrel
        clear hK0 hK1 hmki
        have hsz2 := hbel.size
        obtain ⟨ao, co, rfl⟩ := own_slice' hown
        have hcl := cnt_le U k
        have HO := Lib.hid hown
        have HP := Lib.hid hp
        have HQ := Lib.hid hq
        have HBL := Lib.hid hbel
        have HBW := Lib.hid (HB.out.trans (hbel.mono hsz))
        have hlp := lt_of_heap hp
        have hlq := lt_of_heap hq
        have q0 : wr.cell? ⟨w1.heap.size + 1, 0, none⟩ = some (.slice (some ⟨w1.heap.size, 0, none⟩) nv nv) := cell_of hq rfl
        have hu1 := (hbel.block (w.heap.size + 1) hlu).trans HU.out
        have HU1 := Lib.hid hu1
        have hlu1 : w.heap.size + 1 < wr.heap.size := by omega
        clear hown hp hq hbel
        by_cases hlt : k < nv
        · rcases HV.out with h | ⟨bf, of, rfl, hbf, hF⟩
          · omega
          obtain ⟨c0, c1, c2⟩ := (hF.kept HBW.out hbf) k hlt
          have hbw : bf < wr.heap.size := by have := HBW.out.size; omega
          have b1 : (k : Int) < (nv : Int) := by omega
          have uk := cell_of hu1 (bvs_get U nv k hlt)
          have pk := cell_of HP.out (nvs_get (plc U k) nv k hlt)
          have fk : wr.frozen? ⟨w1.heap.size, k, none⟩ = false := frozen_of HP.out
          clear hF hu1
          rcases hUk : U k with _ | _
          · have HK := Lib.hid hUk
            rw [hUk] at uk
            clear hUk
            go_wp2
            go_roundw
            case rel => exact ⟨k + 1, by omega, by go_num, by rw [keep_no HK.out, show cnt U (k + 1) = cnt U k by simp [cnt, HK.out]]; exact HO.out.alloc _, by rw [← plc_no HK.out]; exact (Below.heap_alloc wr _ _ hlp).trans HP.out, (Below.heap_alloc wr _ _ hlq).trans HQ.out, HBL.out.alloc hsz2 _⟩
            case measure => simp [intOf]; omega
          · have HK := Lib.hid hUk
            rw [hUk] at uk
            clear hUk
            have O2 := Lib.hid (own_set (o := k) (u := .int .i64 (cnt U k : Int)) HO.out HP.out (by decide))
            have P2 := Lib.hid (heap_set (i := k) (v := .int .i64 (cnt U k : Int)) HP.out)
            have Q2 := Lib.hid ((Below.heap_setCell wr ⟨w1.heap.size, k, none⟩ (.int .i64 (cnt U k : Int)) (w1.heap.size + 1) (by simp)).trans HQ.out)
            have B2 := Lib.hid (HBL.out.setCell (p := ⟨w1.heap.size, k, none⟩) (Nat.le_refl _) (.int .i64 (cnt U k : Int)))
            have hne := own_ne HO.out HP.out (by decide)
            have hne2 := own_ne HO.out HQ.out (by decide)
            have hz2' : (wr.setCell ⟨w1.heap.size, k, none⟩ (.int .i64 (cnt U k : Int))).heap.size = wr.heap.size := by simp [World.setCell]
            go_wp2_with (at_builtin; refine wpList_append_lies _ rfl _ _ 26 rfl w1.heap.size 47 i0 (.agg #[.int .i64 0, .int .i64 0, .int .i64 0]) 3 24 Try.underlying26 hi0 hz0 hz1 hz2 rfl (by decide) _ _ _ rfl ((O2.out.alloc _).alloc _) ⟨wr.heap.size + 1, 0, none⟩ 1 1 [.int .i64 (V k).x, .int .i64 (V k).y, .int .i64 (V k).z] rfl rfl (World.news_of_block (cs := #[.int .i64 (V k).x, .int .i64 (V k).y, .int .i64 (V k).z]) (t := 47) (fr := (0, 0)) (heap_new (by simp))) (by simp [Value.oneCell']) (by omega) (by unfold maxLen; omega) (by omega) (by simp; omega) (wr.heap.size + 1 + 1) (by simp) ?_; intro g cap' w4 hown4 hgrow hat hlt4; have HO4 := Lib.hid hown4; have HG4 := Lib.hid hgrow; clear hown4 hgrow hat)
            have P4 := grow_keep HG4.out ((Below.heap_alloc _ _ _ (by simp; omega)).trans ((Below.heap_alloc _ _ _ (by omega)).trans P2.out)) hne
            have Q4 := grow_keep HG4.out ((Below.heap_alloc _ _ _ (by simp; omega)).trans ((Below.heap_alloc _ _ _ (by omega)).trans Q2.out)) hne2
            rw [nvs_set, plc_yes HK.out] at P4
            have HP4 := Lib.hid P4
            have HQ4 := Lib.hid Q4
            have HB4 := Lib.hid (Below.grown (Below.alloc (Below.alloc B2.out (by omega) _) (by simp; omega) _) HG4.out (by simp; omega) (fun b hb => (HO.out.lt b hb).1))
            clear P4 Q4
            go_roundw
            case rel => exact ⟨k + 1, by omega, by go_num, by rw [keep_yes HK.out, show cnt U (k + 1) = cnt U k + 1 by simp [cnt, HK.out]]; exact HO4.out, HP4.out, HQ4.out, HB4.out⟩
            case measure => simp [intOf]; omega
        · obtain rfl : nv = k := by omega
          have hr1 := (HBL.out.block w.heap.size (by omega)).trans HR.out
          have HR1 := Lib.hid hr1
          have HE : Hid (cells3 (fun i => rnf (fun z => plc U nv z.toNat) (F i)) nf = cells3 (fun i => rnf (place U) (F i)) nf) := Lib.hid (cells3_ext0 fun i hi => by
            obtain ⟨⟨x0, x1⟩, ⟨y0, y1⟩, z0, z1⟩ := HI.out i hi
            obtain ⟨u1, u2, u3⟩ := useB_mem F nf i hi ⟨x0, y0, z0⟩
            rw [HUU.out] at u1 u2 u3
            have e : ∀ z : Int, 0 ≤ z → z < nv → U z.toNat = true → plc U nv z.toNat = place U z := fun z h0 h1 h2 => by
              unfold plc place
              rw [if_pos ⟨by omega, h2⟩]
            simp only [rnf, e _ x0 x1 u1, e _ y0 y1 u2, e _ z0 z1 u3])
          clear hu1 hr1
          go_wp2_with (fail)
          refine (renum_C (w1.heap.size + 1) (fun z => plc U nv z.toNat) af nf cf F wr (HF.out.kept HBW.out) hnf (fun W hb t ht u hu => comp1_any (w1.heap.size + 1) w1.heap.size nv nv (plc U nv) u W (cellk hb hlq q0) (heap_keep hb HP.out) (by
            obtain ⟨⟨x0, x1⟩, ⟨y0, y1⟩, z0, z1⟩ := HI.out t ht
            rcases hu with rfl | rfl | rfl <;> exact ⟨by assumption, by assumption⟩) hnv)).mono ?_
          rintro e w5 ⟨a5, c5, rfl, ho5, hb5⟩
          rw [HE.out] at ho5
          have HB5 := Lib.hid hb5
          have HO5 := Lib.hid ho5
          have hr5 := heap_keep hb5 HR1.out
          have HR5 := Lib.hid hr5
          have rc0 : w5.cell? ⟨w.heap.size, 0, none⟩ = some (.slice none 0 0) := (by simp [World.cell?, hr5]); have rf0 : w5.frozen? ⟨w.heap.size, 0, none⟩ = false := (by simp [World.frozen?, hr5]); have rc1 : w5.cell? ⟨w.heap.size, 1, none⟩ = some (.slice none 0 0) := (by simp [World.cell?, hr5]); have rf1 : w5.frozen? ⟨w.heap.size, 1, none⟩ = false := (by simp [World.frozen?, hr5])
          clear hr5 hb5 ho5
          have O1 := own_set (o := 1) (u := .slice a5 nf c5) (own_set (o := 0) (u := .slice ao (cnt U nv) co) (ownsRow_below HO.out HB5.out) HR5.out (by decide)) (set2_0 HR5.out) (by decide)
          have O2 := own_set (o := 1) (u := .slice a5 nf c5) (own_set (o := 0) (u := .slice ao (cnt U nv) co) HO5.out HR5.out (by decide)) (set2_0 HR5.out) (by decide)
          have R := Lib.hid ((HBW.out.trans (HB5.out.mono HBW.out.size)).setCell (p := ⟨w.heap.size, 0, none⟩) (Nat.le_refl _) (.slice ao (cnt U nv) co) |>.setCell (p := ⟨w.heap.size, 1, none⟩) (Nat.le_refl _) (.slice a5 nf c5))
          have P1 := Lib.hid (own_base O1 (show w.heap.size ≤ w1.heap.size by omega))
          have P2 := Lib.hid (own_base O2 (show w.heap.size ≤ wr.heap.size by have := HBW.out.size; omega))
          clear O1 O2
          go_wp2
          exact bodyPost_ret (v := .agg #[.slice ao (cnt U nv) co, .slice a5 nf c5]) (by simp [results, Try.results38, go_sem, rc0, rc1]) rfl ⟨ao, co, a5, c5, by rw [HUU.out], by rw [HUU.out]; exact P1.out, by rw [HUU.out]; exact P2.out, R.out⟩
end Go.Proofs.Ytpgpjoghfpfhlaa

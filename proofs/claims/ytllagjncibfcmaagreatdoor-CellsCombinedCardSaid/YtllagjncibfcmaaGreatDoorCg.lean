/- The set of covered cells, walked. -/
import Derived.Test.YtllagjncibfcmaaGreatDoorCf
import Derived.Lib.OthersKept
import Derived.StillTailTactics
import Derived.Laws.RangeString
import Derived.Laws.RangeAny
import Derived.WalkSmall
set_option linter.unusedSimpArgs false
set_option linter.unusedVariables false
namespace Go.Proofs.YtllagjncibfcmaaGreatDoor
open Go.RowKit Go.Maps

theorem iterAt_below {B : Nat} {a w : World} (h : Below B a w) {k : Nat} (hk : B ≤ k) (s : ByteArray) (p : Nat) : Below B a (w.iterAt k s p) :=
  ⟨h.os, h.tape, h.output, by simpa [World.iterAt] using h.size, fun i hi => by
    have : (w.iterAt k s p).heap[i]? = w.heap[i]? := by simp [World.iterAt, Array.getElem?_setIfInBounds]; omega
    exact this.trans (h.block i hi)⟩
theorem own_iterAt {w : World} {k b nn : Nat} {D : DataW Unit} {kt et : TypeId} {s : ByteArray} {p q : Nat} (h : w.ownsMap Tryz.prog kt (plainElem Tryz.prog et) b nn D) (hk : w.heap[k]? = some (.stringIter s p)) : (w.iterAt k s q).ownsMap Tryz.prog kt (plainElem Tryz.prog et) b nn D := by
  obtain ⟨es, clock, hb, F, hs, hD⟩ := h
  have hne : k ≠ b := fun e => by subst e; rw [hk] at hb; cases hb
  exact ⟨es, clock, by simp [World.iterAt, Array.getElem?_setIfInBounds, hne]; exact hb, F, hs, hD⟩
theorem grown_iter {w w' : World} {k b : Nat} {s : ByteArray} {p : Nat} (hg : w.grownBy w' (some b)) (hk : w.heap[k]? = some (.stringIter s p)) (hne : k ≠ b) : w'.heap[k]? = some (.stringIter s p) :=
  (hg.block k (Array.getElem?_eq_some_iff.1 hk).1 (fun e => hne (by cases e; rfl))).trans hk
/-- What setOf leaves. -/
def SetE (w : World) (l : List (Int × Int)) (m : Nat) (e : Ending) (w' : World) : Prop :=
  ∃ bm nn, e = .returned (.map (some bm)) ∧ w.heap.size ≤ bm ∧ nn ≤ m ∧ w'.ownsMap Tryz.prog 72 (plainElem Tryz.prog 4) bm nn (DS l) ∧ Below w.heap.size w w'
set_option maxRecDepth 100000 in
set_option maxHeartbeats 8000000 in
theorem setOf_any (s x y : Int) (b off n c : Nat) (R : Nat → List UInt8) (w : World) (hb : b < w.heap.size) (hs : Sts w b off n R) (hok : ∀ i, i < n → okR (R i) = true) (hl : ∀ i, i < n → (R i).length ≤ 1000) (hn : n ≤ 1000) (h2 : 2 ≤ s) (hx : -2000000 ≤ x ∧ x ≤ 2000000) (hy : -2000000 ≤ y ∧ y ≤ 2000000) (cx cy : Int) (hcx : x.tdiv s = cx) (hcy : y.tdiv s = cy) :
    Calls Tryz.prog 36 #[.agg #[.int .i64 s, .int .i64 x, .int .i64 y, .slice (some ⟨b, off, none⟩) n c]] w (SetE w (setL cx cy R n) 1000000) := by
  have hmm := @run_makeMap Tryz.prog
  have bx : -2000000 ≤ cx ∧ cx ≤ 2000000 := by
    have h := Int.natAbs_tdiv_le_natAbs x s
    rw [hcx] at h; omega
  have by_ : -2000000 ≤ cy ∧ cy ≤ 2000000 := by
    have h := Int.natAbs_tdiv_le_natAbs y s
    rw [hcy] at h; omega
  have s0 : ¬ s = 0 := by omega
  have HS := Lib.hid hs
  have HL := Lib.hid hl
  have HK := Lib.hid hok
  clear hs hl hok
  go_enter Tryz.func36, Tryz.ntmps36
  go_wp2_with (fail)
  have q0 : ((w.alloc (.cells #[.int .i64 s, .int .i64 x, .int .i64 y, .slice (some ⟨b, off, none⟩) n c] 28)).alloc (.map #[] 0)).cell? ⟨w.heap.size, 0, none⟩ = some (.int .i64 s) := by simp [go_sem]
  have q1 : ((w.alloc (.cells #[.int .i64 s, .int .i64 x, .int .i64 y, .slice (some ⟨b, off, none⟩) n c] 28)).alloc (.map #[] 0)).cell? ⟨w.heap.size, 1, none⟩ = some (.int .i64 x) := by simp [go_sem]
  have q2 : ((w.alloc (.cells #[.int .i64 s, .int .i64 x, .int .i64 y, .slice (some ⟨b, off, none⟩) n c] 28)).alloc (.map #[] 0)).cell? ⟨w.heap.size, 2, none⟩ = some (.int .i64 y) := by simp [go_sem]
  have HO : Hid (((w.alloc (.cells #[.int .i64 s, .int .i64 x, .int .i64 y, .slice (some ⟨b, off, none⟩) n c] 28)).alloc (.map #[] 0)).ownsMap Tryz.prog 72 (plainElem Tryz.prog 4) (w.heap.size + 1) (0) (DS ([]))) := Lib.hid (by have h := World.ownsMap_made (w.alloc (.cells #[.int .i64 s, .int .i64 x, .int .i64 y, .slice (some ⟨b, off, none⟩) n c] 28)) Tryz.prog 72 (plainElem (H := Unit) Tryz.prog 4); simp at h; exact h)
  have HW : Hid (Below w.heap.size w ((w.alloc (.cells #[.int .i64 s, .int .i64 x, .int .i64 y, .slice (some ⟨b, off, none⟩) n c] 28)).alloc (.map #[] 0))) := Lib.hid (by repeat (first | exact Below.refl _ _ | assumption | refine Below.drew ?_ | refine bdrewN ?_ _ | refine Below.setCell ?_ (by first | omega | (simp <;> omega)) _ | refine Below.alloc ?_ (by first | omega | (simp <;> omega)) _))
  have hz : ((w.alloc (.cells #[.int .i64 s, .int .i64 x, .int .i64 y, .slice (some ⟨b, off, none⟩) n c] 28)).alloc (.map #[] 0)).heap.size = w.heap.size + 1 + 1 := by simp
  change Code.wp _ _ _ _ ((w.alloc (.cells #[.int .i64 s, .int .i64 x, .int .i64 y, .slice (some ⟨b, off, none⟩) n c] 28)).alloc (.map #[] 0))
  generalize ((w.alloc (.cells #[.int .i64 s, .int .i64 x, .int .i64 y, .slice (some ⟨b, off, none⟩) n c] 28)).alloc (.map #[] 0)) = w0 at *
  have HZ := Lib.hid hz
  clear hz
  go_loopw [11] (fun i wr => ∃ k nn : Nat, k ≤ n ∧ i = .int .i64 k ∧ nn ≤ k * 1000 ∧ wr.ownsMap Tryz.prog 72 (plainElem Tryz.prog 4) (w.heap.size + 1) (nn) (DS (setL cx cy R k)) ∧ Below (w.heap.size + 1) w0 wr) (fun i _ => n - (intOf i).toNat)
  case atStart => exact ⟨0, 0, by omega, rfl, by omega, HO.out, Below.refl _ _⟩
  case round =>
    obtain ⟨k, nn, hk, rfl, hnn, hown, hbel⟩ := hrel
    have hz := HZ.out
    have hsz := hbel.size
    have HO1 := Lib.hid hown
    have hB0 : Below w.heap.size w wr := HW.out.trans (hbel.mono (by omega))
    by_cases hlt : k < n
    · have c0 := (HS.out.kept hB0 hb) k hlt
      have hbw : b < wr.heap.size := by omega
      have lk := HL.out k hlt
      have kk := HK.out k hlt
      have HB := Lib.hid hbel
      obtain ⟨wo, hwo⟩ : ∃ wo : World, wr = wo := ⟨_, rfl⟩
      rw [hwo] at HB HO1 c0 hbw hsz ⊢
      clear hbel hown hB0 hwo hz
      go_wp2_with (fail)
      have hI : (wo.iter ⟨(R k).toArray⟩ 0).heap[wo.heap.size]? = some (.stringIter ⟨(R k).toArray⟩ 0) := by simp [World.iter_heap]
      have HO3 : Hid ((wo.iter ⟨(R k).toArray⟩ 0).ownsMap Tryz.prog 72 (plainElem Tryz.prog 4) (w.heap.size + 1) (nn) (DS (setL cx cy R k))) := Lib.hid (HO1.out.alloc _)
      have HB3 : Hid (Below (w.heap.size + 1) w0 (wo.iter ⟨(R k).toArray⟩ 0)) := Lib.hid (HB.out.alloc (by have := HZ.out; omega) _)
      have bs := bsize (R k)
      go_loopw [6] (fun _ wr => ∃ j mm : Nat, j ≤ (R k).length ∧ wr.heap[wo.heap.size]? = some (.stringIter ⟨(R k).toArray⟩ j) ∧ mm ≤ k * 1000 + j ∧ wr.ownsMap Tryz.prog 72 (plainElem Tryz.prog 4) (w.heap.size + 1) (mm) (DS (setL cx cy R k ++ rowL cx (cy + k) (R k) j)) ∧ Below (w.heap.size + 1) w0 wr) (fun _ wr => (R k).length - wr.iterPos wo.heap.size)
      case atStart => exact ⟨0, nn, by omega, hI, by omega, by simp only [rowL, List.append_nil]; exact HO3.out, HB3.out⟩
      case round =>
        obtain ⟨j, mm, hj, hit, hmm2, hown, hbel⟩ := hrel
        by_cases hlj : j < (R k).length
        · have hjs : j < (⟨(R k).toArray⟩ : ByteArray).size := by omega
          have hbyte : (⟨(R k).toArray⟩ : ByteArray)[j]'hjs = (R k)[j] := by show (R k).toArray[j]'_ = _; simp
          have hb2 : (R k)[j] = 35 ∨ (R k)[j] = 46 := by
            have := List.all_eq_true.1 kk ((R k)[j]) (List.getElem_mem _)
            simpa using this
          have hasc : ((⟨(R k).toArray⟩ : ByteArray)[j]'hjs).toNat < 128 := by rw [hbyte]; rcases hb2 with e | e <;> rw [e] <;> decide
          have hnx := fun ty => Go.Lib.run_next_ascii_at (P := Tryz.prog) wr wo.heap.size ⟨(R k).toArray⟩ j ty hit hjs hasc
          have hit2 := Go.Lib.iterAt_heap wr wo.heap.size ⟨(R k).toArray⟩ j (j + 1) hit
          have HIT := Lib.hid hit2
          have hpos := Go.iterPos_of hit
          have hpos2 := Go.iterPos_of hit2
          have HO4 := Lib.hid (own_iterAt (q := j + 1) hown hit)
          have HB4 := Lib.hid (iterAt_below hbel (k := wo.heap.size) (by have := HZ.out; have := HB.out.size; omega) ⟨(R k).toArray⟩ (j + 1))
          have hgj : (R k)[j]? = some (R k)[j] := List.getElem?_eq_getElem hlj
          have hlw : w.heap.size + 1 ≤ wo.heap.size := by have := HZ.out; have := HB.out.size; omega
          have r0 : (wr.iterAt wo.heap.size ⟨(R k).toArray⟩ (j + 1)).cell? ⟨w.heap.size, 0, none⟩ = some (.int .i64 s) := ((HB4.out.cell (p := ⟨w.heap.size, 0, none⟩) (by show w.heap.size < _; omega)).trans q0)
          have r1 : (wr.iterAt wo.heap.size ⟨(R k).toArray⟩ (j + 1)).cell? ⟨w.heap.size, 1, none⟩ = some (.int .i64 x) := ((HB4.out.cell (p := ⟨w.heap.size, 1, none⟩) (by show w.heap.size < _; omega)).trans q1)
          have r2 : (wr.iterAt wo.heap.size ⟨(R k).toArray⟩ (j + 1)).cell? ⟨w.heap.size, 2, none⟩ = some (.int .i64 y) := ((HB4.out.cell (p := ⟨w.heap.size, 2, none⟩) (by show w.heap.size < _; omega)).trans q2)
          by_cases e35 : (R k)[j] = 35
          · have HRL : Hid (rowL cx (cy + k) (R k) (j + 1) = rowL cx (cy + k) (R k) j ++ [(cx + j, cy + k)]) := Lib.hid (by simp only [rowL]; rw [if_pos (by rw [hgj, e35])])
            have w1 : IntKind.i64.wrap (cx + (j : Int)) = cx + (j : Int) := by rw [IntKind.wrap_i64]; omega
            have w2 : IntKind.i64.wrap (cy + (k : Int)) = cy + (k : Int) := by rw [IntKind.wrap_i64]; omega
            have w3 : IntKind.i64.wrap cx = cx := by rw [IntKind.wrap_i64]; omega
            have w4 : IntKind.i64.wrap cy = cy := by rw [IntKind.wrap_i64]; omega
            have HKY := Lib.hid (key_spot (cx + j) (cy + k) (smx_wf (by unfold smx; omega)) (smx_wf (by unfold smx; omega)))
            go_upto_region 9 with (fail)
            change Code.wp _ _ _ _ (wr.iterAt wo.heap.size ⟨(R k).toArray⟩ (j + 1))
            clear hnx
            generalize (wr.iterAt wo.heap.size ⟨(R k).toArray⟩ (j + 1)) = w5 at *
            refine wp_region_still_tail 16 (by kernel_rfl) (by kernel_rfl) ?_
            simp only [List.take_succ_cons, List.take_zero, List.drop_succ_cons, List.drop_zero]
            still_step; still_step; still_step; still_step; still_step; still_step; still_step; still_step; still_step; still_step; still_step; still_step; still_step; still_step; still_step; still_step
            refine wpStill_nil ?_
            change wpList _ _ _ _ _ w5.drew
            go_wp2_with (at_mapUpdate; refine wpList_mapUpdate_own _ rfl _ _ _ 65 rfl 72 4 spotKeyed Tryz.underlying65 _ (w.heap.size + 1) mm _ rfl HO4.out.drew (by unfold maxLen; omega) _ _ _ rfl rfl HKY.out _ [] (plainElem_bool Tryz.underlying4 true) ?_; intro w6 hown6 hgrow6)
            have R1 := Lib.hid ((HB4.out.drew).grown hgrow6 (by show w.heap.size + 1 ≤ w5.heap.size; have h1 := HB4.out.size; have h2 := HZ.out; omega) (fun q hq => by cases hq; exact Nat.le_refl _))
            have R2 := Lib.hid (grown_iter hgrow6 (show w5.drew.heap[wo.heap.size]? = some (.stringIter ⟨(R k).toArray⟩ (j + 1)) from HIT.out) (by have h1 := HB.out.size; have h2 := HZ.out; omega))
            have HO6 := Lib.hid hown6
            clear hgrow6 hown6
            go_roundw
            case rel =>
              (repeat apply Exists.intro)
              exact ⟨⟨j + 1, mm + 1, by omega, R2.out, by omega, by rw [HRL.out, ← List.append_assoc, ds_snoc]; exact HO6.out, R1.out⟩, rfl⟩
            case measure => rw [Go.iterPos_of R2.out]; rw [hpos]; omega
          · have hne : (((R k)[j].toNat : Int) == 35) = false := by
              rcases hb2 with e | e
              · exact absurd e e35
              · rw [e]; decide
            have HRL : Hid (rowL cx (cy + k) (R k) (j + 1) = rowL cx (cy + k) (R k) j) := Lib.hid (by simp only [rowL]; rw [if_neg (by rw [hgj]; simpa using e35), List.append_nil])
            clear r0 r1 r2
            go_wp2_with (fail)
            go_roundw
            case rel => exact ⟨j + 1, mm, by omega, HIT.out, by omega, by rw [HRL.out]; exact HO4.out, HB4.out⟩
            case measure => rw [hpos2, hpos]; omega
        · obtain rfl : j = (R k).length := by omega
          have hnx := fun ty => Go.Lib.run_next_end_at (P := Tryz.prog) wr wo.heap.size ⟨(R k).toArray⟩ (R k).length ty hit (by omega)
          have HO4 := Lib.hid hown
          have HB4 := Lib.hid hbel
          have lk2 := lk
          clear hown hbel
          go_wp2_with (fail)
          go_roundw
          case rel => exact ⟨k + 1, mm, by omega, by go_num, by omega, by simp only [setL]; exact HO4.out, HB4.out⟩
          case measure => simp [intOf]; omega
    · obtain rfl : n = k := by omega
      have R1 := Lib.hid (HW.out.trans (hbel.mono (by omega)))
      have HO2 := Lib.hid (hown.mono (n' := 1000000) (by omega))
      go_wp2
      go_ret
      exact ⟨_, _, rfl, by omega, Nat.le_refl _, HO2.out, R1.out⟩
end Go.Proofs.YtllagjncibfcmaaGreatDoor

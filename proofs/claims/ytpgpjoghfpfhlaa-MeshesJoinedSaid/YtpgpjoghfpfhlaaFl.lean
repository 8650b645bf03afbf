/- A drawn list of faces. -/
import Derived.Test.YtpgpjoghfpfhlaaOr
set_option linter.unusedSimpArgs false
set_option linter.unusedVariables false
namespace Go.Proofs.Ytpgpjoghfpfhlaa
open Go.RowKit

theorem pick_lit0 (B k : Nat) (l : List Int) (n : Nat) (P : Int → Prop) (w : World) (g : Nat) (hg : w.heap.size = g) (arr : Array Value) (harr : arr = (l.map (Value.int .i64)).toArray) (hs : Strm w B k) (hk : k + 1 ≤ 1000000) (hn : l.length = n) (h3 : 1 ≤ n) (h4 : n ≤ 1000000) (hP : ∀ z ∈ l, P z) :
    Calls Try.prog 21 #[.pointer (some ⟨B, 0, none⟩), .slice (some ⟨g, 0, none⟩) n n] (w.alloc (.cells arr 3)) (StrmPost w B k 1 (IntE P)) := by
  subst harr hg
  exact pick_new B k l n P w hs hk hn h3 h4 hP
theorem own_ints {w : World} {base n c : Nat} {a : Option Addr} {l : List Int} (h : w.ownsRow base 3 1 (.slice a n c) n (ivs l)) : l.length = n := by
  have := h.1
  rw [ivs_length] at this
  omega
theorem own_int {w : World} {base g n c : Nat} {l : List Int} (h : w.ownsRow base 3 1 (.slice (some ⟨g, 0, none⟩) n c) n (ivs l)) (i : Nat) (hi : i < l.length) : w.cell? ⟨g, i, none⟩ = some (.int .i64 l[i]) := by
  have hl := own_ints h
  rw [h.cellAt i (by omega)]
  simp [ivs, hi]
theorem mut_ge {w w' : World} {B : Nat} (h : Below B w w') : Mut (fun b => B ≤ b) w w' := ⟨h.os, h.tape, h.output, h.size, fun k _ hn => h.block k (Nat.lt_of_not_le hn)⟩
theorem Mut.belowAt {S : Nat → Prop} {a w w' : World} {B : Nat} (h : Mut S a w) (hb : Below B w w') (ha : a.heap.size ≤ B) : Mut S a w' :=
  ⟨hb.os.trans h.os, hb.tape.trans h.tape, hb.output.trans h.output, Nat.le_trans h.size hb.size, fun k hk hn => (hb.block k (Nat.lt_of_lt_of_le hk ha)).trans (h.block k hk hn)⟩
/-- A slice of new memory with numbers from -1 to nf. -/
def FaceListE (w : World) (B k nf : Nat) (e : Ending) (w' : World) : Prop :=
  ∃ a c n l, e = .returned (.slice a n c) ∧ w'.ownsRow w.heap.size 3 1 (.slice a n c) n (ivs l) ∧ (∀ z ∈ l, -1 ≤ z ∧ z ≤ nf) ∧ n ≤ nf + 1 ∧ Strm w' B (k + 2 * nf + 2) ∧ Mut (· = B) w w'

set_option maxRecDepth 100000 in
set_option maxHeartbeats 4000000 in
theorem faceList_any (B k nv cv nf cf : Nat) (av af : Option Addr) (w : World) (hs : Strm w B k) (hk : k + 2 * nf + 2 ≤ 1000000) (hn : nf ≤ 1000) :
    Calls Try.prog 6 #[.pointer (some ⟨B, 0, none⟩), .agg #[.slice av nv cv, .slice af nf cf]] w (FaceListE w B k nf) := by
  obtain ⟨i0, hi0, hz0, hz1, hz2⟩ := info_parts info_int1
  have HS := Lib.hid hs
  have hlB := hs.lt
  clear hs
  go_enter Try.func6, Try.ntmps6
  go_wp2_with (fail)
  refine (order_any B k nf _ (HS.out.alloc _) (by omega) (by omega)).mono ?_
  rintro e w1 ⟨a1, c1, lo, rfl, hown, hperm, hst, hmt⟩
  have hs1 := hmt.size
  simp at hs1
  have hM := (hmt.block w.heap.size (by simp) (by omega)).trans (heap_alloc_new w _)
  have mc0 : w1.cell? ⟨w.heap.size, 0, none⟩ = some (.slice av nv cv) := (by simp [World.cell?, hM]); have mf0 : w1.frozen? ⟨w.heap.size, 0, none⟩ = false := (by simp [World.frozen?, hM]); have mc1 : w1.cell? ⟨w.heap.size, 1, none⟩ = some (.slice af nf cf) := (by simp [World.cell?, hM]); have mf1 : w1.frozen? ⟨w.heap.size, 1, none⟩ = false := (by simp [World.frozen?, hM])
  have HMM := Lib.hid hM
  have HLO := Lib.hid (own_base hown (base' := w.heap.size) (by simp))
  have hlo : ∀ z ∈ lo, 0 ≤ z ∧ z < nf := fun z hz => by
    have := hperm.mem_iff.1 hz
    simp [upto] at this
    obtain ⟨i, hi, rfl⟩ := this
    omega
  have HLB := Lib.hid hlo
  have HST := Lib.hid hst
  have HMT := Lib.hid (((Mut.refl (· = B) w).alloc (.cells #[.slice av nv cv, .slice af nf cf] 29)).trans hmt)
  have hll := own_ints hown
  have HLN := Lib.hid hll
  clear hown hperm hlo hst hmt hM hll
  go_wp2_with (fail)
  go_loopw [5, 14] (fun v i wr => ∃ j : Nat, j ≤ nf ∧ i = .int .i64 j ∧ ∃ m l, m ≤ j ∧ wr.ownsRow w1.heap.size 3 1 v m (ivs l) ∧ (∀ z ∈ l, -1 ≤ z ∧ z ≤ nf) ∧ wr.ownsRow w.heap.size 3 1 (.slice a1 nf c1) nf (ivs lo) ∧ Strm wr B (k + nf + j) ∧ Mut (· = B) w1 wr) (fun _ i _ => nf - (intOf i).toNat)
  case atStart => exact ⟨0, by omega, rfl, 0, [], by omega, World.ownsRow_nil _ _ _ _, by simp, HLO.out, HST.out, Mut.refl _ _⟩
  case round =>
    obtain ⟨j, hj, rfl, m, l, hm, hown, hl, hlow, hst, hmt⟩ := hrel
    obtain ⟨ao, co, rfl⟩ := own_slice' hown
    have hsz := hmt.size
    have HO := Lib.hid hown
    have HL := Lib.hid hl
    have HLW := Lib.hid hlow
    have HS2 := Lib.hid hst
    have HM2 := Lib.hid hmt
    clear hown hl hst hmt HS HST
    by_cases hlt : j < nf
    · obtain ⟨g, cap', hv, hg, hlg⟩ := hlow.form (by omega)
      cases hv
      have hjl : j < lo.length := by have := HLN.out; omega
      have cj := own_int hlow j hjl
      have hg1 : g < w1.heap.size := (HLO.out.lt g rfl).2
      generalize hzj : lo[j] = zj at *
      have hzb : 0 ≤ zj ∧ zj < nf := hzj ▸ HLB.out _ (List.getElem_mem hjl)
      have HZB := Lib.hid hzb
      clear hlow hzj hzb
      go_wp2_with (fail)
      refine (flip_any B _ 2 wr HS2.out (by omega) (by omega) (by omega)).mono ?_
      rintro e w2 ⟨⟨b, rfl⟩, hst2, hmt2⟩
      have O2 := Lib.hid (own_mut HO.out hmt2 (fun b hb e => by have := (HO.out.lt b hb).1; omega))
      have L2 := Lib.hid (own_mut HLW.out hmt2 (fun b hb e => by have := (HLW.out.lt b hb).1; omega))
      have S2 := Lib.hid hst2
      have M2 := Lib.hid (HM2.out.trans hmt2)
      have s2 := hmt2.size
      clear hst2 hmt2
      cases b
      · go_wp2
        go_roundw
        case rel => exact ⟨j + 1, by omega, by go_num, m, l, by omega, O2.out, HL.out, L2.out, S2.out, M2.out⟩
        case measure => simp [intOf]; omega
      · go_wp2_with (at_builtin; refine wpList_append_lies _ rfl _ _ 22 rfl w1.heap.size 3 i0 (.int .i64 0) 1 8 Try.underlying22 hi0 hz0 hz1 hz2 rfl (by decide) _ _ _ rfl (O2.out.alloc _) ⟨w2.heap.size, 0, none⟩ 1 1 [.int .i64 zj] rfl rfl (World.news_of_block (cs := #[.int .i64 zj]) (t := 3) (fr := (0, 0)) (heap_alloc_new w2 _)) (by simp [Value.oneCell']) (by omega) (by unfold maxLen; omega) (by omega) (by simp; omega) (w2.heap.size + 1) (by simp) ?_; intro g4 cap4 w4 hown4 hgrow hat hlt4; have HO4 := Lib.hid hown4; have HG4 := Lib.hid hgrow; clear hown4 hgrow hat)
        have B4 : Below w1.heap.size w2 w4 := Below.grown (Below.alloc (Below.refl _ w2) (by omega) _) HG4.out (by simp; omega) (fun b hb => (O2.out.lt b hb).1)
        go_roundw
        case rel => exact ⟨j + 1, by omega, by go_num, m + 1, l ++ [zj], by omega, by rw [ivs_app]; exact HO4.out, fun z hz => by
            rcases List.mem_append.1 hz with h | h
            · exact HL.out z h
            · simp only [List.mem_singleton] at h
              subst h
              have := HZB.out
              omega, own_mut L2.out (mut_ge B4) (fun b hb e => by cases hb; exact Nat.not_le_of_lt hg1 e), S2.out.kept (mut_ge B4) (fun x hx e => by have e' : w1.heap.size ≤ x := e; omega), M2.out.belowAt B4 (Nat.le_refl _)⟩
        case measure => simp [intOf]; omega
    · obtain rfl : j = nf := by omega
      have hMr := (HM2.out.block w.heap.size (by have := hs1; omega) (by omega)).trans HMM.out
      have HMR := Lib.hid hMr
      have hlm := lt_of_heap hMr
      clear hMr hlow
      go_wp2_with (fail)
      refine (flip_any B _ 15 wr HS2.out (by omega) (by omega) (by omega)).mono ?_
      rintro e w2 ⟨⟨b, rfl⟩, hst2, hmt2⟩
      have O2 := Lib.hid (own_mut HO.out hmt2 (fun b hb e => by have := (HO.out.lt b hb).1; omega))
      have S2 := Lib.hid hst2
      have M2 := Lib.hid (HM2.out.trans hmt2)
      have s2 := hmt2.size
      have hMr2 := (hmt2.block w.heap.size hlm (by omega)).trans HMR.out
      have nc0 : w2.cell? ⟨w.heap.size, 0, none⟩ = some (.slice av nv cv) := (by simp [World.cell?, hMr2]); have nf0 : w2.frozen? ⟨w.heap.size, 0, none⟩ = false := (by simp [World.frozen?, hMr2]); have nc1 : w2.cell? ⟨w.heap.size, 1, none⟩ = some (.slice af j cf) := (by simp [World.cell?, hMr2]); have nf1 : w2.frozen? ⟨w.heap.size, 1, none⟩ = false := (by simp [World.frozen?, hMr2])
      clear hst2 hmt2 hMr2
      cases b
      · go_wp2
        go_ret
        exact ⟨_, _, m, l, rfl, own_base O2.out (by omega), HL.out, by omega, S2.out.more (by omega) (by omega), HMT.out.trans M2.out⟩
      · go_wp2_with (fail)
        refine (pick_lit0 B _ [0, -1, (j : Int)] 3 (fun z => -1 ≤ z ∧ z ≤ (j : Int)) w2 _ rfl _ (by simp) S2.out (by omega) rfl (by omega) (by omega) (by intro z hz; simp only [List.mem_cons, List.not_mem_nil, or_false] at hz; omega)).mono ?_
        rintro e w3 ⟨⟨z, rfl, hz⟩, hst3, hmt3⟩
        have O3 := Lib.hid (own_mut O2.out hmt3 (fun b hb e => by have := (O2.out.lt b hb).1; omega))
        have S3 := Lib.hid hst3
        have M3 := Lib.hid (M2.out.trans hmt3)
        have s3 := hmt3.size
        have HZ := Lib.hid hz
        clear hst3 hmt3 hz
        go_wp2_with (at_builtin; refine wpList_append_lies _ rfl _ _ 22 rfl w1.heap.size 3 i0 (.int .i64 0) 1 8 Try.underlying22 hi0 hz0 hz1 hz2 rfl (by decide) _ _ _ rfl (O3.out.alloc _) ⟨w3.heap.size, 0, none⟩ 1 1 [.int .i64 z] rfl rfl (World.news_of_block (cs := #[.int .i64 z]) (t := 3) (fr := (0, 0)) (heap_alloc_new w3 _)) (by simp [Value.oneCell']) (by omega) (by unfold maxLen; omega) (by omega) (by simp; omega) (w3.heap.size + 1) (by simp) ?_; intro g4 cap4 w4 hown4 hgrow hat hlt4; have HO4 := Lib.hid hown4; have HG4 := Lib.hid hgrow; clear hown4 hgrow hat)
        have B4 : Below w1.heap.size w3 w4 := Below.grown (Below.alloc (Below.refl _ w3) (by omega) _) HG4.out (by simp; omega) (fun b hb => (O3.out.lt b hb).1)
        go_wp2
        go_ret
        exact ⟨_, _, m + 1, l ++ [z], rfl, by rw [ivs_app]; exact own_base HO4.out (by omega), fun u hu => by
          rcases List.mem_append.1 hu with h | h
          · exact HL.out u h
          · simp only [List.mem_singleton] at h
            subst h
            exact HZ.out, by omega, (S3.out.kept (mut_ge B4) (fun x hx e => by have e' : w1.heap.size ≤ x := e; omega)).more (by omega) (by omega), HMT.out.trans (M3.out.belowAt B4 (Nat.le_refl _))⟩
end Go.Proofs.Ytpgpjoghfpfhlaa

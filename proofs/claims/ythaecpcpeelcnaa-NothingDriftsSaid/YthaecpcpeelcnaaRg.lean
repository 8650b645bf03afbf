/- A ring alone: checked, and its area. -/
import Derived.Test.YthaecpcpeelcnaaRf
import Derived.Test.YthaecpcpeelcnaaRr
set_option linter.unusedSimpArgs false
set_option linter.unusedVariables false
namespace Go.Proofs.Ythaecpcpeelcnaa
open Go.RowKit

theorem own_newsR {w : World} {base g size n c : Nat} {e : TypeId} {xs : List Value} (h : w.ownsRow base e size (.slice (some ⟨g, 0, none⟩) n c) n xs) : ∀ j u, xs[j]? = some u → w.cell? ((⟨g, 0, none⟩ : Addr).add j) = some u := by
  intro j u hu
  have hj : j < xs.length := (List.getElem?_eq_some_iff.1 hu).1
  have hadd : (⟨g, 0, none⟩ : Addr).add j = ⟨g, j, none⟩ := by unfold Addr.add; split <;> simp_all
  rw [hadd, h.cellAt j (by rw [← h.1]; exact hj)]
  exact hu
theorem cells4_one (n : Nat) (X Y : Nat → Int) : ∀ m, ∀ u ∈ cells4 n X Y m, u.oneCell' = true
  | 0 => by simp [cells4]
  | m + 1 => by
    intro u hu
    simp only [cells4, List.mem_append] at hu
    rcases hu with hu | hu
    · exact cells4_one n X Y m u hu
    · simp at hu; rcases hu with rfl | rfl | rfl | rfl <;> rfl

set_option maxRecDepth 100000 in
set_option maxHeartbeats 8000000 in
theorem checkRing_ok (b off n c : Nat) (X Y : Nat → Int) (w : World) (hb : b < w.heap.size) (hd : Du w b off n X Y) (h3 : 3 ≤ n) (hn : n ≤ 500) (hs : ∀ i, i < n → rB (X i) (Y i) = true) (hf : Far n X Y) (hm : NoMeet n X Y) :
    Calls Try.prog 47 #[.slice (some ⟨b, off, none⟩) n c] w fun e w' => e = .returned (.int .i64 0) ∧ Below w.heap.size w w' := by
  have hsm : ∀ i, i < n → sm (X i) ∧ sm (Y i) := fun i hi => by
    have := hs i hi
    unfold rB at this
    simp only [decide_eq_true_eq] at this
    unfold sm
    omega
  have HD := Lib.hid hd
  have HS := Lib.hid hs
  have HF := Lib.hid hf
  have HM := Lib.hid hm
  have HSM := Lib.hid hsm
  clear hd hs hf hm hsm
  have l3 : ¬ (n : Int) < 3 := by omega
  have l5 : ¬ (500 : Int) < (n : Int) := by omega
  go_enter Try.func47, Try.ntmps47
  have R1 := Lib.hid (allB_yes HS.out)
  go_wp2_with (fail)
  refine (inRange_any (some ⟨b, off, none⟩) n c X Y _ (by omega) (.inr ⟨b, off, rfl, by omega, HD.out⟩)).mono ?_
  rintro e w1 ⟨rfl, hb1⟩
  rw [R1.out]
  have HB := Lib.hid hb1
  have s1 := hb1.size
  clear hb1
  go_wp2_with (fail)
  refine (hasTwice_no b off n c X Y _ (by omega) (HD.out.kept HB.out hb) (by omega) HSM.out HF.out).mono ?_
  rintro e w2 ⟨rfl, hb2⟩
  have B2 := Lib.hid (HB.out.trans (hb2.mono HB.out.size))
  have s2 := hb2.size
  clear hb2
  go_wp2_with (fail)
  refine (meetsItself_no b off n c X Y _ (by omega) (HD.out.kept B2.out hb) h3 (by omega) HSM.out HM.out).mono ?_
  rintro e w3 ⟨rfl, hb3⟩
  have B3 := Lib.hid (B2.out.trans (hb3.mono B2.out.size))
  clear hb3
  go_wp2
  go_ret
  exact ⟨rfl, B3.out⟩

set_option maxRecDepth 100000 in
set_option maxHeartbeats 8000000 in
theorem meetEach_one (br or b off n c cr : Nat) (X Y : Nat → Int) (w : World) (hbr : br < w.heap.size) (hr : w.cell? ⟨br, or, none⟩ = some (.slice (some ⟨b, off, none⟩) n c)) (hb : b < w.heap.size) (hd : Du w b off n X Y) (h1 : 1 ≤ n) (hn : n ≤ 500) :
    Calls Try.prog 48 #[.slice (some ⟨br, or, none⟩) 1 cr] w fun e w' => e = .returned (.bool false) ∧ Below w.heap.size w w' := by
  obtain ⟨i0, hi0, hz0, hz1, hz2⟩ := info_partsR info_side
  go_enter Try.func48, Try.ntmps48
  go_wp2_with (fail)
  refine wp_loop_rounds 2 ?_
  rw [rounds_succ]
  go_wp2_with (fail)
  refine (sidesOf_any b off n c X Y w hb hd (by omega)).mono ?_
  rintro e w1 ⟨a, c', rfl, ho, hb1⟩
  obtain ⟨g, rfl, hg, hgl, hq⟩ := own_qu ho (by omega)
  have HO := Lib.hid ho
  have HQ := Lib.hid hq
  have B1 := Lib.hid hb1
  have hs1 := hb1.size
  clear ho hq hb1 hd hr
  go_wp2_with (fail)
  go_loopw [21] (fun i wr => ∃ k : Nat, k ≤ n ∧ i = .int .i64 k ∧ Below w1.heap.size w1 wr) (fun i _ => n - (intOf i).toNat)
  case atStart => exact ⟨0, by omega, rfl, Below.refl _ _⟩
  case round =>
    obtain ⟨k, hk, rfl, hbel⟩ := hrel
    have hsz := hbel.size
    by_cases hlt : k < n
    · obtain ⟨q0, q1, q2, q3⟩ := (HQ.out.kept hbel hgl) k hlt
      have hgw : g < wr.heap.size := by omega
      have HB := Lib.hid hbel
      clear hbel
      go_wp2_with (fail)
      refine wp_loop_rounds 1 ?_
      rw [rounds_succ]
      have R2 := Lib.hid (HB.out.alloc hsz (.cells #[.int .i64 (X k), .int .i64 (Y k), .int .i64 (X (nx n k)), .int .i64 (Y (nx n k))] 94))
      go_wp2_with (fail)
      go_roundw
      case rel => exact ⟨k + 1, by omega, by go_num, R2.out⟩
      case measure => simp [intOf]; omega
    · obtain rfl : n = k := by omega
      have HO2 := Lib.hid (ownsRow_below HO.out hbel)
      have HB := Lib.hid (B1.out.trans (hbel.mono hs1))
      have hsw := HB.out.size
      clear hbel
      go_wp2_with (at_builtin; refine wpList_append_lies _ rfl _ _ 91 rfl w.heap.size 94 i0 (.agg #[.int .i64 0, .int .i64 0, .int .i64 0, .int .i64 0]) 4 32 Try.underlying91 hi0 hz0 hz1 hz2 rfl (by decide) _ 0 [] rfl (World.ownsRow_nil _ _ _ _) ⟨g, 0, none⟩ n c' (cells4 n X Y n) rfl (cells4_length n X Y n) (own_newsR HO2.out) (cells4_one n X Y n) (by omega) (by unfold maxLen; omega) (by omega) (by omega) _ rfl ?_; intro g4 cap' w4 hown4 hgrow4 hat hlt4; have HG4 := Lib.hid hgrow4; clear hown4 hgrow4 hat)
      have R := Lib.hid (HB.out.grown HG4.out hsw (fun j hj => by cases hj))
      go_wp2_with (fail)
      rw [rounds_succ]
      go_wp2
      go_ret
      exact ⟨rfl, R.out⟩
end Go.Proofs.Ythaecpcpeelcnaa

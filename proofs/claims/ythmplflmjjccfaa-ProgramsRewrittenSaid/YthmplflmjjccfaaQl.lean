/- Relative of the program. -/
import Derived.Test.YthmplflmjjccfaaQe
import Derived.Test.YthmplflmjjccfaaQk
set_option linter.unusedSimpArgs false
set_option linter.unusedVariables false
namespace Go.Proofs.Ythmplflmjjccfaa
open Go.RowKit
set_option maxRecDepth 100000 in
set_option maxHeartbeats 4000000 in
theorem Relative_any (a : Option Addr) (n c : Nat) (S : Nat → St) (w : World) (hn : n ≤ 4000) (hp : StepsR w a n S) :
    Calls Try.prog 6 #[.slice a n c] w (MadeS w (oneE n S (relE n S)) (relOut (toldL plR m00 S n))) := by
  have HP := Lib.hid hp
  clear hp
  go_enter Try.func6, Try.ntmps6
  go_wp2_with (fail)
  refine (checkSteps_any a n c S w (by omega) HP.out).mono ?_
  rintro e w1 ⟨rfl, hb⟩
  replace HP := Lib.hid (HP.out.kept hb)
  have B1 := Lib.hid hb
  clear hb
  by_cases hz : stepsE n S = 0
  · have HZ := Lib.hid hz
    have hok := stepsE_zero hz
    have HOK := Lib.hid (fun i hi => sok (hok i hi))
    have hz' : (stepsE n S != 0) = false := by simp [hz]
    clear hz hok
    have HE := Lib.hid (show oneE n S (relE n S) = relE n S by unfold oneE; rw [if_pos HZ.out])
    go_wp2_with (fail)
    refine (retoldR_any m00 0 a n c S w1 (by omega) (by omega) mb0 HOK.out HP.out).mono ?_
    rintro e w2 ⟨ao, co, rfl, hown, hb⟩
    have HO := Lib.hid hown
    have B2 := Lib.hid (B1.out.trans (hb.mono B1.out.size))
    have hL := toldL_len plR m00 S n
    have HEE := Lib.hid (show stepsE (relOut (toldL plR m00 S n)).length (lf (relOut (toldL plR m00 S n))) = relE n S from rfl)
    have hw12 := hb.size
    clear hown hb
    obtain ⟨l, hl⟩ : ∃ l, toldL plR m00 S n = l := ⟨_, rfl⟩
    rw [hl] at HO hL HEE ⊢
    have HL := Lib.hid hl
    clear hl
    obtain ⟨r, hr⟩ : ∃ r, relOut l = r := ⟨_, rfl⟩
    have HR := Lib.hid hr
    rw [hr] at HEE
    by_cases h0 : l.length = 0
    · have hrl : l.length = r.length := by rw [← hr, relOut_len, if_pos h0, h0]
      have hlr : l = r := by
        have h1 := List.length_eq_zero_iff.1 h0
        have h2 := List.length_eq_zero_iff.1 (hrl ▸ h0 : r.length = 0)
        rw [h1, h2]
      rw [← hrl] at HEE
      have HO2 := Lib.hid (show w2.ownsRow w1.heap.size 36 6 (.slice ao l.length co) l.length (rowS r) from hlr ▸ HO.out)
      clear HO hr
      have HO := HO2
      have B5 := B2
      clear HO2 B2 hlr
      generalize w2 = w5 at *
      have hlt : ¬ (0 < l.length) := by omega
      obtain ⟨nl, hnl⟩ : ∃ nl, l.length = nl := ⟨_, rfl⟩
      rw [hnl] at HO HEE hrl h0 hL ⊢
      subst h0
      have HRL := Lib.hid hrl
      have HLN := Lib.hid hL
      clear hrl hnl hL hlt
      go_wp2_with (fail)
      refine (checked_any ao 0 co (lf r) w5 (by have := HLN.out; omega) (own_rowS HO.out HRL.out)).mono ?_
      rintro e w6 ⟨rfl, hb⟩
      replace HO := Lib.hid (ownsRow_below HO.out hb)
      have B6 := Lib.hid (B5.out.trans (hb.mono B5.out.size))
      clear hb
      rw [HEE.out]
      by_cases hz : relE n S = 0
      · have HZ2 := Lib.hid hz
        rw [if_pos hz, hz]
        clear hz
        go_wp2_with (fail)
        rw [HL.out, HR.out]
        exact bodyPost_ret (v := .tuple #[.slice ao 0 co, .int .i64 0]) (by simp [results, Try.results6, go_sem]) rfl ⟨ao, 0, co, _, by rw [HE.out, HZ2.out], Nat.le_of_eq HRL.out, own_cap HO.out, own_rowS HO.out HRL.out, fun _ => ⟨HRL.out, rfl⟩, fun h => absurd (HE.out.trans HZ2.out) h, B6.out⟩
      · have HZ2 := Lib.hid hz
        rw [if_neg hz]
        clear hz
        go_wp2_with (fail)
        rw [HL.out, HR.out]
        exact bodyPost_ret (v := .tuple #[.slice none 0 0, .int .i64 (relE n S)]) (by simp [results, Try.results6, go_sem]) rfl ⟨none, 0, 0, fun _ => s00, by rw [HE.out], Nat.zero_le _, Nat.le_refl _, .inl rfl, fun h => absurd (HE.out.symm.trans h) HZ2.out, fun _ => rfl, B6.out⟩
    · have hrl : l.length + 1 = r.length := by rw [← hr, relOut_len, if_neg h0]
      have hrr : r = ⟨2, 0, 0, 0, 0, 0⟩ :: l := by rw [← hr]; unfold relOut; rw [if_neg h0]
      rw [← hrl] at HEE
      have hlt : (0 : Int) < (l.length : Int) := by omega
      have HRL := Lib.hid hrl
      have HLN := Lib.hid hL
      clear hr hrl hL
      go_wp2_with (fail)

      refine (insert_any w1.heap.size l.length co w2.heap.size ao l ⟨2, 0, 0, 0, 0, 0⟩ (w2.alloc (.cells #[.int .i64 2, .int .i64 0, .int .i64 0, .int .i64 0, .int .i64 0, .int .i64 0] 36)) (ownsRow_below HO.out ((Below.refl _ w2).alloc (Nat.le_refl _) (.cells #[.int .i64 2, .int .i64 0, .int .i64 0, .int .i64 0, .int .i64 0, .int .i64 0] 36))) rfl (by omega) (by have := HLN.out; omega) (by simp; omega) (heap_alloc_new w2 (.cells #[.int .i64 2, .int .i64 0, .int .i64 0, .int .i64 0, .int .i64 0, .int .i64 0] 36)) (fun b hb e => by have := (HO.out.lt b hb).2; omega)).mono ?_
      rintro e w5 ⟨g5, c5, rfl, hown, hb⟩
      have B5 := Lib.hid (B2.out.trans ((Below.alloc (Below.refl _ w2) hw12 (.cells #[.int .i64 2, .int .i64 0, .int .i64 0, .int .i64 0, .int .i64 0, .int .i64 0] 36)).trans hb |>.mono B1.out.size))
      clear HO
      have HO := Lib.hid (show w5.ownsRow w1.heap.size 36 6 (.slice (some ⟨g5, 0, none⟩) (l.length + 1) c5) (l.length + 1) (rowS r) from hrr ▸ hown)
      clear hown hb hrr
      go_wp2_with (fail)
      refine (checked_any (some ⟨g5, 0, none⟩) (l.length + 1) c5 (lf r) w5 (by have := HLN.out; omega) (own_rowS HO.out HRL.out)).mono ?_
      rintro e w6 ⟨rfl, hb⟩
      replace HO := Lib.hid (ownsRow_below HO.out hb)
      have B6 := Lib.hid (B5.out.trans (hb.mono B5.out.size))
      clear hb
      rw [HEE.out]
      by_cases hz : relE n S = 0
      · have HZ2 := Lib.hid hz
        rw [if_pos hz, hz]
        clear hz
        go_wp2_with (fail)
        rw [HL.out, HR.out]
        exact bodyPost_ret (v := .tuple #[.slice (some ⟨g5, 0, none⟩) (l.length + 1) c5, .int .i64 0]) (by simp [results, Try.results6, go_sem]) rfl ⟨(some ⟨g5, 0, none⟩), (l.length + 1), c5, _, by rw [HE.out, HZ2.out], Nat.le_of_eq HRL.out, own_cap HO.out, own_rowS HO.out HRL.out, fun _ => ⟨HRL.out, rfl⟩, fun h => absurd (HE.out.trans HZ2.out) h, B6.out⟩
      · have HZ2 := Lib.hid hz
        rw [if_neg hz]
        clear hz
        go_wp2_with (fail)
        rw [HL.out, HR.out]
        exact bodyPost_ret (v := .tuple #[.slice none 0 0, .int .i64 (relE n S)]) (by simp [results, Try.results6, go_sem]) rfl ⟨none, 0, 0, fun _ => s00, by rw [HE.out], Nat.zero_le _, Nat.le_refl _, .inl rfl, fun h => absurd (HE.out.symm.trans h) HZ2.out, fun _ => rfl, B6.out⟩
  · have HZ := Lib.hid hz
    have hz' : (stepsE n S != 0) = true := by simpa using hz
    have HE := Lib.hid (show oneE n S (relE n S) = stepsE n S by unfold oneE; rw [if_neg HZ.out])
    clear hz
    go_wp2_with (fail)
    exact bodyPost_ret (v := .tuple #[.slice none 0 0, .int .i64 (stepsE n S)]) (by simp [results, Try.results6, go_sem]) rfl ⟨none, 0, 0, fun _ => s00, by rw [HE.out], Nat.zero_le _, Nat.le_refl _, .inl rfl, fun h => absurd (HE.out.symm.trans h) HZ.out, fun _ => rfl, B1.out⟩
end Go.Proofs.Ythmplflmjjccfaa

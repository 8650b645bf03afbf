/- A leg is split: its errors. -/
import Derived.Test.YtdanlnmdkneepaaUk
set_option linter.unusedSimpArgs false
set_option linter.unusedVariables false
namespace Go.Proofs.Ytdanlnmdkneepaa
open Go.RowKit

def splA (n : Nat) (L M : Nat → Int) (m : Nat) (C : Nat → Int) (j t : Int) : Int := if cornE n L M m C = 0 then splZ n L j t else cornE n L M m C
theorem splZ_ok {n : Nat} {L : Nat → Int} {j t : Int} (h : splZ n L j t = 0) : ∃ q : Nat, j = q ∧ q < n ∧ 1 ≤ t ∧ t < L q := by
  unfold splZ at h
  split at h
  · rename_i h1
    unfold inZ at h1
    simp at h1
    unfold spanZ inZ at h
    split at h
    · rename_i h2
      simp at h2
      exact ⟨j.toNat, by omega, by omega, by omega, by omega⟩
    · cases h
  · cases h
set_option maxRecDepth 100000 in
set_option maxHeartbeats 8000000 in
theorem Split_any (a : Option Addr) (n c : Nat) (L M : Nat → Int) (ac : Option Addr) (m cc : Nat) (C : Nat → Int) (j t : Int) (w : World) (hn : n ≤ 100) (hm : m ≤ 100) (hnc : n ≤ c) (hmc : m ≤ cc) (hcb : c ≤ 9223372036854775807) (hccb : cc ≤ 9223372036854775807) (hp : LegsR w a n L M) (hc : IntsR w ac m C) (hf : (ac = none ∧ m = 0 ∧ cc = 0) ∨ ∃ b2 off2, ac = some ⟨b2, off2, none⟩) :
    Calls Try.prog 47 #[.slice a n c, .slice ac m cc, .int .i64 j, .int .i64 t] w (LCPost (splA n L M m C j t) (n + 1) (m + 1) (splL n j.toNat t L) (splM n j.toNat M) (splC j.toNat (M j.toNat) C) w) := by
  by_cases hE : cornE n L M m C = 0
  · obtain ⟨⟨h0, hlg⟩, hmn⟩ := corn_ok hE
    rcases hp with h | ⟨b, off, rfl, hb, hd⟩
    · omega
    have hsa : splA n L M m C j t = splZ n L j t := by unfold splA; rw [if_pos hE]
    rw [hsa]
    clear hsa
    by_cases hz : splZ n L j t = 0
    · obtain ⟨q, rfl, hq, ht1, ht2⟩ := splZ_ok hz
      rw [hz]
      exact Split_yes b off n c L M ac m cc C q t w hn hm hnc hmc hcb hccb hb hd hc hf hE hq ⟨ht1, ht2⟩
    · have HE := Lib.hid hE
      have HD := Lib.hid hd
      have HC := Lib.hid hc
      have HZ := Lib.hid hz
      clear hc hd hE hf
      by_cases k1 : 0 ≤ j ∧ j < n
      · obtain ⟨q, rfl⟩ := Int.eq_ofNat_of_zero_le k1.1
        have hq : q < n := by omega
        have hl := hlg q hq
        have R := Lib.hid (show splZ n L q t = 1 by
          unfold splZ at hz ⊢
          rw [if_pos (by unfold inZ; simp; omega)] at hz ⊢
          unfold spanZ at hz ⊢
          split at hz
          · exact absurd rfl hz
          · rename_i h; rw [if_neg h])
        have ht : t < 1 ∨ L q ≤ t := by
          have h2 := R.out
          unfold splZ at h2
          rw [if_pos (by unfold inZ; simp; omega)] at h2
          unfold spanZ at h2
          split at h2
          · cases h2
          · rename_i h3
            unfold inZ at h3
            simp at h3
            omega
        have hji : (q : Int) < (n : Int) := by omega
        have hj0 : ¬ (q : Int) < 0 := by omega
        have hjg : ¬ (q : Int) ≥ (n : Int) := by omega
        clear hz hlg k1
        go_enter Try.func47, Try.ntmps47
        go_wp2_with (fail)
        refine (checkCorners_any (some ⟨b, off, none⟩) n c L M ac m cc C w hn hm (.inr ⟨b, off, rfl, hb, HD.out⟩) HC.out).mono ?_
        rintro e w1 ⟨rfl, hb1⟩
        rw [HE.out]
        have HB1 := Lib.hid hb1
        have hD1 := Du.kept HD.out hb1 hb
        have k0 := (hD1 q hq).1
        have k1 := (hD1 q hq).2
        have hb' : b < w1.heap.size := Nat.lt_of_lt_of_le hb hb1.size
        clear hD1 hb1
        have HBX := Lib.hid (show Below w.heap.size w (w1.alloc (.cells #[.int .i64 (L q), .int .i64 (M q)] 83)) from HB1.out.alloc HB1.out.size _)
        by_cases ht1 : t < 1
        · go_wp2_with (fail)
          exact bodyPost_ret (v := .tuple #[.slice none 0 0, .slice none 0 0, .int .i64 1]) (by simp [results, Try.results47, go_sem]) rfl ⟨fun h => absurd h HZ.out, fun _ => (by rw [R.out]), HBX.out⟩
        · have ht2 : t ≥ L q := by omega
          go_wp2_with (fail)
          exact bodyPost_ret (v := .tuple #[.slice none 0 0, .slice none 0 0, .int .i64 1]) (by simp [results, Try.results47, go_sem]) rfl ⟨fun h => absurd h HZ.out, fun _ => (by rw [R.out]), HBX.out⟩
      · have R := Lib.hid (show splZ n L j t = 8 by unfold splZ; rw [if_neg (by unfold inZ; simp; omega)])
        by_cases hj : j < 0
        · clear hz hlg k1
          go_enter Try.func47, Try.ntmps47
          go_wp2_with (fail)
          refine (checkCorners_any (some ⟨b, off, none⟩) n c L M ac m cc C w hn hm (.inr ⟨b, off, rfl, hb, HD.out⟩) HC.out).mono ?_
          rintro e w1 ⟨rfl, hb1⟩
          rw [HE.out]
          have HB1 := Lib.hid hb1
          clear hb1
          go_wp2_with (fail)
          exact bodyPost_ret (v := .tuple #[.slice none 0 0, .slice none 0 0, .int .i64 8]) (by simp [results, Try.results47, go_sem]) rfl ⟨fun h => absurd h HZ.out, fun _ => (by rw [R.out]), HB1.out⟩
        · have hjg : j ≥ (n : Int) := by omega
          clear hz hlg k1
          go_enter Try.func47, Try.ntmps47
          go_wp2_with (fail)
          refine (checkCorners_any (some ⟨b, off, none⟩) n c L M ac m cc C w hn hm (.inr ⟨b, off, rfl, hb, HD.out⟩) HC.out).mono ?_
          rintro e w1 ⟨rfl, hb1⟩
          rw [HE.out]
          have HB1 := Lib.hid hb1
          clear hb1
          go_wp2_with (fail)
          exact bodyPost_ret (v := .tuple #[.slice none 0 0, .slice none 0 0, .int .i64 8]) (by simp [results, Try.results47, go_sem]) rfl ⟨fun h => absurd h HZ.out, fun _ => (by rw [R.out]), HB1.out⟩
  · have HZ := Lib.hid hE
    have R := Lib.hid (show splA n L M m C j t = cornE n L M m C by unfold splA; rw [if_neg hE])
    have HP := Lib.hid hp
    have HC := Lib.hid hc
    have hz' : (cornE n L M m C != 0) = true := by simpa using hE
    clear hE hp hc hf
    go_enter Try.func47, Try.ntmps47
    go_wp2_with (fail)
    refine (checkCorners_any a n c L M ac m cc C w hn hm HP.out HC.out).mono ?_
    rintro e w1 ⟨rfl, hb1⟩
    have HB1 := Lib.hid hb1
    clear hb1
    go_wp2_with (fail)
    exact bodyPost_ret (v := .tuple #[.slice none 0 0, .slice none 0 0, .int .i64 (cornE n L M m C)]) (by simp [results, Try.results47, go_sem]) rfl ⟨fun h => absurd (R.out.symm.trans h) HZ.out, fun _ => (by rw [R.out]), HB1.out⟩
end Go.Proofs.Ytdanlnmdkneepaa

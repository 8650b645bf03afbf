/- The reference's errors of steps and rows. -/
import Derived.Test.YtllagjncibfcmaaGreatDoorCd
set_option linter.unusedSimpArgs false
set_option linter.unusedVariables false
namespace Go.Proofs.YtllagjncibfcmaaGreatDoor
open Go.RowKit

def inR (n lo hi : Int) : Bool := decide (lo ≤ n ∧ n ≤ hi)
theorem inR_any (n lo hi : Int) (w : World) : Calls Tryz.prog 39 #[.int .i64 n, .int .i64 lo, .int .i64 hi] w fun e w' => e = .returned (.bool (inR n lo hi)) ∧ w' = w := by
  by_cases h1 : lo ≤ n
  · by_cases h2 : n ≤ hi
    · have hr : inR n lo hi = true := by simp [inR, h1, h2]
      go_enter Tryz.func39, Tryz.ntmps39
      go_wp2
      go_ret
      exact ⟨by simp [hr], rfl⟩
    · have hr : inR n lo hi = false := by simp [inR, h2]
      go_enter Tryz.func39, Tryz.ntmps39
      go_wp2
      go_ret
      exact ⟨by simp [hr], rfl⟩
  · have hr : inR n lo hi = false := by simp [inR, h1]
    go_enter Tryz.func39, Tryz.ntmps39
    go_wp2
    go_ret
    exact ⟨by simp [hr], rfl⟩
def stE (s : Int) : Int := if stB s = true then 0 else 1
theorem stepFault_any (s : Int) (w : World) : Calls Tryz.prog 37 #[.int .i64 s] w fun e w' => e = .returned (.int .i64 (stE s)) ∧ w' = w := by
  obtain ⟨b, hb⟩ : ∃ b, inR s 2 10000 = b := ⟨_, rfl⟩
  have HB := Lib.hid hb
  rcases b with _ | _
  · have hr : stE s = 1 := by
      have : ¬ (2 ≤ s ∧ s ≤ 10000) := by simpa [inR] using hb
      have h0 : stB s = false := by unfold stB; rw [decide_eq_false_iff_not]; omega
      simp [stE, h0]
    rw [hr]
    clear hb hr
    go_enter Tryz.func37, Tryz.ntmps37
    go_wp2_with (go_at_call 39; refine (inR_any _ _ _ _).mono ?_; rintro e w' ⟨rfl, rfl⟩; rw [HB.out])
    go_ret
    exact ⟨rfl, rfl⟩
  · have h2 : 2 ≤ s ∧ s ≤ 10000 := by simpa [inR] using hb
    obtain ⟨m, hm⟩ : ∃ m, s.tmod 2 = m := ⟨_, rfl⟩
    by_cases m0 : m = 0
    · subst m0
      have hr : stE s = 0 := by
        have h0 : stB s = true := by unfold stB; rw [decide_eq_true_eq]; omega
        simp [stE, h0]
      rw [hr]
      clear hb hr h2
      go_enter Tryz.func37, Tryz.ntmps37
      go_wp2_with (go_at_call 39; refine (inR_any _ _ _ _).mono ?_; rintro e w' ⟨rfl, rfl⟩; rw [HB.out])
      go_ret
      exact ⟨rfl, rfl⟩
    · have hr : stE s = 1 := by
        have h0 : stB s = false := by unfold stB; rw [decide_eq_false_iff_not]; omega
        simp [stE, h0]
      have hm1 : (m != 0) = true := by simpa using m0
      rw [hr]
      clear hb hr h2
      go_enter Tryz.func37, Tryz.ntmps37
      go_wp2_with (go_at_call 39; refine (inR_any _ _ _ _).mono ?_; rintro e w' ⟨rfl, rfl⟩; rw [HB.out])
      go_ret
      exact ⟨rfl, rfl⟩
set_option maxRecDepth 100000 in
set_option maxHeartbeats 4000000 in
theorem rowsFault_any (a : Option Addr) (n c : Nat) (R : Nat → List UInt8) (w : World) (hr : RowS w a n R) (hl : ∀ i, i < n → (R i).length ≤ 1000000) (hn : n ≤ 1000000) :
    Calls Tryz.prog 38 #[.slice a n c] w fun e w' => e = .returned (.int .i64 (rowsE n R)) ∧ Below w.heap.size w w' := by
  by_cases h2 : 200 < n
  · have hres : rowsE n R = 2 := by simp [rowsE, h2]
    rw [hres]
    have h2' : (200 : Int) < (n : Int) := by omega
    go_enter Tryz.func38, Tryz.ntmps38
    go_wp2
    go_ret
    exact ⟨rfl, Below.refl _ _⟩
  have h2' : ¬ (200 : Int) < (n : Int) := by omega
  by_cases hn0 : n = 0
  · subst hn0
    have hres : rowsE 0 R = 0 := by simp [rowsE, firstR]
    rw [hres]
    go_enter Tryz.func38, Tryz.ntmps38
    go_wp2
    refine wp_loop_rounds 1 ?_
    rw [rounds_succ]
    go_wp2
    go_ret
    exact ⟨rfl, Below.refl _ _⟩
  rcases hr with h | ⟨b, off, rfl, hb, hs⟩
  · exact absurd h hn0
  have HS := Lib.hid hs
  have HL := Lib.hid hl
  obtain ⟨E, hE⟩ : ∃ E, rowsE n R = E := ⟨_, rfl⟩
  rw [hE]
  have HE := Lib.hid hE
  have hb0 : w.cell? ⟨b, off, none⟩ = some (.string ⟨(R 0).toArray⟩) := by have := hs 0 (by omega); simpa using this
  clear hs hl hE
  have z0 := bsize (R 0)
  go_enter Tryz.func38, Tryz.ntmps38
  go_wp2_with (fail)
  go_loopw [10] (fun i wr => ∃ k : Nat, k ≤ n ∧ i = .int .i64 k ∧ (∀ j, j < k → rowE R j = 0) ∧ Below w.heap.size w wr) (fun i _ => n - (intOf i).toNat)
  case atStart => exact ⟨0, by omega, rfl, fun j hj => absurd hj (by omega), Below.refl _ _⟩
  case round =>
    obtain ⟨k, hk, rfl, hz, hbel⟩ := hrel
    have hsz := hbel.size
    have HZ := Lib.hid hz
    clear hz
    by_cases hlt : k < n
    · have c0 := (HS.out.kept hbel hb) k hlt
      have c1 := cellk hbel hb hb0
      have hbw : b < wr.heap.size := by omega
      have HB := Lib.hid hbel
      have zk := bsize (R k)
      have lk := HL.out k hlt
      clear hbel
      by_cases he : (R k).length = (R 0).length
      · have hlen : ((R k).length : Int) = ((R 0).length : Int) := by omega
        by_cases ho : okR (R k) = true
        · have T0 := Lib.hid ((trim_nil (R k)).2 ho)
          have hk0 : rowE R k = 0 := by simp [rowE, he, ho]
          go_wp2_with (go_at_call 53; refine (trim_any (R k) _ lk).mono ?_; rintro e w2 ⟨rfl, hb2⟩; rw [T0.out])
          have R2 := Lib.hid (HB.out.trans (hb2.mono hsz))
          clear hb2
          go_roundw
          case rel => exact ⟨k + 1, by omega, by go_num, fun j hj => by
            by_cases e : j = k
            · subst e; exact hk0
            · exact HZ.out j (by omega), R2.out⟩
          case measure => simp [intOf]; omega
        · have T0 : Lib.trimS (R k) [35, 46] ≠ [] := fun h => ho ((trim_nil (R k)).1 h)
          have hk0 : rowE R k = 9 := by simp [rowE, he, ho]
          have e9 : E = 9 := by
            rw [← HE.out]; unfold rowsE
            rw [if_neg h2, firstR_hit hlt HZ.out (by rw [hk0]; decide), hk0]
            simp
          subst e9
          obtain ⟨T, hT⟩ : ∃ T, Lib.trimS (R k) [35, 46] = T := ⟨_, rfl⟩
          rw [hT] at T0
          have HT := Lib.hid hT
          clear hT
          have hne : T.isEmpty = false := by cases T <;> simp_all
          go_wp2_with (go_at_call 53; refine (trim_any (R k) _ lk).mono ?_; rintro e w2 ⟨rfl, hb2⟩; rw [HT.out])
          go_ret
          exact ⟨rfl, HB.out.trans (hb2.mono hsz)⟩
      · have hk0 : rowE R k = 3 := by simp [rowE, he]
        have e3 : E = 3 := by
          rw [← HE.out]; unfold rowsE
          rw [if_neg h2, firstR_hit hlt HZ.out (by rw [hk0]; decide), hk0]
          simp
        subst e3
        have hlen : (((R k).length : Int) != ((R 0).length : Int)) = true := by simp; omega
        have hlen2 : ¬ ((R k).length : Int) = ((R 0).length : Int) := by omega
        go_wp2
        go_ret
        exact ⟨rfl, HB.out⟩
    · obtain rfl : n = k := by omega
      have c1 := cellk hbel hb hb0
      have f0 : firstR (rowE R) n = 0 := firstR_none HZ.out
      have hbw : b < wr.heap.size := by omega
      have hpos : (0 : Int) < (n : Int) := by omega
      by_cases hw : 200 < (R 0).length
      · have e2 : E = 2 := by
          rw [← HE.out]; unfold rowsE
          rw [if_neg h2, if_neg (by rw [f0]; simp), if_pos ⟨by omega, hw⟩]
        subst e2
        have hw' : (200 : Int) < ((R 0).length : Int) := by omega
        go_wp2
        go_ret
        exact ⟨rfl, hbel⟩
      · have e2 : E = 0 := by
          rw [← HE.out]; unfold rowsE
          rw [if_neg h2, if_neg (by rw [f0]; simp), if_neg (by omega)]
        subst e2
        have hw' : ¬ (200 : Int) < ((R 0).length : Int) := by omega
        go_wp2
        go_ret
        exact ⟨rfl, hbel⟩
end Go.Proofs.YtllagjncibfcmaaGreatDoor

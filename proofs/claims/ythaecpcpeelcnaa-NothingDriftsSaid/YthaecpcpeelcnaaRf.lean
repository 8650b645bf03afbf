/- A ring that doesn't meet itself, walked. -/
import Derived.Test.YthaecpcpeelcnaaRe
set_option linter.unusedSimpArgs false
set_option linter.unusedVariables false
namespace Go.Proofs.Ythaecpcpeelcnaa
open Go.RowKit

/-- No two sides of a ring meet where they shouldn't. -/
structure NoMeet (n : Nat) (X Y : Nat → Int) : Prop where
  turns : ∀ i, i < n → tbB (X i) (Y i) (X (nx n i)) (Y (nx n i)) (X (nx n i)) (Y (nx n i)) (X (nx n (nx n i))) (Y (nx n (nx n i))) = false
  far : ∀ i k, i + 2 ≤ k → k < n → ¬ (i = 0 ∧ k + 1 = n) → (oB (X i) (X (nx n i)) (X k) (X (nx n k)) && oB (Y i) (Y (nx n i)) (Y k) (Y (nx n k))) = false
set_option maxRecDepth 100000 in
set_option maxHeartbeats 8000000 in
theorem meetsItself_no (b off n c : Nat) (X Y : Nat → Int) (w : World) (hb : b < w.heap.size) (hd : Du w b off n X Y) (h3 : 3 ≤ n) (hn : n ≤ 1000) (hs : ∀ i, i < n → sm (X i) ∧ sm (Y i)) (hm : NoMeet n X Y) :
    Calls Try.prog 54 #[.slice (some ⟨b, off, none⟩) n c] w fun e w' => e = .returned (.bool false) ∧ Below w.heap.size w w' := by
  have HS := Lib.hid hs
  have HM := Lib.hid hm
  clear hs hm
  go_enter Try.func54, Try.ntmps54
  go_wp2_with (fail)
  refine (sidesOf_any b off n c X Y w hb hd hn).mono ?_
  rintro e w1 ⟨a, c', rfl, ho, hb1⟩
  obtain ⟨g, rfl, hg, hgl, hq⟩ := own_qu ho (by omega)
  have HQ := Lib.hid hq
  have B1 := Lib.hid hb1
  have hs1 := hb1.size
  have hw1 : IntKind.i64.wrap ((n : Int) - 1) = (n : Int) - 1 := w64 (by omega)
  clear ho hq hb1 hd
  go_wp2_with (fail)
  go_loopw [16] (fun i wr => ∃ k : Nat, k ≤ n ∧ i = .int .i64 k ∧ Below w1.heap.size w1 wr) (fun i _ => n - (intOf i).toNat)
  case atStart => exact ⟨0, by omega, rfl, Below.refl _ _⟩
  case round =>
    obtain ⟨wo, hwo⟩ : ∃ wo : World, wr = wo := ⟨_, rfl⟩
    obtain ⟨i, hi, rfl, hbel⟩ := hrel
    rw [hwo] at hbel ⊢
    clear hwo
    have hsz := hbel.size
    by_cases hlt : i < n
    · obtain ⟨q0, q1, q2, q3⟩ := (HQ.out.kept hbel hgl) i hlt
      have hx := nx_lt hlt
      obtain ⟨r0, r1, r2, r3⟩ := (HQ.out.kept hbel hgl) (nx n i) hx
      have hmod := nx_mod n i
      have T1 := Lib.hid (HM.out.turns i hlt)
      have hgw : g < wo.heap.size := by omega
      have hge : g ≠ wo.heap.size := by omega
      obtain ⟨m, hmm⟩ : ∃ m, nx n i = m := ⟨_, rfl⟩
      rw [hmm] at hx r0 r1 r2 r3 hmod q2 q3
      have HMM := Lib.hid hmm
      have hx2 := nx_lt hx
      have s0 := HS.out i hlt
      have s1 := HS.out m hx
      have s2 := HS.out (nx n m) hx2
      have T2 : Hid (tbB (X i) (Y i) (X m) (Y m) (X m) (Y m) (X (nx n m)) (Y (nx n m)) = false) := Lib.hid (by have := T1.out; rw [hmm] at this; exact this)
      clear hmm T1
      have hwi : IntKind.i64.wrap ((i : Int) + 1) = (i : Int) + 1 := w64 (by omega)
      have hwi2 : IntKind.i64.wrap ((i : Int) + 2) = (i : Int) + 2 := w64 (by omega)
      have hn0 : ¬ n = 0 := by omega
      have hm0 : (0 : Int) ≤ (m : Int) := by omega
      have hm1 : (m : Int) < (n : Int) := by omega
      have HB := Lib.hid hbel
      clear hbel
      go_upto_region 6 with (fail)
      have p0 : (wo.alloc (.cells #[.int .i64 (X i), .int .i64 (Y i), .int .i64 (X m), .int .i64 (Y m)] 94)).cell? ⟨wo.heap.size, 0, none⟩ = some (.int .i64 (X i)) := by simp [go_sem]
      have p1 : (wo.alloc (.cells #[.int .i64 (X i), .int .i64 (Y i), .int .i64 (X m), .int .i64 (Y m)] 94)).cell? ⟨wo.heap.size, 1, none⟩ = some (.int .i64 (Y i)) := by simp [go_sem]
      have p2 : (wo.alloc (.cells #[.int .i64 (X i), .int .i64 (Y i), .int .i64 (X m), .int .i64 (Y m)] 94)).cell? ⟨wo.heap.size, 2, none⟩ = some (.int .i64 (X m)) := by simp [go_sem]
      have p3 : (wo.alloc (.cells #[.int .i64 (X i), .int .i64 (Y i), .int .i64 (X m), .int .i64 (Y m)] 94)).cell? ⟨wo.heap.size, 3, none⟩ = some (.int .i64 (Y m)) := by simp [go_sem]
      have e0 : (wo.alloc (.cells #[.int .i64 (X i), .int .i64 (Y i), .int .i64 (X m), .int .i64 (Y m)] 94)).cell? ⟨g, m * 4, none⟩ = some (.int .i64 (X m)) := by rw [World.cell?_alloc_old wo _ ⟨g, m * 4, none⟩ hge]; exact r0
      have e1 : (wo.alloc (.cells #[.int .i64 (X i), .int .i64 (Y i), .int .i64 (X m), .int .i64 (Y m)] 94)).cell? ⟨g, m * 4 + 1, none⟩ = some (.int .i64 (Y m)) := by rw [World.cell?_alloc_old wo _ ⟨g, m * 4 + 1, none⟩ hge]; exact r1
      have e2 : (wo.alloc (.cells #[.int .i64 (X i), .int .i64 (Y i), .int .i64 (X m), .int .i64 (Y m)] 94)).cell? ⟨g, m * 4 + 2, none⟩ = some (.int .i64 (X (nx n m))) := by rw [World.cell?_alloc_old wo _ ⟨g, m * 4 + 2, none⟩ hge]; exact r2
      have e3 : (wo.alloc (.cells #[.int .i64 (X i), .int .i64 (Y i), .int .i64 (X m), .int .i64 (Y m)] 94)).cell? ⟨g, m * 4 + 3, none⟩ = some (.int .i64 (Y (nx n m))) := by rw [World.cell?_alloc_old wo _ ⟨g, m * 4 + 3, none⟩ hge]; exact r3
      have HB2 := Lib.hid (HB.out.alloc hsz (.cells #[.int .i64 (X i), .int .i64 (Y i), .int .i64 (X m), .int .i64 (Y m)] 94))
      have hs2 : (wo.alloc (.cells #[.int .i64 (X i), .int .i64 (Y i), .int .i64 (X m), .int .i64 (Y m)] 94)).heap.size = wo.heap.size + 1 := by simp
      change Code.wp _ _ _ _ (wo.alloc (.cells #[.int .i64 (X i), .int .i64 (Y i), .int .i64 (X m), .int .i64 (Y m)] 94))
      generalize (wo.alloc (.cells #[.int .i64 (X i), .int .i64 (Y i), .int .i64 (X m), .int .i64 (Y m)] 94)) = w2 at *
      have hz2' : wo.heap.size < w2.heap.size := by omega
      have hz3' : g < w2.heap.size := by omega
      clear hs2 q0 q1 q2 q3 r0 r1 r2 r3
      go_cut [30] from 17 to 30 (fun s30 wx => s30 = .bool false ∧ Below w2.heap.size w2 wx)
      case first =>
        go_region_held3 (fun w' => w'.cell? ⟨wo.heap.size, 0, none⟩ = some (.int .i64 (X i)) ∧ w'.cell? ⟨wo.heap.size, 1, none⟩ = some (.int .i64 (Y i)) ∧ w'.cell? ⟨wo.heap.size, 2, none⟩ = some (.int .i64 (X m)) ∧ w'.cell? ⟨wo.heap.size, 3, none⟩ = some (.int .i64 (Y m)) ∧ w'.cell? ⟨g, m * 4, none⟩ = some (.int .i64 (X m)) ∧ w'.cell? ⟨g, m * 4 + 1, none⟩ = some (.int .i64 (Y m)) ∧ w'.cell? ⟨g, m * 4 + 2, none⟩ = some (.int .i64 (X (nx n m))) ∧ w'.cell? ⟨g, m * 4 + 3, none⟩ = some (.int .i64 (Y (nx n m))))
          (first
            | with_reducible exact ⟨p0, p1, p2, p3, e0, e1, e2, e3⟩
            | with_reducible assumption
            | with_reducible exact ⟨cellk Bx hz2' p0, cellk Bx hz2' p1, cellk Bx hz2' p2, cellk Bx hz2' p3, cellk Bx hz3' e0, cellk Bx hz3' e1, cellk Bx hz3' e2, cellk Bx hz3' e3⟩
            | go_keep)
          (first
            | (go_at_call 60; refine (turnsBack_any (X i) (Y i) (X m) (Y m) (X m) (Y m) (X (nx n m)) (Y (nx n m)) _ s0.1 s0.2 s1.1 s1.2 s1.1 s1.2 s2.1 s2.2).mono ?_; rintro e wx ⟨rfl, hbx⟩; rw [T2.out]; have Bx' : Below w2.heap.size w2 wx := Below.trans (by repeat (first | with_reducible exact Bx | with_reducible exact Below.refl _ _ | with_reducible refine Below.drew ?_ | with_reducible refine bdrewN ?_ _)) (hbx.mono (Below.size (B := w2.heap.size) (by repeat (first | with_reducible exact Bx | with_reducible exact Below.refl _ _ | with_reducible refine Below.drew ?_ | with_reducible refine bdrewN ?_ _)))); have Bx := Bx'; clear hbx Bx'))
        all_goals (go_wp2_with (fail))
        all_goals go_meet
        all_goals exact ⟨rfl, Bx⟩
      case rest =>
        obtain ⟨rfl, hbc⟩ := hcut
        have hcs := hbc.size
        replace p0 := cellk hbc hz2' p0
        replace p1 := cellk hbc hz2' p1
        replace p2 := cellk hbc hz2' p2
        replace p3 := cellk hbc hz2' p3
        have HB3 := Lib.hid (HB2.out.trans (hbc.mono HB2.out.size))
        have lp : wo.heap.size < wc.heap.size := by omega
        have hs3 := HB3.out.size
        clear hbc e0 e1 e2 e3 hz2' hz3'
        go_wp2_with (fail)
        go_loopw [7] (fun s wr => ∃ k : Nat, i + 2 ≤ k ∧ k ≤ n + 1 ∧ s = .int .i64 k ∧ Below wc.heap.size wc wr) (fun s _ => n + 1 - (intOf s).toNat)
        case atStart => exact ⟨i + 2, by omega, by omega, by go_num, Below.refl _ _⟩
        case round =>
          obtain ⟨k, hk, hk2, rfl, hbk⟩ := hrel
          have hks := hbk.size
          by_cases hkn : k < n
          · have hle : (k : Int) ≤ (n : Int) - 1 := by omega
            have HBK := Lib.hid (HB3.out.trans (hbk.mono HB3.out.size))
            have u0 := cellk hbk lp p0
            have u1 := cellk hbk lp p1
            have u2 := cellk hbk lp p2
            have u3 := cellk hbk lp p3
            obtain ⟨k0, k1, k2, k3⟩ := (HQ.out.kept HBK.out hgl) k hkn
            have lpk : wo.heap.size < wr.heap.size := by omega
            have lgk : g < wr.heap.size := by omega
            have HBW := Lib.hid hbk
            have hwk : IntKind.i64.wrap ((k : Int) + 1) = (k : Int) + 1 := w64 (by omega)
            clear hbk
            by_cases su : i = 0 ∧ k + 1 = n
            · have hi0 : ((i : Int) == 0) = true := by simp; omega
              have hk1 : ((k : Int) == (n : Int) - 1) = true := by simp; omega
              go_upto_region 12 with (fail)
              go_quiet (fail)
              go_wp2_with (fail)
              go_roundw
              case rel => exact ⟨k + 1, by omega, by omega, by go_num, bdrewN HBW.out _⟩
              case measure => simp [intOf]; omega
            · go_upto_region 11 with (fail)
              go_cut [8] from 38 to 44 (fun s8 wx => s8 = .bool false ∧ wr = wx)
              case first =>
                by_cases hi : i = 0
                · have hi0 : ((i : Int) == 0) = true := by simp; omega
                  have hk1 : ((k : Int) == (n : Int) - 1) = false := by simp; omega
                  go_wp2_with (fail)
                  go_meet
                  exact ⟨rfl, rfl⟩
                · have hi0 : ((i : Int) == 0) = false := by simp; omega
                  go_wp2_with (fail)
                  go_meet
                  exact ⟨rfl, rfl⟩
              case rest =>
                obtain ⟨rfl, rfl⟩ := hcut
                have hkx := nx_lt hkn
                have a2 := HS.out k hkn
                have a3 := HS.out (nx n k) hkx
                have FR := Lib.hid (HM.out.far i k hk hkn su)
                rw [HMM.out] at FR
                go_upto_region 12 with (fail)
                go_cut [54] from 45 to 54 (fun s54 wx => s54 = .bool false ∧ Below wr.heap.size wr wx)
                case first =>
                  go_region_held3 (fun w' => w'.cell? ⟨wo.heap.size, 0, none⟩ = some (.int .i64 (X i)) ∧ w'.cell? ⟨wo.heap.size, 1, none⟩ = some (.int .i64 (Y i)) ∧ w'.cell? ⟨wo.heap.size, 2, none⟩ = some (.int .i64 (X m)) ∧ w'.cell? ⟨wo.heap.size, 3, none⟩ = some (.int .i64 (Y m)) ∧ w'.cell? ⟨g, k * 4, none⟩ = some (.int .i64 (X k)) ∧ w'.cell? ⟨g, k * 4 + 1, none⟩ = some (.int .i64 (Y k)) ∧ w'.cell? ⟨g, k * 4 + 2, none⟩ = some (.int .i64 (X (nx n k))) ∧ w'.cell? ⟨g, k * 4 + 3, none⟩ = some (.int .i64 (Y (nx n k))))
                    (first
                      | with_reducible exact ⟨u0, u1, u2, u3, k0, k1, k2, k3⟩
                      | with_reducible assumption
                      | with_reducible exact ⟨cellk Bx lpk u0, cellk Bx lpk u1, cellk Bx lpk u2, cellk Bx lpk u3, cellk Bx lgk k0, cellk Bx lgk k1, cellk Bx lgk k2, cellk Bx lgk k3⟩
                      | go_keep)
                    (first
                      | (go_at_call 56; refine (meets_far (X i) (Y i) (X m) (Y m) (X k) (Y k) (X (nx n k)) (Y (nx n k)) _ s0.1 s0.2 s1.1 s1.2 a2.1 a2.2 a3.1 a3.2 FR.out).mono ?_; rintro e wx ⟨rfl, hbx⟩; have Bx' : Below wr.heap.size wr wx := Below.trans (by repeat (first | with_reducible exact Bx | with_reducible exact Below.refl _ _ | with_reducible refine Below.drew ?_ | with_reducible refine bdrewN ?_ _)) (hbx.mono (Below.size (B := wr.heap.size) (by repeat (first | with_reducible exact Bx | with_reducible exact Below.refl _ _ | with_reducible refine Below.drew ?_ | with_reducible refine bdrewN ?_ _)))); have Bx := Bx'; clear hbx Bx'))
                  all_goals (go_wp2_with (fail))
                  all_goals go_meet
                  all_goals exact ⟨rfl, Bx⟩
                case rest =>
                  obtain ⟨rfl, hbc4⟩ := hcut
                  have HB5 := Lib.hid (HBW.out.trans (hbc4.mono HBW.out.size))
                  clear hbc4
                  go_wp2_with (fail)
                  go_roundw
                  case rel => exact ⟨k + 1, by omega, by omega, by go_num, HB5.out⟩
                  case measure => simp [intOf]; omega
          · have hle : ¬ (k : Int) ≤ (n : Int) - 1 := by omega
            have HBK := Lib.hid (HB3.out.trans (hbk.mono HB3.out.size))
            go_wp2_with (fail)
            go_roundw
            case rel => exact ⟨i + 1, by omega, by go_num, HBK.out⟩
            case measure => simp [intOf]; omega
    · obtain rfl : n = i := by omega
      have R := Lib.hid (B1.out.trans (hbel.mono hs1))
      go_wp2
      go_ret
      exact ⟨rfl, R.out⟩
end Go.Proofs.Ythaecpcpeelcnaa

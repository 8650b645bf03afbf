/- The law FastestIsWithin. -/
import Derived.Test.YthaecpcpeelcnaaBj
import Derived.Test.YthaecpcpeelcnaaBe
import Derived.Test.YthaecpcpeelcnaaZv
import Derived.Deep.Cut
import Derived.BigQuiet
import Derived.Deep.QuietTactic
set_option linter.unusedSimpArgs false
set_option linter.unusedVariables false
namespace Go.Proofs.Ythaecpcpeelcnaa
open Go.RowKit
theorem fst_facts {f s : Int} (hf : 1 ≤ f ∧ f ≤ 20000000) (hs : 1 ≤ s ∧ s ≤ 25000000) : (0 ≤ f / s ∧ f / s ≤ 20000000) ∧ f / s * s ≤ f ∧ f < (f / s + 1) * s ∧ (f / s + 1) * s ≤ 45000000 := by
  have h1 : f / s * s ≤ f := Int.ediv_mul_le f (by omega)
  have h2 : f < (f / s + 1) * s := Int.lt_ediv_add_one_mul_self f (by omega)
  have h3 : (f / s + 1) * s = f / s * s + s := by rw [Int.add_mul, Int.one_mul]
  have h4 : f / s ≤ f := Int.ediv_le_self _ (by omega)
  have h5 : 0 ≤ f / s := Int.ediv_nonneg (by omega) (by omega)
  omega
set_option maxRecDepth 100000 in
set_option maxHeartbeats 16000000 in
theorem fastestIsWithin_walk (a0 : Option Addr) (len0 cap0 : Nat) (z0 : List Int) (w : World) (w0 : IsRow .i64 w a0 len0 cap0 z0) :
    Calls Try.prog 3 #[.slice a0 len0 cap0] w fun e w' => e = .returned (.bool true) ∧ Below w.heap.size w w' := by
  have HS0 := Lib.hid (Strm.start w0)
  go_enter Try.func3, Try.ntmps3
  go_wp2_with (fail)
  have HM0 : Hid (Mut (· = w.heap.size) w (w.alloc (.cells #[.slice a0 len0 cap0, .int .i64 0] 25))) := Lib.hid ((Mut.refl _ w).alloc _)
  generalize (w.alloc (.cells #[.slice a0 len0 cap0, .int .i64 0] 25)) = ws at *
  obtain ⟨B, hBw⟩ : ∃ B, B = w.heap.size := ⟨_, rfl⟩
  rw [← hBw] at HS0 HM0 ⊢
  have HBW := Lib.hid hBw
  clear hBw
  refine (beadList_any B 0 _ HS0.out (by omega)).mono ?_
  rintro e w1 ⟨a, n, c, L, W', H, rfl, hn6, hcn, hp, hfa, hst, hmt⟩
  have HP := Lib.hid hp
  have HFA := Lib.hid hfa
  have HS := Lib.hid hst
  have HM := Lib.hid (HM0.out.trans (hmt.mono fun _ _ h => h))
  clear hp hfa hst hmt HS0 HM0
  go_wp2_with (fail)
  refine (pick_atV B _ [1, 1000, 90000, 20000000] 4 (fun x => 1 ≤ x ∧ x ≤ 20000000) w1 _ rfl HS.out (by omega) rfl (by omega) (by omega) (by simp)).mono ?_
  rintro e w2 ⟨⟨f, rfl, hf⟩, hst, hmt⟩
  replace HP := Lib.hid (HP.out.mut hmt HFA.out)
  have BW := Lib.hid ((HM.out.trans (hmt.mono fun _ _ h => h)).toBelow B (by rw [HBW.out]; exact Nat.le_refl _) (fun k hk e => by omega))
  rw [HBW.out] at BW
  try rw [HBW.out]
  clear hst hmt HBW HM HS HFA
  go_wp2_with (fail)
  refine (beadsFault_any a n c L W' H _ (by omega) HP.out).mono ?_
  rintro e w3 ⟨rfl, hb⟩
  replace HP := Lib.hid (HP.out.kept hb)
  replace BW := Lib.hid (BW.out.trans (hb.mono BW.out.size))
  clear hb
  by_cases hz : bdE n L W' H = 0
  · have OK : Hid (BdOk n L W' H) := Lib.hid (bdE_ok hz).2
    have HF0 := Lib.hid (show fsE n L W' H f = 0 by
      have hx : inB f 1 1000000000000 = true := inB_yes.2 ⟨hf.1, by omega⟩
      unfold fsE orE spanE; rw [if_pos hz, hx]; rfl)
    have hz' : (bdE n L W' H != 0) = false := by simp [hz]
    have HF := Lib.hid hf
    clear hz
    go_wp2_with (fail)
    refine (Fastest_any a n c L W' H f _ (by omega) HP.out).mono ?_
    rintro e w4 ⟨h1, -, hb⟩
    obtain ⟨ao, co, rfl, hown⟩ := h1 HF0.out
    have HO := Lib.hid hown
    have hl3 := hb.size
    replace HP := Lib.hid (HP.out.kept hb)
    replace BW := Lib.hid (BW.out.trans (hb.mono BW.out.size))
    clear hb h1 hown
    have enn : ((n : Int) != (n : Int)) = false := by simp
    go_wp2_with (fail)
    go_loopw [40] (fun iv wr => ∃ k : Nat, k ≤ n ∧ iv = .int .i64 k ∧ Below w4.heap.size w4 wr) (fun iv _ => n - (intOf iv).toNat)
    case atStart => exact ⟨0, by omega, rfl, Below.refl _ _⟩
    case round =>
      obtain ⟨k, hk, rfl, hbel⟩ := hrel
      have HB := Lib.hid hbel
      clear hbel
      by_cases hlt : k < n
      · have HPr := Lib.hid (HP.out.kept HB.out)
        have HOr := Lib.hid (ownsRow_below HO.out HB.out)
        rcases HPr.out with h0 | ⟨b, off, rfl, hb, hd⟩
        · omega
        obtain ⟨-, c1, c2⟩ := hd k hlt
        obtain ⟨g, cap', hvv, -, hgl⟩ := HOr.out.form (by omega)
        cases hvv
        have v0 : wr.cell? ⟨g, k, none⟩ = some (.int .i64 (f / (W' k * H k))) := (HOr.out.cellAt k (by omega)).trans (vs_get _ _ _ hlt)
        obtain ⟨_, oy, oz⟩ := OK.out k hlt
        have b1 := sect_bnd oy oz
        have e1 : IntKind.i64.wrap (W' k * H k) = W' k * H k := i64w (by omega)
        obtain ⟨s, hs⟩ : ∃ s, W' k * H k = s := ⟨_, rfl⟩
        rw [hs] at v0 e1 b1
        obtain ⟨hq, t1, t2, t3⟩ := fst_facts HF.out b1
        obtain ⟨q, hqq⟩ : ∃ q, f / s = q := ⟨_, rfl⟩
        rw [hqq] at v0 hq t1 t2 t3
        obtain ⟨u, hu⟩ : ∃ u, q * s = u := ⟨_, rfl⟩
        obtain ⟨u2, hu2⟩ : ∃ u, (q + 1) * s = u := ⟨_, rfl⟩
        have hu0 : 0 ≤ u := by rw [← hu]; exact Int.mul_nonneg (by omega) (by omega)
        have e2 : IntKind.i64.wrap (q * s) = u := by rw [hu]; exact i64w (by omega)
        have e3 : IntKind.i64.wrap ((q + 1) * s) = u2 := by rw [hu2]; exact i64w (by omega)
        have t4 : ¬ (u > f) := by omega
        have t5 : ¬ (u2 ≤ f) := by omega
        have hff := HF.out
        clear t1 t2 t3 hu hu2 hqq hd oy oz
        go_wp2_with (fail)
        go_quiet (fail)
        go_wp2_with (fail)
        go_roundw
        case rel => exact ⟨k + 1, by omega, by go_num, bdrewN HB.out _⟩
        case measure => simp [intOf] <;> omega
      · obtain rfl : n = k := by omega
        have BW2 := Lib.hid (BW.out.trans (HB.out.mono BW.out.size))
        go_wp2_with (fail)
        refine (ready_any wr).mono ?_
        rintro e w9 ⟨rfl, hb⟩
        have BW3 := Lib.hid (BW2.out.trans (hb.mono BW2.out.size))
        clear hb
        go_wp2_with (fail)
        go_ret
        exact ⟨rfl, BW3.out⟩
  · have hz' : (bdE n L W' H != 0) = true := by simpa using hz
    go_wp2_with (fail)
    refine (ready_any w3).mono ?_
    rintro e w9 ⟨rfl, hb⟩
    have BW3 := Lib.hid (BW.out.trans (hb.mono BW.out.size))
    clear hb
    go_wp2_with (fail)
    go_ret
    exact ⟨rfl, BW3.out⟩
end Go.Proofs.Ythaecpcpeelcnaa

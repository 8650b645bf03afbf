import Derived.Test.YtdanlnmdkneepaaTb0
import Derived.Test.YtdanlnmdkneepaaUh
import Derived.BigQuiet
import Derived.RegionTactic
import Derived.Laws.StructEq
import Derived.Test.YtdanlnmdkneepaaVj
import Derived.Test.YtdanlnmdkneepaaVs
import Derived.Test.YtdanlnmdkneepaaUt
import Derived.Test.YtdanlnmdkneepaaUv
import Derived.Test.YtdanlnmdkneepaaUy
/- In how many micrometres a speed can be brought to 0. -/
set_option linter.unusedSimpArgs false
set_option linter.unusedVariables false
namespace Go.Proofs.Ytdanlnmdkneepaa
open Go.RowKit

def brE (s c : Int) : Int := if spE s 100000 = 0 then chE c else spE s 100000
def brZ (s c : Int) : Int := if brE s c = 0 then ceilZ (s * s) (2 * c) else 0
theorem br_ok {s c : Int} (h : brE s c = 0) : (0 ≤ s ∧ s ≤ 100000) ∧ (1 ≤ c ∧ c ≤ 10000000) := by
  unfold brE at h
  split at h
  · rename_i h1
    unfold spE at h1
    unfold chE at h
    split at h
    · split at h1
      · omega
      · cases h1
    · cases h
  · rename_i h1; exact absurd h h1
theorem sq_of {s : Int} (h0 : 0 ≤ s) (h1 : s ≤ 100000) : 0 ≤ s * s ∧ s * s ≤ 10000000000 :=
  ⟨Int.mul_nonneg h0 h0, Int.mul_le_mul (c := 100000) (d := 100000) h1 h1 h0 (by omega)⟩
theorem Brake_any (s c : Int) (w : World) : Calls Try.prog 46 #[.int .i64 s, .int .i64 c] w fun e w' => e = .returned (.tuple #[.int .i64 (brZ s c), .int .i64 (brE s c)]) ∧ w = w' := by
  by_cases k1 : spE s 100000 = 0
  · by_cases k2 : chE c = 0
    · have hE : brE s c = 0 := by unfold brE; rw [if_pos k1, k2]
      obtain ⟨hs, hc⟩ := br_ok hE
      have hq := sq_of hs.1 hs.2
      have R := Lib.hid (show brZ s c = ceilZ (s * s) (2 * c) by unfold brZ; rw [if_pos hE])
      have RE := Lib.hid hE
      have K1 := Lib.hid k1
      have K2 := Lib.hid k2
      have e1 : IntKind.i64.wrap (s * s) = s * s := i64w (by omega)
      have e2 : IntKind.i64.wrap (2 * c) = 2 * c := i64w (by omega)
      clear k1 k2 hE
      go_enter Try.func46, Try.ntmps46
      go_wp2_with (go_at_call 83; refine (checkSpeed_any _ _ _).mono ?_; rintro e w' ⟨rfl, rfl⟩; rw [K1.out])
      go_wp2_with (go_at_call 84; refine (checkChange_any _ _).mono ?_; rintro e w' ⟨rfl, rfl⟩; rw [K2.out])
      go_wp2_with (fail)
      refine (Ceil_any (s * s) (2 * c) w hq.1 (by omega) (by omega) (by omega)).mono ?_
      rintro e w' ⟨rfl, rfl⟩
      go_wp2_with (fail)
      exact bodyPost_ret (v := .tuple #[.int .i64 (ceilZ (s * s) (2 * c)), .int .i64 0]) (by simp [results, Try.results46, go_sem]) rfl ⟨by rw [R.out, RE.out], rfl⟩
    · have RE := Lib.hid (show brE s c = chE c by unfold brE; rw [if_pos k1])
      have R := Lib.hid (show brZ s c = 0 by unfold brZ; rw [RE.out, if_neg k2])
      have K1 := Lib.hid k1
      have k2' : (chE c != 0) = true := by simpa using k2
      clear k1 k2
      go_enter Try.func46, Try.ntmps46
      go_wp2_with (go_at_call 83; refine (checkSpeed_any _ _ _).mono ?_; rintro e w' ⟨rfl, rfl⟩; rw [K1.out])
      go_wp2_with (go_at_call 84; refine (checkChange_any _ _).mono ?_; rintro e w' ⟨rfl, rfl⟩)
      go_wp2_with (fail)
      exact bodyPost_ret (v := .tuple #[.int .i64 0, .int .i64 (chE c)]) (by simp [results, Try.results46, go_sem]) rfl ⟨by rw [R.out, RE.out], rfl⟩
  · have RE := Lib.hid (show brE s c = spE s 100000 by unfold brE; rw [if_neg k1])
    have R := Lib.hid (show brZ s c = 0 by unfold brZ; rw [RE.out, if_neg k1])
    have k1' : (spE s 100000 != 0) = true := by simpa using k1
    clear k1
    go_enter Try.func46, Try.ntmps46
    go_wp2_with (go_at_call 83; refine (checkSpeed_any _ _ _).mono ?_; rintro e w' ⟨rfl, rfl⟩)
    go_wp2_with (fail)
    exact bodyPost_ret (v := .tuple #[.int .i64 0, .int .i64 (spE s 100000)]) (by simp [results, Try.results46, go_sem]) rfl ⟨by rw [R.out, RE.out], rfl⟩
theorem BrakeOf_any (s c : Int) (w : World) (h : brE s c = 0) : Calls Try.prog 55 #[.int .i64 s, .int .i64 c] w fun e w' => e = .returned (.int .i64 (brZ s c)) ∧ w = w' := by
  obtain ⟨hs, hc⟩ := br_ok h
  have hq := sq_of hs.1 hs.2
  have hf := flrZ_neg (n := s * s) (d := 2 * c) hq.1 (by omega)
  have hcb : 0 ≤ ceilZ (s * s) (2 * c) ∧ ceilZ (s * s) (2 * c) ≤ s * s := by
    rw [← ceil_go hq.1 (by omega), Int.tdiv_eq_ediv_of_nonneg hq.1, Int.tmod_eq_emod_of_nonneg hq.1]
    have h0 := Int.ediv_nonneg hq.1 (show 0 ≤ 2 * c by omega)
    have h1 := Int.mul_ediv_add_emod (s * s) (2 * c)
    have h2 := Int.emod_nonneg (s * s) (show 2 * c ≠ 0 by omega)
    have h3 : 0 ≤ (c - 1) * (s * s / (2 * c)) := Int.mul_nonneg (by omega) h0
    have h4 : 2 * c * (s * s / (2 * c)) = 2 * ((c - 1) * (s * s / (2 * c))) + 2 * (s * s / (2 * c)) := by
      rw [Int.sub_mul, Int.mul_assoc]; omega
    generalize s * s / (2 * c) = q at *
    generalize (c - 1) * q = p at *
    generalize 2 * c * q = r at *
    split <;> omega
  have R := Lib.hid (show -flrZ (s * s) (2 * c) = brZ s c by unfold brZ; rw [if_pos h, hf])
  have e0 : IntKind.i64.wrap (-s) = -s := i64w (by omega)
  have e3 : -s * s = -(s * s) := Int.neg_mul ..
  have e1 : IntKind.i64.wrap (-(s * s)) = -(s * s) := i64w (by omega)
  have e2 : IntKind.i64.wrap (2 * c) = 2 * c := i64w (by omega)
  have e4 : IntKind.i64.wrap (-flrZ (s * s) (2 * c)) = -flrZ (s * s) (2 * c) := i64w (by omega)
  clear hf hcb
  go_enter Try.func55, Try.ntmps55
  go_wp2_with (fail)
  refine (floor_any (s * s) (2 * c) w hq.1 (by omega) (by omega) (by omega)).mono ?_
  rintro e w' ⟨rfl, rfl⟩
  go_wp2_with (fail)
  go_ret
  exact ⟨ret_int R.out, rfl⟩
end Go.Proofs.Ytdanlnmdkneepaa

/- Two slices of legs compared. -/
set_option linter.unusedSimpArgs false
set_option linter.unusedVariables false
namespace Go.Proofs.Ytdanlnmdkneepaa
open Go.RowKit

theorem st_leg : Try.prog.stoodInHeld 83 = false := by kernel_rfl
theorem gd_leg : Try.prog.eqGuardType Try.prog.depth 83 = false := by kernel_rfl
theorem neq_leg_self (x y : Int) (w : World) : (Go.binOp .neq 83 (.agg #[.int .i64 x, .int .i64 y]) (.agg #[.int .i64 x, .int .i64 y])).run Try.prog w = Result.ok (.bool false) w := by
  rw [run_neq_struct, run_equalIn_agg (ht := by kernel_rfl) (hp := st_leg)]
  simp [go_sem]
theorem eql_leg_self (x y : Int) (w : World) : (Go.binOp .eql 83 (.agg #[.int .i64 x, .int .i64 y]) (.agg #[.int .i64 x, .int .i64 y])).run Try.prog w = Result.ok (.bool true) w := by
  rw [run_eql_struct, run_equalIn_agg (ht := by kernel_rfl) (hp := st_leg)]
  simp [go_sem]
set_option maxRecDepth 100000 in
set_option maxHeartbeats 4000000 in
theorem equalL_any (a b : Option Addr) (n c d : Nat) (X Y : Nat → Int) (w : World) (ha : LegsR w a n X Y) (hb : LegsR w b n X Y) (hn : n ≤ 1000000) :
    Calls Try.prog 63 #[.slice a n c, .slice b n d] w fun e w' => e = .returned (.bool true) ∧ Below w.heap.size w w' := by
  have HA := Lib.hid ha
  have HB := Lib.hid hb
  clear ha hb
  go_enter Try.func63, Try.ntmps63
  go_wp2
  go_loopw [13] (fun i wr => ∃ k : Nat, k ≤ n ∧ i = .int .i64 k ∧ Below w.heap.size w wr) (fun i _ => n - (intOf i).toNat)
  case atStart => exact ⟨0, by omega, rfl, (by repeat (first | exact Below.refl _ _ | assumption | refine Below.drew ?_ | refine bdrewN ?_ _ | refine Below.setCell ?_ (by first | omega | (simp <;> omega)) _ | refine Below.alloc ?_ (by first | omega | (simp <;> omega)) _))⟩
  case round =>
    obtain ⟨k, hk, rfl, hbel⟩ := hrel
    have hsz := hbel.size
    by_cases hlt : k < n
    · rcases HA.out with h | ⟨ba, oa, rfl, hba, ca⟩
      · omega
      rcases HB.out with h | ⟨bb, ob, rfl, hbb, cb⟩
      · omega
      obtain ⟨c0, c1⟩ := (Du.kept ca hbel hba) k hlt
      obtain ⟨d0, d1⟩ := (Du.kept cb hbel hbb) k hlt
      have l1 : ba < wr.heap.size := by omega
      have l2 : bb < wr.heap.size := by omega
      have hE := fun wx => neq_leg_self (X k) (Y k) wx
      have hG := gd_leg
      have hi0 : (0 : Int) ≤ (k : Int) := by omega
      have hi1 : (k : Int) < (n : Int) := by omega
      clear ca cb
      have HBL := Lib.hid hbel
      clear hbel
      go_wp2
      go_quiet (fail)
      go_wp2
      go_roundw
      case rel => exact ⟨k + 1, by omega, by go_num, bdrewN HBL.out _⟩
      case measure => simp [intOf]; omega
    · obtain rfl : n = k := by omega
      go_wp2
      go_ret
      exact ⟨rfl, hbel⟩
end Go.Proofs.Ytdanlnmdkneepaa

/- Two slices of numbers compared. -/
set_option linter.unusedSimpArgs false
set_option linter.unusedVariables false
namespace Go.Proofs.Ytdanlnmdkneepaa
open Go.RowKit
set_option maxRecDepth 100000 in
set_option maxHeartbeats 4000000 in
theorem equalV_any (a1 a2 : Option Addr) (n c1 c2 : Nat) (U V : Nat → Int) (w : World) (hn : n ≤ 1000) (h1 : IntsR w a1 n U) (h2 : IntsR w a2 n V) (he : ∀ i, i < n → U i = V i) :
    Calls Try.prog 23 #[.slice a1 n c1, .slice a2 n c2] w fun e w' => e = .returned (.bool true) ∧ Below w.heap.size w w' := by
  have H1 := Lib.hid h1
  have H2 := Lib.hid h2
  have HE := Lib.hid he
  clear h1 h2 he
  go_enter Try.func23, Try.ntmps23
  go_wp2_with (fail)
  go_loopw [13] (fun i wr => ∃ t : Nat, t ≤ n ∧ i = .int .i64 t ∧ Below w.heap.size w wr) (fun i _ => n - (intOf i).toNat)
  case atStart => exact ⟨0, by omega, rfl, Below.refl _ _⟩
  case round =>
    obtain ⟨t, ht, rfl, hbel⟩ := hrel
    have HB := Lib.hid hbel
    have hsz := hbel.size
    clear hbel
    by_cases hlt : t < n
    · rcases H1.out with h | ⟨b, off, rfl, hb, hd⟩
      · omega
      rcases H2.out with h | ⟨b2, off2, rfl, hb2, hd2⟩
      · omega
      have k0 := cellk HB.out hb (hd t hlt)
      have k1 := cellk HB.out hb2 (hd2 t hlt)
      rw [← HE.out t hlt] at k1
      clear hd hd2
      have hne : (U t != U t) = false := by simp
      go_wp2_with (fail)
      refine wp_region_held_drew (S := (fun w' => w'.cell? ⟨b, off + t, none⟩ = some (.int .i64 (U t)) ∧ w'.cell? ⟨b2, off2 + t, none⟩ = some (.int .i64 (U t)))) (by kernel_rfl) ⟨k0, k1⟩ (fun hHeld => ?_)
      refine tkH (by assumption) 0 (oi := ?_) (v := ?_) ?_ ?_ ?_ ?_ ?_ ?_ ?_ ?_; rotate_left 2; (simp only [gA, gB, gC]; exact rfl); kernel_rfl; kernel_rfl; kernel_rfl; exact fun _ _ _ h => h; rfl; (intro w' hSw; (try dsimp only at hSw); go_simp; with_reducible rfl); simp only [Act.put, pB, pC, pD]
      refine tkH (by assumption) 1 (oi := ?_) (v := ?_) ?_ ?_ ?_ ?_ ?_ ?_ ?_ ?_; rotate_left 2; (simp only [gA, gB, gC]; exact rfl); kernel_rfl; kernel_rfl; kernel_rfl; exact fun _ _ _ h => h; rfl; (intro w' hSw; (try dsimp only at hSw); go_simp; with_reducible rfl); simp only [Act.put, pB, pC, pD]
      refine tkH (by assumption) 2 (oi := ?_) (v := ?_) ?_ ?_ ?_ ?_ ?_ ?_ ?_ ?_; rotate_left 2; (simp only [gA, gB, gC]; exact rfl); kernel_rfl; kernel_rfl; kernel_rfl; exact fun _ _ _ h => h; rfl; (intro w' hSw; (try dsimp only at hSw); go_simp; with_reducible rfl); simp only [Act.put, pB, pC, pD]
      refine tkH (by assumption) 3 (oi := ?_) (v := ?_) ?_ ?_ ?_ ?_ ?_ ?_ ?_ ?_; rotate_left 2; (simp only [gA, gB, gC]; exact rfl); kernel_rfl; kernel_rfl; kernel_rfl; exact fun _ _ _ h => h; rfl; (intro w' hSw; (try dsimp only at hSw); go_simp; with_reducible rfl); simp only [Act.put, pB, pC, pD]
      refine tkH (by assumption) 4 (oi := ?_) (v := ?_) ?_ ?_ ?_ ?_ ?_ ?_ ?_ ?_; rotate_left 2; (simp only [gA, gB, gC]; exact rfl); kernel_rfl; kernel_rfl; kernel_rfl; exact fun _ _ _ h => h; rfl; (intro w' hSw; (try dsimp only at hSw); go_simp; with_reducible rfl); simp only [Act.put, pB, pC, pD]
      refine tkH (by assumption) 5 (oi := ?_) (v := ?_) ?_ ?_ ?_ ?_ ?_ ?_ ?_ ?_; rotate_left 2; (simp only [gA, gB, gC]; exact rfl); kernel_rfl; kernel_rfl; kernel_rfl; exact fun _ _ _ h => h; rfl; (intro w' hSw; (try dsimp only at hSw); go_simp; with_reducible rfl); simp only [Act.put, pB, pC, pD]
      refine tkH (by assumption) 6 (oi := ?_) (v := ?_) ?_ ?_ ?_ ?_ ?_ ?_ ?_ ?_; rotate_left 2; (simp only [gA, gB, gC]; exact rfl); kernel_rfl; kernel_rfl; kernel_rfl; exact fun _ _ _ h => h; rfl; (intro w' hSw; (try dsimp only at hSw); go_simp; with_reducible rfl); simp only [Act.put, pB, pC, pD]
      refine tkH (by assumption) 7 (oi := ?_) (v := ?_) ?_ ?_ ?_ ?_ ?_ ?_ ?_ ?_; rotate_left 2; (simp only [gA, gB, gC]; exact rfl); kernel_rfl; kernel_rfl; kernel_rfl; exact fun _ _ _ h => h; rfl; (intro w' hSw; (try dsimp only at hSw); go_simp; with_reducible rfl); simp only [Act.put, pB, pC, pD]
      refine tkH (by assumption) 8 (oi := ?_) (v := ?_) ?_ ?_ ?_ ?_ ?_ ?_ ?_ ?_; rotate_left 2; (simp only [gA, gB, gC]; exact rfl); kernel_rfl; kernel_rfl; kernel_rfl; exact fun _ _ _ h => h; rfl; (intro w' hSw; (try dsimp only at hSw); go_simp; with_reducible rfl); simp only [Act.put, pB, pC, pD]
      refine wpAnyH_done (by kernel_rfl) ?_ _
      have HB2 := Lib.hid (Below.next_drew HB.out)
      go_wp2_with (fail)
      go_roundw
      case rel => exact ⟨t + 1, by omega, by go_num, HB2.out⟩
      case measure => simp [intOf] <;> omega
    · obtain rfl : n = t := by omega
      go_wp2_with (fail)
      go_ret
      exact ⟨rfl, HB.out⟩
end Go.Proofs.Ytdanlnmdkneepaa

/- Drawn legs and corners, with their capacities. -/
set_option linter.unusedSimpArgs false
set_option linter.unusedVariables false
namespace Go.Proofs.Ytdanlnmdkneepaa
open Go.RowKit
theorem own_cap2 {w : World} {base n c size : Nat} {e : TypeId} {a : Option Addr} {xs : List Value} (h : w.ownsRow base e size (.slice a n c) n xs) : n ≤ c ∧ c ≤ 9223372036854775807 := by
  rcases h.2 with ⟨h2, h0⟩ | ⟨g', cap, cur, hv, hb, hh, hn, hm, _⟩
  · cases h2; omega
  · cases hv; unfold maxLen at hm; omega
theorem own_form3 {w : World} {base n c size : Nat} {e : TypeId} {a : Option Addr} {xs : List Value} (h : w.ownsRow base e size (.slice a n c) n xs) : (a = none ∧ n = 0 ∧ c = 0) ∨ ∃ b off, a = some ⟨b, off, none⟩ := by
  rcases h.2 with ⟨h2, h0⟩ | ⟨g', cap, cur, hv, _⟩
  · cases h2; exact .inl ⟨rfl, rfl, rfl⟩
  · cases hv; exact .inr ⟨g', 0, rfl⟩
/-- A drawn list of legs. -/
def LegsC (w : World) (B k most : Nat) (e : Ending) (w' : World) : Prop := ∃ a n c L M, e = .returned (.slice a n c) ∧ n ≤ most ∧ (n ≤ c ∧ c ≤ 9223372036854775807) ∧ LegsR w' a n L M ∧ (∀ x, a = some x → B < x.block) ∧ Strm w' B k ∧ Mut (· = B) w w'
set_option maxRecDepth 100000 in
set_option maxHeartbeats 8000000 in
theorem legListC_any (B k most : Nat) (w : World) (hs : Strm w B k) (hk : k + 100 ≤ 1000000) (hm1 : 1 ≤ most) (hm : most ≤ 8) :
    Calls Try.prog 41 #[.pointer (some ⟨B, 0, none⟩), .int .i64 most] w (LegsC w B (k + 40) most) := by
  obtain ⟨i0, hi0, hz0, hz1, hz2⟩ := info_parts info_legV
  have hl := hs.lt
  go_enter Try.func41, Try.ntmps41
  go_wp2_with (fail)
  refine (range_any B k 1 most w hs (by omega) (by omega) (by omega) (by omega)).mono ?_
  rintro e w1 ⟨⟨r, rfl, hr0, hr1⟩, hst1, hm1'⟩
  obtain ⟨cn, rfl⟩ := Int.eq_ofNat_of_zero_le (show 0 ≤ r by omega)
  have hc1 : 1 ≤ cn := by omega
  have hc8 : cn ≤ most := by omega
  have HD0 : Hid (DI w w1 B (k + 1) 83 2 none 0 0 []) := Lib.hid ⟨World.ownsRow_nil _ _ _ _, AllI.nil, hst1, hm1', hl⟩
  clear hst1 hm1' hr0 hr1 hs
  go_wp2_with (fail)
  go_loopw [5, 9] (fun v i wr => ∃ (t : Nat) (a : Option Addr) (c : Nat) (xs : List Value), v = .slice a t c ∧ i = .int .i64 t ∧ t ≤ cn ∧ DI w wr B (k + 1 + 2 * t) 83 2 a t c xs) (fun _ i _ => cn - (intOf i).toNat)
  case atStart => exact ⟨0, none, 0, [], rfl, rfl, by omega, HD0.out⟩
  case round =>
    clear HD0
    obtain ⟨t, a, c, xs, rfl, rfl, ht, hd⟩ := hrel
    have HD := Lib.hid hd
    have hsz := hd.size
    clear hd
    by_cases hlt : t < cn
    · go_wp2_with (fail)
      refine (pick_atV B _ [1, 5, 20, 100, 1000] 5 (fun _ => True) wr _ rfl HD.out.s (by omega) rfl (by omega) (by omega) (by simp)).mono ?_
      rintro e w2 ⟨⟨x, rfl, _⟩, hst, hmt⟩
      have HD2 := Lib.hid (HD.out.next hmt hst)
      have hsz2 := hmt.size
      clear hst hmt HD
      go_wp2_with (fail)
      refine (pick_atV B _ [10, 50, 100, 500] 4 (fun _ => True) w2 _ rfl HD2.out.s (by omega) rfl (by omega) (by omega) (by simp)).mono ?_
      rintro e w4 ⟨⟨y, rfl, _⟩, hst, hmt⟩
      have HD3 := Lib.hid (HD2.out.next hmt hst)
      have hsz3 := hmt.size
      clear hst hmt HD2
      go_wp2_with (at_builtin; refine wpList_append_lies _ rfl _ _ 64 rfl w.heap.size 83 i0 (.agg #[.int .i64 0, .int .i64 0]) 2 16 Try.underlying64 hi0 hz0 hz1 hz2 rfl (by decide) _ _ _ rfl (ownsRow_below HD3.out.o ((Below.refl _ w4).alloc (Nat.le_refl _) _)) ⟨w4.heap.size, 0, none⟩ 1 1 [.int .i64 x, .int .i64 y] rfl rfl (World.news_of_block (cs := #[.int .i64 x, .int .i64 y]) (t := 83) (fr := (0, 0)) (heap_alloc_new w4 (.cells #[.int .i64 x, .int .i64 y] 83))) (by simp [Value.oneCell']) (by omega) (by unfold maxLen; omega) (by omega) (by simp; omega) (w4.heap.size + 1) (by simp) ?_; intro g5 c5 w5 hown5 hgrow5 _ hlt5; have HO5 := Lib.hid hown5; have HB5 := Lib.hid (Below.grown (B := w.heap.size) (Below.alloc (B := w.heap.size) (Below.refl _ w4) (by omega) (.cells #[.int .i64 x, .int .i64 y] 83)) hgrow5 (by simp; omega) (fun b hb => ((HD3.out.o).lt b hb).1)); clear hown5 hgrow5)
      have HD5 := Lib.hid (HD3.out.grown HB5.out HO5.out (AllI.two x y))
      clear HD3 HB5 HO5
      go_wp2_with (fail)
      go_roundw
      case rel => exact ⟨t + 1, _, c5, _, rfl, by go_num, by omega, by rw [show k + 1 + 2 * (t + 1) = k + 1 + 2 * t + 1 + 1 by omega]; exact HD5.out⟩
      case measure => simp [intOf] <;> omega
    · obtain rfl : t = cn := by omega
      go_wp2_with (fail)
      refine (flip_any B _ 12 wr HD.out.s (by omega) (by omega) (by omega)).mono ?_
      rintro e w2 ⟨⟨f, rfl⟩, hst, hmt⟩
      have HD2 := Lib.hid (HD.out.next hmt hst)
      clear hst hmt HD
      rcases f with _ | _
      · obtain ⟨L, M, hL⟩ := legs_of_all HD2.out.o HD2.out.x
        have HL := Lib.hid hL
        clear hL
        go_wp2_with (fail)
        go_ret
        exact ⟨a, t, c, L, M, rfl, by omega, own_cap2 HD2.out.o, HL.out, HD2.out.far, HD2.out.s.more (by omega) (by omega), HD2.out.m⟩
      · go_wp2_with (fail)
        refine (next_any B _ 3 w2 HD2.out.s (by omega) (by omega) (by omega)).mono ?_
        rintro e w3 ⟨⟨r, rfl, hr0, hr1⟩, hst, hmt⟩
        have HD3 := Lib.hid (HD2.out.next hmt hst)
        clear hst hmt HD2
        by_cases h0 : r = 0
        · subst h0
          go_wp2_with (fail)
          go_ret
          exact ⟨none, 0, 0, fun _ => 0, fun _ => 0, rfl, by omega, by omega, .inl rfl, (fun x h => by cases h), HD3.out.s.more (by omega) (by omega), HD3.out.m⟩
        · obtain ⟨g, cap', hv, hgb, hgl⟩ := HD3.out.o.form (by omega)
          cases hv
          by_cases h1 : r = 1
          · subst h1
            go_wp2_with (fail)
            refine (next_any B _ t w3 HD3.out.s (by omega) (by omega) (by omega)).mono ?_
            rintro e w4 ⟨⟨q, rfl, hq0, hq1⟩, hst, hmt⟩
            obtain ⟨q, rfl⟩ := Int.eq_ofNat_of_zero_le hq0
            have HD4 := Lib.hid (HD3.out.next hmt hst)
            clear hst hmt HD3
            go_wp2_with (fail)
            refine (oddV_any B _ 1 200000 w4 HD4.out.s (by omega) (by omega) (by omega) (by omega)).mono ?_
            rintro e w5 ⟨⟨x, rfl, _⟩, hst, hmt⟩
            have HD5 := Lib.hid (HD4.out.next hmt hst)
            clear hst hmt HD4
            go_wp2_with (fail)
            refine (pick_atV B _ [10, 100000] 2 (fun _ => True) w5 _ rfl HD5.out.s (by omega) rfl (by omega) (by omega) (by simp)).mono ?_
            rintro e w6 ⟨⟨y, rfl, _⟩, hst, hmt⟩
            have HD6 := Lib.hid (HD5.out.next hmt hst)
            clear hst hmt HD5
            have hq : q < t := by omega
            have c0 := HD6.out.o.cellAt (q * 2) (by omega)
            have c1 := HD6.out.o.cellAt (q * 2 + 1) (by omega)
            have hlen := HD6.out.o.1
            obtain ⟨u0, hu0⟩ : ∃ u, xs[q * 2]? = some u := ⟨_, List.getElem?_eq_getElem (by omega)⟩
            obtain ⟨u1, hu1⟩ : ∃ u, xs[q * 2 + 1]? = some u := ⟨_, List.getElem?_eq_getElem (by omega)⟩
            rw [hu0] at c0
            rw [hu1] at c1
            have f0 := HD6.out.o.frozenAt (q * 2)
            have f1 := HD6.out.o.frozenAt (q * 2 + 1)
            have b1 : (q : Int) < (t : Int) := by omega
            have hs6 := HD6.out.size
            have hg6 := (HD6.out.o.lt g rfl).2
            clear hu0 hu1 hlen
            go_wp2_with (fail)
            have HD7 := Lib.hid ((HD6.out.set (q * 2) x).set (q * 2 + 1) y)
            obtain ⟨L, M, hL⟩ := legs_of_all HD7.out.o HD7.out.x
            go_ret
            exact ⟨some ⟨g, 0, none⟩, t, c, L, M, rfl, by omega, own_cap2 HD7.out.o, hL, HD7.out.far, HD7.out.s.more (by omega) (by omega), HD7.out.m⟩
          · have h1' : (r == 1) = false := by simpa using h1
            have h0' : (r == 0) = false := by simpa using h0
            go_wp2_with (fail)
            refine (next_any B _ t w3 HD3.out.s (by omega) (by omega) (by omega)).mono ?_
            rintro e w4 ⟨⟨q, rfl, hq0, hq1⟩, hst, hmt⟩
            obtain ⟨q, rfl⟩ := Int.eq_ofNat_of_zero_le hq0
            have HD4 := Lib.hid (HD3.out.next hmt hst)
            clear hst hmt HD3
            go_wp2_with (fail)
            refine (pick_atV B _ [5, 200000] 2 (fun _ => True) w4 _ rfl HD4.out.s (by omega) rfl (by omega) (by omega) (by simp)).mono ?_
            rintro e w5 ⟨⟨x, rfl, _⟩, hst, hmt⟩
            have HD5 := Lib.hid (HD4.out.next hmt hst)
            clear hst hmt HD4
            go_wp2_with (fail)
            refine (oddV_any B _ 1 100000 w5 HD5.out.s (by omega) (by omega) (by omega) (by omega)).mono ?_
            rintro e w6 ⟨⟨y, rfl, _⟩, hst, hmt⟩
            have HD6 := Lib.hid (HD5.out.next hmt hst)
            clear hst hmt HD5
            have hq : q < t := by omega
            have c0 := HD6.out.o.cellAt (q * 2) (by omega)
            have c1 := HD6.out.o.cellAt (q * 2 + 1) (by omega)
            have hlen := HD6.out.o.1
            obtain ⟨u0, hu0⟩ : ∃ u, xs[q * 2]? = some u := ⟨_, List.getElem?_eq_getElem (by omega)⟩
            obtain ⟨u1, hu1⟩ : ∃ u, xs[q * 2 + 1]? = some u := ⟨_, List.getElem?_eq_getElem (by omega)⟩
            rw [hu0] at c0
            rw [hu1] at c1
            have f0 := HD6.out.o.frozenAt (q * 2)
            have f1 := HD6.out.o.frozenAt (q * 2 + 1)
            have b1 : (q : Int) < (t : Int) := by omega
            have hs6 := HD6.out.size
            have hg6 := (HD6.out.o.lt g rfl).2
            clear hu0 hu1 hlen
            go_wp2_with (fail)
            have HD7 := Lib.hid ((HD6.out.set (q * 2) x).set (q * 2 + 1) y)
            obtain ⟨L, M, hL⟩ := legs_of_all HD7.out.o HD7.out.x
            go_ret
            exact ⟨some ⟨g, 0, none⟩, t, c, L, M, rfl, by omega, own_cap2 HD7.out.o, hL, HD7.out.far, HD7.out.s.more (by omega) (by omega), HD7.out.m⟩
set_option maxRecDepth 100000 in
set_option maxHeartbeats 4000000 in
theorem cornerListC_any (B k n : Nat) (w : World) (hs : Strm w B k) (hk : k + 100 ≤ 1000000) (hn : n ≤ 8) :
    Calls Try.prog 42 #[.pointer (some ⟨B, 0, none⟩), .int .i64 n] w fun e w' => ∃ a m c V, e = .returned (.slice a m c) ∧ m ≤ 9 ∧ (m ≤ c ∧ c ≤ 9223372036854775807) ∧ ((a = none ∧ m = 0 ∧ c = 0) ∨ ∃ b off, a = some ⟨b, off, none⟩) ∧ IntsR w' a m V ∧ (∀ x, a = some x → B < x.block) ∧ Strm w' B (k + 20) ∧ Mut (· = B) w w' := by
  obtain ⟨i0, hi0, hz0, hz1, hz2⟩ := info_parts info_intV
  have hl := hs.lt
  have HD0 : Hid (DI w w B k 3 1 none 0 0 []) := Lib.hid ⟨World.ownsRow_nil _ _ _ _, AllI.nil, hs, Mut.refl _ _, hl⟩
  have hw1 : IntKind.i64.wrap ((n : Int) - 1) = (n : Int) - 1 := i64w (by omega)
  clear hs
  go_enter Try.func42, Try.ntmps42
  go_wp2_with (fail)
  go_loopw [5, 8] (fun v i wr => ∃ (t : Nat) (a : Option Addr) (c : Nat) (xs : List Value), v = .slice a t c ∧ i = .int .i64 t ∧ t ≤ n ∧ DI w wr B (k + t) 3 1 a t c xs) (fun _ i _ => n - (intOf i).toNat)
  case atStart => exact ⟨0, none, 0, [], rfl, rfl, by omega, HD0.out⟩
  case round =>
    clear HD0
    obtain ⟨t, a, c, xs, rfl, rfl, ht, hd⟩ := hrel
    have HD := Lib.hid hd
    have hsz := hd.size
    clear hd
    by_cases hlt : (t : Int) < (n : Int) - 1
    · go_wp2_with (fail)
      refine (pick_atV B (k + t) [0, 10, 50, 200, 1000] 5 (fun _ => True) wr _ rfl HD.out.s (by omega) rfl (by omega) (by omega) (by simp)).mono ?_
      rintro e w2 ⟨⟨z, rfl, _⟩, hst, hmt⟩
      have HD2 := Lib.hid (HD.out.next hmt hst)
      have hsz2 := hmt.size
      clear hst hmt HD
      go_wp2_with (at_builtin; refine wpList_append_lies _ rfl _ _ 22 rfl w.heap.size 3 i0 (.int .i64 0) 1 8 Try.underlying22 hi0 hz0 hz1 hz2 rfl (by decide) _ _ _ rfl (ownsRow_below HD2.out.o ((Below.refl _ w2).alloc (Nat.le_refl _) _)) ⟨w2.heap.size, 0, none⟩ 1 1 [.int .i64 z] rfl rfl (World.news_of_block (cs := #[.int .i64 z]) (t := 3) (fr := (0, 0)) (heap_alloc_new w2 (.cells #[.int .i64 z] 3))) (by simp [Value.oneCell']) (by omega) (by unfold maxLen; omega) (by omega) (by simp; omega) (w2.heap.size + 1) (by simp) ?_; intro g5 c5 w5 hown5 hgrow5 _ hlt5; have HO5 := Lib.hid hown5; have HB5 := Lib.hid (Below.grown (B := w.heap.size) (Below.alloc (B := w.heap.size) (Below.refl _ w2) (by omega) (.cells #[.int .i64 z] 3)) hgrow5 (by simp; omega) (fun b hb => ((HD2.out.o).lt b hb).1)); clear hown5 hgrow5)
      have HD5 := Lib.hid (HD2.out.grown HB5.out HO5.out (AllI.one z))
      clear HD2 HB5 HO5
      go_wp2_with (fail)
      go_roundw
      case rel => exact ⟨t + 1, _, c5, _, rfl, by go_num, by omega, HD5.out⟩
      case measure => simp [intOf] <;> omega
    · go_wp2_with (fail)
      refine (flip_any B (k + t) 12 wr HD.out.s (by omega) (by omega) (by omega)).mono ?_
      rintro e w2 ⟨⟨f, rfl⟩, hst, hmt⟩
      have HD2 := Lib.hid (HD.out.next hmt hst)
      have hsz2 := hmt.size
      clear hst hmt HD
      rcases f with _ | _
      · obtain ⟨V, hV⟩ := ints_of_all HD2.out.o HD2.out.x
        have HV := Lib.hid hV
        clear hV
        go_wp2_with (fail)
        go_ret
        exact ⟨a, t, c, V, rfl, by omega, own_cap2 HD2.out.o, own_form3 HD2.out.o, HV.out, HD2.out.far, HD2.out.s.more (by omega) (by omega), HD2.out.m⟩
      · go_wp2_with (fail)
        refine (pick_atV B (k + t + 1) [0, -1, 100000, 100001] 4 (fun _ => True) w2 _ rfl HD2.out.s (by omega) rfl (by omega) (by omega) (by simp)).mono ?_
        rintro e w3 ⟨⟨z, rfl, _⟩, hst, hmt⟩
        have HD3 := Lib.hid (HD2.out.next hmt hst)
        have hsz3 := hmt.size
        clear hst hmt HD2
        by_cases h1 : 1 < t + 1
        · have h1' : (1 : Int) < (t : Int) + 1 := by omega
          go_wp2_with (at_builtin; refine wpList_append_lies _ rfl _ _ 22 rfl w.heap.size 3 i0 (.int .i64 0) 1 8 Try.underlying22 hi0 hz0 hz1 hz2 rfl (by decide) _ _ _ rfl (ownsRow_below HD3.out.o ((Below.refl _ w3).alloc (Nat.le_refl _) _)) ⟨w3.heap.size, 0, none⟩ 1 1 [.int .i64 z] rfl rfl (World.news_of_block (cs := #[.int .i64 z]) (t := 3) (fr := (0, 0)) (heap_alloc_new w3 (.cells #[.int .i64 z] 3))) (by simp [Value.oneCell']) (by omega) (by unfold maxLen; omega) (by omega) (by simp; omega) (w3.heap.size + 1) (by simp) ?_; intro g5 c5 w5 hown5 hgrow5 _ hlt5; have HO5 := Lib.hid hown5; have HB5 := Lib.hid (Below.grown (B := w.heap.size) (Below.alloc (B := w.heap.size) (Below.refl _ w3) (by omega) (.cells #[.int .i64 z] 3)) hgrow5 (by simp; omega) (fun b hb => ((HD3.out.o).lt b hb).1)); clear hown5 hgrow5)
          have HD5 := Lib.hid (HD3.out.grown HB5.out HO5.out (AllI.one z))
          clear HD3 HB5 HO5
          go_wp2_with (fail)
          refine (flip_any B (k + t + 1 + 1) 2 w5 HD5.out.s (by omega) (by omega) (by omega)).mono ?_
          rintro e w6 ⟨⟨f, rfl⟩, hst, hmt⟩
          have HD6 := Lib.hid (HD5.out.next hmt hst)
          clear hst hmt HD5
          obtain ⟨V, hV⟩ := ints_of_all HD6.out.o HD6.out.x
          have HV := Lib.hid hV
          clear hV
          rcases f with _ | _
          · go_wp2_with (fail)
            go_ret
            exact ⟨_, t + 1, c5, V, rfl, by omega, own_cap2 HD6.out.o, own_form3 HD6.out.o, HV.out, HD6.out.far, HD6.out.s.more (by omega) (by omega), HD6.out.m⟩
          · have HC5 : t + 1 ≤ c5 := by
              rcases HD6.out.o.2 with ⟨h1, h2⟩ | ⟨g, cap, cur, hv, _, _, hc, _⟩
              · cases h1
              · cases hv; exact hc
            go_wp2_with (fail)
            go_ret
            refine ⟨some ⟨g5, 1, none⟩, t, c5 - 1, fun i => V (i + 1), ?_, by omega, (by have := own_cap2 HD6.out.o; omega), .inr ⟨g5, 1, rfl⟩, ?_, fun x hx => by cases hx; exact HD6.out.far ⟨g5, 0, none⟩ rfl, HD6.out.s.more (by omega) (by omega), HD6.out.m⟩
            · rfl
            · rcases HV.out with h | ⟨b, off, he, h2, h3⟩
              · omega
              · cases he
                exact .inr ⟨g5, 1, rfl, h2, fun i hi => by have h4 := h3 (i + 1) (by omega); rw [show 0 + (i + 1) = 1 + i by omega] at h4; exact h4⟩
        · obtain rfl : t = 0 := by omega
          go_wp2_with (at_builtin; refine wpList_append_lies _ rfl _ _ 22 rfl w.heap.size 3 i0 (.int .i64 0) 1 8 Try.underlying22 hi0 hz0 hz1 hz2 rfl (by decide) _ _ _ rfl (ownsRow_below HD3.out.o ((Below.refl _ w3).alloc (Nat.le_refl _) _)) ⟨w3.heap.size, 0, none⟩ 1 1 [.int .i64 z] rfl rfl (World.news_of_block (cs := #[.int .i64 z]) (t := 3) (fr := (0, 0)) (heap_alloc_new w3 (.cells #[.int .i64 z] 3))) (by simp [Value.oneCell']) (by omega) (by unfold maxLen; omega) (by omega) (by simp; omega) (w3.heap.size + 1) (by simp) ?_; intro g5 c5 w5 hown5 hgrow5 _ hlt5; have HO5 := Lib.hid hown5; have HB5 := Lib.hid (Below.grown (B := w.heap.size) (Below.alloc (B := w.heap.size) (Below.refl _ w3) (by omega) (.cells #[.int .i64 z] 3)) hgrow5 (by simp; omega) (fun b hb => ((HD3.out.o).lt b hb).1)); clear hown5 hgrow5)
          have HD5 := Lib.hid (HD3.out.grown HB5.out HO5.out (AllI.one z))
          clear HD3 HB5 HO5
          obtain ⟨V, hV⟩ := ints_of_all HD5.out.o HD5.out.x
          have HV := Lib.hid hV
          clear hV
          go_wp2_with (fail)
          go_ret
          exact ⟨_, 0 + 1, c5, V, rfl, by omega, own_cap2 HD5.out.o, own_form3 HD5.out.o, HV.out, HD5.out.far, HD5.out.s.more (by omega) (by omega), HD5.out.m⟩
end Go.Proofs.Ytdanlnmdkneepaa

/- The law PathsDriven. -/
set_option linter.unusedSimpArgs false
set_option linter.unusedVariables false
namespace Go.Proofs.Ytdanlnmdkneepaa
open Go.RowKit
theorem ptsR_mut {w w' : World} {B n : Nat} {a : Option Addr} {X Y : Nat → Int} (h : PtsR w a n X Y) (hm : Mut (· = B) w w') (hb : ∀ x, a = some x → B < x.block) : PtsR w' a n X Y := by
  rcases h with h | ⟨b, off, rfl, h1, h2⟩
  · exact .inl h
  · have h3 := hb _ rfl
    have hne : ¬ b = B := by have : B < b := h3; omega
    exact .inr ⟨b, off, rfl, Nat.lt_of_lt_of_le h1 hm.size, fun i hi => ⟨(hm.cell h1 hne).trans (h2 i hi).1, (hm.cell h1 hne).trans (h2 i hi).2⟩⟩
theorem aHeadPath_p (B k : Nat) (w : World) (hs : Strm w B k) (hk : k + 100 ≤ 1000000) :
    Calls Try.prog 40 #[.pointer (some ⟨B, 0, none⟩)] w fun e w' => ∃ p : Pth, e = .returned (.agg #[.slice p.a p.n p.c, .bool p.k]) ∧ (p.n ≤ 1000 ∧ p.n ≤ p.c) ∧ PtsR w' p.a p.n p.X p.Y ∧ (∀ x, p.a = some x → B < x.block) ∧ Strm w' B (k + 50) ∧ Mut (· = B) w w' := by
  refine (aHeadPath_any B k w hs hk).mono ?_
  rintro e w' ⟨a, n, c, X, Y, kf, rfl, h1, h2, h3, h4, h5, h6⟩
  exact ⟨⟨a, n, c, X, Y, kf⟩, rfl, ⟨h1, h2⟩, h3, h4, h5, h6⟩
theorem legs_u (p : Pth) (m : Int) (w : World) (hn : p.n ≤ 1000) (hc : p.n ≤ p.c) (hp : PtsR w p.a p.n p.X p.Y) :
    Calls Try.prog 44 #[.agg #[.slice p.a p.n p.c, .bool p.k], .int .i64 m] w fun e w' => (∃ ar kr cr U V, e = .returned (.tuple #[.slice ar kr cr, .int .i64 (mvE p m)]) ∧ LegsR w' ar kr U V ∧ kr ≤ 1000 ∧ (mvE p m = 0 → kr = (mvP p).length ∧ U = lgF (mvP p) ∧ V = fun _ => m) ∧ (mvE p m ≠ 0 → kr = 0)) ∧ Below w.heap.size w w' := by
  refine (Legs_any p m w hn hc hp).mono ?_
  rintro e w' ⟨h1, h2, hb⟩
  refine ⟨?_, hb⟩
  by_cases hz : mvE p m = 0
  · obtain ⟨ao, co, rfl, ho⟩ := h1 hz
    exact ⟨ao, _, co, _, _, by rw [hz], own_pts ho, by have := (mvP_bnd (mvE_ok hz).2.1).1; omega, fun _ => ⟨rfl, rfl, rfl⟩, fun h => absurd hz h⟩
  · exact ⟨none, 0, 0, fun _ => 0, fun _ => 0, h2 hz, .inl rfl, by omega, fun h => absurd h hz, fun _ => rfl⟩
theorem corners_u (p : Pth) (m : Int) (w : World) (hn : p.n ≤ 1000) (hc : p.n ≤ p.c) (hp : PtsR w p.a p.n p.X p.Y) :
    Calls Try.prog 45 #[.agg #[.slice p.a p.n p.c, .bool p.k], .int .i64 m] w fun e w' => (∃ ar kr cr U, e = .returned (.tuple #[.slice ar kr cr, .int .i64 (mvE p m)]) ∧ IntsR w' ar kr U ∧ kr ≤ 1000 ∧ (mvE p m = 0 → kr = (mvP p).length - 1 ∧ U = cnF (mvP p) m) ∧ (mvE p m ≠ 0 → kr = 0)) ∧ Below w.heap.size w w' := by
  refine (Corners_any p m w hn hc hp).mono ?_
  rintro e w' ⟨h1, h2, hb⟩
  refine ⟨?_, hb⟩
  by_cases hz : mvE p m = 0
  · obtain ⟨ao, co, rfl, ho⟩ := h1 hz
    exact ⟨ao, _, co, _, by rw [hz], ints_of_own ho, by have := (mvP_bnd (mvE_ok hz).2.1).1; omega, fun _ => ⟨rfl, rfl⟩, fun h => absurd hz h⟩
  · exact ⟨none, 0, 0, fun _ => 0, h2 hz, .inl rfl, by omega, fun h => absurd h hz, fun _ => rfl⟩
theorem lc_u {E : Int} {n m : Nat} {L M C : Nat → Int} {w w' : World} {e : Ending} (h : LCPost E n m L M C w e w') : (∃ a1 k1 c1 a2 k2 c2 U V T, e = .returned (.tuple #[.slice a1 k1 c1, .slice a2 k2 c2, .int .i64 E]) ∧ LegsR w' a1 k1 U V ∧ IntsR w' a2 k2 T ∧ (k1 ≤ n ∧ k2 ≤ m) ∧ (E = 0 → (k1 = n ∧ k2 = m) ∧ U = L ∧ V = M ∧ T = C) ∧ (E ≠ 0 → k1 = 0 ∧ k2 = 0)) ∧ Below w.heap.size w w' := by
  obtain ⟨h1, h2, hb⟩ := h
  refine ⟨?_, hb⟩
  by_cases hz : E = 0
  · obtain ⟨a1, c1, a2, c2, rfl, ho1, ho2⟩ := h1 hz
    exact ⟨a1, n, c1, a2, m, c2, L, M, C, by rw [hz], own_pts ho1, ints_of_own ho2, ⟨Nat.le_refl _, Nat.le_refl _⟩, fun _ => ⟨⟨rfl, rfl⟩, rfl, rfl, rfl⟩, fun h => absurd hz h⟩
  · exact ⟨none, 0, 0, none, 0, 0, fun _ => 0, fun _ => 0, fun _ => 0, h2 hz, .inl rfl, .inl rfl, ⟨Nat.zero_le _, Nat.zero_le _⟩, fun h => absurd h hz, fun _ => ⟨rfl, rfl⟩⟩
theorem errs3_any (g : Nat) (a b c : Int) (w : World) (hg : w.heap.size = g) : Calls Try.prog 52 #[.slice (some ⟨g, 0, none⟩) 3 3] (w.alloc (.cells #[.int .i64 a, .int .i64 b, .int .i64 c] 30)) fun e w' => e = .returned (.int .i64 (f3E a b c)) ∧ w.alloc (.cells #[.int .i64 a, .int .i64 b, .int .i64 c] 30) = w' := by
  subst hg
  by_cases ha : a = 0
  · subst ha
    by_cases hb : b = 0
    · subst hb
      by_cases hc : c = 0
      · subst hc
        go_enter Try.func52, Try.ntmps52
        go_wp2
        refine wp_loop_rounds 4 ?_
        rw [rounds_succ]; go_wp2
        rw [rounds_succ]; go_wp2
        rw [rounds_succ]; go_wp2
        rw [rounds_succ]; go_wp2
        go_ret
        exact ⟨rfl, rfl⟩
      · have e1 : (c != 0) = true := by simpa using hc
        go_enter Try.func52, Try.ntmps52
        go_wp2
        refine wp_loop_rounds 4 ?_
        rw [rounds_succ]; go_wp2
        rw [rounds_succ]; go_wp2
        rw [rounds_succ]; go_wp2
        go_ret
        exact ⟨rfl, rfl⟩
    · have e1 : (b != 0) = true := by simpa using hb
      have HB := Lib.hid hb
      clear hb
      go_enter Try.func52, Try.ntmps52
      go_wp2
      refine wp_loop_rounds 4 ?_
      rw [rounds_succ]; go_wp2
      rw [rounds_succ]; go_wp2
      go_ret
      exact ⟨ret_int (by simp [f3E, HB.out]), rfl⟩
  · have e1 : (a != 0) = true := by simpa using ha
    have HA := Lib.hid ha
    clear ha
    go_enter Try.func52, Try.ntmps52
    go_wp2
    refine wp_loop_rounds 4 ?_
    rw [rounds_succ]; go_wp2
    go_ret
    exact ⟨ret_int (by simp [f3E, HA.out]), rfl⟩
theorem lg_at0 {w : World} {a : Option Addr} {n : Nat} {L M : Nat → Int} (h : LegsR w a n L M) (hn : 0 < n) : ∀ b off, a = some ⟨b, off, none⟩ → w.cell? ⟨b, off, none⟩ = some (.int .i64 (L 0)) := by
  rintro b off rfl
  rcases h with h | ⟨b', off', he, _, hd⟩
  · omega
  · injection he with he; injection he with e1 e2; subst e1 e2; simpa using (hd 0 hn).1
theorem lg_at1 {w : World} {a : Option Addr} {n : Nat} {L M : Nat → Int} (h : LegsR w a n L M) (hn : 0 < n) : ∀ b off, a = some ⟨b, off, none⟩ → w.cell? ⟨b, off + 1, none⟩ = some (.int .i64 (M 0)) := by
  rintro b off rfl
  rcases h with h | ⟨b', off', he, _, hd⟩
  · omega
  · injection he with he; injection he with e1 e2; subst e1 e2; simpa using (hd 0 hn).2
theorem lg_addr {w : World} {a : Option Addr} {n : Nat} {L M : Nat → Int} (h : LegsR w a n L M) (hn : 0 < n) : ∃ b off, a = some ⟨b, off, none⟩ := by
  rcases h with h | ⟨b', off', he, _, hd⟩
  · omega
  · exact ⟨b', off', he⟩
theorem lg_first {w : World} {a : Option Addr} {n : Nat} {L M : Nat → Int} (h : LegsR w a n L M) (hn : 0 < n) : LegsR w a 1 L M := by
  rcases h with h | ⟨b', off', he, hb, hd⟩
  · omega
  · exact .inr ⟨b', off', he, hb, fun i hi => hd i (by omega)⟩
theorem splitOf_p (a : Option Addr) (n c : Nat) (L M : Nat → Int) (ac : Option Addr) (m cc : Nat) (C : Nat → Int) (j t : Int) (w : World) (hn : n ≤ 100) (hm : m ≤ 100) (hnc : n ≤ c) (hmc : m ≤ cc) (hcb : c ≤ 9223372036854775807) (hccb : cc ≤ 9223372036854775807) (hp : LegsR w a n L M) (hc : IntsR w ac m C) (hf : (ac = none ∧ m = 0 ∧ cc = 0) ∨ ∃ b2 off2, ac = some ⟨b2, off2, none⟩) (hE : cornE n L M m C = 0) (hz : splZ n L j t = 0) :
    Calls Try.prog 59 #[.slice a n c, .slice ac m cc, .int .i64 j, .int .i64 t] w fun e w' => ∃ a1 c1 a2 c2, e = .returned (.tuple #[.slice a1 (n + 1) c1, .slice a2 (m + 1) c2]) ∧ LegsR w' a1 (n + 1) (splL n j.toNat t L) (splM n j.toNat M) ∧ IntsR w' a2 (m + 1) (splC j.toNat (M j.toNat) C) ∧ Below w.heap.size w w' := by
  obtain ⟨⟨h0, hlg⟩, hmn⟩ := corn_ok hE
  obtain ⟨q, rfl, hq, ht1, ht2⟩ := splZ_ok hz
  rcases hp with h | ⟨b, off, rfl, hb, hd⟩
  · omega
  refine (splitOf_any b off n c L M ac m cc C q t w hn hm hnc hmc hcb hccb hb hd hc hf hmn hq ⟨ht1, ht2⟩ (hlg q hq).2.1).mono ?_
  rintro e w' ⟨a1, c1, a2, c2, rfl, h1, h2, h3⟩
  exact ⟨a1, c1, a2, c2, rfl, own_pts h1, ints_of_own h2, h3⟩
theorem legE_one (L M : Nat → Int) : legE 1 L M = lg1 (L 0) (M 0) := by
  have h : legsOk 1 L M = legsOk 1 (fun _ => L 0) (fun _ => M 0) := by
    unfold legsOk
    congr 1
    apply propext
    constructor
    · intro h i hi
      obtain rfl : i = 0 := by omega
      exact h 0 hi
    · intro h i hi
      obtain rfl : i = 0 := by omega
      exact h 0 hi
  unfold lg1 legE
  rw [h]

set_option maxRecDepth 100000 in
set_option maxHeartbeats 32000000 in
theorem pathsDriven_walk (a0 : Option Addr) (len0 cap0 : Nat) (z0 : List Int) (w : World) (w0 : IsRow .i64 w a0 len0 cap0 z0) :
    Calls Try.prog 5 #[.slice a0 len0 cap0] w fun e w' => e = .returned (.bool true) ∧ Below w.heap.size w w' := by
  have HS0 := Lib.hid (Strm.start w0)
  go_enter Try.func5, Try.ntmps5
  go_wp2_with (fail)
  have HM0 : Hid (Mut (· = w.heap.size) w (w.alloc (.cells #[.slice a0 len0 cap0, .int .i64 0] 25))) := Lib.hid ((Mut.refl _ w).alloc _)
  have hl0 : w.heap.size < (w.alloc (.cells #[.slice a0 len0 cap0, .int .i64 0] 25)).heap.size := by simp
  generalize (w.alloc (.cells #[.slice a0 len0 cap0, .int .i64 0] 25)) = ws at *
  obtain ⟨B, hBw⟩ : ∃ B, B = w.heap.size := ⟨_, rfl⟩
  rw [← hBw] at HS0 HM0 hl0 ⊢
  have HBW := Lib.hid hBw
  clear hBw
  refine (aHeadPath_p B 0 _ HS0.out (by omega)).mono ?_
  rintro e w1 ⟨p, rfl, ⟨hp1, hp2⟩, hp, hpf, hst, hmt⟩
  have HPT := Lib.hid hp
  have HPF := Lib.hid hpf
  have HS := Lib.hid hst
  have HM := Lib.hid (HM0.out.trans (hmt.mono fun _ _ h => h))
  clear hp hpf hst hmt HS0 HM0
  go_wp2_with (fail)
  refine (pick_atV B _ [80, 100, 3, 0, 100000, 100001] 6 (fun _ => True) w1 _ rfl HS.out (by omega) rfl (by omega) (by omega) (by simp)).mono ?_
  rintro e w2 ⟨⟨lim, rfl, _⟩, hst, hmt⟩
  replace HS := Lib.hid hst
  replace HM := Lib.hid (HM.out.trans (hmt.mono fun _ _ h => h))
  replace HPT := Lib.hid (ptsR_mut HPT.out hmt HPF.out)
  clear hst hmt
  go_wp2_with (fail)
  have H4 := Lib.hid (heap_alloc_new w2 (.cells #[.slice p.a p.n p.c, .bool p.k] 62))
  have hb := (Below.refl w2.heap.size w2).alloc (Nat.le_refl _) (.cells #[.slice p.a p.n p.c, .bool p.k] 62)
  have hBq := HS.out.lt
  replace HS := Lib.hid (StrmV.below HS.out hb)
  replace HM := Lib.hid (HM.out.below hb)
  replace HPT := Lib.hid (HPT.out.kept hb)
  clear hb
  generalize (w2.alloc (.cells #[.slice p.a p.n p.c, .bool p.k] 62)) = w3 at *
  obtain ⟨q4, hq⟩ : ∃ q, q = w2.heap.size := ⟨_, rfl⟩
  rw [← hq] at H4 hBq
  try rw [← hq]
  clear hq
  refine (legListC_any B _ 5 w3 HS.out (by omega) (by omega) (by omega)).mono ?_
  rintro e w4 ⟨a, n, c, L, M, rfl, hn5, hnc, hlp, hfa, hst, hmt⟩
  have LP := Lib.hid hlp
  have LF := Lib.hid hfa
  replace HS := Lib.hid hst
  replace HM := Lib.hid (HM.out.trans (hmt.mono fun _ _ h => h))
  replace H4 := Lib.hid ((hmt.block q4 (lt_of_heap H4.out) (by show ¬ q4 = B; omega)).trans H4.out)
  replace HPT := Lib.hid (ptsR_mut HPT.out hmt HPF.out)
  clear hst hmt
  clear hlp hfa
  go_wp2_with (fail)
  refine (cornerListC_any B _ n w4 HS.out (by omega) (by omega)).mono ?_
  rintro e w5 ⟨ac, m, cc, C, rfl, hm9, hmc, hcf, hcp, hfc, hst, hmt⟩
  have CP := Lib.hid hcp
  have CF := Lib.hid hfc
  have HCF := Lib.hid hcf
  replace HS := Lib.hid hst
  replace HM := Lib.hid (HM.out.trans (hmt.mono fun _ _ h => h))
  replace H4 := Lib.hid ((hmt.block q4 (lt_of_heap H4.out) (by show ¬ q4 = B; omega)).trans H4.out)
  replace HPT := Lib.hid (ptsR_mut HPT.out hmt HPF.out)
  replace LP := Lib.hid (LP.out.mut hmt LF.out)
  clear hst hmt
  clear hcp hfc hcf
  go_wp2_with (fail)
  refine (aChange_any B _ w5 HS.out (by omega)).mono ?_
  rintro e w6 ⟨⟨ch, rfl, _⟩, hst, hmt⟩
  replace HS := Lib.hid hst
  replace HM := Lib.hid (HM.out.trans (hmt.mono fun _ _ h => h))
  replace H4 := Lib.hid ((hmt.block q4 (lt_of_heap H4.out) (by show ¬ q4 = B; omega)).trans H4.out)
  replace HPT := Lib.hid (ptsR_mut HPT.out hmt HPF.out)
  replace LP := Lib.hid (LP.out.mut hmt LF.out)
  replace CP := Lib.hid (CP.out.mut hmt CF.out)
  clear hst hmt
  go_wp2_with (fail)
  refine (pick_atV B _ [0, 10, 50, 99, -1, 100000, 100001] 7 (fun _ => True) w6 _ rfl HS.out (by omega) rfl (by omega) (by omega) (by simp)).mono ?_
  rintro e w7 ⟨⟨sp, rfl, _⟩, hst, hmt⟩
  replace HS := Lib.hid hst
  replace HM := Lib.hid (HM.out.trans (hmt.mono fun _ _ h => h))
  replace H4 := Lib.hid ((hmt.block q4 (lt_of_heap H4.out) (by show ¬ q4 = B; omega)).trans H4.out)
  replace HPT := Lib.hid (ptsR_mut HPT.out hmt HPF.out)
  replace LP := Lib.hid (LP.out.mut hmt LF.out)
  replace CP := Lib.hid (CP.out.mut hmt CF.out)
  clear hst hmt
  go_wp2_with (fail)
  refine (pick_atV B _ [0, 0, 1, 3, -1] 5 (fun _ => True) w7 _ rfl HS.out (by omega) rfl (by omega) (by omega) (by simp)).mono ?_
  rintro e w8 ⟨⟨lg, rfl, _⟩, hst, hmt⟩
  replace HS := Lib.hid hst
  replace HM := Lib.hid (HM.out.trans (hmt.mono fun _ _ h => h))
  replace H4 := Lib.hid ((hmt.block q4 (lt_of_heap H4.out) (by show ¬ q4 = B; omega)).trans H4.out)
  replace HPT := Lib.hid (ptsR_mut HPT.out hmt HPF.out)
  replace LP := Lib.hid (LP.out.mut hmt LF.out)
  replace CP := Lib.hid (CP.out.mut hmt CF.out)
  clear hst hmt
  go_wp2_with (fail)
  refine (pick_atV B _ [1, 4, 19, 0, 99, 1000] 6 (fun _ => True) w8 _ rfl HS.out (by omega) rfl (by omega) (by omega) (by simp)).mono ?_
  rintro e w9 ⟨⟨at_, rfl, _⟩, hst, hmt⟩
  replace HS := Lib.hid hst
  replace HM := Lib.hid (HM.out.trans (hmt.mono fun _ _ h => h))
  replace H4 := Lib.hid ((hmt.block q4 (lt_of_heap H4.out) (by show ¬ q4 = B; omega)).trans H4.out)
  replace HPT := Lib.hid (ptsR_mut HPT.out hmt HPF.out)
  replace LP := Lib.hid (LP.out.mut hmt LF.out)
  replace CP := Lib.hid (CP.out.mut hmt CF.out)
  clear hst hmt
  have BW : Hid (Below B w w9) := Lib.hid (HM.out.toBelow B (by rw [HBW.out]; exact Nat.le_refl _) (fun k hk e => by omega))
  rw [HBW.out] at BW
  rw [HBW.out]
  clear HBW HM HS HPF LF CF hl0 hBq
  have hn100 : n ≤ 100 := by omega
  have hm100 : m ≤ 100 := by omega
  have c0 := cell_of H4.out (i := 0) rfl
  have c1 := cell_of H4.out (i := 1) rfl
  go_wp2_with (fail)
  refine (legs_u p lim _ hp1 hp2 HPT.out).mono ?_
  rintro e u1 ⟨⟨ar, kr, cr, U, V, rfl, hlr, hk1, hu1, hu2⟩, hb⟩
  replace BW := Lib.hid (BW.out.trans (hb.mono BW.out.size))
  replace LP := Lib.hid (LP.out.kept hb)
  replace CP := Lib.hid (CP.out.kept hb)
  replace H4 := Lib.hid (heap_keep hb H4.out)
  replace HPT := Lib.hid (HPT.out.kept hb)
  have LR := Lib.hid hlr
  have HU1 := Lib.hid hu1
  have HU2 := Lib.hid hu2
  clear hlr hu1 hu2 c0 c1
  clear hb
  have c0 := cell_of H4.out (i := 0) rfl
  have c1 := cell_of H4.out (i := 1) rfl
  go_wp2_with (fail)
  refine (corners_u p lim _ hp1 hp2 HPT.out).mono ?_
  rintro e u2 ⟨⟨ak, kk, ck, X, rfl, hcr, hk2, hx1, hx2⟩, hb⟩
  replace BW := Lib.hid (BW.out.trans (hb.mono BW.out.size))
  replace LP := Lib.hid (LP.out.kept hb)
  replace CP := Lib.hid (CP.out.kept hb)
  replace H4 := Lib.hid (heap_keep hb H4.out)
  replace HPT := Lib.hid (HPT.out.kept hb)
  replace LR := Lib.hid (LR.out.kept hb)
  have CR := Lib.hid hcr
  have HX1 := Lib.hid hx1
  have HX2 := Lib.hid hx2
  clear hcr hx1 hx2 c0 c1
  clear hb
  go_wp2_with (fail)
  refine (Brake_any sp ch _).mono ?_
  rintro e u_ ⟨rfl, rfl⟩
  go_wp2_with (fail)
  refine ((Split_any a n c L M ac m cc C lg at_ _ hn100 hm100 hnc.1 hmc.1 hnc.2 hmc.2 LP.out CP.out HCF.out).mono (fun _ _ h => lc_u h)).mono ?_
  rintro e u3 ⟨⟨s1, k1, d1, s2, k2, d2, SU, SV, SC, rfl, hsl, hsc, hsk, hs1, hs2⟩, hb⟩
  replace BW := Lib.hid (BW.out.trans (hb.mono BW.out.size))
  replace LP := Lib.hid (LP.out.kept hb)
  replace CP := Lib.hid (CP.out.kept hb)
  replace H4 := Lib.hid (heap_keep hb H4.out)
  replace HPT := Lib.hid (HPT.out.kept hb)
  replace LR := Lib.hid (LR.out.kept hb)
  replace CR := Lib.hid (CR.out.kept hb)
  have SL := Lib.hid hsl
  have SI := Lib.hid hsc
  have HS1 := Lib.hid hs1
  have HS2 := Lib.hid hs2
  clear hsl hsc hs1 hs2
  clear hb
  go_wp2_with (fail)
  refine ((Back_any a n c L M ac m cc C _ hn100 hm100 LP.out CP.out).mono (fun _ _ h => lc_u h)).mono ?_
  rintro e u4 ⟨⟨b1, j1, f1, b2, j2, f2, BU, BV, BC, rfl, hbl, hbc, hbk, hb1, hb2⟩, hb⟩
  replace BW := Lib.hid (BW.out.trans (hb.mono BW.out.size))
  replace LP := Lib.hid (LP.out.kept hb)
  replace CP := Lib.hid (CP.out.kept hb)
  replace H4 := Lib.hid (heap_keep hb H4.out)
  replace HPT := Lib.hid (HPT.out.kept hb)
  replace LR := Lib.hid (LR.out.kept hb)
  replace CR := Lib.hid (CR.out.kept hb)
  replace SL := Lib.hid (SL.out.kept hb)
  replace SI := Lib.hid (SI.out.kept hb)
  have BL := Lib.hid hbl
  have BI := Lib.hid hbc
  have HB1 := Lib.hid hb1
  have HB2 := Lib.hid hb2
  clear hbl hbc hb1 hb2
  clear hb
  have c0 := cell_of H4.out (i := 0) rfl
  have c1 := cell_of H4.out (i := 1) rfl
  go_wp2_with (fail)
  refine (PathFault_any p lim _ hp1 HPT.out).mono ?_
  rintro e u5 ⟨rfl, hb⟩
  replace BW := Lib.hid (BW.out.trans (hb.mono BW.out.size))
  replace LP := Lib.hid (LP.out.kept hb)
  replace CP := Lib.hid (CP.out.kept hb)
  replace H4 := Lib.hid (heap_keep hb H4.out)
  replace HPT := Lib.hid (HPT.out.kept hb)
  replace LR := Lib.hid (LR.out.kept hb)
  replace CR := Lib.hid (CR.out.kept hb)
  replace SL := Lib.hid (SL.out.kept hb)
  replace SI := Lib.hid (SI.out.kept hb)
  replace BL := Lib.hid (BL.out.kept hb)
  replace BI := Lib.hid (BI.out.kept hb)
  clear c0 c1
  clear hb
  have c0 := cell_of H4.out (i := 0) rfl
  have c1 := cell_of H4.out (i := 1) rfl
  go_upto_if 104 with (fail)
  go_cut [24, 25, 26, 27] from 103 to 116 (fun s24 s25 s26 s27 wx => s24 = .int .i64 (mvE p lim) ∧ s25 = .int .i64 (mvE p lim) ∧ (∃ a2 c2, s26 = .slice a2 kr c2 ∧ LegsR wx a2 kr U V) ∧ (∃ a2 c2, s27 = .slice a2 kk c2 ∧ IntsR wx a2 kk X) ∧ Below u5.heap.size u5 wx)
  case first =>
    by_cases hz : pdE p lim = 0
    · have hz' : (pdE p lim == 0) = true := by simp [hz]
      have hpF : pF p = 0 := Classical.byContradiction (fun h => by rw [pdE_is, if_pos h] at hz; exact h hz)
      have HPF := Lib.hid hpF
      have hlim : 1 ≤ lim ∧ lim ≤ 100000 := by
        rw [pdE_ok hpF] at hz
        unfold spanZ inZ at hz
        split at hz
        · rename_i h4
          rw [Bool.and_eq_true, decide_eq_true_eq, decide_eq_true_eq] at h4
          exact h4
        · cases hz
      have HLM := Lib.hid hlim
      have HMV := Lib.hid (show mvE p lim = if (mvP p).length = 0 then 8 else 0 by unfold mvE; rw [if_pos hz])
      clear hz hpF hlim
      have BX := Lib.hid (Below.refl u5.heap.size u5)
      go_wp2_with (fail)
      refine (legsOf_any p lim _ HPF.out HPT.out).mono ?_
      rintro e u6 ⟨h1, h2, hb⟩
      clear c0 c1
      have h4n := heap_keep hb H4.out
      have c0 := cell_of h4n (i := 0) rfl
      have c1 := cell_of h4n (i := 1) rfl
      have hpn := HPT.out.kept hb
      have HBX := Lib.hid hb
      by_cases h8 : (mvP p).length = 0
      · obtain rfl := h2 h8
        have hm : mvE p lim = 8 := by rw [HMV.out, if_pos h8]
        have HM8 := Lib.hid hm
        obtain rfl := HU2.out (by rw [hm]; decide)
        obtain rfl := HX2.out (by rw [hm]; decide)
        have H8 := Lib.hid h8
        clear h1 h2 h8 hb hm
        go_wp2_with (fail)
        refine (cornersOf_any p lim _ HPF.out HLM.out hpn).mono ?_
        rintro e u7 ⟨h1, h2, hb⟩
        obtain rfl := h2 H8.out
        have HBY := Lib.hid (HBX.out.trans (hb.mono HBX.out.size))
        clear h1 h2 hb c0 c1 hpn
        go_wp2_with (fail)
        go_meet
        exact ⟨by rw [HM8.out], by rw [HM8.out], ⟨none, 0, rfl, .inl rfl⟩, ⟨none, 0, rfl, .inl rfl⟩, HBY.out⟩
      · obtain ⟨a2, c2, rfl, hown⟩ := h1 h8
        have hm : mvE p lim = 0 := by rw [HMV.out, if_neg h8]
        have HM0 := Lib.hid hm
        obtain ⟨e1, e2, e3⟩ := HU1.out hm
        obtain ⟨e4, e5⟩ := HX1.out hm
        subst e1 e2 e3 e4 e5
        have HLW := Lib.hid (show LegsR u6 a2 (mvP p).length (lgF (mvP p)) (fun _ => lim) from own_pts hown)
        have H8 := Lib.hid h8
        clear h1 h2 h8 hb hm hown
        go_wp2_with (fail)
        refine (cornersOf_any p lim _ HPF.out HLM.out hpn).mono ?_
        rintro e u7 ⟨h1, h2, hb⟩
        obtain ⟨a3, c3, rfl, hown⟩ := h1 H8.out
        have HBY := Lib.hid (HBX.out.trans (hb.mono HBX.out.size))
        have HLW2 := Lib.hid (HLW.out.kept hb)
        have HIW := Lib.hid (ints_of_own hown)
        clear h1 h2 hb c0 c1 hpn hown
        go_wp2_with (fail)
        go_meet
        exact ⟨by rw [HM0.out], by rw [HM0.out], ⟨a2, c2, rfl, HLW2.out⟩, ⟨a3, c3, rfl, HIW.out⟩, HBY.out⟩
    · have hz' : (pdE p lim == 0) = false := by simpa using hz
      have hm : mvE p lim = pdE p lim := by unfold mvE; rw [if_neg hz]
      have HMV := Lib.hid hm
      obtain rfl := HU2.out (by rw [hm]; exact hz)
      obtain rfl := HX2.out (by rw [hm]; exact hz)
      clear hz hm c0 c1
      go_wp2_with (fail)
      go_meet
      exact ⟨by rw [HMV.out], by rw [HMV.out], ⟨none, 0, rfl, .inl rfl⟩, ⟨none, 0, rfl, .inl rfl⟩, Below.refl _ _⟩
  case rest =>
    obtain ⟨rfl, rfl, ⟨wa, wac, rfl, hlw⟩, ⟨wb_, wbc, rfl, hiw⟩, hb⟩ := hcut
    clear c0 c1
    replace BW := Lib.hid (BW.out.trans (hb.mono BW.out.size))
    replace LP := Lib.hid (LP.out.kept hb)
    replace CP := Lib.hid (CP.out.kept hb)
    replace H4 := Lib.hid (heap_keep hb H4.out)
    replace HPT := Lib.hid (HPT.out.kept hb)
    replace LR := Lib.hid (LR.out.kept hb)
    replace CR := Lib.hid (CR.out.kept hb)
    replace SL := Lib.hid (SL.out.kept hb)
    replace SI := Lib.hid (SI.out.kept hb)
    replace BL := Lib.hid (BL.out.kept hb)
    replace BI := Lib.hid (BI.out.kept hb)
    have LW := Lib.hid hlw
    have IW := Lib.hid hiw
    clear hb hlw hiw HU1 HU2 HX1 HX2
    go_upto_region 17 with (fail)
    go_cut [28] from 117 to 127 (fun s28 wx => s28 = .int .i64 (brE sp ch) ∧ Below wc.heap.size wc wx)
    case first =>
      have HBR := Lib.hid (show brE sp ch = if spE sp 100000 = 0 then chE ch else spE sp 100000 from rfl)
      have HSP := Lib.hid (show spE sp 100000 = if 0 ≤ sp ∧ sp ≤ 100000 then 0 else 1 from rfl)
      by_cases hs : sp < 0
      · have R1 := Lib.hid (show spE sp 100000 = 1 from (by rw [HSP.out, if_neg (by omega)]))
        have R2 := Lib.hid (show fstE 1 (chE ch) = brE sp ch by rw [HBR.out, R1.out]; unfold fstE; rfl)
        go_wp2_with (first
          | (go_at_call 53; refine (when_any _ _ _).mono ?_; rintro e w7 ⟨rfl, rfl⟩)
          | (go_at_call 54; refine (changeFault_any _ _).mono ?_; rintro e w7 ⟨rfl, rfl⟩))
        refine (errs2_any _ _ _ _ rfl).mono ?_
        rintro e u8 ⟨rfl, hw2⟩
        have hb : Below wc.heap.size wc u8 := hw2 ▸ (Below.refl _ wc).alloc (Nat.le_refl _) _
        clear hw2
        go_wp2_with (fail)
        go_meet
        exact ⟨by first | (rw [← R2.out]; rfl) | (rw [← R2.out]), hb⟩
      · by_cases hs2 : (100000 : Int) < sp
        · have R1 := Lib.hid (show spE sp 100000 = 1 from (by rw [HSP.out, if_neg (by omega)]))
          have R2 := Lib.hid (show fstE 1 (chE ch) = brE sp ch by rw [HBR.out, R1.out]; unfold fstE; rfl)
          go_wp2_with (first
            | (go_at_call 53; refine (when_any _ _ _).mono ?_; rintro e w7 ⟨rfl, rfl⟩)
            | (go_at_call 54; refine (changeFault_any _ _).mono ?_; rintro e w7 ⟨rfl, rfl⟩))
          refine (errs2_any _ _ _ _ rfl).mono ?_
          rintro e u9 ⟨rfl, hw2⟩
          have hb : Below wc.heap.size wc u9 := hw2 ▸ (Below.refl _ wc).alloc (Nat.le_refl _) _
          clear hw2
          go_wp2_with (fail)
          go_meet
          exact ⟨by first | (rw [← R2.out]; rfl) | (rw [← R2.out]), hb⟩
        · have R1 := Lib.hid (show spE sp 100000 = 0 from (by rw [HSP.out, if_pos (by omega)]))
          have R2 := Lib.hid (show fstE 0 (chE ch) = brE sp ch by rw [HBR.out, R1.out]; unfold fstE; rfl)
          go_wp2_with (first
            | (go_at_call 53; refine (when_any _ _ _).mono ?_; rintro e w7 ⟨rfl, rfl⟩)
            | (go_at_call 54; refine (changeFault_any _ _).mono ?_; rintro e w7 ⟨rfl, rfl⟩))
          refine (errs2_any _ _ _ _ rfl).mono ?_
          rintro e u10 ⟨rfl, hw2⟩
          have hb : Below wc.heap.size wc u10 := hw2 ▸ (Below.refl _ wc).alloc (Nat.le_refl _) _
          clear hw2
          go_wp2_with (fail)
          go_meet
          exact ⟨by first | (rw [← R2.out]; rfl) | (rw [← R2.out]), hb⟩
    case rest =>
      obtain ⟨rfl, hb⟩ := hcut
      replace BW := Lib.hid (BW.out.trans (hb.mono BW.out.size))
      replace LP := Lib.hid (LP.out.kept hb)
      replace CP := Lib.hid (CP.out.kept hb)
      replace H4 := Lib.hid (heap_keep hb H4.out)
      replace HPT := Lib.hid (HPT.out.kept hb)
      replace LR := Lib.hid (LR.out.kept hb)
      replace CR := Lib.hid (CR.out.kept hb)
      replace SL := Lib.hid (SL.out.kept hb)
      replace SI := Lib.hid (SI.out.kept hb)
      replace BL := Lib.hid (BL.out.kept hb)
      replace BI := Lib.hid (BI.out.kept hb)
      replace LW := Lib.hid (LW.out.kept hb)
      replace IW := Lib.hid (IW.out.kept hb)
      clear hb
      go_upto_if 129 with (fail)
      go_cut [29] from 128 to 132 (fun s29 wx => s29 = .int .i64 (brZ sp ch) ∧ Below wc.heap.size wc wx)
      case first =>
        by_cases hz : brE sp ch = 0
        · have hz' : (brE sp ch == 0) = true := by simp [hz]
          have HZ := Lib.hid hz
          clear hz
          go_wp2_with (fail)
          refine (BrakeOf_any sp ch _ HZ.out).mono ?_
          rintro e u11 ⟨rfl, rfl⟩
          go_wp2_with (fail)
          go_meet
          exact ⟨rfl, Below.refl _ _⟩
        · have hz' : (brE sp ch == 0) = false := by simpa using hz
          have HV := Lib.hid (show brZ sp ch = 0 by unfold brZ; rw [if_neg hz])
          clear hz
          go_wp2_with (fail)
          go_meet
          exact ⟨by rw [HV.out], Below.refl _ _⟩
      case rest =>
        obtain ⟨rfl, hb⟩ := hcut
        replace BW := Lib.hid (BW.out.trans (hb.mono BW.out.size))
        replace LP := Lib.hid (LP.out.kept hb)
        replace CP := Lib.hid (CP.out.kept hb)
        replace H4 := Lib.hid (heap_keep hb H4.out)
        replace HPT := Lib.hid (HPT.out.kept hb)
        replace LR := Lib.hid (LR.out.kept hb)
        replace CR := Lib.hid (CR.out.kept hb)
        replace SL := Lib.hid (SL.out.kept hb)
        replace SI := Lib.hid (SI.out.kept hb)
        replace BL := Lib.hid (BL.out.kept hb)
        replace BI := Lib.hid (BI.out.kept hb)
        replace LW := Lib.hid (LW.out.kept hb)
        replace IW := Lib.hid (IW.out.kept hb)
        clear hb
        go_wp2_with (fail)
        refine (cornersFault_any a n c L M ac m cc C _ hn100 hm100 LP.out CP.out).mono ?_
        rintro e u12 ⟨rfl, hb⟩
        replace BW := Lib.hid (BW.out.trans (hb.mono BW.out.size))
        replace LP := Lib.hid (LP.out.kept hb)
        replace CP := Lib.hid (CP.out.kept hb)
        replace H4 := Lib.hid (heap_keep hb H4.out)
        replace HPT := Lib.hid (HPT.out.kept hb)
        replace LR := Lib.hid (LR.out.kept hb)
        replace CR := Lib.hid (CR.out.kept hb)
        replace SL := Lib.hid (SL.out.kept hb)
        replace SI := Lib.hid (SI.out.kept hb)
        replace BL := Lib.hid (BL.out.kept hb)
        replace BI := Lib.hid (BI.out.kept hb)
        replace LW := Lib.hid (LW.out.kept hb)
        replace IW := Lib.hid (IW.out.kept hb)
        clear hb
        go_upto_if 138 with (fail)
        go_cut [31, 32, 33, 34, 35] from 137 to 158 (fun s31 s32 s33 s34 s35 wx => s31 = .int .i64 (splA n L M m C lg at_) ∧ (∃ a2 c2, s32 = .slice a2 k1 c2 ∧ LegsR wx a2 k1 SU SV) ∧ (∃ a2 c2, s33 = .slice a2 j1 c2 ∧ LegsR wx a2 j1 BU BV) ∧ (∃ a2 c2, s34 = .slice a2 k2 c2 ∧ IntsR wx a2 k2 SC) ∧ (∃ a2 c2, s35 = .slice a2 j2 c2 ∧ IntsR wx a2 j2 BC) ∧ Below u12.heap.size u12 wx)
        case first =>
          by_cases hE : cornE n L M m C = 0
          · have hz' : (cornE n L M m C == 0) = true := by simp [hE]
            have HE := Lib.hid hE
            have HG := Lib.hid (corn_ok hE)
            have HJ := Lib.hid (HB1.out hE)
            have HA := Lib.hid (show splA n L M m C lg at_ = splZ n L lg at_ by unfold splA; rw [if_pos hE])
            clear hE
            go_wp2_with (fail)
            refine (BackOf_any a n c L M ac m cc C _ hn100 HG.out.1.1 hm100 LP.out CP.out).mono ?_
            rintro e u13 ⟨a1, c1, a2, c2, rfl, ho1, ho2, hb⟩
            have GB1 := Lib.hid (show LegsR u13 a1 n (rv n L) (rv n M) from own_pts ho1)
            have GB2 := Lib.hid (ints_of_own ho2)
            have HBX := Lib.hid hb
            replace LP := Lib.hid (LP.out.kept hb)
            replace CP := Lib.hid (CP.out.kept hb)
            clear ho1 ho2 hb
            go_wp2_with (fail)
            refine (SplitFault_any a n c L M lg at_ _ hn100 HG.out.1.1 LP.out (fun i hi => ⟨(HG.out.1.2 i hi).1, (HG.out.1.2 i hi).2.1⟩)).mono ?_
            rintro e u14 ⟨rfl, rfl⟩
            by_cases hz : splZ n L lg at_ = 0
            · have hz2 : (splZ n L lg at_ == 0) = true := by simp [hz]
              have HZ := Lib.hid hz
              have HK := Lib.hid (HS1.out (HA.out.trans hz))
              clear hz
              go_wp2_with (fail)
              refine (splitOf_p a n c L M ac m cc C lg at_ _ hn100 hm100 hnc.1 hmc.1 hnc.2 hmc.2 LP.out CP.out HCF.out HE.out HZ.out).mono ?_
              rintro e u15 ⟨a3, c3, a4, c4, rfl, ho3, ho4, hb⟩
              have GS1 := Lib.hid ho3
              have GS2 := Lib.hid ho4
              replace GB1 := Lib.hid (GB1.out.kept hb)
              replace GB2 := Lib.hid (GB2.out.kept hb)
              replace HBX := Lib.hid (HBX.out.trans (hb.mono HBX.out.size))
              clear ho3 ho4 hb
              go_wp2_with (fail)
              go_meet
              exact ⟨by rw [HA.out], ⟨a3, c3, by rw [HK.out.1.1], by rw [HK.out.1.1, HK.out.2.1, HK.out.2.2.1]; exact GS1.out⟩, ⟨a1, c1, by rw [HJ.out.1.1], by rw [HJ.out.1.1, HJ.out.2.1, HJ.out.2.2.1]; exact GB1.out⟩, ⟨a4, c4, by rw [HK.out.1.2], by rw [HK.out.1.2, HK.out.2.2.2]; exact GS2.out⟩, ⟨a2, c2, by rw [HJ.out.1.2], by rw [HJ.out.1.2, HJ.out.2.2.2]; exact GB2.out⟩, HBX.out⟩
            · have hz2 : (splZ n L lg at_ == 0) = false := by simpa using hz
              have HK := Lib.hid (HS2.out (by rw [HA.out]; exact hz))
              clear hz
              go_wp2_with (fail)
              go_meet
              exact ⟨by rw [HA.out], ⟨none, 0, by rw [HK.out.1], .inl HK.out.1⟩, ⟨a1, c1, by rw [HJ.out.1.1], by rw [HJ.out.1.1, HJ.out.2.1, HJ.out.2.2.1]; exact GB1.out⟩, ⟨none, 0, by rw [HK.out.2], .inl HK.out.2⟩, ⟨a2, c2, by rw [HJ.out.1.2], by rw [HJ.out.1.2, HJ.out.2.2.2]; exact GB2.out⟩, HBX.out⟩
          · have hz' : (cornE n L M m C == 0) = false := by simpa using hE
            have HJ := Lib.hid (HB2.out hE)
            have HA := Lib.hid (show splA n L M m C lg at_ = cornE n L M m C by unfold splA; rw [if_neg hE])
            have HK := Lib.hid (HS2.out (by rw [HA.out]; exact hE))
            clear hE
            go_wp2_with (fail)
            go_meet
            exact ⟨by rw [HA.out], ⟨none, 0, by rw [HK.out.1], .inl HK.out.1⟩, ⟨none, 0, by rw [HJ.out.1], .inl HJ.out.1⟩, ⟨none, 0, by rw [HK.out.2], .inl HK.out.2⟩, ⟨none, 0, by rw [HJ.out.2], .inl HJ.out.2⟩, Below.refl _ _⟩
        case rest =>
          obtain ⟨rfl, ⟨y1, y1c, rfl, hl1⟩, ⟨y2, y2c, rfl, hl2⟩, ⟨y3, y3c, rfl, hl3⟩, ⟨y4, y4c, rfl, hl4⟩, hb⟩ := hcut
          replace BW := Lib.hid (BW.out.trans (hb.mono BW.out.size))
          replace LP := Lib.hid (LP.out.kept hb)
          replace CP := Lib.hid (CP.out.kept hb)
          replace H4 := Lib.hid (heap_keep hb H4.out)
          replace HPT := Lib.hid (HPT.out.kept hb)
          replace LR := Lib.hid (LR.out.kept hb)
          replace CR := Lib.hid (CR.out.kept hb)
          replace SL := Lib.hid (SL.out.kept hb)
          replace SI := Lib.hid (SI.out.kept hb)
          replace BL := Lib.hid (BL.out.kept hb)
          replace BI := Lib.hid (BI.out.kept hb)
          replace LW := Lib.hid (LW.out.kept hb)
          replace IW := Lib.hid (IW.out.kept hb)
          have YL := Lib.hid hl1
          have YB := Lib.hid hl2
          have YS := Lib.hid hl3
          have YC := Lib.hid hl4
          clear hb hl1 hl2 hl3 hl4 HS1 HS2 HB1 HB2
          go_upto_if 161 with (fail)
          go_cut [36, 37, 38, 39] from 159 to 214 (fun _ _ _ _ wx => Below wc.heap.size wc wx)
          case first =>
            by_cases hN : (0 : Int) < (n : Int)
            · have HN := Lib.hid (show 0 < n by omega)
              have hc1 : 1 ≤ c := by omega
              obtain ⟨b, off, rfl⟩ := lg_addr LP.out HN.out
              have d0 := lg_at0 LP.out HN.out b off rfl
              have d1 := lg_at1 LP.out HN.out b off rfl
              go_wp2_with (fail)
              refine (Reached_any sp (L 0) (M 0) ch _).mono ?_
              rintro e u16 ⟨rfl, hb⟩
              have HBX := Lib.hid hb
              clear d0 d1
              replace LP := Lib.hid (LP.out.kept hb)
              have d0 := lg_at0 LP.out HN.out b off rfl
              have d1 := lg_at1 LP.out HN.out b off rfl
              clear hb
              by_cases hs : sp < 0
              · have R2 := Lib.hid (show f3E (legE 1 L M) (chE ch) 1 = ck1 sp (L 0) (M 0) ch by unfold ck1; rw [legE_one, show spE sp (M 0) = 1 from (by unfold spE; rw [if_neg (by omega)])])
                go_wp2_with (first
                  | (go_at_call 53; refine (when_any _ _ _).mono ?_; rintro e w7 ⟨rfl, rfl⟩)
                  | (go_at_call 54; refine (changeFault_any _ _).mono ?_; rintro e w7 ⟨rfl, rfl⟩)
                  | (go_at_call 61; refine (legsFault_any _ 1 c L M _ (by omega) (lg_first LP.out HN.out)).mono ?_; rintro e w7 ⟨rfl, hb⟩; have HQ := Lib.hid hb; clear d0 d1; replace LP := Lib.hid (LP.out.kept hb); have d0 := lg_at0 LP.out HN.out b off rfl; have d1 := lg_at1 LP.out HN.out b off rfl; clear hb))
                refine (errs3_any _ _ _ _ _ rfl).mono ?_
                rintro e u17 ⟨rfl, hw2⟩
                have hx := HBX.out.trans (HQ.out.mono HBX.out.size)
                have HBY := Lib.hid (show Below wc.heap.size wc u17 from hw2 ▸ hx.alloc hx.size _)
                have hy : Below w7.heap.size w7 u17 := hw2 ▸ (Below.refl _ w7).alloc (Nat.le_refl _) _
                clear d0 d1
                replace LP := Lib.hid (LP.out.kept hy)
                have d0 := lg_at0 LP.out HN.out b off rfl
                have d1 := lg_at1 LP.out HN.out b off rfl
                clear hx hy hw2
                rw [R2.out]
                have z1 : (ck1 sp (L 0) (M 0) ch == ck1 sp (L 0) (M 0) ch) = true := by simp
                have z2 : (ck1 sp (L 0) (M 0) ch != ck1 sp (L 0) (M 0) ch) = false := by simp
                by_cases hk : ck1 sp (L 0) (M 0) ch = 0
                · have z3 : (ck1 sp (L 0) (M 0) ch != 0) = false := by simp [hk]
                  have z4 : (ck1 sp (L 0) (M 0) ch == 0) = true := by simp [hk]
                  have z5 : (rcZ sp (L 0) (M 0) ch != rcZ sp (L 0) (M 0) ch) = false := by simp
                  have HK := Lib.hid hk
                  clear hk
                  go_wp2_with (fail)
                  refine (ReachedOf_any sp (L 0) (M 0) ch _ HK.out).mono ?_
                  rintro e u18 ⟨rfl, hb⟩
                  replace HBY := Lib.hid (HBY.out.trans (hb.mono HBY.out.size))
                  clear hb
                  go_wp2_with (fail)
                  go_meet
                  exact HBY.out
                · have z3 : (ck1 sp (L 0) (M 0) ch != 0) = true := by simpa using hk
                  have z4 : (ck1 sp (L 0) (M 0) ch == 0) = false := by simpa using hk
                  have z5 : rcZ sp (L 0) (M 0) ch = 0 := by unfold rcZ; rw [if_neg hk]
                  have z6 : (rcZ sp (L 0) (M 0) ch != 0) = false := by simp [z5]
                  rw [z5] at z6
                  clear hk
                  rw [z5]
                  clear z5
                  go_wp2_with (fail)
                  go_meet
                  exact HBY.out
              · by_cases hs2 : M 0 < sp
                · have R2 := Lib.hid (show f3E (legE 1 L M) (chE ch) 1 = ck1 sp (L 0) (M 0) ch by unfold ck1; rw [legE_one, show spE sp (M 0) = 1 from (by unfold spE; rw [if_neg (by omega)])])
                  go_wp2_with (first
                    | (go_at_call 53; refine (when_any _ _ _).mono ?_; rintro e w7 ⟨rfl, rfl⟩)
                    | (go_at_call 54; refine (changeFault_any _ _).mono ?_; rintro e w7 ⟨rfl, rfl⟩)
                    | (go_at_call 61; refine (legsFault_any _ 1 c L M _ (by omega) (lg_first LP.out HN.out)).mono ?_; rintro e w7 ⟨rfl, hb⟩; have HQ := Lib.hid hb; clear d0 d1; replace LP := Lib.hid (LP.out.kept hb); have d0 := lg_at0 LP.out HN.out b off rfl; have d1 := lg_at1 LP.out HN.out b off rfl; clear hb))
                  refine (errs3_any _ _ _ _ _ rfl).mono ?_
                  rintro e u17 ⟨rfl, hw2⟩
                  have hx := HBX.out.trans (HQ.out.mono HBX.out.size)
                  have HBY := Lib.hid (show Below wc.heap.size wc u17 from hw2 ▸ hx.alloc hx.size _)
                  have hy : Below w7.heap.size w7 u17 := hw2 ▸ (Below.refl _ w7).alloc (Nat.le_refl _) _
                  clear d0 d1
                  replace LP := Lib.hid (LP.out.kept hy)
                  have d0 := lg_at0 LP.out HN.out b off rfl
                  have d1 := lg_at1 LP.out HN.out b off rfl
                  clear hx hy hw2
                  rw [R2.out]
                  have z1 : (ck1 sp (L 0) (M 0) ch == ck1 sp (L 0) (M 0) ch) = true := by simp
                  have z2 : (ck1 sp (L 0) (M 0) ch != ck1 sp (L 0) (M 0) ch) = false := by simp
                  by_cases hk : ck1 sp (L 0) (M 0) ch = 0
                  · have z3 : (ck1 sp (L 0) (M 0) ch != 0) = false := by simp [hk]
                    have z4 : (ck1 sp (L 0) (M 0) ch == 0) = true := by simp [hk]
                    have z5 : (rcZ sp (L 0) (M 0) ch != rcZ sp (L 0) (M 0) ch) = false := by simp
                    have HK := Lib.hid hk
                    clear hk
                    go_wp2_with (fail)
                    refine (ReachedOf_any sp (L 0) (M 0) ch _ HK.out).mono ?_
                    rintro e u18 ⟨rfl, hb⟩
                    replace HBY := Lib.hid (HBY.out.trans (hb.mono HBY.out.size))
                    clear hb
                    go_wp2_with (fail)
                    go_meet
                    exact HBY.out
                  · have z3 : (ck1 sp (L 0) (M 0) ch != 0) = true := by simpa using hk
                    have z4 : (ck1 sp (L 0) (M 0) ch == 0) = false := by simpa using hk
                    have z5 : rcZ sp (L 0) (M 0) ch = 0 := by unfold rcZ; rw [if_neg hk]
                    have z6 : (rcZ sp (L 0) (M 0) ch != 0) = false := by simp [z5]
                    rw [z5] at z6
                    clear hk
                    rw [z5]
                    clear z5
                    go_wp2_with (fail)
                    go_meet
                    exact HBY.out
                · have R2 := Lib.hid (show f3E (legE 1 L M) (chE ch) 0 = ck1 sp (L 0) (M 0) ch by unfold ck1; rw [legE_one, show spE sp (M 0) = 0 from (by unfold spE; rw [if_pos (by omega)])])
                  go_wp2_with (first
                    | (go_at_call 53; refine (when_any _ _ _).mono ?_; rintro e w7 ⟨rfl, rfl⟩)
                    | (go_at_call 54; refine (changeFault_any _ _).mono ?_; rintro e w7 ⟨rfl, rfl⟩)
                    | (go_at_call 61; refine (legsFault_any _ 1 c L M _ (by omega) (lg_first LP.out HN.out)).mono ?_; rintro e w7 ⟨rfl, hb⟩; have HQ := Lib.hid hb; clear d0 d1; replace LP := Lib.hid (LP.out.kept hb); have d0 := lg_at0 LP.out HN.out b off rfl; have d1 := lg_at1 LP.out HN.out b off rfl; clear hb))
                  refine (errs3_any _ _ _ _ _ rfl).mono ?_
                  rintro e u17 ⟨rfl, hw2⟩
                  have hx := HBX.out.trans (HQ.out.mono HBX.out.size)
                  have HBY := Lib.hid (show Below wc.heap.size wc u17 from hw2 ▸ hx.alloc hx.size _)
                  have hy : Below w7.heap.size w7 u17 := hw2 ▸ (Below.refl _ w7).alloc (Nat.le_refl _) _
                  clear d0 d1
                  replace LP := Lib.hid (LP.out.kept hy)
                  have d0 := lg_at0 LP.out HN.out b off rfl
                  have d1 := lg_at1 LP.out HN.out b off rfl
                  clear hx hy hw2
                  rw [R2.out]
                  have z1 : (ck1 sp (L 0) (M 0) ch == ck1 sp (L 0) (M 0) ch) = true := by simp
                  have z2 : (ck1 sp (L 0) (M 0) ch != ck1 sp (L 0) (M 0) ch) = false := by simp
                  by_cases hk : ck1 sp (L 0) (M 0) ch = 0
                  · have z3 : (ck1 sp (L 0) (M 0) ch != 0) = false := by simp [hk]
                    have z4 : (ck1 sp (L 0) (M 0) ch == 0) = true := by simp [hk]
                    have z5 : (rcZ sp (L 0) (M 0) ch != rcZ sp (L 0) (M 0) ch) = false := by simp
                    have HK := Lib.hid hk
                    clear hk
                    go_wp2_with (fail)
                    refine (ReachedOf_any sp (L 0) (M 0) ch _ HK.out).mono ?_
                    rintro e u18 ⟨rfl, hb⟩
                    replace HBY := Lib.hid (HBY.out.trans (hb.mono HBY.out.size))
                    clear hb
                    go_wp2_with (fail)
                    go_meet
                    exact HBY.out
                  · have z3 : (ck1 sp (L 0) (M 0) ch != 0) = true := by simpa using hk
                    have z4 : (ck1 sp (L 0) (M 0) ch == 0) = false := by simpa using hk
                    have z5 : rcZ sp (L 0) (M 0) ch = 0 := by unfold rcZ; rw [if_neg hk]
                    have z6 : (rcZ sp (L 0) (M 0) ch != 0) = false := by simp [z5]
                    rw [z5] at z6
                    clear hk
                    rw [z5]
                    clear z5
                    go_wp2_with (fail)
                    go_meet
                    exact HBY.out
            · go_wp2_with (fail)
              go_meet
              exact Below.refl _ _
          case rest =>
            have hb := hcut
            replace BW := Lib.hid (BW.out.trans (hb.mono BW.out.size))
            replace LP := Lib.hid (LP.out.kept hb)
            replace CP := Lib.hid (CP.out.kept hb)
            replace H4 := Lib.hid (heap_keep hb H4.out)
            replace HPT := Lib.hid (HPT.out.kept hb)
            replace LR := Lib.hid (LR.out.kept hb)
            replace CR := Lib.hid (CR.out.kept hb)
            replace SL := Lib.hid (SL.out.kept hb)
            replace SI := Lib.hid (SI.out.kept hb)
            replace BL := Lib.hid (BL.out.kept hb)
            replace BI := Lib.hid (BI.out.kept hb)
            replace LW := Lib.hid (LW.out.kept hb)
            replace IW := Lib.hid (IW.out.kept hb)
            replace YL := Lib.hid (YL.out.kept hb)
            replace YB := Lib.hid (YB.out.kept hb)
            replace YS := Lib.hid (YS.out.kept hb)
            replace YC := Lib.hid (YC.out.kept hb)
            clear hb hcut
            have z1 : (mvE p lim == mvE p lim) = true := by simp
            have z2 : (brE sp ch == brE sp ch) = true := by simp
            have z3 : (brZ sp ch == brZ sp ch) = true := by simp
            have z4 : (splA n L M m C lg at_ == splA n L M m C lg at_) = true := by simp
            have z5 : (cornE n L M m C == cornE n L M m C) = true := by simp
            go_wp2_with (fail)
            refine (equalL_any ar wa kr cr wac U V _ LR.out LW.out (by omega)).mono ?_
            rintro e u24 ⟨rfl, hb⟩
            replace BW := Lib.hid (BW.out.trans (hb.mono BW.out.size))
            replace LP := Lib.hid (LP.out.kept hb)
            replace CP := Lib.hid (CP.out.kept hb)
            replace H4 := Lib.hid (heap_keep hb H4.out)
            replace HPT := Lib.hid (HPT.out.kept hb)
            replace LR := Lib.hid (LR.out.kept hb)
            replace CR := Lib.hid (CR.out.kept hb)
            replace SL := Lib.hid (SL.out.kept hb)
            replace SI := Lib.hid (SI.out.kept hb)
            replace BL := Lib.hid (BL.out.kept hb)
            replace BI := Lib.hid (BI.out.kept hb)
            replace LW := Lib.hid (LW.out.kept hb)
            replace IW := Lib.hid (IW.out.kept hb)
            replace YL := Lib.hid (YL.out.kept hb)
            replace YB := Lib.hid (YB.out.kept hb)
            replace YS := Lib.hid (YS.out.kept hb)
            replace YC := Lib.hid (YC.out.kept hb)
            clear hb
            go_wp2_with (fail)
            refine (equalV_any ak wb_ kk ck wbc X X _ hk2 CR.out IW.out (fun _ _ => rfl)).mono ?_
            rintro e u25 ⟨rfl, hb⟩
            replace BW := Lib.hid (BW.out.trans (hb.mono BW.out.size))
            replace LP := Lib.hid (LP.out.kept hb)
            replace CP := Lib.hid (CP.out.kept hb)
            replace H4 := Lib.hid (heap_keep hb H4.out)
            replace HPT := Lib.hid (HPT.out.kept hb)
            replace LR := Lib.hid (LR.out.kept hb)
            replace CR := Lib.hid (CR.out.kept hb)
            replace SL := Lib.hid (SL.out.kept hb)
            replace SI := Lib.hid (SI.out.kept hb)
            replace BL := Lib.hid (BL.out.kept hb)
            replace BI := Lib.hid (BI.out.kept hb)
            replace LW := Lib.hid (LW.out.kept hb)
            replace IW := Lib.hid (IW.out.kept hb)
            replace YL := Lib.hid (YL.out.kept hb)
            replace YB := Lib.hid (YB.out.kept hb)
            replace YS := Lib.hid (YS.out.kept hb)
            replace YC := Lib.hid (YC.out.kept hb)
            clear hb
            go_wp2_with (fail)
            refine (equalL_any s1 y1 k1 d1 y1c SU SV _ SL.out YL.out (by omega)).mono ?_
            rintro e u26 ⟨rfl, hb⟩
            replace BW := Lib.hid (BW.out.trans (hb.mono BW.out.size))
            replace LP := Lib.hid (LP.out.kept hb)
            replace CP := Lib.hid (CP.out.kept hb)
            replace H4 := Lib.hid (heap_keep hb H4.out)
            replace HPT := Lib.hid (HPT.out.kept hb)
            replace LR := Lib.hid (LR.out.kept hb)
            replace CR := Lib.hid (CR.out.kept hb)
            replace SL := Lib.hid (SL.out.kept hb)
            replace SI := Lib.hid (SI.out.kept hb)
            replace BL := Lib.hid (BL.out.kept hb)
            replace BI := Lib.hid (BI.out.kept hb)
            replace LW := Lib.hid (LW.out.kept hb)
            replace IW := Lib.hid (IW.out.kept hb)
            replace YL := Lib.hid (YL.out.kept hb)
            replace YB := Lib.hid (YB.out.kept hb)
            replace YS := Lib.hid (YS.out.kept hb)
            replace YC := Lib.hid (YC.out.kept hb)
            clear hb
            go_wp2_with (fail)
            refine (equalV_any s2 y3 k2 d2 y3c SC SC _ (by omega) SI.out YS.out (fun _ _ => rfl)).mono ?_
            rintro e u27 ⟨rfl, hb⟩
            replace BW := Lib.hid (BW.out.trans (hb.mono BW.out.size))
            replace LP := Lib.hid (LP.out.kept hb)
            replace CP := Lib.hid (CP.out.kept hb)
            replace H4 := Lib.hid (heap_keep hb H4.out)
            replace HPT := Lib.hid (HPT.out.kept hb)
            replace LR := Lib.hid (LR.out.kept hb)
            replace CR := Lib.hid (CR.out.kept hb)
            replace SL := Lib.hid (SL.out.kept hb)
            replace SI := Lib.hid (SI.out.kept hb)
            replace BL := Lib.hid (BL.out.kept hb)
            replace BI := Lib.hid (BI.out.kept hb)
            replace LW := Lib.hid (LW.out.kept hb)
            replace IW := Lib.hid (IW.out.kept hb)
            replace YL := Lib.hid (YL.out.kept hb)
            replace YB := Lib.hid (YB.out.kept hb)
            replace YS := Lib.hid (YS.out.kept hb)
            replace YC := Lib.hid (YC.out.kept hb)
            clear hb
            go_wp2_with (fail)
            refine (equalL_any b1 y2 j1 f1 y2c BU BV _ BL.out YB.out (by omega)).mono ?_
            rintro e u28 ⟨rfl, hb⟩
            replace BW := Lib.hid (BW.out.trans (hb.mono BW.out.size))
            replace LP := Lib.hid (LP.out.kept hb)
            replace CP := Lib.hid (CP.out.kept hb)
            replace H4 := Lib.hid (heap_keep hb H4.out)
            replace HPT := Lib.hid (HPT.out.kept hb)
            replace LR := Lib.hid (LR.out.kept hb)
            replace CR := Lib.hid (CR.out.kept hb)
            replace SL := Lib.hid (SL.out.kept hb)
            replace SI := Lib.hid (SI.out.kept hb)
            replace BL := Lib.hid (BL.out.kept hb)
            replace BI := Lib.hid (BI.out.kept hb)
            replace LW := Lib.hid (LW.out.kept hb)
            replace IW := Lib.hid (IW.out.kept hb)
            replace YL := Lib.hid (YL.out.kept hb)
            replace YB := Lib.hid (YB.out.kept hb)
            replace YS := Lib.hid (YS.out.kept hb)
            replace YC := Lib.hid (YC.out.kept hb)
            clear hb
            go_wp2_with (fail)
            refine (equalV_any b2 y4 j2 f2 y4c BC BC _ (by omega) BI.out YC.out (fun _ _ => rfl)).mono ?_
            rintro e u29 ⟨rfl, hb⟩
            replace BW := Lib.hid (BW.out.trans (hb.mono BW.out.size))
            replace LP := Lib.hid (LP.out.kept hb)
            replace CP := Lib.hid (CP.out.kept hb)
            replace H4 := Lib.hid (heap_keep hb H4.out)
            replace HPT := Lib.hid (HPT.out.kept hb)
            replace LR := Lib.hid (LR.out.kept hb)
            replace CR := Lib.hid (CR.out.kept hb)
            replace SL := Lib.hid (SL.out.kept hb)
            replace SI := Lib.hid (SI.out.kept hb)
            replace BL := Lib.hid (BL.out.kept hb)
            replace BI := Lib.hid (BI.out.kept hb)
            replace LW := Lib.hid (LW.out.kept hb)
            replace IW := Lib.hid (IW.out.kept hb)
            replace YL := Lib.hid (YL.out.kept hb)
            replace YB := Lib.hid (YB.out.kept hb)
            replace YS := Lib.hid (YS.out.kept hb)
            replace YC := Lib.hid (YC.out.kept hb)
            clear hb
            go_wp2_with (fail)
            refine (moved_any _).mono ?_
            rintro e u30 ⟨rfl, hb⟩
            replace BW := Lib.hid (BW.out.trans (hb.mono BW.out.size))
            replace LP := Lib.hid (LP.out.kept hb)
            replace CP := Lib.hid (CP.out.kept hb)
            replace H4 := Lib.hid (heap_keep hb H4.out)
            replace HPT := Lib.hid (HPT.out.kept hb)
            replace LR := Lib.hid (LR.out.kept hb)
            replace CR := Lib.hid (CR.out.kept hb)
            replace SL := Lib.hid (SL.out.kept hb)
            replace SI := Lib.hid (SI.out.kept hb)
            replace BL := Lib.hid (BL.out.kept hb)
            replace BI := Lib.hid (BI.out.kept hb)
            replace LW := Lib.hid (LW.out.kept hb)
            replace IW := Lib.hid (IW.out.kept hb)
            replace YL := Lib.hid (YL.out.kept hb)
            replace YB := Lib.hid (YB.out.kept hb)
            replace YS := Lib.hid (YS.out.kept hb)
            replace YC := Lib.hid (YC.out.kept hb)
            clear hb
            go_wp2_with (fail)
            go_ret
            exact ⟨rfl, BW.out⟩
end Go.Proofs.Ytdanlnmdkneepaa

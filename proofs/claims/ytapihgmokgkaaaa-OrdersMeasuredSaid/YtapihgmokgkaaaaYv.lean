/- Drawn numbers, orders and points. -/
import Derived.Test.YtapihgmokgkaaaaYu
import Derived.RegionTactic
import Derived.ChangeAlike
set_option linter.unusedSimpArgs false
set_option linter.unusedVariables false
namespace Go.Proofs.Ytapihgmokgkaaaa
open Go.RowKit

theorem Strm.setCell {w : World} {B k : Nat} (h : Strm w B k) {a : Addr} (ha : B < a.block) (v : Value) : Strm (w.setCell a v) B k :=
  h.kept ((Mut.refl (· = a.block) w).setCell (p := a) (fun _ => rfl) v) (fun x hx => by omega)
theorem Strm.drewN {w : World} {B k : Nat} (h : Strm w B k) (n : Nat) : Strm (w.drewN n) B k :=
  h.kept (S := fun _ => False) ⟨rfl, rfl, rfl, Nat.le_refl _, fun _ _ _ => rfl⟩ (fun _ _ h => h)
theorem Mut.drewN {S : Nat → Prop} {a w : World} (h : Mut S a w) (n : Nat) : Mut S a (w.drewN n) := ⟨h.os, h.tape, h.output, h.size, h.block⟩

theorem pick_at (B k : Nat) (l : List Int) (n : Nat) (P : Int → Prop) (w : World) (g : Nat) (hg : w.heap.size = g) (hs : Strm w B k) (hk : k + 1 ≤ 1000000) (hn : l.length = n) (h3 : 1 ≤ n) (h4 : n ≤ 1000000) (hP : ∀ z ∈ l, P z) :
    Calls Try.prog 25 #[.pointer (some ⟨B, 0, none⟩), .slice (some ⟨g, 0, none⟩) n n] (w.alloc (.cells (l.map (Value.int .i64)).toArray 3)) (StrmPost w B k 1 (IntE P)) := by
  subst hg; exact pick_new B k l n P w hs hk hn h3 h4 hP



set_option maxHeartbeats 400000 in
theorem odd_any (B k : Nat) (lo hi : Int) (w : World) (hs : Strm w B k) (hk : k + 2 ≤ 1000000) (h3 : lo ≤ hi) (h4 : -1000000000000 ≤ lo) (h5 : hi ≤ 1000000000000) :
    Calls Try.prog 24 #[.pointer (some ⟨B, 0, none⟩), .int .i64 lo, .int .i64 hi] w (StrmPost w B k 2 (IntE fun z => -1100000000000 ≤ z ∧ z ≤ 1100000000000)) := by
  go_enter Try.func24, Try.ntmps24
  go_wp2_with (first
    | (go_at_call 23; refine (flip_any B k _ w hs (by omega) (by omega) (by omega)).mono ?_; rintro e w1 ⟨⟨b, rfl⟩, hst, hmt⟩; cases b)
    | (go_at_call 22; refine (range_any B (k + 1) _ _ w1 hst (by omega) (by omega) (by omega) (by omega)).mono ?_; rintro e w2 ⟨⟨z, rfl, h6, h7⟩, hst2, hmt2⟩)
    | (go_at_call 25; refine (pick_new B (k + 1) [lo - 1, hi + 1, lo, hi, -1099511627776, 1099511627776] 6 (fun z => -1100000000000 ≤ z ∧ z ≤ 1100000000000) w1 hst (by omega) rfl (by omega) (by omega) (by intro z hz; simp only [List.mem_cons, List.not_mem_nil, or_false] at hz; omega)).mono ?_; rintro e w2 ⟨⟨z, rfl, h6, h7⟩, hst2, hmt2⟩))
  all_goals
    go_ret
    exact StrmPost.trans hmt (d := 1) ⟨⟨_, rfl, by omega, by omega⟩, hst2, hmt2⟩

def ivs (l : List Int) : List Value := l.map (Value.int .i64)
theorem ivs_length (l : List Int) : (ivs l).length = l.length := by simp [ivs]
theorem ivs_app (l m : List Int) : ivs (l ++ m) = ivs l ++ ivs m := by simp [ivs]
theorem ivs_set (l : List Int) (i : Nat) (z : Int) : ivs (l.set i z) = (ivs l).set i (.int .i64 z) := by simp [ivs, List.map_set]
/-- The numbers below n. -/
def upto (n : Nat) : List Int := (List.range n).map Int.ofNat
theorem upto_succ (n : Nat) : upto (n + 1) = upto n ++ [(n : Int)] := by simp [upto, List.range_succ]
theorem upto_length (n : Nat) : (upto n).length = n := by simp [upto]
theorem swap_perm (l : List Int) (i j : Nat) (hi : i < l.length) (hj : j < l.length) : ((l.set i l[j]).set j l[i]).Perm l := List.set_set_perm hi hj

theorem mut_of_bel {S : Nat → Prop} {w w' : World} (h : Below w.heap.size w w') : Mut S w w' := ⟨h.os, h.tape, h.output, h.size, fun k hk _ => h.block k hk⟩
def OrderE (w : World) (B k n : Nat) (e : Ending) (w' : World) : Prop :=
  ∃ a c l, e = .returned (.slice a n c) ∧ w'.ownsRow w.heap.size 3 1 (.slice a n c) n (ivs l) ∧ l.Perm (upto n) ∧ Strm w' B (k + n) ∧ Mut (· = B) w w'

set_option maxRecDepth 100000 in
set_option maxHeartbeats 4000000 in
theorem order_any (B k n : Nat) (w : World) (hs : Strm w B k) (hk : k + n ≤ 1000000) (hn : n ≤ 100000) :
    Calls Try.prog 26 #[.pointer (some ⟨B, 0, none⟩), .int .i64 n] w (OrderE w B k n) := by
  obtain ⟨i0, hi0, hz0, hz1, hz2⟩ := info_parts info_int1
  have HS := Lib.hid hs
  have hlB := hs.lt
  clear hs
  go_enter Try.func26, Try.ntmps26
  go_wp2_with (fail)
  go_loopw [5, 10] (fun v i wr => ∃ j : Nat, j ≤ n ∧ i = .int .i64 j ∧ wr.ownsRow w.heap.size 3 1 v j (ivs (upto j)) ∧ Below w.heap.size w wr) (fun _ i _ => n - (intOf i).toNat)
  case atStart => exact ⟨0, by omega, rfl, World.ownsRow_nil _ _ _ _, (by repeat (first | exact Below.refl _ _ | assumption | refine Below.drew ?_ | refine bdrewN ?_ _ | refine Below.setCell ?_ (by first | omega | (simp <;> omega)) _ | refine Below.alloc ?_ (by first | omega | (simp <;> omega)) _))⟩
  case round =>
    obtain ⟨j, hj, rfl, hown, hbel⟩ := hrel
    have hsz := hbel.size
    have HO := Lib.hid hown
    have HB := Lib.hid hbel
    obtain ⟨ao, co, rfl⟩ := own_slice' hown
    clear hown hbel
    by_cases hlt : j < n
    · go_wp2_with (at_builtin; refine wpList_append_lies _ rfl _ _ 22 rfl w.heap.size 3 i0 (.int .i64 0) 1 8 Try.underlying22 hi0 hz0 hz1 hz2 rfl (by decide) _ _ _ rfl (HO.out.alloc _) ⟨wr.heap.size, 0, none⟩ 1 1 [.int .i64 j] rfl rfl (World.news_of_block (cs := #[.int .i64 j]) (t := 3) (fr := (0, 0)) (heap_alloc_new wr _)) (by simp [Value.oneCell']) (by omega) (by unfold maxLen; omega) (by omega) (by simp; omega) (wr.heap.size + 1) (by simp) ?_; intro g cap' w4 hown4 hgrow hat hlt4; have HO4 := Lib.hid hown4; have HB4 := Lib.hid (Below.grown (Below.alloc HB.out hsz _) hgrow (by simp; omega) (fun b hb => (HO.out.lt b hb).1)); clear hown4 hgrow hat)
      go_roundw
      case rel => exact ⟨j + 1, by omega, by go_num, by rw [upto_succ, ivs_app]; exact HO4.out, HB4.out⟩
      case measure => simp [intOf]; omega
    · obtain rfl : j = n := by omega
      have HS1 := Lib.hid (HS.out.kept (S := fun _ => False) (mut_of_bel HB.out) (fun _ _ h => h))
      go_wp2
      go_loopw [7] (fun i wr => ∃ (t : Nat) (I : Int), i = .int .i64 I ∧ I ≤ (t : Int) - 1 ∧ (t : Int) - 1 ≤ I ∧ t ≤ j ∧ ∃ l, wr.ownsRow w.heap.size 3 1 (.slice ao j co) j (ivs l) ∧ l.Perm (upto j) ∧ Strm wr B (k + (j - t)) ∧ Mut (· = B) w wr) (fun i _ => (intOf i).toNat)
      case atStart => exact ⟨j, _, rfl, by omega, by omega, by omega, upto j, HO.out, List.Perm.refl _, HS1.out.more (by omega) (by omega), mut_of_bel HB.out⟩
      case round =>
        obtain ⟨t, I, rfl, hI1, hI2, ht, l, hown, hperm, hst, hmt⟩ := hrel
        have hll : l.length = j := by rw [hperm.length_eq, upto_length]
        have HO2 := Lib.hid hown
        have HP := Lib.hid hperm
        have HS2 := Lib.hid hst
        have HM2 := Lib.hid hmt
        have hsz2 := hmt.size
        clear hown hperm hst hmt HO HS1 HB
        by_cases hI : 0 < I
        · obtain ⟨m, rfl⟩ := Int.eq_ofNat_of_zero_le (show 0 ≤ I by omega)
          go_wp2_with (fail)
          refine (next_any B _ ((m : Int) + 1) wr HS2.out (by omega) (by omega) (by omega)).mono ?_
          rintro e w2 ⟨⟨r, rfl, hr0, hr1⟩, hst2, hmt2⟩
          obtain ⟨q, rfl⟩ := Int.eq_ofNat_of_zero_le hr0
          have hO3 := own_mut HO2.out hmt2 (fun b hb e => by have := (HO2.out.lt b hb).1; omega)
          obtain ⟨g, cap', hv, hg, hlg⟩ := hO3.form (by omega)
          cases hv
          have hm : m < j := by omega
          have hq : q < j := by omega
          have cm : w2.cell? ⟨g, m, none⟩ = some (.int .i64 (l[m]'(by omega))) := by rw [hO3.cellAt m (by omega)]; simp [ivs, hll, hm]
          have cq : w2.cell? ⟨g, q, none⟩ = some (.int .i64 (l[q]'(by omega))) := by rw [hO3.cellAt q (by omega)]; simp [ivs, hll, hq]
          have fm := hO3.frozenAt m
          have fq := hO3.frozenAt q
          have HO3 := Lib.hid hO3
          have HS3 := Lib.hid hst2
          have HM3 := Lib.hid (HM2.out.trans hmt2)
          have b0 : (0 : Int) ≤ (m : Int) := by omega
          have b1 : (m : Int) < (j : Int) := by omega
          have b2 : (q : Int) < (j : Int) := by omega
          clear hO3 hst2 hmt2 HO2 HS2 HM2
          generalize hz1 : l[m]'(by omega) = z1 at *
          generalize hz2 : l[q]'(by omega) = z2 at *
          have HZ1 := Lib.hid hz1
          have HZ2 := Lib.hid hz2
          clear hz1 hz2
          by_cases hmq : q = m
          · subst hmq
            go_wp2_with (fail)
            go_region
            all_goals
              go_wp2
              go_roundw
              case rel =>
                have O := own_set1 (o := q) (u := .int .i64 z2) (own_set1 (o := q) (u := .int .i64 z2) HO3.out)
                rw [← ivs_set, ← ivs_set] at O
                exact ⟨q, _, rfl, by omega, by omega, by omega, _, own_drew O, List.Perm.trans (by have := swap_perm l q q (by omega) (by omega); rw [HZ2.out] at this; exact this) HP.out, (((HS3.out.setCell (by show B < g; omega) _).setCell (by show B < g; omega) _).more (by omega) (by omega)).kept (S := fun _ => False) (Mut.refl _ _).drew (fun _ _ h => h), ((HM3.out.setCell (fun h => absurd h (by show ¬ g < w.heap.size; omega)) _).setCell (fun h => absurd h (by show ¬ g < w.heap.size; omega)) _).drew⟩
              case measure => simp [intOf]; omega
          · go_wp2_with (fail)
            go_region
            all_goals
              go_wp2
              go_roundw
              case rel =>
                have O := own_set1 (o := q) (u := .int .i64 z1) (own_set1 (o := m) (u := .int .i64 z2) HO3.out)
                rw [← ivs_set, ← ivs_set] at O
                exact ⟨m, _, rfl, by omega, by omega, by omega, _, own_drew O, List.Perm.trans (by have := swap_perm l m q (by omega) (by omega); rw [HZ1.out, HZ2.out] at this; exact this) HP.out, (((HS3.out.setCell (by show B < g; omega) _).setCell (by show B < g; omega) _).more (by omega) (by omega)).kept (S := fun _ => False) (Mut.refl _ _).drew (fun _ _ h => h), ((HM3.out.setCell (fun h => absurd h (by show ¬ g < w.heap.size; omega)) _).setCell (fun h => absurd h (by show ¬ g < w.heap.size; omega)) _).drew⟩
              case measure => simp [intOf]; omega
        · go_wp2
          go_ret
          exact ⟨_, _, l, rfl, HO2.out, HP.out, HS2.out.more (by omega) (by omega), HM2.out⟩

def PtE (e : Ending) : Prop := ∃ x y : Int, e = .returned (.agg #[.int .i64 x, .int .i64 y])
set_option maxHeartbeats 2000000 in
theorem apoint_any (B k : Nat) (w : World) (hs : Strm w B k) (hk : k + 6 ≤ 1000000) :
    Calls Try.prog 4 #[.pointer (some ⟨B, 0, none⟩)] w (StrmPost w B k 6 PtE) := by
  have hlt := hs.lt
  go_enter Try.func4, Try.ntmps4
  go_wp2_with fail
  refine (range_any B k (-3) 14 (w.alloc (.cells #[.int .i64 0, .int .i64 0] 27)) (hs.alloc _) (by omega) (by omega) (by omega) (by omega)).mono ?_
  rintro e w1 ⟨⟨x, rfl, hx1, hx2⟩, hst1, hm1⟩
  have z1 : w.heap.size + 1 ≤ w1.heap.size := by have := hm1.size; simpa using this
  have hR1 := (hm1.block w.heap.size (by simp) (by omega)).trans (heap_alloc_new w _)
  have HR1 := Lib.hid hR1
  clear hR1
  go_wp2_with fail
  refine (range_any B (k + 1) (-3) 14 w1 hst1 (by omega) (by omega) (by omega) (by omega)).mono ?_
  rintro e w2 ⟨⟨y, rfl, hy1, hy2⟩, hst2, hm2⟩
  have z2 := hm2.size
  go_wp2_with fail
  refine (flip_any B (k + 1 + 1) 40 _ (hst2.alloc _) (by omega) (by omega) (by omega)).mono ?_
  rintro e w4 ⟨⟨b, rfl⟩, hst4, hm4⟩
  have z4 : w2.heap.size + 1 ≤ w4.heap.size := by have := hm4.size; simpa using this
  have hR4 := (hm4.block w.heap.size (by simp; omega) (by omega)).trans ((Below.heap_alloc w2 _ w.heap.size (by omega)).trans ((hm2.block w.heap.size (by omega) (by omega)).trans HR1.out))
  have hV4 := (hm4.block w2.heap.size (by simp) (by omega)).trans (heap_alloc_new w2 _)
  have M4 : Mut (· = B) w w4 := (((((Mut.refl _ _).alloc _).trans hm1).trans hm2).alloc _).trans hm4
  clear hm1 hm2 hm4 hst1 hst2
  have hne : w.heap.size ≠ w2.heap.size := by omega
  have hlt2 : w.heap.size < w2.heap.size := by omega
  cases b
  · have rc0 : w4.cell? ⟨w.heap.size, 0, none⟩ = some (.int .i64 0) := (by simp [World.cell?, hR4]); have rf0 : w4.frozen? ⟨w.heap.size, 0, none⟩ = false := (by simp [World.frozen?, hR4]); have rc1 : w4.cell? ⟨w.heap.size, 1, none⟩ = some (.int .i64 0) := (by simp [World.cell?, hR4]); have rf1 : w4.frozen? ⟨w.heap.size, 1, none⟩ = false := (by simp [World.frozen?, hR4])
    have vc0 : w4.cell? ⟨w2.heap.size, 0, none⟩ = some (.int .i64 x) := (by simp [World.cell?, hV4]); have vf0 : w4.frozen? ⟨w2.heap.size, 0, none⟩ = false := (by simp [World.frozen?, hV4]); have vc1 : w4.cell? ⟨w2.heap.size, 1, none⟩ = some (.int .i64 y) := (by simp [World.cell?, hV4]); have vf1 : w4.frozen? ⟨w2.heap.size, 1, none⟩ = false := (by simp [World.frozen?, hV4])
    clear hR4 hV4
    go_wp2
    exact bodyPost_ret (v := .agg #[.int .i64 x, .int .i64 y]) (by simp [results, Try.results4, go_sem, rc0, rc1]) rfl
      ⟨⟨x, y, rfl⟩, ((hst4.setCell (by show B < w.heap.size; omega) _).setCell (by show B < w.heap.size; omega) _).more (by omega) (by omega), ((M4.setCell (fun h => absurd h (by simp)) _).setCell (fun h => absurd h (by simp)) _)⟩
  · go_wp2_with fail
    refine (odd_any B (k + 1 + 1 + 1) _ _ w4 hst4 (by omega) (by omega) (by omega) (by omega)).mono ?_
    rintro e w5 ⟨⟨o, rfl, ho1, ho2⟩, hst5, hm5⟩
    have z5 := hm5.size
    have hR5 := (hm5.block w.heap.size (by omega) (by omega)).trans hR4
    have hV5 := (hm5.block w2.heap.size (by omega) (by omega)).trans hV4
    have M5 := M4.trans hm5
    clear hm5 hR4 hV4 M4
    have rc0 : w5.cell? ⟨w.heap.size, 0, none⟩ = some (.int .i64 0) := (by simp [World.cell?, hR5]); have rf0 : w5.frozen? ⟨w.heap.size, 0, none⟩ = false := (by simp [World.frozen?, hR5]); have rc1 : w5.cell? ⟨w.heap.size, 1, none⟩ = some (.int .i64 0) := (by simp [World.cell?, hR5]); have rf1 : w5.frozen? ⟨w.heap.size, 1, none⟩ = false := (by simp [World.frozen?, hR5])
    have vc0 : w5.cell? ⟨w2.heap.size, 0, none⟩ = some (.int .i64 x) := (by simp [World.cell?, hV5]); have vf0 : w5.frozen? ⟨w2.heap.size, 0, none⟩ = false := (by simp [World.frozen?, hV5]); have vc1 : w5.cell? ⟨w2.heap.size, 1, none⟩ = some (.int .i64 y) := (by simp [World.cell?, hV5]); have vf1 : w5.frozen? ⟨w2.heap.size, 1, none⟩ = false := (by simp [World.frozen?, hV5])
    clear hR5 hV5
    go_wp2
    exact bodyPost_ret (v := .agg #[.int .i64 o, .int .i64 y]) (by simp [results, Try.results4, go_sem, rc0, rc1, vc0, vc1, hne]) rfl
      ⟨⟨o, y, rfl⟩, (((hst5.setCell (by show B < w2.heap.size; omega) _).setCell (by show B < w.heap.size; omega) _).setCell (by show B < w.heap.size; omega) _).more (by omega) (by omega), (((M5.setCell (fun h => absurd h (by dsimp only; omega)) _).setCell (fun h => absurd h (by simp)) _).setCell (fun h => absurd h (by simp)) _)⟩
end Go.Proofs.Ytapihgmokgkaaaa

/- A drawn order of numbers. -/
import Derived.Test.YtpgpjoghfpfhlaaMk2
import Derived.RegionTactic
import Derived.ChangeAlike
set_option linter.unusedSimpArgs false
set_option linter.unusedVariables false
namespace Go.Proofs.Ytpgpjoghfpfhlaa
open Go.RowKit

theorem info_int1 : (Try.prog.info? 3).map (fun i => (i.zero, i.size, i.bytes)) = some (some (.int .i64 0), 1, 8) := by kernel_rfl
/-- The numbers of a list as cells. -/
def ivs (l : List Int) : List Value := l.map (Value.int .i64)
theorem ivs_length (l : List Int) : (ivs l).length = l.length := by simp [ivs]
theorem ivs_app (l m : List Int) : ivs (l ++ m) = ivs l ++ ivs m := by simp [ivs]
theorem ivs_set (l : List Int) (i : Nat) (z : Int) : ivs (l.set i z) = (ivs l).set i (.int .i64 z) := by simp [ivs, List.map_set]
/-- The numbers below n. -/
def upto (n : Nat) : List Int := (List.range n).map Int.ofNat
theorem upto_succ (n : Nat) : upto (n + 1) = upto n ++ [(n : Int)] := by simp [upto, List.range_succ]
theorem upto_length (n : Nat) : (upto n).length = n := by simp [upto]
theorem swap_perm (l : List Int) (i j : Nat) (hi : i < l.length) (hj : j < l.length) : ((l.set i l[j]).set j l[i]).Perm l := List.set_set_perm hi hj

theorem mut_of_bel {S : Nat → Prop} {w w' : World} (h : Below w.heap.size w w') : Mut S w w' := ⟨h.os, h.tape, h.output, h.size, fun k hk _ => h.block k hk⟩
theorem own_set1 {w : World} {base n c g o size : Nat} {e : TypeId} {xs : List Value} {u : Value} (h : w.ownsRow base e size (.slice (some ⟨g, 0, none⟩) n c) n xs) : (w.setCell ⟨g, o, none⟩ u).ownsRow base e size (.slice (some ⟨g, 0, none⟩) n c) n (xs.set o u) := by
  obtain ⟨h1, h2⟩ := h
  refine ⟨by simpa using h1, ?_⟩
  rcases h2 with ⟨h2, _⟩ | ⟨g', cap, cur, hv, hb, hh, hn, hm, hs, hx⟩
  · cases h2
  · cases hv
    refine .inr ⟨g, c, cur.setIfInBounds o u, rfl, hb, ?_, hn, hm, by simpa using hs, ?_⟩
    · simp [World.setCell, Array.getElem?_modify, hh]
    · rw [← hx]
      simp [List.take_set]
theorem own_drew {w : World} {base n size : Nat} {e : TypeId} {v : Value} {xs : List Value} (h : w.ownsRow base e size v n xs) : w.drew.ownsRow base e size v n xs := h
/-- A slice of new memory with the numbers below n in some order; numbers of the stream were taken. -/
def OrderE (w : World) (B k n : Nat) (e : Ending) (w' : World) : Prop :=
  ∃ a c l, e = .returned (.slice a n c) ∧ w'.ownsRow w.heap.size 3 1 (.slice a n c) n (ivs l) ∧ l.Perm (upto n) ∧ Strm w' B (k + n) ∧ Mut (· = B) w w'

set_option maxRecDepth 100000 in
set_option maxHeartbeats 4000000 in
theorem order_any (B k n : Nat) (w : World) (hs : Strm w B k) (hk : k + n ≤ 1000000) (hn : n ≤ 100000) :
    Calls Try.prog 26 #[.pointer (some ⟨B, 0, none⟩), .int .i64 n] w (OrderE w B k n) := by
  obtain ⟨i0, hi0, hz0, hz1, hz2⟩ := info_parts info_int1
  have HS := Lib.hid hs
  have hlB := hs.lt
  clear hs
  go_enter Try.func26, Try.ntmps26
  go_wp2_with (fail)
  go_loopw [5, 10] (fun v i wr => ∃ j : Nat, j ≤ n ∧ i = .int .i64 j ∧ wr.ownsRow w.heap.size 3 1 v j (ivs (upto j)) ∧ Below w.heap.size w wr) (fun _ i _ => n - (intOf i).toNat)
  case atStart => exact ⟨0, by omega, rfl, World.ownsRow_nil _ _ _ _, (by repeat (first | exact Below.refl _ _ | assumption | refine Below.drew ?_ | refine bdrewN ?_ _ | refine Below.setCell ?_ (by first | omega | (simp <;> omega)) _ | refine Below.alloc ?_ (by first | omega | (simp <;> omega)) _))⟩
  case round =>
    obtain ⟨j, hj, rfl, hown, hbel⟩ := hrel
    have hsz := hbel.size
    have HO := Lib.hid hown
    have HB := Lib.hid hbel
    obtain ⟨ao, co, rfl⟩ := own_slice' hown
    clear hown hbel
    by_cases hlt : j < n
    · go_wp2_with (at_builtin; refine wpList_append_lies _ rfl _ _ 22 rfl w.heap.size 3 i0 (.int .i64 0) 1 8 Try.underlying22 hi0 hz0 hz1 hz2 rfl (by decide) _ _ _ rfl (HO.out.alloc _) ⟨wr.heap.size, 0, none⟩ 1 1 [.int .i64 j] rfl rfl (World.news_of_block (cs := #[.int .i64 j]) (t := 3) (fr := (0, 0)) (heap_alloc_new wr _)) (by simp [Value.oneCell']) (by omega) (by unfold maxLen; omega) (by omega) (by simp; omega) (wr.heap.size + 1) (by simp) ?_; intro g cap' w4 hown4 hgrow hat hlt4; have HO4 := Lib.hid hown4; have HB4 := Lib.hid (Below.grown (Below.alloc HB.out hsz _) hgrow (by simp; omega) (fun b hb => (HO.out.lt b hb).1)); clear hown4 hgrow hat)
      go_roundw
      case rel => exact ⟨j + 1, by omega, by go_num, by rw [upto_succ, ivs_app]; exact HO4.out, HB4.out⟩
      case measure => simp [intOf]; omega
    · obtain rfl : j = n := by omega
      have HS1 := Lib.hid (HS.out.kept (S := fun _ => False) (mut_of_bel HB.out) (fun _ _ h => h))
      go_wp2
      go_loopw [7] (fun i wr => ∃ (t : Nat) (I : Int), i = .int .i64 I ∧ I ≤ (t : Int) - 1 ∧ (t : Int) - 1 ≤ I ∧ t ≤ j ∧ ∃ l, wr.ownsRow w.heap.size 3 1 (.slice ao j co) j (ivs l) ∧ l.Perm (upto j) ∧ Strm wr B (k + (j - t)) ∧ Mut (· = B) w wr) (fun i _ => (intOf i).toNat)
      case atStart => exact ⟨j, _, rfl, by omega, by omega, by omega, upto j, HO.out, List.Perm.refl _, HS1.out.more (by omega) (by omega), mut_of_bel HB.out⟩
      case round =>
        obtain ⟨t, I, rfl, hI1, hI2, ht, l, hown, hperm, hst, hmt⟩ := hrel
        have hll : l.length = j := by rw [hperm.length_eq, upto_length]
        have HO2 := Lib.hid hown
        have HP := Lib.hid hperm
        have HS2 := Lib.hid hst
        have HM2 := Lib.hid hmt
        have hsz2 := hmt.size
        clear hown hperm hst hmt HO HS1 HB
        by_cases hI : 0 < I
        · obtain ⟨m, rfl⟩ := Int.eq_ofNat_of_zero_le (show 0 ≤ I by omega)
          go_wp2_with (fail)
          refine (next_any B _ ((m : Int) + 1) wr HS2.out (by omega) (by omega) (by omega)).mono ?_
          rintro e w2 ⟨⟨r, rfl, hr0, hr1⟩, hst2, hmt2⟩
          obtain ⟨q, rfl⟩ := Int.eq_ofNat_of_zero_le hr0
          have hO3 := own_mut HO2.out hmt2 (fun b hb e => by have := (HO2.out.lt b hb).1; omega)
          obtain ⟨g, cap', hv, hg, hlg⟩ := hO3.form (by omega)
          cases hv
          have hm : m < j := by omega
          have hq : q < j := by omega
          have cm : w2.cell? ⟨g, m, none⟩ = some (.int .i64 (l[m]'(by omega))) := by rw [hO3.cellAt m (by omega)]; simp [ivs, hll, hm]
          have cq : w2.cell? ⟨g, q, none⟩ = some (.int .i64 (l[q]'(by omega))) := by rw [hO3.cellAt q (by omega)]; simp [ivs, hll, hq]
          have fm := hO3.frozenAt m
          have fq := hO3.frozenAt q
          have HO3 := Lib.hid hO3
          have HS3 := Lib.hid hst2
          have HM3 := Lib.hid (HM2.out.trans hmt2)
          have b0 : (0 : Int) ≤ (m : Int) := by omega
          have b1 : (m : Int) < (j : Int) := by omega
          have b2 : (q : Int) < (j : Int) := by omega
          clear hO3 hst2 hmt2 HO2 HS2 HM2
          generalize hz1 : l[m]'(by omega) = z1 at *
          generalize hz2 : l[q]'(by omega) = z2 at *
          have HZ1 := Lib.hid hz1
          have HZ2 := Lib.hid hz2
          clear hz1 hz2
          by_cases hmq : q = m
          · subst hmq
            go_wp2_with (fail)
            go_region
            all_goals
              go_wp2
              go_roundw
              case rel =>
                have O := own_set1 (o := q) (u := .int .i64 z2) (own_set1 (o := q) (u := .int .i64 z2) HO3.out)
                rw [← ivs_set, ← ivs_set] at O
                exact ⟨q, _, rfl, by omega, by omega, by omega, _, own_drew O, List.Perm.trans (by have := swap_perm l q q (by omega) (by omega); rw [HZ2.out] at this; exact this) HP.out, (((HS3.out.setCell (by show B < g; omega) _).setCell (by show B < g; omega) _).more (by omega) (by omega)).kept (S := fun _ => False) (Mut.refl _ _).drew (fun _ _ h => h), ((HM3.out.setCell (fun h => absurd h (by show ¬ g < w.heap.size; omega)) _).setCell (fun h => absurd h (by show ¬ g < w.heap.size; omega)) _).drew⟩
              case measure => simp [intOf]; omega
          · go_wp2_with (fail)
            go_region
            all_goals
              go_wp2
              go_roundw
              case rel =>
                have O := own_set1 (o := q) (u := .int .i64 z1) (own_set1 (o := m) (u := .int .i64 z2) HO3.out)
                rw [← ivs_set, ← ivs_set] at O
                exact ⟨m, _, rfl, by omega, by omega, by omega, _, own_drew O, List.Perm.trans (by have := swap_perm l m q (by omega) (by omega); rw [HZ1.out, HZ2.out] at this; exact this) HP.out, (((HS3.out.setCell (by show B < g; omega) _).setCell (by show B < g; omega) _).more (by omega) (by omega)).kept (S := fun _ => False) (Mut.refl _ _).drew (fun _ _ h => h), ((HM3.out.setCell (fun h => absurd h (by show ¬ g < w.heap.size; omega)) _).setCell (fun h => absurd h (by show ¬ g < w.heap.size; omega)) _).drew⟩
              case measure => simp [intOf]; omega
        · go_wp2
          go_ret
          exact ⟨_, _, l, rfl, HO2.out, HP.out, HS2.out.more (by omega) (by omega), HM2.out⟩
end Go.Proofs.Ytpgpjoghfpfhlaa

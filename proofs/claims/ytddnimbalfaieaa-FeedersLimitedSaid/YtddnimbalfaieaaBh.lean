/- Places of beads: what is wrong with them, whether they hold a number; drawn places. -/
import Derived.Test.YtddnimbalfaieaaBd
set_option linter.unusedSimpArgs false
set_option linter.unusedVariables false
namespace Go.Proofs.Ytddnimbalfaieaa
open Go.RowKit
def memB (V : Nat → Int) (m : Nat) (t : Int) : Bool := decide (∃ i, i < m ∧ V i = t)
theorem memB_yes {V : Nat → Int} {m i : Nat} {t : Int} (hi : i < m) (h : V i = t) : memB V m t = true := by unfold memB; rw [decide_eq_true_eq]; exact ⟨i, hi, h⟩
theorem memB_no {V : Nat → Int} {m : Nat} {t : Int} (h : ∀ i, i < m → V i ≠ t) : memB V m t = false := by unfold memB; rw [decide_eq_false_iff_not]; rintro ⟨i, hi, e⟩; exact h i hi e
set_option maxHeartbeats 2000000 in
theorem index_any (a : Option Addr) (n c : Nat) (L : Nat → Int) (z : Int) (w : World) (hn : n ≤ 1000000) (hc : IntsR w a n L) :
    Calls Try.prog 57 #[.slice a n c, .int .i64 z] w fun e w' => (∃ r, e = .returned (.int .i64 r) ∧ decide (0 ≤ r) = memB L n z) ∧ w' = w := by
  have HC := Lib.hid hc
  clear hc
  go_enter Try.func57, Try.ntmps57
  go_wp2
  go_loop [8] (fun i => ∃ k : Nat, k ≤ n ∧ i = .int .i64 k ∧ (∀ j, j < k → (z == L j) = false)) (fun i => n - (intOf i).toNat)
  case atStart => exact ⟨0, by omega, rfl, fun j hj => by omega⟩
  case round =>
    obtain ⟨k, hk, rfl, hno⟩ := hrel
    have HN := Lib.hid hno
    clear hno
    by_cases hlt : k < n
    · rcases HC.out with h | ⟨b, off, rfl, hb, hL⟩
      · omega
      have c0 := hL k hlt
      clear hL
      rcases hP : (z == L k) with _ | _
      · have HP := Lib.hid (show ∀ j, j < k + 1 → (z == L j) = false from fun j hj => by
          rcases Nat.lt_or_ge j k with h | h
          · exact HN.out j h
          · obtain rfl : j = k := by omega
            exact hP)
        go_wp2
        go_round
        case rel => exact ⟨k + 1, by omega, by go_num, HP.out⟩
        case measure => simp [intOf]; omega
      · have HP := Lib.hid (memB_yes (V := L) hlt (by simpa using hP : z = L k).symm)
        go_wp2
        go_ret
        exact ⟨⟨_, rfl, by rw [HP.out]; simp⟩, rfl⟩
    · obtain rfl : n = k := by omega
      have HP := Lib.hid (memB_no (V := L) (m := n) (t := z) (fun i hi e => by have := HN.out i hi; simp [e] at this))
      go_wp2
      go_ret
      exact ⟨⟨_, rfl, by rw [HP.out]; rfl⟩, rfl⟩
set_option maxHeartbeats 2000000 in
theorem contains_any (a : Option Addr) (n c : Nat) (L : Nat → Int) (z : Int) (w : World) (hn : n ≤ 1000000) (hc : IntsR w a n L) :
    Calls Try.prog 53 #[.slice a n c, .int .i64 z] w fun e w' => e = .returned (.bool (memB L n z)) ∧ w' = w := by
  have HC := Lib.hid hc
  clear hc
  go_enter Try.func53, Try.ntmps53
  go_wp2_with (fail)
  refine (index_any a n c L z w hn HC.out).mono ?_
  rintro e w1 ⟨⟨r, rfl, hr⟩, rfl⟩
  have HR := Lib.hid hr
  clear hr
  go_wp2
  go_ret
  exact ⟨by rw [← HR.out]; rfl, rfl⟩
/-- The error of the first t places of so many beads. -/
def plZ (V : Nat → Int) (n : Nat) : Nat → Int
  | 0 => 0
  | t + 1 => if plZ V n t = 0 then (if 0 ≤ V t ∧ V t < n then (if 0 < t ∧ V t ≤ V (t - 1) then 7 else 0) else 1) else plZ V n t
theorem plZ_stop {V : Nat → Int} {n : Nat} {e : Int} {t m : Nat} (h : plZ V n t = e) (he : e ≠ 0) (hm : t ≤ m) : plZ V n m = e := by
  obtain ⟨d, rfl⟩ := Nat.exists_eq_add_of_le hm
  induction d with
  | zero => exact h
  | succ d ih =>
    have := ih (by omega)
    show (if plZ V n (t + d) = 0 then _ else plZ V n (t + d)) = e
    rw [if_neg (by rw [this]; exact he), this]
theorem plZ_one {V : Nat → Int} {n t : Nat} (h : plZ V n t = 0) (hb : ¬ (0 ≤ V t ∧ V t < n)) : plZ V n (t + 1) = 1 := by
  show (if plZ V n t = 0 then _ else _) = _
  rw [if_pos h, if_neg hb]
theorem plZ_seven {V : Nat → Int} {n t : Nat} (h : plZ V n t = 0) (hb : 0 ≤ V t ∧ V t < n) (ho : 0 < t ∧ V t ≤ V (t - 1)) : plZ V n (t + 1) = 7 := by
  show (if plZ V n t = 0 then _ else _) = _
  rw [if_pos h, if_pos hb, if_pos ho]
theorem plZ_ok {V : Nat → Int} {n t : Nat} (h : plZ V n t = 0) (hb : 0 ≤ V t ∧ V t < n) (ho : ¬ (0 < t ∧ V t ≤ V (t - 1))) : plZ V n (t + 1) = 0 := by
  show (if plZ V n t = 0 then _ else _) = _
  rw [if_pos h, if_pos hb, if_neg ho]
/-- Right places rise. -/
theorem plZ_rise {V : Nat → Int} {n : Nat} : ∀ t, plZ V n t = 0 → ∀ i, i < t → (0 ≤ V i ∧ V i < n) ∧ (0 < i → V (i - 1) < V i)
  | 0, _, i, hi => by omega
  | t + 1, h, i, hi => by
    have h0 : plZ V n t = 0 := by
      rcases Int.decEq (plZ V n t) 0 with h' | h'
      · exact absurd h (by rw [plZ_stop rfl h' (Nat.le_succ t)]; exact h')
      · exact h'
    have h1 : (if 0 ≤ V t ∧ V t < n then (if 0 < t ∧ V t ≤ V (t - 1) then (7 : Int) else 0) else 1) = 0 := by
      have h2 : (if plZ V n t = 0 then (if 0 ≤ V t ∧ V t < n then (if 0 < t ∧ V t ≤ V (t - 1) then (7 : Int) else 0) else 1) else plZ V n t) = 0 := h
      rwa [if_pos h0] at h2
    rcases Nat.lt_or_ge i t with h' | h'
    · exact plZ_rise t h0 i h'
    · obtain rfl : i = t := by omega
      split at h1
      · split at h1
        · cases h1
        · rename_i hb hn
          exact ⟨hb, fun hp => by omega⟩
      · cases h1
theorem plZ_lt {V : Nat → Int} {n m : Nat} (h : plZ V n m = 0) : ∀ j i, i < j → j < m → V i < V j
  | 0, i, hi, _ => by omega
  | j + 1, i, hi, hj => by
    have h1 := (plZ_rise m h (j + 1) hj).2 (by omega)
    simp only [Nat.add_sub_cancel] at h1
    rcases Nat.lt_or_ge i j with h' | h'
    · have := plZ_lt h j i h' (by omega)
      omega
    · obtain rfl : i = j := by omega
      exact h1
set_option maxRecDepth 100000 in
set_option maxHeartbeats 4000000 in
theorem checkPlaces_any (a : Option Addr) (m c : Nat) (V : Nat → Int) (n : Nat) (w : World) (hm : m ≤ 100) (hn : n ≤ 5000) (hp : IntsR w a m V) :
    Calls Try.prog 51 #[.slice a m c, .int .i64 n] w fun e w' => e = .returned (.int .i64 (plZ V n m)) ∧ Below w.heap.size w w' := by
  have HP := Lib.hid hp
  clear hp
  have l2 : ¬ (5000 : Int) < (m : Int) := by omega
  go_enter Try.func51, Try.ntmps51
  go_wp2_with (fail)
  go_loopw [12] (fun i wr => ∃ k : Nat, k ≤ m ∧ i = .int .i64 k ∧ plZ V n k = 0 ∧ Below w.heap.size w wr) (fun i _ => m - (intOf i).toNat)
  case atStart => exact ⟨0, by omega, rfl, rfl, Below.refl _ _⟩
  case round =>
    obtain ⟨k, hk, rfl, hj, hbel⟩ := hrel
    have HJ := Lib.hid hj
    have HB := Lib.hid hbel
    have hsz := hbel.size
    clear hj hbel
    by_cases hlt : k < m
    · rcases HP.out with h0 | ⟨b, off, rfl, hb, hd⟩
      · omega
      have c0 := cellk HB.out hb (hd k hlt)
      have hbw : b < wr.heap.size := by omega
      obtain ⟨v, hv⟩ : ∃ v, V k = v := ⟨_, rfl⟩
      have HV := Lib.hid hv
      rw [hv] at c0
      have hw : IntKind.i64.wrap ((n : Int) - 1) = (n : Int) - 1 := i64w (by omega)
      by_cases hb1 : 0 ≤ v ∧ v < n
      · have n1 : ¬ v < 0 := by omega
        have n2 : ¬ (n : Int) ≤ v := by omega
        have HIN := Lib.hid (show inB v 0 ((n : Int) - 1) = true by rw [inB_yes]; omega)
        by_cases hk0 : k = 0
        · subst hk0
          rw [Nat.add_zero] at c0
          have HS := Lib.hid (plZ_ok (V := V) (n := n) HJ.out (by rw [hv]; exact hb1) (by omega))
          clear hd hv hb1
          go_wp2_with (fail)
          go_roundw
          case rel => exact ⟨0 + 1, by omega, by go_num, HS.out, HB.out⟩
          case measure => simp [intOf]; omega
        · obtain ⟨j, rfl⟩ : ∃ j, k = j + 1 := ⟨k - 1, by omega⟩
          have c1 := cellk HB.out hb (hd j (by omega))
          obtain ⟨u, hu⟩ : ∃ u, V j = u := ⟨_, rfl⟩
          have HU := Lib.hid hu
          rw [hu] at c1
          have hw2 : IntKind.i64.wrap ((j : Int) + 1 - 1) = (j : Int) := by rw [show (j : Int) + 1 - 1 = j by omega]; exact i64w (by omega)
          have hw3 : ((j : Int) + 1 - 1) = (j : Int) := by omega
          have l1 : (0 : Int) < (j : Int) + 1 := by omega
          have l2 : (j : Int) < (m : Int) := by omega
          have l3 : (0 : Int) ≤ (j : Int) := by omega
          by_cases ho : v ≤ u
          · have HS := Lib.hid (plZ_stop (m := m) (plZ_seven (V := V) (n := n) HJ.out (by rw [hv]; exact hb1) ⟨by omega, by rw [hv, Nat.add_sub_cancel, hu]; exact ho⟩) (by decide) hlt)
            clear hd hv hu hb1
            go_wp2_with (fail)
            go_ret
            exact ⟨ret_int HS.out.symm, HB.out⟩
          · have HS := Lib.hid (plZ_ok (V := V) (n := n) HJ.out (by rw [hv]; exact hb1) (by rw [hv, Nat.add_sub_cancel, hu]; omega))
            clear hd hv hu hb1
            go_wp2_with (fail)
            go_roundw
            case rel => exact ⟨j + 1 + 1, by omega, by go_num, HS.out, HB.out⟩
            case measure => simp [intOf]; omega
      · have HS := Lib.hid (plZ_stop (m := m) (plZ_one (V := V) (n := n) HJ.out (by rw [hv]; exact hb1)) (by decide) hlt)
        have HIN := Lib.hid (show inB v 0 ((n : Int) - 1) = false by rcases h : inB v 0 ((n : Int) - 1) with _ | _; rfl; rw [inB_yes] at h; omega)
        clear hd hv
        by_cases hneg : v < 0
        · clear hb1
          go_wp2_with (fail)
          go_ret
          exact ⟨ret_int HS.out.symm, HB.out⟩
        · have hge : (n : Int) ≤ v := by omega
          clear hb1
          go_wp2_with (fail)
          go_ret
          exact ⟨ret_int HS.out.symm, HB.out⟩
    · obtain rfl : m = k := by omega
      go_wp2_with (fail)
      go_ret
      exact ⟨ret_int HJ.out.symm, HB.out⟩
/-- The error of what Retracted is asked behind that of the amounts. -/
def bkE (back : Int) (V : Nat → Int) (n m : Nat) : Int := if inB back 1 5000 = true then plZ V n m else 1
set_option maxRecDepth 100000 in
set_option maxHeartbeats 4000000 in
theorem backFault_any (ab : Option Addr) (n cb : Nat) (back : Int) (a : Option Addr) (m c : Nat) (V : Nat → Int) (w : World) (hm : m ≤ 100) (hn : n ≤ 5000) (hp : IntsR w a m V) :
    Calls Try.prog 34 #[.slice ab n cb, .int .i64 back, .slice a m c] w fun e w' => e = .returned (.int .i64 (bkE back V n m)) ∧ Below w.heap.size w w' := by
  have HP := Lib.hid hp
  clear hp
  have l2 : ¬ (5000 : Int) < (m : Int) := by omega
  rcases hx : inB back 1 5000 with _ | _
  · have R := Lib.hid (show bkE back V n m = 1 by unfold bkE; rw [hx]; rfl)
    have HS1 := Lib.hid (show spanE back 1 5000 = 1 by unfold spanE; rw [hx]; rfl)
    clear hx
    go_enter Try.func34, Try.ntmps34
    go_wp2_with (go_at_call 31; refine (spanFault_any _ _ _ _).mono ?_; rintro e w' ⟨rfl, rfl⟩; rw [HS1.out])
    go_ret
    exact ⟨ret_int R.out.symm, Below.refl _ _⟩
  have R := Lib.hid (show bkE back V n m = plZ V n m by unfold bkE; rw [hx]; rfl)
  have HS1 := Lib.hid (show spanE back 1 5000 = 0 by unfold spanE; rw [hx]; rfl)
  clear hx
  go_enter Try.func34, Try.ntmps34
  go_wp2_with (go_at_call 31; refine (spanFault_any _ _ _ _).mono ?_; rintro e w' ⟨rfl, rfl⟩; rw [HS1.out])
  go_loopw [20] (fun i wr => ∃ k : Nat, k ≤ m ∧ i = .int .i64 k ∧ plZ V n k = 0 ∧ Below w.heap.size w wr) (fun i _ => m - (intOf i).toNat)
  case atStart => exact ⟨0, by omega, rfl, rfl, Below.refl _ _⟩
  case round =>
    obtain ⟨k, hk, rfl, hj, hbel⟩ := hrel
    have HJ := Lib.hid hj
    have HB := Lib.hid hbel
    have hsz := hbel.size
    clear hj hbel
    by_cases hlt : k < m
    · rcases HP.out with h0 | ⟨b, off, rfl, hb, hd⟩
      · omega
      have c0 := cellk HB.out hb (hd k hlt)
      have hbw : b < wr.heap.size := by omega
      obtain ⟨v, hv⟩ : ∃ v, V k = v := ⟨_, rfl⟩
      have HV := Lib.hid hv
      rw [hv] at c0
      have hw : IntKind.i64.wrap ((n : Int) - 1) = (n : Int) - 1 := i64w (by omega)
      by_cases hb1 : 0 ≤ v ∧ v < n
      · have n1 : ¬ v < 0 := by omega
        have n2 : ¬ (n : Int) ≤ v := by omega
        have HIN := Lib.hid (show inB v 0 ((n : Int) - 1) = true by rw [inB_yes]; omega)
        by_cases hk0 : k = 0
        · subst hk0
          rw [Nat.add_zero] at c0
          have HS := Lib.hid (plZ_ok (V := V) (n := n) HJ.out (by rw [hv]; exact hb1) (by omega))
          clear hd hv hb1
          go_wp2_with (go_at_call 43; refine (in_any _ _ _ _).mono ?_; rintro e w7 ⟨rfl, rfl⟩; rw [HIN.out])
          go_roundw
          case rel => exact ⟨0 + 1, by omega, by go_num, HS.out, HB.out⟩
          case measure => simp [intOf]; omega
        · obtain ⟨j, rfl⟩ : ∃ j, k = j + 1 := ⟨k - 1, by omega⟩
          have c1 := cellk HB.out hb (hd j (by omega))
          obtain ⟨u, hu⟩ : ∃ u, V j = u := ⟨_, rfl⟩
          have HU := Lib.hid hu
          rw [hu] at c1
          have hw2 : IntKind.i64.wrap ((j : Int) + 1 - 1) = (j : Int) := by rw [show (j : Int) + 1 - 1 = j by omega]; exact i64w (by omega)
          have hw3 : ((j : Int) + 1 - 1) = (j : Int) := by omega
          have l1 : (0 : Int) < (j : Int) + 1 := by omega
          have l2 : (j : Int) < (m : Int) := by omega
          have l3 : (0 : Int) ≤ (j : Int) := by omega
          by_cases ho : v ≤ u
          · have HS := Lib.hid (plZ_stop (m := m) (plZ_seven (V := V) (n := n) HJ.out (by rw [hv]; exact hb1) ⟨by omega, by rw [hv, Nat.add_sub_cancel, hu]; exact ho⟩) (by decide) hlt)
            clear hd hv hu hb1
            go_wp2_with (go_at_call 43; refine (in_any _ _ _ _).mono ?_; rintro e w7 ⟨rfl, rfl⟩; rw [HIN.out])
            go_ret
            exact ⟨ret_int (R.out.trans HS.out).symm, HB.out⟩
          · have HS := Lib.hid (plZ_ok (V := V) (n := n) HJ.out (by rw [hv]; exact hb1) (by rw [hv, Nat.add_sub_cancel, hu]; omega))
            clear hd hv hu hb1
            go_wp2_with (go_at_call 43; refine (in_any _ _ _ _).mono ?_; rintro e w7 ⟨rfl, rfl⟩; rw [HIN.out])
            go_roundw
            case rel => exact ⟨j + 1 + 1, by omega, by go_num, HS.out, HB.out⟩
            case measure => simp [intOf]; omega
      · have HS := Lib.hid (plZ_stop (m := m) (plZ_one (V := V) (n := n) HJ.out (by rw [hv]; exact hb1)) (by decide) hlt)
        have HIN := Lib.hid (show inB v 0 ((n : Int) - 1) = false by rcases h : inB v 0 ((n : Int) - 1) with _ | _; rfl; rw [inB_yes] at h; omega)
        clear hd hv
        by_cases hneg : v < 0
        · clear hb1
          go_wp2_with (go_at_call 43; refine (in_any _ _ _ _).mono ?_; rintro e w7 ⟨rfl, rfl⟩; rw [HIN.out])
          go_ret
          exact ⟨ret_int (R.out.trans HS.out).symm, HB.out⟩
        · have hge : (n : Int) ≤ v := by omega
          clear hb1
          go_wp2_with (go_at_call 43; refine (in_any _ _ _ _).mono ?_; rintro e w7 ⟨rfl, rfl⟩; rw [HIN.out])
          go_ret
          exact ⟨ret_int (R.out.trans HS.out).symm, HB.out⟩
    · obtain rfl : m = k := by omega
      go_wp2_with (fail)
      go_ret
      exact ⟨ret_int (R.out.trans HJ.out).symm, HB.out⟩

set_option maxRecDepth 100000 in
set_option maxHeartbeats 4000000 in
theorem beadPlaces_any (B k n : Nat) (w : World) (hs : Strm w B k) (hk : k + 100 ≤ 1000000) (hn : n ≤ 6) :
    Calls Try.prog 24 #[.pointer (some ⟨B, 0, none⟩), .int .i64 n] w fun e w' => ∃ a m c V, e = .returned (.slice a m c) ∧ m ≤ 6 ∧ m ≤ c ∧ IntsR w' a m V ∧ (∀ x, a = some x → B < x.block) ∧ Strm w' B (k + 20) ∧ Mut (· = B) w w' := by
  obtain ⟨i0, hi0, hz0, hz1, hz2⟩ := info_parts info_intV
  have hl := hs.lt
  have HD0 : Hid (DI w w B k 3 1 none 0 0 []) := Lib.hid ⟨World.ownsRow_nil _ _ _ _, AllI.nil, hs, Mut.refl _ _, hl⟩
  clear hs
  go_enter Try.func24, Try.ntmps24
  go_wp2_with (fail)
  go_loopw [5, 8] (fun v i wr => ∃ (t m : Nat) (a : Option Addr) (c : Nat) (xs : List Value), m ≤ t ∧ v = .slice a m c ∧ i = .int .i64 t ∧ t ≤ n ∧ DI w wr B (k + t) 3 1 a m c xs) (fun _ i _ => n - (intOf i).toNat)
  case atStart => exact ⟨0, 0, none, 0, [], by omega, rfl, rfl, by omega, HD0.out⟩
  case round =>
    clear HD0
    obtain ⟨t, m, a, c, xs, hmt', rfl, rfl, ht, hd⟩ := hrel
    have HD := Lib.hid hd
    have hsz := hd.size
    clear hd
    by_cases hlt : t < n
    · go_wp2_with (fail)
      refine (flip_any B (k + t) 2 wr HD.out.s (by omega) (by omega) (by omega)).mono ?_
      rintro e w2 ⟨⟨f, rfl⟩, hst, hmt⟩
      have HD2 := Lib.hid (HD.out.next hmt hst)
      have hsz2 := hmt.size
      clear hst hmt HD
      rcases f with _ | _
      · go_wp2_with (fail)
        go_roundw
        case rel => exact ⟨t + 1, m, a, c, xs, by omega, rfl, by go_num, by omega, HD2.out⟩
        case measure => simp [intOf] <;> omega
      · go_wp2_with (at_builtin; refine wpList_append_lies _ rfl _ _ 22 rfl w.heap.size 3 i0 (.int .i64 0) 1 8 Try.underlying22 hi0 hz0 hz1 hz2 rfl (by decide) _ _ _ rfl (ownsRow_below HD2.out.o ((Below.refl _ w2).alloc (Nat.le_refl _) _)) ⟨w2.heap.size, 0, none⟩ 1 1 [.int .i64 t] rfl rfl (World.news_of_block (cs := #[.int .i64 t]) (t := 3) (fr := (0, 0)) (heap_alloc_new w2 (.cells #[.int .i64 t] 3))) (by simp [Value.oneCell']) (by omega) (by unfold maxLen; omega) (by omega) (by simp; omega) (w2.heap.size + 1) (by simp) ?_; intro g5 c5 w5 hown5 hgrow5 _ hlt5; have HO5 := Lib.hid hown5; have HB5 := Lib.hid (Below.grown (B := w.heap.size) (Below.alloc (B := w.heap.size) (Below.refl _ w2) (by omega) (.cells #[.int .i64 t] 3)) hgrow5 (by simp; omega) (fun b hb => ((HD2.out.o).lt b hb).1)); clear hown5 hgrow5)
        have HD5 := Lib.hid (HD2.out.grown HB5.out HO5.out (AllI.one t))
        clear HD2 HB5 HO5
        go_wp2_with (fail)
        go_roundw
        case rel => exact ⟨t + 1, m + 1, _, c5, _, by omega, rfl, by go_num, by omega, HD5.out⟩
        case measure => simp [intOf] <;> omega
    · obtain rfl : t = n := by omega
      have hcap := own_capB HD.out.o
      by_cases h0 : m = 0
      · subst h0
        obtain ⟨V, hV⟩ := ints_of_all HD.out.o HD.out.x
        have HV := Lib.hid hV
        clear hV
        go_wp2_with (fail)
        go_ret
        exact ⟨a, 0, c, V, rfl, by omega, hcap, HV.out, HD.out.far, HD.out.s.more (by omega) (by omega), HD.out.m⟩
      have h0' : (0 : Int) < (m : Int) := by omega
      go_wp2_with (fail)
      refine (flip_any B _ 15 wr HD.out.s (by omega) (by omega) (by omega)).mono ?_
      rintro e w2 ⟨⟨f, rfl⟩, hst, hmt⟩
      have HD2 := Lib.hid (HD.out.next hmt hst)
      clear hst hmt HD
      rcases f with _ | _
      · obtain ⟨V, hV⟩ := ints_of_all HD2.out.o HD2.out.x
        have HV := Lib.hid hV
        clear hV
        go_wp2_with (fail)
        go_ret
        exact ⟨a, m, c, V, rfl, by omega, hcap, HV.out, HD2.out.far, HD2.out.s.more (by omega) (by omega), HD2.out.m⟩
      · obtain ⟨g, cap', hv, hgb, hgl⟩ := HD2.out.o.form (by omega)
        cases hv
        go_wp2_with (fail)
        refine (next_any B _ m w2 HD2.out.s (by omega) (by omega) (by omega)).mono ?_
        rintro e w3 ⟨⟨q, rfl, hq0, hq1⟩, hst, hmt⟩
        obtain ⟨q, rfl⟩ := Int.eq_ofNat_of_zero_le hq0
        have HD3 := Lib.hid (HD2.out.next hmt hst)
        clear hst hmt HD2
        go_wp2_with (fail)
        refine (pick_atV B _ [-1, (t : Int), 0] 3 (fun _ => True) w3 _ rfl HD3.out.s (by omega) rfl (by omega) (by omega) (by simp)).mono ?_
        rintro e w4 ⟨⟨x, rfl, _⟩, hst, hmt⟩
        have HD4 := Lib.hid (HD3.out.next hmt hst)
        clear hst hmt HD3
        have hq : q < m := by omega
        have c0 := HD4.out.o.cellAt q (by omega)
        have hlen := HD4.out.o.1
        obtain ⟨u0, hu0⟩ : ∃ u, xs[q]? = some u := ⟨_, List.getElem?_eq_getElem (by omega)⟩
        rw [hu0] at c0
        have f0 := HD4.out.o.frozenAt q
        have b1 : (q : Int) < (m : Int) := by omega
        have hs6 := HD4.out.size
        have hg6 := (HD4.out.o.lt g rfl).2
        clear hu0 hlen
        go_wp2_with (fail)
        have HD7 := Lib.hid (HD4.out.set q x)
        obtain ⟨V, hV⟩ := ints_of_all HD7.out.o HD7.out.x
        go_ret
        exact ⟨some ⟨g, 0, none⟩, m, c, V, rfl, by omega, hcap, hV, HD7.out.far, HD7.out.s.more (by omega) (by omega), HD7.out.m⟩
end Go.Proofs.Ytddnimbalfaieaa

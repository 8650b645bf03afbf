/- Visits and orders are checked: the reference. -/
import Derived.Test.YtapihgmokgkaaaaYe
set_option linter.unusedSimpArgs false
set_option linter.unusedVariables false
namespace Go.Proofs.Ytapihgmokgkaaaa
open Go.RowKit

theorem closP_any (v : Vis) (g : Nat) (q : Int) (w : World) (hg : w.cell? ⟨g, 0, none⟩ = some (.int .i64 q)) (hgl : g < w.heap.size) :
    Calls Try.prog 45 #[v.v, .pointer (some ⟨g, 0, none⟩)] w fun e w' => e = .returned (.bool (decide (v.p = q))) ∧ Below w.heap.size w w' := by
  obtain ⟨p, s, bk⟩ := v
  unfold Vis.v
  dsimp only
  by_cases h : p = q
  · subst h
    go_enter Try.func45, Try.ntmps45
    go_wp2
    go_ret
    exact ⟨by simp, (by repeat (first | exact Below.refl _ _ | assumption | refine Below.drew ?_ | refine bdrewN ?_ _ | refine Below.setCell ?_ (by first | omega | (simp <;> omega)) _ | refine Below.alloc ?_ (by first | omega | (simp <;> omega)) _))⟩
  · have h' : (p == q) = false := by simpa using h
    go_enter Try.func45, Try.ntmps45
    go_wp2
    go_ret
    exact ⟨by simp [h], (by repeat (first | exact Below.refl _ _ | assumption | refine Below.drew ?_ | refine bdrewN ?_ _ | refine Below.setCell ?_ (by first | omega | (simp <;> omega)) _ | refine Below.alloc ?_ (by first | omega | (simp <;> omega)) _))⟩
theorem seen_yes {V : Nat → Vis} {k l : Nat} {q : Int} (hk : k < l) (h : (V k).p = q) : seenB V l q = true := by unfold seenB; rw [decide_eq_true_eq]; exact ⟨k, hk, h⟩
theorem seen_no {V : Nat → Vis} {l : Nat} {q : Int} (h : ∀ j, j < l → (V j).p ≠ q) : seenB V l q = false := by unfold seenB; rw [decide_eq_false_iff_not]; rintro ⟨i, h1, h2⟩; exact h i h1 h2
set_option maxRecDepth 100000 in
set_option maxHeartbeats 4000000 in
theorem indexP_any (ao : Option Addr) (l co : Nat) (V : Nat → Vis) (g : Nat) (q : Int) (w : World) (hl : l ≤ 100) (ho : VisR w ao l V) (hg : w.cell? ⟨g, 0, none⟩ = some (.int .i64 q)) (hgl : g < w.heap.size) :
    Calls Try.prog 52 #[.slice ao l co, .func (.func 45) #[] #[.pointer (some ⟨g, 0, none⟩)]] w
      fun e w' => ∃ r : Int, e = .returned (.int .i64 r) ∧ decide (0 ≤ r) = seenB V l q ∧ Below w.heap.size w w' := by
  have HO := Lib.hid ho
  have HG := Lib.hid hg
  clear ho hg
  go_enter Try.func52, Try.ntmps52
  go_wp2_with (fail)
  go_loopw [8] (fun i wr => ∃ k : Nat, k ≤ l ∧ i = .int .i64 k ∧ (∀ j, j < k → (V j).p ≠ q) ∧ Below w.heap.size w wr) (fun i _ => l - (intOf i).toNat)
  case atStart => exact ⟨0, by omega, rfl, fun j hj => by omega, Below.refl _ _⟩
  case round =>
    obtain ⟨k, hk, rfl, hj, hbel⟩ := hrel
    have HJ := Lib.hid hj
    clear hj
    have hsz := hbel.size
    by_cases hlt : k < l
    · rcases HO.out with h0 | ⟨b, off, rfl, hb, hd⟩
      · omega
      obtain ⟨c0, c1, c2⟩ := hd k hlt
      replace c0 := cellk hbel hb c0
      replace c1 := cellk hbel hb c1
      replace c2 := cellk hbel hb c2
      have hbw : b < wr.heap.size := by omega
      have hgw : g < wr.heap.size := by omega
      have g0 := cellk hbel hgl HG.out
      have HB := Lib.hid hbel
      clear hbel hd
      go_wp2_with (fail)
      refine (closP_any (V k) g q wr g0 hgw).mono ?_
      rintro e w1 ⟨rfl, hb1⟩
      have B1 := Lib.hid (HB.out.trans (hb1.mono hsz))
      clear hb1
      by_cases hz : (V k).p = q
      · have hz' : decide ((V k).p = q) = true := by simpa using hz
        have R := Lib.hid (seen_yes hlt hz)
        clear hz
        go_wp2_with (fail)
        go_ret
        exact ⟨_, rfl, by rw [R.out]; simp, B1.out⟩
      · have hz' : decide ((V k).p = q) = false := by simpa using hz
        have HS := Lib.hid (show ∀ j, j < k + 1 → (V j).p ≠ q from fun j hj => by
          rcases Nat.lt_or_ge j k with h | h
          · exact HJ.out j h
          · obtain rfl : j = k := by omega
            exact hz)
        clear hz
        go_wp2_with (fail)
        go_roundw
        case rel => exact ⟨k + 1, by omega, by go_num, HS.out, B1.out⟩
        case measure => simp [intOf]; omega
    · obtain rfl : l = k := by omega
      have HB := Lib.hid hbel
      clear hbel
      go_wp2_with (fail)
      go_ret
      exact ⟨_, rfl, by rw [seen_no HJ.out]; simp, HB.out⟩
theorem containsP_any (ao : Option Addr) (l co : Nat) (V : Nat → Vis) (g : Nat) (q : Int) (w : World) (hl : l ≤ 100) (ho : VisR w ao l V) (hg : w.cell? ⟨g, 0, none⟩ = some (.int .i64 q)) (hgl : g < w.heap.size) :
    Calls Try.prog 44 #[.slice ao l co, .func (.func 45) #[] #[.pointer (some ⟨g, 0, none⟩)]] w
      fun e w' => e = .returned (.bool (seenB V l q)) ∧ Below w.heap.size w w' := by
  have HO := Lib.hid ho
  have HG := Lib.hid hg
  clear ho hg
  go_enter Try.func44, Try.ntmps44
  go_wp2_with (fail)
  refine (indexP_any ao l co V g q _ hl HO.out HG.out hgl).mono ?_
  rintro e w1 ⟨r, rfl, hr, hb1⟩
  have HR := Lib.hid hr
  clear hr
  go_wp2_with (fail)
  all_goals
    go_ret
    exact ⟨by rw [← HR.out]; rfl, hb1⟩

set_option maxRecDepth 100000 in
set_option maxHeartbeats 4000000 in
theorem visitFault_any (a : Option Addr) (m c : Nat) (P : Nat → Pth) (ao : Option Addr) (j co : Nat) (V : Nat → Vis) (v : Vis) (w : World) (hm : m ≤ 100) (hp : PathsR w a m P) (hn : ∀ i, i < m → (P i).n ≤ 100)
    (hj : j ≤ 100) (ho : VisR w ao j V) :
    Calls Try.prog 29 #[.slice a m c, .slice ao j co, v.v] w fun e w' => e = .returned (.int .i64 (vF m P (seenB V j v.p) v)) ∧ Below w.heap.size w w' := by
  obtain ⟨p, s, bk⟩ := v
  unfold Vis.v
  dsimp only at *
  have HO := Lib.hid ho
  clear ho
  have hw1 : IntKind.i64.wrap ((m : Int) - 1) = (m : Int) - 1 := by rw [IntKind.wrap_i64]; omega
  by_cases h0 : 0 ≤ p ∧ p < m
  · obtain ⟨q, rfl⟩ : ∃ q : Nat, p = q := ⟨p.toNat, by omega⟩
    have hq : q < m := by omega
    have hqi : (q : Int) < (m : Int) := by omega
    rcases hp with h | ⟨b, off, rfl, hb, hd⟩
    · omega
    have HI := Lib.hid (show inB (q : Int) 0 ((m : Int) - 1) = true by simp [inB]; omega)
    obtain ⟨⟨c0, c1⟩, _⟩ := hd q hq
    have hnq := hn q hq
    clear hd hn h0
    have hvF : ∀ t, vF m P t ⟨(q : Int), s, bk⟩ = if t = true then 6 else if ((P q).k = true ∧ bk = true) ∨ ((P q).k = false ∧ s ≠ 0) then 3 else if s < 0 ∨ ((P q).n : Int) ≤ s then 1 else 0 := by
      intro t; unfold vF; dsimp only; rw [if_neg (by omega), Int.toNat_natCast]
    have HVF := Lib.hid hvF
    clear hvF
    obtain ⟨t, ht⟩ : ∃ t, seenB V j (q : Int) = t := ⟨_, rfl⟩
    have HT := Lib.hid ht
    rw [ht]
    clear ht
    generalize hW : (w.alloc (.cells #[.int .i64 (q : Int), .int .i64 s, .bool bk] 34)).alloc (.cells #[.slice (P q).a (P q).n (P q).c, .bool (P q).k] 59) = W
    have BW : Below w.heap.size w W := by rw [← hW]; exact (by repeat (first | exact Below.refl _ _ | assumption | refine Below.drew ?_ | refine bdrewN ?_ _ | refine Below.setCell ?_ (by first | omega | (simp <;> omega)) _ | refine Below.alloc ?_ (by first | omega | (simp <;> omega)) _))
    have hWs : W.heap.size = w.heap.size + 1 + 1 := by rw [← hW]; simp
    have v0 : W.cell? ⟨w.heap.size, 0, none⟩ = some (.int .i64 (q : Int)) := by rw [← hW]; simp [go_sem]
    have v1 : W.cell? ⟨w.heap.size, 1, none⟩ = some (.int .i64 s) := by rw [← hW]; simp [go_sem]
    have v2 : W.cell? ⟨w.heap.size, 2, none⟩ = some (.bool bk) := by rw [← hW]; simp [go_sem]
    have p0 : W.cell? ⟨w.heap.size + 1, 0, none⟩ = some (.slice (P q).a (P q).n (P q).c) := by rw [← hW]; simp [go_sem]
    have p1 : W.cell? ⟨w.heap.size + 1, 1, none⟩ = some (.bool (P q).k) := by rw [← hW]; simp [go_sem]
    have HBW := Lib.hid BW
    have hlw : w.heap.size < W.heap.size := by omega
    have hlw1 : w.heap.size + 1 < W.heap.size := by omega
    clear BW
    go_enter Try.func29, Try.ntmps29
    go_wp2_with (first | (go_at_call 39; refine (in_any _ _ _ _).mono ?_; rintro e w' ⟨rfl, rfl⟩; rw [HI.out]))
    clear hW c0 c1
    refine (containsP_any ao j co V w.heap.size (q : Int) W hj (HO.out.kept HBW.out) v0 hlw).mono ?_
    rintro e w1 ⟨rfl, hb1⟩
    rw [HT.out]
    have B1 := Lib.hid (HBW.out.trans (hb1.mono HBW.out.size))
    replace v0 := cellk hb1 hlw v0
    replace v1 := cellk hb1 hlw v1
    replace v2 := cellk hb1 hlw v2
    replace p0 := cellk hb1 hlw1 p0
    replace p1 := cellk hb1 hlw1 p1
    have hl1 : w.heap.size < w1.heap.size := by have := hb1.size; omega
    have hl2 : w.heap.size + 1 < w1.heap.size := by have := hb1.size; omega
    clear hb1 hlw hlw1 hWs
    rcases t with _ | _
    · rcases hk : (P q).k with _ | _
      · rw [hk] at p1
        by_cases hs : s = 0
        · subst hs
          have hwn : IntKind.i64.wrap (((P q).n : Int) - 1) = ((P q).n : Int) - 1 := by rw [IntKind.wrap_i64]; omega
          go_wp2_with (fail)
          refine (spanFault_any (0 : Int) 0 (((P q).n : Int) - 1) _).mono ?_
          rintro e w2 ⟨rfl, rfl⟩
          go_wp2_with (fail)
          go_ret
          refine ⟨ret_int ?_, B1.out⟩
          rw [HVF.out, hk]
          by_cases hz : (0 : Int) < 0 ∨ ((P q).n : Int) ≤ (0 : Int)
          · simp [hz, spanE, inB]; omega
          · simp [hz, spanE, inB]; omega
        · have hs' : (s != 0) = true := by simpa using hs
          have HS := Lib.hid hs
          clear hs
          go_wp2_with (fail)
          go_ret
          exact ⟨ret_int (by rw [HVF.out, hk]; simp [HS.out]), B1.out⟩
      · rw [hk] at p1
        rcases bk with _ | _
        · have hwn : IntKind.i64.wrap (((P q).n : Int) - 1) = ((P q).n : Int) - 1 := by rw [IntKind.wrap_i64]; omega
          go_wp2_with (fail)
          refine (spanFault_any s 0 (((P q).n : Int) - 1) _).mono ?_
          rintro e w2 ⟨rfl, rfl⟩
          go_wp2_with (fail)
          go_ret
          refine ⟨ret_int ?_, B1.out⟩
          rw [HVF.out, hk]
          by_cases hz : s < 0 ∨ ((P q).n : Int) ≤ s
          · simp [hz, spanE, inB]; omega
          · simp [hz, spanE, inB]; omega
        · go_wp2_with (fail)
          go_ret
          exact ⟨ret_int (by rw [HVF.out, hk]; simp), B1.out⟩
    · go_wp2_with (fail)
      go_ret
      exact ⟨ret_int (by rw [HVF.out]; simp), B1.out⟩
  · have HI := Lib.hid (show inB p 0 ((m : Int) - 1) = false by simp [inB]; omega)
    go_enter Try.func29, Try.ntmps29
    go_wp2_with (first | (go_at_call 39; refine (in_any _ _ _ _).mono ?_; rintro e w' ⟨rfl, rfl⟩; rw [HI.out]))
    go_ret
    exact ⟨ret_int (by unfold vF; rw [if_pos (by dsimp only; omega)]), (by repeat (first | exact Below.refl _ _ | assumption | refine Below.drew ?_ | refine bdrewN ?_ _ | refine Below.setCell ?_ (by first | omega | (simp <;> omega)) _ | refine Below.alloc ?_ (by first | omega | (simp <;> omega)) _))⟩
end Go.Proofs.Ytapihgmokgkaaaa

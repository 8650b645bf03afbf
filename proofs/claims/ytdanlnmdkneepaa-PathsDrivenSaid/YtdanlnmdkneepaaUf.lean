/- Legs and corners the other way round: the reference. -/
import Derived.Test.YtdanlnmdkneepaaUc
import Derived.Maps.AppendAt
set_option linter.unusedSimpArgs false
set_option linter.unusedVariables false
namespace Go.Proofs.Ytdanlnmdkneepaa
open Go.RowKit

set_option maxRecDepth 100000 in
set_option maxHeartbeats 4000000 in
theorem cloneI0 (a : Option Addr) (c : Nat) (X : Nat → Int) (w : World) :
    Calls Try.prog 78 #[.slice a 0 c] w (IntsPost w 0 X) := by
  obtain ⟨i0, hi0, hz0, hz1, hz2⟩ := info_parts info_intV
  have q22 := fun (w : World) (a : Option Addr) (n c n' c' : Nat) => Lib.run_eql_slice_nil (P := Try.prog) w _ _ a n c n' c' Try.underlying22
  rcases a with _ | ad
  · go_enter Try.func78, Try.ntmps78
    go_wp2_with (fail)
    go_ret
    exact ⟨none, 0, rfl, World.ownsRow_nil _ _ _ _, Below.refl _ _⟩
  · go_enter Try.func78, Try.ntmps78
    go_wp2_with (at_builtin; refine wpList_append_own_at _ rfl _ _ 22 rfl w.heap.size 3 i0 (.int .i64 0) 1 8 Try.underlying22 hi0 hz0 hz1 hz2 rfl (by decide) _ _ _ rfl (World.ownsRow_made w #[] 0 (Nat.le_refl _) (by unfold maxLen; omega) rfl) ad 0 c [] rfl rfl (fun j u h => by cases h) (fun u h => by cases h) (by unfold maxLen; omega) (by omega) (by simp) ?_; intro v' w' hown hgrow _ _; have HO := Lib.hid hown; have HG := Lib.hid (Below.grown ((Below.refl _ w).alloc (Nat.le_refl _) (.cells #[] 3)) hgrow (by simp) (fun b hb => by cases hb; exact Nat.le_refl _)); clear hown hgrow)
    obtain ⟨ao, cap, rfl⟩ := own_sliceV HO.out
    go_ret
    exact ⟨_, _, rfl, HO.out, HG.out⟩
/-- A copy of numbers, as many as there are. -/
theorem cloneIany (a : Option Addr) (n c : Nat) (X : Nat → Int) (w : World) (hp : IntsR w a n X) (hn : n ≤ 1000000) :
    Calls Try.prog 78 #[.slice a n c] w (IntsPost w n X) := by
  by_cases h0 : n = 0
  · subst h0
    exact cloneI0 a c X w
  · rcases hp with h | ⟨b, off, rfl, hb, hd⟩
    · exact absurd h h0
    · exact cloneI b off n c X w hb hd (by omega) hn
theorem reverseIany (base : Nat) (a : Option Addr) (n c : Nat) (X : Nat → Int) (w : World) (hn : n ≤ 1000) (ho : w.ownsRow base 3 1 (.slice a n c) n (vs X n)) :
    Calls Try.prog 101 #[.slice a n c] w fun e w' => e = .returned (.tuple #[]) ∧ w'.ownsRow base 3 1 (.slice a n c) n (vs (rv n X) n) ∧ (∀ B, B ≤ base → Below B w w') := by
  by_cases h0 : n = 0
  · subst h0
    go_enter Try.func101, Try.ntmps101
    go_wp2_with (fail)
    refine wp_loop_rounds 1 ?_
    rw [rounds_succ]; go_wp2_with (fail)
    go_end0
    exact ⟨rfl, by simpa [vs] using ho, fun B _ => Below.refl _ _⟩
  · obtain ⟨g, cap, he, hb, hl⟩ := ho.form (by omega)
    cases he
    refine (reverseI base g n c X w hn (by omega) ho hl).mono ?_
    rintro e w' ⟨rfl, h1, h2⟩
    exact ⟨rfl, h1, fun B hB => h2.toBelow B (by omega) (fun k hk e => by omega)⟩
theorem own_mut {w w' : World} {base g n size : Nat} {e : TypeId} {v : Value} {xs : List Value} (h : w.ownsRow base e size v n xs) (hm : Mut (· = g) w w') (hg : g < base) : w'.ownsRow base e size v n xs := by
  obtain ⟨h1, h2⟩ := h
  refine ⟨h1, ?_⟩
  rcases h2 with h2 | ⟨g', cap, cur, hv, hb, hh, r⟩
  · exact .inl h2
  · exact .inr ⟨g', cap, cur, hv, hb, (hm.block g' (lt_of_heap hh) (by omega)).trans hh, r⟩
theorem own_at {w w' : World} {base g n c size : Nat} {e : TypeId} {xs : List Value} (h : w.ownsRow base e size (.slice (some ⟨g, 0, none⟩) n c) n xs) (hk : w'.heap[g]? = w.heap[g]?) (hs : w.heap.size ≤ w'.heap.size) : w'.ownsRow base e size (.slice (some ⟨g, 0, none⟩) n c) n xs := by
  obtain ⟨h1, h2⟩ := h
  refine ⟨h1, ?_⟩
  rcases h2 with ⟨h2, _⟩ | ⟨g', cap, cur, hv, hb, hh, r⟩
  · cases h2
  · cases hv
    exact .inr ⟨g, c, cur, rfl, hb, hk.trans hh, r⟩
set_option maxRecDepth 100000 in
set_option maxHeartbeats 4000000 in
theorem BackOf_any (a : Option Addr) (n c : Nat) (L M : Nat → Int) (ac : Option Addr) (m cc : Nat) (C : Nat → Int) (w : World) (hn : n ≤ 100) (h0 : 0 < n) (hm : m ≤ 100) (hp : LegsR w a n L M) (hc : IntsR w ac m C) :
    Calls Try.prog 57 #[.slice a n c, .slice ac m cc] w fun e w' => ∃ a1 c1 a2 c2, e = .returned (.tuple #[.slice a1 n c1, .slice a2 m c2]) ∧ w'.ownsRow w.heap.size 83 2 (.slice a1 n c1) n (cells2 (rv n L) (rv n M) n) ∧ w'.ownsRow w.heap.size 3 1 (.slice a2 m c2) m (vs (rv m C) m) ∧ Below w.heap.size w w' := by
  rcases hp with h | ⟨b, off, rfl, hb, hd⟩
  · omega
  have HC := Lib.hid hc
  clear hc
  go_enter Try.func57, Try.ntmps57
  go_wp2_with (fail)
  refine (cloneL b off n c L M w hb hd h0 (by omega)).mono ?_
  rintro e w1 ⟨a1, c1, rfl, ho1, hb1⟩
  have HO1 := Lib.hid ho1
  have HB1 := Lib.hid hb1
  obtain ⟨g1, c1', he, hg1, hl1⟩ := ho1.form h0
  cases he
  clear ho1 hb1
  go_wp2_with (fail)
  refine (cloneIany ac m cc C w1 (HC.out.kept HB1.out) (by omega)).mono ?_
  rintro e w2 ⟨a2, c2, rfl, ho2, hb2⟩
  have HO2 := Lib.hid ho2
  have HB2 := Lib.hid (HB1.out.trans (hb2.mono HB1.out.size))
  have HO1b := Lib.hid (ownsRow_below HO1.out hb2)
  have hs2 := hb2.size
  clear ho2 hb2 HO1
  go_wp2_with (fail)
  refine (reverseL w.heap.size g1 n c1 L M w2 (by omega) h0 HO1b.out (by omega)).mono ?_
  rintro e w3 ⟨rfl, ho3, hm3⟩
  have HO2b := Lib.hid (own_mut HO2.out hm3 hl1)
  have HB3 := Lib.hid (HB2.out.trans (hm3.toBelow w.heap.size (by have := HB2.out.size; omega) (fun k hk e => by omega)))
  have HO3 := Lib.hid ho3
  have hs3 := hm3.size
  clear ho3 hm3 HO1b HO2 HB2
  go_wp2_with (fail)
  refine (reverseIany w1.heap.size a2 m c2 C w3 (by omega) HO2b.out).mono ?_
  rintro e w4 ⟨rfl, ho4, hb4⟩
  have hb4' := hb4 w1.heap.size (Nat.le_refl _)
  have HO3b := Lib.hid (own_at HO3.out (hb4'.block g1 hl1) hb4'.size)
  have HB4 := Lib.hid (HB3.out.trans (hb4 w.heap.size HB1.out.size))
  have HO4 := Lib.hid (own_base ho4 HB1.out.size)
  clear ho4 hb4 hb4'
  go_wp2_with (fail)
  exact bodyPost_ret (v := .tuple #[.slice (some ⟨g1, 0, none⟩) n c1, .slice a2 m c2]) (by simp [results, Try.results57, go_sem]) rfl ⟨_, _, _, _, rfl, HO3b.out, HO4.out, HB4.out⟩
end Go.Proofs.Ytdanlnmdkneepaa

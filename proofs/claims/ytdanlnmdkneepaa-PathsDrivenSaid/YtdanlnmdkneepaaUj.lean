/- Numbers behind one another, where there are none before and behind. -/
import Derived.Test.YtdanlnmdkneepaaUi
set_option linter.unusedSimpArgs false
set_option linter.unusedVariables false
namespace Go.Proofs.Ytdanlnmdkneepaa
open Go.RowKit

theorem appN {P : Program} (w : World) (t ty e : TypeId) (i : TypeInfo) (ht : P.underlying t = some (.slice e)) (hi : P.info? e = some i) (a : Option Addr) (n c : Nat) (hc : n ≤ c) :
    (Builtin.append_ #[t, t] ty #[.slice a n c, .slice none 0 0]).run P w = .ok (.slice a n c) w := by
  have h63 : True := trivial
  simp [Builtin.append_, run_underlying ht, sizeOf, typeInfo, hi, Builtin.lenOf, hc, Question.forced]
  cases a <;> simp [run_firstCells_none, storeCells]
theorem own_cap {w : World} {base n c size : Nat} {e : TypeId} {a : Option Addr} {xs : List Value} (h : w.ownsRow base e size (.slice a n c) n xs) : n ≤ c := by
  rcases h.2 with ⟨h2, h0⟩ | ⟨g', cap, cur, hv, hb, hh, hn, _⟩
  · cases h2; omega
  · cases hv; exact hn
set_option maxRecDepth 100000 in
set_option maxHeartbeats 4000000 in
theorem concatI1 (g : Nat) (d2 : Addr) (n2 c2 : Nat) (X2 : Nat → Int) (w : World) (h0 : w.heap[g]? = some (.cells #[.slice none 0 0, .slice (some d2) n2 c2, .slice none 0 0] 22 (0, 0)))
    (r2 : IntsR w (some d2) n2 X2) (hm2 : n2 ≤ 1000) (hp : 0 < n2) :
    Calls Try.prog 88 #[.slice (some ⟨g, 0, none⟩) 3 3] w (IntsPost w n2 X2) := by
  obtain ⟨i0, hi0, hz0, hz1, hz2⟩ := info_parts info_intV
  have T2 := Lib.hid r2
  have hg := lt_of_heap h0
  have k0 := cell_of h0 (i := 0) rfl
  have k1 := cell_of h0 (i := 1) rfl
  have k2 := cell_of h0 (i := 2) rfl
  clear r2 h0
  go_enter Try.func88, Try.ntmps88
  go_wp2
  refine wp_loop_rounds 4 ?_
  rw [rounds_succ]; go_wp2
  rw [rounds_succ]; go_wp2
  rw [rounds_succ]; go_wp2
  rw [rounds_succ]; go_wp2_with (fail)
  refine (growI n2 w (by omega)).mono ?_
  rintro e w1 ⟨a, c, rfl, ho, hb⟩
  have H0 := cellk hb hg k0
  have H1 := cellk hb hg k1
  have H2 := cellk hb hg k2
  have hs := hb.size
  have O1 := Lib.hid ho
  have B1 := Lib.hid hb
  have hg1 : g < w1.heap.size := by omega
  have q1 := fun ty => appN w1 22 ty 3 i0 Try.underlying22 hi0 a 0 c (own_cap ho)
  clear ho hb k0 k1 k2
  go_wp2
  refine wp_loop_rounds 4 ?_
  rw [rounds_succ]
  go_wp2_with (at_builtin; refine Lib.wpList_append_run _ rfl _ _ _ _ rfl _ _ rfl rfl _ _ (q1 _) ?_)
  clear q1
  go_wp2
  rw [rounds_succ]
  go_wp2_with (at_builtin; refine wpList_append_own_at _ rfl _ _ 22 rfl w.heap.size 3 i0 (.int .i64 0) 1 8 Try.underlying22 hi0 hz0 hz1 hz2 rfl (by decide) _ _ _ rfl O1.out d2 n2 c2 (vs X2 n2) rfl (by simp [vs]) (news_I (T2.out.kept B1.out)) (vs_oneC X2 n2) (by unfold maxLen; omega) (by omega) (by omega) ?_; intro v3 w3 hown hgrow _ _; have HO3 := Lib.hid hown; have HG3 := Lib.hid hgrow; clear hown hgrow)
  have B3 := Lib.hid (B1.out.grown HG3.out B1.out.size (fun b hb => (O1.out.lt b hb).1))
  have s3 := B3.out.size
  have hne1 : (Value.slice a 0 c).ownBlock ≠ some g := fun e => by have := (O1.out.lt _ e).1; omega
  have H21 := (HG3.out.cell_far ⟨g, 2, none⟩ hg1 (fun e => hne1 e.symm)).trans H2
  clear H0 H1 H2
  have hg3 : g < w3.heap.size := by omega
  obtain ⟨ao, cap, rfl⟩ := own_sliceV HO3.out
  have O3 := HO3.out
  simp only [Nat.zero_add, List.nil_append] at O3
  have q2 := fun ty => appN w3 22 ty 3 i0 Try.underlying22 hi0 ao n2 cap (own_cap O3)
  replace O3 := Lib.hid O3
  try simp only [Nat.zero_add]
  go_wp2
  rw [rounds_succ]
  go_wp2_with (at_builtin; refine Lib.wpList_append_run _ rfl _ _ _ _ rfl _ _ rfl rfl _ _ (q2 _) ?_)
  go_wp2
  rw [rounds_succ]; go_wp2
  go_ret
  exact ⟨_, _, rfl, O3.out, B3.out⟩
end Go.Proofs.Ytdanlnmdkneepaa

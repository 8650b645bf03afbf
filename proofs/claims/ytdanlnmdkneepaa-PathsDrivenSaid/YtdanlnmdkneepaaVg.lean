/- Numbers in a block; the bounds of speeds. -/
import Derived.Test.YtdanlnmdkneepaaVf
import Derived.Test.YtdanlnmdkneepaaTk
import Derived.Deep.AppendLies
set_option linter.unusedSimpArgs false
set_option linter.unusedVariables false
namespace Go.Proofs.Ytdanlnmdkneepaa
open Go.RowKit

theorem min3V (P : Program) (ts : Array TypeId) (t : TypeId) (x y z : Int) (w : World) : (Builtin.min_ ts t #[.int .i64 x, .int .i64 y, .int .i64 z]).run P w = .ok (.int .i64 (min (min x y) z)) w := by
  simp [Builtin.min_, Builtin.min2]
  omega
theorem min2V (P : Program) (ts : Array TypeId) (t : TypeId) (x y : Int) (w : World) : (Builtin.min_ ts t #[.int .i64 x, .int .i64 y]).run P w = .ok (.int .i64 (min x y)) w := by
  simp [Builtin.min_, Builtin.min2]
  omega
theorem Below.next_drew {B : Nat} {w W : World} (h : Below B w W) : Below B w W.drew := ⟨h.os, h.tape, h.output, h.size, h.block⟩
/-- The first m numbers as cells. -/
def vs (v : Nat → Int) (m : Nat) : List Value := (List.range m).map (fun i => .int .i64 (v i))
theorem vs_length (v : Nat → Int) (m : Nat) : (vs v m).length = m := by simp [vs]
theorem vs_succ (v : Nat → Int) (m : Nat) : vs v (m + 1) = vs v m ++ [.int .i64 (v m)] := by simp [vs, List.range_succ]
theorem vs_get (v : Nat → Int) (m i : Nat) (h : i < m) : (vs v m)[i]? = some (.int .i64 (v i)) := by simp [vs, h]
theorem vs_ext {u v : Nat → Int} {m : Nat} (h : ∀ i, i < m → u i = v i) : vs u m = vs v m := by
  unfold vs
  apply List.map_congr_left
  intro i hi
  rw [h i (by simpa using hi)]
def updV (v : Nat → Int) (i : Nat) (x : Int) (j : Nat) : Int := if j = i then x else v j
theorem updV_same {v : Nat → Int} {i : Nat} {x : Int} : updV v i x i = x := by simp [updV]
theorem updV_other {v : Nat → Int} {i j : Nat} {x : Int} (h : j ≠ i) : updV v i x j = v j := by simp [updV, h]
/-- A block whose first m cells are numbers. -/
def BlkI (w : World) (g m : Nat) (v : Nat → Int) : Prop := ∃ cur, w.heap[g]? = some (.cells cur 3 (0, 0)) ∧ ∀ i, i < m → cur[i]? = some (.int .i64 (v i))
theorem BlkI.lt {w : World} {g m : Nat} {v : Nat → Int} (h : BlkI w g m v) : g < w.heap.size := by obtain ⟨_, h, _⟩ := h; exact lt_of_heap h
theorem BlkI.cell {w : World} {g m : Nat} {v : Nat → Int} (h : BlkI w g m v) {i : Nat} (hi : i < m) : w.cell? ⟨g, i, none⟩ = some (.int .i64 (v i)) := by obtain ⟨_, h, h2⟩ := h; exact cell_of h (h2 i hi)
theorem BlkI.frozen {w : World} {g m : Nat} {v : Nat → Int} (h : BlkI w g m v) (i : Nat) : w.frozen? ⟨g, i, none⟩ = false := by obtain ⟨_, h, h2⟩ := h; exact frozen_of h
theorem BlkI.kept {w w' : World} {g m : Nat} {v : Nat → Int} (h : BlkI w g m v) (hb : Below w.heap.size w w') : BlkI w' g m v := by obtain ⟨c, h, h2⟩ := h; exact ⟨c, heap_keep hb h, h2⟩
theorem BlkI.ints {w : World} {g m : Nat} {v : Nat → Int} (h : BlkI w g m v) : IntsR w (some ⟨g, 0, none⟩) m v := .inr ⟨g, 0, rfl, h.lt, fun i hi => by rw [Nat.zero_add]; exact h.cell hi⟩
theorem BlkI.less {w : World} {g m k : Nat} {v : Nat → Int} (h : BlkI w g m v) (hk : k ≤ m) : BlkI w g k v := by obtain ⟨c, h, h2⟩ := h; exact ⟨c, h, fun i hi => h2 i (by omega)⟩
theorem BlkI.ext {w : World} {g m : Nat} {u v : Nat → Int} (h : BlkI w g m u) (he : ∀ i, i < m → u i = v i) : BlkI w g m v := by obtain ⟨c, h, h2⟩ := h; exact ⟨c, h, fun i hi => by rw [h2 i hi, he i hi]⟩
theorem BlkI.set {w : World} {g m : Nat} {v : Nat → Int} (h : BlkI w g m v) {i : Nat} (hi : i < m) (x : Int) : BlkI (w.setCell ⟨g, i, none⟩ (.int .i64 x)) g m (updV v i x) := by
  obtain ⟨c, h, h2⟩ := h
  refine ⟨c.setIfInBounds i (.int .i64 x), ?_, fun j hj => ?_⟩
  · simp [World.setCell, Array.getElem?_modify, h]
  · have hs : i < c.size := by
      have := h2 i hi
      exact (Array.getElem?_eq_some_iff.1 this).1
    by_cases e : j = i
    · subst e; rw [updV_same]; simp [hs]
    · rw [updV_other e, Array.getElem?_setIfInBounds_ne (Ne.symm e)]; exact h2 j hj
theorem blk_of_own {w : World} {base g m c : Nat} {v : Nat → Int} (h : w.ownsRow base 3 1 (.slice (some ⟨g, 0, none⟩) m c) m (vs v m)) : BlkI w g m v := by
  rcases h.2 with ⟨h1, h2⟩ | ⟨g', cap, cur, hv, hb, hh, hc, hm, hs, hx⟩
  · cases h1
  · cases hv
    refine ⟨cur, hh, fun i hi => ?_⟩
    have h3 := vs_get v m i hi
    rw [← hx, List.getElem?_take_of_lt (by omega)] at h3
    rw [← Array.getElem?_toList]; exact h3
theorem ints_of_own {w : World} {base m c : Nat} {a : Option Addr} {v : Nat → Int} (h : w.ownsRow base 3 1 (.slice a m c) m (vs v m)) : IntsR w a m v := by
  by_cases hm : m = 0
  · exact .inl hm
  · obtain ⟨g, cap', hv, _, hlt⟩ := h.form (by omega)
    cases hv
    exact (blk_of_own h).ints
theorem info_intV : (Try.prog.info? 3).map (fun i => (i.zero, i.size, i.bytes)) = some (some (.int .i64 0), 1, 8) := by kernel_rfl
theorem own_litV {w : World} {base g n size : Nat} {e : TypeId} {cur : Array Value} {xs : List Value} (hh : w.heap[g]? = some (.cells cur e (0, 0))) (hb : base ≤ g) (hn : n ≤ maxLen) (hl : xs.length = n * size) (hx : cur.toList = xs) : w.ownsRow base e size (.slice (some ⟨g, 0, none⟩) n n) n xs := by
  refine ⟨hl, .inr ⟨g, n, cur, rfl, hb, hh, Nat.le_refl _, hn, ?_, ?_⟩⟩
  · rw [← hl, ← hx]; simp
  · rw [hx, ← hl, List.take_length]
theorem own_sliceV {w : World} {base : Nat} {e : TypeId} {size : Nat} {v : Value} {n : Nat} {xs : List Value} (h : w.ownsRow base e size v n xs) : ∃ ao cap, v = .slice ao n cap := by
  rcases h.2 with ⟨rfl, h0⟩ | ⟨g, cap, cur, hv, _⟩
  · exact ⟨none, 0, by rw [h0]⟩
  · exact ⟨_, _, hv⟩
attribute [local go_sem] min3V min2V
theorem bndZ_last {n m : Nat} {M C : Nat → Int} (h : m + 1 = n) : bndZ n M C (m + 1) = 0 := by rw [h]; exact bndZ_n
set_option maxRecDepth 100000 in
set_option maxHeartbeats 4000000 in
theorem bounds_any (a : Option Addr) (n c : Nat) (L M : Nat → Int) (ac : Option Addr) (m cc : Nat) (C : Nat → Int) (w : World) (hn : n ≤ 100) (hm : m + 1 = n) (hp : LegsR w a n L M) (hc : IntsR w ac m C) :
    Calls Try.prog 139 #[.slice a n c, .slice ac m cc] w fun e w' => ∃ g cap, e = .returned (.slice (some ⟨g, 0, none⟩) (n + 1) cap) ∧ w'.ownsRow w.heap.size 3 1 (.slice (some ⟨g, 0, none⟩) (n + 1) cap) (n + 1) (vs (bndZ n M C) (n + 1)) ∧ g < w'.heap.size ∧ Below w.heap.size w w' := by
  obtain ⟨i0, hi0, hz0, hz1, hz2⟩ := info_parts info_intV
  have HP := Lib.hid hp
  have HC := Lib.hid hc
  clear hp hc
  go_enter Try.func139, Try.ntmps139
  go_wp2_with (fail)
  have B0 : Below w.heap.size w (w.alloc (.cells #[.int .i64 0] 3)) := (by repeat (first | exact Below.refl _ _ | assumption | refine Below.drew ?_ | refine bdrewN ?_ _ | refine Below.setCell ?_ (by first | omega | (simp <;> omega)) _ | refine Below.alloc ?_ (by first | omega | (simp <;> omega)) _))
  have O0 : Hid ((w.alloc (.cells #[.int .i64 0] 3)).ownsRow w.heap.size 3 1 (.slice (some ⟨w.heap.size, 0, none⟩) 1 1) 1 (vs (bndZ n M C) 1)) := Lib.hid (own_litV (heap_alloc_new w _) (Nat.le_refl _) (by unfold maxLen; omega) (by simp [vs]) (by simp [vs, bndZ_0]))
  generalize (w.alloc (.cells #[.int .i64 0] 3)) = w1 at *
  go_loopw [5, 11] (fun v i wr => ∃ (t g cap : Nat), t ≤ m ∧ i = .int .i64 t ∧ v = .slice (some ⟨g, 0, none⟩) (t + 1) cap ∧ wr.ownsRow w.heap.size 3 1 (.slice (some ⟨g, 0, none⟩) (t + 1) cap) (t + 1) (vs (bndZ n M C) (t + 1)) ∧ g < wr.heap.size ∧ Below w.heap.size w wr) (fun _ i _ => m - (intOf i).toNat)
  case atStart => exact ⟨0, _, _, by omega, rfl, rfl, O0.out, by have := O0.out.lt _ rfl; omega, B0⟩
  case round =>
    obtain ⟨t, g, cap, ht, rfl, rfl, hown, hgl, hbel⟩ := hrel
    have HO := Lib.hid hown
    have HB := Lib.hid hbel
    clear hown hbel O0
    by_cases hlt : t < m
    · rcases HC.out with h0 | ⟨bc, oc, rfl, hbc, hdc⟩
      · omega
      rcases HP.out with h0 | ⟨b, off, rfl, hb, hd⟩
      · omega
      have c0 := cellk HB.out hbc (hdc t hlt)
      have l0 := cellk HB.out hb (hd t (by omega)).2
      have l1 := cellk HB.out hb (hd (t + 1) (by omega)).2
      have hbl : b < wr.heap.size := Nat.lt_of_lt_of_le hb HB.out.size
      have hbcl : bc < wr.heap.size := Nat.lt_of_lt_of_le hbc HB.out.size
      have hw1 : IntKind.i64.wrap ((t : Int) + 1) = (t : Int) + 1 := i64w (by omega)
      have ht1 : t < n := by omega
      have hmin : min (C t) (min (M t) (M (t + 1))) = bndZ n M C (t + 1) := by rw [bndZ_mid (by omega), Int.min_assoc]
      have ht2 : t + 1 < n := by omega
      have ht3 : (0 : Int) ≤ (t : Int) + 1 := by omega
      have ht4 : (t : Int) + 1 < (n : Int) := by omega
      clear hdc hd
      go_wp2_with (fail)
      refine wp_region_held_drew (S := (fun w' => w'.cell? ⟨b, off + t * 2 + 1, none⟩ = some (.int .i64 (M t)) ∧ w'.cell? ⟨b, off + (t + 1) * 2 + 1, none⟩ = some (.int .i64 (M (t + 1))))) (by kernel_rfl) ⟨l0, l1⟩ (fun hHeld => ?_)
      refine tkH (by assumption) 0 (oi := ?_) (v := ?_) ?_ ?_ ?_ ?_ ?_ ?_ ?_ ?_; rotate_left 2; (simp only [gA, gB, gC]; exact rfl); kernel_rfl; kernel_rfl; kernel_rfl; exact fun _ _ _ h => h; rfl; (intro w' hSw; (try dsimp only at hSw); go_simp; with_reducible rfl); simp only [Act.put, pB, pC, pD]
      refine tkH (by assumption) 1 (oi := ?_) (v := ?_) ?_ ?_ ?_ ?_ ?_ ?_ ?_ ?_; rotate_left 2; (simp only [gA, gB, gC]; exact rfl); kernel_rfl; kernel_rfl; kernel_rfl; exact fun _ _ _ h => h; rfl; (intro w' hSw; (try dsimp only at hSw); go_simp; with_reducible rfl); simp only [Act.put, pB, pC, pD]
      refine tkH (by assumption) 2 (oi := ?_) (v := ?_) ?_ ?_ ?_ ?_ ?_ ?_ ?_ ?_; rotate_left 2; (simp only [gA, gB, gC]; exact rfl); kernel_rfl; kernel_rfl; kernel_rfl; exact fun _ _ _ h => h; rfl; (intro w' hSw; (try dsimp only at hSw); go_simp; with_reducible rfl); simp only [Act.put, pB, pC, pD]
      refine tkH (by assumption) 3 (oi := ?_) (v := ?_) ?_ ?_ ?_ ?_ ?_ ?_ ?_ ?_; rotate_left 2; (simp only [gA, gB, gC]; exact rfl); kernel_rfl; kernel_rfl; kernel_rfl; exact fun _ _ _ h => h; rfl; (intro w' hSw; (try dsimp only at hSw); go_simp; with_reducible rfl); simp only [Act.put, pB, pC, pD]
      refine tkH (by assumption) 4 (oi := ?_) (v := ?_) ?_ ?_ ?_ ?_ ?_ ?_ ?_ ?_; rotate_left 2; (simp only [gA, gB, gC]; exact rfl); kernel_rfl; kernel_rfl; kernel_rfl; exact fun _ _ _ h => h; rfl; (intro w' hSw; (try dsimp only at hSw); go_simp; with_reducible rfl); simp only [Act.put, pB, pC, pD]
      refine tkH (by assumption) 5 (oi := ?_) (v := ?_) ?_ ?_ ?_ ?_ ?_ ?_ ?_ ?_; rotate_left 2; (simp only [gA, gB, gC]; exact rfl); kernel_rfl; kernel_rfl; kernel_rfl; exact fun _ _ _ h => h; rfl; (intro w' hSw; (try dsimp only at hSw); go_simp; with_reducible rfl); simp only [Act.put, pB, pC, pD]
      refine tkH (by assumption) 6 (oi := ?_) (v := ?_) ?_ ?_ ?_ ?_ ?_ ?_ ?_ ?_; rotate_left 2; (simp only [gA, gB, gC]; exact rfl); kernel_rfl; kernel_rfl; kernel_rfl; exact fun _ _ _ h => h; rfl; (intro w' hSw; (try dsimp only at hSw); go_simp; with_reducible rfl); simp only [Act.put, pB, pC, pD]
      refine tkH (by assumption) 7 (oi := ?_) (v := ?_) ?_ ?_ ?_ ?_ ?_ ?_ ?_ ?_; rotate_left 2; (simp only [gA, gB, gC]; exact rfl); kernel_rfl; kernel_rfl; kernel_rfl; exact fun _ _ _ h => h; rfl; (intro w' hSw; (try dsimp only at hSw); go_simp; with_reducible rfl); simp only [Act.put, pB, pC, pD]
      refine tkH (by assumption) 8 (oi := ?_) (v := ?_) ?_ ?_ ?_ ?_ ?_ ?_ ?_ ?_; rotate_left 2; (simp only [gA, gB, gC]; exact rfl); kernel_rfl; kernel_rfl; kernel_rfl; exact fun _ _ _ h => h; rfl; (intro w' hSw; (try dsimp only at hSw); go_simp; with_reducible rfl); simp only [Act.put, pB, pC, pD]
      refine tkH (by assumption) 9 (oi := ?_) (v := ?_) ?_ ?_ ?_ ?_ ?_ ?_ ?_ ?_; rotate_left 2; (simp only [gA, gB, gC]; exact rfl); kernel_rfl; kernel_rfl; kernel_rfl; exact fun _ _ _ h => h; rfl; (intro w' hSw; (try dsimp only at hSw); go_simp; with_reducible rfl); simp only [Act.put, pB, pC, pD]
      refine tkH (by assumption) 10 (oi := ?_) (v := ?_) ?_ ?_ ?_ ?_ ?_ ?_ ?_ ?_; rotate_left 2; (simp only [gA, gB, gC]; exact rfl); kernel_rfl; kernel_rfl; kernel_rfl; exact fun _ _ _ h => h; rfl; (intro w' hSw; (try dsimp only at hSw); go_simp; with_reducible rfl); simp only [Act.put, pB, pC, pD]
      refine tkH (by assumption) 11 (oi := ?_) (v := ?_) ?_ ?_ ?_ ?_ ?_ ?_ ?_ ?_; rotate_left 2; (simp only [gA, gB, gC]; exact rfl); kernel_rfl; kernel_rfl; kernel_rfl; exact fun _ _ _ h => h; rfl; (intro w' hSw; (try dsimp only at hSw); go_simp; with_reducible rfl); simp only [Act.put, pB, pC, pD]
      refine tkH (by assumption) 12 (oi := ?_) (v := ?_) ?_ ?_ ?_ ?_ ?_ ?_ ?_ ?_; rotate_left 2; (simp only [gA, gB, gC]; exact rfl); kernel_rfl; kernel_rfl; kernel_rfl; exact fun _ _ _ h => h; rfl; (intro w' hSw; (try dsimp only at hSw); go_simp; with_reducible rfl); simp only [Act.put, pB, pC, pD]
      refine tkH (by assumption) 13 (oi := ?_) (v := ?_) ?_ ?_ ?_ ?_ ?_ ?_ ?_ ?_; rotate_left 2; (simp only [gA, gB, gC]; exact rfl); kernel_rfl; kernel_rfl; kernel_rfl; exact fun _ _ _ h => h; rfl; (intro w' hSw; (try dsimp only at hSw); go_simp; with_reducible rfl); simp only [Act.put, pB, pC, pD]
      refine onH 14 (oi := ?_) (by kernel_rfl) ?_ ?_ (fun K hK => ?_); rotate_left; (simp only [gA, gB, gC]; exact rfl); rfl
      go_wp2_with (fail)
      have bA : Below wr.heap.size wr (wr.alloc (.cells #[.int .i64 (bndZ n M C (t + 1))] 3)).drew := (by repeat (first | exact Below.refl _ _ | assumption | refine Below.drew ?_ | refine bdrewN ?_ _ | refine Below.setCell ?_ (by first | omega | (simp <;> omega)) _ | refine Below.alloc ?_ (by first | omega | (simp <;> omega)) _))
      have hnw : ∀ (j : Nat) (u : Value), [Value.int .i64 (bndZ n M C (t + 1))][j]? = some u → (wr.alloc (.cells #[.int .i64 (bndZ n M C (t + 1))] 3)).drew.cell? ((⟨wr.heap.size, 0, none⟩ : Addr).add j) = some u := World.news_of_block (cs := #[.int .i64 (bndZ n M C (t + 1))]) (t := 3) (fr := (0, 0)) (heap_alloc_new wr (.cells #[.int .i64 (bndZ n M C (t + 1))] 3))
      have HO2 := ownsRow_below HO.out bA
      have B2 := HB.out.trans (bA.mono HB.out.size)
      have hs2 : (wr.alloc (.cells #[.int .i64 (bndZ n M C (t + 1))] 3)).drew.heap.size = wr.heap.size + 1 := by simp
      refine hK.out _ _ ⟨cellk bA hbl l0, cellk bA hbl l1⟩ (fun hHeldN => ?_)
      clear hK K hHeld bA
      have hHeld := hHeldN
      clear hHeldN
      try simp only [Act.put, pB, pC, pD]
      generalize (wr.alloc (.cells #[.int .i64 (bndZ n M C (t + 1))] 3)).drew = W2 at *
      have hwr := HB.out.size
      refine onH 15 (oi := ?_) (by kernel_rfl) ?_ ?_ (fun K hK => ?_); rotate_left; (simp only [gA, gB, gC]; exact rfl); rfl
      refine wp_append_lies _ _ _ 22 rfl w.heap.size 3 i0 (.int .i64 0) 1 8 Try.underlying22 hi0 hz0 hz1 hz2 rfl (by decide) _ _ _ rfl HO2 ⟨wr.heap.size, 0, none⟩ 1 1 [.int .i64 (bndZ n M C (t + 1))] rfl rfl hnw (by simp [Value.oneCell']) (by omega) (by unfold maxLen; omega) (by omega) (by omega) (wr.heap.size + 1) hs2 ?_
      intro g5 c5 w5 hown hgrow _ hlt5
      have B5 : Below w.heap.size w w5 := Below.grown B2 hgrow (by omega) (fun b hb => (HO2.lt b hb).1)
      have HO5 := Lib.hid (show w5.ownsRow w.heap.size 3 1 (.slice (some ⟨g5, 0, none⟩) (t + 1 + 1) c5) (t + 1 + 1) (vs (bndZ n M C) (t + 1 + 1)) by rw [vs_succ _ (t + 1)]; exact hown)
      have HB5 := Lib.hid B5
      refine hK.out _ _ ⟨(B5.cell (p := ⟨b, _, none⟩) hb).trans ((B2.cell (p := ⟨b, _, none⟩) hb).symm.trans hHeld.1), (B5.cell (p := ⟨b, _, none⟩) hb).trans ((B2.cell (p := ⟨b, _, none⟩) hb).symm.trans hHeld.2)⟩ (fun hHeldN => ?_)
      clear hK K hHeld hnw HO2 B2 hs2 hown hgrow B5
      have hHeld := hHeldN
      clear hHeldN
      try simp only [Act.put, pB, pC, pD]
      refine tkH (by assumption) 16 (oi := ?_) (v := ?_) ?_ ?_ ?_ ?_ ?_ ?_ ?_ ?_; rotate_left 2; (simp only [gA, gB, gC]; exact rfl); kernel_rfl; kernel_rfl; kernel_rfl; exact fun _ _ _ h => h; rfl; (intro w' hSw; (try dsimp only at hSw); go_simp; with_reducible rfl); simp only [Act.put, pB, pC, pD]
      refine wpAnyH_done (by kernel_rfl) ?_ _
      go_wp2_with (fail)
      go_roundw
      case rel => exact ⟨t + 1, g5, c5, by omega, by go_num, rfl, HO5.out, hlt5, HB5.out⟩
      case measure => simp [intOf]; omega
    · obtain rfl : t = m := by omega
      go_wp2_with (at_builtin; refine wpList_append_lies _ rfl _ _ 22 rfl w.heap.size 3 i0 (.int .i64 0) 1 8 Try.underlying22 hi0 hz0 hz1 hz2 rfl (by decide) _ _ _ rfl (ownsRow_below HO.out ((Below.refl _ wr).alloc (Nat.le_refl _) _)) ⟨wr.heap.size, 0, none⟩ 1 1 [.int .i64 0] rfl rfl (World.news_of_block (cs := #[.int .i64 0]) (t := 3) (fr := (0, 0)) (heap_alloc_new wr (.cells #[.int .i64 0] 3))) (by simp [Value.oneCell']) (by omega) (by unfold maxLen; omega) (by omega) (by have := HB.out.size; simp; omega) (wr.heap.size + 1) (by simp) ?_; intro g5 c5 w5 hown hgrow _ hlt5)
      have B5 : Below w.heap.size w w5 := Below.grown (HB.out.alloc HB.out.size (.cells #[.int .i64 0] 3)) hgrow (by have := HB.out.size; simp; omega) (fun b hb => (HO.out.lt b hb).1)
      go_ret
      refine ⟨g5, c5, rfl, ?_, hlt5, B5⟩
      subst hm
      rw [vs_succ _ (t + 1), bndZ_n]
      exact hown
end Go.Proofs.Ytdanlnmdkneepaa

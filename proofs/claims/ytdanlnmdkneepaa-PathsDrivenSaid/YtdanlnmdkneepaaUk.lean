/- A leg is split: the program. -/
import Derived.Test.YtdanlnmdkneepaaUj
import Derived.Test.YtdanlnmdkneepaaUd
import Derived.Test.YtdanlnmdkneepaaUh
set_option linter.unusedSimpArgs false
set_option linter.unusedVariables false
namespace Go.Proofs.Ytdanlnmdkneepaa
open Go.RowKit

/-- The two parts of a leg. -/
def prtL (l t : Int) (i : Nat) : Int := if i = 0 then t else l - t
def splL (n j : Nat) (t : Int) (L : Nat → Int) : Nat → Int := ap (j + 2) (ap j L (prtL (L j) t)) (fun i => L (j + 1 + i))
def splM (n j : Nat) (M : Nat → Int) : Nat → Int := ap (j + 2) (ap j M (fun _ => M j)) (fun i => M (j + 1 + i))
def splC (j : Nat) (x : Int) (C : Nat → Int) : Nat → Int := ap (j + 1) (ap j C (fun _ => x)) (fun i => C (j + i))
theorem LegsR.sub {w : World} {b off n : Nat} {L M : Nat → Int} (hb : b < w.heap.size) (h : Du w b off n L M) (s k : Nat) (hk : s + k ≤ n) : LegsR w (some ⟨b, off + s * 2, none⟩) k (fun i => L (s + i)) (fun i => M (s + i)) :=
  .inr ⟨b, _, rfl, hb, fun i hi => by
    have := h (s + i) (by omega)
    rw [show off + s * 2 + i * 2 = off + (s + i) * 2 by omega]
    exact this⟩
set_option maxRecDepth 100000 in
set_option maxHeartbeats 8000000 in
theorem Split_yes (b off n c : Nat) (L M : Nat → Int) (ac : Option Addr) (m cc : Nat) (C : Nat → Int) (j : Nat) (t : Int) (w : World) (hn : n ≤ 100) (hm : m ≤ 100) (hnc : n ≤ c) (hmc : m ≤ cc) (hcb : c ≤ 9223372036854775807) (hccb : cc ≤ 9223372036854775807) (hb : b < w.heap.size) (hd : Du w b off n L M) (hc : IntsR w ac m C) (hf : (ac = none ∧ m = 0 ∧ cc = 0) ∨ ∃ b2 off2, ac = some ⟨b2, off2, none⟩)
    (hE : cornE n L M m C = 0) (hj : j < n) (ht : 1 ≤ t ∧ t < L j) :
    Calls Try.prog 47 #[.slice (some ⟨b, off, none⟩) n c, .slice ac m cc, .int .i64 j, .int .i64 t] w (LCPost 0 (n + 1) (m + 1) (splL n j t L) (splM n j M) (splC j (M j) C) w) := by
  have HC := Lib.hid hc
  have HD := Lib.hid hd
  have HE := Lib.hid hE
  obtain ⟨⟨h0, hlg⟩, hmn⟩ := corn_ok hE
  have hl := hlg j hj
  clear hc hd hE hlg
  have hji : (j : Int) < (n : Int) := by omega
  have hj0 : ¬ (j : Int) < 0 := by omega
  have hjg : ¬ (j : Int) ≥ (n : Int) := by omega
  have ht1 : ¬ t < 1 := by omega
  have ht2 : ¬ t ≥ L j := by omega
  have hn2 : ¬ (n : Int) = 2000 := by omega
  have e1 : IntKind.i64.wrap (L j - t) = L j - t := i64w (by omega)
  have e2 : IntKind.i64.wrap ((j : Int) + 1) = ((j + 1 : Nat) : Int) := by rw [IntKind.wrap_i64]; omega
  go_enter Try.func47, Try.ntmps47
  go_wp2_with (fail)
  refine (checkCorners_any (some ⟨b, off, none⟩) n c L M ac m cc C w hn hm (.inr ⟨b, off, rfl, hb, HD.out⟩) HC.out).mono ?_
  rintro e w1 ⟨rfl, hb1⟩
  rw [HE.out]
  have HB1 := Lib.hid hb1
  have hD1 := HD.out.kept hb1 hb
  have k0 := (hD1 j hj).1
  have k1 := (hD1 j hj).2
  have hb' : b < w1.heap.size := Nat.lt_of_lt_of_le hb hb1.size
  clear hD1 hb1
  go_wp2_with (fail)
  have HB2 := Lib.hid (show Below w1.heap.size w1 ((w1.alloc (.cells #[.int .i64 (L j), .int .i64 (M j)] 83)).alloc (.cells #[.int .i64 t, .int .i64 (M j), .int .i64 (L j - t), .int .i64 (M j)] 83)) from (by repeat (first | exact Below.refl _ _ | assumption | refine Below.drew ?_ | refine bdrewN ?_ _ | refine Below.setCell ?_ (by first | omega | (simp <;> omega)) _ | refine Below.alloc ?_ (by first | omega | (simp <;> omega)) _)))
  have H1 : Hid (((w1.alloc (.cells #[.int .i64 (L j), .int .i64 (M j)] 83)).alloc (.cells #[.int .i64 t, .int .i64 (M j), .int .i64 (L j - t), .int .i64 (M j)] 83)).heap[w1.heap.size]? = some (.cells #[.int .i64 (L j), .int .i64 (M j)] 83 (0, 0))) := Lib.hid (by repeat (first | (refine heap_new ?_; first | rfl | (simp; done)) | rw [Below.heap_setCell _ _ _ _ (by simp <;> omega)] | rw [Below.heap_alloc _ _ _ (by simp <;> omega)]))
  have H2 : Hid (((w1.alloc (.cells #[.int .i64 (L j), .int .i64 (M j)] 83)).alloc (.cells #[.int .i64 t, .int .i64 (M j), .int .i64 (L j - t), .int .i64 (M j)] 83)).heap[w1.heap.size + 1]? = some (.cells #[.int .i64 t, .int .i64 (M j), .int .i64 (L j - t), .int .i64 (M j)] 83 (0, 0))) := Lib.hid (by repeat (first | (refine heap_new ?_; first | rfl | (simp; done)) | rw [Below.heap_setCell _ _ _ _ (by simp <;> omega)] | rw [Below.heap_alloc _ _ _ (by simp <;> omega)]))
  clear k0 k1
  generalize ((w1.alloc (.cells #[.int .i64 (L j), .int .i64 (M j)] 83)).alloc (.cells #[.int .i64 t, .int .i64 (M j), .int .i64 (L j - t), .int .i64 (M j)] 83)) = W at *
  have hjc : j ≤ c := by omega
  have hjc1 : j + 1 ≤ c := by omega
  have hj7 : (0 : Int) ≤ (j : Int) := by omega
  have hj8 : (0 : Int) ≤ (j : Int) + 1 ∧ (j : Int) + 1 ≤ (c : Int) := by omega
  have hjn1 : j + 1 ≤ n := by omega
  have hjn2 : (j : Int) + 1 ≤ (n : Int) := by omega
  have hjc2 : (j : Int) ≤ (c : Int) := by omega
  obtain ⟨d3, hd3, hd3'⟩ : ∃ d3, (if c = j + 1 then (some ⟨b, off, none⟩ : Option Addr) else some ⟨b, off + (j + 1) * 2, none⟩) = some d3 ∧ (n ≤ j + 1 ∨ d3 = ⟨b, off + (j + 1) * 2, none⟩) := by
    split
    · exact ⟨_, rfl, .inl (by omega)⟩
    · exact ⟨_, rfl, .inr rfl⟩
  have HD3 := Lib.hid hd3'
  clear hd3'
  refine wp_region_held_drew (S := (fun _ => True)) (by kernel_rfl) True.intro (fun hHeld => ?_)
  refine tkH (by assumption) 0 (oi := ?_) (v := ?_) ?_ ?_ ?_ ?_ ?_ ?_ ?_ ?_; rotate_left 2; (simp only [gA, gB, gC]; exact rfl); kernel_rfl; kernel_rfl; kernel_rfl; exact fun _ _ _ h => h; rfl; (intro w' hSw; (try dsimp only at hSw); go_simp; with_reducible rfl); simp only [Act.put, pB, pC, pD]
  refine tkH (by assumption) 1 (oi := ?_) (v := ?_) ?_ ?_ ?_ ?_ ?_ ?_ ?_ ?_; rotate_left 2; (simp only [gA, gB, gC]; exact rfl); kernel_rfl; kernel_rfl; kernel_rfl; exact fun _ _ _ h => h; rfl; (intro w' hSw; (try dsimp only at hSw); go_simp; with_reducible rfl); simp only [Act.put, pB, pC, pD]
  refine tkH (by assumption) 2 (oi := ?_) (v := ?_) ?_ ?_ ?_ ?_ ?_ ?_ ?_ ?_; rotate_left 2; (simp only [gA, gB, gC]; exact rfl); kernel_rfl; kernel_rfl; kernel_rfl; exact fun _ _ _ h => h; rfl; (intro w' hSw; (try dsimp only at hSw); go_simp; with_reducible rfl); simp only [Act.put, pB, pC, pD]
  refine tkH (by assumption) 3 (oi := ?_) (v := ?_) ?_ ?_ ?_ ?_ ?_ ?_ ?_ ?_; rotate_left 2; (simp only [gA, gB, gC]; exact rfl); kernel_rfl; kernel_rfl; kernel_rfl; exact fun _ _ _ h => h; rfl; (intro w' hSw; (try dsimp only at hSw); go_simp; with_reducible rfl); simp only [Act.put, pB, pC, pD]
  refine tkH (by assumption) 4 (oi := ?_) (v := ?_) ?_ ?_ ?_ ?_ ?_ ?_ ?_ ?_; rotate_left 2; (simp only [gA, gB, gC]; exact rfl); kernel_rfl; kernel_rfl; kernel_rfl; exact fun _ _ _ h => h; rfl; (intro w' hSw; (try dsimp only at hSw); go_simp; with_reducible rfl); simp only [Act.put, pB, pC, pD]
  refine tkH (by assumption) 5 (oi := ?_) (v := ?_) ?_ ?_ ?_ ?_ ?_ ?_ ?_ ?_; rotate_left 2; (simp only [gA, gB, gC]; exact rfl); kernel_rfl; kernel_rfl; kernel_rfl; exact fun _ _ _ h => h; rfl; (intro w' hSw; (try dsimp only at hSw); go_simp; with_reducible rfl); simp only [Act.put, pB, pC, pD]
  refine tkH (by assumption) 6 (oi := ?_) (v := ?_) ?_ ?_ ?_ ?_ ?_ ?_ ?_ ?_; rotate_left 2; (simp only [gA, gB, gC]; exact rfl); kernel_rfl; kernel_rfl; kernel_rfl; exact fun _ _ _ h => h; rfl; (intro w' hSw; (try dsimp only at hSw); go_simp; with_reducible rfl); simp only [Act.put, pB, pC, pD]
  refine tkH (by assumption) 7 (oi := ?_) (v := ?_) ?_ ?_ ?_ ?_ ?_ ?_ ?_ ?_; rotate_left 2; (simp only [gA, gB, gC]; exact rfl); kernel_rfl; kernel_rfl; kernel_rfl; exact fun _ _ _ h => h; rfl; (intro w' hSw; (try dsimp only at hSw); go_simp; with_reducible rfl); simp only [Act.put, pB, pC, pD]
  refine onH 8 (oi := ?_) (by kernel_rfl) ?_ ?_ (fun K hK => ?_); rotate_left; (simp only [gA, gB, gC]; exact rfl); rfl
  go_wp2_with (fail)
  have B3 := Lib.hid (show Below W.heap.size W (W.alloc (.cells #[.slice (some ⟨b, off, none⟩) j c, .slice (some ⟨w1.heap.size + 1, 0, none⟩) 2 2, .slice (some d3) (n - (j + 1)) (c - (j + 1))] 64)).drew from (by repeat (first | exact Below.refl _ _ | assumption | refine Below.drew ?_ | refine bdrewN ?_ _ | refine Below.setCell ?_ (by first | omega | (simp <;> omega)) _ | refine Below.alloc ?_ (by first | omega | (simp <;> omega)) _)))
  have H3 : (W.alloc (.cells #[.slice (some ⟨b, off, none⟩) j c, .slice (some ⟨w1.heap.size + 1, 0, none⟩) 2 2, .slice (some d3) (n - (j + 1)) (c - (j + 1))] 64)).drew.heap[W.heap.size]? = some (.cells #[.slice (some ⟨b, off, none⟩) j c, .slice (some ⟨w1.heap.size + 1, 0, none⟩) 2 2, .slice (some d3) (n - (j + 1)) (c - (j + 1))] 64 (0, 0)) := heap_alloc_new W _
  generalize (W.alloc (.cells #[.slice (some ⟨b, off, none⟩) j c, .slice (some ⟨w1.heap.size + 1, 0, none⟩) 2 2, .slice (some d3) (n - (j + 1)) (c - (j + 1))] 64)).drew = W2 at *
  have hDW := (HD.out.kept HB1.out hb).kept (HB2.out.trans (B3.out.mono HB2.out.size)) hb'
  have hbW : b < W2.heap.size := by have := HB2.out.size; have := B3.out.size; omega
  refine hK.out _ _ True.intro (fun hHeld2 => ?_)
  clear hK K hHeld
  try simp only [Act.put, pB, pC, pD, List.setIfInBounds_toArray, List.set_cons_zero, List.set_cons_succ]
  refine onH 9 (oi := ?_) (by kernel_rfl) ?_ ?_ (fun K hK => ?_); rotate_left; (simp only [gA, gB, gC]; exact rfl); rfl
  go_wp2_with (fail)
  have h2' := heap_keep B3.out H2.out
  refine (concatL W.heap.size ⟨b, off, none⟩ ⟨w1.heap.size + 1, 0, none⟩ d3 j 2 (n - (j + 1)) c 2 (c - (j + 1)) L M (prtL (L j) t) (fun _ => M j) (fun i => L (j + 1 + i)) (fun i => M (j + 1 + i)) W2 H3 (.inr ⟨b, off, rfl, hbW, hDW.less (by omega)⟩)
    (.inr ⟨_, 0, rfl, lt_of_heap h2', fun i hi => by
      have : i = 0 ∨ i = 1 := by omega
      rcases this with rfl | rfl
      · exact ⟨cell_of h2' (i := 0) rfl, cell_of h2' (i := 1) rfl⟩
      · exact ⟨cell_of h2' (i := 2) rfl, cell_of h2' (i := 3) rfl⟩⟩)
    (by
      rcases HD3.out with h | h
      · exact .inl (by omega)
      · rw [h]; exact LegsR.sub hbW hDW (j + 1) (n - (j + 1)) (by omega)) (by omega) (by omega) (by omega)).mono ?_
  rintro e W3 ⟨a3, c3, rfl, ho3, hb3⟩
  rw [show j + 2 + (n - (j + 1)) = n + 1 by omega] at ho3 ⊢
  have BW3 := Lib.hid ((HB1.out.trans (HB2.out.mono HB1.out.size)).trans ((B3.out.trans (hb3.mono B3.out.size)).mono (Nat.le_trans HB1.out.size HB2.out.size)))
  have HO3 := Lib.hid (own_base ho3 (show w.heap.size ≤ W2.heap.size from Nat.le_trans HB1.out.size (Nat.le_trans HB2.out.size B3.out.size)))
  have H13 := Lib.hid (heap_keep (B3.out.trans (hb3.mono B3.out.size)) H1.out)
  refine hK.out _ _ True.intro (fun hHeld3 => ?_)
  clear hK K hHeld2 hb3 ho3 hDW hbW h2' H3 H1 H2
  try simp only [Act.put, pB, pC, pD, List.setIfInBounds_toArray, List.set_cons_zero, List.set_cons_succ]
  refine tkH (by assumption) 10 (oi := ?_) (v := ?_) ?_ ?_ ?_ ?_ ?_ ?_ ?_ ?_; rotate_left 2; (simp only [gA, gB, gC]; exact rfl); kernel_rfl; kernel_rfl; kernel_rfl; exact fun _ _ _ h => h; rfl; (intro w' hSw; (try dsimp only at hSw); go_simp; with_reducible rfl); simp only [Act.put, pB, pC, pD]
  refine wpAnyH_done (by kernel_rfl) ?_ _
  go_wp2_with (fail)
  have c1 := cell_of H13.out (i := 1) rfl
  have hjm : j ≤ m := by omega
  have hjcc : j ≤ cc := by omega
  have hjm2 : (j : Int) ≤ (m : Int) := by omega
  have hjcc2 : (j : Int) ≤ (cc : Int) := by omega
  have HMN := Lib.hid hmn
  clear hjc hjc1 hj8 hjn1 hjn2 hjc2 hd3 hmn
  rcases hf with ⟨rfl, rfl, rfl⟩ | ⟨b2, off2, rfl⟩
  · obtain rfl : j = 0 := by omega
    refine wp_region_held_drew (S := (fun w' => w'.cell? ⟨w1.heap.size, 1, none⟩ = some (.int .i64 (M 0)))) (by kernel_rfl) c1 (fun hHeld => ?_)
    refine tkH (by assumption) 0 (oi := ?_) (v := ?_) ?_ ?_ ?_ ?_ ?_ ?_ ?_ ?_; rotate_left 2; (simp only [gA, gB, gC]; exact rfl); kernel_rfl; kernel_rfl; kernel_rfl; exact fun _ _ _ h => h; rfl; (intro w' hSw; (try dsimp only at hSw); go_simp; with_reducible rfl); simp only [Act.put, pB, pC, pD]
    refine tkH (by assumption) 1 (oi := ?_) (v := ?_) ?_ ?_ ?_ ?_ ?_ ?_ ?_ ?_; rotate_left 2; (simp only [gA, gB, gC]; exact rfl); kernel_rfl; kernel_rfl; kernel_rfl; exact fun _ _ _ h => h; rfl; (intro w' hSw; (try dsimp only at hSw); go_simp; with_reducible rfl); simp only [Act.put, pB, pC, pD]
    refine tkH (by assumption) 2 (oi := ?_) (v := ?_) ?_ ?_ ?_ ?_ ?_ ?_ ?_ ?_; rotate_left 2; (simp only [gA, gB, gC]; exact rfl); kernel_rfl; kernel_rfl; kernel_rfl; exact fun _ _ _ h => h; rfl; (intro w' hSw; (try dsimp only at hSw); go_simp; with_reducible rfl); simp only [Act.put, pB, pC, pD]
    refine tkH (by assumption) 3 (oi := ?_) (v := ?_) ?_ ?_ ?_ ?_ ?_ ?_ ?_ ?_; rotate_left 2; (simp only [gA, gB, gC]; exact rfl); kernel_rfl; kernel_rfl; kernel_rfl; exact fun _ _ _ h => h; rfl; (intro w' hSw; (try dsimp only at hSw); go_simp; with_reducible rfl); simp only [Act.put, pB, pC, pD]
    refine tkH (by assumption) 4 (oi := ?_) (v := ?_) ?_ ?_ ?_ ?_ ?_ ?_ ?_ ?_; rotate_left 2; (simp only [gA, gB, gC]; exact rfl); kernel_rfl; kernel_rfl; kernel_rfl; exact fun _ _ _ h => h; rfl; (intro w' hSw; (try dsimp only at hSw); go_simp; with_reducible rfl); simp only [Act.put, pB, pC, pD]
    refine tkH (by assumption) 5 (oi := ?_) (v := ?_) ?_ ?_ ?_ ?_ ?_ ?_ ?_ ?_; rotate_left 2; (simp only [gA, gB, gC]; exact rfl); kernel_rfl; kernel_rfl; kernel_rfl; exact fun _ _ _ h => h; rfl; (intro w' hSw; (try dsimp only at hSw); go_simp; with_reducible rfl); simp only [Act.put, pB, pC, pD]
    refine tkH (by assumption) 7 (oi := ?_) (v := ?_) ?_ ?_ ?_ ?_ ?_ ?_ ?_ ?_; rotate_left 2; (simp only [gA, gB, gC]; exact rfl); kernel_rfl; kernel_rfl; kernel_rfl; exact fun _ _ _ h => h; rfl; (intro w' hSw; (try dsimp only at hSw); go_simp; with_reducible rfl); simp only [Act.put, pB, pC, pD]
    refine tkH (by assumption) 8 (oi := ?_) (v := ?_) ?_ ?_ ?_ ?_ ?_ ?_ ?_ ?_; rotate_left 2; (simp only [gA, gB, gC]; exact rfl); kernel_rfl; kernel_rfl; kernel_rfl; exact fun _ _ _ h => h; rfl; (intro w' hSw; (try dsimp only at hSw); go_simp; with_reducible rfl); simp only [Act.put, pB, pC, pD]
    refine tkH (by assumption) 9 (oi := ?_) (v := ?_) ?_ ?_ ?_ ?_ ?_ ?_ ?_ ?_; rotate_left 2; (simp only [gA, gB, gC]; exact rfl); kernel_rfl; kernel_rfl; kernel_rfl; exact fun _ _ _ h => h; rfl; (intro w' hSw; (try dsimp only at hSw); go_simp; with_reducible rfl); simp only [Act.put, pB, pC, pD]
    refine onH 6 (oi := ?_) (by kernel_rfl) ?_ ?_ (fun K hK => ?_); rotate_left; (simp only [gA, gB, gC]; exact rfl); rfl
    go_wp2_with (fail)
    have B4 := Lib.hid (show Below W3.heap.size W3 (W3.alloc (.cells #[.int .i64 (M 0)] 3)).drew from (by repeat (first | exact Below.refl _ _ | assumption | refine Below.drew ?_ | refine bdrewN ?_ _ | refine Below.setCell ?_ (by first | omega | (simp <;> omega)) _ | refine Below.alloc ?_ (by first | omega | (simp <;> omega)) _)))
    have H4 : Hid ((W3.alloc (.cells #[.int .i64 (M 0)] 3)).drew.heap[W3.heap.size]? = some (.cells #[.int .i64 (M 0)] 3 (0, 0))) := Lib.hid (heap_alloc_new W3 _)
    generalize (W3.alloc (.cells #[.int .i64 (M 0)] 3)).drew = W4 at *
    refine hK.out _ _ (cellk B4.out (cell_lt c1) c1) (fun hHeldN => ?_)
    clear hK K hHeld
    have hHeld := hHeldN
    clear hHeldN
    try simp only [Act.put, pB, pC, pD, List.setIfInBounds_toArray, List.set_cons_zero, List.set_cons_succ]
    refine onH 10 (oi := ?_) (by kernel_rfl) ?_ ?_ (fun K hK => ?_); rotate_left; (simp only [gA, gB, gC]; exact rfl); rfl
    go_wp2_with (fail)
    have B5 := Lib.hid (show Below W4.heap.size W4 (W4.alloc (.cells #[.slice none 0 0, .slice (some ⟨W3.heap.size, 0, none⟩) 1 1, .slice none 0 0] 22)) from (by repeat (first | exact Below.refl _ _ | assumption | refine Below.drew ?_ | refine bdrewN ?_ _ | refine Below.setCell ?_ (by first | omega | (simp <;> omega)) _ | refine Below.alloc ?_ (by first | omega | (simp <;> omega)) _)))
    have H5 : (W4.alloc (.cells #[.slice none 0 0, .slice (some ⟨W3.heap.size, 0, none⟩) 1 1, .slice none 0 0] 22)).heap[W4.heap.size]? = some (.cells #[.slice none 0 0, .slice (some ⟨W3.heap.size, 0, none⟩) 1 1, .slice none 0 0] 22 (0, 0)) := heap_alloc_new W4 _
    generalize (W4.alloc (.cells #[.slice none 0 0, .slice (some ⟨W3.heap.size, 0, none⟩) 1 1, .slice none 0 0] 22)) = W5 at *
    have hB5 := B4.out.trans (B5.out.mono B4.out.size)
    have BW5 := Lib.hid (BW3.out.trans (hB5.mono BW3.out.size))
    refine hK.out _ _ (cellk hB5 (cell_lt c1) c1) (fun hHeldN => ?_)
    clear hK K hHeld
    have hHeld := hHeldN
    clear hHeldN
    try simp only [Act.put, pB, pC, pD, List.setIfInBounds_toArray, List.set_cons_zero, List.set_cons_succ]
    refine onH 11 (oi := ?_) (by kernel_rfl) ?_ ?_ (fun K hK => ?_); rotate_left; (simp only [gA, gB, gC]; exact rfl); rfl
    go_wp2_with (fail)
    have h4' := heap_keep B5.out H4.out
    have r2 : IntsR W5 (some ⟨W3.heap.size, 0, none⟩) 1 (fun _ => M 0) := .inr ⟨_, 0, rfl, lt_of_heap h4', fun i hi => by
      obtain rfl : i = 0 := by omega
      exact cell_of h4' (i := 0) rfl⟩
    refine (concatI1 W4.heap.size ⟨W3.heap.size, 0, none⟩ 1 1 (fun _ => M 0) W5 H5 r2 (by omega) (by omega)).mono ?_
    rintro e W6 ⟨a6, c6, rfl, ho6, hb6⟩
    have hvv : vs (fun _ => M 0) 1 = vs (splC 0 (M 0) C) 1 := by
      refine vs_ext (fun i hi => ?_)
      have h0i : i = 0 := by omega
      subst h0i
      simp [splC, ap]
    rw [hvv] at ho6
    have BW6 := Lib.hid (BW5.out.trans (hb6.mono BW5.out.size))
    have HO6 := Lib.hid (own_base ho6 BW5.out.size)
    have HO36 := Lib.hid (ownsRow_below HO3.out (hB5.trans (hb6.mono hB5.size)))
    refine hK.out _ _ (cellk (hB5.trans (hb6.mono hB5.size)) (cell_lt c1) c1) (fun hHeldN => ?_)
    clear hK K hHeld hb6 ho6 hB5
    try simp only [Act.put, pB, pC, pD, List.setIfInBounds_toArray, List.set_cons_zero, List.set_cons_succ]
    refine tkH (by assumption) 12 (oi := ?_) (v := ?_) ?_ ?_ ?_ ?_ ?_ ?_ ?_ ?_; rotate_left 2; (simp only [gA, gB, gC]; exact rfl); kernel_rfl; kernel_rfl; kernel_rfl; exact fun _ _ _ h => h; rfl; (intro w' hSw; (try dsimp only at hSw); go_simp; with_reducible rfl); simp only [Act.put, pB, pC, pD]
    refine tkH (by assumption) 13 (oi := ?_) (v := ?_) ?_ ?_ ?_ ?_ ?_ ?_ ?_ ?_; rotate_left 2; (simp only [gA, gB, gC]; exact rfl); kernel_rfl; kernel_rfl; kernel_rfl; exact fun _ _ _ h => h; rfl; (intro w' hSw; (try dsimp only at hSw); go_simp; with_reducible rfl); simp only [Act.put, pB, pC, pD]
    refine tkH (by assumption) 14 (oi := ?_) (v := ?_) ?_ ?_ ?_ ?_ ?_ ?_ ?_ ?_; rotate_left 2; (simp only [gA, gB, gC]; exact rfl); kernel_rfl; kernel_rfl; kernel_rfl; exact fun _ _ _ h => h; rfl; (intro w' hSw; (try dsimp only at hSw); go_simp; with_reducible rfl); simp only [Act.put, pB, pC, pD]
    refine wpAnyH_done (by kernel_rfl) ?_ _
    go_wp2_with (fail)
    exact bodyPost_ret (v := .tuple #[.slice a3 (n + 1) c3, .slice a6 1 c6, .int .i64 0]) (by simp [results, Try.results47, go_sem]) rfl ⟨fun _ => ⟨_, _, _, _, rfl, HO36.out, HO6.out⟩, fun h => absurd rfl h, BW6.out⟩
  · obtain ⟨d4, hd4, hd4'⟩ : ∃ d4, (if cc = j then (some ⟨b2, off2, none⟩ : Option Addr) else some ⟨b2, off2 + j, none⟩) = some d4 ∧ (m ≤ j ∨ d4 = ⟨b2, off2 + j, none⟩) := by
      split
      · exact ⟨_, rfl, .inl (by omega)⟩
      · exact ⟨_, rfl, .inr rfl⟩
    have HD4 := Lib.hid hd4'
    clear hd4'
    refine wp_region_held_drew (S := (fun w' => w'.cell? ⟨w1.heap.size, 1, none⟩ = some (.int .i64 (M j)))) (by kernel_rfl) c1 (fun hHeld => ?_)
    refine tkH (by assumption) 0 (oi := ?_) (v := ?_) ?_ ?_ ?_ ?_ ?_ ?_ ?_ ?_; rotate_left 2; (simp only [gA, gB, gC]; exact rfl); kernel_rfl; kernel_rfl; kernel_rfl; exact fun _ _ _ h => h; rfl; (intro w' hSw; (try dsimp only at hSw); go_simp; with_reducible rfl); simp only [Act.put, pB, pC, pD]
    refine tkH (by assumption) 1 (oi := ?_) (v := ?_) ?_ ?_ ?_ ?_ ?_ ?_ ?_ ?_; rotate_left 2; (simp only [gA, gB, gC]; exact rfl); kernel_rfl; kernel_rfl; kernel_rfl; exact fun _ _ _ h => h; rfl; (intro w' hSw; (try dsimp only at hSw); go_simp; with_reducible rfl); simp only [Act.put, pB, pC, pD]
    refine tkH (by assumption) 2 (oi := ?_) (v := ?_) ?_ ?_ ?_ ?_ ?_ ?_ ?_ ?_; rotate_left 2; (simp only [gA, gB, gC]; exact rfl); kernel_rfl; kernel_rfl; kernel_rfl; exact fun _ _ _ h => h; rfl; (intro w' hSw; (try dsimp only at hSw); go_simp; with_reducible rfl); simp only [Act.put, pB, pC, pD]
    refine tkH (by assumption) 3 (oi := ?_) (v := ?_) ?_ ?_ ?_ ?_ ?_ ?_ ?_ ?_; rotate_left 2; (simp only [gA, gB, gC]; exact rfl); kernel_rfl; kernel_rfl; kernel_rfl; exact fun _ _ _ h => h; rfl; (intro w' hSw; (try dsimp only at hSw); go_simp; with_reducible rfl); simp only [Act.put, pB, pC, pD]
    refine tkH (by assumption) 4 (oi := ?_) (v := ?_) ?_ ?_ ?_ ?_ ?_ ?_ ?_ ?_; rotate_left 2; (simp only [gA, gB, gC]; exact rfl); kernel_rfl; kernel_rfl; kernel_rfl; exact fun _ _ _ h => h; rfl; (intro w' hSw; (try dsimp only at hSw); go_simp; with_reducible rfl); simp only [Act.put, pB, pC, pD]
    refine tkH (by assumption) 5 (oi := ?_) (v := ?_) ?_ ?_ ?_ ?_ ?_ ?_ ?_ ?_; rotate_left 2; (simp only [gA, gB, gC]; exact rfl); kernel_rfl; kernel_rfl; kernel_rfl; exact fun _ _ _ h => h; rfl; (intro w' hSw; (try dsimp only at hSw); go_simp; with_reducible rfl); simp only [Act.put, pB, pC, pD]
    refine tkH (by assumption) 7 (oi := ?_) (v := ?_) ?_ ?_ ?_ ?_ ?_ ?_ ?_ ?_; rotate_left 2; (simp only [gA, gB, gC]; exact rfl); kernel_rfl; kernel_rfl; kernel_rfl; exact fun _ _ _ h => h; rfl; (intro w' hSw; (try dsimp only at hSw); go_simp; with_reducible rfl); simp only [Act.put, pB, pC, pD]
    refine tkH (by assumption) 8 (oi := ?_) (v := ?_) ?_ ?_ ?_ ?_ ?_ ?_ ?_ ?_; rotate_left 2; (simp only [gA, gB, gC]; exact rfl); kernel_rfl; kernel_rfl; kernel_rfl; exact fun _ _ _ h => h; rfl; (intro w' hSw; (try dsimp only at hSw); go_simp; with_reducible rfl); simp only [Act.put, pB, pC, pD]
    refine tkH (by assumption) 9 (oi := ?_) (v := ?_) ?_ ?_ ?_ ?_ ?_ ?_ ?_ ?_; rotate_left 2; (simp only [gA, gB, gC]; exact rfl); kernel_rfl; kernel_rfl; kernel_rfl; exact fun _ _ _ h => h; rfl; (intro w' hSw; (try dsimp only at hSw); go_simp; with_reducible rfl); simp only [Act.put, pB, pC, pD]
    refine onH 6 (oi := ?_) (by kernel_rfl) ?_ ?_ (fun K hK => ?_); rotate_left; (simp only [gA, gB, gC]; exact rfl); rfl
    go_wp2_with (fail)
    have B4 := Lib.hid (show Below W3.heap.size W3 (W3.alloc (.cells #[.int .i64 (M j)] 3)).drew from (by repeat (first | exact Below.refl _ _ | assumption | refine Below.drew ?_ | refine bdrewN ?_ _ | refine Below.setCell ?_ (by first | omega | (simp <;> omega)) _ | refine Below.alloc ?_ (by first | omega | (simp <;> omega)) _)))
    have H4 : Hid ((W3.alloc (.cells #[.int .i64 (M j)] 3)).drew.heap[W3.heap.size]? = some (.cells #[.int .i64 (M j)] 3 (0, 0))) := Lib.hid (heap_alloc_new W3 _)
    generalize (W3.alloc (.cells #[.int .i64 (M j)] 3)).drew = W4 at *
    refine hK.out _ _ (cellk B4.out (cell_lt c1) c1) (fun hHeldN => ?_)
    clear hK K hHeld
    have hHeld := hHeldN
    clear hHeldN
    try simp only [Act.put, pB, pC, pD, List.setIfInBounds_toArray, List.set_cons_zero, List.set_cons_succ]
    refine onH 10 (oi := ?_) (by kernel_rfl) ?_ ?_ (fun K hK => ?_); rotate_left; (simp only [gA, gB, gC]; exact rfl); rfl
    go_wp2_with (fail)
    have B5 := Lib.hid (show Below W4.heap.size W4 (W4.alloc (.cells #[.slice (some ⟨b2, off2, none⟩) j cc, .slice (some ⟨W3.heap.size, 0, none⟩) 1 1, .slice (some d4) (m - j) (cc - j)] 22)) from (by repeat (first | exact Below.refl _ _ | assumption | refine Below.drew ?_ | refine bdrewN ?_ _ | refine Below.setCell ?_ (by first | omega | (simp <;> omega)) _ | refine Below.alloc ?_ (by first | omega | (simp <;> omega)) _)))
    have H5 : (W4.alloc (.cells #[.slice (some ⟨b2, off2, none⟩) j cc, .slice (some ⟨W3.heap.size, 0, none⟩) 1 1, .slice (some d4) (m - j) (cc - j)] 22)).heap[W4.heap.size]? = some (.cells #[.slice (some ⟨b2, off2, none⟩) j cc, .slice (some ⟨W3.heap.size, 0, none⟩) 1 1, .slice (some d4) (m - j) (cc - j)] 22 (0, 0)) := heap_alloc_new W4 _
    generalize (W4.alloc (.cells #[.slice (some ⟨b2, off2, none⟩) j cc, .slice (some ⟨W3.heap.size, 0, none⟩) 1 1, .slice (some d4) (m - j) (cc - j)] 22)) = W5 at *
    have hB5 := B4.out.trans (B5.out.mono B4.out.size)
    have BW5 := Lib.hid (BW3.out.trans (hB5.mono BW3.out.size))
    refine hK.out _ _ (cellk hB5 (cell_lt c1) c1) (fun hHeldN => ?_)
    clear hK K hHeld
    have hHeld := hHeldN
    clear hHeldN
    try simp only [Act.put, pB, pC, pD, List.setIfInBounds_toArray, List.set_cons_zero, List.set_cons_succ]
    refine onH 11 (oi := ?_) (by kernel_rfl) ?_ ?_ (fun K hK => ?_); rotate_left; (simp only [gA, gB, gC]; exact rfl); rfl
    go_wp2_with (fail)
    have h4' := heap_keep B5.out H4.out
    have r2 : IntsR W5 (some ⟨W3.heap.size, 0, none⟩) 1 (fun _ => M j) := .inr ⟨_, 0, rfl, lt_of_heap h4', fun i hi => by
      obtain rfl : i = 0 := by omega
      exact cell_of h4' (i := 0) rfl⟩
    have hIC := HC.out.kept BW5.out
    refine (concatI W4.heap.size ⟨b2, off2, none⟩ ⟨W3.heap.size, 0, none⟩ d4 j 1 (m - j) cc 1 (cc - j) C (fun _ => M j) (fun i => C (j + i)) W5 H5 (by
      rcases hIC with h | ⟨b', o', he, h1, h2⟩
      · exact .inl (by omega)
      · cases he
        exact .inr ⟨_, _, rfl, h1, fun i hi => h2 i (by omega)⟩) r2 (by
      rcases hIC with h | ⟨b', o', he, h1, h2⟩
      · exact .inl (by omega)
      · cases he
        rcases HD4.out with h | h
        · exact .inl (by omega)
        · rw [h]
          exact .inr ⟨_, _, rfl, h1, fun i hi => by
            have := h2 (j + i) (by omega)
            rwa [← Nat.add_assoc] at this⟩) (by omega) (by omega) (by omega)).mono ?_
    clear hIC
    rintro e W6 ⟨a6, c6, rfl, ho6, hb6⟩
    rw [show j + 1 + (m - j) = m + 1 by omega] at ho6 ⊢
    have BW6 := Lib.hid (BW5.out.trans (hb6.mono BW5.out.size))
    have HO6 := Lib.hid (own_base ho6 BW5.out.size)
    have HO36 := Lib.hid (ownsRow_below HO3.out (hB5.trans (hb6.mono hB5.size)))
    refine hK.out _ _ (cellk (hB5.trans (hb6.mono hB5.size)) (cell_lt c1) c1) (fun hHeldN => ?_)
    clear hK K hHeld hb6 ho6 hB5
    try simp only [Act.put, pB, pC, pD, List.setIfInBounds_toArray, List.set_cons_zero, List.set_cons_succ]
    refine tkH (by assumption) 12 (oi := ?_) (v := ?_) ?_ ?_ ?_ ?_ ?_ ?_ ?_ ?_; rotate_left 2; (simp only [gA, gB, gC]; exact rfl); kernel_rfl; kernel_rfl; kernel_rfl; exact fun _ _ _ h => h; rfl; (intro w' hSw; (try dsimp only at hSw); go_simp; with_reducible rfl); simp only [Act.put, pB, pC, pD]
    refine tkH (by assumption) 13 (oi := ?_) (v := ?_) ?_ ?_ ?_ ?_ ?_ ?_ ?_ ?_; rotate_left 2; (simp only [gA, gB, gC]; exact rfl); kernel_rfl; kernel_rfl; kernel_rfl; exact fun _ _ _ h => h; rfl; (intro w' hSw; (try dsimp only at hSw); go_simp; with_reducible rfl); simp only [Act.put, pB, pC, pD]
    refine tkH (by assumption) 14 (oi := ?_) (v := ?_) ?_ ?_ ?_ ?_ ?_ ?_ ?_ ?_; rotate_left 2; (simp only [gA, gB, gC]; exact rfl); kernel_rfl; kernel_rfl; kernel_rfl; exact fun _ _ _ h => h; rfl; (intro w' hSw; (try dsimp only at hSw); go_simp; with_reducible rfl); simp only [Act.put, pB, pC, pD]
    refine wpAnyH_done (by kernel_rfl) ?_ _
    go_wp2_with (fail)
    exact bodyPost_ret (v := .tuple #[.slice a3 (n + 1) c3, .slice a6 (m + 1) c6, .int .i64 0]) (by simp [results, Try.results47, go_sem]) rfl ⟨fun _ => ⟨_, _, _, _, rfl, HO36.out, HO6.out⟩, fun h => absurd rfl h, BW6.out⟩
end Go.Proofs.Ytdanlnmdkneepaa

/- The corners of a path by the reference. -/
import Derived.Test.YtdanlnmdkneepaaUr
import Derived.BigQuiet
set_option linter.unusedSimpArgs false
set_option linter.unusedVariables false
namespace Go.Proofs.Ytdanlnmdkneepaa
open Go.RowKit
theorem max_abs (p : Int) : max p (-p) = absZ p := by unfold absZ; split <;> omega
set_option maxRecDepth 100000 in
set_option maxHeartbeats 8000000 in
theorem cornersOf_any (p : Pth) (m : Int) (w : World) (hf : pF p = 0) (hm : 1 ≤ m ∧ m ≤ 100000) (hp : PtsR w p.a p.n p.X p.Y) :
    Calls Try.prog 51 #[.agg #[.slice p.a p.n p.c, .bool p.k], .int .i64 m] w fun e w' =>
      ((mvP p).length ≠ 0 → ∃ ao co, e = .returned (.tuple #[.slice ao ((mvP p).length - 1) co, .int .i64 0]) ∧ w'.ownsRow w.heap.size 3 1 (.slice ao ((mvP p).length - 1) co) ((mvP p).length - 1) (vs (cnF (mvP p) m) ((mvP p).length - 1))) ∧
      ((mvP p).length = 0 → e = .returned (.tuple #[.slice none 0 0, .int .i64 8])) ∧ Below w.heap.size w w' := by
  obtain ⟨i0, hi0, hz0, hz1, hz2⟩ := info_parts info_intV
  have HP := Lib.hid hp
  have HM := Lib.hid hm
  clear hp hm
  go_enter Try.func51, Try.ntmps51
  go_wp2_with (fail)
  have hb0 : Below w.heap.size w (w.alloc (.cells #[.slice p.a p.n p.c, .bool p.k] 62)) := (by repeat (first | exact Below.refl _ _ | assumption | refine Below.drew ?_ | refine bdrewN ?_ _ | refine Below.setCell ?_ (by first | omega | (simp <;> omega)) _ | refine Below.alloc ?_ (by first | omega | (simp <;> omega)) _))
  have B0 := Lib.hid hb0
  replace HP := Lib.hid (HP.out.kept hb0)
  clear hb0
  generalize (w.alloc (.cells #[.slice p.a p.n p.c, .bool p.k] 62)) = w0 at *
  refine (vectors_any p w0 hf HP.out).mono ?_
  rintro e w1 ⟨ai, ci, rfl, hown, hb1⟩
  have B1 := Lib.hid (B0.out.trans (hb1.mono B0.out.size))
  have HI := Lib.hid (pts_of_IV2 hown)
  obtain ⟨hk5, hbd⟩ := mvP_bnd hf
  have HBD := Lib.hid hbd
  clear hb1 HP B0 hown hbd
  obtain ⟨l, hl⟩ : ∃ l, mvP p = l := ⟨_, rfl⟩
  rw [hl] at HI HBD hk5
  rw [hl]
  have HLL := Lib.hid hl
  clear hl
  obtain ⟨K, hK⟩ : ∃ K, l.length = K := ⟨_, rfl⟩
  rw [hK] at HI HBD hk5
  rw [hK]
  have HKK := Lib.hid hK
  clear hK
  by_cases h0 : K = 0
  · subst h0
    go_wp2_with (fail)
    exact bodyPost_ret (v := .tuple #[.slice none 0 0, .int .i64 8]) (by simp [results, Try.results51, go_sem]) rfl ⟨fun h => absurd (by rw [HLL.out, HKK.out]) h, fun _ => rfl, B1.out⟩
  · have h0' : ((K : Int) == 0) = false := by simp; omega
    have h0'' : ¬ (K : Int) = 0 := by omega
    go_wp2_with (fail)
    go_loopw [7, 8] (fun sv iv wr => ∃ (t : Nat) (ao : Option Addr) (co : Nat), t + 1 ≤ K ∧ iv = .int .i64 ((t : Int) + 1) ∧ sv = .slice ao t co ∧ wr.ownsRow w1.heap.size 3 1 (.slice ao t co) t (vs (cnF l m) t) ∧ Below w1.heap.size w1 wr) (fun _ iv _ => K - (intOf iv).toNat)
    case atStart => exact ⟨0, none, 0, by omega, rfl, rfl, World.ownsRow_nil _ _ _ _, Below.refl _ _⟩
    case round =>
      obtain ⟨t, ao, co, ht, rfl, rfl, hown, hbel⟩ := hrel
      have HO := Lib.hid hown
      have HB := Lib.hid hbel
      have hsz := hbel.size
      clear hown hbel
      by_cases hlt : t + 1 < K
      · rcases HI.out with h | ⟨b, off, he, hb, hd⟩
        · omega
        cases he
        obtain ⟨c0, c1⟩ := hd t (by omega)
        obtain ⟨d0, d1⟩ := hd (t + 1) (by omega)
        replace c0 := cellk HB.out hb c0
        replace c1 := cellk HB.out hb c1
        replace d0 := cellk HB.out hb d0
        replace d1 := cellk HB.out hb d1
        have hbw : b < wr.heap.size := by omega
        have HX0 := Lib.hid (HBD.out t (by omega))
        have HX1 := Lib.hid (HBD.out (t + 1) (by omega))
        have HCN := Lib.hid (show cnF l m t = passZ (pX l t) (pY l t) (pX l (t + 1)) (pY l (t + 1)) m from rfl)
        change wr.cell? ⟨b, off + t * 2, none⟩ = some (.int .i64 (pX l t)) at c0
        change wr.cell? ⟨b, off + t * 2 + 1, none⟩ = some (.int .i64 (pY l t)) at c1
        change wr.cell? ⟨b, off + (t + 1) * 2, none⟩ = some (.int .i64 (pX l (t + 1))) at d0
        change wr.cell? ⟨b, off + (t + 1) * 2 + 1, none⟩ = some (.int .i64 (pY l (t + 1))) at d1
        generalize pX l t = a at *
        generalize pY l t = b' at *
        generalize pX l (t + 1) = c at *
        generalize pY l (t + 1) = d at *
        have l1 : (t : Int) + 1 < (K : Int) := by omega
        have l2 : (t : Int) < (K : Int) := by omega
        have l3 : (0 : Int) ≤ (t : Int) + 1 := by omega
        have l4 : (0 : Int) ≤ (t : Int) := by omega
        have w9 : IntKind.i64.wrap ((t : Int) + 1 + 1) = (t : Int) + 1 + 1 := i64w (by omega)
        have w8 : IntKind.i64.wrap ((t : Int) + 1 - 1) = (t : Int) := by rw [show (t : Int) + 1 - 1 = t by omega]; exact i64w (by omega)
        have w7 : IntKind.i64.wrap (t : Int) = (t : Int) := i64w (by omega)
        have hbn : b < w1.heap.size := hb
        clear hd
        go_wp2_with (fail)
        refine wp_region_held_drew (S := (fun w' => (w'.cell? ⟨b, off + t * 2, none⟩ = some (.int .i64 a) ∧ w'.cell? ⟨b, off + t * 2 + 1, none⟩ = some (.int .i64 b')) ∧ w'.cell? ⟨b, off + (t + 1) * 2, none⟩ = some (.int .i64 c) ∧ w'.cell? ⟨b, off + (t + 1) * 2 + 1, none⟩ = some (.int .i64 d))) (by kernel_rfl) ⟨⟨c0, c1⟩, d0, d1⟩ (fun hHeld => ?_)
        refine tkH (by assumption) 0 (oi := ?_) (v := ?_) ?_ ?_ ?_ ?_ ?_ ?_ ?_ ?_; rotate_left 2; (simp only [gA, gB, gC]; exact rfl); kernel_rfl; kernel_rfl; kernel_rfl; exact fun _ _ _ h => h; rfl; (intro w' hSw; (obtain ⟨⟨j0, j1⟩, j2, j3⟩ := hSw);go_simp; with_reducible rfl); simp only [Act.put, pB, pC, pD]
        refine tkH (by assumption) 1 (oi := ?_) (v := ?_) ?_ ?_ ?_ ?_ ?_ ?_ ?_ ?_; rotate_left 2; (simp only [gA, gB, gC]; exact rfl); kernel_rfl; kernel_rfl; kernel_rfl; exact fun _ _ _ h => h; rfl; (intro w' hSw; (obtain ⟨⟨j0, j1⟩, j2, j3⟩ := hSw);go_simp; with_reducible rfl); simp only [Act.put, pB, pC, pD]
        refine tkH (by assumption) 2 (oi := ?_) (v := ?_) ?_ ?_ ?_ ?_ ?_ ?_ ?_ ?_; rotate_left 2; (simp only [gA, gB, gC]; exact rfl); kernel_rfl; kernel_rfl; kernel_rfl; exact fun _ _ _ h => h; rfl; (intro w' hSw; (obtain ⟨⟨j0, j1⟩, j2, j3⟩ := hSw);go_simp; with_reducible rfl); simp only [Act.put, pB, pC, pD]
        refine tkH (by assumption) 3 (oi := ?_) (v := ?_) ?_ ?_ ?_ ?_ ?_ ?_ ?_ ?_; rotate_left 2; (simp only [gA, gB, gC]; exact rfl); kernel_rfl; kernel_rfl; kernel_rfl; exact fun _ _ _ h => h; rfl; (intro w' hSw; (obtain ⟨⟨j0, j1⟩, j2, j3⟩ := hSw);go_simp; with_reducible rfl); simp only [Act.put, pB, pC, pD]
        refine tkH (by assumption) 4 (oi := ?_) (v := ?_) ?_ ?_ ?_ ?_ ?_ ?_ ?_ ?_; rotate_left 2; (simp only [gA, gB, gC]; exact rfl); kernel_rfl; kernel_rfl; kernel_rfl; exact fun _ _ _ h => h; rfl; (intro w' hSw; (obtain ⟨⟨j0, j1⟩, j2, j3⟩ := hSw);go_simp; with_reducible rfl); simp only [Act.put, pB, pC, pD]
        refine tkH (by assumption) 5 (oi := ?_) (v := ?_) ?_ ?_ ?_ ?_ ?_ ?_ ?_ ?_; rotate_left 2; (simp only [gA, gB, gC]; exact rfl); kernel_rfl; kernel_rfl; kernel_rfl; exact fun _ _ _ h => h; rfl; (intro w' hSw; (obtain ⟨⟨j0, j1⟩, j2, j3⟩ := hSw);go_simp; with_reducible rfl); simp only [Act.put, pB, pC, pD]
        refine tkH (by assumption) 6 (oi := ?_) (v := ?_) ?_ ?_ ?_ ?_ ?_ ?_ ?_ ?_; rotate_left 2; (simp only [gA, gB, gC]; exact rfl); kernel_rfl; kernel_rfl; kernel_rfl; exact fun _ _ _ h => h; rfl; (intro w' hSw; (obtain ⟨⟨j0, j1⟩, j2, j3⟩ := hSw);go_simp; with_reducible rfl); simp only [Act.put, pB, pC, pD]
        refine tkH (by assumption) 7 (oi := ?_) (v := ?_) ?_ ?_ ?_ ?_ ?_ ?_ ?_ ?_; rotate_left 2; (simp only [gA, gB, gC]; exact rfl); kernel_rfl; kernel_rfl; kernel_rfl; exact fun _ _ _ h => h; rfl; (intro w' hSw; (obtain ⟨⟨j0, j1⟩, j2, j3⟩ := hSw);go_simp; with_reducible rfl); simp only [Act.put, pB, pC, pD]
        refine tkH (by assumption) 8 (oi := ?_) (v := ?_) ?_ ?_ ?_ ?_ ?_ ?_ ?_ ?_; rotate_left 2; (simp only [gA, gB, gC]; exact rfl); kernel_rfl; kernel_rfl; kernel_rfl; exact fun _ _ _ h => h; rfl; (intro w' hSw; (obtain ⟨⟨j0, j1⟩, j2, j3⟩ := hSw);go_simp; with_reducible rfl); simp only [Act.put, pB, pC, pD]
        refine absH (fun G A hG hA => ?_)
        suffices h_9_10 : ∀ (g9 : Nat) (g10 : Nat) (W : World), Hid (Below wr.heap.size wr W) → Hid (W.heap[g9]? = some (.cells #[.int .i64 0, .int .i64 0] 102 (0, 0))) → Hid (W.heap[g10]? = some (.cells #[.int .i64 0, .int .i64 0] 102 (0, 0))) → wr.heap.size ≤ g9 ∧ g9 < W.heap.size → wr.heap.size ≤ g10 ∧ g10 < W.heap.size → g9 ≠ g10 → G 2 #[true, true, true, true, true, true, true, true, true, true, true, false, false] ((A.put (some 9) (.pointer (some ⟨g9, 0, none⟩))).put (some 10) (.pointer (some ⟨g10, 0, none⟩))) W by
          have h_9 : ∀ (g9 : Nat) (W : World), Hid (Below wr.heap.size wr W) → Hid (W.heap[g9]? = some (.cells #[.int .i64 0, .int .i64 0] 102 (0, 0))) → wr.heap.size ≤ g9 ∧ g9 < W.heap.size → G 3 #[true, true, true, true, true, true, true, true, true, true, false, false, false] (A.put (some 9) (.pointer (some ⟨g9, 0, none⟩))) W := by
            intro g9 W HB0 HG9 hl9
            subst hA
            rw [hG]
            simp only [Act.put, pB, pC, pD]
            have hWW := HB0.out.size
            refine wpAnyH_ready (rs := [10]) (by kernel_rfl) (by simp) ?_
            refine coH 10 (oi := ?_) ?_ ?_ (fun K hK => ?_) ?_; rotate_left; (simp only [gA, gB, gC]; exact rfl); rfl
            · go_wp2_with (fail)
              have hb : Below W.heap.size W (W.alloc (.cells #[.int .i64 0, .int .i64 0] 102)) := (Below.refl _ _).alloc (Nat.le_refl _) _
              have hgs : (W.alloc (.cells #[.int .i64 0, .int .i64 0] 102)).heap.size = W.heap.size + 1 := by simp
              have K_HG10 := Lib.hid (heap_alloc_new W (.cells #[.int .i64 0, .int .i64 0] 102))
              refine hK.out _ _ ⟨⟨cellk (HB0.out.trans (hb.mono HB0.out.size)) hbw c0, cellk (HB0.out.trans (hb.mono HB0.out.size)) hbw c1⟩, cellk (HB0.out.trans (hb.mono HB0.out.size)) hbw d0, cellk (HB0.out.trans (hb.mono HB0.out.size)) hbw d1⟩ (fun hHeldN => ?_)
              clear hK K
              try simp only [Act.put, pB, pC, pD]
              refine listedEq (l' := #[true, true, true, true, true, true, true, true, true, true, true, false, false]) (by kernel_rfl) ?_
              have h := h_9_10 g9 W.heap.size (W.alloc (.cells #[.int .i64 0, .int .i64 0] 102)) (Lib.hid (HB0.out.trans (hb.mono HB0.out.size))) (Lib.hid (heap_keep hb HG9.out)) K_HG10 ⟨hl9.1, by have := hl9.2; omega⟩ ⟨hWW, by omega⟩ (by have := hl9.2; omega)
              rw [hG] at h
              simp only [Act.put, pB, pC, pD] at h
              exact h
            exact AllReadyH.nil
          have h_10 : ∀ (g10 : Nat) (W : World), Hid (Below wr.heap.size wr W) → Hid (W.heap[g10]? = some (.cells #[.int .i64 0, .int .i64 0] 102 (0, 0))) → wr.heap.size ≤ g10 ∧ g10 < W.heap.size → G 3 #[true, true, true, true, true, true, true, true, true, false, true, false, false] (A.put (some 10) (.pointer (some ⟨g10, 0, none⟩))) W := by
            intro g10 W HB0 HG10 hl10
            subst hA
            rw [hG]
            simp only [Act.put, pB, pC, pD]
            have hWW := HB0.out.size
            refine wpAnyH_ready (rs := [9]) (by kernel_rfl) (by simp) ?_
            refine coH 9 (oi := ?_) ?_ ?_ (fun K hK => ?_) ?_; rotate_left; (simp only [gA, gB, gC]; exact rfl); rfl
            · go_wp2_with (fail)
              have hb : Below W.heap.size W (W.alloc (.cells #[.int .i64 0, .int .i64 0] 102)) := (Below.refl _ _).alloc (Nat.le_refl _) _
              have hgs : (W.alloc (.cells #[.int .i64 0, .int .i64 0] 102)).heap.size = W.heap.size + 1 := by simp
              have K_HG9 := Lib.hid (heap_alloc_new W (.cells #[.int .i64 0, .int .i64 0] 102))
              refine hK.out _ _ ⟨⟨cellk (HB0.out.trans (hb.mono HB0.out.size)) hbw c0, cellk (HB0.out.trans (hb.mono HB0.out.size)) hbw c1⟩, cellk (HB0.out.trans (hb.mono HB0.out.size)) hbw d0, cellk (HB0.out.trans (hb.mono HB0.out.size)) hbw d1⟩ (fun hHeldN => ?_)
              clear hK K
              try simp only [Act.put, pB, pC, pD]
              refine listedEq (l' := #[true, true, true, true, true, true, true, true, true, true, true, false, false]) (by kernel_rfl) ?_
              have h := h_9_10 W.heap.size g10 (W.alloc (.cells #[.int .i64 0, .int .i64 0] 102)) (Lib.hid (HB0.out.trans (hb.mono HB0.out.size))) K_HG9 (Lib.hid (heap_keep hb HG10.out)) ⟨hWW, by omega⟩ ⟨hl10.1, by have := hl10.2; omega⟩ (by have := hl10.2; omega)
              rw [hG] at h
              simp only [Act.put, pB, pC, pD] at h
              exact h
            exact AllReadyH.nil
          have h_0 : ∀  (W : World), Hid (Below wr.heap.size wr W) → G 4 #[true, true, true, true, true, true, true, true, true, false, false, false, false] A W := by
            intro W HB0
            subst hA
            rw [hG]
            have hWW := HB0.out.size
            refine wpAnyH_ready (rs := [9, 10]) (by kernel_rfl) (by simp) ?_
            refine coH 9 (oi := ?_) ?_ ?_ (fun K hK => ?_) ?_; rotate_left; (simp only [gA, gB, gC]; exact rfl); rfl
            · go_wp2_with (fail)
              have hb : Below W.heap.size W (W.alloc (.cells #[.int .i64 0, .int .i64 0] 102)) := (Below.refl _ _).alloc (Nat.le_refl _) _
              have hgs : (W.alloc (.cells #[.int .i64 0, .int .i64 0] 102)).heap.size = W.heap.size + 1 := by simp
              have K_HG9 := Lib.hid (heap_alloc_new W (.cells #[.int .i64 0, .int .i64 0] 102))
              refine hK.out _ _ ⟨⟨cellk (HB0.out.trans (hb.mono HB0.out.size)) hbw c0, cellk (HB0.out.trans (hb.mono HB0.out.size)) hbw c1⟩, cellk (HB0.out.trans (hb.mono HB0.out.size)) hbw d0, cellk (HB0.out.trans (hb.mono HB0.out.size)) hbw d1⟩ (fun hHeldN => ?_)
              clear hK K
              try simp only [Act.put, pB, pC, pD]
              refine listedEq (l' := #[true, true, true, true, true, true, true, true, true, true, false, false, false]) (by kernel_rfl) ?_
              have h := h_9 W.heap.size (W.alloc (.cells #[.int .i64 0, .int .i64 0] 102)) (Lib.hid (HB0.out.trans (hb.mono HB0.out.size))) K_HG9 ⟨hWW, by omega⟩
              rw [hG] at h
              simp only [Act.put, pB, pC, pD] at h
              exact h
            refine coH 10 (oi := ?_) ?_ ?_ (fun K hK => ?_) ?_; rotate_left; (simp only [gA, gB, gC]; exact rfl); rfl
            · go_wp2_with (fail)
              have hb : Below W.heap.size W (W.alloc (.cells #[.int .i64 0, .int .i64 0] 102)) := (Below.refl _ _).alloc (Nat.le_refl _) _
              have hgs : (W.alloc (.cells #[.int .i64 0, .int .i64 0] 102)).heap.size = W.heap.size + 1 := by simp
              have K_HG10 := Lib.hid (heap_alloc_new W (.cells #[.int .i64 0, .int .i64 0] 102))
              refine hK.out _ _ ⟨⟨cellk (HB0.out.trans (hb.mono HB0.out.size)) hbw c0, cellk (HB0.out.trans (hb.mono HB0.out.size)) hbw c1⟩, cellk (HB0.out.trans (hb.mono HB0.out.size)) hbw d0, cellk (HB0.out.trans (hb.mono HB0.out.size)) hbw d1⟩ (fun hHeldN => ?_)
              clear hK K
              try simp only [Act.put, pB, pC, pD]
              refine listedEq (l' := #[true, true, true, true, true, true, true, true, true, false, true, false, false]) (by kernel_rfl) ?_
              have h := h_10 W.heap.size (W.alloc (.cells #[.int .i64 0, .int .i64 0] 102)) (Lib.hid (HB0.out.trans (hb.mono HB0.out.size))) K_HG10 ⟨hWW, by omega⟩
              rw [hG] at h
              simp only [Act.put, pB, pC, pD] at h
              exact h
            exact AllReadyH.nil
          exact h_0 wr.drew (Lib.hid (Below.next_drew (Below.refl _ wr)))
        intro g9 g10 W HB0 HG9 HG10 hl9 hl10 ne9_10
        subst hA
        rw [hG]
        simp only [Act.put, pB, pC, pD]
        have hHeld := (show (W.cell? ⟨b, off + t * 2, none⟩ = some (.int .i64 a) ∧ W.cell? ⟨b, off + t * 2 + 1, none⟩ = some (.int .i64 b')) ∧ W.cell? ⟨b, off + (t + 1) * 2, none⟩ = some (.int .i64 c) ∧ W.cell? ⟨b, off + (t + 1) * 2 + 1, none⟩ = some (.int .i64 d) from ⟨⟨cellk HB0.out hbw c0, cellk HB0.out hbw c1⟩, cellk HB0.out hbw d0, cellk HB0.out hbw d1⟩)
        have HO1 := Lib.hid (ownsRow_below HO.out HB0.out)
        have HB1 := Lib.hid (HB.out.trans (HB0.out.mono hsz))
        have HNQ := Lib.hid (show ∀ x, (Value.slice ao t co).ownBlock = some x → x ≠ g9 ∧ x ≠ g10 from fun x hx => by have := (HO.out.lt x hx).2; omega)
        have lg9 : w1.heap.size ≤ g9 := by omega
        have lg10 : w1.heap.size ≤ g10 := by omega
        clear c0 c1 d0 d1 HO HB
        refine onH 11 (oi := ?_) (by kernel_rfl) ?_ ?_ (fun K hK => ?_); rotate_left; (simp only [gA, gB, gC]; exact rfl); rfl
        have f0 := cell_of HG9.out (i := 0) rfl
        have f1 := cell_of HG9.out (i := 1) rfl
        have z0 := frozen_of HG9.out (i := 0)
        have z1 := frozen_of HG9.out (i := 1)
        go_wp2_with (fail)
        have hs9 := Lib.hid (set2V_1 (u := .int .i64 b') (set2V_0 (u := .int .i64 a) HG9.out))
        have hg10 := Lib.hid ((Below.heap_setCell (W.setCell ⟨g9, 0, none⟩ (.int .i64 a)) ⟨g9, 1, none⟩ (.int .i64 b') g10 (fun e => ne9_10 e.symm)).trans ((Below.heap_setCell W ⟨g9, 0, none⟩ (.int .i64 a) g10 (fun e => ne9_10 e.symm)).trans HG10.out))
        have HB2 := Lib.hid ((Below.setCell (p := ⟨g9, 0, none⟩) HB1.out lg9 (.int .i64 a)).setCell (p := ⟨g9, 1, none⟩) lg9 (.int .i64 b'))
        have HO2 := Lib.hid (own_mutU (own_mutU HO1.out (b := g9) 0 (.int .i64 a) (fun e => (HNQ.out g9 e).1 rfl)) (b := g9) 1 (.int .i64 b') (fun e => (HNQ.out g9 e).1 rfl))
        have hne1 : ¬ g9 = b := by omega
        refine hK.out _ _ ⟨⟨(sc_other (ne_block hne1)).trans ((sc_other (ne_block hne1)).trans hHeld.1.1), (sc_other (ne_block hne1)).trans ((sc_other (ne_block hne1)).trans hHeld.1.2)⟩, (sc_other (ne_block hne1)).trans ((sc_other (ne_block hne1)).trans hHeld.2.1), (sc_other (ne_block hne1)).trans ((sc_other (ne_block hne1)).trans hHeld.2.2)⟩ (fun hHeldN => ?_)
        clear hK K hHeld
        have hHeld := hHeldN
        clear hHeldN
        try simp only [Act.put, pB, pC, pD]
        clear f0 f1 z0 z1 HG9 HG10 HO1 HB1
        generalize ((W.setCell ⟨g9, 0, none⟩ (.int .i64 a)).setCell ⟨g9, 1, none⟩ (.int .i64 b')) = W1 at *
        refine onH 12 (oi := ?_) (by kernel_rfl) ?_ ?_ (fun K hK => ?_); rotate_left; (simp only [gA, gB, gC]; exact rfl); rfl
        have f0 := cell_of hg10.out (i := 0) rfl
        have f1 := cell_of hg10.out (i := 1) rfl
        have z0 := frozen_of hg10.out (i := 0)
        have z1 := frozen_of hg10.out (i := 1)
        go_wp2_with (fail)
        have hs10 := Lib.hid (set2V_1 (u := .int .i64 d) (set2V_0 (u := .int .i64 c) hg10.out))
        have hsn9 := Lib.hid ((Below.heap_setCell (W1.setCell ⟨g10, 0, none⟩ (.int .i64 c)) ⟨g10, 1, none⟩ (.int .i64 d) g9 ne9_10).trans ((Below.heap_setCell W1 ⟨g10, 0, none⟩ (.int .i64 c) g9 ne9_10).trans hs9.out))
        have HB3 := Lib.hid ((Below.setCell (p := ⟨g10, 0, none⟩) HB2.out lg10 (.int .i64 c)).setCell (p := ⟨g10, 1, none⟩) lg10 (.int .i64 d))
        have HO3 := Lib.hid (own_mutU (own_mutU HO2.out (b := g10) 0 (.int .i64 c) (fun e => (HNQ.out g10 e).2 rfl)) (b := g10) 1 (.int .i64 d) (fun e => (HNQ.out g10 e).2 rfl))
        have hne2 : ¬ g10 = b := by omega
        refine hK.out _ _ ⟨⟨(sc_other (ne_block hne2)).trans ((sc_other (ne_block hne2)).trans hHeld.1.1), (sc_other (ne_block hne2)).trans ((sc_other (ne_block hne2)).trans hHeld.1.2)⟩, (sc_other (ne_block hne2)).trans ((sc_other (ne_block hne2)).trans hHeld.2.1), (sc_other (ne_block hne2)).trans ((sc_other (ne_block hne2)).trans hHeld.2.2)⟩ (fun hHeldN => ?_)
        clear hK K hHeld
        have hHeld := hHeldN
        clear hHeldN
        try simp only [Act.put, pB, pC, pD]
        clear f0 f1 z0 z1 hg10 hs9 HO2 HB2 hHeld
        generalize ((W1.setCell ⟨g10, 0, none⟩ (.int .i64 c)).setCell ⟨g10, 1, none⟩ (.int .i64 d)) = W2 at *
        have a0 := cell_of hsn9.out (i := 0) rfl
        have a1 := cell_of hsn9.out (i := 1) rfl
        have b0 := cell_of hs10.out (i := 0) rfl
        have b1 := cell_of hs10.out (i := 1) rfl
        have hs4 : w1.heap.size ≤ W2.heap.size := HB3.out.size
        clear HB0 hsn9 hs10
        refine wpAnyH_done (by kernel_rfl) ?_ _
        have ha := HX0.out.1.1
        have hbb := HX0.out.1.2
        have hcc := HX1.out.1.1
        have hdd := HX1.out.1.2
        have h1 := bnd_pr ha hdd
        have h2 := bnd_pr hbb hcc
        have h3 := bnd_pr ha hcc
        have h4 := bnd_pr hbb hdd
        have e1 : IntKind.i64.wrap (a * d) = a * d := i64w (by omega)
        have e2 : IntKind.i64.wrap (b' * c) = b' * c := i64w (by omega)
        have e3 : IntKind.i64.wrap (a * c) = a * c := i64w (by omega)
        have e4 : IntKind.i64.wrap (b' * d) = b' * d := i64w (by omega)
        have RR := HCN.out.trans (passZ_ref (m := m) HX0.out.2 HX1.out.2).symm
        unfold crZ dtZ at RR
        obtain ⟨u, hu⟩ : ∃ u, a * d - b' * c = u := ⟨_, rfl⟩
        obtain ⟨v, hv⟩ : ∃ v, a * c + b' * d = v := ⟨_, rfl⟩
        have e5 : IntKind.i64.wrap (a * d - b' * c) = u := (i64w (by omega)).trans hu
        have e6 : IntKind.i64.wrap (a * c + b' * d) = v := (i64w (by omega)).trans hv
        have hub : -1000000000000000000 ≤ u ∧ u ≤ 1000000000000000000 := by omega
        have HUB := Lib.hid hub
        rw [hu, hv, max_abs] at RR
        have R := Lib.hid RR
        have e8 : IntKind.i64.wrap (m.tdiv 2) = m / 2 := by rw [Int.tdiv_eq_ediv_of_nonneg (by have := HM.out; omega)]; exact i64w (by have := HM.out; omega)
        have e9 : IntKind.i64.wrap (m.tdiv 4) = m / 4 := by rw [Int.tdiv_eq_ediv_of_nonneg (by have := HM.out; omega)]; exact i64w (by have := HM.out; omega)
        clear ha hbb hcc hdd h1 h2 h3 h4 hu hv hub RR
        go_wp2_with (fail)
        go_quiet (fail)
        have HB9 := Lib.hid (Below.next_drewN nq HB3.out)
        have HO9 := Lib.hid (show (W2.drewN nq).ownsRow w1.heap.size 3 1 (.slice ao t co) t (vs (cnF l m) t) from HO3.out)
        have hs9 : w1.heap.size ≤ (W2.drewN nq).heap.size := hs4
        clear a0 a1 b0 b1 HO3 HB3 hs4
        generalize W2.drewN nq = W9 at *
        by_cases q0 : v ≤ 0
        · have R2 := Lib.hid (show cnF l m t = 0 by rw [R.out, if_pos q0])
          go_wp2_with (at_builtin; refine wpList_append_lies _ rfl _ _ 22 rfl w1.heap.size 3 i0 (.int .i64 0) 1 8 Try.underlying22 hi0 hz0 hz1 hz2 rfl (by decide) _ _ _ rfl (ownsRow_below HO9.out ((Below.refl _ W9).alloc (Nat.le_refl _) _)) ⟨W9.heap.size, 0, none⟩ 1 1 [.int .i64 0] rfl rfl (World.news_of_block (cs := #[.int .i64 0]) (t := 3) (fr := (0, 0)) (heap_alloc_new W9 (.cells #[.int .i64 0] 3))) (by simp [Value.oneCell']) (by omega) (by unfold maxLen; omega) (by omega) (by simp; omega) (W9.heap.size + 1) (by simp) ?_; intro g5 c5 w5 hown5 hgrow5 _ hlt5; have HO5 := Lib.hid hown5; have HB5 := Lib.hid (Below.grown (B := w1.heap.size) (Below.alloc (B := w1.heap.size) (Below.refl _ W9) (by omega) (.cells #[.int .i64 0] 3)) hgrow5 (by simp; omega) (fun b hb => ((HO9.out).lt b hb).1)); clear hown5 hgrow5)
          have HO6 := Lib.hid (show w5.ownsRow w1.heap.size 3 1 (.slice (some ⟨g5, 0, none⟩) (t + 1) c5) (t + 1) (vs (cnF l m) (t + 1)) by rw [vs_succ, R2.out]; exact HO5.out)
          have HB6 := Lib.hid (HB9.out.trans HB5.out)
          clear HO5 HB5
          go_wp2_with (fail)
          go_roundw
          case rel => exact ⟨t + 1, _, c5, by omega, by first | go_num | (simp; done), rfl, HO6.out, HB6.out⟩
          case measure => simp [intOf] <;> omega
        · have q0' : ¬ v ≤ 0 := q0
          by_cases p0 : u = 0
          · have R2 := Lib.hid (show cnF l m t = m by rw [R.out, if_neg q0, if_pos p0])
            subst p0
            go_wp2_with (at_builtin; refine wpList_append_lies _ rfl _ _ 22 rfl w1.heap.size 3 i0 (.int .i64 0) 1 8 Try.underlying22 hi0 hz0 hz1 hz2 rfl (by decide) _ _ _ rfl (ownsRow_below HO9.out ((Below.refl _ W9).alloc (Nat.le_refl _) _)) ⟨W9.heap.size, 0, none⟩ 1 1 [.int .i64 m] rfl rfl (World.news_of_block (cs := #[.int .i64 m]) (t := 3) (fr := (0, 0)) (heap_alloc_new W9 (.cells #[.int .i64 m] 3))) (by simp [Value.oneCell']) (by omega) (by unfold maxLen; omega) (by omega) (by simp; omega) (W9.heap.size + 1) (by simp) ?_; intro g5 c5 w5 hown5 hgrow5 _ hlt5; have HO5 := Lib.hid hown5; have HB5 := Lib.hid (Below.grown (B := w1.heap.size) (Below.alloc (B := w1.heap.size) (Below.refl _ W9) (by omega) (.cells #[.int .i64 m] 3)) hgrow5 (by simp; omega) (fun b hb => ((HO9.out).lt b hb).1)); clear hown5 hgrow5)
            have HO6 := Lib.hid (show w5.ownsRow w1.heap.size 3 1 (.slice (some ⟨g5, 0, none⟩) (t + 1) c5) (t + 1) (vs (cnF l m) (t + 1)) by rw [vs_succ, R2.out]; exact HO5.out)
            have HB6 := Lib.hid (HB9.out.trans HB5.out)
            clear HO5 HB5
            go_wp2_with (fail)
            go_roundw
            case rel => exact ⟨t + 1, _, c5, by omega, by first | go_num | (simp; done), rfl, HO6.out, HB6.out⟩
            case measure => simp [intOf] <;> omega
          · have p0' : (u == 0) = false := by simpa using p0
            by_cases q1 : absZ u ≤ v
            · have R2 := Lib.hid (show cnF l m t = m / 2 by rw [R.out, if_neg q0, if_neg p0, if_pos q1])
              go_wp2_with (fail)
              refine (abs_any u _ HUB.out).mono ?_
              rintro e w' ⟨rfl, rfl⟩
              go_wp2_with (at_builtin; refine wpList_append_lies _ rfl _ _ 22 rfl w1.heap.size 3 i0 (.int .i64 0) 1 8 Try.underlying22 hi0 hz0 hz1 hz2 rfl (by decide) _ _ _ rfl (ownsRow_below HO9.out ((Below.refl _ W9).alloc (Nat.le_refl _) _)) ⟨W9.heap.size, 0, none⟩ 1 1 [.int .i64 (m / 2)] rfl rfl (World.news_of_block (cs := #[.int .i64 (m / 2)]) (t := 3) (fr := (0, 0)) (heap_alloc_new W9 (.cells #[.int .i64 (m / 2)] 3))) (by simp [Value.oneCell']) (by omega) (by unfold maxLen; omega) (by omega) (by simp; omega) (W9.heap.size + 1) (by simp) ?_; intro g5 c5 w5 hown5 hgrow5 _ hlt5; have HO5 := Lib.hid hown5; have HB5 := Lib.hid (Below.grown (B := w1.heap.size) (Below.alloc (B := w1.heap.size) (Below.refl _ W9) (by omega) (.cells #[.int .i64 (m / 2)] 3)) hgrow5 (by simp; omega) (fun b hb => ((HO9.out).lt b hb).1)); clear hown5 hgrow5)
              have HO6 := Lib.hid (show w5.ownsRow w1.heap.size 3 1 (.slice (some ⟨g5, 0, none⟩) (t + 1) c5) (t + 1) (vs (cnF l m) (t + 1)) by rw [vs_succ, R2.out]; exact HO5.out)
              have HB6 := Lib.hid (HB9.out.trans HB5.out)
              clear HO5 HB5
              go_wp2_with (fail)
              go_roundw
              case rel => exact ⟨t + 1, _, c5, by omega, by first | go_num | (simp; done), rfl, HO6.out, HB6.out⟩
              case measure => simp [intOf] <;> omega
            · have R2 := Lib.hid (show cnF l m t = m / 4 by rw [R.out, if_neg q0, if_neg p0, if_neg q1])
              go_wp2_with (fail)
              refine (abs_any u _ HUB.out).mono ?_
              rintro e w' ⟨rfl, rfl⟩
              go_wp2_with (at_builtin; refine wpList_append_lies _ rfl _ _ 22 rfl w1.heap.size 3 i0 (.int .i64 0) 1 8 Try.underlying22 hi0 hz0 hz1 hz2 rfl (by decide) _ _ _ rfl (ownsRow_below HO9.out ((Below.refl _ W9).alloc (Nat.le_refl _) _)) ⟨W9.heap.size, 0, none⟩ 1 1 [.int .i64 (m / 4)] rfl rfl (World.news_of_block (cs := #[.int .i64 (m / 4)]) (t := 3) (fr := (0, 0)) (heap_alloc_new W9 (.cells #[.int .i64 (m / 4)] 3))) (by simp [Value.oneCell']) (by omega) (by unfold maxLen; omega) (by omega) (by simp; omega) (W9.heap.size + 1) (by simp) ?_; intro g5 c5 w5 hown5 hgrow5 _ hlt5; have HO5 := Lib.hid hown5; have HB5 := Lib.hid (Below.grown (B := w1.heap.size) (Below.alloc (B := w1.heap.size) (Below.refl _ W9) (by omega) (.cells #[.int .i64 (m / 4)] 3)) hgrow5 (by simp; omega) (fun b hb => ((HO9.out).lt b hb).1)); clear hown5 hgrow5)
              have HO6 := Lib.hid (show w5.ownsRow w1.heap.size 3 1 (.slice (some ⟨g5, 0, none⟩) (t + 1) c5) (t + 1) (vs (cnF l m) (t + 1)) by rw [vs_succ, R2.out]; exact HO5.out)
              have HB6 := Lib.hid (HB9.out.trans HB5.out)
              clear HO5 HB5
              go_wp2_with (fail)
              go_roundw
              case rel => exact ⟨t + 1, _, c5, by omega, by first | go_num | (simp; done), rfl, HO6.out, HB6.out⟩
              case measure => simp [intOf] <;> omega
      · have l1 : ¬ (t : Int) + 1 < (K : Int) := by omega
        have HT := Lib.hid (show K - 1 = t by omega)
        go_wp2_with (fail)
        exact bodyPost_ret (v := .tuple #[.slice ao t co, .int .i64 0]) (by simp [results, Try.results51, go_sem]) rfl ⟨fun _ => ⟨ao, co, by rw [HLL.out, HKK.out, HT.out], by rw [HLL.out, HKK.out, HT.out]; exact own_lowU HO.out B1.out.size⟩, fun h => absurd (by rw [HLL.out] at h; first | (rw [HKK.out] at h; exact h) | (have h2 := HKK.out; rw [h] at h2; exact h2.symm)) h0, B1.out.trans (HB.out.mono B1.out.size)⟩
end Go.Proofs.Ytdanlnmdkneepaa

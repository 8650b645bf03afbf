/- The moves of a path by the reference. -/
import Derived.Test.YtdanlnmdkneepaaUo
set_option linter.unusedSimpArgs false
set_option linter.unusedVariables false
namespace Go.Proofs.Ytdanlnmdkneepaa
open Go.RowKit
set_option maxRecDepth 100000 in
set_option maxHeartbeats 8000000 in
theorem vectors_any (p : Pth) (w : World) (hf : pF p = 0) (hp : PtsR w p.a p.n p.X p.Y) :
    Calls Try.prog 93 #[.agg #[.slice p.a p.n p.c, .bool p.k]] w fun e w' => ∃ ao co, e = .returned (.slice ao (mvP p).length co) ∧ w'.ownsRow w.heap.size 102 2 (.slice ao (mvP p).length co) (mvP p).length (IV2 (mvP p)) ∧ Below w.heap.size w w' := by
  obtain ⟨i0, hi0, hz0, hz1, hz2⟩ := info_parts info_point
  obtain ⟨hn1, hn2, hbd⟩ := qX_bnd hf
  have HXY := Lib.hid hbd
  obtain ⟨b0, off0, hpa, hb0, hd0⟩ : ∃ b off, p.a = some ⟨b, off, none⟩ ∧ b < w.heap.size ∧ Du w b off p.n p.X p.Y := by
    rcases hp with h | h
    · omega
    · exact h
  have HD := Lib.hid hd0
  rw [hpa]
  clear hbd hp hd0 hpa
  have HMP := Lib.hid (show mvP p = mvL (qX p p.X) (qX p p.Y) (prN p - 1) from rfl)
  have hN : 1 ≤ prN p ∧ prN p ≤ 501 := by unfold prN; split <;> omega
  have n0 : (0 : Int) < (p.n : Int) := by omega
  rcases hk : p.k with _ | _
  · have HK0 := Lib.hid hk
    have HNN := Lib.hid (show prN p = p.n by unfold prN; rw [hk]; rfl)
    clear hk
    go_enter Try.func93, Try.ntmps93
    go_wp2_with (fail)
    have hb1 : Below w.heap.size w (w.alloc (.cells #[.slice (some ⟨b0, off0, none⟩) p.n p.c, .bool false] 62)) := (by repeat (first | exact Below.refl _ _ | assumption | refine Below.drew ?_ | refine bdrewN ?_ _ | refine Below.setCell ?_ (by first | omega | (simp <;> omega)) _ | refine Below.alloc ?_ (by first | omega | (simp <;> omega)) _))
    have H1 := Lib.hid (heap_alloc_new w (.cells #[.slice (some ⟨b0, off0, none⟩) p.n p.c, .bool false] 62))
    replace HD := Lib.hid (HD.out.kept hb1 hb0)
    have hb2 := Nat.lt_of_lt_of_le hb0 hb1.size
    have B0 := Lib.hid hb1
    clear hb1
    generalize (w.alloc (.cells #[.slice (some ⟨b0, off0, none⟩) p.n p.c, .bool false] 62)) = w0 at *
    refine (cloneP b0 off0 p.n p.c p.X p.Y w0 hb2 HD.out (by omega) (by omega)).mono ?_
    rintro e w1 ⟨ai, ci, rfl, hown, hbx⟩
    have c1 := cell_of (heap_keep hbx H1.out) (i := 1) rfl
    have B1 := Lib.hid (B0.out.trans (hbx.mono B0.out.size))
    have HI : Hid (PtsR w1 ai (prN p) (qX p p.X) (qX p p.Y)) := Lib.hid (by
      rw [HNN.out]
      rcases own_pts hown with h | ⟨b, off, he, hb, hd⟩
      · exact .inl h
      · exact .inr ⟨b, off, he, hb, fun i hi => by rw [qX_lt hi, qX_lt hi]; exact hd i hi⟩)
    clear hown hbx H1 B0
    rw [← HNN.out]
    generalize qX p p.X = X at *
    generalize qX p p.Y = Y at *
    generalize prN p = N at *
    go_wp2_with (fail)
    go_loopw [4, 5] (fun sv iv wr => ∃ (t k : Nat) (ao : Option Addr) (co : Nat), t + 1 ≤ N ∧ iv = .int .i64 ((t : Int) + 1) ∧ k = (mvL X Y t).length ∧ sv = .slice ao k co ∧ wr.ownsRow w1.heap.size 102 2 (.slice ao k co) k (IV2 (mvL X Y t)) ∧ Below w1.heap.size w1 wr) (fun _ iv _ => N - (intOf iv).toNat)
    case atStart => exact ⟨0, 0, none, 0, by omega, rfl, rfl, rfl, World.ownsRow_nil _ _ _ _, Below.refl _ _⟩
    case round =>
      obtain ⟨t, k, ao, co, ht, rfl, hk, rfl, hown, hbel⟩ := hrel
      have HO := Lib.hid hown
      have HB := Lib.hid hbel
      have HK := Lib.hid hk
      have hkl := mvL_len X Y t
      rw [← hk] at hkl
      have hsz := hbel.size
      clear hown hbel hk
      by_cases hlt : t + 1 < N
      · have l1 : (t : Int) + 1 < (N : Int) := by omega
        have l2 : (t : Int) < (N : Int) := by omega
        have l3 : (0 : Int) ≤ (t : Int) + 1 := by omega
        have l4 : (0 : Int) ≤ (t : Int) := by omega
        have w9 : IntKind.i64.wrap ((t : Int) + 1 + 1) = (t : Int) + 1 + 1 := i64w (by omega)
        have w8 : IntKind.i64.wrap ((t : Int) + 1 - 1) = (t : Int) := by rw [show (t : Int) + 1 - 1 = t by omega]; exact i64w (by omega)
        have w7 : IntKind.i64.wrap (t : Int) = (t : Int) := i64w (by omega)
        rcases HI.out with h | ⟨b, off, he, hb, hd⟩
        · omega
        cases he
        obtain ⟨c0, c1⟩ := hd t (by omega)
        obtain ⟨d0, d1⟩ := hd (t + 1) (by omega)
        replace c0 := cellk HB.out hb c0
        replace c1 := cellk HB.out hb c1
        replace d0 := cellk HB.out hb d0
        replace d1 := cellk HB.out hb d1
        have hbw : b < wr.heap.size := by omega
        have hx0 := (HXY.out t (by omega))
        have hx1 := (HXY.out (t + 1) (by omega))
        have HMV := Lib.hid (show mvL X Y (t + 1) = if X (t + 1) - X t = 0 ∧ Y (t + 1) - Y t = 0 then mvL X Y t else mvL X Y t ++ [(X (t + 1) - X t, Y (t + 1) - Y t)] from rfl)
        obtain ⟨dx, hdx⟩ : ∃ dx, X (t + 1) - X t = dx := ⟨_, rfl⟩
        obtain ⟨dy, hdy⟩ : ∃ dy, Y (t + 1) - Y t = dy := ⟨_, rfl⟩
        rw [hdx, hdy] at HMV
        have e1 : IntKind.i64.wrap (X (t + 1) - X t) = dx := (i64w (by omega)).trans hdx
        have e2 : IntKind.i64.wrap (Y (t + 1) - Y t) = dy := (i64w (by omega)).trans hdy
        clear hd hx0 hx1 hdx hdy
        go_wp2_with (fail)
        refine wp_region_held_drew (S := (fun w' => (w'.cell? ⟨b, off + t * 2, none⟩ = some (.int .i64 (X t)) ∧ w'.cell? ⟨b, off + t * 2 + 1, none⟩ = some (.int .i64 (Y t))) ∧ w'.cell? ⟨b, off + (t + 1) * 2, none⟩ = some (.int .i64 (X (t + 1))) ∧ w'.cell? ⟨b, off + (t + 1) * 2 + 1, none⟩ = some (.int .i64 (Y (t + 1))))) (by kernel_rfl) ⟨⟨c0, c1⟩, d0, d1⟩ (fun hHeld => ?_)
        refine tkH (by assumption) 0 (oi := ?_) (v := ?_) ?_ ?_ ?_ ?_ ?_ ?_ ?_ ?_; rotate_left 2; (simp only [gA, gB, gC]; exact rfl); kernel_rfl; kernel_rfl; kernel_rfl; exact fun _ _ _ h => h; rfl; (intro w' hSw; (obtain ⟨⟨j0, j1⟩, j2, j3⟩ := hSw);go_simp; with_reducible rfl); simp only [Act.put, pB, pC, pD]
        refine tkH (by assumption) 1 (oi := ?_) (v := ?_) ?_ ?_ ?_ ?_ ?_ ?_ ?_ ?_; rotate_left 2; (simp only [gA, gB, gC]; exact rfl); kernel_rfl; kernel_rfl; kernel_rfl; exact fun _ _ _ h => h; rfl; (intro w' hSw; (obtain ⟨⟨j0, j1⟩, j2, j3⟩ := hSw);go_simp; with_reducible rfl); simp only [Act.put, pB, pC, pD]
        refine tkH (by assumption) 2 (oi := ?_) (v := ?_) ?_ ?_ ?_ ?_ ?_ ?_ ?_ ?_; rotate_left 2; (simp only [gA, gB, gC]; exact rfl); kernel_rfl; kernel_rfl; kernel_rfl; exact fun _ _ _ h => h; rfl; (intro w' hSw; (obtain ⟨⟨j0, j1⟩, j2, j3⟩ := hSw);go_simp; with_reducible rfl); simp only [Act.put, pB, pC, pD]
        refine tkH (by assumption) 3 (oi := ?_) (v := ?_) ?_ ?_ ?_ ?_ ?_ ?_ ?_ ?_; rotate_left 2; (simp only [gA, gB, gC]; exact rfl); kernel_rfl; kernel_rfl; kernel_rfl; exact fun _ _ _ h => h; rfl; (intro w' hSw; (obtain ⟨⟨j0, j1⟩, j2, j3⟩ := hSw);go_simp; with_reducible rfl); simp only [Act.put, pB, pC, pD]
        refine tkH (by assumption) 4 (oi := ?_) (v := ?_) ?_ ?_ ?_ ?_ ?_ ?_ ?_ ?_; rotate_left 2; (simp only [gA, gB, gC]; exact rfl); kernel_rfl; kernel_rfl; kernel_rfl; exact fun _ _ _ h => h; rfl; (intro w' hSw; (obtain ⟨⟨j0, j1⟩, j2, j3⟩ := hSw);go_simp; with_reducible rfl); simp only [Act.put, pB, pC, pD]
        refine tkH (by assumption) 5 (oi := ?_) (v := ?_) ?_ ?_ ?_ ?_ ?_ ?_ ?_ ?_; rotate_left 2; (simp only [gA, gB, gC]; exact rfl); kernel_rfl; kernel_rfl; kernel_rfl; exact fun _ _ _ h => h; rfl; (intro w' hSw; (obtain ⟨⟨j0, j1⟩, j2, j3⟩ := hSw);go_simp; with_reducible rfl); simp only [Act.put, pB, pC, pD]
        refine tkH (by assumption) 6 (oi := ?_) (v := ?_) ?_ ?_ ?_ ?_ ?_ ?_ ?_ ?_; rotate_left 2; (simp only [gA, gB, gC]; exact rfl); kernel_rfl; kernel_rfl; kernel_rfl; exact fun _ _ _ h => h; rfl; (intro w' hSw; (obtain ⟨⟨j0, j1⟩, j2, j3⟩ := hSw);go_simp; with_reducible rfl); simp only [Act.put, pB, pC, pD]
        refine tkH (by assumption) 7 (oi := ?_) (v := ?_) ?_ ?_ ?_ ?_ ?_ ?_ ?_ ?_; rotate_left 2; (simp only [gA, gB, gC]; exact rfl); kernel_rfl; kernel_rfl; kernel_rfl; exact fun _ _ _ h => h; rfl; (intro w' hSw; (obtain ⟨⟨j0, j1⟩, j2, j3⟩ := hSw);go_simp; with_reducible rfl); simp only [Act.put, pB, pC, pD]
        refine tkH (by assumption) 8 (oi := ?_) (v := ?_) ?_ ?_ ?_ ?_ ?_ ?_ ?_ ?_; rotate_left 2; (simp only [gA, gB, gC]; exact rfl); kernel_rfl; kernel_rfl; kernel_rfl; exact fun _ _ _ h => h; rfl; (intro w' hSw; (obtain ⟨⟨j0, j1⟩, j2, j3⟩ := hSw);go_simp; with_reducible rfl); simp only [Act.put, pB, pC, pD]
        refine tkH (by assumption) 9 (oi := ?_) (v := ?_) ?_ ?_ ?_ ?_ ?_ ?_ ?_ ?_; rotate_left 2; (simp only [gA, gB, gC]; exact rfl); kernel_rfl; kernel_rfl; kernel_rfl; exact fun _ _ _ h => h; rfl; (intro w' hSw; (obtain ⟨⟨j0, j1⟩, j2, j3⟩ := hSw);go_simp; with_reducible rfl); simp only [Act.put, pB, pC, pD]
        refine tkH (by assumption) 10 (oi := ?_) (v := ?_) ?_ ?_ ?_ ?_ ?_ ?_ ?_ ?_; rotate_left 2; (simp only [gA, gB, gC]; exact rfl); kernel_rfl; kernel_rfl; kernel_rfl; exact fun _ _ _ h => h; rfl; (intro w' hSw; (obtain ⟨⟨j0, j1⟩, j2, j3⟩ := hSw);go_simp; with_reducible rfl); simp only [Act.put, pB, pC, pD]
        refine tkH (by assumption) 11 (oi := ?_) (v := ?_) ?_ ?_ ?_ ?_ ?_ ?_ ?_ ?_; rotate_left 2; (simp only [gA, gB, gC]; exact rfl); kernel_rfl; kernel_rfl; kernel_rfl; exact fun _ _ _ h => h; rfl; (intro w' hSw; (obtain ⟨⟨j0, j1⟩, j2, j3⟩ := hSw);go_simp; with_reducible rfl); simp only [Act.put, pB, pC, pD]
        refine tkH (by assumption) 12 (oi := ?_) (v := ?_) ?_ ?_ ?_ ?_ ?_ ?_ ?_ ?_; rotate_left 2; (simp only [gA, gB, gC]; exact rfl); kernel_rfl; kernel_rfl; kernel_rfl; exact fun _ _ _ h => h; rfl; (intro w' hSw; (obtain ⟨⟨j0, j1⟩, j2, j3⟩ := hSw);go_simp; with_reducible rfl); simp only [Act.put, pB, pC, pD]
        refine tkH (by assumption) 13 (oi := ?_) (v := ?_) ?_ ?_ ?_ ?_ ?_ ?_ ?_ ?_; rotate_left 2; (simp only [gA, gB, gC]; exact rfl); kernel_rfl; kernel_rfl; kernel_rfl; exact fun _ _ _ h => h; rfl; (intro w' hSw; (obtain ⟨⟨j0, j1⟩, j2, j3⟩ := hSw);go_simp; with_reducible rfl); simp only [Act.put, pB, pC, pD]
        refine tkH (by assumption) 14 (oi := ?_) (v := ?_) ?_ ?_ ?_ ?_ ?_ ?_ ?_ ?_; rotate_left 2; (simp only [gA, gB, gC]; exact rfl); kernel_rfl; kernel_rfl; kernel_rfl; exact fun _ _ _ h => h; rfl; (intro w' hSw; (obtain ⟨⟨j0, j1⟩, j2, j3⟩ := hSw);go_simp; with_reducible rfl); simp only [Act.put, pB, pC, pD]
        refine tkH (by assumption) 15 (oi := ?_) (v := ?_) ?_ ?_ ?_ ?_ ?_ ?_ ?_ ?_; rotate_left 2; (simp only [gA, gB, gC]; exact rfl); kernel_rfl; kernel_rfl; kernel_rfl; exact fun _ _ _ h => h; rfl; (intro w' hSw; (obtain ⟨⟨j0, j1⟩, j2, j3⟩ := hSw);go_simp; with_reducible rfl); simp only [Act.put, pB, pC, pD]
        refine tkH (by assumption) 16 (oi := ?_) (v := ?_) ?_ ?_ ?_ ?_ ?_ ?_ ?_ ?_; rotate_left 2; (simp only [gA, gB, gC]; exact rfl); kernel_rfl; kernel_rfl; kernel_rfl; exact fun _ _ _ h => h; rfl; (intro w' hSw; (obtain ⟨⟨j0, j1⟩, j2, j3⟩ := hSw);go_simp; with_reducible rfl); simp only [Act.put, pB, pC, pD]
        refine tkH (by assumption) 17 (oi := ?_) (v := ?_) ?_ ?_ ?_ ?_ ?_ ?_ ?_ ?_; rotate_left 2; (simp only [gA, gB, gC]; exact rfl); kernel_rfl; kernel_rfl; kernel_rfl; exact fun _ _ _ h => h; rfl; (intro w' hSw; (obtain ⟨⟨j0, j1⟩, j2, j3⟩ := hSw);go_simp; with_reducible rfl); simp only [Act.put, pB, pC, pD]
        refine tkH (by assumption) 18 (oi := ?_) (v := ?_) ?_ ?_ ?_ ?_ ?_ ?_ ?_ ?_; rotate_left 2; (simp only [gA, gB, gC]; exact rfl); kernel_rfl; kernel_rfl; kernel_rfl; exact fun _ _ _ h => h; rfl; (intro w' hSw; (obtain ⟨⟨j0, j1⟩, j2, j3⟩ := hSw);go_simp; with_reducible rfl); simp only [Act.put, pB, pC, pD]
        refine tkH (by assumption) 19 (oi := ?_) (v := ?_) ?_ ?_ ?_ ?_ ?_ ?_ ?_ ?_; rotate_left 2; (simp only [gA, gB, gC]; exact rfl); kernel_rfl; kernel_rfl; kernel_rfl; exact fun _ _ _ h => h; rfl; (intro w' hSw; (obtain ⟨⟨j0, j1⟩, j2, j3⟩ := hSw);go_simp; with_reducible rfl); simp only [Act.put, pB, pC, pD]
        refine tkH (by assumption) 20 (oi := ?_) (v := ?_) ?_ ?_ ?_ ?_ ?_ ?_ ?_ ?_; rotate_left 2; (simp only [gA, gB, gC]; exact rfl); kernel_rfl; kernel_rfl; kernel_rfl; exact fun _ _ _ h => h; rfl; (intro w' hSw; (obtain ⟨⟨j0, j1⟩, j2, j3⟩ := hSw);go_simp; with_reducible rfl); simp only [Act.put, pB, pC, pD]
        refine tkH (by assumption) 21 (oi := ?_) (v := ?_) ?_ ?_ ?_ ?_ ?_ ?_ ?_ ?_; rotate_left 2; (simp only [gA, gB, gC]; exact rfl); kernel_rfl; kernel_rfl; kernel_rfl; exact fun _ _ _ h => h; rfl; (intro w' hSw; (obtain ⟨⟨j0, j1⟩, j2, j3⟩ := hSw);go_simp; with_reducible rfl); simp only [Act.put, pB, pC, pD]
        refine tkH (by assumption) 22 (oi := ?_) (v := ?_) ?_ ?_ ?_ ?_ ?_ ?_ ?_ ?_; rotate_left 2; (simp only [gA, gB, gC]; exact rfl); kernel_rfl; kernel_rfl; kernel_rfl; exact fun _ _ _ h => h; rfl; (intro w' hSw; (obtain ⟨⟨j0, j1⟩, j2, j3⟩ := hSw);go_simp; with_reducible rfl); simp only [Act.put, pB, pC, pD]
        refine tkH (by assumption) 23 (oi := ?_) (v := ?_) ?_ ?_ ?_ ?_ ?_ ?_ ?_ ?_; rotate_left 2; (simp only [gA, gB, gC]; exact rfl); kernel_rfl; kernel_rfl; kernel_rfl; exact fun _ _ _ h => h; rfl; (intro w' hSw; (obtain ⟨⟨j0, j1⟩, j2, j3⟩ := hSw);go_simp; with_reducible rfl); simp only [Act.put, pB, pC, pD]
        refine tkH (by assumption) 24 (oi := ?_) (v := ?_) ?_ ?_ ?_ ?_ ?_ ?_ ?_ ?_; rotate_left 2; (simp only [gA, gB, gC]; exact rfl); kernel_rfl; kernel_rfl; kernel_rfl; exact fun _ _ _ h => h; rfl; (intro w' hSw; (obtain ⟨⟨j0, j1⟩, j2, j3⟩ := hSw);go_simp; with_reducible rfl); simp only [Act.put, pB, pC, pD]
        refine onH 25 (oi := ?_) (by kernel_rfl) ?_ ?_ (fun K hK => ?_); rotate_left; (simp only [gA, gB, gC]; exact rfl); rfl
        go_wp2_with (fail)
        have hb1 : Below wr.heap.size wr ((wr.alloc (.cells #[.int .i64 0, .int .i64 0] 102)).drew) := Below.next_drew ((Below.refl _ wr).alloc (Nat.le_refl _) _)
        have H10 := Lib.hid (show ((wr.alloc (.cells #[.int .i64 0, .int .i64 0] 102)).drew).heap[wr.heap.size]? = some (Obj.cells #[.int .i64 0, .int .i64 0] 102 (0, 0)) from heap_alloc_new wr _)
        have HO1 := Lib.hid (ownsRow_below HO.out hb1)
        have HNQ := Lib.hid (show ∀ x, (Value.slice ao k co).ownBlock = some x → x ≠ wr.heap.size from fun x hx => by have := (HO.out.lt x hx).2; omega)
        have HB1 := Lib.hid (HB.out.trans (hb1.mono hsz))
        refine hK.out _ _ ⟨⟨cellk hb1 hbw c0, cellk hb1 hbw c1⟩, cellk hb1 hbw d0, cellk hb1 hbw d1⟩ (fun hHeldN => ?_)
        clear hK K hHeld
        have hHeld := hHeldN
        clear hHeldN
        try simp only [Act.put, pB, pC, pD]
        clear hb1 HO c0 c1 d0 d1
        obtain ⟨W1, hW1⟩ : ∃ W1, W1 = ((wr.alloc (.cells #[.int .i64 0, .int .i64 0] 102)).drew) := ⟨_, rfl⟩
        rw [← hW1] at H10 HO1 HB1 hHeld
        rw [← hW1]
        clear hW1
        obtain ⟨q, hq⟩ : ∃ q, q = wr.heap.size := ⟨_, rfl⟩
        rw [← hq] at H10 HNQ hsz hbw
        rw [← hq]
        have HQ := Lib.hid hq
        clear hq
        refine onH 26 (oi := ?_) (by kernel_rfl) ?_ ?_ (fun K hK => ?_); rotate_left; (simp only [gA, gB, gC]; exact rfl); rfl
        have f0 := cell_of H10.out (i := 0) rfl
        have f1 := cell_of H10.out (i := 1) rfl
        have z0 := frozen_of H10.out (i := 0)
        have z1 := frozen_of H10.out (i := 1)
        go_wp2_with (fail)
        have hs := set2V_1 (u := .int .i64 dy) (set2V_0 (u := .int .i64 dx) H10.out)
        have HB2 := Lib.hid ((Below.setCell (p := ⟨q, 0, none⟩) HB1.out hsz (.int .i64 dx)).setCell (p := ⟨q, 1, none⟩) hsz (.int .i64 dy))
        have HO2 := Lib.hid (own_mutU (own_mutU HO1.out (b := q) 0 (.int .i64 dx) (fun e => HNQ.out q e rfl)) (b := q) 1 (.int .i64 dy) (fun e => HNQ.out q e rfl))
        have hne1 : ¬ q = b := by omega
        refine hK.out _ _ ⟨⟨(sc_other (ne_block hne1)).trans ((sc_other (ne_block hne1)).trans hHeld.1.1), (sc_other (ne_block hne1)).trans ((sc_other (ne_block hne1)).trans hHeld.1.2)⟩, (sc_other (ne_block hne1)).trans ((sc_other (ne_block hne1)).trans hHeld.2.1), (sc_other (ne_block hne1)).trans ((sc_other (ne_block hne1)).trans hHeld.2.2)⟩ (fun hHeldN => ?_)
        clear hK K hHeld
        have hHeld := hHeldN
        clear hHeldN
        try simp only [Act.put, pB, pC, pD]
        clear f0 f1 z0 z1 H10 HO1 HB1 hHeld
        have k0 := cell_of hs (i := 0) rfl
        have k1 := cell_of hs (i := 1) rfl
        have lq := lt_of_heap hs
        clear hs
        generalize ((W1.setCell ⟨q, 0, none⟩ (.int .i64 dx)).setCell ⟨q, 1, none⟩ (.int .i64 dy)) = W2 at *
        refine wpAnyH_done (by kernel_rfl) ?_ _
        have hE := fun wx => neq_ptM dx dy wx
        by_cases hz : dx = 0 ∧ dy = 0
        · rw [if_pos hz] at HMV
          have hzd : decide (dx = 0 ∧ dy = 0) = true := by rw [decide_eq_true_eq]; exact hz
          rw [hzd] at hE
          clear hz hzd
          go_wp2_with (fail)
          go_roundw
          case rel => exact ⟨t + 1, k, ao, co, by omega, by first | go_num | (simp; done), by rw [HMV.out]; exact HK.out, rfl, by rw [HMV.out]; exact HO2.out, HB2.out⟩
          case measure => simp [intOf] <;> omega
        · rw [if_neg hz] at HMV
          have hzd : decide (dx = 0 ∧ dy = 0) = false := by rw [decide_eq_false_iff_not]; exact hz
          rw [hzd] at hE
          have hs2 : w1.heap.size ≤ W2.heap.size := HB2.out.size
          clear hz hzd
          go_wp2_with (at_builtin; refine wpList_append_lies _ rfl _ _ 60 rfl w1.heap.size 102 i0 (.agg #[.int .i64 0, .int .i64 0]) 2 16 Try.underlying60 hi0 hz0 hz1 hz2 rfl (by decide) _ _ _ rfl (ownsRow_below HO2.out ((Below.refl _ W2).alloc (Nat.le_refl _) _)) ⟨W2.heap.size, 0, none⟩ 1 1 [.int .i64 dx, .int .i64 dy] rfl rfl (World.news_of_block (cs := #[.int .i64 dx, .int .i64 dy]) (t := 102) (fr := (0, 0)) (heap_alloc_new W2 (.cells #[.int .i64 dx, .int .i64 dy] 102))) (by simp [Value.oneCell']) (by omega) (by unfold maxLen; omega) (by omega) (by simp; omega) (W2.heap.size + 1) (by simp) ?_; intro g5 c5 w5 hown5 hgrow5 _ hlt5; have HO5 := Lib.hid hown5; have HB5 := Lib.hid (Below.grown (B := w1.heap.size) (Below.alloc (B := w1.heap.size) (Below.refl _ W2) (by omega) (.cells #[.int .i64 dx, .int .i64 dy] 102)) hgrow5 (by simp; omega) (fun b hb => ((HO2.out).lt b hb).1)); clear hown5 hgrow5)
          have HO6 := Lib.hid (show w5.ownsRow w1.heap.size 102 2 (.slice (some ⟨g5, 0, none⟩) (k + 1) c5) (k + 1) (IV2 (mvL X Y (t + 1))) by rw [HMV.out, IV2_app]; exact HO5.out)
          have HK6 := Lib.hid (show k + 1 = (mvL X Y (t + 1)).length by rw [HMV.out, List.length_append, ← HK.out]; rfl)
          have HB6 := Lib.hid (HB2.out.trans HB5.out)
          clear HO5 HB5
          go_wp2_with (fail)
          go_roundw
          case rel => exact ⟨t + 1, k + 1, _, c5, by omega, by first | go_num | (simp; done), HK6.out, rfl, HO6.out, HB6.out⟩
          case measure => simp [intOf] <;> omega
      · have l1 : ¬ (t : Int) + 1 < (N : Int) := by omega
        have HT := Lib.hid (show mvP p = mvL X Y t by rw [HMP.out]; congr 1; omega)
        have HL := Lib.hid (show (mvP p).length = k by rw [HT.out]; exact HK.out.symm)
        go_wp2_with (fail)
        go_ret
        exact ⟨ao, co, by rw [HL.out]; rfl, by rw [HL.out, HT.out]; exact own_lowU HO.out B1.out.size, B1.out.trans (HB.out.mono B1.out.size)⟩
  · have HK0 := Lib.hid hk
    have HNN := Lib.hid (show prN p = p.n + 1 by unfold prN; rw [hk]; rfl)
    clear hk
    go_enter Try.func93, Try.ntmps93
    go_wp2_with (fail)
    have hb1 : Below w.heap.size w (w.alloc (.cells #[.slice (some ⟨b0, off0, none⟩) p.n p.c, .bool true] 62)) := (by repeat (first | exact Below.refl _ _ | assumption | refine Below.drew ?_ | refine bdrewN ?_ _ | refine Below.setCell ?_ (by first | omega | (simp <;> omega)) _ | refine Below.alloc ?_ (by first | omega | (simp <;> omega)) _))
    have H1 := Lib.hid (heap_alloc_new w (.cells #[.slice (some ⟨b0, off0, none⟩) p.n p.c, .bool true] 62))
    replace HD := Lib.hid (HD.out.kept hb1 hb0)
    have hb2 := Nat.lt_of_lt_of_le hb0 hb1.size
    have B0 := Lib.hid hb1
    clear hb1
    generalize (w.alloc (.cells #[.slice (some ⟨b0, off0, none⟩) p.n p.c, .bool true] 62)) = w0 at *
    refine (cloneP b0 off0 p.n p.c p.X p.Y w0 hb2 HD.out (by omega) (by omega)).mono ?_
    rintro e wc ⟨ai, ci, rfl, hown, hbx⟩
    have c1 := cell_of (heap_keep hbx H1.out) (i := 1) rfl
    have B1 := Lib.hid (B0.out.trans (hbx.mono B0.out.size))
    have hsz0 := B1.out.size
    have HOC := Lib.hid (own_lowU hown B0.out.size)
    obtain ⟨g, cap', hv, hgb, hgl⟩ := hown.form (by omega)
    cases hv
    have p0 := (own_pts hown)
    obtain ⟨b3, off3, he, hb3, hd3⟩ : ∃ b off, some (⟨g, 0, none⟩ : Addr) = some ⟨b, off, none⟩ ∧ b < wc.heap.size ∧ Du wc b off p.n p.X p.Y := by
      rcases p0 with h | h
      · omega
      · exact h
    cases he
    obtain ⟨x0, x1⟩ := hd3 0 (by omega)
    simp only [Nat.zero_mul, Nat.add_zero] at x0 x1
    clear hown hbx H1 B0 hd3 p0
    go_wp2_with (at_builtin; refine wpList_append_lies _ rfl _ _ 60 rfl w.heap.size 102 i0 (.agg #[.int .i64 0, .int .i64 0]) 2 16 Try.underlying60 hi0 hz0 hz1 hz2 rfl (by decide) _ _ _ rfl (ownsRow_below HOC.out ((Below.refl _ wc).alloc (Nat.le_refl _) _)) ⟨wc.heap.size, 0, none⟩ 1 1 [.int .i64 (p.X 0), .int .i64 (p.Y 0)] rfl rfl (World.news_of_block (cs := #[.int .i64 (p.X 0), .int .i64 (p.Y 0)]) (t := 102) (fr := (0, 0)) (heap_alloc_new wc (.cells #[.int .i64 (p.X 0), .int .i64 (p.Y 0)] 102))) (by simp [Value.oneCell']) (by omega) (by unfold maxLen; omega) (by omega) (by simp; omega) (wc.heap.size + 1) (by simp) ?_; intro g5 c5 w5 hown5 hgrow5 _ hlt5; have HO5 := Lib.hid hown5; have HB5 := Lib.hid (Below.grown (B := w.heap.size) (Below.alloc (B := w.heap.size) (Below.refl _ wc) (by omega) (.cells #[.int .i64 (p.X 0), .int .i64 (p.Y 0)] 102)) hgrow5 (by simp; omega) (fun b hb => ((HOC.out).lt b hb).1)); clear hown5 hgrow5)
    have B2 := Lib.hid (B1.out.trans HB5.out)
    obtain ⟨w1, hw1⟩ : ∃ w1, w1 = w5 := ⟨_, rfl⟩
    subst hw1
    have HI : Hid (PtsR w1 (some ⟨g5, 0, none⟩) (prN p) (qX p p.X) (qX p p.Y)) := Lib.hid (by
      rw [HNN.out]
      refine own_pts (c := c5) (base := w.heap.size) (e := 102) ?_
      have e : cells2 (qX p p.X) (qX p p.Y) (p.n + 1) = cells2 p.X p.Y p.n ++ [.int .i64 (p.X 0), .int .i64 (p.Y 0)] := by
        show cells2 (qX p p.X) (qX p p.Y) p.n ++ _ = _
        rw [qX_end HK0.out, qX_end HK0.out, cells2_ext (fun i hi => ⟨qX_lt hi, qX_lt hi⟩)]
      rw [e]
      exact HO5.out)
    clear HO5 HB5 B1 HOC x0 x1
    have B1 := B2
    clear B2 c1
    rw [← HNN.out]
    obtain ⟨aw, haw⟩ : ∃ aw : Option Addr, aw = some ⟨g5, 0, none⟩ := ⟨_, rfl⟩
    rw [← haw] at HI
    rw [← haw]
    clear haw
    generalize qX p p.X = X at *
    generalize qX p p.Y = Y at *
    generalize prN p = N at *
    go_wp2_with (fail)
    go_loopw [4, 5] (fun sv iv wr => ∃ (t k : Nat) (ao : Option Addr) (co : Nat), t + 1 ≤ N ∧ iv = .int .i64 ((t : Int) + 1) ∧ k = (mvL X Y t).length ∧ sv = .slice ao k co ∧ wr.ownsRow w1.heap.size 102 2 (.slice ao k co) k (IV2 (mvL X Y t)) ∧ Below w1.heap.size w1 wr) (fun _ iv _ => N - (intOf iv).toNat)
    case atStart => exact ⟨0, 0, none, 0, by omega, rfl, rfl, rfl, World.ownsRow_nil _ _ _ _, Below.refl _ _⟩
    case round =>
      obtain ⟨t, k, ao, co, ht, rfl, hk, rfl, hown, hbel⟩ := hrel
      have HO := Lib.hid hown
      have HB := Lib.hid hbel
      have HK := Lib.hid hk
      have hkl := mvL_len X Y t
      rw [← hk] at hkl
      have hsz := hbel.size
      clear hown hbel hk
      by_cases hlt : t + 1 < N
      · have l1 : (t : Int) + 1 < (N : Int) := by omega
        have l2 : (t : Int) < (N : Int) := by omega
        have l3 : (0 : Int) ≤ (t : Int) + 1 := by omega
        have l4 : (0 : Int) ≤ (t : Int) := by omega
        have w9 : IntKind.i64.wrap ((t : Int) + 1 + 1) = (t : Int) + 1 + 1 := i64w (by omega)
        have w8 : IntKind.i64.wrap ((t : Int) + 1 - 1) = (t : Int) := by rw [show (t : Int) + 1 - 1 = t by omega]; exact i64w (by omega)
        have w7 : IntKind.i64.wrap (t : Int) = (t : Int) := i64w (by omega)
        rcases HI.out with h | ⟨b, off, he, hb, hd⟩
        · omega
        cases he
        obtain ⟨c0, c1⟩ := hd t (by omega)
        obtain ⟨d0, d1⟩ := hd (t + 1) (by omega)
        replace c0 := cellk HB.out hb c0
        replace c1 := cellk HB.out hb c1
        replace d0 := cellk HB.out hb d0
        replace d1 := cellk HB.out hb d1
        have hbw : b < wr.heap.size := by omega
        have hx0 := (HXY.out t (by omega))
        have hx1 := (HXY.out (t + 1) (by omega))
        have HMV := Lib.hid (show mvL X Y (t + 1) = if X (t + 1) - X t = 0 ∧ Y (t + 1) - Y t = 0 then mvL X Y t else mvL X Y t ++ [(X (t + 1) - X t, Y (t + 1) - Y t)] from rfl)
        obtain ⟨dx, hdx⟩ : ∃ dx, X (t + 1) - X t = dx := ⟨_, rfl⟩
        obtain ⟨dy, hdy⟩ : ∃ dy, Y (t + 1) - Y t = dy := ⟨_, rfl⟩
        rw [hdx, hdy] at HMV
        have e1 : IntKind.i64.wrap (X (t + 1) - X t) = dx := (i64w (by omega)).trans hdx
        have e2 : IntKind.i64.wrap (Y (t + 1) - Y t) = dy := (i64w (by omega)).trans hdy
        clear hd hx0 hx1 hdx hdy
        go_wp2_with (fail)
        refine wp_region_held_drew (S := (fun w' => (w'.cell? ⟨b, off + t * 2, none⟩ = some (.int .i64 (X t)) ∧ w'.cell? ⟨b, off + t * 2 + 1, none⟩ = some (.int .i64 (Y t))) ∧ w'.cell? ⟨b, off + (t + 1) * 2, none⟩ = some (.int .i64 (X (t + 1))) ∧ w'.cell? ⟨b, off + (t + 1) * 2 + 1, none⟩ = some (.int .i64 (Y (t + 1))))) (by kernel_rfl) ⟨⟨c0, c1⟩, d0, d1⟩ (fun hHeld => ?_)
        refine tkH (by assumption) 0 (oi := ?_) (v := ?_) ?_ ?_ ?_ ?_ ?_ ?_ ?_ ?_; rotate_left 2; (simp only [gA, gB, gC]; exact rfl); kernel_rfl; kernel_rfl; kernel_rfl; exact fun _ _ _ h => h; rfl; (intro w' hSw; (obtain ⟨⟨j0, j1⟩, j2, j3⟩ := hSw);go_simp; with_reducible rfl); simp only [Act.put, pB, pC, pD]
        refine tkH (by assumption) 1 (oi := ?_) (v := ?_) ?_ ?_ ?_ ?_ ?_ ?_ ?_ ?_; rotate_left 2; (simp only [gA, gB, gC]; exact rfl); kernel_rfl; kernel_rfl; kernel_rfl; exact fun _ _ _ h => h; rfl; (intro w' hSw; (obtain ⟨⟨j0, j1⟩, j2, j3⟩ := hSw);go_simp; with_reducible rfl); simp only [Act.put, pB, pC, pD]
        refine tkH (by assumption) 2 (oi := ?_) (v := ?_) ?_ ?_ ?_ ?_ ?_ ?_ ?_ ?_; rotate_left 2; (simp only [gA, gB, gC]; exact rfl); kernel_rfl; kernel_rfl; kernel_rfl; exact fun _ _ _ h => h; rfl; (intro w' hSw; (obtain ⟨⟨j0, j1⟩, j2, j3⟩ := hSw);go_simp; with_reducible rfl); simp only [Act.put, pB, pC, pD]
        refine tkH (by assumption) 3 (oi := ?_) (v := ?_) ?_ ?_ ?_ ?_ ?_ ?_ ?_ ?_; rotate_left 2; (simp only [gA, gB, gC]; exact rfl); kernel_rfl; kernel_rfl; kernel_rfl; exact fun _ _ _ h => h; rfl; (intro w' hSw; (obtain ⟨⟨j0, j1⟩, j2, j3⟩ := hSw);go_simp; with_reducible rfl); simp only [Act.put, pB, pC, pD]
        refine tkH (by assumption) 4 (oi := ?_) (v := ?_) ?_ ?_ ?_ ?_ ?_ ?_ ?_ ?_; rotate_left 2; (simp only [gA, gB, gC]; exact rfl); kernel_rfl; kernel_rfl; kernel_rfl; exact fun _ _ _ h => h; rfl; (intro w' hSw; (obtain ⟨⟨j0, j1⟩, j2, j3⟩ := hSw);go_simp; with_reducible rfl); simp only [Act.put, pB, pC, pD]
        refine tkH (by assumption) 5 (oi := ?_) (v := ?_) ?_ ?_ ?_ ?_ ?_ ?_ ?_ ?_; rotate_left 2; (simp only [gA, gB, gC]; exact rfl); kernel_rfl; kernel_rfl; kernel_rfl; exact fun _ _ _ h => h; rfl; (intro w' hSw; (obtain ⟨⟨j0, j1⟩, j2, j3⟩ := hSw);go_simp; with_reducible rfl); simp only [Act.put, pB, pC, pD]
        refine tkH (by assumption) 6 (oi := ?_) (v := ?_) ?_ ?_ ?_ ?_ ?_ ?_ ?_ ?_; rotate_left 2; (simp only [gA, gB, gC]; exact rfl); kernel_rfl; kernel_rfl; kernel_rfl; exact fun _ _ _ h => h; rfl; (intro w' hSw; (obtain ⟨⟨j0, j1⟩, j2, j3⟩ := hSw);go_simp; with_reducible rfl); simp only [Act.put, pB, pC, pD]
        refine tkH (by assumption) 7 (oi := ?_) (v := ?_) ?_ ?_ ?_ ?_ ?_ ?_ ?_ ?_; rotate_left 2; (simp only [gA, gB, gC]; exact rfl); kernel_rfl; kernel_rfl; kernel_rfl; exact fun _ _ _ h => h; rfl; (intro w' hSw; (obtain ⟨⟨j0, j1⟩, j2, j3⟩ := hSw);go_simp; with_reducible rfl); simp only [Act.put, pB, pC, pD]
        refine tkH (by assumption) 8 (oi := ?_) (v := ?_) ?_ ?_ ?_ ?_ ?_ ?_ ?_ ?_; rotate_left 2; (simp only [gA, gB, gC]; exact rfl); kernel_rfl; kernel_rfl; kernel_rfl; exact fun _ _ _ h => h; rfl; (intro w' hSw; (obtain ⟨⟨j0, j1⟩, j2, j3⟩ := hSw);go_simp; with_reducible rfl); simp only [Act.put, pB, pC, pD]
        refine tkH (by assumption) 9 (oi := ?_) (v := ?_) ?_ ?_ ?_ ?_ ?_ ?_ ?_ ?_; rotate_left 2; (simp only [gA, gB, gC]; exact rfl); kernel_rfl; kernel_rfl; kernel_rfl; exact fun _ _ _ h => h; rfl; (intro w' hSw; (obtain ⟨⟨j0, j1⟩, j2, j3⟩ := hSw);go_simp; with_reducible rfl); simp only [Act.put, pB, pC, pD]
        refine tkH (by assumption) 10 (oi := ?_) (v := ?_) ?_ ?_ ?_ ?_ ?_ ?_ ?_ ?_; rotate_left 2; (simp only [gA, gB, gC]; exact rfl); kernel_rfl; kernel_rfl; kernel_rfl; exact fun _ _ _ h => h; rfl; (intro w' hSw; (obtain ⟨⟨j0, j1⟩, j2, j3⟩ := hSw);go_simp; with_reducible rfl); simp only [Act.put, pB, pC, pD]
        refine tkH (by assumption) 11 (oi := ?_) (v := ?_) ?_ ?_ ?_ ?_ ?_ ?_ ?_ ?_; rotate_left 2; (simp only [gA, gB, gC]; exact rfl); kernel_rfl; kernel_rfl; kernel_rfl; exact fun _ _ _ h => h; rfl; (intro w' hSw; (obtain ⟨⟨j0, j1⟩, j2, j3⟩ := hSw);go_simp; with_reducible rfl); simp only [Act.put, pB, pC, pD]
        refine tkH (by assumption) 12 (oi := ?_) (v := ?_) ?_ ?_ ?_ ?_ ?_ ?_ ?_ ?_; rotate_left 2; (simp only [gA, gB, gC]; exact rfl); kernel_rfl; kernel_rfl; kernel_rfl; exact fun _ _ _ h => h; rfl; (intro w' hSw; (obtain ⟨⟨j0, j1⟩, j2, j3⟩ := hSw);go_simp; with_reducible rfl); simp only [Act.put, pB, pC, pD]
        refine tkH (by assumption) 13 (oi := ?_) (v := ?_) ?_ ?_ ?_ ?_ ?_ ?_ ?_ ?_; rotate_left 2; (simp only [gA, gB, gC]; exact rfl); kernel_rfl; kernel_rfl; kernel_rfl; exact fun _ _ _ h => h; rfl; (intro w' hSw; (obtain ⟨⟨j0, j1⟩, j2, j3⟩ := hSw);go_simp; with_reducible rfl); simp only [Act.put, pB, pC, pD]
        refine tkH (by assumption) 14 (oi := ?_) (v := ?_) ?_ ?_ ?_ ?_ ?_ ?_ ?_ ?_; rotate_left 2; (simp only [gA, gB, gC]; exact rfl); kernel_rfl; kernel_rfl; kernel_rfl; exact fun _ _ _ h => h; rfl; (intro w' hSw; (obtain ⟨⟨j0, j1⟩, j2, j3⟩ := hSw);go_simp; with_reducible rfl); simp only [Act.put, pB, pC, pD]
        refine tkH (by assumption) 15 (oi := ?_) (v := ?_) ?_ ?_ ?_ ?_ ?_ ?_ ?_ ?_; rotate_left 2; (simp only [gA, gB, gC]; exact rfl); kernel_rfl; kernel_rfl; kernel_rfl; exact fun _ _ _ h => h; rfl; (intro w' hSw; (obtain ⟨⟨j0, j1⟩, j2, j3⟩ := hSw);go_simp; with_reducible rfl); simp only [Act.put, pB, pC, pD]
        refine tkH (by assumption) 16 (oi := ?_) (v := ?_) ?_ ?_ ?_ ?_ ?_ ?_ ?_ ?_; rotate_left 2; (simp only [gA, gB, gC]; exact rfl); kernel_rfl; kernel_rfl; kernel_rfl; exact fun _ _ _ h => h; rfl; (intro w' hSw; (obtain ⟨⟨j0, j1⟩, j2, j3⟩ := hSw);go_simp; with_reducible rfl); simp only [Act.put, pB, pC, pD]
        refine tkH (by assumption) 17 (oi := ?_) (v := ?_) ?_ ?_ ?_ ?_ ?_ ?_ ?_ ?_; rotate_left 2; (simp only [gA, gB, gC]; exact rfl); kernel_rfl; kernel_rfl; kernel_rfl; exact fun _ _ _ h => h; rfl; (intro w' hSw; (obtain ⟨⟨j0, j1⟩, j2, j3⟩ := hSw);go_simp; with_reducible rfl); simp only [Act.put, pB, pC, pD]
        refine tkH (by assumption) 18 (oi := ?_) (v := ?_) ?_ ?_ ?_ ?_ ?_ ?_ ?_ ?_; rotate_left 2; (simp only [gA, gB, gC]; exact rfl); kernel_rfl; kernel_rfl; kernel_rfl; exact fun _ _ _ h => h; rfl; (intro w' hSw; (obtain ⟨⟨j0, j1⟩, j2, j3⟩ := hSw);go_simp; with_reducible rfl); simp only [Act.put, pB, pC, pD]
        refine tkH (by assumption) 19 (oi := ?_) (v := ?_) ?_ ?_ ?_ ?_ ?_ ?_ ?_ ?_; rotate_left 2; (simp only [gA, gB, gC]; exact rfl); kernel_rfl; kernel_rfl; kernel_rfl; exact fun _ _ _ h => h; rfl; (intro w' hSw; (obtain ⟨⟨j0, j1⟩, j2, j3⟩ := hSw);go_simp; with_reducible rfl); simp only [Act.put, pB, pC, pD]
        refine tkH (by assumption) 20 (oi := ?_) (v := ?_) ?_ ?_ ?_ ?_ ?_ ?_ ?_ ?_; rotate_left 2; (simp only [gA, gB, gC]; exact rfl); kernel_rfl; kernel_rfl; kernel_rfl; exact fun _ _ _ h => h; rfl; (intro w' hSw; (obtain ⟨⟨j0, j1⟩, j2, j3⟩ := hSw);go_simp; with_reducible rfl); simp only [Act.put, pB, pC, pD]
        refine tkH (by assumption) 21 (oi := ?_) (v := ?_) ?_ ?_ ?_ ?_ ?_ ?_ ?_ ?_; rotate_left 2; (simp only [gA, gB, gC]; exact rfl); kernel_rfl; kernel_rfl; kernel_rfl; exact fun _ _ _ h => h; rfl; (intro w' hSw; (obtain ⟨⟨j0, j1⟩, j2, j3⟩ := hSw);go_simp; with_reducible rfl); simp only [Act.put, pB, pC, pD]
        refine tkH (by assumption) 22 (oi := ?_) (v := ?_) ?_ ?_ ?_ ?_ ?_ ?_ ?_ ?_; rotate_left 2; (simp only [gA, gB, gC]; exact rfl); kernel_rfl; kernel_rfl; kernel_rfl; exact fun _ _ _ h => h; rfl; (intro w' hSw; (obtain ⟨⟨j0, j1⟩, j2, j3⟩ := hSw);go_simp; with_reducible rfl); simp only [Act.put, pB, pC, pD]
        refine tkH (by assumption) 23 (oi := ?_) (v := ?_) ?_ ?_ ?_ ?_ ?_ ?_ ?_ ?_; rotate_left 2; (simp only [gA, gB, gC]; exact rfl); kernel_rfl; kernel_rfl; kernel_rfl; exact fun _ _ _ h => h; rfl; (intro w' hSw; (obtain ⟨⟨j0, j1⟩, j2, j3⟩ := hSw);go_simp; with_reducible rfl); simp only [Act.put, pB, pC, pD]
        refine tkH (by assumption) 24 (oi := ?_) (v := ?_) ?_ ?_ ?_ ?_ ?_ ?_ ?_ ?_; rotate_left 2; (simp only [gA, gB, gC]; exact rfl); kernel_rfl; kernel_rfl; kernel_rfl; exact fun _ _ _ h => h; rfl; (intro w' hSw; (obtain ⟨⟨j0, j1⟩, j2, j3⟩ := hSw);go_simp; with_reducible rfl); simp only [Act.put, pB, pC, pD]
        refine onH 25 (oi := ?_) (by kernel_rfl) ?_ ?_ (fun K hK => ?_); rotate_left; (simp only [gA, gB, gC]; exact rfl); rfl
        go_wp2_with (fail)
        have hb1 : Below wr.heap.size wr ((wr.alloc (.cells #[.int .i64 0, .int .i64 0] 102)).drew) := Below.next_drew ((Below.refl _ wr).alloc (Nat.le_refl _) _)
        have H10 := Lib.hid (show ((wr.alloc (.cells #[.int .i64 0, .int .i64 0] 102)).drew).heap[wr.heap.size]? = some (Obj.cells #[.int .i64 0, .int .i64 0] 102 (0, 0)) from heap_alloc_new wr _)
        have HO1 := Lib.hid (ownsRow_below HO.out hb1)
        have HNQ := Lib.hid (show ∀ x, (Value.slice ao k co).ownBlock = some x → x ≠ wr.heap.size from fun x hx => by have := (HO.out.lt x hx).2; omega)
        have HB1 := Lib.hid (HB.out.trans (hb1.mono hsz))
        refine hK.out _ _ ⟨⟨cellk hb1 hbw c0, cellk hb1 hbw c1⟩, cellk hb1 hbw d0, cellk hb1 hbw d1⟩ (fun hHeldN => ?_)
        clear hK K hHeld
        have hHeld := hHeldN
        clear hHeldN
        try simp only [Act.put, pB, pC, pD]
        clear hb1 HO c0 c1 d0 d1
        obtain ⟨W1, hW1⟩ : ∃ W1, W1 = ((wr.alloc (.cells #[.int .i64 0, .int .i64 0] 102)).drew) := ⟨_, rfl⟩
        rw [← hW1] at H10 HO1 HB1 hHeld
        rw [← hW1]
        clear hW1
        obtain ⟨q, hq⟩ : ∃ q, q = wr.heap.size := ⟨_, rfl⟩
        rw [← hq] at H10 HNQ hsz hbw
        rw [← hq]
        have HQ := Lib.hid hq
        clear hq
        refine onH 26 (oi := ?_) (by kernel_rfl) ?_ ?_ (fun K hK => ?_); rotate_left; (simp only [gA, gB, gC]; exact rfl); rfl
        have f0 := cell_of H10.out (i := 0) rfl
        have f1 := cell_of H10.out (i := 1) rfl
        have z0 := frozen_of H10.out (i := 0)
        have z1 := frozen_of H10.out (i := 1)
        go_wp2_with (fail)
        have hs := set2V_1 (u := .int .i64 dy) (set2V_0 (u := .int .i64 dx) H10.out)
        have HB2 := Lib.hid ((Below.setCell (p := ⟨q, 0, none⟩) HB1.out hsz (.int .i64 dx)).setCell (p := ⟨q, 1, none⟩) hsz (.int .i64 dy))
        have HO2 := Lib.hid (own_mutU (own_mutU HO1.out (b := q) 0 (.int .i64 dx) (fun e => HNQ.out q e rfl)) (b := q) 1 (.int .i64 dy) (fun e => HNQ.out q e rfl))
        have hne1 : ¬ q = b := by omega
        refine hK.out _ _ ⟨⟨(sc_other (ne_block hne1)).trans ((sc_other (ne_block hne1)).trans hHeld.1.1), (sc_other (ne_block hne1)).trans ((sc_other (ne_block hne1)).trans hHeld.1.2)⟩, (sc_other (ne_block hne1)).trans ((sc_other (ne_block hne1)).trans hHeld.2.1), (sc_other (ne_block hne1)).trans ((sc_other (ne_block hne1)).trans hHeld.2.2)⟩ (fun hHeldN => ?_)
        clear hK K hHeld
        have hHeld := hHeldN
        clear hHeldN
        try simp only [Act.put, pB, pC, pD]
        clear f0 f1 z0 z1 H10 HO1 HB1 hHeld
        have k0 := cell_of hs (i := 0) rfl
        have k1 := cell_of hs (i := 1) rfl
        have lq := lt_of_heap hs
        clear hs
        generalize ((W1.setCell ⟨q, 0, none⟩ (.int .i64 dx)).setCell ⟨q, 1, none⟩ (.int .i64 dy)) = W2 at *
        refine wpAnyH_done (by kernel_rfl) ?_ _
        have hE := fun wx => neq_ptM dx dy wx
        by_cases hz : dx = 0 ∧ dy = 0
        · rw [if_pos hz] at HMV
          have hzd : decide (dx = 0 ∧ dy = 0) = true := by rw [decide_eq_true_eq]; exact hz
          rw [hzd] at hE
          clear hz hzd
          go_wp2_with (fail)
          go_roundw
          case rel => exact ⟨t + 1, k, ao, co, by omega, by first | go_num | (simp; done), by rw [HMV.out]; exact HK.out, rfl, by rw [HMV.out]; exact HO2.out, HB2.out⟩
          case measure => simp [intOf] <;> omega
        · rw [if_neg hz] at HMV
          have hzd : decide (dx = 0 ∧ dy = 0) = false := by rw [decide_eq_false_iff_not]; exact hz
          rw [hzd] at hE
          have hs2 : w1.heap.size ≤ W2.heap.size := HB2.out.size
          clear hz hzd
          go_wp2_with (at_builtin; refine wpList_append_lies _ rfl _ _ 60 rfl w1.heap.size 102 i0 (.agg #[.int .i64 0, .int .i64 0]) 2 16 Try.underlying60 hi0 hz0 hz1 hz2 rfl (by decide) _ _ _ rfl (ownsRow_below HO2.out ((Below.refl _ W2).alloc (Nat.le_refl _) _)) ⟨W2.heap.size, 0, none⟩ 1 1 [.int .i64 dx, .int .i64 dy] rfl rfl (World.news_of_block (cs := #[.int .i64 dx, .int .i64 dy]) (t := 102) (fr := (0, 0)) (heap_alloc_new W2 (.cells #[.int .i64 dx, .int .i64 dy] 102))) (by simp [Value.oneCell']) (by omega) (by unfold maxLen; omega) (by omega) (by simp; omega) (W2.heap.size + 1) (by simp) ?_; intro g5 c5 w5 hown5 hgrow5 _ hlt5; have HO5 := Lib.hid hown5; have HB5 := Lib.hid (Below.grown (B := w1.heap.size) (Below.alloc (B := w1.heap.size) (Below.refl _ W2) (by omega) (.cells #[.int .i64 dx, .int .i64 dy] 102)) hgrow5 (by simp; omega) (fun b hb => ((HO2.out).lt b hb).1)); clear hown5 hgrow5)
          have HO6 := Lib.hid (show w5.ownsRow w1.heap.size 102 2 (.slice (some ⟨g5, 0, none⟩) (k + 1) c5) (k + 1) (IV2 (mvL X Y (t + 1))) by rw [HMV.out, IV2_app]; exact HO5.out)
          have HK6 := Lib.hid (show k + 1 = (mvL X Y (t + 1)).length by rw [HMV.out, List.length_append, ← HK.out]; rfl)
          have HB6 := Lib.hid (HB2.out.trans HB5.out)
          clear HO5 HB5
          go_wp2_with (fail)
          go_roundw
          case rel => exact ⟨t + 1, k + 1, _, c5, by omega, by first | go_num | (simp; done), HK6.out, rfl, HO6.out, HB6.out⟩
          case measure => simp [intOf] <;> omega
      · have l1 : ¬ (t : Int) + 1 < (N : Int) := by omega
        have HT := Lib.hid (show mvP p = mvL X Y t by rw [HMP.out]; congr 1; omega)
        have HL := Lib.hid (show (mvP p).length = k by rw [HT.out]; exact HK.out.symm)
        go_wp2_with (fail)
        go_ret
        exact ⟨ao, co, by rw [HL.out]; rfl, by rw [HL.out, HT.out]; exact own_lowU HO.out B1.out.size, B1.out.trans (HB.out.mono B1.out.size)⟩
end Go.Proofs.Ytdanlnmdkneepaa

/- The corners of a path: by the program and by the reference. -/
import Derived.Test.YtdanlnmdkneepaaUq
set_option linter.unusedSimpArgs false
set_option linter.unusedVariables false
namespace Go.Proofs.Ytdanlnmdkneepaa
open Go.RowKit
theorem absH {P : Program} {md : Region.Mode} {ops : Array Oper} {Q : Exit → Act → World → Prop} {S : World → Prop} {fuel : Nat} {listed : Array Bool} {a : Act} {w : World}
    (h : ∀ (G : Nat → Array Bool → Act → World → Prop) (A : Act), (∀ f l b v, G f l b v ↔ wpAnyH P md ops Q S f l b v) → A = a → G fuel listed A w) : wpAnyH P md ops Q S fuel listed a w :=
  (h _ a (fun _ _ _ _ => Iff.rfl) rfl)
theorem listedEq {P : Program} {md : Region.Mode} {ops : Array Oper} {Q : Exit → Act → World → Prop} {S : World → Prop} {fuel : Nat} {l l' : Array Bool} {a : Act} {w : World}
    (h : l = l') (hw : wpAnyH P md ops Q S fuel l' a w) : wpAnyH P md ops Q S fuel l a w := h ▸ hw
def cnF (l : List (Int × Int)) (m : Int) : Nat → Int := fun i => passZ (pX l i) (pY l i) (pX l (i + 1)) (pY l (i + 1)) m
set_option maxRecDepth 100000 in
set_option maxHeartbeats 8000000 in
theorem Corners_any (p : Pth) (m : Int) (w : World) (hn : p.n ≤ 1000) (hc : p.n ≤ p.c) (hp : PtsR w p.a p.n p.X p.Y) :
    Calls Try.prog 45 #[.agg #[.slice p.a p.n p.c, .bool p.k], .int .i64 m] w fun e w' =>
      (mvE p m = 0 → ∃ ao co, e = .returned (.tuple #[.slice ao ((mvP p).length - 1) co, .int .i64 0]) ∧ w'.ownsRow w.heap.size 3 1 (.slice ao ((mvP p).length - 1) co) ((mvP p).length - 1) (vs (cnF (mvP p) m) ((mvP p).length - 1))) ∧
      (mvE p m ≠ 0 → e = .returned (.tuple #[.slice none 0 0, .int .i64 (mvE p m)])) ∧ Below w.heap.size w w' := by
  obtain ⟨i0, hi0, hz0, hz1, hz2⟩ := info_parts info_intV
  have HP := Lib.hid hp
  clear hp
  go_enter Try.func45, Try.ntmps45
  go_wp2_with (fail)
  have hb0 : Below w.heap.size w (w.alloc (.cells #[.slice p.a p.n p.c, .bool p.k] 62)) := (by repeat (first | exact Below.refl _ _ | assumption | refine Below.drew ?_ | refine bdrewN ?_ _ | refine Below.setCell ?_ (by first | omega | (simp <;> omega)) _ | refine Below.alloc ?_ (by first | omega | (simp <;> omega)) _))
  have B0 := Lib.hid hb0
  replace HP := Lib.hid (HP.out.kept hb0)
  clear hb0
  generalize (w.alloc (.cells #[.slice p.a p.n p.c, .bool p.k] 62)) = w0 at *
  refine (movesOf_any p m w0 hn hc HP.out).mono ?_
  rintro e w1 ⟨h1, h2, hb1⟩
  have B1 := Lib.hid (B0.out.trans (hb1.mono B0.out.size))
  clear hb1 HP B0
  by_cases hz : mvE p m = 0
  · obtain ⟨ai, ci, rfl, hown⟩ := h1 hz
    have HZ := Lib.hid hz
    have HI := Lib.hid (pts_of_IV2 hown)
    obtain ⟨hk5, hbd⟩ := mvP_bnd (mvE_ok hz).2.1
    have HBD := Lib.hid hbd
    have HM := Lib.hid (mvE_ok hz).2.2.1
    have hK1 := (mvE_ok hz).2.2.2
    clear h1 h2 hown hz hbd
    obtain ⟨l, hl⟩ : ∃ l, mvP p = l := ⟨_, rfl⟩
    rw [hl] at HI HBD hk5 hK1
    rw [hl]
    have HLL := Lib.hid hl
    clear hl
    obtain ⟨K, hK⟩ : ∃ K, l.length = K := ⟨_, rfl⟩
    rw [hK] at HI HBD hk5 hK1
    rw [hK]
    have HKK := Lib.hid hK
    clear hK
    have hw0 : IntKind.i64.wrap ((K : Int) - 1) = (K : Int) - 1 := i64w (by omega)
    go_wp2_with (fail)
    go_loopw [8, 22] (fun sv iv wr => ∃ (t : Nat) (ao : Option Addr) (co : Nat), t + 1 ≤ K ∧ iv = .int .i64 t ∧ sv = .slice ao t co ∧ wr.ownsRow w1.heap.size 3 1 (.slice ao t co) t (vs (cnF l m) t) ∧ Below w1.heap.size w1 wr) (fun _ iv _ => K - (intOf iv).toNat)
    case atStart => exact ⟨0, none, 0, by omega, rfl, rfl, World.ownsRow_nil _ _ _ _, Below.refl _ _⟩
    case round =>
      obtain ⟨t, ao, co, ht, rfl, rfl, hown, hbel⟩ := hrel
      have HO := Lib.hid hown
      have HB := Lib.hid hbel
      have hsz := hbel.size
      clear hown hbel
      by_cases hlt : t + 1 < K
      · rcases HI.out with h | ⟨b, off, he, hb, hd⟩
        · omega
        cases he
        obtain ⟨c0, c1⟩ := hd t (by omega)
        obtain ⟨d0, d1⟩ := hd (t + 1) (by omega)
        replace c0 := cellk HB.out hb c0
        replace c1 := cellk HB.out hb c1
        replace d0 := cellk HB.out hb d0
        replace d1 := cellk HB.out hb d1
        have hbw : b < wr.heap.size := by omega
        have HX0 := Lib.hid (HBD.out t (by omega)).1
        have HX1 := Lib.hid (HBD.out (t + 1) (by omega)).1
        change wr.cell? ⟨b, off + t * 2, none⟩ = some (.int .i64 (pX l t)) at c0
        change wr.cell? ⟨b, off + t * 2 + 1, none⟩ = some (.int .i64 (pY l t)) at c1
        change wr.cell? ⟨b, off + (t + 1) * 2, none⟩ = some (.int .i64 (pX l (t + 1))) at d0
        change wr.cell? ⟨b, off + (t + 1) * 2 + 1, none⟩ = some (.int .i64 (pY l (t + 1))) at d1
        have l1 : (t : Int) < (K : Int) - 1 := by omega
        have l2 : (t : Int) < (K : Int) := by omega
        have l3 : (0 : Int) ≤ (t : Int) + 1 := by omega
        have l4 : (t : Int) + 1 < (K : Int) := by omega
        have w9 : IntKind.i64.wrap ((t : Int) + 1) = (t : Int) + 1 := i64w (by omega)
        have HNQ := Lib.hid (fun b hb => (HO.out.lt b hb).2)
        clear hd
        go_wp2_with (fail)
        refine wp_region_held_drew (S := (fun w' => (w'.cell? ⟨b, off + t * 2, none⟩ = some (.int .i64 (pX l t)) ∧ w'.cell? ⟨b, off + t * 2 + 1, none⟩ = some (.int .i64 (pY l t))) ∧ w'.cell? ⟨b, off + (t + 1) * 2, none⟩ = some (.int .i64 (pX l (t + 1))) ∧ w'.cell? ⟨b, off + (t + 1) * 2 + 1, none⟩ = some (.int .i64 (pY l (t + 1))))) (by kernel_rfl) ⟨⟨c0, c1⟩, d0, d1⟩ (fun hHeld => ?_)
        refine tkH (by assumption) 0 (oi := ?_) (v := ?_) ?_ ?_ ?_ ?_ ?_ ?_ ?_ ?_; rotate_left 2; (simp only [gA, gB, gC]; exact rfl); kernel_rfl; kernel_rfl; kernel_rfl; exact fun _ _ _ h => h; rfl; (intro w' hSw; (obtain ⟨⟨j0, j1⟩, j2, j3⟩ := hSw);go_simp; with_reducible rfl); simp only [Act.put, pB, pC, pD]
        refine tkH (by assumption) 1 (oi := ?_) (v := ?_) ?_ ?_ ?_ ?_ ?_ ?_ ?_ ?_; rotate_left 2; (simp only [gA, gB, gC]; exact rfl); kernel_rfl; kernel_rfl; kernel_rfl; exact fun _ _ _ h => h; rfl; (intro w' hSw; (obtain ⟨⟨j0, j1⟩, j2, j3⟩ := hSw);go_simp; with_reducible rfl); simp only [Act.put, pB, pC, pD]
        refine tkH (by assumption) 2 (oi := ?_) (v := ?_) ?_ ?_ ?_ ?_ ?_ ?_ ?_ ?_; rotate_left 2; (simp only [gA, gB, gC]; exact rfl); kernel_rfl; kernel_rfl; kernel_rfl; exact fun _ _ _ h => h; rfl; (intro w' hSw; (obtain ⟨⟨j0, j1⟩, j2, j3⟩ := hSw);go_simp; with_reducible rfl); simp only [Act.put, pB, pC, pD]
        refine tkH (by assumption) 3 (oi := ?_) (v := ?_) ?_ ?_ ?_ ?_ ?_ ?_ ?_ ?_; rotate_left 2; (simp only [gA, gB, gC]; exact rfl); kernel_rfl; kernel_rfl; kernel_rfl; exact fun _ _ _ h => h; rfl; (intro w' hSw; (obtain ⟨⟨j0, j1⟩, j2, j3⟩ := hSw);go_simp; with_reducible rfl); simp only [Act.put, pB, pC, pD]
        refine tkH (by assumption) 4 (oi := ?_) (v := ?_) ?_ ?_ ?_ ?_ ?_ ?_ ?_ ?_; rotate_left 2; (simp only [gA, gB, gC]; exact rfl); kernel_rfl; kernel_rfl; kernel_rfl; exact fun _ _ _ h => h; rfl; (intro w' hSw; (obtain ⟨⟨j0, j1⟩, j2, j3⟩ := hSw);go_simp; with_reducible rfl); simp only [Act.put, pB, pC, pD]
        refine tkH (by assumption) 5 (oi := ?_) (v := ?_) ?_ ?_ ?_ ?_ ?_ ?_ ?_ ?_; rotate_left 2; (simp only [gA, gB, gC]; exact rfl); kernel_rfl; kernel_rfl; kernel_rfl; exact fun _ _ _ h => h; rfl; (intro w' hSw; (obtain ⟨⟨j0, j1⟩, j2, j3⟩ := hSw);go_simp; with_reducible rfl); simp only [Act.put, pB, pC, pD]
        refine tkH (by assumption) 6 (oi := ?_) (v := ?_) ?_ ?_ ?_ ?_ ?_ ?_ ?_ ?_; rotate_left 2; (simp only [gA, gB, gC]; exact rfl); kernel_rfl; kernel_rfl; kernel_rfl; exact fun _ _ _ h => h; rfl; (intro w' hSw; (obtain ⟨⟨j0, j1⟩, j2, j3⟩ := hSw);go_simp; with_reducible rfl); simp only [Act.put, pB, pC, pD]
        refine tkH (by assumption) 7 (oi := ?_) (v := ?_) ?_ ?_ ?_ ?_ ?_ ?_ ?_ ?_; rotate_left 2; (simp only [gA, gB, gC]; exact rfl); kernel_rfl; kernel_rfl; kernel_rfl; exact fun _ _ _ h => h; rfl; (intro w' hSw; (obtain ⟨⟨j0, j1⟩, j2, j3⟩ := hSw);go_simp; with_reducible rfl); simp only [Act.put, pB, pC, pD]
        refine tkH (by assumption) 8 (oi := ?_) (v := ?_) ?_ ?_ ?_ ?_ ?_ ?_ ?_ ?_; rotate_left 2; (simp only [gA, gB, gC]; exact rfl); kernel_rfl; kernel_rfl; kernel_rfl; exact fun _ _ _ h => h; rfl; (intro w' hSw; (obtain ⟨⟨j0, j1⟩, j2, j3⟩ := hSw);go_simp; with_reducible rfl); simp only [Act.put, pB, pC, pD]
        refine tkH (by assumption) 9 (oi := ?_) (v := ?_) ?_ ?_ ?_ ?_ ?_ ?_ ?_ ?_; rotate_left 2; (simp only [gA, gB, gC]; exact rfl); kernel_rfl; kernel_rfl; kernel_rfl; exact fun _ _ _ h => h; rfl; (intro w' hSw; (obtain ⟨⟨j0, j1⟩, j2, j3⟩ := hSw);go_simp; with_reducible rfl); simp only [Act.put, pB, pC, pD]
        refine tkH (by assumption) 10 (oi := ?_) (v := ?_) ?_ ?_ ?_ ?_ ?_ ?_ ?_ ?_; rotate_left 2; (simp only [gA, gB, gC]; exact rfl); kernel_rfl; kernel_rfl; kernel_rfl; exact fun _ _ _ h => h; rfl; (intro w' hSw; (obtain ⟨⟨j0, j1⟩, j2, j3⟩ := hSw);go_simp; with_reducible rfl); simp only [Act.put, pB, pC, pD]
        refine onH 11 (oi := ?_) (by kernel_rfl) ?_ ?_ (fun K hK => ?_); rotate_left; (simp only [gA, gB, gC]; exact rfl); rfl
        go_wp2_with (fail)
        refine (passable_any (pX l t) (pY l t) (pX l (t + 1)) (pY l (t + 1)) m _ HX0.out.1 HX0.out.2 HX1.out.1 HX1.out.2 HM.out).mono ?_
        rintro e w2 ⟨rfl, hb5⟩
        have hb6 : Below wr.heap.size wr w2 := ⟨hb5.os, hb5.tape, hb5.output, hb5.size, hb5.block⟩
        have HO5 := Lib.hid (ownsRow_below HO.out hb6)
        have HB5 := Lib.hid (HB.out.trans (hb6.mono hsz))
        have S5 := (show (w2.cell? ⟨b, off + t * 2, none⟩ = some (.int .i64 (pX l t)) ∧ w2.cell? ⟨b, off + t * 2 + 1, none⟩ = some (.int .i64 (pY l t))) ∧ w2.cell? ⟨b, off + (t + 1) * 2, none⟩ = some (.int .i64 (pX l (t + 1))) ∧ w2.cell? ⟨b, off + (t + 1) * 2 + 1, none⟩ = some (.int .i64 (pY l (t + 1))) from ⟨⟨cellk hb6 hbw c0, cellk hb6 hbw c1⟩, cellk hb6 hbw d0, cellk hb6 hbw d1⟩)
        have hbw2 : b < w2.heap.size := Nat.lt_of_lt_of_le hbw hb6.size
        clear hb5 hb6 c0 c1 d0 d1
        have HZV := Lib.hid (show cnF l m t = passZ (pX l t) (pY l t) (pX l (t + 1)) (pY l (t + 1)) m from rfl)
        obtain ⟨z, hz⟩ : ∃ z, passZ (pX l t) (pY l t) (pX l (t + 1)) (pY l (t + 1)) m = z := ⟨_, rfl⟩
        rw [hz] at HZV
        rw [hz]
        clear hz
        refine hK.out _ _ S5 (fun hHeldN => ?_)
        clear hK K hHeld
        have hHeld := hHeldN
        clear hHeldN
        try simp only [Act.put, pB, pC, pD]
        refine onH 12 (oi := ?_) (by kernel_rfl) ?_ ?_ (fun K hK => ?_); rotate_left; (simp only [gA, gB, gC]; exact rfl); rfl
        go_wp2_with (fail)
        have bA : Below w2.heap.size w2 (w2.alloc (.cells #[.int .i64 z] 3)) := (Below.refl _ _).alloc (Nat.le_refl _) _
        have hnw : ∀ (j : Nat) (u : Value), [Value.int .i64 z][j]? = some u → (w2.alloc (.cells #[.int .i64 z] 3)).cell? ((⟨w2.heap.size, 0, none⟩ : Addr).add j) = some u := World.news_of_block (cs := #[.int .i64 z]) (t := 3) (fr := (0, 0)) (heap_alloc_new w2 (.cells #[.int .i64 z] 3))
        have HO6 := ownsRow_below HO5.out bA
        have B6 := HB5.out.trans (bA.mono HB5.out.size)
        have hs6 : (w2.alloc (.cells #[.int .i64 z] 3)).heap.size = w2.heap.size + 1 := by simp
        have hs5 := HB5.out.size
        refine hK.out _ _ ⟨⟨cellk bA hbw2 hHeld.1.1, cellk bA hbw2 hHeld.1.2⟩, cellk bA hbw2 hHeld.2.1, cellk bA hbw2 hHeld.2.2⟩ (fun hHeldN => ?_)
        clear hK K hHeld
        have hHeld := hHeldN
        clear hHeldN
        try simp only [Act.put, pB, pC, pD]
        clear bA
        generalize (w2.alloc (.cells #[.int .i64 z] 3)) = W2 at *
        refine onH 13 (oi := ?_) (by kernel_rfl) ?_ ?_ (fun K hK => ?_); rotate_left; (simp only [gA, gB, gC]; exact rfl); rfl
        refine wp_append_lies _ _ _ 22 rfl w1.heap.size 3 i0 (.int .i64 0) 1 8 Try.underlying22 hi0 hz0 hz1 hz2 rfl (by decide) _ _ _ rfl HO6 ⟨w2.heap.size, 0, none⟩ 1 1 [.int .i64 z] rfl rfl hnw (by simp [Value.oneCell']) (by omega) (by unfold maxLen; omega) (by omega) (by omega) (w2.heap.size + 1) hs6 ?_
        intro g5 c5 w5 hown hgrow _ hlt5
        have B5 : Below w1.heap.size w1 w5 := Below.grown B6 hgrow (by omega) (fun b hb => (HO6.lt b hb).1)
        have HB9 := Lib.hid B5
        have HO9 := Lib.hid (show w5.ownsRow w1.heap.size 3 1 (.slice (some ⟨g5, 0, none⟩) (t + 1) c5) (t + 1) (vs (cnF l m) (t + 1)) by rw [vs_succ, HZV.out]; exact hown)
        have hbn : b < w1.heap.size := hb
        refine hK.out _ _ ⟨⟨(B5.cell (p := ⟨b, _, none⟩) hbn).trans ((B6.cell (p := ⟨b, _, none⟩) hbn).symm.trans hHeld.1.1), (B5.cell (p := ⟨b, _, none⟩) hbn).trans ((B6.cell (p := ⟨b, _, none⟩) hbn).symm.trans hHeld.1.2)⟩, (B5.cell (p := ⟨b, _, none⟩) hbn).trans ((B6.cell (p := ⟨b, _, none⟩) hbn).symm.trans hHeld.2.1), (B5.cell (p := ⟨b, _, none⟩) hbn).trans ((B6.cell (p := ⟨b, _, none⟩) hbn).symm.trans hHeld.2.2)⟩ (fun hHeldN => ?_)
        clear hnw HO6 B6 hs6 hown hgrow B5
        clear hK K hHeld
        have hHeld := hHeldN
        clear hHeldN
        try simp only [Act.put, pB, pC, pD]
        refine tkH (by assumption) 14 (oi := ?_) (v := ?_) ?_ ?_ ?_ ?_ ?_ ?_ ?_ ?_; rotate_left 2; (simp only [gA, gB, gC]; exact rfl); kernel_rfl; kernel_rfl; kernel_rfl; exact fun _ _ _ h => h; rfl; (intro w' hSw; (obtain ⟨⟨j0, j1⟩, j2, j3⟩ := hSw);go_simp; with_reducible rfl); simp only [Act.put, pB, pC, pD]
        refine wpAnyH_done (by kernel_rfl) ?_ _
        go_wp2_with (fail)
        go_roundw
        case rel => exact ⟨t + 1, _, c5, by omega, by go_num, rfl, HO9.out, HB9.out⟩
        case measure => simp [intOf] <;> omega
      · have l1 : ¬ (t : Int) < (K : Int) - 1 := by omega
        have HT := Lib.hid (show K - 1 = t by omega)
        go_wp2_with (fail)
        exact bodyPost_ret (v := .tuple #[.slice ao t co, .int .i64 0]) (by simp [results, Try.results45, go_sem]) rfl ⟨fun _ => ⟨ao, co, by rw [HLL.out, HKK.out, HT.out], by rw [HLL.out, HKK.out, HT.out]; exact own_lowU HO.out B1.out.size⟩, fun h => absurd HZ.out h, B1.out.trans (HB.out.mono B1.out.size)⟩
  · obtain rfl := h2 hz
    have HZ := Lib.hid hz
    have hz' : (mvE p m != 0) = true := by simpa using hz
    clear h1 h2 hz
    go_wp2_with (fail)
    exact bodyPost_ret (v := .tuple #[.slice none 0 0, .int .i64 (mvE p m)]) (by simp [results, Try.results45, go_sem]) rfl ⟨fun h => absurd h HZ.out, fun _ => rfl, B1.out⟩
end Go.Proofs.Ytdanlnmdkneepaa

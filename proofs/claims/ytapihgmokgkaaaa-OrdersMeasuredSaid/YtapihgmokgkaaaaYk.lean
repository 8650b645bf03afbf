/- Where a visit begins and ends: the program. -/
import Derived.Test.YtapihgmokgkaaaaYj
set_option linter.unusedSimpArgs false
set_option linter.unusedVariables false
namespace Go.Proofs.Ytapihgmokgkaaaa
open Go.RowKit

def enB (p : Pth) (v : Vis) : Nat := if p.k = true then v.s.toNat else if v.b = true then p.n - 1 else 0
def enE (p : Pth) (v : Vis) : Nat := if p.k = true then v.s.toNat else if v.b = true then 0 else p.n - 1
/-- Two points. -/
def two (bx by_ ex ey : Int) : Value := .tuple #[.agg #[.int .i64 bx, .int .i64 by_], .agg #[.int .i64 ex, .int .i64 ey]]
theorem set22 {w W : World} {a b : Nat} {x0 x1 y0 y1 : Value} (hab : a ≠ b) (h0 : (w.cell? ⟨a, 0, none⟩).isSome = true) (h1 : (w.cell? ⟨a, 1, none⟩).isSome = true) (h2 : (w.cell? ⟨b, 0, none⟩).isSome = true) (h3 : (w.cell? ⟨b, 1, none⟩).isSome = true)
    (hW : (((w.setCell ⟨a, 0, none⟩ x0).setCell ⟨a, 1, none⟩ x1).setCell ⟨b, 0, none⟩ y0).setCell ⟨b, 1, none⟩ y1 = W) : W.cell? ⟨a, 0, none⟩ = some x0 ∧ W.cell? ⟨a, 1, none⟩ = some x1 ∧ W.cell? ⟨b, 0, none⟩ = some y0 ∧ W.cell? ⟨b, 1, none⟩ = some y1 := by
  refine ⟨?_, ?_, ?_, ?_⟩
  · rw [← hW, sc_other (ne_block (Ne.symm hab)), sc_other (ne_block (Ne.symm hab)), sc_other (by simp), sc_same' h0]
  · rw [← hW, sc_other (ne_block (Ne.symm hab)), sc_other (ne_block (Ne.symm hab)), sc_same' (is_set h1)]
  · rw [← hW, sc_other (by simp), sc_same' (is_set (is_set h2))]
  · rw [← hW, sc_same' (is_set (is_set (is_set h3)))]
/-- What stays while new blocks are made and written. -/
structure Sx (w0 : World) (g b off m n c : Nat) (x y x2 y2 : Int) (w : World) : Prop where
  bel : Below w0.heap.size w0 w
  p : w.cell? ⟨g, 0, none⟩ = some (.slice (some ⟨b, off, none⟩) n c)
  c0 : w.cell? ⟨b, off, none⟩ = some (.int .i64 x)
  c1 : w.cell? ⟨b, off + 1, none⟩ = some (.int .i64 y)
  d0 : w.cell? ⟨b, off + m * 2, none⟩ = some (.int .i64 x2)
  d1 : w.cell? ⟨b, off + m * 2 + 1, none⟩ = some (.int .i64 y2)
theorem Sx.next {w0 w w' : World} {g b off m n c : Nat} {x y x2 y2 : Int} (h : Sx w0 g b off m n c x y x2 y2 w) (hb : b < w0.heap.size) (hg : g < w0.heap.size) (B : Below w0.heap.size w w') : Sx w0 g b off m n c x y x2 y2 w' := by
  obtain ⟨q0, q1, q2, q3, q4, q5⟩ := h
  exact ⟨q0.trans B, (B.cell (p := ⟨g, 0, none⟩) hg).trans q1, (B.cell (p := ⟨b, off, none⟩) hb).trans q2, (B.cell (p := ⟨b, off + 1, none⟩) hb).trans q3, (B.cell (p := ⟨b, off + m * 2, none⟩) hb).trans q4, (B.cell (p := ⟨b, off + m * 2 + 1, none⟩) hb).trans q5⟩
set_option maxRecDepth 100000 in
set_option maxHeartbeats 8000000 in
theorem ends_any (p : Pth) (v : Vis) (w : World) (hp : PtsR w p.a p.n p.X p.Y) (hn : p.n ≤ 100) (hv : VFit p v) :
    Calls Try.prog 33 #[.agg #[.slice p.a p.n p.c, .bool p.k], v.v] w fun e w' => e = .returned (two (p.X (enB p v)) (p.Y (enB p v)) (p.X (enE p v)) (p.Y (enE p v))) ∧ Below w.heap.size w w' := by
  obtain ⟨a, n, c, X, Y, k⟩ := p
  obtain ⟨q, s, bk⟩ := v
  unfold Vis.v two
  obtain ⟨vf, vg, vlo, vhi⟩ := hv
  dsimp only at *
  rcases hp with h | ⟨b, off, rfl, hb, hd⟩
  · omega
  have hn0 : 0 < n := by omega
  rcases k with _ | _
  · obtain rfl : s = 0 := vg rfl
    have hb0 : enB ⟨some ⟨b, off, none⟩, n, c, X, Y, false⟩ ⟨q, 0, bk⟩ = if bk = true then n - 1 else 0 := by simp [enB]
    have he0 : enE ⟨some ⟨b, off, none⟩, n, c, X, Y, false⟩ ⟨q, 0, bk⟩ = if bk = true then 0 else n - 1 := by simp [enE]
    rw [hb0, he0]
    obtain ⟨m, hm⟩ : ∃ m, m = n - 1 := ⟨_, rfl⟩
    rw [← hm]
    have hmw : IntKind.i64.wrap ((n : Int) - 1) = (m : Int) := by rw [IntKind.wrap_i64]; omega
    have hmi : (m : Int) < (n : Int) := by omega
    have hni : (0 : Int) < (n : Int) := by omega
    obtain ⟨c0, c1⟩ := hd 0 hn0
    obtain ⟨d0, d1⟩ := hd m (by omega)
    simp only [Nat.zero_mul, Nat.add_zero] at c0 c1
    clear vlo vhi vf vg hb0 he0 hd hm
    obtain ⟨x, hx⟩ : ∃ x, X 0 = x := ⟨_, rfl⟩
    obtain ⟨y, hy⟩ : ∃ y, Y 0 = y := ⟨_, rfl⟩
    obtain ⟨x2, hx2⟩ : ∃ x, X m = x := ⟨_, rfl⟩
    obtain ⟨y2, hy2⟩ : ∃ y, Y m = y := ⟨_, rfl⟩
    rw [hx] at c0
    rw [hy] at c1
    rw [hx2] at d0
    rw [hy2] at d1
    have HX := Lib.hid hx
    have HY := Lib.hid hy
    have HX2 := Lib.hid hx2
    have HY2 := Lib.hid hy2
    clear hx hy hx2 hy2
    go_enter Try.func33, Try.ntmps33
    go_wp2_with (fail)
    generalize hw0 : ((((w.alloc (.cells #[.slice (some ⟨b, off, none⟩) n c, .bool false] 59)).alloc (.cells #[.int .i64 q, .int .i64 0, .bool bk] 34)).alloc (.cells #[.int .i64 0, .int .i64 0] 27)).alloc (.cells #[.int .i64 0, .int .i64 0] 27)) = w0
    have B0 : Below w.heap.size w w0 := by rw [← hw0]; exact (by repeat (first | exact Below.refl _ _ | assumption | refine Below.drew ?_ | refine bdrewN ?_ _ | refine Below.setCell ?_ (by first | omega | (simp <;> omega)) _ | refine Below.alloc ?_ (by first | omega | (simp <;> omega)) _))
    have hws : w0.heap.size = w.heap.size + 1 + 1 + 1 + 1 := by rw [← hw0]; simp
    have r00 : w0.cell? ⟨w.heap.size, 0, none⟩ = some (.slice (some ⟨b, off, none⟩) n c) := by rw [← hw0]; simp [go_sem]
    have r01 : w0.cell? ⟨w.heap.size, 1, none⟩ = some (.bool false) := by rw [← hw0]; simp [go_sem]
    have r11 : w0.cell? ⟨w.heap.size + 1, 1, none⟩ = some (.int .i64 0) := by rw [← hw0]; simp [go_sem]
    have r12 : w0.cell? ⟨w.heap.size + 1, 2, none⟩ = some (.bool bk) := by rw [← hw0]; simp [go_sem]
    have r20 : w0.cell? ⟨w.heap.size + 1 + 1, 0, none⟩ = some (.int .i64 0) := by rw [← hw0]; simp [go_sem]
    have r21 : w0.cell? ⟨w.heap.size + 1 + 1, 1, none⟩ = some (.int .i64 0) := by rw [← hw0]; simp [go_sem]
    have r30 : w0.cell? ⟨w.heap.size + 1 + 1 + 1, 0, none⟩ = some (.int .i64 0) := by rw [← hw0]; simp [go_sem]
    have r31 : w0.cell? ⟨w.heap.size + 1 + 1 + 1, 1, none⟩ = some (.int .i64 0) := by rw [← hw0]; simp [go_sem]
    have z20 : w0.frozen? ⟨w.heap.size + 1 + 1, 0, none⟩ = false := by rw [← hw0]; simp [go_sem]
    have z21 : w0.frozen? ⟨w.heap.size + 1 + 1, 1, none⟩ = false := by rw [← hw0]; simp [go_sem]
    have z30 : w0.frozen? ⟨w.heap.size + 1 + 1 + 1, 0, none⟩ = false := by rw [← hw0]; simp [go_sem]
    have z31 : w0.frozen? ⟨w.heap.size + 1 + 1 + 1, 1, none⟩ = false := by rw [← hw0]; simp [go_sem]
    have hbl : b < w0.heap.size := by omega
    have n2 : b ≠ w.heap.size + 1 + 1 := by omega
    have n3 : b ≠ w.heap.size + 1 + 1 + 1 := by omega
    have i2 := is_some r20
    have i3 := is_some r21
    have i4 := is_some r30
    have i5 := is_some r31
    have I2 := Lib.hid i2
    have I3 := Lib.hid i3
    have I4 := Lib.hid i4
    have I5 := Lib.hid i5
    have HB0 := Lib.hid B0
    clear i2 i3 i4 i5 hw0 B0
    replace c0 := cellk HB0.out hb c0
    replace c1 := cellk HB0.out hb c1
    replace d0 := cellk HB0.out hb d0
    replace d1 := cellk HB0.out hb d1
    have hgl : w.heap.size < w0.heap.size := by omega
    have HWS := Lib.hid hws
    have HS0 : Hid (Sx w0 w.heap.size b off m n c x y x2 y2 w0) := Lib.hid ⟨Below.refl _ _, r00, c0, c1, d0, d1⟩
    clear hws
    refine wp_region_held_drew (S := Sx w0 w.heap.size b off m n c x y x2 y2) (by kernel_rfl) ⟨(Below.refl _ _).drew, r00, c0, c1, d0, d1⟩ (fun hHeld => ?_)
    refine tkH (by assumption) 0 (oi := ?_) (v := ?_) ?_ ?_ ?_ ?_ ?_ ?_ ?_ ?_; rotate_left 2; (simp only [gA, gB, gC]; exact rfl); kernel_rfl; kernel_rfl; kernel_rfl; exact fun _ _ _ h => h; rfl; (intro w' hSw; (obtain ⟨q0, q1, q2, q3, q4, q5⟩ := hSw);go_simp; with_reducible rfl); simp only [Act.put, pB, pC, pD]
    refine tkH (by assumption) 1 (oi := ?_) (v := ?_) ?_ ?_ ?_ ?_ ?_ ?_ ?_ ?_; rotate_left 2; (simp only [gA, gB, gC]; exact rfl); kernel_rfl; kernel_rfl; kernel_rfl; exact fun _ _ _ h => h; rfl; (intro w' hSw; (obtain ⟨q0, q1, q2, q3, q4, q5⟩ := hSw);go_simp; with_reducible rfl); simp only [Act.put, pB, pC, pD]
    refine tkH (by assumption) 2 (oi := ?_) (v := ?_) ?_ ?_ ?_ ?_ ?_ ?_ ?_ ?_; rotate_left 2; (simp only [gA, gB, gC]; exact rfl); kernel_rfl; kernel_rfl; kernel_rfl; exact fun _ _ _ h => h; rfl; (intro w' hSw; (obtain ⟨q0, q1, q2, q3, q4, q5⟩ := hSw);go_simp; with_reducible rfl); simp only [Act.put, pB, pC, pD]
    refine tkH (by assumption) 3 (oi := ?_) (v := ?_) ?_ ?_ ?_ ?_ ?_ ?_ ?_ ?_; rotate_left 2; (simp only [gA, gB, gC]; exact rfl); kernel_rfl; kernel_rfl; kernel_rfl; exact fun _ _ _ h => h; rfl; (intro w' hSw; (obtain ⟨q0, q1, q2, q3, q4, q5⟩ := hSw);go_simp; with_reducible rfl); simp only [Act.put, pB, pC, pD]
    refine tkH (by assumption) 4 (oi := ?_) (v := ?_) ?_ ?_ ?_ ?_ ?_ ?_ ?_ ?_; rotate_left 2; (simp only [gA, gB, gC]; exact rfl); kernel_rfl; kernel_rfl; kernel_rfl; exact fun _ _ _ h => h; rfl; (intro w' hSw; (obtain ⟨q0, q1, q2, q3, q4, q5⟩ := hSw);go_simp; with_reducible rfl); simp only [Act.put, pB, pC, pD]
    refine tkH (by assumption) 5 (oi := ?_) (v := ?_) ?_ ?_ ?_ ?_ ?_ ?_ ?_ ?_; rotate_left 2; (simp only [gA, gB, gC]; exact rfl); kernel_rfl; kernel_rfl; kernel_rfl; exact fun _ _ _ h => h; rfl; (intro w' hSw; (obtain ⟨q0, q1, q2, q3, q4, q5⟩ := hSw);go_simp; with_reducible rfl); simp only [Act.put, pB, pC, pD]
    refine tkH (by assumption) 6 (oi := ?_) (v := ?_) ?_ ?_ ?_ ?_ ?_ ?_ ?_ ?_; rotate_left 2; (simp only [gA, gB, gC]; exact rfl); kernel_rfl; kernel_rfl; kernel_rfl; exact fun _ _ _ h => h; rfl; (intro w' hSw; (obtain ⟨q0, q1, q2, q3, q4, q5⟩ := hSw);go_simp; with_reducible rfl); simp only [Act.put, pB, pC, pD]
    refine tkH (by assumption) 7 (oi := ?_) (v := ?_) ?_ ?_ ?_ ?_ ?_ ?_ ?_ ?_; rotate_left 2; (simp only [gA, gB, gC]; exact rfl); kernel_rfl; kernel_rfl; kernel_rfl; exact fun _ _ _ h => h; rfl; (intro w' hSw; (obtain ⟨q0, q1, q2, q3, q4, q5⟩ := hSw);go_simp; with_reducible rfl); simp only [Act.put, pB, pC, pD]
    refine tkH (by assumption) 8 (oi := ?_) (v := ?_) ?_ ?_ ?_ ?_ ?_ ?_ ?_ ?_; rotate_left 2; (simp only [gA, gB, gC]; exact rfl); kernel_rfl; kernel_rfl; kernel_rfl; exact fun _ _ _ h => h; rfl; (intro w' hSw; (obtain ⟨q0, q1, q2, q3, q4, q5⟩ := hSw);go_simp; with_reducible rfl); simp only [Act.put, pB, pC, pD]
    refine tkH (by assumption) 9 (oi := ?_) (v := ?_) ?_ ?_ ?_ ?_ ?_ ?_ ?_ ?_; rotate_left 2; (simp only [gA, gB, gC]; exact rfl); kernel_rfl; kernel_rfl; kernel_rfl; exact fun _ _ _ h => h; rfl; (intro w' hSw; (obtain ⟨q0, q1, q2, q3, q4, q5⟩ := hSw);go_simp; with_reducible rfl); simp only [Act.put, pB, pC, pD]
    refine tkH (by assumption) 10 (oi := ?_) (v := ?_) ?_ ?_ ?_ ?_ ?_ ?_ ?_ ?_; rotate_left 2; (simp only [gA, gB, gC]; exact rfl); kernel_rfl; kernel_rfl; kernel_rfl; exact fun _ _ _ h => h; rfl; (intro w' hSw; (obtain ⟨q0, q1, q2, q3, q4, q5⟩ := hSw);go_simp; with_reducible rfl); simp only [Act.put, pB, pC, pD]
    refine tkH (by assumption) 11 (oi := ?_) (v := ?_) ?_ ?_ ?_ ?_ ?_ ?_ ?_ ?_; rotate_left 2; (simp only [gA, gB, gC]; exact rfl); kernel_rfl; kernel_rfl; kernel_rfl; exact fun _ _ _ h => h; rfl; (intro w' hSw; (obtain ⟨q0, q1, q2, q3, q4, q5⟩ := hSw);go_simp; with_reducible rfl); simp only [Act.put, pB, pC, pD]
    refine wpAnyH_ready (rs := [12, 13]) (by kernel_rfl) (by simp) ?_
    refine coH 12 (oi := ?_) ?_ ?_ (fun K hK => ?_) ?_; rotate_left; (simp only [gA, gB, gC]; exact rfl); rfl
    · go_wp2_with (fail)
      refine hK.out _ _ ?_ (fun hHeldN => ?_)
      · exact HS0.out.next hbl hgl (by repeat (first | exact Below.refl _ _ | assumption | refine Below.drew ?_ | refine bdrewN ?_ _ | refine Below.setCell ?_ (by first | omega | (simp <;> omega)) _ | refine Below.alloc ?_ (by first | omega | (simp <;> omega)) _))
      clear hK K hHeld
      have hHeld := hHeldN
      clear hHeldN
      try simp only [Act.put, pB, pC, pD]
      refine wpAnyH_ready (rs := [13]) (by kernel_rfl) (by simp) ?_
      refine coH 13 (oi := ?_) ?_ ?_ (fun K hK => ?_) ?_; rotate_left; (simp only [gA, gB, gC]; exact rfl); rfl
      · go_wp2_with (fail)
        refine hK.out _ _ ?_ (fun hHeldN => ?_)
        · exact HS0.out.next hbl hgl (by repeat (first | exact Below.refl _ _ | assumption | refine Below.drew ?_ | refine bdrewN ?_ _ | refine Below.setCell ?_ (by first | omega | (simp <;> omega)) _ | refine Below.alloc ?_ (by first | omega | (simp <;> omega)) _))
        clear hK K hHeld
        have hHeld := hHeldN
        clear hHeldN
        try simp only [Act.put, pB, pC, pD]
        refine wpAnyH_ready (rs := [14]) (by kernel_rfl) (by simp) ?_
        refine coH 14 (oi := ?_) ?_ ?_ (fun K hK => ?_) ?_; rotate_left; (simp only [gA, gB, gC]; exact rfl); rfl
        · go_wp2_with (fail)
          refine hK.out _ _ ?_ (fun hHeldN => ?_)
          · exact HS0.out.next hbl hgl (by repeat (first | exact Below.refl _ _ | assumption | refine Below.drew ?_ | refine bdrewN ?_ _ | refine Below.setCell ?_ (by first | omega | (simp <;> omega)) _ | refine Below.alloc ?_ (by first | omega | (simp <;> omega)) _))
          clear hK K hHeld
          have hHeld := hHeldN
          clear hHeldN
          try simp only [Act.put, pB, pC, pD]
          refine wpAnyH_ready (rs := [15]) (by kernel_rfl) (by simp) ?_
          refine coH 15 (oi := ?_) ?_ ?_ (fun K hK => ?_) ?_; rotate_left; (simp only [gA, gB, gC]; exact rfl); rfl
          · go_wp2_with (fail)
            refine hK.out _ _ ?_ (fun hHeldN => ?_)
            · exact HS0.out.next hbl hgl (by repeat (first | exact Below.refl _ _ | assumption | refine Below.drew ?_ | refine bdrewN ?_ _ | refine Below.setCell ?_ (by first | omega | (simp <;> omega)) _ | refine Below.alloc ?_ (by first | omega | (simp <;> omega)) _))
            clear hK K hHeld
            have hHeld := hHeldN
            clear hHeldN
            try simp only [Act.put, pB, pC, pD]
            refine wpAnyH_done (by kernel_rfl) ?_ _
            clear hHeld
            have BW : Below w0.heap.size w0 (((w0.alloc (.cells #[.int .i64 x, .int .i64 y] 27)).alloc (.cells #[.int .i64 x2, .int .i64 y2] 27)).drew) := (by repeat (first | exact Below.refl _ _ | assumption | refine Below.drew ?_ | refine bdrewN ?_ _ | refine Below.setCell ?_ (by first | omega | (simp <;> omega)) _ | refine Below.alloc ?_ (by first | omega | (simp <;> omega)) _))
            have k60 : (((w0.alloc (.cells #[.int .i64 x, .int .i64 y] 27)).alloc (.cells #[.int .i64 x2, .int .i64 y2] 27)).drew).cell? ⟨w0.heap.size, 0, none⟩ = some (.int .i64 x) := by simp [go_sem]
            have k61 : (((w0.alloc (.cells #[.int .i64 x, .int .i64 y] 27)).alloc (.cells #[.int .i64 x2, .int .i64 y2] 27)).drew).cell? ⟨w0.heap.size, 1, none⟩ = some (.int .i64 y) := by simp [go_sem]
            have k70 : (((w0.alloc (.cells #[.int .i64 x, .int .i64 y] 27)).alloc (.cells #[.int .i64 x2, .int .i64 y2] 27)).drew).cell? ⟨w0.heap.size + 1, 0, none⟩ = some (.int .i64 x2) := by simp [go_sem]
            have k71 : (((w0.alloc (.cells #[.int .i64 x, .int .i64 y] 27)).alloc (.cells #[.int .i64 x2, .int .i64 y2] 27)).drew).cell? ⟨w0.heap.size + 1, 1, none⟩ = some (.int .i64 y2) := by simp [go_sem]
            generalize (((w0.alloc (.cells #[.int .i64 x, .int .i64 y] 27)).alloc (.cells #[.int .i64 x2, .int .i64 y2] 27)).drew) = W1 at *
            have hws := HWS.out
            have m12 := cellk BW (by show w.heap.size + 1 < w0.heap.size; omega) r12
            have m20 := cellk BW (by show w.heap.size + 1 + 1 < w0.heap.size; omega) r20
            have f20 := (BW.frozen (p := ⟨w.heap.size + 1 + 1, 0, none⟩) (by show w.heap.size + 1 + 1 < w0.heap.size; omega)).trans z20
            have m30 := cellk BW (by show w.heap.size + 1 + 1 + 1 < w0.heap.size; omega) r30
            have f30 := (BW.frozen (p := ⟨w.heap.size + 1 + 1 + 1, 0, none⟩) (by show w.heap.size + 1 + 1 + 1 < w0.heap.size; omega)).trans z30
            have m21 := cellk BW (by show w.heap.size + 1 + 1 < w0.heap.size; omega) r21
            have f21 := (BW.frozen (p := ⟨w.heap.size + 1 + 1, 1, none⟩) (by show w.heap.size + 1 + 1 < w0.heap.size; omega)).trans z21
            have m31 := cellk BW (by show w.heap.size + 1 + 1 + 1 < w0.heap.size; omega) r31
            have f31 := (BW.frozen (p := ⟨w.heap.size + 1 + 1 + 1, 1, none⟩) (by show w.heap.size + 1 + 1 + 1 < w0.heap.size; omega)).trans z31
            have HBW := Lib.hid (HB0.out.trans (BW.mono (by omega)))
            have e1 : w0.heap.size + 1 = w.heap.size + 1 + 1 + 1 + 1 + 1 := by omega
            rw [hws] at k60 k61 k70 k71
            have J2 := Lib.hid (is_some m20)
            have J3 := Lib.hid (is_some m21)
            have J4 := Lib.hid (is_some m30)
            have J5 := Lib.hid (is_some m31)
            clear BW e1 c0 c1 d0 d1 r00 r01 r11 r12 r20 r21 r30 r31 z20 z21 z30 z31
            try rw [hws]
            clear hws
            rcases bk with _ | _
            · go_wp2_with (fail)
              go_region
              all_goals
                generalize hW : World.setCell _ _ _ = W
                obtain ⟨g0, g1, g2, g3⟩ : W.cell? ⟨w.heap.size + 1 + 1, 0, none⟩ = some (.int .i64 x) ∧ W.cell? ⟨w.heap.size + 1 + 1, 1, none⟩ = some (.int .i64 y) ∧ W.cell? ⟨w.heap.size + 1 + 1 + 1, 0, none⟩ = some (.int .i64 x2) ∧ W.cell? ⟨w.heap.size + 1 + 1 + 1, 1, none⟩ = some (.int .i64 y2) := set22 (by omega) J2.out J3.out J4.out J5.out hW
                have HB : Hid (Below w.heap.size w W) := by rw [← hW]; exact ((((HBW.out).setCell (by dsimp only; omega) _).setCell (by dsimp only; omega) _).setCell (by dsimp only; omega) _).setCell (by dsimp only; omega) _
                clear hW
                go_wp2
                exact bodyPost_ret (v := .tuple #[.agg #[.int .i64 x, .int .i64 y], .agg #[.int .i64 x2, .int .i64 y2]]) (by simp [results, Try.results33, go_sem, g0, g1, g2, g3]) rfl ⟨by simp [HX.out, HY.out, HX2.out, HY2.out], by first | exact HB.out | exact HB.out.drew | exact bdrewN HB.out _⟩
            · go_wp2_with (fail)
              go_region
              all_goals
                generalize hW : World.setCell _ _ _ = W
                obtain ⟨g0, g1, g2, g3⟩ : W.cell? ⟨w.heap.size + 1 + 1, 0, none⟩ = some (.int .i64 x2) ∧ W.cell? ⟨w.heap.size + 1 + 1, 1, none⟩ = some (.int .i64 y2) ∧ W.cell? ⟨w.heap.size + 1 + 1 + 1, 0, none⟩ = some (.int .i64 x) ∧ W.cell? ⟨w.heap.size + 1 + 1 + 1, 1, none⟩ = some (.int .i64 y) := set22 (by omega) J2.out J3.out J4.out J5.out hW
                have HB : Hid (Below w.heap.size w W) := by rw [← hW]; exact ((((HBW.out).setCell (by dsimp only; omega) _).setCell (by dsimp only; omega) _).setCell (by dsimp only; omega) _).setCell (by dsimp only; omega) _
                clear hW
                go_wp2
                exact bodyPost_ret (v := .tuple #[.agg #[.int .i64 x2, .int .i64 y2], .agg #[.int .i64 x, .int .i64 y]]) (by simp [results, Try.results33, go_sem, g0, g1, g2, g3]) rfl ⟨by simp [HX.out, HY.out, HX2.out, HY2.out], by first | exact HB.out | exact HB.out.drew | exact bdrewN HB.out _⟩
          exact AllReadyH.nil
        exact AllReadyH.nil
      exact AllReadyH.nil
    refine coH 13 (oi := ?_) ?_ ?_ (fun K hK => ?_) ?_; rotate_left; (simp only [gA, gB, gC]; exact rfl); rfl
    · go_wp2_with (fail)
      refine hK.out _ _ ?_ (fun hHeldN => ?_)
      · exact HS0.out.next hbl hgl (by repeat (first | exact Below.refl _ _ | assumption | refine Below.drew ?_ | refine bdrewN ?_ _ | refine Below.setCell ?_ (by first | omega | (simp <;> omega)) _ | refine Below.alloc ?_ (by first | omega | (simp <;> omega)) _))
      clear hK K hHeld
      have hHeld := hHeldN
      clear hHeldN
      try simp only [Act.put, pB, pC, pD]
      refine wpAnyH_ready (rs := [12]) (by kernel_rfl) (by simp) ?_
      refine coH 12 (oi := ?_) ?_ ?_ (fun K hK => ?_) ?_; rotate_left; (simp only [gA, gB, gC]; exact rfl); rfl
      · go_wp2_with (fail)
        refine hK.out _ _ ?_ (fun hHeldN => ?_)
        · exact HS0.out.next hbl hgl (by repeat (first | exact Below.refl _ _ | assumption | refine Below.drew ?_ | refine bdrewN ?_ _ | refine Below.setCell ?_ (by first | omega | (simp <;> omega)) _ | refine Below.alloc ?_ (by first | omega | (simp <;> omega)) _))
        clear hK K hHeld
        have hHeld := hHeldN
        clear hHeldN
        try simp only [Act.put, pB, pC, pD]
        refine wpAnyH_ready (rs := [14]) (by kernel_rfl) (by simp) ?_
        refine coH 14 (oi := ?_) ?_ ?_ (fun K hK => ?_) ?_; rotate_left; (simp only [gA, gB, gC]; exact rfl); rfl
        · go_wp2_with (fail)
          refine hK.out _ _ ?_ (fun hHeldN => ?_)
          · exact HS0.out.next hbl hgl (by repeat (first | exact Below.refl _ _ | assumption | refine Below.drew ?_ | refine bdrewN ?_ _ | refine Below.setCell ?_ (by first | omega | (simp <;> omega)) _ | refine Below.alloc ?_ (by first | omega | (simp <;> omega)) _))
          clear hK K hHeld
          have hHeld := hHeldN
          clear hHeldN
          try simp only [Act.put, pB, pC, pD]
          refine wpAnyH_ready (rs := [15]) (by kernel_rfl) (by simp) ?_
          refine coH 15 (oi := ?_) ?_ ?_ (fun K hK => ?_) ?_; rotate_left; (simp only [gA, gB, gC]; exact rfl); rfl
          · go_wp2_with (fail)
            refine hK.out _ _ ?_ (fun hHeldN => ?_)
            · exact HS0.out.next hbl hgl (by repeat (first | exact Below.refl _ _ | assumption | refine Below.drew ?_ | refine bdrewN ?_ _ | refine Below.setCell ?_ (by first | omega | (simp <;> omega)) _ | refine Below.alloc ?_ (by first | omega | (simp <;> omega)) _))
            clear hK K hHeld
            have hHeld := hHeldN
            clear hHeldN
            try simp only [Act.put, pB, pC, pD]
            refine wpAnyH_done (by kernel_rfl) ?_ _
            clear hHeld
            have BW : Below w0.heap.size w0 (((w0.alloc (.cells #[.int .i64 x2, .int .i64 y2] 27)).alloc (.cells #[.int .i64 x, .int .i64 y] 27)).drew) := (by repeat (first | exact Below.refl _ _ | assumption | refine Below.drew ?_ | refine bdrewN ?_ _ | refine Below.setCell ?_ (by first | omega | (simp <;> omega)) _ | refine Below.alloc ?_ (by first | omega | (simp <;> omega)) _))
            have k60 : (((w0.alloc (.cells #[.int .i64 x2, .int .i64 y2] 27)).alloc (.cells #[.int .i64 x, .int .i64 y] 27)).drew).cell? ⟨w0.heap.size + 1, 0, none⟩ = some (.int .i64 x) := by simp [go_sem]
            have k61 : (((w0.alloc (.cells #[.int .i64 x2, .int .i64 y2] 27)).alloc (.cells #[.int .i64 x, .int .i64 y] 27)).drew).cell? ⟨w0.heap.size + 1, 1, none⟩ = some (.int .i64 y) := by simp [go_sem]
            have k70 : (((w0.alloc (.cells #[.int .i64 x2, .int .i64 y2] 27)).alloc (.cells #[.int .i64 x, .int .i64 y] 27)).drew).cell? ⟨w0.heap.size, 0, none⟩ = some (.int .i64 x2) := by simp [go_sem]
            have k71 : (((w0.alloc (.cells #[.int .i64 x2, .int .i64 y2] 27)).alloc (.cells #[.int .i64 x, .int .i64 y] 27)).drew).cell? ⟨w0.heap.size, 1, none⟩ = some (.int .i64 y2) := by simp [go_sem]
            generalize (((w0.alloc (.cells #[.int .i64 x2, .int .i64 y2] 27)).alloc (.cells #[.int .i64 x, .int .i64 y] 27)).drew) = W1 at *
            have hws := HWS.out
            have m12 := cellk BW (by show w.heap.size + 1 < w0.heap.size; omega) r12
            have m20 := cellk BW (by show w.heap.size + 1 + 1 < w0.heap.size; omega) r20
            have f20 := (BW.frozen (p := ⟨w.heap.size + 1 + 1, 0, none⟩) (by show w.heap.size + 1 + 1 < w0.heap.size; omega)).trans z20
            have m30 := cellk BW (by show w.heap.size + 1 + 1 + 1 < w0.heap.size; omega) r30
            have f30 := (BW.frozen (p := ⟨w.heap.size + 1 + 1 + 1, 0, none⟩) (by show w.heap.size + 1 + 1 + 1 < w0.heap.size; omega)).trans z30
            have m21 := cellk BW (by show w.heap.size + 1 + 1 < w0.heap.size; omega) r21
            have f21 := (BW.frozen (p := ⟨w.heap.size + 1 + 1, 1, none⟩) (by show w.heap.size + 1 + 1 < w0.heap.size; omega)).trans z21
            have m31 := cellk BW (by show w.heap.size + 1 + 1 + 1 < w0.heap.size; omega) r31
            have f31 := (BW.frozen (p := ⟨w.heap.size + 1 + 1 + 1, 1, none⟩) (by show w.heap.size + 1 + 1 + 1 < w0.heap.size; omega)).trans z31
            have HBW := Lib.hid (HB0.out.trans (BW.mono (by omega)))
            have e1 : w0.heap.size + 1 = w.heap.size + 1 + 1 + 1 + 1 + 1 := by omega
            rw [hws] at k60 k61 k70 k71
            have J2 := Lib.hid (is_some m20)
            have J3 := Lib.hid (is_some m21)
            have J4 := Lib.hid (is_some m30)
            have J5 := Lib.hid (is_some m31)
            clear BW e1 c0 c1 d0 d1 r00 r01 r11 r12 r20 r21 r30 r31 z20 z21 z30 z31
            try rw [hws]
            clear hws
            rcases bk with _ | _
            · go_wp2_with (fail)
              go_region
              all_goals
                generalize hW : World.setCell _ _ _ = W
                obtain ⟨g0, g1, g2, g3⟩ : W.cell? ⟨w.heap.size + 1 + 1, 0, none⟩ = some (.int .i64 x) ∧ W.cell? ⟨w.heap.size + 1 + 1, 1, none⟩ = some (.int .i64 y) ∧ W.cell? ⟨w.heap.size + 1 + 1 + 1, 0, none⟩ = some (.int .i64 x2) ∧ W.cell? ⟨w.heap.size + 1 + 1 + 1, 1, none⟩ = some (.int .i64 y2) := set22 (by omega) J2.out J3.out J4.out J5.out hW
                have HB : Hid (Below w.heap.size w W) := by rw [← hW]; exact ((((HBW.out).setCell (by dsimp only; omega) _).setCell (by dsimp only; omega) _).setCell (by dsimp only; omega) _).setCell (by dsimp only; omega) _
                clear hW
                go_wp2
                exact bodyPost_ret (v := .tuple #[.agg #[.int .i64 x, .int .i64 y], .agg #[.int .i64 x2, .int .i64 y2]]) (by simp [results, Try.results33, go_sem, g0, g1, g2, g3]) rfl ⟨by simp [HX.out, HY.out, HX2.out, HY2.out], by first | exact HB.out | exact HB.out.drew | exact bdrewN HB.out _⟩
            · go_wp2_with (fail)
              go_region
              all_goals
                generalize hW : World.setCell _ _ _ = W
                obtain ⟨g0, g1, g2, g3⟩ : W.cell? ⟨w.heap.size + 1 + 1, 0, none⟩ = some (.int .i64 x2) ∧ W.cell? ⟨w.heap.size + 1 + 1, 1, none⟩ = some (.int .i64 y2) ∧ W.cell? ⟨w.heap.size + 1 + 1 + 1, 0, none⟩ = some (.int .i64 x) ∧ W.cell? ⟨w.heap.size + 1 + 1 + 1, 1, none⟩ = some (.int .i64 y) := set22 (by omega) J2.out J3.out J4.out J5.out hW
                have HB : Hid (Below w.heap.size w W) := by rw [← hW]; exact ((((HBW.out).setCell (by dsimp only; omega) _).setCell (by dsimp only; omega) _).setCell (by dsimp only; omega) _).setCell (by dsimp only; omega) _
                clear hW
                go_wp2
                exact bodyPost_ret (v := .tuple #[.agg #[.int .i64 x2, .int .i64 y2], .agg #[.int .i64 x, .int .i64 y]]) (by simp [results, Try.results33, go_sem, g0, g1, g2, g3]) rfl ⟨by simp [HX.out, HY.out, HX2.out, HY2.out], by first | exact HB.out | exact HB.out.drew | exact bdrewN HB.out _⟩
          exact AllReadyH.nil
        exact AllReadyH.nil
      exact AllReadyH.nil
    exact AllReadyH.nil
  · obtain ⟨u, rfl⟩ := Int.eq_ofNat_of_zero_le vlo
    have hun : u < n := by omega
    have hui : (u : Int) < (n : Int) := by omega
    have hb0 : enB ⟨some ⟨b, off, none⟩, n, c, X, Y, true⟩ ⟨q, u, bk⟩ = u := rfl
    have he0 : enE ⟨some ⟨b, off, none⟩, n, c, X, Y, true⟩ ⟨q, u, bk⟩ = u := rfl
    rw [hb0, he0]
    obtain ⟨c0, c1⟩ := hd u hun
    obtain rfl : bk = false := vf rfl
    clear vlo vhi vf vg hb0 he0 hd
    generalize X u = x at *
    generalize Y u = y at *
    go_enter Try.func33, Try.ntmps33
    go_wp2_with (fail)
    generalize hw0 : ((((w.alloc (.cells #[.slice (some ⟨b, off, none⟩) n c, .bool true] 59)).alloc (.cells #[.int .i64 q, .int .i64 u, .bool false] 34)).alloc (.cells #[.int .i64 0, .int .i64 0] 27)).alloc (.cells #[.int .i64 0, .int .i64 0] 27)) = w0
    have B0 : Below w.heap.size w w0 := by rw [← hw0]; exact (by repeat (first | exact Below.refl _ _ | assumption | refine Below.drew ?_ | refine bdrewN ?_ _ | refine Below.setCell ?_ (by first | omega | (simp <;> omega)) _ | refine Below.alloc ?_ (by first | omega | (simp <;> omega)) _))
    have hws : w0.heap.size = w.heap.size + 1 + 1 + 1 + 1 := by rw [← hw0]; simp
    have r00 : w0.cell? ⟨w.heap.size, 0, none⟩ = some (.slice (some ⟨b, off, none⟩) n c) := by rw [← hw0]; simp [go_sem]
    have r01 : w0.cell? ⟨w.heap.size, 1, none⟩ = some (.bool true) := by rw [← hw0]; simp [go_sem]
    have r11 : w0.cell? ⟨w.heap.size + 1, 1, none⟩ = some (.int .i64 u) := by rw [← hw0]; simp [go_sem]
    have r12 : w0.cell? ⟨w.heap.size + 1, 2, none⟩ = some (.bool false) := by rw [← hw0]; simp [go_sem]
    have r20 : w0.cell? ⟨w.heap.size + 1 + 1, 0, none⟩ = some (.int .i64 0) := by rw [← hw0]; simp [go_sem]
    have r21 : w0.cell? ⟨w.heap.size + 1 + 1, 1, none⟩ = some (.int .i64 0) := by rw [← hw0]; simp [go_sem]
    have r30 : w0.cell? ⟨w.heap.size + 1 + 1 + 1, 0, none⟩ = some (.int .i64 0) := by rw [← hw0]; simp [go_sem]
    have r31 : w0.cell? ⟨w.heap.size + 1 + 1 + 1, 1, none⟩ = some (.int .i64 0) := by rw [← hw0]; simp [go_sem]
    have z20 : w0.frozen? ⟨w.heap.size + 1 + 1, 0, none⟩ = false := by rw [← hw0]; simp [go_sem]
    have z21 : w0.frozen? ⟨w.heap.size + 1 + 1, 1, none⟩ = false := by rw [← hw0]; simp [go_sem]
    have z30 : w0.frozen? ⟨w.heap.size + 1 + 1 + 1, 0, none⟩ = false := by rw [← hw0]; simp [go_sem]
    have z31 : w0.frozen? ⟨w.heap.size + 1 + 1 + 1, 1, none⟩ = false := by rw [← hw0]; simp [go_sem]
    have hbl : b < w0.heap.size := by omega
    have n2 : b ≠ w.heap.size + 1 + 1 := by omega
    have n3 : b ≠ w.heap.size + 1 + 1 + 1 := by omega
    have i2 := is_some r20
    have i3 := is_some r21
    have i4 := is_some r30
    have i5 := is_some r31
    have I2 := Lib.hid i2
    have I3 := Lib.hid i3
    have I4 := Lib.hid i4
    have I5 := Lib.hid i5
    have HB0 := Lib.hid B0
    clear i2 i3 i4 i5 hw0 B0
    replace c0 := cellk HB0.out hb c0
    replace c1 := cellk HB0.out hb c1
    go_region
    all_goals
      generalize hW : World.setCell _ _ _ = W
      obtain ⟨g0, g1, g2, g3⟩ : W.cell? ⟨w.heap.size + 1 + 1, 0, none⟩ = some (.int .i64 x) ∧ W.cell? ⟨w.heap.size + 1 + 1, 1, none⟩ = some (.int .i64 y) ∧ W.cell? ⟨w.heap.size + 1 + 1 + 1, 0, none⟩ = some (.int .i64 x) ∧ W.cell? ⟨w.heap.size + 1 + 1 + 1, 1, none⟩ = some (.int .i64 y) := by
        first
          | exact set22 (by omega) I2.out I3.out I4.out I5.out hW
          | (obtain ⟨a0, a1, a2, a3⟩ := set22 (by omega) I4.out I5.out I2.out I3.out hW; exact ⟨a2, a3, a0, a1⟩)
      have HB : Hid (Below w.heap.size w W) := by rw [← hW]; exact ((((HB0.out).setCell (by dsimp only; omega) _).setCell (by dsimp only; omega) _).setCell (by dsimp only; omega) _).setCell (by dsimp only; omega) _
      clear hW
      go_wp2
      exact bodyPost_ret (v := .tuple #[.agg #[.int .i64 x, .int .i64 y], .agg #[.int .i64 x, .int .i64 y]]) (by simp [results, Try.results33, go_sem, g0, g1, g2, g3]) rfl ⟨rfl, by first | exact HB.out | exact HB.out.drew | exact bdrewN HB.out _⟩
end Go.Proofs.Ytapihgmokgkaaaa

/- EndsOf, PrintedBy and TravelOf of the reference. -/
import Derived.Test.YtapihgmokgkaaaaYn
set_option linter.unusedSimpArgs false
set_option linter.unusedVariables false
namespace Go.Proofs.Ytapihgmokgkaaaa
open Go.RowKit

theorem pr_first {p : Pth} {v : Vis} (h : VFit p v) (Z : Nat → Int) : prX p v Z 0 = Z (enB p v) := by
  obtain ⟨h1, h2, h3, h4⟩ := h
  unfold prX enB
  rcases hk : p.k with _ | _
  · rcases hb : v.b with _ | _
    · simp
    · simp [rv]
  · simp only [if_true]
    have : 0 < p.n - v.s.toNat := by omega
    simp [ap, this]
theorem pr_last {p : Pth} {v : Vis} (h : VFit p v) (Z : Nat → Int) : prX p v Z (prN p - 1) = Z (enE p v) := by
  obtain ⟨h1, h2, h3, h4⟩ := h
  unfold prX enE prN
  rcases hk : p.k with _ | _
  · rcases hb : v.b with _ | _
    · simp
    · simp only [if_true, Bool.false_eq_true, if_false]
      show Z (p.n - 1 - (p.n - 1)) = Z 0
      rw [Nat.sub_self]
  · simp only [if_true]
    have : ¬ p.n + 1 - 1 < p.n - v.s.toNat := by omega
    simp only [ap, if_neg this]
    congr 1
    omega
theorem prN_pos {p : Pth} {v : Vis} (h : VFit p v) : 0 < prN p := by
  obtain ⟨h1, h2, h3, h4⟩ := h
  unfold prN
  split <;> omega
theorem prN_le {p : Pth} (h : p.n ≤ 100) : prN p ≤ 101 := by unfold prN; split <;> omega
theorem printedBy_any (a : Option Addr) (m c : Nat) (P : Nat → Pth) (q : Nat) (s : Int) (bk : Bool) (w : World) (hm : m ≤ 100) (hp : PathsR w a m P) (hn : ∀ i, i < m → (P i).n ≤ 100) (hc : ∀ i, i < m → (P i).n ≤ (P i).c) (hq : q < m) (hv : VFit (P q) ⟨(q : Int), s, bk⟩) :
    Calls Try.prog 16 #[.slice a m c, .agg #[.int .i64 q, .int .i64 s, .bool bk]] w (PtsPost w (prN (P q)) (prX (P q) ⟨(q : Int), s, bk⟩ (P q).X) (prX (P q) ⟨(q : Int), s, bk⟩ (P q).Y)) := by
  have HP := Lib.hid hp
  have HV := Lib.hid hv
  clear hp hv
  go_enter Try.func16, Try.ntmps16
  go_wp2_with (fail)
  refine (printedR_any a m c P q s bk _ hm (HP.out.kept (by repeat (first | exact Below.refl _ _ | assumption | refine Below.drew ?_ | refine bdrewN ?_ _ | refine Below.setCell ?_ (by first | omega | (simp <;> omega)) _ | refine Below.alloc ?_ (by first | omega | (simp <;> omega)) _))) hn hc hq HV.out).mono ?_
  rintro e w1 ⟨a1, c1, rfl, ho, hb1⟩
  have HO := Lib.hid (own_base ho (show w.heap.size ≤ (w.alloc (.cells #[.int .i64 q, .int .i64 s, .bool bk] 34)).heap.size by simp))
  have B1 := Lib.hid (Below.trans (show Below w.heap.size w (w.alloc (.cells #[.int .i64 q, .int .i64 s, .bool bk] 34)) from (by repeat (first | exact Below.refl _ _ | assumption | refine Below.drew ?_ | refine bdrewN ?_ _ | refine Below.setCell ?_ (by first | omega | (simp <;> omega)) _ | refine Below.alloc ?_ (by first | omega | (simp <;> omega)) _))) (hb1.mono (by simp)))
  clear hb1 ho
  go_wp2_with (fail)
  go_ret
  exact ⟨_, _, rfl, HO.out, B1.out⟩
set_option maxRecDepth 100000 in
set_option maxHeartbeats 8000000 in
theorem endsOf_any (a : Option Addr) (m c : Nat) (P : Nat → Pth) (q : Nat) (s : Int) (bk : Bool) (w : World) (hm : m ≤ 100) (hp : PathsR w a m P) (hn : ∀ i, i < m → (P i).n ≤ 100) (hc : ∀ i, i < m → (P i).n ≤ (P i).c) (hq : q < m) (hv : VFit (P q) ⟨(q : Int), s, bk⟩) :
    Calls Try.prog 15 #[.slice a m c, .agg #[.int .i64 q, .int .i64 s, .bool bk]] w fun e w' => e = .returned (two ((P q).X (enB (P q) ⟨(q : Int), s, bk⟩)) ((P q).Y (enB (P q) ⟨(q : Int), s, bk⟩)) ((P q).X (enE (P q) ⟨(q : Int), s, bk⟩)) ((P q).Y (enE (P q) ⟨(q : Int), s, bk⟩))) ∧ Below w.heap.size w w' := by
  have HP := Lib.hid hp
  have HV := Lib.hid hv
  have hpos := prN_pos hv
  have hple := prN_le (hn q hq)
  have F1 := pr_first hv (P q).X
  have F2 := pr_first hv (P q).Y
  have L1 := pr_last hv (P q).X
  have L2 := pr_last hv (P q).Y
  rw [← F1, ← F2, ← L1, ← L2]
  unfold two
  clear hp hv F1 F2 L1 L2
  go_enter Try.func15, Try.ntmps15
  go_wp2_with (fail)
  generalize hw0 : (((w.alloc (.cells #[.int .i64 q, .int .i64 s, .bool bk] 34)).alloc (.cells #[.int .i64 0, .int .i64 0] 27)).alloc (.cells #[.int .i64 0, .int .i64 0] 27)) = w0
  have B0 : Below w.heap.size w w0 := by rw [← hw0]; exact (by repeat (first | exact Below.refl _ _ | assumption | refine Below.drew ?_ | refine bdrewN ?_ _ | refine Below.setCell ?_ (by first | omega | (simp <;> omega)) _ | refine Below.alloc ?_ (by first | omega | (simp <;> omega)) _))
  have hws : w0.heap.size = w.heap.size + 1 + 1 + 1 := by rw [← hw0]; simp
  have r10 : w0.cell? ⟨w.heap.size + 1, 0, none⟩ = some (.int .i64 0) := by rw [← hw0]; simp [go_sem]
  have r11 : w0.cell? ⟨w.heap.size + 1, 1, none⟩ = some (.int .i64 0) := by rw [← hw0]; simp [go_sem]
  have r20 : w0.cell? ⟨w.heap.size + 1 + 1, 0, none⟩ = some (.int .i64 0) := by rw [← hw0]; simp [go_sem]
  have r21 : w0.cell? ⟨w.heap.size + 1 + 1, 1, none⟩ = some (.int .i64 0) := by rw [← hw0]; simp [go_sem]
  have z10 : w0.frozen? ⟨w.heap.size + 1, 0, none⟩ = false := by rw [← hw0]; simp [go_sem]
  have z11 : w0.frozen? ⟨w.heap.size + 1, 1, none⟩ = false := by rw [← hw0]; simp [go_sem]
  have z20 : w0.frozen? ⟨w.heap.size + 1 + 1, 0, none⟩ = false := by rw [← hw0]; simp [go_sem]
  have z21 : w0.frozen? ⟨w.heap.size + 1 + 1, 1, none⟩ = false := by rw [← hw0]; simp [go_sem]
  have HB0 := Lib.hid B0
  clear hw0 B0
  have hpr := printedR_any a m c P q s bk w0 hm (HP.out.kept HB0.out) hn hc hq HV.out
  obtain ⟨N, hN⟩ : ∃ N, prN (P q) = N := ⟨_, rfl⟩
  obtain ⟨ZX, hZX⟩ : ∃ Z, prX (P q) ⟨(q : Int), s, bk⟩ (P q).X = Z := ⟨_, rfl⟩
  obtain ⟨ZY, hZY⟩ : ∃ Z, prX (P q) ⟨(q : Int), s, bk⟩ (P q).Y = Z := ⟨_, rfl⟩
  rw [hN] at hpos hple
  rw [hN, hZX, hZY] at hpr
  have E0 := Lib.hid (congrFun hZX 0)
  have E1 := Lib.hid (congrFun hZY 0)
  have E2 := Lib.hid (show prX (P q) ⟨(q : Int), s, bk⟩ (P q).X (prN (P q) - 1) = ZX (N - 1) by rw [hZX, hN])
  have E3 := Lib.hid (show prX (P q) ⟨(q : Int), s, bk⟩ (P q).Y (prN (P q) - 1) = ZY (N - 1) by rw [hZY, hN])
  refine hpr.mono ?_
  clear hpr
  rintro e w1 ⟨a1, c1, rfl, ho, hb1⟩
  have HN := Lib.hid hN
  clear hN hZX hZY
  have HB1 := Lib.hid (HB0.out.trans (hb1.mono HB0.out.size))
  have h1 : w.heap.size + 1 + 1 < w0.heap.size := by omega
  have h2 : w.heap.size + 1 < w0.heap.size := by omega
  replace r10 := cellk hb1 h2 r10
  replace r11 := cellk hb1 h2 r11
  replace r20 := cellk hb1 h1 r20
  replace r21 := cellk hb1 h1 r21
  replace z10 := (hb1.frozen (p := ⟨w.heap.size + 1, 0, none⟩) h2).trans z10
  replace z11 := (hb1.frozen (p := ⟨w.heap.size + 1, 1, none⟩) h2).trans z11
  replace z20 := (hb1.frozen (p := ⟨w.heap.size + 1 + 1, 0, none⟩) h1).trans z20
  replace z21 := (hb1.frozen (p := ⟨w.heap.size + 1 + 1, 1, none⟩) h1).trans z21
  obtain ⟨g, c6, hv6, hg, hgl⟩ := ho.form hpos
  cases hv6
  have k0 : w1.cell? ⟨g, 0, none⟩ = some (.int .i64 (ZX 0)) := by
    have := ho.cellAt 0 (by omega)
    rw [this]
    exact cells2_get ZX ZY N 0 0 hpos (by omega)
  have k1 : w1.cell? ⟨g, 1, none⟩ = some (.int .i64 (ZY 0)) := by
    have := ho.cellAt 1 (by omega)
    rw [this]
    exact cells2_get ZX ZY N 0 1 hpos (by omega)
  have k2 : w1.cell? ⟨g, (N - 1) * 2, none⟩ = some (.int .i64 (ZX (N - 1))) := by
    have := ho.cellAt ((N - 1) * 2) (by omega)
    rw [this]
    exact cells2_get ZX ZY N (N - 1) 0 (by omega) (by omega)
  have k3 : w1.cell? ⟨g, (N - 1) * 2 + 1, none⟩ = some (.int .i64 (ZY (N - 1))) := by
    have := ho.cellAt ((N - 1) * 2 + 1) (by omega)
    rw [this]
    exact cells2_get ZX ZY N (N - 1) 1 (by omega) (by omega)
  have hwr : IntKind.i64.wrap ((N : Int) - 1) = ((N - 1 : Nat) : Int) := by rw [IntKind.wrap_i64]; omega
  have hi1 : ((N - 1 : Nat) : Int) < (N : Int) := by omega
  have hi0 : (0 : Int) < (N : Int) := by omega
  generalize N - 1 = N1 at *
  generalize ZX 0 = x0 at *
  generalize ZY 0 = y0 at *
  generalize ZX N1 = x1 at *
  generalize ZY N1 = y1 at *
  have x1' : g ≠ w.heap.size + 1 := by omega
  have x2' : g ≠ w.heap.size + 1 + 1 := by omega
  have J2 := Lib.hid (is_some r10)
  have J3 := Lib.hid (is_some r11)
  have J4 := Lib.hid (is_some r20)
  have J5 := Lib.hid (is_some r21)
  clear hb1 ho hws h1 h2 hpos hple hg HV
  go_wp2_with (fail)
  go_region
  all_goals
    generalize hW : World.setCell _ _ _ = W
    obtain ⟨g0, g1, g2, g3⟩ := set22 (by omega) J2.out J3.out J4.out J5.out hW
    have HB : Hid (Below w.heap.size w W) := by rw [← hW]; exact ((((HB1.out).setCell (by dsimp only; omega) _).setCell (by dsimp only; omega) _).setCell (by dsimp only; omega) _).setCell (by dsimp only; omega) _
    clear hW
    go_wp2
    exact bodyPost_ret (v := .tuple #[.agg #[.int .i64 x0, .int .i64 y0], .agg #[.int .i64 x1, .int .i64 y1]]) (by simp [results, Try.results15, go_sem, g0, g1, g2, g3]) rfl ⟨by rw [E0.out, E1.out, E2.out, E3.out], by first | exact HB.out | exact HB.out.drew | exact bdrewN HB.out _⟩
end Go.Proofs.Ytapihgmokgkaaaa

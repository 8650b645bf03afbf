/- Long of one path; the package does something. -/
import Derived.Test.YtapihgmokgkaaaaYs
set_option linter.unusedSimpArgs false
set_option linter.unusedVariables false
namespace Go.Proofs.Ytapihgmokgkaaaa
open Go.RowKit

theorem info_int1 : (Try.prog.info? 3).map (fun i => (i.zero, i.size, i.bytes)) = some (some (.int .i64 0), 1, 8) := by kernel_rfl
set_option maxRecDepth 100000 in
set_option maxHeartbeats 8000000 in
theorem long_one (a : Option Addr) (c : Nat) (p : Pth) (w : World) (hp : PathsR w a 1 (fun _ => p)) (hn : p.n = 2) (hc : 2 ≤ p.c) (hk : p.k = false) (hx0 : p.X 0 = 0) (hy0 : p.Y 0 = 0) (hx1 : p.X 1 = 3) (hy1 : p.Y 1 = 2) :
    Calls Try.prog 41 #[.slice a 1 c] w fun e w' => ∃ g c', e = .returned (.tuple #[.slice (some ⟨g, 0, none⟩) 1 c', .int .i64 3, .int .i64 0]) ∧ w'.cell? ⟨g, 0, none⟩ = some (.int .i64 3) ∧ Below w.heap.size w w' := by
  obtain ⟨i0, hi0, hz0, hz1, hz2⟩ := info_parts info_int1
  have hps : psF 1 (fun _ => p) = 0 := by
    refine firstE_zero fun j hj => ?_
    show pF p = 0
    unfold pF
    rw [if_neg (by omega), if_neg (by simp [hk]), if_pos]
    refine allB_yes fun i hi => ?_
    rw [hn] at hi
    have : i = 0 ∨ i = 1 := by omega
    rcases this with rfl | rfl
    · rw [hx0, hy0]; rfl
    · rw [hx1, hy1]; rfl
  have HP := Lib.hid hp
  obtain ⟨pa, n, pc, X, Y, k⟩ := p
  dsimp only at *
  subst hn hk
  rcases hp with h | ⟨b, off, rfl, hb, hd⟩
  · cases h
  obtain ⟨⟨t0, t1⟩, hpt⟩ := hd 0 (by omega)
  have HPT := Lib.hid hpt
  clear hd hpt
  simp only [Nat.zero_mul, Nat.add_zero] at t0 t1
  go_enter Try.func41, Try.ntmps41
  go_wp2_with (fail)
  refine (checkPaths_any (some ⟨b, off, none⟩) 1 c _ w (by omega) HP.out (by intro i _; show (2 : Nat) ≤ 100; omega)).mono ?_
  rintro e w1 ⟨rfl, hb1⟩
  rw [hps]
  have B1 := Lib.hid hb1
  replace t0 := cellk hb1 hb t0
  replace t1 := cellk hb1 hb t1
  replace hb := Nat.lt_of_lt_of_le hb hb1.size
  clear hb1 hps
  go_wp2_with (fail)
  refine wp_loop_rounds 2 ?_
  rw [rounds_succ]
  go_wp2_with (fail)
  have BW1 : Below w1.heap.size w1 (w1.alloc (.cells #[.slice pa 2 pc, .bool false] 59)) := (by repeat (first | exact Below.refl _ _ | assumption | refine Below.drew ?_ | refine bdrewN ?_ _ | refine Below.setCell ?_ (by first | omega | (simp <;> omega)) _ | refine Below.alloc ?_ (by first | omega | (simp <;> omega)) _))
  generalize (w1.alloc (.cells #[.slice pa 2 pc, .bool false] 59)) = w2 at *
  have B2 := Lib.hid (B1.out.trans (BW1.mono B1.out.size))
  have hpr := printed_any ⟨pa, 2, pc, X, Y, false⟩ ⟨0, 0, false⟩ w2 (HPT.out.kept B2.out) (by show (2:Nat) ≤ 100; omega) hc ⟨fun h => (by cases h), fun _ => rfl, by show (0:Int) ≤ 0; omega, by show (0:Int) < 2; omega⟩
  have hN : prN ⟨pa, 2, pc, X, Y, false⟩ = 2 := rfl
  have hZ : ∀ Z, prX ⟨pa, 2, pc, X, Y, false⟩ ⟨0, 0, false⟩ Z = Z := fun Z => rfl
  rw [hN, hZ, hZ] at hpr
  refine hpr.mono ?_
  clear hpr
  rintro e w3 ⟨a3, c3, rfl, ho, hb3⟩
  obtain ⟨g, c4, hv4, hg, hgl⟩ := ho.form (by omega)
  cases hv4
  have k0 : w3.cell? ⟨g, 0, none⟩ = some (.int .i64 0) := by
    have := (ho.cellAt 0 (by omega)).trans (cells2_get X Y 2 0 0 (by omega) (by omega))
    rwa [show p2 X Y 0 0 = 0 from hx0] at this
  have k1 : w3.cell? ⟨g, 1, none⟩ = some (.int .i64 0) := by
    have := (ho.cellAt 1 (by omega)).trans (cells2_get X Y 2 0 1 (by omega) (by omega))
    rwa [show p2 X Y 0 1 = 0 from hy0] at this
  have k2 : w3.cell? ⟨g, 2, none⟩ = some (.int .i64 3) := by
    have := (ho.cellAt 2 (by omega)).trans (cells2_get X Y 2 1 0 (by omega) (by omega))
    rwa [show p2 X Y 1 0 = 3 from hx1] at this
  have k3 : w3.cell? ⟨g, 3, none⟩ = some (.int .i64 2) := by
    have := (ho.cellAt 3 (by omega)).trans (cells2_get X Y 2 1 1 (by omega) (by omega))
    rwa [show p2 X Y 1 1 = 2 from hy1] at this
  have B3 := Lib.hid (B2.out.trans (hb3.mono B2.out.size))
  clear hb3 ho BW1 hN hZ t0 t1
  have hgw : g < w3.heap.size := hgl
  have hwp1 : IntKind.i64.wrap 1 = 1 := by rw [IntKind.wrap_i64]; omega
  have hwp3 : IntKind.i64.wrap 3 = 3 := by rw [IntKind.wrap_i64]; omega
  go_wp2_with (fail)
  refine wp_loop_rounds 2 ?_
  rw [rounds_succ]
  go_wp2_with (fail)
  refine wp_region_held_drew (S := (fun w' => w'.cell? ⟨g, 0, none⟩ = some (.int .i64 0) ∧ w'.cell? ⟨g, 1, none⟩ = some (.int .i64 0) ∧ w'.cell? ⟨g, 2, none⟩ = some (.int .i64 3) ∧ w'.cell? ⟨g, 3, none⟩ = some (.int .i64 2))) (by kernel_rfl) ⟨k0, k1, k2, k3⟩ (fun hHeld => ?_)
  refine tkH (by assumption) 0 (oi := ?_) (v := ?_) ?_ ?_ ?_ ?_ ?_ ?_ ?_ ?_; rotate_left 2; (simp only [gA, gB, gC]; exact rfl); kernel_rfl; kernel_rfl; kernel_rfl; exact fun _ _ _ h => h; rfl; (intro w' hSw; (try dsimp only at hSw); go_simp; with_reducible rfl); simp only [Act.put, pB, pC, pD]
  refine tkH (by assumption) 1 (oi := ?_) (v := ?_) ?_ ?_ ?_ ?_ ?_ ?_ ?_ ?_; rotate_left 2; (simp only [gA, gB, gC]; exact rfl); kernel_rfl; kernel_rfl; kernel_rfl; exact fun _ _ _ h => h; rfl; (intro w' hSw; (try dsimp only at hSw); go_simp; with_reducible rfl); simp only [Act.put, pB, pC, pD]
  refine tkH (by assumption) 2 (oi := ?_) (v := ?_) ?_ ?_ ?_ ?_ ?_ ?_ ?_ ?_; rotate_left 2; (simp only [gA, gB, gC]; exact rfl); kernel_rfl; kernel_rfl; kernel_rfl; exact fun _ _ _ h => h; rfl; (intro w' hSw; (try dsimp only at hSw); go_simp; with_reducible rfl); simp only [Act.put, pB, pC, pD]
  refine tkH (by assumption) 3 (oi := ?_) (v := ?_) ?_ ?_ ?_ ?_ ?_ ?_ ?_ ?_; rotate_left 2; (simp only [gA, gB, gC]; exact rfl); kernel_rfl; kernel_rfl; kernel_rfl; exact fun _ _ _ h => h; rfl; (intro w' hSw; (try dsimp only at hSw); go_simp; with_reducible rfl); simp only [Act.put, pB, pC, pD]
  refine tkH (by assumption) 4 (oi := ?_) (v := ?_) ?_ ?_ ?_ ?_ ?_ ?_ ?_ ?_; rotate_left 2; (simp only [gA, gB, gC]; exact rfl); kernel_rfl; kernel_rfl; kernel_rfl; exact fun _ _ _ h => h; rfl; (intro w' hSw; (try dsimp only at hSw); go_simp; with_reducible rfl); simp only [Act.put, pB, pC, pD]
  refine tkH (by assumption) 5 (oi := ?_) (v := ?_) ?_ ?_ ?_ ?_ ?_ ?_ ?_ ?_; rotate_left 2; (simp only [gA, gB, gC]; exact rfl); kernel_rfl; kernel_rfl; kernel_rfl; exact fun _ _ _ h => h; rfl; (intro w' hSw; (try dsimp only at hSw); go_simp; with_reducible rfl); simp only [Act.put, pB, pC, pD]
  refine tkH (by assumption) 6 (oi := ?_) (v := ?_) ?_ ?_ ?_ ?_ ?_ ?_ ?_ ?_; rotate_left 2; (simp only [gA, gB, gC]; exact rfl); kernel_rfl; kernel_rfl; kernel_rfl; exact fun _ _ _ h => h; rfl; (intro w' hSw; (try dsimp only at hSw); go_simp; with_reducible rfl); simp only [Act.put, pB, pC, pD]
  refine tkH (by assumption) 7 (oi := ?_) (v := ?_) ?_ ?_ ?_ ?_ ?_ ?_ ?_ ?_; rotate_left 2; (simp only [gA, gB, gC]; exact rfl); kernel_rfl; kernel_rfl; kernel_rfl; exact fun _ _ _ h => h; rfl; (intro w' hSw; (try dsimp only at hSw); go_simp; with_reducible rfl); simp only [Act.put, pB, pC, pD]
  refine tkH (by assumption) 8 (oi := ?_) (v := ?_) ?_ ?_ ?_ ?_ ?_ ?_ ?_ ?_; rotate_left 2; (simp only [gA, gB, gC]; exact rfl); kernel_rfl; kernel_rfl; kernel_rfl; exact fun _ _ _ h => h; rfl; (intro w' hSw; (try dsimp only at hSw); go_simp; with_reducible rfl); simp only [Act.put, pB, pC, pD]
  refine tkH (by assumption) 9 (oi := ?_) (v := ?_) ?_ ?_ ?_ ?_ ?_ ?_ ?_ ?_; rotate_left 2; (simp only [gA, gB, gC]; exact rfl); kernel_rfl; kernel_rfl; kernel_rfl; exact fun _ _ _ h => h; rfl; (intro w' hSw; (try dsimp only at hSw); go_simp; with_reducible rfl); simp only [Act.put, pB, pC, pD]
  refine onH 10 (oi := ?_) (by kernel_rfl) ?_ ?_ (fun K hK => ?_); rotate_left; (simp only [gA, gB, gC]; exact rfl); rfl
  go_wp2_with (fail)
  refine (distance_any 0 0 3 2 _ (by unfold cI; omega) (by unfold cI; omega) (by unfold cI; omega) (by unfold cI; omega)).mono ?_
  rintro e w4 ⟨rfl, hb4⟩
  replace hb4 := undrew' hb4
  have hD : dI 0 0 3 2 = 3 := rfl
  rw [hD]
  have B4 := Lib.hid (B3.out.trans (hb4.mono B3.out.size))
  refine hK.out _ _ ⟨cellk hb4 hgl k0, cellk hb4 hgl k1, cellk hb4 hgl k2, cellk hb4 hgl k3⟩ (fun hHeld3 => ?_)
  clear hK K hHeld hb4 hD
  try simp only [Act.put, pB, pC, pD]
  refine tkH (by assumption) 11 (oi := ?_) (v := ?_) ?_ ?_ ?_ ?_ ?_ ?_ ?_ ?_; rotate_left 2; (simp only [gA, gB, gC]; exact rfl); kernel_rfl; kernel_rfl; kernel_rfl; exact fun _ _ _ h => h; rfl; (intro w' hSw; (try dsimp only at hSw); go_simp; with_reducible rfl); simp only [Act.put, pB, pC, pD]
  refine tkH (by assumption) 12 (oi := ?_) (v := ?_) ?_ ?_ ?_ ?_ ?_ ?_ ?_ ?_; rotate_left 2; (simp only [gA, gB, gC]; exact rfl); kernel_rfl; kernel_rfl; kernel_rfl; exact fun _ _ _ h => h; rfl; (intro w' hSw; (try dsimp only at hSw); go_simp; with_reducible rfl); simp only [Act.put, pB, pC, pD]
  refine wpAnyH_done (by kernel_rfl) ?_ _
  clear hHeld3
  go_wp2_with (fail)
  rw [rounds_succ]
  have hsz4 : w.heap.size ≤ w4.heap.size := B4.out.size
  go_wp2_with (at_builtin; refine wpList_append_lies _ rfl _ _ 22 rfl w.heap.size 3 i0 (.int .i64 0) 1 8 Try.underlying22 hi0 hz0 hz1 hz2 rfl (by decide) _ _ _ rfl (World.ownsRow_nil _ _ _ _) ⟨w4.heap.size, 0, none⟩ 1 1 [.int .i64 3] rfl rfl (World.news_of_block (cs := #[.int .i64 3]) (t := 3) (fr := (0, 0)) (heap_alloc_new w4 _)) (by simp [Value.oneCell']) (by omega) (by unfold maxLen; omega) (by omega) (by simp; omega) (w4.heap.size + 1) (by simp) ?_; intro g' cap' w5 hown5 hgrow5 hat5 hlt5; have HO5 := Lib.hid hown5; have B5 := Lib.hid (Below.grown (B4.out.alloc hsz4 (.cells #[.int .i64 3] 3)) hgrow5 (by simp; omega) (fun j hj => by cases hj)); clear hown5 hgrow5 hat5)
  rw [rounds_succ]
  go_wp2_with (fail)
  have hfin : w5.cell? ⟨g', 0, none⟩ = some (.int .i64 3) := HO5.out.cellAt 0 (by omega)
  exact bodyPost_ret (v := .tuple #[.slice (some ⟨g', 0, none⟩) 1 cap', .int .i64 3, .int .i64 0]) (by simp [results, Try.results41, go_sem]) rfl ⟨_, _, rfl, hfin, B5.out⟩
end Go.Proofs.Ytapihgmokgkaaaa

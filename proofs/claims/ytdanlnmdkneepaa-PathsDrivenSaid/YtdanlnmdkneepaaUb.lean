/- A leg and one speed are checked; Reached. -/
import Derived.Test.YtdanlnmdkneepaaVg
import Derived.Test.YtdanlnmdkneepaaTk
set_option linter.unusedSimpArgs false
set_option linter.unusedVariables false
namespace Go.Proofs.Ytdanlnmdkneepaa
open Go.RowKit

def f3E (a b c : Int) : Int := if a = 0 then (if b = 0 then c else b) else a
def lg1 (l m : Int) : Int := legE 1 (fun _ => l) (fun _ => m)
theorem lg1_ok {l m : Int} (h : lg1 l m = 0) : (1 ≤ l ∧ l ≤ 200000) ∧ (1 ≤ m ∧ m ≤ 100000) := by
  have := (legE_ok h).2 0 (by omega)
  exact ⟨⟨this.1, this.2.1⟩, this.2.2⟩
def ck1 (u l m c : Int) : Int := f3E (lg1 l m) (chE c) (spE u m)
theorem mv1 (l m c : Int) : movE 1 (fun _ => l) (fun _ => m) 0 (fun _ => 0) c = if lg1 l m = 0 then chE c else lg1 l m := by
  have h : cornE 1 (fun _ => l) (fun _ => m) 0 (fun _ => 0) = lg1 l m := by
    unfold cornE lg1
    rw [csOk_yes (n := 0) (fun i h => by omega)]
    split
    · rename_i h; simp [h]
    · rfl
  unfold movE
  rw [h]
theorem ck1_ok {u l m c : Int} (h : ck1 u l m c = 0) : (0 ≤ u ∧ u ≤ 100000) ∧ (1 ≤ c ∧ c ≤ 10000000) ∧ (1 ≤ l ∧ l ≤ 200000) ∧ (1 ≤ m ∧ m ≤ 100000) := by
  unfold ck1 f3E at h
  split at h
  · rename_i h1
    split at h
    · rename_i h2
      obtain ⟨hl, hm⟩ := lg1_ok h1
      unfold spE at h
      unfold chE at h2
      split at h2
      · split at h
        · omega
        · cases h
      · cases h2
    · rename_i h2; exact absurd h h2
  · rename_i h1; exact absurd h h1
theorem lg_one {w : World} {g : Nat} {l m : Int} (h0 : w.cell? ⟨g, 0, none⟩ = some (.int .i64 l)) (h1 : w.cell? ⟨g, 1, none⟩ = some (.int .i64 m)) : LegsR w (some ⟨g, 0, none⟩) 1 (fun _ => l) (fun _ => m) :=
  .inr ⟨g, 0, rfl, cell_lt h0, fun i hi => by obtain rfl : i = 0 := by omega
                                              exact ⟨h0, h1⟩⟩
set_option maxRecDepth 100000 in
set_option maxHeartbeats 4000000 in
theorem checkLeg1_any (u l m c : Int) (g : Nat) (w : World) (h0 : w.cell? ⟨g, 0, none⟩ = some (.int .i64 u)) :
    Calls Try.prog 102 #[.agg #[.int .i64 l, .int .i64 m], .int .i64 c, .slice (some ⟨g, 0, none⟩) 1 1] w fun e w' => e = .returned (.int .i64 (ck1 u l m c)) ∧ Below w.heap.size w w' := by
  have hgl := cell_lt h0
  go_enter Try.func102, Try.ntmps102
  go_wp2_with (fail)
  have hb0 : Below w.heap.size w ((w.alloc (.cells #[.int .i64 l, .int .i64 m] 83)).alloc (.cells #[.int .i64 l, .int .i64 m] 83)) := (by repeat (first | exact Below.refl _ _ | assumption | refine Below.drew ?_ | refine bdrewN ?_ _ | refine Below.setCell ?_ (by first | omega | (simp <;> omega)) _ | refine Below.alloc ?_ (by first | omega | (simp <;> omega)) _))
  have H3 : Hid (((w.alloc (.cells #[.int .i64 l, .int .i64 m] 83)).alloc (.cells #[.int .i64 l, .int .i64 m] 83)).heap[w.heap.size]? = some (.cells #[.int .i64 l, .int .i64 m] 83 (0, 0))) := Lib.hid (by repeat (first | (refine heap_new ?_; first | rfl | (simp; done)) | rw [Below.heap_setCell _ _ _ _ (by simp <;> omega)] | rw [Below.heap_alloc _ _ _ (by simp <;> omega)]))
  have H4 : Hid (((w.alloc (.cells #[.int .i64 l, .int .i64 m] 83)).alloc (.cells #[.int .i64 l, .int .i64 m] 83)).heap[w.heap.size + 1]? = some (.cells #[.int .i64 l, .int .i64 m] 83 (0, 0))) := Lib.hid (by repeat (first | (refine heap_new ?_; first | rfl | (simp; done)) | rw [Below.heap_setCell _ _ _ _ (by simp <;> omega)] | rw [Below.heap_alloc _ _ _ (by simp <;> omega)]))
  replace h0 := cellk hb0 hgl h0
  have hgl2 := Nat.lt_of_lt_of_le hgl hb0.size
  have B0 := Lib.hid hb0
  clear hb0 hgl
  generalize ((w.alloc (.cells #[.int .i64 l, .int .i64 m] 83)).alloc (.cells #[.int .i64 l, .int .i64 m] 83)) = w1 at *
  refine (checkMoves_any (some ⟨w.heap.size + 1, 0, none⟩) 1 1 (fun _ => l) (fun _ => m) none 0 0 (fun _ => 0) c w1 (by omega) (by omega) (lg_one (cell_of H4.out (i := 0) rfl) (cell_of H4.out (i := 1) rfl)) (.inl rfl)).mono ?_
  rintro e w2 ⟨rfl, hb2⟩
  rw [mv1]
  replace h0 := cellk hb2 hgl2 h0
  have B2 := Lib.hid (B0.out.trans (hb2.mono B0.out.size))
  replace H3 := Lib.hid (heap_keep hb2 H3.out)
  clear hb2 hgl2 H4 B0
  have r1 := cell_of H3.out (i := 1) rfl
  by_cases k1 : lg1 l m = 0
  · rw [if_pos k1]
    by_cases k2 : chE c = 0
    · have k2' : (chE c != 0) = false := by simp [k2]
      have R := Lib.hid (show ck1 u l m c = spE u m by unfold ck1 f3E; rw [if_pos k1, if_pos k2])
      clear k1 k2
      by_cases k3 : spE u m = 0
      · have R2 := Lib.hid (R.out.trans k3)
        have K3 := Lib.hid k3
        clear k3
        go_wp2_with (fail)
        refine wp_loop_rounds 2 ?_
        rw [rounds_succ]; go_wp2_with (go_at_call 83; refine (checkSpeed_any _ _ _).mono ?_; rintro e w' ⟨rfl, rfl⟩; rw [K3.out])
        rw [rounds_succ]; go_wp2_with (fail)
        go_ret
        exact ⟨ret_int R2.out.symm, B2.out⟩
      · have K3 : (spE u m != 0) = true := by simpa using k3
        clear k3
        go_wp2_with (fail)
        refine wp_loop_rounds 2 ?_
        rw [rounds_succ]; go_wp2_with (go_at_call 83; refine (checkSpeed_any _ _ _).mono ?_; rintro e w' ⟨rfl, rfl⟩)
        go_ret
        exact ⟨ret_int R.out.symm, B2.out⟩
    · have R := Lib.hid (show ck1 u l m c = chE c by unfold ck1 f3E; rw [if_pos k1, if_neg k2])
      have k2' : (chE c != 0) = true := by simpa using k2
      clear k1 k2
      go_wp2_with (fail)
      go_ret
      exact ⟨ret_int R.out.symm, B2.out⟩
  · have R := Lib.hid (show ck1 u l m c = lg1 l m by unfold ck1 f3E; rw [if_neg k1])
    rw [if_neg k1]
    have k1' : (lg1 l m != 0) = true := by simpa using k1
    clear k1
    go_wp2_with (fail)
    go_ret
    exact ⟨ret_int R.out.symm, B2.out⟩
noncomputable def rcZ (u l m c : Int) : Int := if ck1 u l m c = 0 then oppZ u m (gainZ c l) else 0
set_option maxRecDepth 100000 in
set_option maxHeartbeats 4000000 in
theorem Reached_any (u l m c : Int) (w : World) :
    Calls Try.prog 60 #[.int .i64 u, .agg #[.int .i64 l, .int .i64 m], .int .i64 c] w fun e w' => e = .returned (.tuple #[.int .i64 (rcZ u l m c), .int .i64 (ck1 u l m c)]) ∧ Below w.heap.size w w' := by
  go_enter Try.func60, Try.ntmps60
  go_wp2_with (fail)
  have B0 := Lib.hid (show Below w.heap.size w ((w.alloc (.cells #[.int .i64 l, .int .i64 m] 83)).alloc (.cells #[.int .i64 u] 3)) from (by repeat (first | exact Below.refl _ _ | assumption | refine Below.drew ?_ | refine bdrewN ?_ _ | refine Below.setCell ?_ (by first | omega | (simp <;> omega)) _ | refine Below.alloc ?_ (by first | omega | (simp <;> omega)) _)))
  have H6 : Hid (((w.alloc (.cells #[.int .i64 l, .int .i64 m] 83)).alloc (.cells #[.int .i64 u] 3)).heap[w.heap.size]? = some (.cells #[.int .i64 l, .int .i64 m] 83 (0, 0))) := Lib.hid (by repeat (first | (refine heap_new ?_; first | rfl | (simp; done)) | rw [Below.heap_setCell _ _ _ _ (by simp <;> omega)] | rw [Below.heap_alloc _ _ _ (by simp <;> omega)]))
  have HU : Hid (((w.alloc (.cells #[.int .i64 l, .int .i64 m] 83)).alloc (.cells #[.int .i64 u] 3)).heap[w.heap.size + 1]? = some (.cells #[.int .i64 u] 3 (0, 0))) := Lib.hid (by repeat (first | (refine heap_new ?_; first | rfl | (simp; done)) | rw [Below.heap_setCell _ _ _ _ (by simp <;> omega)] | rw [Below.heap_alloc _ _ _ (by simp <;> omega)]))
  generalize ((w.alloc (.cells #[.int .i64 l, .int .i64 m] 83)).alloc (.cells #[.int .i64 u] 3)) = w1 at *
  refine (checkLeg1_any u l m c (w.heap.size + 1) w1 (cell_of HU.out (i := 0) rfl)).mono ?_
  rintro e w2 ⟨rfl, hb2⟩
  replace H6 := Lib.hid (heap_keep hb2 H6.out)
  have BX := Lib.hid (B0.out.trans (hb2.mono B0.out.size))
  clear hb2 B0 HU
  have c0 := cell_of H6.out (i := 0) rfl
  have c1 := cell_of H6.out (i := 1) rfl
  by_cases k1 : ck1 u l m c = 0
  · obtain ⟨hu, hc, hl, hm⟩ := ck1_ok k1
    have R := Lib.hid (show rcZ u l m c = oppZ u m (gainZ c l) by unfold rcZ; rw [if_pos k1])
    have K := Lib.hid k1
    rw [k1]
    clear k1
    go_wp2_with (fail)
    refine (opposite_any u l m c w2 (by omega) hc hl hm).mono ?_
    rintro e w3 ⟨rfl, hb3⟩
    have B3 := Lib.hid (BX.out.trans (hb3.mono BX.out.size))
    clear hb3
    go_wp2_with (fail)
    exact bodyPost_ret (v := .tuple #[.int .i64 (oppZ u m (gainZ c l)), .int .i64 0]) (by simp [results, Try.results60, go_sem]) rfl ⟨by rw [R.out, K.out], B3.out⟩
  · have R := Lib.hid (show rcZ u l m c = 0 by unfold rcZ; rw [if_neg k1])
    have k1' : (ck1 u l m c != 0) = true := by simpa using k1
    clear k1
    go_wp2_with (fail)
    exact bodyPost_ret (v := .tuple #[.int .i64 0, .int .i64 (ck1 u l m c)]) (by simp [results, Try.results60, go_sem]) rfl ⟨by rw [R.out], BX.out⟩
set_option maxRecDepth 100000 in
set_option maxHeartbeats 4000000 in
theorem ReachedOf_any (u l m c : Int) (w : World) (h : ck1 u l m c = 0) :
    Calls Try.prog 62 #[.int .i64 u, .agg #[.int .i64 l, .int .i64 m], .int .i64 c] w fun e w' => e = .returned (.int .i64 (rcZ u l m c)) ∧ Below w.heap.size w w' := by
  obtain ⟨hu, hc, hl, hm⟩ := ck1_ok h
  have R := Lib.hid (show rcZ u l m c = oppZ u m (gainZ c l) by unfold rcZ; rw [if_pos h])
  have hg := gainZ_bnd hc hl
  have hs' := bnd_sq (o := u) (by omega) (by omega)
  have e0 : IntKind.i64.wrap (u * u) = u * u := i64w (by omega)
  have e4 : IntKind.i64.wrap (2 * c) = 2 * c := i64w (by omega)
  have e5 : IntKind.i64.wrap (2 * c * l) = gainZ c l := i64w (show -9000000000000000000 ≤ gainZ c l ∧ gainZ c l ≤ 9000000000000000000 by omega)
  have e2 : IntKind.i64.wrap (u * u + gainZ c l) = u * u + gainZ c l := i64w (by omega)
  obtain ⟨h, hh⟩ : ∃ h, u * u + gainZ c l = h := ⟨_, rfl⟩
  have hb : 0 ≤ h ∧ h ≤ 8000000000000000000 := by omega
  have HH := Lib.hid hh
  rw [hh] at e2
  have hz : (if rt h < m then rt h else m) = min m (rt h) := by split <;> omega
  clear hg hs'
  go_enter Try.func62, Try.ntmps62
  have r0 : (w.alloc (.cells #[.int .i64 l, .int .i64 m] 83)).cell? ⟨w.heap.size, 0, none⟩ = some (.int .i64 l) := by simp [go_sem]
  have r1 : (w.alloc (.cells #[.int .i64 l, .int .i64 m] 83)).cell? ⟨w.heap.size, 1, none⟩ = some (.int .i64 m) := by simp [go_sem]
  have B0 := Lib.hid (show Below w.heap.size w (w.alloc (.cells #[.int .i64 l, .int .i64 m] 83)) from (by repeat (first | exact Below.refl _ _ | assumption | refine Below.drew ?_ | refine bdrewN ?_ _ | refine Below.setCell ?_ (by first | omega | (simp <;> omega)) _ | refine Below.alloc ?_ (by first | omega | (simp <;> omega)) _)))
  go_wp2_with (fail)
  generalize (w.alloc (.cells #[.int .i64 l, .int .i64 m] 83)) = w1 at *
  refine wp_region_held_drew (S := (fun w' => w'.cell? ⟨w.heap.size, 0, none⟩ = some (.int .i64 l) ∧ w'.cell? ⟨w.heap.size, 1, none⟩ = some (.int .i64 m))) (by kernel_rfl) ⟨r0, r1⟩ (fun hHeld => ?_)
  refine tkH (by assumption) 0 (oi := ?_) (v := ?_) ?_ ?_ ?_ ?_ ?_ ?_ ?_ ?_; rotate_left 2; (simp only [gA, gB, gC]; exact rfl); kernel_rfl; kernel_rfl; kernel_rfl; exact fun _ _ _ h => h; rfl; (intro w' hSw; (try dsimp only at hSw); go_simp; with_reducible rfl); simp only [Act.put, pB, pC, pD]
  refine tkH (by assumption) 1 (oi := ?_) (v := ?_) ?_ ?_ ?_ ?_ ?_ ?_ ?_ ?_; rotate_left 2; (simp only [gA, gB, gC]; exact rfl); kernel_rfl; kernel_rfl; kernel_rfl; exact fun _ _ _ h => h; rfl; (intro w' hSw; (try dsimp only at hSw); go_simp; with_reducible rfl); simp only [Act.put, pB, pC, pD]
  refine tkH (by assumption) 2 (oi := ?_) (v := ?_) ?_ ?_ ?_ ?_ ?_ ?_ ?_ ?_; rotate_left 2; (simp only [gA, gB, gC]; exact rfl); kernel_rfl; kernel_rfl; kernel_rfl; exact fun _ _ _ h => h; rfl; (intro w' hSw; (try dsimp only at hSw); go_simp; with_reducible rfl); simp only [Act.put, pB, pC, pD]
  refine tkH (by assumption) 3 (oi := ?_) (v := ?_) ?_ ?_ ?_ ?_ ?_ ?_ ?_ ?_; rotate_left 2; (simp only [gA, gB, gC]; exact rfl); kernel_rfl; kernel_rfl; kernel_rfl; exact fun _ _ _ h => h; rfl; (intro w' hSw; (try dsimp only at hSw); go_simp; with_reducible rfl); simp only [Act.put, pB, pC, pD]
  refine tkH (by assumption) 4 (oi := ?_) (v := ?_) ?_ ?_ ?_ ?_ ?_ ?_ ?_ ?_; rotate_left 2; (simp only [gA, gB, gC]; exact rfl); kernel_rfl; kernel_rfl; kernel_rfl; exact fun _ _ _ h => h; rfl; (intro w' hSw; (try dsimp only at hSw); go_simp; with_reducible rfl); simp only [Act.put, pB, pC, pD]
  refine tkH (by assumption) 5 (oi := ?_) (v := ?_) ?_ ?_ ?_ ?_ ?_ ?_ ?_ ?_; rotate_left 2; (simp only [gA, gB, gC]; exact rfl); kernel_rfl; kernel_rfl; kernel_rfl; exact fun _ _ _ h => h; rfl; (intro w' hSw; (try dsimp only at hSw); go_simp; with_reducible rfl); simp only [Act.put, pB, pC, pD]
  refine tkH (by assumption) 6 (oi := ?_) (v := ?_) ?_ ?_ ?_ ?_ ?_ ?_ ?_ ?_; rotate_left 2; (simp only [gA, gB, gC]; exact rfl); kernel_rfl; kernel_rfl; kernel_rfl; exact fun _ _ _ h => h; rfl; (intro w' hSw; (try dsimp only at hSw); go_simp; with_reducible rfl); simp only [Act.put, pB, pC, pD]
  refine tkH (by assumption) 7 (oi := ?_) (v := ?_) ?_ ?_ ?_ ?_ ?_ ?_ ?_ ?_; rotate_left 2; (simp only [gA, gB, gC]; exact rfl); kernel_rfl; kernel_rfl; kernel_rfl; exact fun _ _ _ h => h; rfl; (intro w' hSw; (try dsimp only at hSw); go_simp; with_reducible rfl); simp only [Act.put, pB, pC, pD]
  refine tkH (by assumption) 8 (oi := ?_) (v := ?_) ?_ ?_ ?_ ?_ ?_ ?_ ?_ ?_; rotate_left 2; (simp only [gA, gB, gC]; exact rfl); kernel_rfl; kernel_rfl; kernel_rfl; exact fun _ _ _ h => h; rfl; (intro w' hSw; (try dsimp only at hSw); go_simp; with_reducible rfl); simp only [Act.put, pB, pC, pD]
  refine tkH (by assumption) 9 (oi := ?_) (v := ?_) ?_ ?_ ?_ ?_ ?_ ?_ ?_ ?_; rotate_left 2; (simp only [gA, gB, gC]; exact rfl); kernel_rfl; kernel_rfl; kernel_rfl; exact fun _ _ _ h => h; rfl; (intro w' hSw; (try dsimp only at hSw); go_simp; with_reducible rfl); simp only [Act.put, pB, pC, pD]
  refine tkH (by assumption) 10 (oi := ?_) (v := ?_) ?_ ?_ ?_ ?_ ?_ ?_ ?_ ?_; rotate_left 2; (simp only [gA, gB, gC]; exact rfl); kernel_rfl; kernel_rfl; kernel_rfl; exact fun _ _ _ h => h; rfl; (intro w' hSw; (try dsimp only at hSw); go_simp; with_reducible rfl); simp only [Act.put, pB, pC, pD]
  refine onH 11 (oi := ?_) (by kernel_rfl) ?_ ?_ (fun K hK => ?_); rotate_left; (simp only [gA, gB, gC]; exact rfl); rfl
  go_wp2_with (fail)
  refine (root_any _ _ hb.1 hb.2).mono ?_
  rintro e w5 ⟨rfl, rfl⟩
  refine hK.out _ _ hHeld (fun hHeldN => ?_)
  clear hK K hHeld
  have hHeld := hHeldN
  clear hHeldN
  try simp only [Act.put, pB, pC, pD]
  refine tkH (by assumption) 12 (oi := ?_) (v := ?_) ?_ ?_ ?_ ?_ ?_ ?_ ?_ ?_; rotate_left 2; (simp only [gA, gB, gC]; exact rfl); kernel_rfl; kernel_rfl; kernel_rfl; exact fun _ _ _ h => h; rfl; (intro w' hSw; (try dsimp only at hSw); go_simp; with_reducible rfl); simp only [Act.put, pB, pC, pD]
  refine tkH (by assumption) 13 (oi := ?_) (v := ?_) ?_ ?_ ?_ ?_ ?_ ?_ ?_ ?_; rotate_left 2; (simp only [gA, gB, gC]; exact rfl); kernel_rfl; kernel_rfl; kernel_rfl; exact fun _ _ _ h => h; rfl; (intro w' hSw; (try dsimp only at hSw); go_simp; with_reducible rfl); simp only [Act.put, pB, pC, pD]
  refine wpAnyH_done (by kernel_rfl) ?_ _
  go_wp2_with (fail)
  go_ret
  exact ⟨ret_int (by rw [R.out]; unfold oppZ; rw [HH.out]), Below.next_drew B0.out⟩
end Go.Proofs.Ytdanlnmdkneepaa

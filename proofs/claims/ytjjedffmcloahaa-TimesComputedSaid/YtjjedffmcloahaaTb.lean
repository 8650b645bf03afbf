/- Quotients: the program and the reference. -/
import Derived.Test.YtjjedffmcloahaaTa
set_option linter.unusedSimpArgs false
set_option linter.unusedVariables false
namespace Go.Proofs.Ytjjedffmcloahaa
open Go.RowKit
theorem set2V_0 {w : World} {b : Nat} {v0 v1 u : Value} {t : TypeId} (h : w.heap[b]? = some (.cells #[v0, v1] t (0, 0))) : (w.setCell ⟨b, 0, none⟩ u).heap[b]? = some (.cells #[u, v1] t (0, 0)) := by
  simp [World.setCell, Array.getElem?_modify, h]
theorem set2V_1 {w : World} {b : Nat} {v0 v1 u : Value} {t : TypeId} (h : w.heap[b]? = some (.cells #[v0, v1] t (0, 0))) : (w.setCell ⟨b, 1, none⟩ u).heap[b]? = some (.cells #[v0, u] t (0, 0)) := by
  simp [World.setCell, Array.getElem?_modify, h]
theorem Ceil_any (n d : Int) (w : World) (hn : 0 ≤ n) (hn2 : n ≤ 8000000000000000000) (hd : 0 < d) (hd2 : d ≤ 8000000000000000000) : Calls Try.prog 47 #[.int .i64 n, .int .i64 d] w fun e w' => e = .returned (.int .i64 (ceilZ n d)) ∧ w = w' := by
  have hq1 : 0 ≤ n.tdiv d := Int.tdiv_nonneg hn (by omega)
  have hq2 : n.tdiv d ≤ n := by rw [Int.tdiv_eq_ediv_of_nonneg hn]; exact Int.ediv_le_self _ hn
  have hr : 0 ≤ n % d := Int.emod_nonneg _ (by omega)
  have hr2 : n % d < d := Int.emod_lt_of_pos _ hd
  have k0 : n.tmod d = n % d := Int.tmod_eq_emod_of_nonneg hn
  have hc := ceil_go hn hd
  have hz : ¬ d = 0 := by omega
  have e1 : IntKind.i64.wrap (n.tdiv d) = n.tdiv d := i64w (by omega)
  have e2 : IntKind.i64.wrap (n.tdiv d + 1) = n.tdiv d + 1 := i64w (by omega)
  have e3 : IntKind.i64.wrap (n % d) = n % d := i64w (by omega)
  rw [k0] at hc
  have HC := Lib.hid hc
  clear hc
  by_cases h : 0 < n % d
  · have R := Lib.hid (show n.tdiv d + 1 = ceilZ n d by rw [← HC.out, if_pos h])
    go_enter Try.func47, Try.ntmps47
    go_wp2_with (fail)
    go_ret
    exact ⟨ret_int R.out, rfl⟩
  · have R := Lib.hid (show n.tdiv d = ceilZ n d by rw [← HC.out, if_neg h])
    go_enter Try.func47, Try.ntmps47
    go_wp2_with (fail)
    go_ret
    exact ⟨ret_int R.out, rfl⟩
/-- A negated number's quotient, rounded down. -/
def flrZ (n d : Int) : Int := if (-n).tmod d < 0 then (-n).tdiv d - 1 else (-n).tdiv d
theorem flrZ_neg {n d : Int} (hn : 0 ≤ n) (hd : 0 < d) : -flrZ n d = ceilZ n d := floor_go hn hd
theorem floor_any (n d : Int) (w : World) (hn : 0 ≤ n) (hn2 : n ≤ 8000000000000000000) (hd : 0 < d) (hd2 : d ≤ 8000000000000000000) : Calls Try.prog 40 #[.int .i64 (-n), .int .i64 d] w fun e w' => e = .returned (.int .i64 (flrZ n d)) ∧ w = w' := by
  have hq1 : 0 ≤ n.tdiv d := Int.tdiv_nonneg hn (by omega)
  have hq2 : n.tdiv d ≤ n := by rw [Int.tdiv_eq_ediv_of_nonneg hn]; exact Int.ediv_le_self _ hn
  have hr : 0 ≤ n % d := Int.emod_nonneg _ (by omega)
  have hr2 : n % d < d := Int.emod_lt_of_pos _ hd
  have k0 : n.tmod d = n % d := Int.tmod_eq_emod_of_nonneg hn
  have k1 : (-n).tdiv d = -(n.tdiv d) := Int.neg_tdiv ..
  have k2 : (-n).tmod d = -(n.tmod d) := Int.neg_tmod ..
  have hz : ¬ d = 0 := by omega
  by_cases h : 0 < n % d
  · have R := Lib.hid (show -(n.tdiv d) - 1 = flrZ n d by unfold flrZ; rw [k1, k2, k0, if_pos (by omega)])
    have e1 : IntKind.i64.wrap (-(n.tdiv d)) = -(n.tdiv d) := i64w (by omega)
    have e2 : IntKind.i64.wrap (-(n.tdiv d) - 1) = -(n.tdiv d) - 1 := i64w (by omega)
    have e3 : IntKind.i64.wrap (-(n % d)) = -(n % d) := i64w (by omega)
    go_enter Try.func40, Try.ntmps40
    go_wp2_with (fail)
    go_ret
    exact ⟨ret_int R.out, rfl⟩
  · have R := Lib.hid (show -(n.tdiv d) = flrZ n d by unfold flrZ; rw [k1, k2, k0, if_neg (by omega)])
    have e1 : IntKind.i64.wrap (-(n.tdiv d)) = -(n.tdiv d) := i64w (by omega)
    have e3 : IntKind.i64.wrap (-(n % d)) = -(n % d) := i64w (by omega)
    go_enter Try.func40, Try.ntmps40
    go_wp2_with (fail)
    go_ret
    exact ⟨ret_int R.out, rfl⟩
set_option maxRecDepth 100000 in
set_option maxHeartbeats 4000000 in
theorem LowestP_any (num den : Int) (w : World) (hn : 0 ≤ num) (hn2 : num ≤ 8000000000000000000) (hd : 0 < den) (hd2 : den ≤ 8000000000000000000) :
    Calls Try.prog 29 #[.int .i64 num, .int .i64 den] w fun e w' => e = .returned (.agg #[.int .i64 (num / gcZ num den), .int .i64 (den / gcZ num den)]) ∧ Below w.heap.size w w' := by
  go_enter Try.func29, Try.ntmps29
  go_wp2_with (fail)
  have B0 := Lib.hid (show Below w.heap.size w (w.alloc (.cells #[.int .i64 0, .int .i64 0] 40)) from (by repeat (first | exact Below.refl _ _ | assumption | refine Below.drew ?_ | refine bdrewN ?_ _ | refine Below.setCell ?_ (by first | omega | (simp <;> omega)) _ | refine Below.alloc ?_ (by first | omega | (simp <;> omega)) _)))
  have hcell := heap_alloc_new w (.cells #[.int .i64 0, .int .i64 0] 40)
  generalize (w.alloc (.cells #[.int .i64 0, .int .i64 0] 40)) = w1 at *
  obtain ⟨g, hg⟩ : ∃ g, g = w.heap.size := ⟨_, rfl⟩
  rw [← hg] at hcell ⊢
  have HG := Lib.hid hg
  have HC := Lib.hid hcell
  clear hg hcell
  go_loopw [5, 6] (fun a b wr => ∃ A D : Int, a = .int .i64 A ∧ b = .int .i64 D ∧ 0 ≤ A ∧ A ≤ 8000000000000000000 ∧ 0 ≤ D ∧ D ≤ 8000000000000000000 ∧ gcZ A D = gcZ num den ∧ Below w1.heap.size w1 wr) (fun _ b _ => (intOf b).toNat)
  case atStart => exact ⟨den, num, rfl, rfl, by omega, by omega, by omega, by omega, gcZ_comm _ _, Below.refl _ _⟩
  case round =>
    obtain ⟨A, D, rfl, rfl, hA, hA2, hD, hD2, hgc, hbel⟩ := hrel
    have HGC := Lib.hid hgc
    have HB := Lib.hid hbel
    clear hgc hbel
    by_cases hz : D = 0
    · subst hz
      have hgz := gcZ_pos (n := num) hd
      have hgl := gcZ_le (n := num) hd
      have e : A = gcZ num den := by rw [← HGC.out, gcd_end hA]
      obtain ⟨G, hG⟩ : ∃ G, gcZ num den = G := ⟨_, rfl⟩
      rw [hG] at hgz hgl e
      subst e
      have HE := Lib.hid hG
      have hc := heap_keep HB.out HC.out
      have c0 := cell_of hc (i := 0) rfl
      have c1 := cell_of hc (i := 1) rfl
      have f0 := frozen_of hc (i := 0)
      have f1 := frozen_of hc (i := 1)
      have lb := low_bnd hn hd
      rw [hG] at lb
      have q0 : num.tdiv A = num / A := Int.tdiv_eq_ediv_of_nonneg hn
      have q1 : den.tdiv A = den / A := Int.tdiv_eq_ediv_of_nonneg (by omega)
      have q2 : IntKind.i64.wrap (num / A) = num / A := i64w (by omega)
      have q3 : IntKind.i64.wrap (den / A) = den / A := i64w (by omega)
      have hA0 : ¬ A = 0 := by omega
      have hA0' : (A == 0) = false := by simp; omega
      have hAl : ¬ A < 0 := by omega
      clear hG lb
      go_wp2_with (fail)
      refine wp_region_held_drew (S := (fun _ => True)) (by kernel_rfl) True.intro (fun hHeld => ?_)
      refine tkH (by assumption) 0 (oi := ?_) (v := ?_) ?_ ?_ ?_ ?_ ?_ ?_ ?_ ?_; rotate_left 2; (simp only [gA, gB, gC]; exact rfl); kernel_rfl; kernel_rfl; kernel_rfl; exact fun _ _ _ h => h; rfl; (intro w' hSw; (try dsimp only at hSw); go_simp; with_reducible rfl); simp only [Act.put, pB, pC, pD]
      refine tkH (by assumption) 1 (oi := ?_) (v := ?_) ?_ ?_ ?_ ?_ ?_ ?_ ?_ ?_; rotate_left 2; (simp only [gA, gB, gC]; exact rfl); kernel_rfl; kernel_rfl; kernel_rfl; exact fun _ _ _ h => h; rfl; (intro w' hSw; (try dsimp only at hSw); go_simp; with_reducible rfl); simp only [Act.put, pB, pC, pD]
      refine tkH (by assumption) 2 (oi := ?_) (v := ?_) ?_ ?_ ?_ ?_ ?_ ?_ ?_ ?_; rotate_left 2; (simp only [gA, gB, gC]; exact rfl); kernel_rfl; kernel_rfl; kernel_rfl; exact fun _ _ _ h => h; rfl; (intro w' hSw; (try dsimp only at hSw); go_simp; with_reducible rfl); simp only [Act.put, pB, pC, pD]
      refine tkH (by assumption) 3 (oi := ?_) (v := ?_) ?_ ?_ ?_ ?_ ?_ ?_ ?_ ?_; rotate_left 2; (simp only [gA, gB, gC]; exact rfl); kernel_rfl; kernel_rfl; kernel_rfl; exact fun _ _ _ h => h; rfl; (intro w' hSw; (try dsimp only at hSw); go_simp; with_reducible rfl); simp only [Act.put, pB, pC, pD]
      refine tkH (by assumption) 4 (oi := ?_) (v := ?_) ?_ ?_ ?_ ?_ ?_ ?_ ?_ ?_; rotate_left 2; (simp only [gA, gB, gC]; exact rfl); kernel_rfl; kernel_rfl; kernel_rfl; exact fun _ _ _ h => h; rfl; (intro w' hSw; (try dsimp only at hSw); go_simp; with_reducible rfl); simp only [Act.put, pB, pC, pD]
      refine tkH (by assumption) 5 (oi := ?_) (v := ?_) ?_ ?_ ?_ ?_ ?_ ?_ ?_ ?_; rotate_left 2; (simp only [gA, gB, gC]; exact rfl); kernel_rfl; kernel_rfl; kernel_rfl; exact fun _ _ _ h => h; rfl; (intro w' hSw; (try dsimp only at hSw); go_simp; with_reducible rfl); simp only [Act.put, pB, pC, pD]
      refine onH 6 (oi := ?_) (by kernel_rfl) ?_ ?_ (fun K hK => ?_); rotate_left; (simp only [gA, gB, gC]; exact rfl); rfl
      go_wp2_with (fail)
      refine hK.out _ _ True.intro (fun hHeldN => ?_)
      clear hK K hHeld
      have hHeld := hHeldN
      clear hHeldN
      try simp only [Act.put, pB, pC, pD]
      refine onH 7 (oi := ?_) (by kernel_rfl) ?_ ?_ (fun K hK => ?_); rotate_left; (simp only [gA, gB, gC]; exact rfl); rfl
      go_wp2_with (fail)
      have hs := set2V_1 (u := .int .i64 (den / A)) (set2V_0 (u := .int .i64 (num / A)) hc)
      have B9 := Lib.hid (Below.next_drew ((Below.setCell (p := ⟨g, 0, none⟩) (B0.out.trans (HB.out.mono B0.out.size)) (by rw [HG.out]; exact Nat.le_refl _) (.int .i64 (num / A))).setCell (p := ⟨g, 1, none⟩) (by rw [HG.out]; exact Nat.le_refl _) (.int .i64 (den / A))))
      have r0 : (((wr.setCell ⟨g, 0, none⟩ (.int .i64 (num / A))).setCell ⟨g, 1, none⟩ (.int .i64 (den / A))).drew).cell? ⟨g, 0, none⟩ = some (.int .i64 (num / A)) := cell_of hs (i := 0) rfl
      have r1 : (((wr.setCell ⟨g, 0, none⟩ (.int .i64 (num / A))).setCell ⟨g, 1, none⟩ (.int .i64 (den / A))).drew).cell? ⟨g, 1, none⟩ = some (.int .i64 (den / A)) := cell_of hs (i := 1) rfl
      refine hK.out _ _ True.intro (fun hHeldN => ?_)
      clear hK K hHeld
      have hHeld := hHeldN
      clear hHeldN
      try simp only [Act.put, pB, pC, pD]
      clear hs c0 c1 f0 f1 hc
      generalize (((wr.setCell ⟨g, 0, none⟩ (.int .i64 (num / A))).setCell ⟨g, 1, none⟩ (.int .i64 (den / A))).drew) = W9 at *
      refine wpAnyH_done (by kernel_rfl) ?_ _
      go_wp2_with (fail)
      exact bodyPost_ret (v := .agg #[.int .i64 (num / A), .int .i64 (den / A)]) (by simp [results, Try.results29, go_sem, r0, r1]) rfl ⟨by rw [HE.out], B9.out⟩
    · have q0 : A.tmod D = A % D := Int.tmod_eq_emod_of_nonneg hA
      have hm0 := Int.emod_nonneg A hz
      have hm1 := Int.emod_lt_of_pos A (show 0 < D by omega)
      have q1 : IntKind.i64.wrap (A % D) = A % D := i64w (by omega)
      have hz' : (D != 0) = true := by simpa using hz
      have hz2 : (D == 0) = false := by simpa using hz
      have HST := Lib.hid (show gcZ D (A % D) = gcZ num den by rw [← gcd_step hA (by omega)]; exact HGC.out)
      go_wp2_with (fail)
      refine wp_region_held_drew (S := (fun _ => True)) (by kernel_rfl) True.intro (fun hHeld => ?_)
      refine tkH (by assumption) 0 (oi := ?_) (v := ?_) ?_ ?_ ?_ ?_ ?_ ?_ ?_ ?_; rotate_left 2; (simp only [gA, gB, gC]; exact rfl); kernel_rfl; kernel_rfl; kernel_rfl; exact fun _ _ _ h => h; rfl; (intro w' hSw; (try dsimp only at hSw); go_simp; with_reducible rfl); simp only [Act.put, pB, pC, pD]
      refine tkH (by assumption) 1 (oi := ?_) (v := ?_) ?_ ?_ ?_ ?_ ?_ ?_ ?_ ?_; rotate_left 2; (simp only [gA, gB, gC]; exact rfl); kernel_rfl; kernel_rfl; kernel_rfl; exact fun _ _ _ h => h; rfl; (intro w' hSw; (try dsimp only at hSw); go_simp; with_reducible rfl); simp only [Act.put, pB, pC, pD]
      refine tkH (by assumption) 2 (oi := ?_) (v := ?_) ?_ ?_ ?_ ?_ ?_ ?_ ?_ ?_; rotate_left 2; (simp only [gA, gB, gC]; exact rfl); kernel_rfl; kernel_rfl; kernel_rfl; exact fun _ _ _ h => h; rfl; (intro w' hSw; (try dsimp only at hSw); go_simp; with_reducible rfl); simp only [Act.put, pB, pC, pD]
      refine tkH (by assumption) 3 (oi := ?_) (v := ?_) ?_ ?_ ?_ ?_ ?_ ?_ ?_ ?_; rotate_left 2; (simp only [gA, gB, gC]; exact rfl); kernel_rfl; kernel_rfl; kernel_rfl; exact fun _ _ _ h => h; rfl; (intro w' hSw; (try dsimp only at hSw); go_simp; with_reducible rfl); simp only [Act.put, pB, pC, pD]
      refine tkH (by assumption) 4 (oi := ?_) (v := ?_) ?_ ?_ ?_ ?_ ?_ ?_ ?_ ?_; rotate_left 2; (simp only [gA, gB, gC]; exact rfl); kernel_rfl; kernel_rfl; kernel_rfl; exact fun _ _ _ h => h; rfl; (intro w' hSw; (try dsimp only at hSw); go_simp; with_reducible rfl); simp only [Act.put, pB, pC, pD]
      refine tkH (by assumption) 5 (oi := ?_) (v := ?_) ?_ ?_ ?_ ?_ ?_ ?_ ?_ ?_; rotate_left 2; (simp only [gA, gB, gC]; exact rfl); kernel_rfl; kernel_rfl; kernel_rfl; exact fun _ _ _ h => h; rfl; (intro w' hSw; (try dsimp only at hSw); go_simp; with_reducible rfl); simp only [Act.put, pB, pC, pD]
      refine wpAnyH_done (by kernel_rfl) ?_ _
      go_wp2_with (fail)
      go_roundw
      case rel => exact ⟨D, A % D, rfl, rfl, by omega, by omega, by omega, by omega, HST.out, Below.next_drew HB.out⟩
      case measure => simp [intOf] <;> omega
set_option maxRecDepth 100000 in
set_option maxHeartbeats 4000000 in
theorem LowestR_any (num den : Int) (w : World) (hn : 0 ≤ num) (hn2 : num ≤ 8000000000000000000) (hd : 0 < den) (hd2 : den ≤ 8000000000000000000) :
    Calls Try.prog 41 #[.int .i64 num, .int .i64 den] w fun e w' => e = .returned (.agg #[.int .i64 (num / gcZ num den), .int .i64 (den / gcZ num den)]) ∧ Below w.heap.size w w' := by
  have emx : (if -num > num then -num else num) = num := by split <;> omega
  have eng : IntKind.i64.wrap (-num) = -num := i64w (by omega)
  go_enter Try.func41, Try.ntmps41
  go_wp2_with (fail)
  have B0 := Lib.hid (show Below w.heap.size w (w.alloc (.cells #[.int .i64 0, .int .i64 0] 40)) from (by repeat (first | exact Below.refl _ _ | assumption | refine Below.drew ?_ | refine bdrewN ?_ _ | refine Below.setCell ?_ (by first | omega | (simp <;> omega)) _ | refine Below.alloc ?_ (by first | omega | (simp <;> omega)) _)))
  have hcell := heap_alloc_new w (.cells #[.int .i64 0, .int .i64 0] 40)
  generalize (w.alloc (.cells #[.int .i64 0, .int .i64 0] 40)) = w1 at *
  obtain ⟨g, hg⟩ : ∃ g, g = w.heap.size := ⟨_, rfl⟩
  rw [← hg] at hcell ⊢
  have HG := Lib.hid hg
  have HC := Lib.hid hcell
  clear hg hcell
  go_loopw [5, 6] (fun a b wr => ∃ A D : Int, a = .int .i64 A ∧ b = .int .i64 D ∧ 0 ≤ A ∧ A ≤ 8000000000000000000 ∧ 0 ≤ D ∧ D ≤ 8000000000000000000 ∧ gcZ A D = gcZ num den ∧ Below w1.heap.size w1 wr) (fun _ b _ => (intOf b).toNat)
  case atStart => exact ⟨num, den, rfl, rfl, by omega, by omega, by omega, by omega, rfl, Below.refl _ _⟩
  case round =>
    obtain ⟨A, D, rfl, rfl, hA, hA2, hD, hD2, hgc, hbel⟩ := hrel
    have HGC := Lib.hid hgc
    have HB := Lib.hid hbel
    clear hgc hbel
    by_cases hz : D = 0
    · subst hz
      have hgz := gcZ_pos (n := num) hd
      have hgl := gcZ_le (n := num) hd
      have e : A = gcZ num den := by rw [← HGC.out, gcd_end hA]
      obtain ⟨G, hG⟩ : ∃ G, gcZ num den = G := ⟨_, rfl⟩
      rw [hG] at hgz hgl e
      subst e
      have HE := Lib.hid hG
      have hc := heap_keep HB.out HC.out
      have c0 := cell_of hc (i := 0) rfl
      have c1 := cell_of hc (i := 1) rfl
      have f0 := frozen_of hc (i := 0)
      have f1 := frozen_of hc (i := 1)
      have lb := low_bnd hn hd
      rw [hG] at lb
      have q0 : num.tdiv A = num / A := Int.tdiv_eq_ediv_of_nonneg hn
      have q1 : den.tdiv A = den / A := Int.tdiv_eq_ediv_of_nonneg (by omega)
      have q2 : IntKind.i64.wrap (num / A) = num / A := i64w (by omega)
      have q3 : IntKind.i64.wrap (den / A) = den / A := i64w (by omega)
      have hA0 : ¬ A = 0 := by omega
      have hA0' : (A == 0) = false := by simp; omega
      have hAl : ¬ A < 0 := by omega
      clear hG lb
      go_wp2_with (fail)
      refine wp_region_held_drew (S := (fun _ => True)) (by kernel_rfl) True.intro (fun hHeld => ?_)
      refine tkH (by assumption) 0 (oi := ?_) (v := ?_) ?_ ?_ ?_ ?_ ?_ ?_ ?_ ?_; rotate_left 2; (simp only [gA, gB, gC]; exact rfl); kernel_rfl; kernel_rfl; kernel_rfl; exact fun _ _ _ h => h; rfl; (intro w' hSw; (try dsimp only at hSw); go_simp; with_reducible rfl); simp only [Act.put, pB, pC, pD]
      refine tkH (by assumption) 1 (oi := ?_) (v := ?_) ?_ ?_ ?_ ?_ ?_ ?_ ?_ ?_; rotate_left 2; (simp only [gA, gB, gC]; exact rfl); kernel_rfl; kernel_rfl; kernel_rfl; exact fun _ _ _ h => h; rfl; (intro w' hSw; (try dsimp only at hSw); go_simp; with_reducible rfl); simp only [Act.put, pB, pC, pD]
      refine tkH (by assumption) 2 (oi := ?_) (v := ?_) ?_ ?_ ?_ ?_ ?_ ?_ ?_ ?_; rotate_left 2; (simp only [gA, gB, gC]; exact rfl); kernel_rfl; kernel_rfl; kernel_rfl; exact fun _ _ _ h => h; rfl; (intro w' hSw; (try dsimp only at hSw); go_simp; with_reducible rfl); simp only [Act.put, pB, pC, pD]
      refine tkH (by assumption) 3 (oi := ?_) (v := ?_) ?_ ?_ ?_ ?_ ?_ ?_ ?_ ?_; rotate_left 2; (simp only [gA, gB, gC]; exact rfl); kernel_rfl; kernel_rfl; kernel_rfl; exact fun _ _ _ h => h; rfl; (intro w' hSw; (try dsimp only at hSw); go_simp; with_reducible rfl); simp only [Act.put, pB, pC, pD]
      refine tkH (by assumption) 4 (oi := ?_) (v := ?_) ?_ ?_ ?_ ?_ ?_ ?_ ?_ ?_; rotate_left 2; (simp only [gA, gB, gC]; exact rfl); kernel_rfl; kernel_rfl; kernel_rfl; exact fun _ _ _ h => h; rfl; (intro w' hSw; (try dsimp only at hSw); go_simp; with_reducible rfl); simp only [Act.put, pB, pC, pD]
      refine tkH (by assumption) 5 (oi := ?_) (v := ?_) ?_ ?_ ?_ ?_ ?_ ?_ ?_ ?_; rotate_left 2; (simp only [gA, gB, gC]; exact rfl); kernel_rfl; kernel_rfl; kernel_rfl; exact fun _ _ _ h => h; rfl; (intro w' hSw; (try dsimp only at hSw); go_simp; with_reducible rfl); simp only [Act.put, pB, pC, pD]
      refine onH 6 (oi := ?_) (by kernel_rfl) ?_ ?_ (fun K hK => ?_); rotate_left; (simp only [gA, gB, gC]; exact rfl); rfl
      go_wp2_with (fail)
      refine hK.out _ _ True.intro (fun hHeldN => ?_)
      clear hK K hHeld
      have hHeld := hHeldN
      clear hHeldN
      try simp only [Act.put, pB, pC, pD]
      refine onH 7 (oi := ?_) (by kernel_rfl) ?_ ?_ (fun K hK => ?_); rotate_left; (simp only [gA, gB, gC]; exact rfl); rfl
      go_wp2_with (fail)
      have hs := set2V_1 (u := .int .i64 (den / A)) (set2V_0 (u := .int .i64 (num / A)) hc)
      have B9 := Lib.hid (Below.next_drew ((Below.setCell (p := ⟨g, 0, none⟩) (B0.out.trans (HB.out.mono B0.out.size)) (by rw [HG.out]; exact Nat.le_refl _) (.int .i64 (num / A))).setCell (p := ⟨g, 1, none⟩) (by rw [HG.out]; exact Nat.le_refl _) (.int .i64 (den / A))))
      have r0 : (((wr.setCell ⟨g, 0, none⟩ (.int .i64 (num / A))).setCell ⟨g, 1, none⟩ (.int .i64 (den / A))).drew).cell? ⟨g, 0, none⟩ = some (.int .i64 (num / A)) := cell_of hs (i := 0) rfl
      have r1 : (((wr.setCell ⟨g, 0, none⟩ (.int .i64 (num / A))).setCell ⟨g, 1, none⟩ (.int .i64 (den / A))).drew).cell? ⟨g, 1, none⟩ = some (.int .i64 (den / A)) := cell_of hs (i := 1) rfl
      refine hK.out _ _ True.intro (fun hHeldN => ?_)
      clear hK K hHeld
      have hHeld := hHeldN
      clear hHeldN
      try simp only [Act.put, pB, pC, pD]
      clear hs c0 c1 f0 f1 hc
      generalize (((wr.setCell ⟨g, 0, none⟩ (.int .i64 (num / A))).setCell ⟨g, 1, none⟩ (.int .i64 (den / A))).drew) = W9 at *
      refine wpAnyH_done (by kernel_rfl) ?_ _
      go_wp2_with (fail)
      exact bodyPost_ret (v := .agg #[.int .i64 (num / A), .int .i64 (den / A)]) (by simp [results, Try.results41, go_sem, r0, r1]) rfl ⟨by rw [HE.out], B9.out⟩
    · have q0 : A.tmod D = A % D := Int.tmod_eq_emod_of_nonneg hA
      have hm0 := Int.emod_nonneg A hz
      have hm1 := Int.emod_lt_of_pos A (show 0 < D by omega)
      have q1 : IntKind.i64.wrap (A % D) = A % D := i64w (by omega)
      have hz' : (D != 0) = true := by simpa using hz
      have hz2 : (D == 0) = false := by simpa using hz
      have HST := Lib.hid (show gcZ D (A % D) = gcZ num den by rw [← gcd_step hA (by omega)]; exact HGC.out)
      go_wp2_with (fail)
      refine wp_region_held_drew (S := (fun _ => True)) (by kernel_rfl) True.intro (fun hHeld => ?_)
      refine tkH (by assumption) 0 (oi := ?_) (v := ?_) ?_ ?_ ?_ ?_ ?_ ?_ ?_ ?_; rotate_left 2; (simp only [gA, gB, gC]; exact rfl); kernel_rfl; kernel_rfl; kernel_rfl; exact fun _ _ _ h => h; rfl; (intro w' hSw; (try dsimp only at hSw); go_simp; with_reducible rfl); simp only [Act.put, pB, pC, pD]
      refine tkH (by assumption) 1 (oi := ?_) (v := ?_) ?_ ?_ ?_ ?_ ?_ ?_ ?_ ?_; rotate_left 2; (simp only [gA, gB, gC]; exact rfl); kernel_rfl; kernel_rfl; kernel_rfl; exact fun _ _ _ h => h; rfl; (intro w' hSw; (try dsimp only at hSw); go_simp; with_reducible rfl); simp only [Act.put, pB, pC, pD]
      refine tkH (by assumption) 2 (oi := ?_) (v := ?_) ?_ ?_ ?_ ?_ ?_ ?_ ?_ ?_; rotate_left 2; (simp only [gA, gB, gC]; exact rfl); kernel_rfl; kernel_rfl; kernel_rfl; exact fun _ _ _ h => h; rfl; (intro w' hSw; (try dsimp only at hSw); go_simp; with_reducible rfl); simp only [Act.put, pB, pC, pD]
      refine tkH (by assumption) 3 (oi := ?_) (v := ?_) ?_ ?_ ?_ ?_ ?_ ?_ ?_ ?_; rotate_left 2; (simp only [gA, gB, gC]; exact rfl); kernel_rfl; kernel_rfl; kernel_rfl; exact fun _ _ _ h => h; rfl; (intro w' hSw; (try dsimp only at hSw); go_simp; with_reducible rfl); simp only [Act.put, pB, pC, pD]
      refine tkH (by assumption) 4 (oi := ?_) (v := ?_) ?_ ?_ ?_ ?_ ?_ ?_ ?_ ?_; rotate_left 2; (simp only [gA, gB, gC]; exact rfl); kernel_rfl; kernel_rfl; kernel_rfl; exact fun _ _ _ h => h; rfl; (intro w' hSw; (try dsimp only at hSw); go_simp; with_reducible rfl); simp only [Act.put, pB, pC, pD]
      refine tkH (by assumption) 5 (oi := ?_) (v := ?_) ?_ ?_ ?_ ?_ ?_ ?_ ?_ ?_; rotate_left 2; (simp only [gA, gB, gC]; exact rfl); kernel_rfl; kernel_rfl; kernel_rfl; exact fun _ _ _ h => h; rfl; (intro w' hSw; (try dsimp only at hSw); go_simp; with_reducible rfl); simp only [Act.put, pB, pC, pD]
      refine wpAnyH_done (by kernel_rfl) ?_ _
      go_wp2_with (fail)
      go_roundw
      case rel => exact ⟨D, A % D, rfl, rfl, by omega, by omega, by omega, by omega, HST.out, Below.next_drew HB.out⟩
      case measure => simp [intOf] <;> omega

end Go.Proofs.Ytjjedffmcloahaa

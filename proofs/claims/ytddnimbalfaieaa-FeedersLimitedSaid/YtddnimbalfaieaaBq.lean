/- Quotients in lowest terms: the program and the reference. -/
import Derived.Test.YtddnimbalfaieaaBg
set_option linter.unusedSimpArgs false
set_option linter.unusedVariables false
namespace Go.Proofs.Ytddnimbalfaieaa
open Go.RowKit
theorem ediv_is {a d x : Int} (hd : 0 < d) (h1 : x * d ≤ a) (h2 : a < (x + 1) * d) : a / d = x := by
  have h3 := (Int.le_ediv_iff_mul_le hd).2 h1
  have h4 := (Int.ediv_lt_iff_lt_mul hd).2 h2
  omega
/-- A quotient, rounded up. -/
def ceilZ (n d : Int) : Int := -((-n) / d)
theorem ceil_go {n d : Int} (hn : 0 ≤ n) (hd : 0 < d) : (if 0 < n.tmod d then n.tdiv d + 1 else n.tdiv d) = ceilZ n d := by
  rw [Int.tdiv_eq_ediv_of_nonneg hn, Int.tmod_eq_emod_of_nonneg hn]
  have h1 := Int.emod_nonneg n (show d ≠ 0 by omega)
  have h2 := Int.emod_lt_of_pos n hd
  have h3 := Int.mul_ediv_add_emod n d
  unfold ceilZ
  generalize n / d = q at *
  generalize n % d = r at *
  split
  · rw [ediv_is (a := -n) (d := d) (x := -(q + 1)) hd (by rw [Int.neg_mul, Int.add_mul, Int.mul_comm q d]; omega) (by rw [show -(q + 1) + 1 = -q by omega, Int.neg_mul, Int.mul_comm q d]; omega)]
    omega
  · rw [ediv_is (a := -n) (d := d) (x := -q) hd (by rw [Int.neg_mul, Int.mul_comm q d]; omega) (by rw [Int.add_mul, Int.neg_mul, Int.mul_comm q d]; omega)]
    omega
/-- A quotient of negated numbers, rounded down, negated. -/
theorem floor_go {n d : Int} (hn : 0 ≤ n) (hd : 0 < d) : -(if (-n).tmod d < 0 then (-n).tdiv d - 1 else (-n).tdiv d) = ceilZ n d := by
  rw [← ceil_go hn hd, Int.neg_tdiv, Int.neg_tmod]
  have h := Int.tmod_nonneg d hn
  split <;> split <;> omega
theorem ceil_mul {n d k : Int} (hk : 0 < k) (hd : 0 < d) : ceilZ (k * n) (k * d) = ceilZ n d := by
  unfold ceilZ
  rw [show -(k * n) = k * -n by rw [Int.mul_neg], Int.mul_ediv_mul_of_pos _ _ hk]
/-- The greatest common divisor. -/
def gcZ (n d : Int) : Int := (Nat.gcd n.toNat d.toNat : Nat)
theorem gcZ_pos {n d : Int} (hd : 0 < d) : 0 < gcZ n d := by
  have := Nat.gcd_pos_of_pos_right n.toNat (n := d.toNat) (by omega)
  unfold gcZ; omega
theorem gcZ_le {n d : Int} (hd : 0 < d) : gcZ n d ≤ d := by
  have := Nat.gcd_le_right n.toNat (n := d.toNat) (by omega)
  unfold gcZ; omega
theorem gcZ_n {n d : Int} (hn : 0 ≤ n) : ∃ q, 0 ≤ q ∧ n = gcZ n d * q ∧ n / gcZ n d = q ∨ gcZ n d = 0 := by
  by_cases h0 : gcZ n d = 0
  · exact ⟨0, .inr h0⟩
  · obtain ⟨q, hq⟩ := Nat.gcd_dvd_left n.toNat d.toNat
    have e : n = gcZ n d * (q : Int) := by
      unfold gcZ
      rw [← Int.natCast_mul, ← hq]; omega
    refine ⟨q, .inl ⟨by omega, e, ?_⟩⟩
    conv => lhs; lhs; rw [e]
    exact Int.mul_ediv_cancel_left _ h0
theorem gcZ_d {n d : Int} (hd : 0 < d) : ∃ q, 0 < q ∧ d = gcZ n d * q ∧ d / gcZ n d = q := by
  have h0 := gcZ_pos (n := n) hd
  obtain ⟨q, hq⟩ := Nat.gcd_dvd_right n.toNat d.toNat
  have e : d = gcZ n d * (q : Int) := by
    unfold gcZ
    rw [← Int.natCast_mul, ← hq]; omega
  have e2 : d / gcZ n d = (q : Int) := by
    conv => lhs; lhs; rw [e]
    exact Int.mul_ediv_cancel_left _ (by omega)
  refine ⟨q, ?_, e, e2⟩
  rcases Nat.eq_zero_or_pos q with h | h
  · subst h; simp at e; omega
  · omega
/-- Rounded up alike in lowest terms. -/
theorem ceil_low {n d : Int} (hn : 0 ≤ n) (hd : 0 < d) : ceilZ (n / gcZ n d) (d / gcZ n d) = ceilZ n d := by
  have h0 := gcZ_pos (n := n) hd
  obtain ⟨q, h⟩ := gcZ_n (d := d) hn
  obtain ⟨r, hr0, hr1, hr2⟩ := gcZ_d (n := n) hd
  rcases h with ⟨h1, h2, h3⟩ | h
  · rw [h3, hr2, ← ceil_mul (n := q) (d := r) h0 hr0, ← h2, ← hr1]
  · omega
theorem low_bnd {n d : Int} (hn : 0 ≤ n) (hd : 0 < d) : (0 ≤ n / gcZ n d ∧ n / gcZ n d ≤ n) ∧ (0 < d / gcZ n d ∧ d / gcZ n d ≤ d) := by
  have h0 := gcZ_pos (n := n) hd
  obtain ⟨r, hr0, hr1, hr2⟩ := gcZ_d (n := n) hd
  refine ⟨⟨Int.ediv_nonneg hn (by omega), Int.ediv_le_self _ hn⟩, by omega, Int.ediv_le_self _ (by omega)⟩
/-- A round of Euclid. -/
theorem gcd_step {a b : Int} (ha : 0 ≤ a) (hb : 0 < b) : gcZ a b = gcZ b (a % b) := by
  have h1 := Int.emod_nonneg a (show b ≠ 0 by omega)
  unfold gcZ
  rw [Nat.gcd_comm, Nat.gcd_rec, Nat.gcd_comm]
  congr 2
  rw [Int.toNat_emod ha (by omega)]
theorem gcd_end {a : Int} (ha : 0 ≤ a) : gcZ a 0 = a := by unfold gcZ; simp; omega
theorem gcZ_comm (a b : Int) : gcZ a b = gcZ b a := by unfold gcZ; rw [Nat.gcd_comm]
theorem set2V_0 {w : World} {b : Nat} {v0 v1 u : Value} {t : TypeId} (h : w.heap[b]? = some (.cells #[v0, v1] t (0, 0))) : (w.setCell ⟨b, 0, none⟩ u).heap[b]? = some (.cells #[u, v1] t (0, 0)) := by
  simp [World.setCell, Array.getElem?_modify, h]
theorem set2V_1 {w : World} {b : Nat} {v0 v1 u : Value} {t : TypeId} (h : w.heap[b]? = some (.cells #[v0, v1] t (0, 0))) : (w.setCell ⟨b, 1, none⟩ u).heap[b]? = some (.cells #[v0, u] t (0, 0)) := by
  simp [World.setCell, Array.getElem?_modify, h]
set_option maxRecDepth 100000 in
set_option maxHeartbeats 4000000 in
theorem LowestP_any (num den : Int) (w : World) (hn : 0 ≤ num) (hn2 : num ≤ 8000000000000000000) (hd : 0 < den) (hd2 : den ≤ 8000000000000000000) :
    Calls Try.prog 47 #[.int .i64 num, .int .i64 den] w fun e w' => e = .returned (.agg #[.int .i64 (num / gcZ num den), .int .i64 (den / gcZ num den)]) ∧ Below w.heap.size w w' := by
  go_enter Try.func47, Try.ntmps47
  go_wp2_with (fail)
  have B0 := Lib.hid (show Below w.heap.size w (w.alloc (.cells #[.int .i64 0, .int .i64 0] 36)) from (by repeat (first | exact Below.refl _ _ | assumption | refine Below.drew ?_ | refine bdrewN ?_ _ | refine Below.setCell ?_ (by first | omega | (simp <;> omega)) _ | refine Below.alloc ?_ (by first | omega | (simp <;> omega)) _)))
  have hcell := heap_alloc_new w (.cells #[.int .i64 0, .int .i64 0] 36)
  generalize (w.alloc (.cells #[.int .i64 0, .int .i64 0] 36)) = w1 at *
  obtain ⟨g, hg⟩ : ∃ g, g = w.heap.size := ⟨_, rfl⟩
  rw [← hg] at hcell ⊢
  have HG := Lib.hid hg
  have HC := Lib.hid hcell
  clear hg hcell
  go_loopw [5, 6] (fun a b wr => ∃ A D : Int, a = .int .i64 A ∧ b = .int .i64 D ∧ 0 ≤ A ∧ A ≤ 8000000000000000000 ∧ 0 ≤ D ∧ D ≤ 8000000000000000000 ∧ gcZ A D = gcZ num den ∧ Below w1.heap.size w1 wr) (fun _ b _ => (intOf b).toNat)
  case atStart => exact ⟨den, num, rfl, rfl, by omega, by omega, by omega, by omega, gcZ_comm _ _, Below.refl _ _⟩
  case round =>
    obtain ⟨A, D, rfl, rfl, hA, hA2, hD, hD2, hgc, hbel⟩ := hrel
    have HGC := Lib.hid hgc
    have HB := Lib.hid hbel
    clear hgc hbel
    by_cases hz : D = 0
    · subst hz
      have hgz := gcZ_pos (n := num) hd
      have hgl := gcZ_le (n := num) hd
      have e : A = gcZ num den := by rw [← HGC.out, gcd_end hA]
      obtain ⟨G, hG⟩ : ∃ G, gcZ num den = G := ⟨_, rfl⟩
      rw [hG] at hgz hgl e
      subst e
      have HE := Lib.hid hG
      have hc := heap_keep HB.out HC.out
      have c0 := cell_of hc (i := 0) rfl
      have c1 := cell_of hc (i := 1) rfl
      have f0 := frozen_of hc (i := 0)
      have f1 := frozen_of hc (i := 1)
      have lb := low_bnd hn hd
      rw [hG] at lb
      have q0 : num.tdiv A = num / A := Int.tdiv_eq_ediv_of_nonneg hn
      have q1 : den.tdiv A = den / A := Int.tdiv_eq_ediv_of_nonneg (by omega)
      have q2 : IntKind.i64.wrap (num / A) = num / A := i64w (by omega)
      have q3 : IntKind.i64.wrap (den / A) = den / A := i64w (by omega)
      have hA0 : ¬ A = 0 := by omega
      have hA0' : (A == 0) = false := by simp; omega
      have hAl : ¬ A < 0 := by omega
      clear hG lb
      go_wp2_with (fail)
      refine wp_region_held_drew (S := (fun _ => True)) (by kernel_rfl) True.intro (fun hHeld => ?_)
      refine tkH (by assumption) 0 (oi := ?_) (v := ?_) ?_ ?_ ?_ ?_ ?_ ?_ ?_ ?_; rotate_left 2; (simp only [gA, gB, gC]; exact rfl); kernel_rfl; kernel_rfl; kernel_rfl; exact fun _ _ _ h => h; rfl; (intro w' hSw; (try dsimp only at hSw); go_simp; with_reducible rfl); simp only [Act.put, pB, pC, pD]
      refine tkH (by assumption) 1 (oi := ?_) (v := ?_) ?_ ?_ ?_ ?_ ?_ ?_ ?_ ?_; rotate_left 2; (simp only [gA, gB, gC]; exact rfl); kernel_rfl; kernel_rfl; kernel_rfl; exact fun _ _ _ h => h; rfl; (intro w' hSw; (try dsimp only at hSw); go_simp; with_reducible rfl); simp only [Act.put, pB, pC, pD]
      refine tkH (by assumption) 2 (oi := ?_) (v := ?_) ?_ ?_ ?_ ?_ ?_ ?_ ?_ ?_; rotate_left 2; (simp only [gA, gB, gC]; exact rfl); kernel_rfl; kernel_rfl; kernel_rfl; exact fun _ _ _ h => h; rfl; (intro w' hSw; (try dsimp only at hSw); go_simp; with_reducible rfl); simp only [Act.put, pB, pC, pD]
      refine tkH (by assumption) 3 (oi := ?_) (v := ?_) ?_ ?_ ?_ ?_ ?_ ?_ ?_ ?_; rotate_left 2; (simp only [gA, gB, gC]; exact rfl); kernel_rfl; kernel_rfl; kernel_rfl; exact fun _ _ _ h => h; rfl; (intro w' hSw; (try dsimp only at hSw); go_simp; with_reducible rfl); simp only [Act.put, pB, pC, pD]
      refine tkH (by assumption) 4 (oi := ?_) (v := ?_) ?_ ?_ ?_ ?_ ?_ ?_ ?_ ?_; rotate_left 2; (simp only [gA, gB, gC]; exact rfl); kernel_rfl; kernel_rfl; kernel_rfl; exact fun _ _ _ h => h; rfl; (intro w' hSw; (try dsimp only at hSw); go_simp; with_reducible rfl); simp only [Act.put, pB, pC, pD]
      refine tkH (by assumption) 5 (oi := ?_) (v := ?_) ?_ ?_ ?_ ?_ ?_ ?_ ?_ ?_; rotate_left 2; (simp only [gA, gB, gC]; exact rfl); kernel_rfl; kernel_rfl; kernel_rfl; exact fun _ _ _ h => h; rfl; (intro w' hSw; (try dsimp only at hSw); go_simp; with_reducible rfl); simp only [Act.put, pB, pC, pD]
      refine onH 6 (oi := ?_) (by kernel_rfl) ?_ ?_ (fun K hK => ?_); rotate_left; (simp only [gA, gB, gC]; exact rfl); rfl
      go_wp2_with (fail)
      refine hK.out _ _ True.intro (fun hHeldN => ?_)
      clear hK K hHeld
      have hHeld := hHeldN
      clear hHeldN
      try simp only [Act.put, pB, pC, pD]
      refine onH 7 (oi := ?_) (by kernel_rfl) ?_ ?_ (fun K hK => ?_); rotate_left; (simp only [gA, gB, gC]; exact rfl); rfl
      go_wp2_with (fail)
      have hs := set2V_1 (u := .int .i64 (den / A)) (set2V_0 (u := .int .i64 (num / A)) hc)
      have B9 := Lib.hid (Below.next_drew ((Below.setCell (p := ⟨g, 0, none⟩) (B0.out.trans (HB.out.mono B0.out.size)) (by rw [HG.out]; exact Nat.le_refl _) (.int .i64 (num / A))).setCell (p := ⟨g, 1, none⟩) (by rw [HG.out]; exact Nat.le_refl _) (.int .i64 (den / A))))
      have r0 : (((wr.setCell ⟨g, 0, none⟩ (.int .i64 (num / A))).setCell ⟨g, 1, none⟩ (.int .i64 (den / A))).drew).cell? ⟨g, 0, none⟩ = some (.int .i64 (num / A)) := cell_of hs (i := 0) rfl
      have r1 : (((wr.setCell ⟨g, 0, none⟩ (.int .i64 (num / A))).setCell ⟨g, 1, none⟩ (.int .i64 (den / A))).drew).cell? ⟨g, 1, none⟩ = some (.int .i64 (den / A)) := cell_of hs (i := 1) rfl
      refine hK.out _ _ True.intro (fun hHeldN => ?_)
      clear hK K hHeld
      have hHeld := hHeldN
      clear hHeldN
      try simp only [Act.put, pB, pC, pD]
      clear hs c0 c1 f0 f1 hc
      generalize (((wr.setCell ⟨g, 0, none⟩ (.int .i64 (num / A))).setCell ⟨g, 1, none⟩ (.int .i64 (den / A))).drew) = W9 at *
      refine wpAnyH_done (by kernel_rfl) ?_ _
      go_wp2_with (fail)
      exact bodyPost_ret (v := .agg #[.int .i64 (num / A), .int .i64 (den / A)]) (by simp [results, Try.results47, go_sem, r0, r1]) rfl ⟨by rw [HE.out], B9.out⟩
    · have q0 : A.tmod D = A % D := Int.tmod_eq_emod_of_nonneg hA
      have hm0 := Int.emod_nonneg A hz
      have hm1 := Int.emod_lt_of_pos A (show 0 < D by omega)
      have q1 : IntKind.i64.wrap (A % D) = A % D := i64w (by omega)
      have hz' : (D != 0) = true := by simpa using hz
      have hz2 : (D == 0) = false := by simpa using hz
      have HST := Lib.hid (show gcZ D (A % D) = gcZ num den by rw [← gcd_step hA (by omega)]; exact HGC.out)
      go_wp2_with (fail)
      refine wp_region_held_drew (S := (fun _ => True)) (by kernel_rfl) True.intro (fun hHeld => ?_)
      refine tkH (by assumption) 0 (oi := ?_) (v := ?_) ?_ ?_ ?_ ?_ ?_ ?_ ?_ ?_; rotate_left 2; (simp only [gA, gB, gC]; exact rfl); kernel_rfl; kernel_rfl; kernel_rfl; exact fun _ _ _ h => h; rfl; (intro w' hSw; (try dsimp only at hSw); go_simp; with_reducible rfl); simp only [Act.put, pB, pC, pD]
      refine tkH (by assumption) 1 (oi := ?_) (v := ?_) ?_ ?_ ?_ ?_ ?_ ?_ ?_ ?_; rotate_left 2; (simp only [gA, gB, gC]; exact rfl); kernel_rfl; kernel_rfl; kernel_rfl; exact fun _ _ _ h => h; rfl; (intro w' hSw; (try dsimp only at hSw); go_simp; with_reducible rfl); simp only [Act.put, pB, pC, pD]
      refine tkH (by assumption) 2 (oi := ?_) (v := ?_) ?_ ?_ ?_ ?_ ?_ ?_ ?_ ?_; rotate_left 2; (simp only [gA, gB, gC]; exact rfl); kernel_rfl; kernel_rfl; kernel_rfl; exact fun _ _ _ h => h; rfl; (intro w' hSw; (try dsimp only at hSw); go_simp; with_reducible rfl); simp only [Act.put, pB, pC, pD]
      refine tkH (by assumption) 3 (oi := ?_) (v := ?_) ?_ ?_ ?_ ?_ ?_ ?_ ?_ ?_; rotate_left 2; (simp only [gA, gB, gC]; exact rfl); kernel_rfl; kernel_rfl; kernel_rfl; exact fun _ _ _ h => h; rfl; (intro w' hSw; (try dsimp only at hSw); go_simp; with_reducible rfl); simp only [Act.put, pB, pC, pD]
      refine tkH (by assumption) 4 (oi := ?_) (v := ?_) ?_ ?_ ?_ ?_ ?_ ?_ ?_ ?_; rotate_left 2; (simp only [gA, gB, gC]; exact rfl); kernel_rfl; kernel_rfl; kernel_rfl; exact fun _ _ _ h => h; rfl; (intro w' hSw; (try dsimp only at hSw); go_simp; with_reducible rfl); simp only [Act.put, pB, pC, pD]
      refine tkH (by assumption) 5 (oi := ?_) (v := ?_) ?_ ?_ ?_ ?_ ?_ ?_ ?_ ?_; rotate_left 2; (simp only [gA, gB, gC]; exact rfl); kernel_rfl; kernel_rfl; kernel_rfl; exact fun _ _ _ h => h; rfl; (intro w' hSw; (try dsimp only at hSw); go_simp; with_reducible rfl); simp only [Act.put, pB, pC, pD]
      refine wpAnyH_done (by kernel_rfl) ?_ _
      go_wp2_with (fail)
      go_roundw
      case rel => exact ⟨D, A % D, rfl, rfl, by omega, by omega, by omega, by omega, HST.out, Below.next_drew HB.out⟩
      case measure => simp [intOf] <;> omega
set_option maxRecDepth 100000 in
set_option maxHeartbeats 4000000 in
theorem LowestR_any (num den : Int) (w : World) (hn : 0 ≤ num) (hn2 : num ≤ 8000000000000000000) (hd : 0 < den) (hd2 : den ≤ 8000000000000000000) :
    Calls Try.prog 49 #[.int .i64 num, .int .i64 den] w fun e w' => e = .returned (.agg #[.int .i64 (num / gcZ num den), .int .i64 (den / gcZ num den)]) ∧ Below w.heap.size w w' := by
  have emx : (if -num > num then -num else num) = num := by split <;> omega
  have eng : IntKind.i64.wrap (-num) = -num := i64w (by omega)
  go_enter Try.func49, Try.ntmps49
  go_wp2_with (fail)
  have B0 := Lib.hid (show Below w.heap.size w (w.alloc (.cells #[.int .i64 0, .int .i64 0] 36)) from (by repeat (first | exact Below.refl _ _ | assumption | refine Below.drew ?_ | refine bdrewN ?_ _ | refine Below.setCell ?_ (by first | omega | (simp <;> omega)) _ | refine Below.alloc ?_ (by first | omega | (simp <;> omega)) _)))
  have hcell := heap_alloc_new w (.cells #[.int .i64 0, .int .i64 0] 36)
  generalize (w.alloc (.cells #[.int .i64 0, .int .i64 0] 36)) = w1 at *
  obtain ⟨g, hg⟩ : ∃ g, g = w.heap.size := ⟨_, rfl⟩
  rw [← hg] at hcell ⊢
  have HG := Lib.hid hg
  have HC := Lib.hid hcell
  clear hg hcell
  go_loopw [5, 6] (fun a b wr => ∃ A D : Int, a = .int .i64 A ∧ b = .int .i64 D ∧ 0 ≤ A ∧ A ≤ 8000000000000000000 ∧ 0 ≤ D ∧ D ≤ 8000000000000000000 ∧ gcZ A D = gcZ num den ∧ Below w1.heap.size w1 wr) (fun _ b _ => (intOf b).toNat)
  case atStart => exact ⟨num, den, rfl, rfl, by omega, by omega, by omega, by omega, rfl, Below.refl _ _⟩
  case round =>
    obtain ⟨A, D, rfl, rfl, hA, hA2, hD, hD2, hgc, hbel⟩ := hrel
    have HGC := Lib.hid hgc
    have HB := Lib.hid hbel
    clear hgc hbel
    by_cases hz : D = 0
    · subst hz
      have hgz := gcZ_pos (n := num) hd
      have hgl := gcZ_le (n := num) hd
      have e : A = gcZ num den := by rw [← HGC.out, gcd_end hA]
      obtain ⟨G, hG⟩ : ∃ G, gcZ num den = G := ⟨_, rfl⟩
      rw [hG] at hgz hgl e
      subst e
      have HE := Lib.hid hG
      have hc := heap_keep HB.out HC.out
      have c0 := cell_of hc (i := 0) rfl
      have c1 := cell_of hc (i := 1) rfl
      have f0 := frozen_of hc (i := 0)
      have f1 := frozen_of hc (i := 1)
      have lb := low_bnd hn hd
      rw [hG] at lb
      have q0 : num.tdiv A = num / A := Int.tdiv_eq_ediv_of_nonneg hn
      have q1 : den.tdiv A = den / A := Int.tdiv_eq_ediv_of_nonneg (by omega)
      have q2 : IntKind.i64.wrap (num / A) = num / A := i64w (by omega)
      have q3 : IntKind.i64.wrap (den / A) = den / A := i64w (by omega)
      have hA0 : ¬ A = 0 := by omega
      have hA0' : (A == 0) = false := by simp; omega
      have hAl : ¬ A < 0 := by omega
      clear hG lb
      go_wp2_with (fail)
      refine wp_region_held_drew (S := (fun _ => True)) (by kernel_rfl) True.intro (fun hHeld => ?_)
      refine tkH (by assumption) 0 (oi := ?_) (v := ?_) ?_ ?_ ?_ ?_ ?_ ?_ ?_ ?_; rotate_left 2; (simp only [gA, gB, gC]; exact rfl); kernel_rfl; kernel_rfl; kernel_rfl; exact fun _ _ _ h => h; rfl; (intro w' hSw; (try dsimp only at hSw); go_simp; with_reducible rfl); simp only [Act.put, pB, pC, pD]
      refine tkH (by assumption) 1 (oi := ?_) (v := ?_) ?_ ?_ ?_ ?_ ?_ ?_ ?_ ?_; rotate_left 2; (simp only [gA, gB, gC]; exact rfl); kernel_rfl; kernel_rfl; kernel_rfl; exact fun _ _ _ h => h; rfl; (intro w' hSw; (try dsimp only at hSw); go_simp; with_reducible rfl); simp only [Act.put, pB, pC, pD]
      refine tkH (by assumption) 2 (oi := ?_) (v := ?_) ?_ ?_ ?_ ?_ ?_ ?_ ?_ ?_; rotate_left 2; (simp only [gA, gB, gC]; exact rfl); kernel_rfl; kernel_rfl; kernel_rfl; exact fun _ _ _ h => h; rfl; (intro w' hSw; (try dsimp only at hSw); go_simp; with_reducible rfl); simp only [Act.put, pB, pC, pD]
      refine tkH (by assumption) 3 (oi := ?_) (v := ?_) ?_ ?_ ?_ ?_ ?_ ?_ ?_ ?_; rotate_left 2; (simp only [gA, gB, gC]; exact rfl); kernel_rfl; kernel_rfl; kernel_rfl; exact fun _ _ _ h => h; rfl; (intro w' hSw; (try dsimp only at hSw); go_simp; with_reducible rfl); simp only [Act.put, pB, pC, pD]
      refine tkH (by assumption) 4 (oi := ?_) (v := ?_) ?_ ?_ ?_ ?_ ?_ ?_ ?_ ?_; rotate_left 2; (simp only [gA, gB, gC]; exact rfl); kernel_rfl; kernel_rfl; kernel_rfl; exact fun _ _ _ h => h; rfl; (intro w' hSw; (try dsimp only at hSw); go_simp; with_reducible rfl); simp only [Act.put, pB, pC, pD]
      refine tkH (by assumption) 5 (oi := ?_) (v := ?_) ?_ ?_ ?_ ?_ ?_ ?_ ?_ ?_; rotate_left 2; (simp only [gA, gB, gC]; exact rfl); kernel_rfl; kernel_rfl; kernel_rfl; exact fun _ _ _ h => h; rfl; (intro w' hSw; (try dsimp only at hSw); go_simp; with_reducible rfl); simp only [Act.put, pB, pC, pD]
      refine onH 6 (oi := ?_) (by kernel_rfl) ?_ ?_ (fun K hK => ?_); rotate_left; (simp only [gA, gB, gC]; exact rfl); rfl
      go_wp2_with (fail)
      refine hK.out _ _ True.intro (fun hHeldN => ?_)
      clear hK K hHeld
      have hHeld := hHeldN
      clear hHeldN
      try simp only [Act.put, pB, pC, pD]
      refine onH 7 (oi := ?_) (by kernel_rfl) ?_ ?_ (fun K hK => ?_); rotate_left; (simp only [gA, gB, gC]; exact rfl); rfl
      go_wp2_with (fail)
      have hs := set2V_1 (u := .int .i64 (den / A)) (set2V_0 (u := .int .i64 (num / A)) hc)
      have B9 := Lib.hid (Below.next_drew ((Below.setCell (p := ⟨g, 0, none⟩) (B0.out.trans (HB.out.mono B0.out.size)) (by rw [HG.out]; exact Nat.le_refl _) (.int .i64 (num / A))).setCell (p := ⟨g, 1, none⟩) (by rw [HG.out]; exact Nat.le_refl _) (.int .i64 (den / A))))
      have r0 : (((wr.setCell ⟨g, 0, none⟩ (.int .i64 (num / A))).setCell ⟨g, 1, none⟩ (.int .i64 (den / A))).drew).cell? ⟨g, 0, none⟩ = some (.int .i64 (num / A)) := cell_of hs (i := 0) rfl
      have r1 : (((wr.setCell ⟨g, 0, none⟩ (.int .i64 (num / A))).setCell ⟨g, 1, none⟩ (.int .i64 (den / A))).drew).cell? ⟨g, 1, none⟩ = some (.int .i64 (den / A)) := cell_of hs (i := 1) rfl
      refine hK.out _ _ True.intro (fun hHeldN => ?_)
      clear hK K hHeld
      have hHeld := hHeldN
      clear hHeldN
      try simp only [Act.put, pB, pC, pD]
      clear hs c0 c1 f0 f1 hc
      generalize (((wr.setCell ⟨g, 0, none⟩ (.int .i64 (num / A))).setCell ⟨g, 1, none⟩ (.int .i64 (den / A))).drew) = W9 at *
      refine wpAnyH_done (by kernel_rfl) ?_ _
      go_wp2_with (fail)
      exact bodyPost_ret (v := .agg #[.int .i64 (num / A), .int .i64 (den / A)]) (by simp [results, Try.results49, go_sem, r0, r1]) rfl ⟨by rw [HE.out], B9.out⟩
    · have q0 : A.tmod D = A % D := Int.tmod_eq_emod_of_nonneg hA
      have hm0 := Int.emod_nonneg A hz
      have hm1 := Int.emod_lt_of_pos A (show 0 < D by omega)
      have q1 : IntKind.i64.wrap (A % D) = A % D := i64w (by omega)
      have hz' : (D != 0) = true := by simpa using hz
      have hz2 : (D == 0) = false := by simpa using hz
      have HST := Lib.hid (show gcZ D (A % D) = gcZ num den by rw [← gcd_step hA (by omega)]; exact HGC.out)
      go_wp2_with (fail)
      refine wp_region_held_drew (S := (fun _ => True)) (by kernel_rfl) True.intro (fun hHeld => ?_)
      refine tkH (by assumption) 0 (oi := ?_) (v := ?_) ?_ ?_ ?_ ?_ ?_ ?_ ?_ ?_; rotate_left 2; (simp only [gA, gB, gC]; exact rfl); kernel_rfl; kernel_rfl; kernel_rfl; exact fun _ _ _ h => h; rfl; (intro w' hSw; (try dsimp only at hSw); go_simp; with_reducible rfl); simp only [Act.put, pB, pC, pD]
      refine tkH (by assumption) 1 (oi := ?_) (v := ?_) ?_ ?_ ?_ ?_ ?_ ?_ ?_ ?_; rotate_left 2; (simp only [gA, gB, gC]; exact rfl); kernel_rfl; kernel_rfl; kernel_rfl; exact fun _ _ _ h => h; rfl; (intro w' hSw; (try dsimp only at hSw); go_simp; with_reducible rfl); simp only [Act.put, pB, pC, pD]
      refine tkH (by assumption) 2 (oi := ?_) (v := ?_) ?_ ?_ ?_ ?_ ?_ ?_ ?_ ?_; rotate_left 2; (simp only [gA, gB, gC]; exact rfl); kernel_rfl; kernel_rfl; kernel_rfl; exact fun _ _ _ h => h; rfl; (intro w' hSw; (try dsimp only at hSw); go_simp; with_reducible rfl); simp only [Act.put, pB, pC, pD]
      refine tkH (by assumption) 3 (oi := ?_) (v := ?_) ?_ ?_ ?_ ?_ ?_ ?_ ?_ ?_; rotate_left 2; (simp only [gA, gB, gC]; exact rfl); kernel_rfl; kernel_rfl; kernel_rfl; exact fun _ _ _ h => h; rfl; (intro w' hSw; (try dsimp only at hSw); go_simp; with_reducible rfl); simp only [Act.put, pB, pC, pD]
      refine tkH (by assumption) 4 (oi := ?_) (v := ?_) ?_ ?_ ?_ ?_ ?_ ?_ ?_ ?_; rotate_left 2; (simp only [gA, gB, gC]; exact rfl); kernel_rfl; kernel_rfl; kernel_rfl; exact fun _ _ _ h => h; rfl; (intro w' hSw; (try dsimp only at hSw); go_simp; with_reducible rfl); simp only [Act.put, pB, pC, pD]
      refine tkH (by assumption) 5 (oi := ?_) (v := ?_) ?_ ?_ ?_ ?_ ?_ ?_ ?_ ?_; rotate_left 2; (simp only [gA, gB, gC]; exact rfl); kernel_rfl; kernel_rfl; kernel_rfl; exact fun _ _ _ h => h; rfl; (intro w' hSw; (try dsimp only at hSw); go_simp; with_reducible rfl); simp only [Act.put, pB, pC, pD]
      refine wpAnyH_done (by kernel_rfl) ?_ _
      go_wp2_with (fail)
      go_roundw
      case rel => exact ⟨D, A % D, rfl, rfl, by omega, by omega, by omega, by omega, HST.out, Below.next_drew HB.out⟩
      case measure => simp [intOf] <;> omega
end Go.Proofs.Ytddnimbalfaieaa

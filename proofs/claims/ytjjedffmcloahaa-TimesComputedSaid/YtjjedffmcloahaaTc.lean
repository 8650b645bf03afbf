/- How long a leg takes: the program and the reference. -/
import Derived.Test.YtjjedffmcloahaaTb
set_option linter.unusedSimpArgs false
set_option linter.unusedVariables false
namespace Go.Proofs.Ytjjedffmcloahaa
open Go.RowKit
attribute [local go_sem] min2V

def durS (u v p g : Int) : Int := (p - u) * (p - u) + (p - v) * (p - v) + g
def durN (u v p g : Int) : Int := 1000000 * durS u v p g
def durD (c p : Int) : Int := 2 * c * p
theorem mul_bnd {a b : Int} (ha : 0 ≤ a ∧ a ≤ 100000) (hb : 0 ≤ b ∧ b ≤ 100000) : 0 ≤ a * b ∧ a * b ≤ 10000000000 :=
  ⟨Int.mul_nonneg ha.1 hb.1, Int.mul_le_mul (c := 100000) (d := 100000) ha.2 hb.2 hb.1 (by omega)⟩
theorem durN_bnd {u v p g : Int} (hu : 0 ≤ u ∧ u ≤ 100000) (hv : 0 ≤ v ∧ v ≤ 100000) (hp : 1 ≤ p ∧ p ≤ 100000) (hg : 0 ≤ g ∧ g ≤ 4000000000000) : (0 ≤ durS u v p g ∧ durS u v p g ≤ 4100000000000) ∧ 0 ≤ durN u v p g ∧ durN u v p g ≤ 4100000000000000000 := by
  have h1 := bnd_sq (o := p - u) (by omega) (by omega)
  have h2 := bnd_sq (o := p - v) (by omega) (by omega)
  have e1 : (p - u) * (p - u) = p * p - 2 * (p * u) + u * u := by grind
  have e2 : (p - v) * (p - v) = p * p - 2 * (p * v) + v * v := by grind
  have b1 := mul_bnd (a := p) (b := p) (by omega) (by omega)
  have b2 := mul_bnd (a := p) (b := u) (by omega) (by omega)
  have b3 := mul_bnd (a := p) (b := v) (by omega) (by omega)
  have b4 := mul_bnd (a := u) (b := u) (by omega) (by omega)
  have b5 := mul_bnd (a := v) (b := v) (by omega) (by omega)
  unfold durN durS
  omega
theorem durD_bnd {c p : Int} (hc : 1 ≤ c ∧ c ≤ 10000000) (hp : 1 ≤ p ∧ p ≤ 100000) : 0 < durD c p ∧ durD c p ≤ 2000000000000 := by
  have h1 : 0 < c * p := Int.mul_pos (by omega) (by omega)
  have h2 : c * p ≤ 10000000 * 100000 := Int.mul_le_mul hc.2 hp.2 (by omega) (by omega)
  unfold durD
  rw [Int.mul_assoc]
  omega
theorem pk_bnd {u v m g : Int} (hg : 2 ≤ g) (hm : 1 ≤ m ∧ m ≤ 100000) : 1 ≤ pkZ u v m g ∧ pkZ u v m g ≤ 100000 := by
  have h1 : 0 ≤ u * u := by by_cases h : 0 ≤ u; exact Int.mul_nonneg h h; rw [← Int.neg_mul_neg]; exact Int.mul_nonneg (by omega) (by omega)
  have h2 : 0 ≤ v * v := by by_cases h : 0 ≤ v; exact Int.mul_nonneg h h; rw [← Int.neg_mul_neg]; exact Int.mul_nonneg (by omega) (by omega)
  have h3 := (le_rt (z := (u * u + v * v + g) / 2) (k := 1) (by omega) (by omega)).1 (by omega)
  unfold pkZ
  omega
theorem gain_two {c l : Int} (hc : 1 ≤ c) (hl : 1 ≤ l) : 2 ≤ gainZ c l := by
  have : 0 < c * l := Int.mul_pos (by omega) (by omega)
  unfold gainZ
  rw [Int.mul_assoc]
  omega
set_option maxRecDepth 100000 in
set_option maxHeartbeats 4000000 in
theorem peakR_any (u v l m c : Int) (w : World) (hu : 0 ≤ u ∧ u ≤ 1000000) (hv : 0 ≤ v ∧ v ≤ 1000000) (hc : 1 ≤ c ∧ c ≤ 10000000) (hl : 1 ≤ l ∧ l ≤ 200000) :
    Calls Try.prog 39 #[.int .i64 u, .int .i64 v, .agg #[.int .i64 l, .int .i64 m], .int .i64 c] w fun e w' => e = .returned (.int .i64 (pkZ u v m (gainZ c l))) ∧ Below w.heap.size w w' := by
  have hg := gainZ_bnd hc hl
  have hs := bnd_sq (o := v) (by omega) (by omega)
  have hs' := bnd_sq (o := u) (by omega) (by omega)
  have e1 : IntKind.i64.wrap (v * v) = v * v := i64w (by omega)
  have e0 : IntKind.i64.wrap (u * u) = u * u := i64w (by omega)
  have e3 : IntKind.i64.wrap (u * u + v * v) = u * u + v * v := i64w (by omega)
  have e4 : IntKind.i64.wrap (2 * c) = 2 * c := i64w (by omega)
  have e5 : IntKind.i64.wrap (2 * c * l) = gainZ c l := i64w (show -9000000000000000000 ≤ gainZ c l ∧ gainZ c l ≤ 9000000000000000000 by omega)
  have e2 : IntKind.i64.wrap (u * u + v * v + gainZ c l) = u * u + v * v + gainZ c l := i64w (by omega)
  obtain ⟨h, hh⟩ : ∃ h, (u * u + v * v + gainZ c l) / 2 = h := ⟨_, rfl⟩
  have e6 : (u * u + v * v + gainZ c l).tdiv 2 = h := by rw [Int.tdiv_eq_ediv_of_nonneg (by omega)]; exact hh
  have e7 : IntKind.i64.wrap h = h := i64w (by omega)
  have hb : 0 ≤ h ∧ h ≤ 8000000000000000000 := by omega
  have HH := Lib.hid hh
  have hz : (if rt h < m then rt h else m) = min m (rt h) := by split <;> omega
  clear hg hs hs' hh
  go_enter Try.func39, Try.ntmps39
  have r0 : (w.alloc (.cells #[.int .i64 l, .int .i64 m] 37)).cell? ⟨w.heap.size, 0, none⟩ = some (.int .i64 l) := by simp [go_sem]
  have r1 : (w.alloc (.cells #[.int .i64 l, .int .i64 m] 37)).cell? ⟨w.heap.size, 1, none⟩ = some (.int .i64 m) := by simp [go_sem]
  have B0 := Lib.hid (show Below w.heap.size w (w.alloc (.cells #[.int .i64 l, .int .i64 m] 37)) from (by repeat (first | exact Below.refl _ _ | assumption | refine Below.drew ?_ | refine bdrewN ?_ _ | refine Below.setCell ?_ (by first | omega | (simp <;> omega)) _ | refine Below.alloc ?_ (by first | omega | (simp <;> omega)) _)))
  go_wp2_with (fail)
  generalize (w.alloc (.cells #[.int .i64 l, .int .i64 m] 37)) = w1 at *
  refine wp_region_held_drew (S := (fun w' => w'.cell? ⟨w.heap.size, 0, none⟩ = some (.int .i64 l) ∧ w'.cell? ⟨w.heap.size, 1, none⟩ = some (.int .i64 m))) (by kernel_rfl) ⟨r0, r1⟩ (fun hHeld => ?_)
  refine tkH (by assumption) 0 (oi := ?_) (v := ?_) ?_ ?_ ?_ ?_ ?_ ?_ ?_ ?_; rotate_left 2; (simp only [gA, gB, gC]; exact rfl); kernel_rfl; kernel_rfl; kernel_rfl; exact fun _ _ _ h => h; rfl; (intro w' hSw; (try dsimp only at hSw); go_simp; with_reducible rfl); simp only [Act.put, pB, pC, pD]
  refine tkH (by assumption) 1 (oi := ?_) (v := ?_) ?_ ?_ ?_ ?_ ?_ ?_ ?_ ?_; rotate_left 2; (simp only [gA, gB, gC]; exact rfl); kernel_rfl; kernel_rfl; kernel_rfl; exact fun _ _ _ h => h; rfl; (intro w' hSw; (try dsimp only at hSw); go_simp; with_reducible rfl); simp only [Act.put, pB, pC, pD]
  refine tkH (by assumption) 2 (oi := ?_) (v := ?_) ?_ ?_ ?_ ?_ ?_ ?_ ?_ ?_; rotate_left 2; (simp only [gA, gB, gC]; exact rfl); kernel_rfl; kernel_rfl; kernel_rfl; exact fun _ _ _ h => h; rfl; (intro w' hSw; (try dsimp only at hSw); go_simp; with_reducible rfl); simp only [Act.put, pB, pC, pD]
  refine tkH (by assumption) 3 (oi := ?_) (v := ?_) ?_ ?_ ?_ ?_ ?_ ?_ ?_ ?_; rotate_left 2; (simp only [gA, gB, gC]; exact rfl); kernel_rfl; kernel_rfl; kernel_rfl; exact fun _ _ _ h => h; rfl; (intro w' hSw; (try dsimp only at hSw); go_simp; with_reducible rfl); simp only [Act.put, pB, pC, pD]
  refine tkH (by assumption) 4 (oi := ?_) (v := ?_) ?_ ?_ ?_ ?_ ?_ ?_ ?_ ?_; rotate_left 2; (simp only [gA, gB, gC]; exact rfl); kernel_rfl; kernel_rfl; kernel_rfl; exact fun _ _ _ h => h; rfl; (intro w' hSw; (try dsimp only at hSw); go_simp; with_reducible rfl); simp only [Act.put, pB, pC, pD]
  refine tkH (by assumption) 5 (oi := ?_) (v := ?_) ?_ ?_ ?_ ?_ ?_ ?_ ?_ ?_; rotate_left 2; (simp only [gA, gB, gC]; exact rfl); kernel_rfl; kernel_rfl; kernel_rfl; exact fun _ _ _ h => h; rfl; (intro w' hSw; (try dsimp only at hSw); go_simp; with_reducible rfl); simp only [Act.put, pB, pC, pD]
  refine tkH (by assumption) 6 (oi := ?_) (v := ?_) ?_ ?_ ?_ ?_ ?_ ?_ ?_ ?_; rotate_left 2; (simp only [gA, gB, gC]; exact rfl); kernel_rfl; kernel_rfl; kernel_rfl; exact fun _ _ _ h => h; rfl; (intro w' hSw; (try dsimp only at hSw); go_simp; with_reducible rfl); simp only [Act.put, pB, pC, pD]
  refine tkH (by assumption) 7 (oi := ?_) (v := ?_) ?_ ?_ ?_ ?_ ?_ ?_ ?_ ?_; rotate_left 2; (simp only [gA, gB, gC]; exact rfl); kernel_rfl; kernel_rfl; kernel_rfl; exact fun _ _ _ h => h; rfl; (intro w' hSw; (try dsimp only at hSw); go_simp; with_reducible rfl); simp only [Act.put, pB, pC, pD]
  refine tkH (by assumption) 8 (oi := ?_) (v := ?_) ?_ ?_ ?_ ?_ ?_ ?_ ?_ ?_; rotate_left 2; (simp only [gA, gB, gC]; exact rfl); kernel_rfl; kernel_rfl; kernel_rfl; exact fun _ _ _ h => h; rfl; (intro w' hSw; (try dsimp only at hSw); go_simp; with_reducible rfl); simp only [Act.put, pB, pC, pD]
  refine tkH (by assumption) 9 (oi := ?_) (v := ?_) ?_ ?_ ?_ ?_ ?_ ?_ ?_ ?_; rotate_left 2; (simp only [gA, gB, gC]; exact rfl); kernel_rfl; kernel_rfl; kernel_rfl; exact fun _ _ _ h => h; rfl; (intro w' hSw; (try dsimp only at hSw); go_simp; with_reducible rfl); simp only [Act.put, pB, pC, pD]
  refine tkH (by assumption) 10 (oi := ?_) (v := ?_) ?_ ?_ ?_ ?_ ?_ ?_ ?_ ?_; rotate_left 2; (simp only [gA, gB, gC]; exact rfl); kernel_rfl; kernel_rfl; kernel_rfl; exact fun _ _ _ h => h; rfl; (intro w' hSw; (try dsimp only at hSw); go_simp; with_reducible rfl); simp only [Act.put, pB, pC, pD]
  refine tkH (by assumption) 11 (oi := ?_) (v := ?_) ?_ ?_ ?_ ?_ ?_ ?_ ?_ ?_; rotate_left 2; (simp only [gA, gB, gC]; exact rfl); kernel_rfl; kernel_rfl; kernel_rfl; exact fun _ _ _ h => h; rfl; (intro w' hSw; (try dsimp only at hSw); go_simp; with_reducible rfl); simp only [Act.put, pB, pC, pD]
  refine tkH (by assumption) 12 (oi := ?_) (v := ?_) ?_ ?_ ?_ ?_ ?_ ?_ ?_ ?_; rotate_left 2; (simp only [gA, gB, gC]; exact rfl); kernel_rfl; kernel_rfl; kernel_rfl; exact fun _ _ _ h => h; rfl; (intro w' hSw; (try dsimp only at hSw); go_simp; with_reducible rfl); simp only [Act.put, pB, pC, pD]
  refine tkH (by assumption) 13 (oi := ?_) (v := ?_) ?_ ?_ ?_ ?_ ?_ ?_ ?_ ?_; rotate_left 2; (simp only [gA, gB, gC]; exact rfl); kernel_rfl; kernel_rfl; kernel_rfl; exact fun _ _ _ h => h; rfl; (intro w' hSw; (try dsimp only at hSw); go_simp; with_reducible rfl); simp only [Act.put, pB, pC, pD]
  refine tkH (by assumption) 14 (oi := ?_) (v := ?_) ?_ ?_ ?_ ?_ ?_ ?_ ?_ ?_; rotate_left 2; (simp only [gA, gB, gC]; exact rfl); kernel_rfl; kernel_rfl; kernel_rfl; exact fun _ _ _ h => h; rfl; (intro w' hSw; (try dsimp only at hSw); go_simp; with_reducible rfl); simp only [Act.put, pB, pC, pD]
  refine tkH (by assumption) 15 (oi := ?_) (v := ?_) ?_ ?_ ?_ ?_ ?_ ?_ ?_ ?_; rotate_left 2; (simp only [gA, gB, gC]; exact rfl); kernel_rfl; kernel_rfl; kernel_rfl; exact fun _ _ _ h => h; rfl; (intro w' hSw; (try dsimp only at hSw); go_simp; with_reducible rfl); simp only [Act.put, pB, pC, pD]
  refine onH 16 (oi := ?_) (by kernel_rfl) ?_ ?_ (fun K hK => ?_); rotate_left; (simp only [gA, gB, gC]; exact rfl); rfl
  go_wp2_with (fail)
  refine (root_any _ _ hb.1 hb.2).mono ?_
  rintro e w5 ⟨rfl, rfl⟩
  refine hK.out _ _ hHeld (fun hHeldN => ?_)
  clear hK K hHeld
  have hHeld := hHeldN
  clear hHeldN
  try simp only [Act.put, pB, pC, pD]
  refine tkH (by assumption) 17 (oi := ?_) (v := ?_) ?_ ?_ ?_ ?_ ?_ ?_ ?_ ?_; rotate_left 2; (simp only [gA, gB, gC]; exact rfl); kernel_rfl; kernel_rfl; kernel_rfl; exact fun _ _ _ h => h; rfl; (intro w' hSw; (try dsimp only at hSw); go_simp; with_reducible rfl); simp only [Act.put, pB, pC, pD]
  refine tkH (by assumption) 18 (oi := ?_) (v := ?_) ?_ ?_ ?_ ?_ ?_ ?_ ?_ ?_; rotate_left 2; (simp only [gA, gB, gC]; exact rfl); kernel_rfl; kernel_rfl; kernel_rfl; exact fun _ _ _ h => h; rfl; (intro w' hSw; (try dsimp only at hSw); go_simp; with_reducible rfl); simp only [Act.put, pB, pC, pD]
  refine wpAnyH_done (by kernel_rfl) ?_ _
  go_wp2_with (fail)
  go_ret
  exact ⟨ret_int (by unfold pkZ; rw [HH.out]), Below.next_drew B0.out⟩
set_option maxRecDepth 100000 in
set_option maxHeartbeats 4000000 in
theorem duration_any (u v l m c : Int) (w : World) (hu : 0 ≤ u ∧ u ≤ 100000) (hv : 0 ≤ v ∧ v ≤ 100000) (hc : 1 ≤ c ∧ c ≤ 10000000) (hl : 1 ≤ l ∧ l ≤ 200000) (hm : 1 ≤ m ∧ m ≤ 100000) :
    Calls Try.prog 30 #[.int .i64 u, .int .i64 v, .agg #[.int .i64 l, .int .i64 m], .int .i64 c] w fun e w' => e = .returned (.tuple #[.int .i64 (durN u v (pkZ u v m (gainZ c l)) (gainZ c l)), .int .i64 (durD c (pkZ u v m (gainZ c l)))]) ∧ Below w.heap.size w w' := by
  have hp := pk_bnd (u := u) (v := v) (gain_two hc.1 hl.1) hm
  have hg := gainZ_bnd hc hl
  have HC := Lib.hid hc
  have HL := Lib.hid hl
  go_enter Try.func30, Try.ntmps30
  have r0 : (w.alloc (.cells #[.int .i64 l, .int .i64 m] 37)).cell? ⟨w.heap.size, 0, none⟩ = some (.int .i64 l) := by simp [go_sem]
  have r1 : (w.alloc (.cells #[.int .i64 l, .int .i64 m] 37)).cell? ⟨w.heap.size, 1, none⟩ = some (.int .i64 m) := by simp [go_sem]
  have hlt : w.heap.size < (w.alloc (.cells #[.int .i64 l, .int .i64 m] 37)).heap.size := by simp
  have B0 := Lib.hid (show Below w.heap.size w (w.alloc (.cells #[.int .i64 l, .int .i64 m] 37)) from (by repeat (first | exact Below.refl _ _ | assumption | refine Below.drew ?_ | refine bdrewN ?_ _ | refine Below.setCell ?_ (by first | omega | (simp <;> omega)) _ | refine Below.alloc ?_ (by first | omega | (simp <;> omega)) _)))
  go_wp2_with (fail)
  generalize (w.alloc (.cells #[.int .i64 l, .int .i64 m] 37)) = w1 at *
  refine (peak_any u v l m c w1 (by omega) (by omega) hc hl hm).mono ?_
  rintro e w2 ⟨rfl, hb2⟩
  replace r0 := cellk hb2 hlt r0
  replace r1 := cellk hb2 hlt r1
  have B2 := Lib.hid (B0.out.trans (hb2.mono B0.out.size))
  replace hlt := Nat.lt_of_lt_of_le hlt hb2.size
  clear hb2 B0
  have hD := durD_bnd hc hp
  have hN := durN_bnd hu hv hp hg
  generalize hpk : pkZ u v m (gainZ c l) = p at *
  have HPK := Lib.hid hpk
  clear hpk
  have h1 := bnd_sq (o := p - u) (by omega) (by omega)
  have h2 := bnd_sq (o := p - v) (by omega) (by omega)
  have e1 : IntKind.i64.wrap (p - u) = p - u := i64w (by omega)
  have e2 : IntKind.i64.wrap (p - v) = p - v := i64w (by omega)
  have e3 : IntKind.i64.wrap ((p - u) * (p - u)) = (p - u) * (p - u) := i64w (by omega)
  have e4 : IntKind.i64.wrap ((p - v) * (p - v)) = (p - v) * (p - v) := i64w (by omega)
  have e5 : IntKind.i64.wrap ((p - u) * (p - u) + (p - v) * (p - v)) = (p - u) * (p - u) + (p - v) * (p - v) := i64w (by omega)
  have e6 : IntKind.i64.wrap ((p - u) * (p - u) + (p - v) * (p - v) + gainZ c l) = durS u v p (gainZ c l) := i64w (show -9000000000000000000 ≤ durS u v p (gainZ c l) ∧ durS u v p (gainZ c l) ≤ 9000000000000000000 by omega)
  have e7 : IntKind.i64.wrap (1000000 * durS u v p (gainZ c l)) = durN u v p (gainZ c l) := i64w (show -9000000000000000000 ≤ durN u v p (gainZ c l) ∧ durN u v p (gainZ c l) ≤ 9000000000000000000 by omega)
  have e8 : IntKind.i64.wrap (2 * c) = 2 * c := i64w (by omega)
  have e9 : IntKind.i64.wrap (2 * c * p) = durD c p := i64w (show -9000000000000000000 ≤ durD c p ∧ durD c p ≤ 9000000000000000000 by omega)
  clear h1 h2 hD hN hp hg hu hv hc hl hm
  go_wp2_with (fail)
  refine (gain_any l m c w2 HC.out HL.out).mono ?_
  rintro e w3 ⟨rfl, hb3⟩
  have B3 := Lib.hid (B2.out.trans (hb3.mono B2.out.size))
  clear hb3
  go_wp2_with (fail)
  exact bodyPost_ret (v := .tuple #[.int .i64 (durN u v p (gainZ c l)), .int .i64 (durD c p)]) (by simp [results, Try.results30, go_sem]) rfl ⟨by rw [HPK.out], B3.out⟩
/-- How many microseconds a leg takes, rounded up. -/
noncomputable def timZ (u v l m c : Int) : Int := ceilZ (durN u v (pkZ u v m (gainZ c l)) (gainZ c l)) (durD c (pkZ u v m (gainZ c l)))
set_option maxRecDepth 100000 in
theorem roundedUp_any (u v l m c : Int) (w : World) (hu : 0 ≤ u ∧ u ≤ 100000) (hv : 0 ≤ v ∧ v ≤ 100000) (hc : 1 ≤ c ∧ c ≤ 10000000) (hl : 1 ≤ l ∧ l ≤ 200000) (hm : 1 ≤ m ∧ m ≤ 100000) :
    Calls Try.prog 25 #[.int .i64 u, .int .i64 v, .agg #[.int .i64 l, .int .i64 m], .int .i64 c] w fun e w' => e = .returned (.int .i64 (timZ u v l m c)) ∧ Below w.heap.size w w' := by
  have hp := pk_bnd (u := u) (v := v) (gain_two hc.1 hl.1) hm
  have hg := gainZ_bnd hc hl
  have hD := durD_bnd hc hp
  have hN := durN_bnd hu hv hp hg
  go_enter Try.func25, Try.ntmps25
  have r0 : (w.alloc (.cells #[.int .i64 l, .int .i64 m] 37)).cell? ⟨w.heap.size, 0, none⟩ = some (.int .i64 l) := by simp [go_sem]
  have r1 : (w.alloc (.cells #[.int .i64 l, .int .i64 m] 37)).cell? ⟨w.heap.size, 1, none⟩ = some (.int .i64 m) := by simp [go_sem]
  have B0 := Lib.hid (show Below w.heap.size w (w.alloc (.cells #[.int .i64 l, .int .i64 m] 37)) from (by repeat (first | exact Below.refl _ _ | assumption | refine Below.drew ?_ | refine bdrewN ?_ _ | refine Below.setCell ?_ (by first | omega | (simp <;> omega)) _ | refine Below.alloc ?_ (by first | omega | (simp <;> omega)) _)))
  go_wp2_with (fail)
  generalize (w.alloc (.cells #[.int .i64 l, .int .i64 m] 37)) = w1 at *
  refine (duration_any u v l m c w1 hu hv hc hl hm).mono ?_
  rintro e w2 ⟨rfl, hb2⟩
  have B2 := Lib.hid (B0.out.trans (hb2.mono B0.out.size))
  clear hb2 B0 r0 r1
  go_wp2_with (fail)
  refine (Ceil_any _ _ _ hN.2.1 (by omega) hD.1 (by omega)).mono ?_
  rintro e w3 ⟨rfl, rfl⟩
  go_wp2_with (fail)
  go_ret
  exact ⟨rfl, B2.out⟩
/-- How many microseconds a leg takes. -/
noncomputable def exN (u v l m c : Int) : Int := durN u v (pkZ u v m (gainZ c l)) (gainZ c l) / gcZ (durN u v (pkZ u v m (gainZ c l)) (gainZ c l)) (durD c (pkZ u v m (gainZ c l)))
noncomputable def exD (u v l m c : Int) : Int := durD c (pkZ u v m (gainZ c l)) / gcZ (durN u v (pkZ u v m (gainZ c l)) (gainZ c l)) (durD c (pkZ u v m (gainZ c l)))
set_option maxRecDepth 100000 in
set_option maxHeartbeats 4000000 in
theorem exactOf_any (u v l m c : Int) (w : World) (hu : 0 ≤ u ∧ u ≤ 100000) (hv : 0 ≤ v ∧ v ≤ 100000) (hc : 1 ≤ c ∧ c ≤ 10000000) (hl : 1 ≤ l ∧ l ≤ 200000) (hm : 1 ≤ m ∧ m ≤ 100000) :
    Calls Try.prog 17 #[.int .i64 u, .int .i64 v, .agg #[.int .i64 l, .int .i64 m], .int .i64 c] w fun e w' => e = .returned (.agg #[.int .i64 (exN u v l m c), .int .i64 (exD u v l m c)]) ∧ Below w.heap.size w w' := by
  have hp := pk_bnd (u := u) (v := v) (gain_two hc.1 hl.1) hm
  have hg := gainZ_bnd hc hl
  have hD := durD_bnd hc hp
  have hN := durN_bnd hu hv hp hg
  have HE := Lib.hid (show exN u v l m c = durN u v (pkZ u v m (gainZ c l)) (gainZ c l) / gcZ (durN u v (pkZ u v m (gainZ c l)) (gainZ c l)) (durD c (pkZ u v m (gainZ c l))) ∧ exD u v l m c = durD c (pkZ u v m (gainZ c l)) / gcZ (durN u v (pkZ u v m (gainZ c l)) (gainZ c l)) (durD c (pkZ u v m (gainZ c l))) from ⟨rfl, rfl⟩)
  go_enter Try.func17, Try.ntmps17
  go_wp2_with (fail)
  have B0 := Lib.hid (show Below w.heap.size w ((w.alloc (.cells #[.int .i64 l, .int .i64 m] 37)).alloc (.cells #[.int .i64 0, .int .i64 0] 40)) from (by repeat (first | exact Below.refl _ _ | assumption | refine Below.drew ?_ | refine bdrewN ?_ _ | refine Below.setCell ?_ (by first | omega | (simp <;> omega)) _ | refine Below.alloc ?_ (by first | omega | (simp <;> omega)) _)))
  have H6 : Hid (((w.alloc (.cells #[.int .i64 l, .int .i64 m] 37)).alloc (.cells #[.int .i64 0, .int .i64 0] 40)).heap[w.heap.size]? = some (.cells #[.int .i64 l, .int .i64 m] 37 (0, 0))) := Lib.hid (by repeat (first | (refine heap_new ?_; first | rfl | (simp; done)) | rw [Below.heap_setCell _ _ _ _ (by simp <;> omega)] | rw [Below.heap_alloc _ _ _ (by simp <;> omega)]))
  have H8 : Hid (((w.alloc (.cells #[.int .i64 l, .int .i64 m] 37)).alloc (.cells #[.int .i64 0, .int .i64 0] 40)).heap[w.heap.size + 1]? = some (.cells #[.int .i64 0, .int .i64 0] 40 (0, 0))) := Lib.hid (by repeat (first | (refine heap_new ?_; first | rfl | (simp; done)) | rw [Below.heap_setCell _ _ _ _ (by simp <;> omega)] | rw [Below.heap_alloc _ _ _ (by simp <;> omega)]))
  generalize ((w.alloc (.cells #[.int .i64 l, .int .i64 m] 37)).alloc (.cells #[.int .i64 0, .int .i64 0] 40)) = w1 at *
  refine (peakR_any u v l m c w1 (by omega) (by omega) hc hl).mono ?_
  rintro e w2 ⟨rfl, hb2⟩
  replace H6 := Lib.hid (heap_keep hb2 H6.out)
  replace H8 := Lib.hid (heap_keep hb2 H8.out)
  have B2 := Lib.hid (B0.out.trans (hb2.mono B0.out.size))
  clear hb2 B0
  generalize pkZ u v m (gainZ c l) = p at *
  have i0 : 2 * p * (2 * p - u - v) + (gainZ c l - (2 * p * p - u * u - v * v)) = durS u v p (gainZ c l) := by unfold durS; grind
  have i1 : 2 * p * (2 * p - u - v) = 4 * (p * p) - 2 * (p * u) - 2 * (p * v) := by grind
  have i2 : 2 * p * p = 2 * (p * p) := by grind
  have b1 := mul_bnd (a := p) (b := p) (by omega) (by omega)
  have b2 := mul_bnd (a := p) (b := u) (by omega) (by omega)
  have b3 := mul_bnd (a := p) (b := v) (by omega) (by omega)
  have b4 := mul_bnd (a := u) (b := u) (by omega) (by omega)
  have b5 := mul_bnd (a := v) (b := v) (by omega) (by omega)
  have e1 : IntKind.i64.wrap (2 * c) = 2 * c := i64w (by omega)
  have e2 : IntKind.i64.wrap (2 * c * l) = gainZ c l := i64w (show -9000000000000000000 ≤ gainZ c l ∧ gainZ c l ≤ 9000000000000000000 by omega)
  have e3 : IntKind.i64.wrap (2 * p) = 2 * p := i64w (by omega)
  have e4 : IntKind.i64.wrap (2 * p * p) = 2 * p * p := i64w (by omega)
  have e5 : IntKind.i64.wrap (u * u) = u * u := i64w (by omega)
  have e6 : IntKind.i64.wrap (v * v) = v * v := i64w (by omega)
  have e7 : IntKind.i64.wrap (2 * p * p - u * u) = 2 * p * p - u * u := i64w (by omega)
  have e8 : IntKind.i64.wrap (2 * p * p - u * u - v * v) = 2 * p * p - u * u - v * v := i64w (by omega)
  have e9 : IntKind.i64.wrap (gainZ c l - (2 * p * p - u * u - v * v)) = gainZ c l - (2 * p * p - u * u - v * v) := i64w (by omega)
  have e10 : IntKind.i64.wrap (2 * p - u) = 2 * p - u := i64w (by omega)
  have e11 : IntKind.i64.wrap (2 * p - u - v) = 2 * p - u - v := i64w (by omega)
  have e12 : IntKind.i64.wrap (2 * p * (2 * p - u - v)) = 2 * p * (2 * p - u - v) := i64w (by omega)
  have e13 : IntKind.i64.wrap (2 * p * (2 * p - u - v) + (gainZ c l - (2 * p * p - u * u - v * v))) = durS u v p (gainZ c l) := by rw [i0]; exact i64w (by omega)
  have e14 : IntKind.i64.wrap (1000000 * durS u v p (gainZ c l)) = durN u v p (gainZ c l) := i64w (show -9000000000000000000 ≤ durN u v p (gainZ c l) ∧ durN u v p (gainZ c l) ≤ 9000000000000000000 by omega)
  have e15 : IntKind.i64.wrap (2 * c * p) = durD c p := i64w (show -9000000000000000000 ≤ durD c p ∧ durD c p ≤ 9000000000000000000 by omega)
  have HN := Lib.hid (show (0 ≤ durN u v p (gainZ c l) ∧ durN u v p (gainZ c l) ≤ 8000000000000000000) ∧ (0 < durD c p ∧ durD c p ≤ 8000000000000000000) by omega)
  have c0 := cell_of H6.out (i := 0) rfl
  have c1 := cell_of H6.out (i := 1) rfl
  clear i0 i1 i2 b1 b2 b3 b4 b5 hN hD hp hg hu hv
  go_wp2_with (fail)
  clear e1 e2 e3 e4 e5 e6 e7 e8 e9 e10 e11 e12 e13 e14 e15 c0 c1
  refine (LowestR_any _ _ w2 HN.out.1.1 HN.out.1.2 HN.out.2.1 HN.out.2.2).mono ?_
  rintro e w3 ⟨rfl, hb3⟩
  replace H8 := Lib.hid (heap_keep hb3 H8.out)
  have B3 := Lib.hid (B2.out.trans (hb3.mono B2.out.size))
  clear hb3
  generalize hx : durN u v p (gainZ c l) / gcZ (durN u v p (gainZ c l)) (durD c p) = x at *
  generalize hy : durD c p / gcZ (durN u v p (gainZ c l)) (durD c p) = y at *
  clear hx hy
  have d0 := cell_of H8.out (i := 0) rfl
  have d1 := cell_of H8.out (i := 1) rfl
  have f0 := frozen_of H8.out (i := 0)
  have f1 := frozen_of H8.out (i := 1)
  go_wp2_with (fail)
  have hs := set2V_1 (u := .int .i64 y) (set2V_0 (u := .int .i64 x) H8.out)
  have B9 := Lib.hid ((Below.setCell (p := ⟨w.heap.size + 1, 0, none⟩) B3.out (Nat.le_succ _) (.int .i64 x)).setCell (p := ⟨w.heap.size + 1, 1, none⟩) (Nat.le_succ _) (.int .i64 y))
  generalize ((w3.setCell ⟨w.heap.size + 1, 0, none⟩ (.int .i64 x)).setCell ⟨w.heap.size + 1, 1, none⟩ (.int .i64 y)) = w9 at *
  have s0 := cell_of hs (i := 0) rfl
  have s1 := cell_of hs (i := 1) rfl
  exact bodyPost_ret (v := .agg #[.int .i64 x, .int .i64 y]) (by simp [results, Try.results17, go_sem, s0, s1]) rfl ⟨by rw [HE.out.1, HE.out.2], B9.out⟩
end Go.Proofs.Ytjjedffmcloahaa

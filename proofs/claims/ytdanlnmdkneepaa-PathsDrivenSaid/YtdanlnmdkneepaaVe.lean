/- The greatest speed that is permitted: closures, the search, gain, root, opposite, peak. -/
import Derived.Test.YtdanlnmdkneepaaVd0
set_option linter.unusedSimpArgs false
set_option linter.unusedVariables false
namespace Go.Proofs.Ytdanlnmdkneepaa
open Go.RowKit

theorem bnd_sq {o : Int} (h0 : -10000000 ≤ o) (h1 : o ≤ 10000000) : 0 ≤ o * o ∧ o * o ≤ 100000000000000 := by
  by_cases h : 0 ≤ o
  · exact ⟨Int.mul_nonneg h h, Int.mul_le_mul (c := 10000000) (d := 10000000) h1 h1 h (by omega)⟩
  · rw [← Int.neg_mul_neg]
    exact ⟨Int.mul_nonneg (by omega) (by omega), Int.mul_le_mul (c := 10000000) (d := 10000000) (by omega) (by omega) (by omega) (by omega)⟩
theorem bnd_gain {c l : Int} (hc : 1 ≤ c ∧ c ≤ 10000000) (hl : 1 ≤ l ∧ l ≤ 200000) : 0 ≤ 2 * c * l ∧ 2 * c * l ≤ 4000000000000 := by
  rw [Int.mul_assoc]
  have h1 : 0 ≤ c * l := Int.mul_nonneg (by omega) (by omega)
  have h2 : c * l ≤ 10000000 * 200000 := Int.mul_le_mul hc.2 hl.2 (by omega) (by omega)
  omega

/-! ### beadlayer/motion.opposite -/
theorem opp1_any (o s : Int) (g : Nat) (w : World) (h0 : -10000000 ≤ o) (h1 : o ≤ 10000000) (hg : w.cell? ⟨g, 0, none⟩ = some (.int .i64 s)) :
    Calls Try.prog 122 #[.int .i64 o, .pointer (some ⟨g, 0, none⟩)] w fun e w' => e = .returned (.bool (decide (o * o ≤ s))) ∧ w = w' := by
  have e1 := bnd_sq h0 h1
  have e2 : IntKind.i64.wrap (o * o) = o * o := i64w (by omega)
  have e3 : IntKind.i64.wrap (2 * o) = 2 * o := i64w (by omega)
  have e4 : IntKind.i64.wrap (2 * o * o) = 2 * o * o := i64w (by rw [Int.mul_assoc]; omega)
  go_enter Try.func122, Try.ntmps122
  go_wp2_with (fail)
  all_goals
    go_ret
    exact ⟨rfl, rfl⟩
theorem opp2_any (i s : Int) (b g : Nat) (w : World) (h0 : 0 ≤ i) (h1 : i ≤ 1000000) (hb : w.cell? ⟨b, 0, none⟩ = some (.func (.func 122) #[] #[.pointer (some ⟨g, 0, none⟩)])) (hg : w.cell? ⟨g, 0, none⟩ = some (.int .i64 s)) :
    Calls Try.prog 132 #[.int .i64 i, .pointer (some ⟨b, 0, none⟩)] w fun e w' => e = .returned (.bool (!decide ((i + 1) * (i + 1) ≤ s))) ∧ w = w' := by
  have e1 : IntKind.i64.wrap (i + 1) = i + 1 := i64w (by omega)
  have HG := Lib.hid hg
  clear hg
  go_enter Try.func132, Try.ntmps132
  go_wp2_with (fail)
  refine (opp1_any (i + 1) s g w (by omega) (by omega) HG.out).mono ?_
  rintro e w' ⟨rfl, rfl⟩
  go_wp2_with (fail)
  go_ret
  exact ⟨rfl, rfl⟩
/-- What the search finds. -/
structure oppF (n s r : Int) : Prop where
  lo : 0 ≤ r
  hi : r ≤ n
  ok : r = 0 ∨ r * r ≤ s
  no : r = n ∨ s < (r + 1) * (r + 1)
set_option maxRecDepth 100000 in
set_option maxHeartbeats 4000000 in
theorem opp3_any (n s : Int) (b g : Nat) (w : World) (h0 : 0 ≤ n) (h1 : n ≤ 1000000) (hb : w.cell? ⟨b, 0, none⟩ = some (.func (.func 122) #[] #[.pointer (some ⟨g, 0, none⟩)])) (hg : w.cell? ⟨g, 0, none⟩ = some (.int .i64 s)) :
    Calls Try.prog 131 #[.int .i64 n, .func (.func 132) #[] #[.pointer (some ⟨b, 0, none⟩)]] w fun e w' => ∃ r, e = .returned (.int .i64 r) ∧ oppF n s r ∧ w = w' := by
  have HB := Lib.hid hb
  have HG := Lib.hid hg
  clear hb hg
  go_enter Try.func131, Try.ntmps131
  go_wp2_with (fail)
  go_loopw [5, 6] (fun i j wr => ∃ I J : Int, i = .int .i64 I ∧ j = .int .i64 J ∧ 0 ≤ I ∧ I ≤ J ∧ J ≤ n ∧ (I = 0 ∨ I * I ≤ s) ∧ (J = n ∨ s < (J + 1) * (J + 1)) ∧ w = wr) (fun i j _ => (intOf j - intOf i).toNat)
  case atStart => exact ⟨0, n, rfl, rfl, by omega, h0, by omega, .inl rfl, .inl rfl, rfl⟩
  case round =>
    obtain ⟨I, J, rfl, rfl, hI, hIJ, hJ, hP, hQ, rfl⟩ := hrel
    have HP := Lib.hid hP
    have HQ := Lib.hid hQ
    clear hP hQ
    by_cases hlt : I < J
    · have e1 : IntKind.i64.wrap (I + J) = I + J := i64w (by omega)
      have e2 : IntKind.u64.wrap (I + J) = I + J := by rw [IntKind.wrap_u64]; omega
      have e3 : (I + J).toNat >>> 1 = (I + J).toNat / 2 := by rw [Nat.shiftRight_eq_div_pow]
      have e4 : ((((I + J).toNat / 2 : Nat) : Int)) = (I + J) / 2 := by omega
      go_wp2_with (fail)
      obtain ⟨H, hH⟩ : ∃ H, (I + J) / 2 = H := ⟨_, rfl⟩
      have hh : I ≤ H ∧ H < J := by omega
      have e5 : IntKind.i64.wrap (H + 1) = H + 1 := i64w (by omega)
      rw [hH]
      clear hH e1 e2 e3 e4
      refine (opp2_any H s b g w (by omega) (by omega) HB.out HG.out).mono ?_
      rintro e w' ⟨rfl, rfl⟩
      by_cases hp : (H + 1) * (H + 1) ≤ s
      · have HPN := Lib.hid hp
        have hd : decide ((H + 1) * (H + 1) ≤ s) = true := by simpa using hp
        rw [hd]
        clear hp hd
        go_wp2_with (fail)
        go_roundw
        case rel => exact ⟨H + 1, J, by go_num, rfl, by omega, by omega, hJ, .inr HPN.out, HQ.out, by trivial⟩
        case measure => simp [intOf]; omega
      · have HPN := Lib.hid (show s < (H + 1) * (H + 1) by omega)
        have hd : decide ((H + 1) * (H + 1) ≤ s) = false := by simpa using hp
        rw [hd]
        clear hp hd
        go_wp2_with (fail)
        go_roundw
        case rel => exact ⟨I, H, rfl, rfl, hI, by omega, by omega, HP.out, .inr HPN.out, by trivial⟩
        case measure => simp [intOf]; omega
    · obtain rfl : I = J := by omega
      go_wp2_with (fail)
      go_ret
      exact ⟨_, rfl, ⟨hI, hJ, HP.out, HQ.out⟩, rfl⟩
theorem opp4_any (n s : Int) (g : Nat) (w : World) (h0 : 0 ≤ n) (h1 : n ≤ 1000000) (hg : w.cell? ⟨g, 0, none⟩ = some (.int .i64 s)) :
    Calls Try.prog 121 #[.int .i64 n, .func (.func 122) #[] #[.pointer (some ⟨g, 0, none⟩)]] w fun e w' => ∃ r, e = .returned (.int .i64 r) ∧ oppF n s r ∧ Below w.heap.size w w' := by
  have hgl := cell_lt hg
  have HB := Lib.hid (show Below w.heap.size w (w.alloc (.cells #[.func (.func 122) #[] #[.pointer (some ⟨g, 0, none⟩)]] 29)) from (by repeat (first | exact Below.refl _ _ | assumption | refine Below.drew ?_ | refine bdrewN ?_ _ | refine Below.setCell ?_ (by first | omega | (simp <;> omega)) _ | refine Below.alloc ?_ (by first | omega | (simp <;> omega)) _)))
  have HG := Lib.hid (cellk HB.out hgl hg)
  clear hg hgl
  go_enter Try.func121, Try.ntmps121
  go_wp2_with (fail)
  refine (opp3_any n s w.heap.size g _ h0 h1 (by simp [go_sem]) HG.out).mono ?_
  rintro e w' ⟨r, rfl, hr, rfl⟩
  have HR := Lib.hid hr
  clear hr
  go_wp2_with (fail)
  go_ret
  exact ⟨_, rfl, HR.out, HB.out⟩

/-! ### beadlayer/motion.peak -/
theorem pk1_any (o s : Int) (g : Nat) (w : World) (h0 : -10000000 ≤ o) (h1 : o ≤ 10000000) (hg : w.cell? ⟨g, 0, none⟩ = some (.int .i64 s)) :
    Calls Try.prog 134 #[.int .i64 o, .pointer (some ⟨g, 0, none⟩)] w fun e w' => e = .returned (.bool (decide (2 * o * o ≤ s))) ∧ w = w' := by
  have e1 := bnd_sq h0 h1
  have e2 : IntKind.i64.wrap (o * o) = o * o := i64w (by omega)
  have e3 : IntKind.i64.wrap (2 * o) = 2 * o := i64w (by omega)
  have e4 : IntKind.i64.wrap (2 * o * o) = 2 * o * o := i64w (by rw [Int.mul_assoc]; omega)
  go_enter Try.func134, Try.ntmps134
  go_wp2_with (fail)
  all_goals
    go_ret
    exact ⟨rfl, rfl⟩
theorem pk2_any (i s : Int) (b g : Nat) (w : World) (h0 : 0 ≤ i) (h1 : i ≤ 1000000) (hb : w.cell? ⟨b, 0, none⟩ = some (.func (.func 134) #[] #[.pointer (some ⟨g, 0, none⟩)])) (hg : w.cell? ⟨g, 0, none⟩ = some (.int .i64 s)) :
    Calls Try.prog 132 #[.int .i64 i, .pointer (some ⟨b, 0, none⟩)] w fun e w' => e = .returned (.bool (!decide (2 * (i + 1) * (i + 1) ≤ s))) ∧ w = w' := by
  have e1 : IntKind.i64.wrap (i + 1) = i + 1 := i64w (by omega)
  have HG := Lib.hid hg
  clear hg
  go_enter Try.func132, Try.ntmps132
  go_wp2_with (fail)
  refine (pk1_any (i + 1) s g w (by omega) (by omega) HG.out).mono ?_
  rintro e w' ⟨rfl, rfl⟩
  go_wp2_with (fail)
  go_ret
  exact ⟨rfl, rfl⟩
/-- What the search finds. -/
structure pkF (n s r : Int) : Prop where
  lo : 0 ≤ r
  hi : r ≤ n
  ok : r = 0 ∨ 2 * r * r ≤ s
  no : r = n ∨ s < 2 * (r + 1) * (r + 1)
set_option maxRecDepth 100000 in
set_option maxHeartbeats 4000000 in
theorem pk3_any (n s : Int) (b g : Nat) (w : World) (h0 : 0 ≤ n) (h1 : n ≤ 1000000) (hb : w.cell? ⟨b, 0, none⟩ = some (.func (.func 134) #[] #[.pointer (some ⟨g, 0, none⟩)])) (hg : w.cell? ⟨g, 0, none⟩ = some (.int .i64 s)) :
    Calls Try.prog 131 #[.int .i64 n, .func (.func 132) #[] #[.pointer (some ⟨b, 0, none⟩)]] w fun e w' => ∃ r, e = .returned (.int .i64 r) ∧ pkF n s r ∧ w = w' := by
  have HB := Lib.hid hb
  have HG := Lib.hid hg
  clear hb hg
  go_enter Try.func131, Try.ntmps131
  go_wp2_with (fail)
  go_loopw [5, 6] (fun i j wr => ∃ I J : Int, i = .int .i64 I ∧ j = .int .i64 J ∧ 0 ≤ I ∧ I ≤ J ∧ J ≤ n ∧ (I = 0 ∨ 2 * I * I ≤ s) ∧ (J = n ∨ s < 2 * (J + 1) * (J + 1)) ∧ w = wr) (fun i j _ => (intOf j - intOf i).toNat)
  case atStart => exact ⟨0, n, rfl, rfl, by omega, h0, by omega, .inl rfl, .inl rfl, rfl⟩
  case round =>
    obtain ⟨I, J, rfl, rfl, hI, hIJ, hJ, hP, hQ, rfl⟩ := hrel
    have HP := Lib.hid hP
    have HQ := Lib.hid hQ
    clear hP hQ
    by_cases hlt : I < J
    · have e1 : IntKind.i64.wrap (I + J) = I + J := i64w (by omega)
      have e2 : IntKind.u64.wrap (I + J) = I + J := by rw [IntKind.wrap_u64]; omega
      have e3 : (I + J).toNat >>> 1 = (I + J).toNat / 2 := by rw [Nat.shiftRight_eq_div_pow]
      have e4 : ((((I + J).toNat / 2 : Nat) : Int)) = (I + J) / 2 := by omega
      go_wp2_with (fail)
      obtain ⟨H, hH⟩ : ∃ H, (I + J) / 2 = H := ⟨_, rfl⟩
      have hh : I ≤ H ∧ H < J := by omega
      have e5 : IntKind.i64.wrap (H + 1) = H + 1 := i64w (by omega)
      rw [hH]
      clear hH e1 e2 e3 e4
      refine (pk2_any H s b g w (by omega) (by omega) HB.out HG.out).mono ?_
      rintro e w' ⟨rfl, rfl⟩
      by_cases hp : 2 * (H + 1) * (H + 1) ≤ s
      · have HPN := Lib.hid hp
        have hd : decide (2 * (H + 1) * (H + 1) ≤ s) = true := by simpa using hp
        rw [hd]
        clear hp hd
        go_wp2_with (fail)
        go_roundw
        case rel => exact ⟨H + 1, J, by go_num, rfl, by omega, by omega, hJ, .inr HPN.out, HQ.out, by trivial⟩
        case measure => simp [intOf]; omega
      · have HPN := Lib.hid (show s < 2 * (H + 1) * (H + 1) by omega)
        have hd : decide (2 * (H + 1) * (H + 1) ≤ s) = false := by simpa using hp
        rw [hd]
        clear hp hd
        go_wp2_with (fail)
        go_roundw
        case rel => exact ⟨I, H, rfl, rfl, hI, by omega, by omega, HP.out, .inr HPN.out, by trivial⟩
        case measure => simp [intOf]; omega
    · obtain rfl : I = J := by omega
      go_wp2_with (fail)
      go_ret
      exact ⟨_, rfl, ⟨hI, hJ, HP.out, HQ.out⟩, rfl⟩
theorem pk4_any (n s : Int) (g : Nat) (w : World) (h0 : 0 ≤ n) (h1 : n ≤ 1000000) (hg : w.cell? ⟨g, 0, none⟩ = some (.int .i64 s)) :
    Calls Try.prog 121 #[.int .i64 n, .func (.func 134) #[] #[.pointer (some ⟨g, 0, none⟩)]] w fun e w' => ∃ r, e = .returned (.int .i64 r) ∧ pkF n s r ∧ Below w.heap.size w w' := by
  have hgl := cell_lt hg
  have HB := Lib.hid (show Below w.heap.size w (w.alloc (.cells #[.func (.func 134) #[] #[.pointer (some ⟨g, 0, none⟩)]] 29)) from (by repeat (first | exact Below.refl _ _ | assumption | refine Below.drew ?_ | refine bdrewN ?_ _ | refine Below.setCell ?_ (by first | omega | (simp <;> omega)) _ | refine Below.alloc ?_ (by first | omega | (simp <;> omega)) _)))
  have HG := Lib.hid (cellk HB.out hgl hg)
  clear hg hgl
  go_enter Try.func121, Try.ntmps121
  go_wp2_with (fail)
  refine (pk3_any n s w.heap.size g _ h0 h1 (by simp [go_sem]) HG.out).mono ?_
  rintro e w' ⟨r, rfl, hr, rfl⟩
  have HR := Lib.hid hr
  clear hr
  go_wp2_with (fail)
  go_ret
  exact ⟨_, rfl, HR.out, HB.out⟩

/-! ### What both make of a leg -/
def gainZ (c l : Int) : Int := 2 * c * l
theorem gain_any (l m c : Int) (w : World) (hc : 1 ≤ c ∧ c ≤ 10000000) (hl : 1 ≤ l ∧ l ≤ 200000) :
    Calls Try.prog 120 #[.agg #[.int .i64 l, .int .i64 m], .int .i64 c] w fun e w' => e = .returned (.int .i64 (gainZ c l)) ∧ Below w.heap.size w w' := by
  have hg := bnd_gain hc hl
  have e1 : IntKind.i64.wrap (2 * c) = 2 * c := i64w (by omega)
  have e2 : IntKind.i64.wrap (2 * c * l) = 2 * c * l := i64w (by omega)
  go_enter Try.func120, Try.ntmps120
  go_wp2_with (fail)
  go_ret
  exact ⟨rfl, (by repeat (first | exact Below.refl _ _ | assumption | refine Below.drew ?_ | refine bdrewN ?_ _ | refine Below.setCell ?_ (by first | omega | (simp <;> omega)) _ | refine Below.alloc ?_ (by first | omega | (simp <;> omega)) _))⟩
theorem gainZ_bnd {c l : Int} (hc : 1 ≤ c ∧ c ≤ 10000000) (hl : 1 ≤ l ∧ l ≤ 200000) : 0 ≤ gainZ c l ∧ gainZ c l ≤ 4000000000000 := bnd_gain hc hl
noncomputable def oppZ (v m g : Int) : Int := min m (rt (v * v + g))
theorem oppZ_of {v m g r : Int} (hg : 0 ≤ g) (hv : 0 ≤ v * v) (h : oppF m (v * v + g) r) : r = oppZ v m g := by
  obtain ⟨h1, h2, h3, h4⟩ := h
  have hs : 0 ≤ v * v + g := by omega
  have h5 : r * r ≤ v * v + g := by rcases h3 with rfl | h3 <;> omega
  have h6 := (le_rt hs h1).1 h5
  unfold oppZ
  rcases h4 with rfl | h4
  · omega
  · rw [rt_eq h1 h5 h4]; omega
noncomputable def pkZ (u v m g : Int) : Int := min m (rt ((u * u + v * v + g) / 2))
theorem pkZ_of {u v m g r : Int} (hg : 0 ≤ g) (hu : 0 ≤ u * u) (hv : 0 ≤ v * v) (h : pkF m (u * u + v * v + g) r) : r = pkZ u v m g := by
  obtain ⟨h1, h2, h3, h4⟩ := h
  have hs : 0 ≤ (u * u + v * v + g) / 2 := by omega
  have h5 : r * r ≤ (u * u + v * v + g) / 2 := by rcases h3 with rfl | h3 <;> (rw [Int.mul_assoc] at *; omega)
  have h6 := (le_rt hs h1).1 h5
  unfold pkZ
  rcases h4 with rfl | h4
  · omega
  · rw [rt_eq h1 h5 (by rw [Int.mul_assoc] at h4; omega)]; omega
set_option maxRecDepth 100000 in
theorem opposite_any (v l m c : Int) (w : World) (hv : 0 ≤ v ∧ v ≤ 1000000) (hc : 1 ≤ c ∧ c ≤ 10000000) (hl : 1 ≤ l ∧ l ≤ 200000) (hm : 1 ≤ m ∧ m ≤ 100000) :
    Calls Try.prog 103 #[.int .i64 v, .agg #[.int .i64 l, .int .i64 m], .int .i64 c] w fun e w' => e = .returned (.int .i64 (oppZ v m (gainZ c l))) ∧ Below w.heap.size w w' := by
  have hg := gainZ_bnd hc hl
  have hs := bnd_sq (o := v) (by omega) (by omega)
  have e1 : IntKind.i64.wrap (v * v) = v * v := i64w (by omega)
  have e2 : IntKind.i64.wrap (v * v + gainZ c l) = v * v + gainZ c l := i64w (by omega)
  have HV := Lib.hid hs
  have HG := Lib.hid hg
  clear hs hg
  go_enter Try.func103, Try.ntmps103
  have r0 : (w.alloc (.cells #[.int .i64 l, .int .i64 m] 83)).cell? ⟨w.heap.size, 0, none⟩ = some (.int .i64 l) := by simp [go_sem]
  have r1 : (w.alloc (.cells #[.int .i64 l, .int .i64 m] 83)).cell? ⟨w.heap.size, 1, none⟩ = some (.int .i64 m) := by simp [go_sem]
  have hlt : w.heap.size < (w.alloc (.cells #[.int .i64 l, .int .i64 m] 83)).heap.size := by simp
  have B0 := Lib.hid (show Below w.heap.size w (w.alloc (.cells #[.int .i64 l, .int .i64 m] 83)) from (by repeat (first | exact Below.refl _ _ | assumption | refine Below.drew ?_ | refine bdrewN ?_ _ | refine Below.setCell ?_ (by first | omega | (simp <;> omega)) _ | refine Below.alloc ?_ (by first | omega | (simp <;> omega)) _)))
  go_wp2_with (fail)
  generalize (w.alloc (.cells #[.int .i64 l, .int .i64 m] 83)) = w0 at *
  refine (gain_any l m c w0 hc hl).mono ?_
  rintro e w1 ⟨rfl, hb1⟩
  replace r0 := cellk hb1 hlt r0
  replace r1 := cellk hb1 hlt r1
  have B1 := Lib.hid (B0.out.trans (hb1.mono B0.out.size))
  have hl1 : w.heap.size < w1.heap.size := Nat.lt_of_lt_of_le hlt hb1.size
  have hl2 : w.heap.size < w1.heap.size + 1 := by omega
  clear hb1 hlt B0
  go_wp2_with (fail)
  have B2 := Lib.hid (B1.out.trans ((show Below w1.heap.size w1 (w1.alloc (.cells #[.int .i64 (v * v + gainZ c l)] 3)) from (by repeat (first | exact Below.refl _ _ | assumption | refine Below.drew ?_ | refine bdrewN ?_ _ | refine Below.setCell ?_ (by first | omega | (simp <;> omega)) _ | refine Below.alloc ?_ (by first | omega | (simp <;> omega)) _))).mono B1.out.size))
  refine (opp4_any m (v * v + gainZ c l) w1.heap.size _ (by omega) (by omega) (by simp [go_sem])).mono ?_
  rintro e w2 ⟨r, rfl, hr, hb2⟩
  have R := Lib.hid (oppZ_of HG.out.1 HV.out.1 hr)
  have B3 := Lib.hid (B2.out.trans (hb2.mono B2.out.size))
  clear hr hb2
  go_wp2_with (fail)
  go_ret
  exact ⟨ret_int R.out, B3.out⟩
set_option maxRecDepth 100000 in
theorem peak_any (u v l m c : Int) (w : World) (hu : 0 ≤ u ∧ u ≤ 1000000) (hv : 0 ≤ v ∧ v ≤ 1000000) (hc : 1 ≤ c ∧ c ≤ 10000000) (hl : 1 ≤ l ∧ l ≤ 200000) (hm : 1 ≤ m ∧ m ≤ 100000) :
    Calls Try.prog 124 #[.int .i64 u, .int .i64 v, .agg #[.int .i64 l, .int .i64 m], .int .i64 c] w fun e w' => e = .returned (.int .i64 (pkZ u v m (gainZ c l))) ∧ Below w.heap.size w w' := by
  have hg := gainZ_bnd hc hl
  have hs := bnd_sq (o := v) (by omega) (by omega)
  have hs' := bnd_sq (o := u) (by omega) (by omega)
  have e1 : IntKind.i64.wrap (v * v) = v * v := i64w (by omega)
  have e0 : IntKind.i64.wrap (u * u) = u * u := i64w (by omega)
  have e3 : IntKind.i64.wrap (u * u + v * v) = u * u + v * v := i64w (by omega)
  have e2 : IntKind.i64.wrap (u * u + v * v + gainZ c l) = u * u + v * v + gainZ c l := i64w (by omega)
  have HV := Lib.hid hs
  have HU := Lib.hid hs'
  have HG := Lib.hid hg
  clear hs hs' hg
  go_enter Try.func124, Try.ntmps124
  have r0 : (w.alloc (.cells #[.int .i64 l, .int .i64 m] 83)).cell? ⟨w.heap.size, 0, none⟩ = some (.int .i64 l) := by simp [go_sem]
  have r1 : (w.alloc (.cells #[.int .i64 l, .int .i64 m] 83)).cell? ⟨w.heap.size, 1, none⟩ = some (.int .i64 m) := by simp [go_sem]
  have hlt : w.heap.size < (w.alloc (.cells #[.int .i64 l, .int .i64 m] 83)).heap.size := by simp
  have B0 := Lib.hid (show Below w.heap.size w (w.alloc (.cells #[.int .i64 l, .int .i64 m] 83)) from (by repeat (first | exact Below.refl _ _ | assumption | refine Below.drew ?_ | refine bdrewN ?_ _ | refine Below.setCell ?_ (by first | omega | (simp <;> omega)) _ | refine Below.alloc ?_ (by first | omega | (simp <;> omega)) _)))
  go_wp2_with (fail)
  generalize (w.alloc (.cells #[.int .i64 l, .int .i64 m] 83)) = w0 at *
  refine (gain_any l m c w0 hc hl).mono ?_
  rintro e w1 ⟨rfl, hb1⟩
  replace r0 := cellk hb1 hlt r0
  replace r1 := cellk hb1 hlt r1
  have B1 := Lib.hid (B0.out.trans (hb1.mono B0.out.size))
  have hl1 : w.heap.size < w1.heap.size := Nat.lt_of_lt_of_le hlt hb1.size
  have hl2 : w.heap.size < w1.heap.size + 1 := by omega
  clear hb1 hlt B0
  go_wp2_with (fail)
  have B2 := Lib.hid (B1.out.trans ((show Below w1.heap.size w1 (w1.alloc (.cells #[.int .i64 (u * u + v * v + gainZ c l)] 3)) from (by repeat (first | exact Below.refl _ _ | assumption | refine Below.drew ?_ | refine bdrewN ?_ _ | refine Below.setCell ?_ (by first | omega | (simp <;> omega)) _ | refine Below.alloc ?_ (by first | omega | (simp <;> omega)) _))).mono B1.out.size))
  refine (pk4_any m (u * u + v * v + gainZ c l) w1.heap.size _ (by omega) (by omega) (by simp [go_sem])).mono ?_
  rintro e w2 ⟨r, rfl, hr, hb2⟩
  have R := Lib.hid (pkZ_of HG.out.1 HU.out.1 HV.out.1 hr)
  have B3 := Lib.hid (B2.out.trans (hb2.mono B2.out.size))
  clear hr hb2
  go_wp2_with (fail)
  go_ret
  exact ⟨ret_int R.out, B3.out⟩

/-! ### The reference's root -/
set_option maxRecDepth 100000 in
set_option maxHeartbeats 4000000 in
theorem root_any (n : Int) (w : World) (h0 : 0 ≤ n) (h1 : n ≤ 8000000000000000000) :
    Calls Try.prog 104 #[.int .i64 n] w fun e w' => e = .returned (.int .i64 (rt n)) ∧ w = w' := by
  go_enter Try.func104, Try.ntmps104
  go_wp2_with (fail)
  go_loopw [3, 4] (fun i j wr => ∃ I J : Int, i = .int .i64 I ∧ j = .int .i64 J ∧ 0 ≤ I ∧ I < J ∧ J ≤ 3000000000 ∧ I * I ≤ n ∧ n < J * J ∧ w = wr) (fun i j _ => (intOf j - intOf i).toNat)
  case atStart => exact ⟨0, 3000000000, rfl, rfl, by omega, by omega, by omega, by omega, by omega, rfl⟩
  case round =>
    obtain ⟨I, J, rfl, rfl, hI, hIJ, hJ, hP, hQ, rfl⟩ := hrel
    have HP := Lib.hid hP
    have HQ := Lib.hid hQ
    clear hP hQ
    have e1 : IntKind.i64.wrap (J - I) = J - I := i64w (by omega)
    by_cases hlt : 1 < J - I
    · have e2 : IntKind.i64.wrap (I + J) = I + J := i64w (by omega)
      obtain ⟨H, hH⟩ : ∃ H, (I + J).tdiv 2 = H := ⟨_, rfl⟩
      have hh : I < H ∧ H < J := by rw [Int.tdiv_eq_ediv_of_nonneg (by omega)] at hH; omega
      have e3 : IntKind.i64.wrap H = H := i64w (by omega)
      have hsq : 0 ≤ H * H ∧ H * H ≤ 9000000000000000000 := ⟨Int.mul_nonneg (by omega) (by omega), Int.mul_le_mul (c := 3000000000) (d := 3000000000) (by omega) (by omega) (by omega) (by omega)⟩
      have e4 : IntKind.i64.wrap (H * H) = H * H := i64w (by omega)
      by_cases hp : H * H ≤ n
      · have HPN := Lib.hid hp
        go_wp2_with (fail)
        go_roundw
        case rel => exact ⟨H, J, by go_num, rfl, by omega, by omega, hJ, HPN.out, HQ.out, by trivial⟩
        case measure => simp [intOf]; omega
      · have HPN := Lib.hid (show n < H * H by omega)
        go_wp2_with (fail)
        go_roundw
        case rel => exact ⟨I, H, rfl, rfl, hI, by omega, by omega, HP.out, HPN.out, by trivial⟩
        case measure => simp [intOf]; omega
    · obtain rfl : J = I + 1 := by omega
      have R := Lib.hid (rt_eq hI HP.out HQ.out)
      go_wp2_with (fail)
      go_ret
      exact ⟨ret_int R.out.symm, rfl⟩
end Go.Proofs.Ytdanlnmdkneepaa

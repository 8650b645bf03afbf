/- Need and amounts: by the program and by the reference; drawn beads. -/
import Derived.Test.YtddnimbalfaieaaBc
import Derived.Test.YtddnimbalfaieaaBk
set_option linter.unusedSimpArgs false
set_option linter.unusedVariables false
namespace Go.Proofs.Ytddnimbalfaieaa
open Go.RowKit
theorem own_low {w : World} {base base' : Nat} {e : TypeId} {size : Nat} {v : Value} {n : Nat} {xs : List Value} (h : w.ownsRow base e size v n xs) (hb : base' ≤ base) : w.ownsRow base' e size v n xs := by
  obtain ⟨h1, h2⟩ := h
  refine ⟨h1, ?_⟩
  rcases h2 with h2 | ⟨g, cap, cur, hv, hg, r⟩
  · exact .inl h2
  · exact .inr ⟨g, cap, cur, hv, Nat.le_trans hb hg, r⟩
theorem own_capB {w : World} {base n c size : Nat} {e : TypeId} {a : Option Addr} {xs : List Value} (h : w.ownsRow base e size (.slice a n c) n xs) : n ≤ c := by
  rcases h.2 with ⟨h2, h0⟩ | ⟨g', cap, cur, hv, hb, hh, hn, _⟩
  · cases h2; omega
  · cases hv; exact hn
def ndN (n : Nat) (L W H : Nat → Int) (x : Int) : Int := volZ L W H n / gcZ (volZ L W H n) x
def ndD (n : Nat) (L W H : Nat → Int) (x : Int) : Int := x / gcZ (volZ L W H n) x
def nrN (n : Nat) (L W H : Nat → Int) (x : Int) : Int := if arE n L W H x = 0 then ndN n L W H x else 0
def nrD (n : Nat) (L W H : Nat → Int) (x : Int) : Int := if arE n L W H x = 0 then ndD n L W H x else 0
set_option maxRecDepth 100000 in
set_option maxHeartbeats 4000000 in
theorem Need_any (a : Option Addr) (n c : Nat) (L W H : Nat → Int) (x : Int) (w : World) (hn : n ≤ 5000) (hp : BeadsR w a n L W H) :
    Calls Try.prog 14 #[.slice a n c, .int .i64 x] w fun e w' => e = .returned (.tuple #[.agg #[.int .i64 (nrN n L W H x), .int .i64 (nrD n L W H x)], .int .i64 (arE n L W H x)]) ∧ Below w.heap.size w w' := by
  have HP := Lib.hid hp
  clear hp
  go_enter Try.func14, Try.ntmps14
  go_wp2_with (fail)
  have B0 : Below w.heap.size w (w.alloc (.cells #[.int .i64 0, .int .i64 0] 36)) := (by repeat (first | exact Below.refl _ _ | assumption | refine Below.drew ?_ | refine bdrewN ?_ _ | refine Below.setCell ?_ (by first | omega | (simp <;> omega)) _ | refine Below.alloc ?_ (by first | omega | (simp <;> omega)) _))
  have H8 := Lib.hid (heap_alloc_new w (.cells #[.int .i64 0, .int .i64 0] 36))
  replace HP := Lib.hid (HP.out.kept B0)
  have BX := Lib.hid B0
  clear B0
  generalize (w.alloc (.cells #[.int .i64 0, .int .i64 0] 36)) = w1 at *
  refine (checkedVolume_any a n c L W H x w1 hn HP.out).mono ?_
  rintro e w2 ⟨rfl, hb2⟩
  replace H8 := Lib.hid (heap_keep hb2 H8.out)
  replace BX := Lib.hid (BX.out.trans (hb2.mono BX.out.size))
  clear hb2
  by_cases hz : arE n L W H x = 0
  · have hz' : (arE n L W H x != 0) = false := by simp [hz]
    have ok := arE_ok hz
    have OK := Lib.hid ok
    have HV := Lib.hid (show nrN n L W H x = ndN n L W H x ∧ nrD n L W H x = ndD n L W H x from ⟨if_pos hz, if_pos hz⟩)
    have HA := Lib.hid (arV_ok hz)
    have HZ := Lib.hid hz
    clear hz ok
    rw [HA.out]
    go_wp2_with (fail)
    have bv := volZ_bnd OK.out.1.2 n (Nat.le_refl _)
    refine (LowestP_any _ _ w2 bv.1 (by have := OK.out.1.1; omega) (by have := OK.out.2.1; omega) (by have := OK.out.2.1; omega)).mono ?_
    rintro e w5 ⟨rfl, hb5⟩
    replace H8 := Lib.hid (heap_keep hb5 H8.out)
    replace BX := Lib.hid (BX.out.trans (hb5.mono BX.out.size))
    have HX := Lib.hid (show ndN n L W H x = volZ L W H n / gcZ (volZ L W H n) x ∧ ndD n L W H x = x / gcZ (volZ L W H n) x from ⟨rfl, rfl⟩)
    rw [← HX.out.1, ← HX.out.2]
    clear hb5 bv HX
    obtain ⟨y, hy⟩ : ∃ y, ndN n L W H x = y := ⟨_, rfl⟩
    obtain ⟨z, hz⟩ : ∃ z, ndD n L W H x = z := ⟨_, rfl⟩
    rw [hy, hz] at HV ⊢
    clear hy hz
    have d0 := cell_of H8.out (i := 0) rfl
    have d1 := cell_of H8.out (i := 1) rfl
    have f0 := frozen_of H8.out (i := 0)
    have f1 := frozen_of H8.out (i := 1)
    go_wp2_with (fail)
    have hs := set2V_1 (u := .int .i64 z) (set2V_0 (u := .int .i64 y) H8.out)
    have s0 := cell_of hs (i := 0) rfl
    have s1 := cell_of hs (i := 1) rfl
    have B9 := Lib.hid ((Below.setCell (p := ⟨w.heap.size, 0, none⟩) BX.out (Nat.le_refl _) (.int .i64 y)).setCell (p := ⟨w.heap.size, 1, none⟩) (Nat.le_refl _) (.int .i64 z))
    generalize ((w5.setCell ⟨w.heap.size, 0, none⟩ (.int .i64 y)).setCell ⟨w.heap.size, 1, none⟩ (.int .i64 z)) = w9 at *
    exact bodyPost_ret (v := .tuple #[.agg #[.int .i64 y, .int .i64 z], .int .i64 0]) (by simp [results, Try.results14, go_sem, s0, s1]) rfl ⟨by rw [HV.out.1, HV.out.2, HZ.out], B9.out⟩
  · have hz' : (arE n L W H x != 0) = true := by simpa using hz
    have HV := Lib.hid (show nrN n L W H x = 0 ∧ nrD n L W H x = 0 from ⟨if_neg hz, if_neg hz⟩)
    clear hz
    have d0 := cell_of H8.out (i := 0) rfl
    have d1 := cell_of H8.out (i := 1) rfl
    have f0 := frozen_of H8.out (i := 0)
    have f1 := frozen_of H8.out (i := 1)
    go_wp2_with (fail)
    have hs := set2V_1 (u := .int .i64 0) (set2V_0 (u := .int .i64 0) H8.out)
    have s0 := cell_of hs (i := 0) rfl
    have s1 := cell_of hs (i := 1) rfl
    have B9 := Lib.hid ((Below.setCell (p := ⟨w.heap.size, 0, none⟩) BX.out (Nat.le_refl _) (.int .i64 0)).setCell (p := ⟨w.heap.size, 1, none⟩) (Nat.le_refl _) (.int .i64 0))
    generalize ((w2.setCell ⟨w.heap.size, 0, none⟩ (.int .i64 0)).setCell ⟨w.heap.size, 1, none⟩ (.int .i64 0)) = w9 at *
    exact bodyPost_ret (v := .tuple #[.agg #[.int .i64 0, .int .i64 0], .int .i64 (arE n L W H x)]) (by simp [results, Try.results14, go_sem, s0, s1]) rfl ⟨by rw [HV.out.1, HV.out.2], B9.out⟩
set_option maxRecDepth 100000 in
set_option maxHeartbeats 4000000 in
theorem needOf_any (a : Option Addr) (n c : Nat) (L W H : Nat → Int) (x : Int) (w : World) (hn : n ≤ 5000) (hp : BeadsR w a n L W H) (ok : BdOk n L W H) (hx : 1 ≤ x ∧ x ≤ 100000000) :
    Calls Try.prog 19 #[.slice a n c, .int .i64 x] w fun e w' => e = .returned (.agg #[.int .i64 (ndN n L W H x), .int .i64 (ndD n L W H x)]) ∧ Below w.heap.size w w' := by
    have HP := Lib.hid hp
    have OK := Lib.hid ok
    have HXB := Lib.hid hx
    clear hp ok hx
    go_enter Try.func19, Try.ntmps19
    go_wp2_with (fail)
    have B0 : Below w.heap.size w (w.alloc (.cells #[.int .i64 0, .int .i64 0] 36)) := (by repeat (first | exact Below.refl _ _ | assumption | refine Below.drew ?_ | refine bdrewN ?_ _ | refine Below.setCell ?_ (by first | omega | (simp <;> omega)) _ | refine Below.alloc ?_ (by first | omega | (simp <;> omega)) _))
    have H8 := Lib.hid (heap_alloc_new w (.cells #[.int .i64 0, .int .i64 0] 36))
    replace HP := Lib.hid (HP.out.kept B0)
    have BX := Lib.hid B0
    clear B0
    generalize (w.alloc (.cells #[.int .i64 0, .int .i64 0] 36)) = w1 at *
    refine (volumeFed_any a n c L W H w1 hn HP.out OK.out).mono ?_
    rintro e w2 ⟨rfl, hb2⟩
    replace H8 := Lib.hid (heap_keep hb2 H8.out)
    replace BX := Lib.hid (BX.out.trans (hb2.mono BX.out.size))
    clear hb2
    go_wp2_with (fail)
    have bv := volZ_bnd OK.out n (Nat.le_refl _)
    refine (LowestR_any _ _ w2 bv.1 (by omega) (by have := HXB.out; omega) (by have := HXB.out; omega)).mono ?_
    rintro e w5 ⟨rfl, hb5⟩
    replace H8 := Lib.hid (heap_keep hb5 H8.out)
    replace BX := Lib.hid (BX.out.trans (hb5.mono BX.out.size))
    have HX := Lib.hid (show ndN n L W H x = volZ L W H n / gcZ (volZ L W H n) x ∧ ndD n L W H x = x / gcZ (volZ L W H n) x from ⟨rfl, rfl⟩)
    rw [← HX.out.1, ← HX.out.2]
    clear hb5 bv HX
    obtain ⟨y, hy⟩ : ∃ y, ndN n L W H x = y := ⟨_, rfl⟩
    obtain ⟨z, hz⟩ : ∃ z, ndD n L W H x = z := ⟨_, rfl⟩
    have HY := Lib.hid hy
    have HZ := Lib.hid hz
    rw [hy, hz]
    clear hy hz
    have d0 := cell_of H8.out (i := 0) rfl
    have d1 := cell_of H8.out (i := 1) rfl
    have f0 := frozen_of H8.out (i := 0)
    have f1 := frozen_of H8.out (i := 1)
    go_wp2_with (fail)
    have hs := set2V_1 (u := .int .i64 z) (set2V_0 (u := .int .i64 y) H8.out)
    have s0 := cell_of hs (i := 0) rfl
    have s1 := cell_of hs (i := 1) rfl
    have B9 := Lib.hid ((Below.setCell (p := ⟨w.heap.size, 0, none⟩) BX.out (Nat.le_refl _) (.int .i64 y)).setCell (p := ⟨w.heap.size, 1, none⟩) (Nat.le_refl _) (.int .i64 z))
    generalize ((w5.setCell ⟨w.heap.size, 0, none⟩ (.int .i64 y)).setCell ⟨w.heap.size, 1, none⟩ (.int .i64 z)) = w9 at *
    exact bodyPost_ret (v := .agg #[.int .i64 y, .int .i64 z]) (by simp [results, Try.results19, go_sem, s0, s1]) rfl ⟨by rw [HY.out, HZ.out], B9.out⟩

set_option maxRecDepth 100000 in
set_option maxHeartbeats 8000000 in
theorem Amounts_any (a : Option Addr) (n c : Nat) (L W H : Nat → Int) (x : Int) (w : World) (hn : n ≤ 100) (hp : BeadsR w a n L W H) :
    Calls Try.prog 18 #[.slice a n c, .int .i64 x] w fun e w' =>
      (arE n L W H x = 0 → ∃ ao co, e = .returned (.tuple #[.slice ao n co, .int .i64 0]) ∧ w'.ownsRow w.heap.size 3 1 (.slice ao n co) n (vs (amtF L W H x) n)) ∧
      (arE n L W H x ≠ 0 → e = .returned (.tuple #[.slice none 0 0, .int .i64 (arE n L W H x)])) ∧ Below w.heap.size w w' := by
  obtain ⟨i0, hi0, hz0, hz1, hz2⟩ := info_parts info_intV
  have HP := Lib.hid hp
  clear hp
  go_enter Try.func18, Try.ntmps18
  go_wp2_with (fail)
  refine (Positions_any a n c L W H x _ hn HP.out).mono ?_
  rintro e w1 ⟨h1, h2, hb1⟩
  have B1 := Lib.hid hb1
  clear hb1
  by_cases hz : arE n L W H x = 0
  · obtain ⟨ai, ci, rfl, hown⟩ := h1 hz
    have HZ := Lib.hid hz
    have HI := Lib.hid (ints_of_own hown)
    have OK := Lib.hid (arE_ok hz)
    clear h1 h2 hz hown
    go_wp2_with (fail)
    go_loopw [8, 9, 23] (fun av p iv wr => ∃ (k : Nat) (ao : Option Addr) (co : Nat), k ≤ n ∧ iv = .int .i64 k ∧ p = .int .i64 (posZ L W H x k) ∧ av = .slice ao k co ∧ wr.ownsRow w1.heap.size 3 1 (.slice ao k co) k (vs (amtF L W H x) k) ∧ Below w1.heap.size w1 wr) (fun _ _ iv _ => n - (intOf iv).toNat)
    case atStart => exact ⟨0, none, 0, by omega, rfl, by rw [posZ_0 (x := x) (by have := OK.out.2.1; omega)], rfl, World.ownsRow_nil _ _ _ _, Below.refl _ _⟩
    case round =>
      obtain ⟨k, ao, co, hk, rfl, rfl, rfl, hown, hbel⟩ := hrel
      have HO := Lib.hid hown
      have HB := Lib.hid hbel
      have hsz := hbel.size
      have hs1 := B1.out.size
      clear hown hbel
      by_cases hlt : k < n
      · rcases HI.out with h | ⟨b, off, rfl, hb, hd⟩
        · omega
        have c0 := cellk HB.out hb (hd k hlt)
        clear hd
        have b0 := posZ_bnd (x := x) OK.out.1.2 (by have := OK.out.2.1; omega) OK.out.1.1 hk
        have b1 := posZ_bnd (x := x) OK.out.1.2 (by have := OK.out.2.1; omega) OK.out.1.1 (t := k + 1) hlt
        have e1 : IntKind.i64.wrap (posF L W H x k - posZ L W H x k) = amtF L W H x k := i64w (by show _ ≤ posZ L W H x (k + 1) - _ ∧ posZ L W H x (k + 1) - _ ≤ _; omega)
        have HPF := Lib.hid (show posF L W H x k = posZ L W H x (k + 1) from rfl)
        clear b0 b1
        obtain ⟨z, hz⟩ : ∃ z, z = amtF L W H x k := ⟨_, rfl⟩
        rw [← hz] at e1
        have HZV := Lib.hid hz
        clear hz
        go_wp2_with (at_builtin; refine wpList_append_lies _ rfl _ _ 22 rfl w1.heap.size 3 i0 (.int .i64 0) 1 8 Try.underlying22 hi0 hz0 hz1 hz2 rfl (by decide) _ _ _ rfl (ownsRow_below HO.out ((Below.refl _ wr).alloc (Nat.le_refl _) _)) ⟨wr.heap.size, 0, none⟩ 1 1 [.int .i64 z] rfl rfl (World.news_of_block (cs := #[.int .i64 z]) (t := 3) (fr := (0, 0)) (heap_alloc_new wr (.cells #[.int .i64 z] 3))) (by simp [Value.oneCell']) (by omega) (by unfold maxLen; omega) (by omega) (by simp; omega) (wr.heap.size + 1) (by simp) ?_; intro g5 c5 w5 hown5 hgrow5 _ hlt5; have HO5 := Lib.hid hown5; have HB5 := Lib.hid (Below.grown (B := w1.heap.size) (Below.alloc (B := w1.heap.size) (Below.refl _ wr) (by omega) (.cells #[.int .i64 z] 3)) hgrow5 (by simp; omega) (fun b hb => ((HO.out).lt b hb).1)); clear hown5 hgrow5)
        have HO6 := Lib.hid (show w5.ownsRow w1.heap.size 3 1 (.slice (some ⟨g5, 0, none⟩) (k + 1) c5) (k + 1) (vs (amtF L W H x) (k + 1)) by rw [vs_succ, ← HZV.out]; exact HO5.out)
        have HB6 := Lib.hid (HB.out.trans HB5.out)
        clear HO5 HB5
        go_wp2_with (fail)
        go_roundw
        case rel => exact ⟨k + 1, _, c5, by omega, by go_num, by rw [HPF.out], rfl, HO6.out, HB6.out⟩
        case measure => simp [intOf] <;> omega
      · obtain rfl : n = k := by omega
        go_wp2_with (fail)
        exact bodyPost_ret (v := .tuple #[.slice ao n co, .int .i64 0]) (by simp [results, Try.results18, go_sem]) rfl ⟨fun _ => ⟨ao, co, rfl, own_low HO.out B1.out.size⟩, fun h => absurd HZ.out h, B1.out.trans (HB.out.mono B1.out.size)⟩
  · obtain rfl := h2 hz
    have HZ := Lib.hid hz
    have hz' : (arE n L W H x != 0) = true := by simpa using hz
    clear h1 h2 hz
    go_wp2_with (fail)
    exact bodyPost_ret (v := .tuple #[.slice none 0 0, .int .i64 (arE n L W H x)]) (by simp [results, Try.results18, go_sem]) rfl ⟨fun h => absurd h HZ.out, fun _ => rfl, B1.out⟩
set_option maxRecDepth 100000 in
set_option maxHeartbeats 8000000 in
theorem amountsOf_any (a : Option Addr) (n c : Nat) (L W H : Nat → Int) (x : Int) (w : World) (hn : n ≤ 100) (hp : BeadsR w a n L W H) (ok : arE n L W H x = 0) (hcn : n ≤ c) :
    Calls Try.prog 21 #[.slice a n c, .int .i64 x] w fun e w' => ∃ ao co, e = .returned (.slice ao n co) ∧ w'.ownsRow w.heap.size 3 1 (.slice ao n co) n (vs (amtF L W H x) n) ∧ Below w.heap.size w w' := by
    obtain ⟨i0, hi0, hz0, hz1, hz2⟩ := info_parts info_intV
    have HP := Lib.hid hp
    have OK := Lib.hid (arE_ok ok)
    clear hp ok
    go_enter Try.func21, Try.ntmps21
    go_wp2_with (fail)
    refine (positionsOf_any a n c L W H x _ hn HP.out OK.out.1.2 OK.out.2.1 hcn).mono ?_
    rintro e w1 ⟨ai, ci, rfl, hown, hb1⟩
    have B1 := Lib.hid hb1
    have HI := Lib.hid (ints_of_own hown)
    clear hb1 hown
    go_wp2_with (fail)
    go_loopw [5, 6, 13] (fun av p iv wr => ∃ (k : Nat) (ao : Option Addr) (co : Nat), k ≤ n ∧ iv = .int .i64 k ∧ p = .int .i64 (posZ L W H x k) ∧ av = .slice ao k co ∧ wr.ownsRow w1.heap.size 3 1 (.slice ao k co) k (vs (amtF L W H x) k) ∧ Below w1.heap.size w1 wr) (fun _ _ iv _ => n - (intOf iv).toNat)
    case atStart => exact ⟨0, none, 0, by omega, rfl, by rw [posZ_0 (x := x) (by have := OK.out.2.1; omega)], rfl, World.ownsRow_nil _ _ _ _, Below.refl _ _⟩
    case round =>
      obtain ⟨k, ao, co, hk, rfl, rfl, rfl, hown, hbel⟩ := hrel
      have HO := Lib.hid hown
      have HB := Lib.hid hbel
      have hsz := hbel.size
      have hs1 := B1.out.size
      clear hown hbel
      by_cases hlt : k < n
      · rcases HI.out with h | ⟨b, off, rfl, hb, hd⟩
        · omega
        have c0 := cellk HB.out hb (hd k hlt)
        clear hd
        have b0 := posZ_bnd (x := x) OK.out.1.2 (by have := OK.out.2.1; omega) OK.out.1.1 hk
        have b1 := posZ_bnd (x := x) OK.out.1.2 (by have := OK.out.2.1; omega) OK.out.1.1 (t := k + 1) hlt
        have e1 : IntKind.i64.wrap (posF L W H x k - posZ L W H x k) = amtF L W H x k := i64w (by show _ ≤ posZ L W H x (k + 1) - _ ∧ posZ L W H x (k + 1) - _ ≤ _; omega)
        have HPF := Lib.hid (show posF L W H x k = posZ L W H x (k + 1) from rfl)
        clear b0 b1
        obtain ⟨z, hz⟩ : ∃ z, z = amtF L W H x k := ⟨_, rfl⟩
        rw [← hz] at e1
        have HZV := Lib.hid hz
        clear hz
        go_wp2_with (at_builtin; refine wpList_append_lies _ rfl _ _ 22 rfl w1.heap.size 3 i0 (.int .i64 0) 1 8 Try.underlying22 hi0 hz0 hz1 hz2 rfl (by decide) _ _ _ rfl (ownsRow_below HO.out ((Below.refl _ wr).alloc (Nat.le_refl _) _)) ⟨wr.heap.size, 0, none⟩ 1 1 [.int .i64 z] rfl rfl (World.news_of_block (cs := #[.int .i64 z]) (t := 3) (fr := (0, 0)) (heap_alloc_new wr (.cells #[.int .i64 z] 3))) (by simp [Value.oneCell']) (by omega) (by unfold maxLen; omega) (by omega) (by simp; omega) (wr.heap.size + 1) (by simp) ?_; intro g5 c5 w5 hown5 hgrow5 _ hlt5; have HO5 := Lib.hid hown5; have HB5 := Lib.hid (Below.grown (B := w1.heap.size) (Below.alloc (B := w1.heap.size) (Below.refl _ wr) (by omega) (.cells #[.int .i64 z] 3)) hgrow5 (by simp; omega) (fun b hb => ((HO.out).lt b hb).1)); clear hown5 hgrow5)
        have HO6 := Lib.hid (show w5.ownsRow w1.heap.size 3 1 (.slice (some ⟨g5, 0, none⟩) (k + 1) c5) (k + 1) (vs (amtF L W H x) (k + 1)) by rw [vs_succ, ← HZV.out]; exact HO5.out)
        have HB6 := Lib.hid (HB.out.trans HB5.out)
        clear HO5 HB5
        go_wp2_with (fail)
        go_roundw
        case rel => exact ⟨k + 1, _, c5, by omega, by go_num, by rw [HPF.out], rfl, HO6.out, HB6.out⟩
        case measure => simp [intOf] <;> omega
      · obtain rfl : n = k := by omega
        go_wp2_with (fail)
        go_ret
        exact ⟨ao, co, rfl, own_low HO.out B1.out.size, B1.out.trans (HB.out.mono B1.out.size)⟩
end Go.Proofs.Ytddnimbalfaieaa

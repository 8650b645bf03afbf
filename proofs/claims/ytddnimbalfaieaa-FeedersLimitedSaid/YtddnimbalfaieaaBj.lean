/- Fastest, Slowed and Weight: by the program and by the reference. -/
import Derived.Test.YtddnimbalfaieaaBd
import Derived.Lib.SliceRun
set_option linter.unusedSimpArgs false
set_option linter.unusedVariables false
namespace Go.Proofs.Ytddnimbalfaieaa
open Go.RowKit
theorem sect_bnd {y z : Int} (hy : 1 ≤ y ∧ y ≤ 5000) (hz : 1 ≤ z ∧ z ≤ 5000) : 1 ≤ y * z ∧ y * z ≤ 25000000 := by
  have h1 := Int.mul_le_mul hy.1 hz.1 (by omega) (by omega)
  have h2 := Int.mul_le_mul hy.2 hz.2 (by omega) (by omega)
  omega
def fsF (W H : Nat → Int) (f : Int) : Nat → Int := fun i => f / (W i * H i)
def fsE (n : Nat) (L W H : Nat → Int) (f : Int) : Int := orE (bdE n L W H) (spanE f 1 1000000000000)
theorem fsE_ok {n : Nat} {L W H : Nat → Int} {f : Int} (h : fsE n L W H f = 0) : bdE n L W H = 0 ∧ 1 ≤ f ∧ f ≤ 1000000000000 := by
  unfold fsE orE spanE at h
  split at h
  · split at h
    · rename_i h1 h2
      exact ⟨h1, inB_yes.1 h2⟩
    · cases h
  · rename_i h1; exact absurd h h1
set_option maxRecDepth 100000 in
set_option maxHeartbeats 8000000 in
theorem Fastest_any (a : Option Addr) (n c : Nat) (L W H : Nat → Int) (f : Int) (w : World) (hn : n ≤ 100) (hp : BeadsR w a n L W H) :
    Calls Try.prog 27 #[.slice a n c, .int .i64 f] w fun e w' =>
      (fsE n L W H f = 0 → ∃ ao co, e = .returned (.tuple #[.slice ao n co, .int .i64 0]) ∧ w'.ownsRow w.heap.size 3 1 (.slice ao n co) n (vs (fsF W H f) n)) ∧
      (fsE n L W H f ≠ 0 → e = .returned (.tuple #[.slice none 0 0, .int .i64 (fsE n L W H f)])) ∧ Below w.heap.size w w' := by
  obtain ⟨i0, hi0, hz0, hz1, hz2⟩ := info_parts info_intV
  have HP := Lib.hid hp
  clear hp
  go_enter Try.func27, Try.ntmps27
  go_wp2_with (fail)
  refine (checkBeads_any a n c L W H _ (by omega) HP.out).mono ?_
  rintro e w1 ⟨rfl, hb1⟩
  have B1 := Lib.hid hb1
  clear hb1
  by_cases hz : bdE n L W H = 0
  · have OK : Hid (BdOk n L W H) := Lib.hid (bdE_ok hz).2
    have hz' : (bdE n L W H != 0) = false := by simp [hz]
    rcases hx : inB f 1 1000000000000 with _ | _
    · have R := Lib.hid (show fsE n L W H f = 1 by unfold fsE orE spanE; rw [if_pos hz, hx]; rfl)
      have HX := Lib.hid hx
      clear hz hx
      go_wp2_with (go_at_call 42; refine (within_any _ _ _ _).mono ?_; rintro e w' ⟨rfl, rfl⟩; rw [HX.out])
      exact bodyPost_ret (v := .tuple #[.slice none 0 0, .int .i64 1]) (by simp [results, Try.results27, go_sem]) rfl ⟨fun h => absurd (R.out.symm.trans h) (by decide), fun _ => by rw [R.out], B1.out⟩
    · have R := Lib.hid (show fsE n L W H f = 0 by unfold fsE orE spanE; rw [if_pos hz, hx]; rfl)
      have HX := Lib.hid hx
      have HF := Lib.hid (inB_yes.1 hx)
      clear hz hx
      go_wp2_with (go_at_call 42; refine (within_any _ _ _ _).mono ?_; rintro e w' ⟨rfl, rfl⟩; rw [HX.out])
      go_loopw [7, 20] (fun sv iv wr => ∃ (k : Nat) (ao : Option Addr) (co : Nat), k ≤ n ∧ iv = .int .i64 k ∧ sv = .slice ao k co ∧ wr.ownsRow w.heap.size 3 1 (.slice ao k co) k (vs (fsF W H f) k) ∧ Below w.heap.size w wr) (fun _ iv _ => n - (intOf iv).toNat)
      case atStart => exact ⟨0, none, 0, by omega, rfl, rfl, World.ownsRow_nil _ _ _ _, B1.out⟩
      case round =>
        obtain ⟨k, ao, co, hk, rfl, rfl, hown, hbel⟩ := hrel
        have HO := Lib.hid hown
        have HB := Lib.hid hbel
        have hsz := hbel.size
        clear hown hbel
        by_cases hlt : k < n
        · rcases HP.out with h0 | ⟨b, off, rfl, hb, hd⟩
          · omega
          obtain ⟨c0, c1, c2⟩ := hd k hlt
          replace c0 := cellk HB.out hb c0
          replace c1 := cellk HB.out hb c1
          replace c2 := cellk HB.out hb c2
          have hbw : b < wr.heap.size := by omega
          clear hd
          have BA := Lib.hid ((Below.refl _ wr).alloc (Nat.le_refl _) (.cells #[.int .i64 (L k), .int .i64 (W k), .int .i64 (H k)] 61))
          have HZV := Lib.hid (show fsF W H f k = f / (W k * H k) from rfl)
          obtain ⟨_, oy, oz⟩ := OK.out k hlt
          have b1 := sect_bnd oy oz
          have hf := HF.out
          obtain ⟨s, hs⟩ : ∃ s, W k * H k = s := ⟨_, rfl⟩
          have e1 : IntKind.i64.wrap (W k * H k) = s := by rw [hs]; exact i64w (by omega)
          rw [hs] at HZV b1
          have e2 : f.tdiv s = f / s := Int.tdiv_eq_ediv_of_nonneg (by omega)
          have e4 : ¬ s = 0 := by omega
          have q0 : 0 ≤ f / s := Int.ediv_nonneg (by omega) (by omega)
          have q1 : f / s ≤ f := Int.ediv_le_self _ (by omega)
          have e3 : IntKind.i64.wrap (f / s) = f / s := i64w (by omega)
          clear oy oz b1 q0 q1 hf hs
          have hb3 := BA.out
          have HO3 := Lib.hid (ownsRow_below HO.out hb3)
          have hs3 : (wr.alloc (.cells #[.int .i64 (L k), .int .i64 (W k), .int .i64 (H k)] 61)).heap.size = wr.heap.size + 1 := by simp
          clear hb3
          go_wp2_with (at_builtin; refine wpList_append_lies _ rfl _ _ 22 rfl w.heap.size 3 i0 (.int .i64 0) 1 8 Try.underlying22 hi0 hz0 hz1 hz2 rfl (by decide) _ _ _ rfl (ownsRow_below HO3.out ((Below.refl _ (wr.alloc (.cells #[.int .i64 (L k), .int .i64 (W k), .int .i64 (H k)] 61))).alloc (Nat.le_refl _) _)) ⟨wr.heap.size + 1, 0, none⟩ 1 1 [.int .i64 (f / s)] rfl rfl (hs3 ▸ World.news_of_block (cs := #[.int .i64 (f / s)]) (t := 3) (fr := (0, 0)) (heap_alloc_new (wr.alloc (.cells #[.int .i64 (L k), .int .i64 (W k), .int .i64 (H k)] 61)) (.cells #[.int .i64 (f / s)] 3))) (by simp [Value.oneCell']) (by omega) (by unfold maxLen; omega) (by omega) (by simp; omega) (wr.heap.size + 1 + 1) (by simp) ?_; intro g5 c5 w5 hown5 hgrow5 _ hlt5; have HO5 := Lib.hid hown5; have HB5 := Lib.hid (Below.grown (B := w.heap.size) (Below.alloc (B := w.heap.size) (Below.refl _ (wr.alloc (.cells #[.int .i64 (L k), .int .i64 (W k), .int .i64 (H k)] 61))) (by omega) (.cells #[.int .i64 (f / s)] 3)) hgrow5 (by simp; omega) (fun b hb => ((HO3.out).lt b hb).1)); clear hown5 hgrow5)
          have HO6 := Lib.hid (show w5.ownsRow w.heap.size 3 1 (.slice (some ⟨g5, 0, none⟩) (k + 1) c5) (k + 1) (vs (fsF W H f) (k + 1)) by rw [vs_succ, HZV.out]; exact HO5.out)
          have HB6 := Lib.hid ((HB.out.trans (BA.out.mono hsz)).trans HB5.out)
          clear HO5 HB5
          go_wp2_with (fail)
          go_roundw
          case rel => exact ⟨k + 1, _, c5, by omega, by go_num, rfl, HO6.out, HB6.out⟩
          case measure => simp [intOf] <;> omega
        · obtain rfl : n = k := by omega
          go_wp2_with (fail)
          exact bodyPost_ret (v := .tuple #[.slice ao n co, .int .i64 0]) (by simp [results, Try.results27, go_sem]) rfl ⟨fun _ => ⟨ao, co, rfl, HO.out⟩, fun h => absurd R.out h, HB.out⟩
  · have R := Lib.hid (show fsE n L W H f = bdE n L W H by unfold fsE orE; rw [if_neg hz])
    have HZ := Lib.hid hz
    have hz' : (bdE n L W H != 0) = true := by simpa using hz
    clear hz
    go_wp2_with (fail)
    exact bodyPost_ret (v := .tuple #[.slice none 0 0, .int .i64 (bdE n L W H)]) (by simp [results, Try.results27, go_sem]) rfl ⟨fun h => absurd (R.out.symm.trans h) HZ.out, fun _ => by rw [R.out], B1.out⟩
set_option maxRecDepth 100000 in
set_option maxHeartbeats 8000000 in
theorem fastestOf_any (a : Option Addr) (n c : Nat) (L W H : Nat → Int) (f : Int) (w : World) (hn : n ≤ 100) (hp : BeadsR w a n L W H) (ok : BdOk n L W H) (hff : 1 ≤ f ∧ f ≤ 1000000000000) :
    Calls Try.prog 36 #[.slice a n c, .int .i64 f] w fun e w' => ∃ ao co, e = .returned (.slice ao n co) ∧ w'.ownsRow w.heap.size 3 1 (.slice ao n co) n (vs (fsF W H f) n) ∧ Below w.heap.size w w' := by
  obtain ⟨i0, hi0, hz0, hz1, hz2⟩ := info_parts info_intV
  have HP := Lib.hid hp
  have OK := Lib.hid ok
  have HF := Lib.hid hff
  clear hp ok hff
  go_enter Try.func36, Try.ntmps36
  go_wp2_with (fail)
  go_loopw [5, 10] (fun sv iv wr => ∃ (k : Nat) (ao : Option Addr) (co : Nat), k ≤ n ∧ iv = .int .i64 k ∧ sv = .slice ao k co ∧ wr.ownsRow w.heap.size 3 1 (.slice ao k co) k (vs (fsF W H f) k) ∧ Below w.heap.size w wr) (fun _ iv _ => n - (intOf iv).toNat)
  case atStart => exact ⟨0, none, 0, by omega, rfl, rfl, World.ownsRow_nil _ _ _ _, Below.refl _ _⟩
  case round =>
    obtain ⟨k, ao, co, hk, rfl, rfl, hown, hbel⟩ := hrel
    have HO := Lib.hid hown
    have HB := Lib.hid hbel
    have hsz := hbel.size
    clear hown hbel
    by_cases hlt : k < n
    · rcases HP.out with h0 | ⟨b, off, rfl, hb, hd⟩
      · omega
      obtain ⟨c0, c1, c2⟩ := hd k hlt
      replace c0 := cellk HB.out hb c0
      replace c1 := cellk HB.out hb c1
      replace c2 := cellk HB.out hb c2
      have hbw : b < wr.heap.size := by omega
      clear hd
      have BA := Lib.hid ((Below.refl _ wr).alloc (Nat.le_refl _) (.cells #[.int .i64 (L k), .int .i64 (W k), .int .i64 (H k)] 61))
      have HZV := Lib.hid (show fsF W H f k = f / (W k * H k) from rfl)
      obtain ⟨_, oy, oz⟩ := OK.out k hlt
      have b1 := sect_bnd oy oz
      have hf := HF.out
      obtain ⟨s, hs⟩ : ∃ s, W k * H k = s := ⟨_, rfl⟩
      have e1 : IntKind.i64.wrap (W k * H k) = s := by rw [hs]; exact i64w (by omega)
      rw [hs] at HZV b1
      have e2 : f.tdiv s = f / s := Int.tdiv_eq_ediv_of_nonneg (by omega)
      have e4 : ¬ s = 0 := by omega
      have q0 : 0 ≤ f / s := Int.ediv_nonneg (by omega) (by omega)
      have q1 : f / s ≤ f := Int.ediv_le_self _ (by omega)
      have e3 : IntKind.i64.wrap (f / s) = f / s := i64w (by omega)
      clear oy oz b1 q0 q1 hf hs
      have hb3 := BA.out
      have HO3 := Lib.hid (ownsRow_below HO.out hb3)
      have hs3 : (wr.alloc (.cells #[.int .i64 (L k), .int .i64 (W k), .int .i64 (H k)] 61)).heap.size = wr.heap.size + 1 := by simp
      clear hb3
      go_wp2_with (at_builtin; refine wpList_append_lies _ rfl _ _ 22 rfl w.heap.size 3 i0 (.int .i64 0) 1 8 Try.underlying22 hi0 hz0 hz1 hz2 rfl (by decide) _ _ _ rfl (ownsRow_below HO3.out ((Below.refl _ (wr.alloc (.cells #[.int .i64 (L k), .int .i64 (W k), .int .i64 (H k)] 61))).alloc (Nat.le_refl _) _)) ⟨wr.heap.size + 1, 0, none⟩ 1 1 [.int .i64 (f / s)] rfl rfl (hs3 ▸ World.news_of_block (cs := #[.int .i64 (f / s)]) (t := 3) (fr := (0, 0)) (heap_alloc_new (wr.alloc (.cells #[.int .i64 (L k), .int .i64 (W k), .int .i64 (H k)] 61)) (.cells #[.int .i64 (f / s)] 3))) (by simp [Value.oneCell']) (by omega) (by unfold maxLen; omega) (by omega) (by simp; omega) (wr.heap.size + 1 + 1) (by simp) ?_; intro g5 c5 w5 hown5 hgrow5 _ hlt5; have HO5 := Lib.hid hown5; have HB5 := Lib.hid (Below.grown (B := w.heap.size) (Below.alloc (B := w.heap.size) (Below.refl _ (wr.alloc (.cells #[.int .i64 (L k), .int .i64 (W k), .int .i64 (H k)] 61))) (by omega) (.cells #[.int .i64 (f / s)] 3)) hgrow5 (by simp; omega) (fun b hb => ((HO3.out).lt b hb).1)); clear hown5 hgrow5)
      have HO6 := Lib.hid (show w5.ownsRow w.heap.size 3 1 (.slice (some ⟨g5, 0, none⟩) (k + 1) c5) (k + 1) (vs (fsF W H f) (k + 1)) by rw [vs_succ, HZV.out]; exact HO5.out)
      have HB6 := Lib.hid ((HB.out.trans (BA.out.mono hsz)).trans HB5.out)
      clear HO5 HB5
      go_wp2_with (fail)
      go_roundw
      case rel => exact ⟨k + 1, _, c5, by omega, by go_num, rfl, HO6.out, HB6.out⟩
      case measure => simp [intOf] <;> omega
    · obtain rfl : n = k := by omega
      go_wp2_with (fail)
      go_ret
      exact ⟨ao, co, rfl, HO.out, HB.out⟩
/-! ### Times -/
def mxZ (a b : Int) : Int := if a < b then b else a
def slF (T : Nat → Int) (l : Int) : Nat → Int := fun i => mxZ (T i) l
def gwZ (T : Nat → Int) (l : Int) : Nat → Int
  | 0 => 0
  | t + 1 => gwZ T l t + (mxZ (T t) l - T t)
def tmE (m : Nat) (T : Nat → Int) (l : Int) : Int := if (decide (∀ i, i < m → inB (T i) 0 86400000 = true) && inB l 0 86400000) = true then 0 else 1
theorem tmE_ok {m : Nat} {T : Nat → Int} {l : Int} (h : tmE m T l = 0) : (∀ i, i < m → 0 ≤ T i ∧ T i ≤ 86400000) ∧ 0 ≤ l ∧ l ≤ 86400000 := by
  unfold tmE at h
  split at h
  · rename_i h1
    rw [Bool.and_eq_true, decide_eq_true_eq, inB_yes] at h1
    exact ⟨fun i hi => inB_yes.1 (h1.1 i hi), h1.2⟩
  · cases h
theorem tmE_yes {m : Nat} {T : Nat → Int} {l : Int} (h : ∀ i, i < m → inB (T i) 0 86400000 = true) (hl : inB l 0 86400000 = true) : tmE m T l = 0 := by
  unfold tmE
  rw [if_pos]
  rw [Bool.and_eq_true, decide_eq_true_eq]
  exact ⟨h, hl⟩
theorem tmE_no {m k : Nat} {T : Nat → Int} {l : Int} (hk : k < m) (h : inB (T k) 0 86400000 = false) : tmE m T l = 1 := by
  unfold tmE
  rw [if_neg]
  rw [Bool.and_eq_true, decide_eq_true_eq]
  rintro ⟨h1, _⟩
  rw [h1 k hk] at h
  cases h
theorem tmE_least {m : Nat} {T : Nat → Int} {l : Int} (h : inB l 0 86400000 = false) : tmE m T l = 1 := by
  unfold tmE
  rw [if_neg]
  rw [Bool.and_eq_true, h]
  rintro ⟨_, h2⟩
  cases h2
theorem gwZ_bnd {m : Nat} {T : Nat → Int} {l : Int} (h : ∀ i, i < m → 0 ≤ T i ∧ T i ≤ 86400000) (hl : 0 ≤ l ∧ l ≤ 86400000) : ∀ t, t ≤ m → 0 ≤ gwZ T l t ∧ gwZ T l t ≤ 86400000 * (t : Int)
  | 0, _ => by simp [gwZ]
  | t + 1, ht => by
    have h1 := gwZ_bnd h hl t (by omega)
    have h2 := h t (by omega)
    have h3 : gwZ T l (t + 1) = gwZ T l t + (mxZ (T t) l - T t) := rfl
    have h4 : T t ≤ mxZ (T t) l ∧ mxZ (T t) l ≤ 86400000 := by unfold mxZ; split <;> omega
    rw [h3]
    omega
set_option maxRecDepth 100000 in
set_option maxHeartbeats 8000000 in
theorem slowedOf_any (a : Option Addr) (m c : Nat) (T : Nat → Int) (l : Int) (w : World) (hm : m ≤ 100) (ht : IntsR w a m T) (ok : tmE m T l = 0) :
    Calls Try.prog 37 #[.slice a m c, .int .i64 l] w fun e w' => ∃ ao co, e = .returned (.tuple #[.slice ao m co, .int .i64 (gwZ T l m)]) ∧ w'.ownsRow w.heap.size 3 1 (.slice ao m co) m (vs (slF T l) m) ∧ Below w.heap.size w w' := by
  obtain ⟨i0, hi0, hz0, hz1, hz2⟩ := info_parts info_intV
  have HT := Lib.hid ht
  have OK := Lib.hid (tmE_ok ok)
  clear ht ok
  go_enter Try.func37, Try.ntmps37
  go_wp2_with (fail)
  go_loopw [6, 7, 12] (fun sv gv iv wr => ∃ (k : Nat) (ao : Option Addr) (co : Nat), k ≤ m ∧ iv = .int .i64 k ∧ gv = .int .i64 (gwZ T l k) ∧ sv = .slice ao k co ∧ wr.ownsRow w.heap.size 3 1 (.slice ao k co) k (vs (slF T l) k) ∧ Below w.heap.size w wr) (fun _ _ iv _ => m - (intOf iv).toNat)
  case atStart => exact ⟨0, none, 0, by omega, rfl, rfl, rfl, World.ownsRow_nil _ _ _ _, Below.refl _ _⟩
  case round =>
    obtain ⟨k, ao, co, hk, rfl, rfl, rfl, hown, hbel⟩ := hrel
    have HO := Lib.hid hown
    have HB := Lib.hid hbel
    have hsz := hbel.size
    clear hown hbel
    by_cases hlt : k < m
    · rcases HT.out with h0 | ⟨b, off, rfl, hb, hd⟩
      · omega
      have c0 := cellk HB.out hb (hd k hlt)
      have hbw : b < wr.heap.size := by omega
      clear hd
      have ov := OK.out.1 k hlt
      have b0 := gwZ_bnd OK.out.1 OK.out.2 k hk
      have ol := OK.out.2
      obtain ⟨v, hv⟩ : ∃ v, T k = v := ⟨_, rfl⟩
      have HV := Lib.hid hv
      rw [hv] at c0 ov
      clear hv
      by_cases hc : v < l
      · have g1 : v < l := hc
        have HD := Lib.hid (show slF T l k = l by show mxZ (T k) l = _; rw [HV.out]; unfold mxZ; rw [if_pos hc])
        have HG := Lib.hid (show gwZ T l (k + 1) = gwZ T l k + (l - v) by show gwZ T l k + (mxZ (T k) l - T k) = _; rw [HV.out]; unfold mxZ; rw [if_pos hc])
        have e2 : IntKind.i64.wrap (l - v) = l - v := i64w (by omega)
        have e3 : (if l - v > 0 then l - v else 0) = l - v := if_pos (by omega)
        have e4 : IntKind.i64.wrap (gwZ T l k + (l - v)) = gwZ T l k + (l - v) := i64w (by omega)
        have e5 : (if l > v then l else v) = l := if_pos hc
        clear b0 ov
        go_wp2_with (at_builtin; refine wpList_append_lies _ rfl _ _ 22 rfl w.heap.size 3 i0 (.int .i64 0) 1 8 Try.underlying22 hi0 hz0 hz1 hz2 rfl (by decide) _ _ _ rfl (ownsRow_below HO.out ((Below.refl _ wr).alloc (Nat.le_refl _) _)) ⟨wr.heap.size, 0, none⟩ 1 1 [.int .i64 l] rfl rfl (World.news_of_block (cs := #[.int .i64 l]) (t := 3) (fr := (0, 0)) (heap_alloc_new wr (.cells #[.int .i64 l] 3))) (by simp [Value.oneCell']) (by omega) (by unfold maxLen; omega) (by omega) (by simp; omega) (wr.heap.size + 1) (by simp) ?_; intro g5 c5 w5 hown5 hgrow5 _ hlt5; have HO5 := Lib.hid hown5; have HB5 := Lib.hid (Below.grown (B := w.heap.size) (Below.alloc (B := w.heap.size) (Below.refl _ wr) (by omega) (.cells #[.int .i64 l] 3)) hgrow5 (by simp; omega) (fun b hb => ((HO.out).lt b hb).1)); clear hown5 hgrow5)
        have HO6 := Lib.hid (show w5.ownsRow w.heap.size 3 1 (.slice (some ⟨g5, 0, none⟩) (k + 1) c5) (k + 1) (vs (slF T l) (k + 1)) by rw [vs_succ, HD.out]; exact HO5.out)
        have HB6 := Lib.hid (HB.out.trans HB5.out)
        clear HO5 HB5
        go_wp2_with (fail)
        go_roundw
        case rel => exact ⟨k + 1, _, c5, by omega, by go_num, by rw [HG.out], rfl, HO6.out, HB6.out⟩
        case measure => simp [intOf] <;> omega
      · have g1 : ¬ v < l := hc
        have HD := Lib.hid (show slF T l k = v by show mxZ (T k) l = _; rw [HV.out]; unfold mxZ; rw [if_neg hc])
        have HG := Lib.hid (show gwZ T l (k + 1) = gwZ T l k + (v - v) by show gwZ T l k + (mxZ (T k) l - T k) = _; rw [HV.out]; unfold mxZ; rw [if_neg hc])
        have e2 : IntKind.i64.wrap (l - v) = l - v := i64w (by omega)
        have e3 : (if l - v > 0 then l - v else 0) = 0 := if_neg (by omega)
        have e4 : IntKind.i64.wrap (gwZ T l k) = gwZ T l k := i64w (by omega)
        have e5 : (if l > v then l else v) = v := if_neg hc
        clear b0 ov
        go_wp2_with (at_builtin; refine wpList_append_lies _ rfl _ _ 22 rfl w.heap.size 3 i0 (.int .i64 0) 1 8 Try.underlying22 hi0 hz0 hz1 hz2 rfl (by decide) _ _ _ rfl (ownsRow_below HO.out ((Below.refl _ wr).alloc (Nat.le_refl _) _)) ⟨wr.heap.size, 0, none⟩ 1 1 [.int .i64 v] rfl rfl (World.news_of_block (cs := #[.int .i64 v]) (t := 3) (fr := (0, 0)) (heap_alloc_new wr (.cells #[.int .i64 v] 3))) (by simp [Value.oneCell']) (by omega) (by unfold maxLen; omega) (by omega) (by simp; omega) (wr.heap.size + 1) (by simp) ?_; intro g5 c5 w5 hown5 hgrow5 _ hlt5; have HO5 := Lib.hid hown5; have HB5 := Lib.hid (Below.grown (B := w.heap.size) (Below.alloc (B := w.heap.size) (Below.refl _ wr) (by omega) (.cells #[.int .i64 v] 3)) hgrow5 (by simp; omega) (fun b hb => ((HO.out).lt b hb).1)); clear hown5 hgrow5)
        have HO6 := Lib.hid (show w5.ownsRow w.heap.size 3 1 (.slice (some ⟨g5, 0, none⟩) (k + 1) c5) (k + 1) (vs (slF T l) (k + 1)) by rw [vs_succ, HD.out]; exact HO5.out)
        have HB6 := Lib.hid (HB.out.trans HB5.out)
        clear HO5 HB5
        go_wp2_with (fail)
        go_roundw
        case rel => exact ⟨k + 1, _, c5, by omega, by go_num, by rw [HG.out]; simp, rfl, HO6.out, HB6.out⟩
        case measure => simp [intOf] <;> omega
    · obtain rfl : m = k := by omega
      go_wp2_with (fail)
      exact bodyPost_ret (v := .tuple #[.slice ao m co, .int .i64 (gwZ T l m)]) (by simp [results, Try.results37, go_sem]) rfl ⟨ao, co, rfl, HO.out, HB.out⟩
end Go.Proofs.Ytddnimbalfaieaa

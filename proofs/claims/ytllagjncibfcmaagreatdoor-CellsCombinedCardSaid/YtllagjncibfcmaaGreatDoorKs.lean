/- A combination of two cells compared with the reference's. -/
import Derived.Test.YtllagjncibfcmaaGreatDoorKr
import Derived.Test.YtllagjncibfcmaaGreatDoorKhu
import Derived.Test.YtllagjncibfcmaaGreatDoorKhb
import Derived.Test.YtllagjncibfcmaaGreatDoorKhm
set_option linter.unusedSimpArgs false
set_option linter.unusedVariables false
namespace Go.Proofs.YtllagjncibfcmaaGreatDoor
open Go.RowKit

theorem row4 {w : World} {a : Option Addr} {n : Nat} {T : Nat → List UInt8} {R : Nat} {x0 x1 x2 x3 : Value} (h : RowS w a n T) (hne : 0 < n → ∀ b off, a = some ⟨b, off, none⟩ → b ≠ R) : RowS ((((w.setCell ⟨R, 0, none⟩ x0).setCell ⟨R, 1, none⟩ x1).setCell ⟨R, 2, none⟩ x2).setCell ⟨R, 3, none⟩ x3) a n T := by
  by_cases hn : n = 0
  · exact .inl hn
  · have h2 := hne (by omega)
    exact (((h.set _ _ h2).set _ _ h2).set _ _ h2).set _ _ h2
theorem CellsAre.small {P : Int → Int → Bool} {s E z x y : Int} {n : Nat} {R : Nat → List UInt8} (h : CellsAre P s E z x y n R) : n ≤ 1000000 := by
  rcases h with ⟨_, _, _, _, _, rfl⟩ | ⟨lc, lr, hc, hr, ht, h1, h2, h3⟩
  · omega
  · by_cases e : E = 0
    · obtain ⟨_, _, _, h4, _⟩ := h3 e
      rw [e] at h1
      unfold picE at h1
      by_cases q : 199 < hc - lc ∨ 199 < hr - lr
      · rw [if_pos q] at h1; cases h1
      · omega
    · have := (h2 e).2.2.2; omega
set_option maxRecDepth 100000 in
set_option maxHeartbeats 16000000 in
theorem lawUnion_any (s x y : Int) (a : Option Addr) (n c : Nat) (R : Nat → List UInt8) (s' x' y' : Int) (a' : Option Addr) (n' c' : Nat) (R' : Nat → List UInt8) (w : World) (hr : RowS w a n R) (hr' : RowS w a' n' R') (hl : ∀ i, i < n → (R i).length ≤ 1000000) (hn : n ≤ 1000000) (hl' : ∀ i, i < n' → (R' i).length ≤ 1000000) (hn' : n' ≤ 1000000) :
    Calls Tryz.prog 7 #[.func (.func 8) #[] #[], .agg #[.int .i64 s, .int .i64 x, .int .i64 y, .slice a n c], .agg #[.int .i64 s', .int .i64 x', .int .i64 y', .slice a' n' c'], .func (.func 9) #[] #[]] w fun e w' => e = .returned (.bool true) ∧ Below w.heap.size w w' := by
  obtain ⟨E1, hE1⟩ : ∃ E, cellsE s x y n R = E := ⟨_, rfl⟩
  obtain ⟨E2, hE2⟩ : ∃ E, cellsE s' x' y' n' R' = E := ⟨_, rfl⟩
  obtain ⟨E3, hE3⟩ : ∃ E : Int, (if s ≠ s' then 3 else 0) = E := ⟨_, rfl⟩
  obtain ⟨G, hG⟩ : ∃ G, combE s x y n R s' x' y' n' R' = G := ⟨_, rfl⟩
  have hG2 : or3E E1 E2 E3 = G := by rw [← hG, ← hE1, ← hE2, ← hE3]; rfl
  have HE1 := Lib.hid hE1
  have HE2 := Lib.hid hE2
  have HE3 := Lib.hid hE3
  have HG := Lib.hid hG2
  have HC := Lib.hid hG
  have HRa := Lib.hid hr
  have HRb := Lib.hid hr'
  have HLa := Lib.hid hl
  have HLb := Lib.hid hl'
  have HV : Hid (G = 0 → cellsE s x y n R = 0 ∧ cellsE s' x' y' n' R' = 0) := Lib.hid (fun h => by
    rw [← hG] at h
    unfold combE at h
    by_cases e1 : cellsE s x y n R = 0
    · rw [if_neg (by simp [e1])] at h
      by_cases e2 : cellsE s' x' y' n' R' = 0
      · exact ⟨e1, e2⟩
      · rw [if_pos e2] at h; exact absurd h e2
    · rw [if_pos e1] at h; exact absurd h e1)
  clear hr hr' hl hl' hE1 hE2 hE3 hG hG2
  go_enter Tryz.func7, Tryz.ntmps7
  go_wp2_with (fail)
  have HW : Hid (Below w.heap.size w ((w.alloc (.cells #[.int .i64 s, .int .i64 x, .int .i64 y, .slice a n c] 28)).alloc (.cells #[.int .i64 s', .int .i64 x', .int .i64 y', .slice a' n' c'] 28))) := Lib.hid (by repeat (first | exact Below.refl _ _ | assumption | refine Below.drew ?_ | refine bdrewN ?_ _ | refine Below.setCell ?_ (by first | omega | (simp <;> omega)) _ | refine Below.alloc ?_ (by first | omega | (simp <;> omega)) _))
  have HA0 : Hid (((w.alloc (.cells #[.int .i64 s, .int .i64 x, .int .i64 y, .slice a n c] 28)).alloc (.cells #[.int .i64 s', .int .i64 x', .int .i64 y', .slice a' n' c'] 28)).heap[w.heap.size]? = some (.cells #[.int .i64 s, .int .i64 x, .int .i64 y, .slice a n c] 28 (0, 0))) := Lib.hid (by repeat (first | (refine heap_new ?_; first | rfl | (simp; done)) | rw [Below.heap_alloc _ _ _ (by simp <;> omega)]))
  have HB0 : Hid (((w.alloc (.cells #[.int .i64 s, .int .i64 x, .int .i64 y, .slice a n c] 28)).alloc (.cells #[.int .i64 s', .int .i64 x', .int .i64 y', .slice a' n' c'] 28)).heap[w.heap.size + 1]? = some (.cells #[.int .i64 s', .int .i64 x', .int .i64 y', .slice a' n' c'] 28 (0, 0))) := Lib.hid (by repeat (first | (refine heap_new ?_; first | rfl | (simp; done)) | rw [Below.heap_alloc _ _ _ (by simp <;> omega)]))
  generalize ((w.alloc (.cells #[.int .i64 s, .int .i64 x, .int .i64 y, .slice a n c] 28)).alloc (.cells #[.int .i64 s', .int .i64 x', .int .i64 y', .slice a' n' c'] 28)) = v0 at *
  by_cases hG0 : G = 0
  · have HV1 := Lib.hid (VC.of (HV.out hG0).1)
    have HV2 := Lib.hid (VC.of (HV.out hG0).2)
    subst hG0
    refine (twoUnion_any s x y a n c R s' x' y' a' n' c' R' _ _ _ _ _ _ _ HV1.out HV2.out (fun p q => (covB (x.tdiv s) (y.tdiv s) n R p q || covB (x'.tdiv s') (y'.tdiv s') n' R' p q)) (fun _ _ => rfl) (fun p q => by rw [Bool.or_eq_true]) (HRa.out.kept HW.out) (HRb.out.kept HW.out) HLa.out hn HLb.out hn' HC.out).mono ?_
    rintro e v1 ⟨ez, ex, ey, ea, en, ec, eR, eE, rfl, hare, hrow, hfr, hn1, hn2, hn3, hb⟩
    have HARE := Lib.hid hare
    have HROW := Lib.hid hrow
    have HWy := Lib.hid (HW.out.trans (hb.mono HW.out.size))
    have HA1 := Lib.hid (heap_keep hb HA0.out)
    have HB1 := Lib.hid (heap_keep hb HB0.out)
    have HN3 := Lib.hid hn3
    clear hare hrow hfr hn3 hb
    go_wp2_with (fail)
    have hba : Below v1.heap.size v1 (v1.alloc (.cells #[.int .i64 ez, .int .i64 ex, .int .i64 ey, .slice ea en ec] 28)) := (Below.refl _ _).alloc (Nat.le_refl _) _
    have HCC : Hid ((v1.alloc (.cells #[.int .i64 ez, .int .i64 ex, .int .i64 ey, .slice ea en ec] 28)).heap[v1.heap.size]? = some (.cells #[.int .i64 ez, .int .i64 ex, .int .i64 ey, .slice ea en ec] 28 (0, 0))) := Lib.hid (heap_new rfl)
    have HA := Lib.hid (heap_keep hba HA1.out)
    have HB := Lib.hid (heap_keep hba HB1.out)
    have HROW2 := Lib.hid (HROW.out.kept hba)
    have HWx := Lib.hid (HWy.out.trans (hba.mono HWy.out.size))
    clear hba
    generalize v1.alloc (.cells #[.int .i64 ez, .int .i64 ex, .int .i64 ey, .slice ea en ec] 28) = v2 at *
    refine wp_region_held_drew (S := (fun w' : World => w'.heap[w.heap.size]? = some (.cells #[.int .i64 s, .int .i64 x, .int .i64 y, .slice a n c] 28 (0, 0)) ∧ w'.heap[w.heap.size + 1]? = some (.cells #[.int .i64 s', .int .i64 x', .int .i64 y', .slice a' n' c'] 28 (0, 0)))) (by kernel_rfl) ⟨HA.out, HB.out⟩ (fun hHeld => ?_)
    refine tkH hHeld 0 (oi := ?_) (v := ?_) ?_ ?_ ?_ ?_ ?_ ?_ ?_ ?_; rotate_left 2; (simp only [gA, gB, gC]; exact rfl); kernel_rfl; kernel_rfl; kernel_rfl; exact fun _ _ _ h => h; rfl; (intro w' hSw; obtain ⟨hs1, hs2⟩ := hSw; have z0 := cell_of (i := 0) hs1 rfl; have z1 := cell_of (i := 1) hs1 rfl; have z2 := cell_of (i := 2) hs1 rfl; have z3 := cell_of (i := 3) hs1 rfl; clear hs1 hs2; go_simp; with_reducible rfl); simp only [Act.put, pB, pC, pD]
    refine tkH hHeld 2 (oi := ?_) (v := ?_) ?_ ?_ ?_ ?_ ?_ ?_ ?_ ?_; rotate_left 2; (simp only [gA, gB, gC]; exact rfl); kernel_rfl; kernel_rfl; kernel_rfl; exact fun _ _ _ h => h; rfl; (intro w' hSw; obtain ⟨hs1, hs2⟩ := hSw; have z0 := cell_of (i := 0) hs2 rfl; have z1 := cell_of (i := 1) hs2 rfl; have z2 := cell_of (i := 2) hs2 rfl; have z3 := cell_of (i := 3) hs2 rfl; clear hs1 hs2; go_simp; with_reducible rfl); simp only [Act.put, pB, pC, pD]
    refine tkH hHeld 4 (oi := ?_) (v := ?_) ?_ ?_ ?_ ?_ ?_ ?_ ?_ ?_; rotate_left 2; (simp only [gA, gB, gC]; exact rfl); kernel_rfl; kernel_rfl; kernel_rfl; exact fun _ _ _ h => h; rfl; (intro w' hSw; obtain ⟨hs1, hs2⟩ := hSw; have z0 := cell_of (i := 0) hs1 rfl; have z1 := cell_of (i := 1) hs1 rfl; have z2 := cell_of (i := 2) hs1 rfl; have z3 := cell_of (i := 3) hs1 rfl; clear hs1 hs2; go_simp; with_reducible rfl); simp only [Act.put, pB, pC, pD]
    refine tkH hHeld 5 (oi := ?_) (v := ?_) ?_ ?_ ?_ ?_ ?_ ?_ ?_ ?_; rotate_left 2; (simp only [gA, gB, gC]; exact rfl); kernel_rfl; kernel_rfl; kernel_rfl; exact fun _ _ _ h => h; rfl; (intro w' hSw; obtain ⟨hs1, hs2⟩ := hSw; have z0 := cell_of (i := 0) hs2 rfl; have z1 := cell_of (i := 1) hs2 rfl; have z2 := cell_of (i := 2) hs2 rfl; have z3 := cell_of (i := 3) hs2 rfl; clear hs1 hs2; go_simp; with_reducible rfl); simp only [Act.put, pB, pC, pD]
    clear hHeld
    have HT : Hid (Below v2.heap.size v2 v2.drew) := Lib.hid (Below.refl _ _).drew
    generalize v2.drew = g0 at *
    refine onH 1 (oi := ?_) (by kernel_rfl) ?_ ?_ (fun K hK => ?_); rotate_left; (simp only [gA, gB, gC]; exact rfl); rfl
    go_wp2_with (fail)
    refine (cellsFault_any s x y a n c R _ ((HRa.out.kept HWx.out).kept HT.out) HLa.out hn).mono ?_
    rintro e g1 ⟨rfl, hb⟩
    rw [HE1.out]
    replace HT := Lib.hid (HT.out.trans (hb.mono HT.out.size))
    clear hb
    go_wp2_with (fail)
    refine hK.out _ _ ⟨heap_keep HT.out HA.out, heap_keep HT.out HB.out⟩ (fun hHeld => ?_)
    clear hK K hHeld
    try simp only [Act.put, pB, pC, pD]
    refine onH 3 (oi := ?_) (by kernel_rfl) ?_ ?_ (fun K hK => ?_); rotate_left; (simp only [gA, gB, gC]; exact rfl); rfl
    go_wp2_with (fail)
    refine (cellsFault_any s' x' y' a' n' c' R' _ ((HRb.out.kept HWx.out).kept HT.out) HLb.out hn').mono ?_
    rintro e g2 ⟨rfl, hb⟩
    rw [HE2.out]
    replace HT := Lib.hid (HT.out.trans (hb.mono HT.out.size))
    clear hb
    go_wp2_with (fail)
    refine hK.out _ _ ⟨heap_keep HT.out HA.out, heap_keep HT.out HB.out⟩ (fun hHeld => ?_)
    clear hK K hHeld
    try simp only [Act.put, pB, pC, pD]
    refine onH 6 (oi := ?_) (by kernel_rfl) ?_ ?_ (fun K hK => ?_); rotate_left; (simp only [gA, gB, gC]; exact rfl); rfl
    go_wp2_with (fail)
    refine (steps_any s x y a n c s' x' y' a' n' c' _).mono ?_
    rintro e g3 ⟨rfl, hb⟩
    rw [HE3.out]
    replace HT := Lib.hid (HT.out.trans (hb.mono HT.out.size))
    clear hb
    go_wp2_with (fail)
    refine hK.out _ _ ⟨heap_keep HT.out HA.out, heap_keep HT.out HB.out⟩ (fun hHeld => ?_)
    clear hK K hHeld
    try simp only [Act.put, pB, pC, pD]
    refine onH 7 (oi := ?_) (by kernel_rfl) ?_ ?_ (fun K hK => ?_); rotate_left; (simp only [gA, gB, gC]; exact rfl); rfl
    go_wp2_with (fail)
    have hb : Below g3.heap.size g3 (g3.alloc (.cells #[.int .i64 E1, .int .i64 E2, .int .i64 E3] 41)) := (Below.refl _ _).alloc (Nat.le_refl _) _
    have harr : (g3.alloc (.cells #[.int .i64 E1, .int .i64 E2, .int .i64 E3] 41)).heap[g3.heap.size]? = some (.cells #[.int .i64 E1, .int .i64 E2, .int .i64 E3] 41 (0, 0)) := heap_new rfl
    have HARR := Lib.hid harr
    replace HT := Lib.hid (HT.out.trans (hb.mono HT.out.size))
    clear hb harr
    generalize g3.alloc (.cells #[.int .i64 E1, .int .i64 E2, .int .i64 E3] 41) = g4 at *
    refine hK.out _ _ ⟨heap_keep HT.out HA.out, heap_keep HT.out HB.out⟩ (fun hHeld => ?_)
    clear hK K hHeld
    try simp only [Act.put, pB, pC, pD]
    refine onH 8 (oi := ?_) (by kernel_rfl) ?_ ?_ (fun K hK => ?_); rotate_left; (simp only [gA, gB, gC]; exact rfl); rfl
    go_wp2_with (fail)
    refine (or3_any _ _ E1 E2 E3 _ (cell_of HARR.out rfl) (cell_of HARR.out rfl) (cell_of HARR.out rfl)).mono ?_
    rintro e g5 ⟨rfl, rfl⟩
    rw [HG.out]
    go_wp2_with (fail)
    refine hK.out _ _ ⟨heap_keep HT.out HA.out, heap_keep HT.out HB.out⟩ (fun hHeld => ?_)
    clear hK K
    try simp only [Act.put, pB, pC, pD]
    refine tkH hHeld 9 (oi := ?_) (v := ?_) ?_ ?_ ?_ ?_ ?_ ?_ ?_ ?_; rotate_left 2; (simp only [gA, gB, gC]; exact rfl); kernel_rfl; kernel_rfl; kernel_rfl; exact fun _ _ _ h => h; rfl; (intro w' hSw; go_simp; with_reducible rfl); simp only [Act.put, pB, pC, pD]
    clear hHeld
    refine wpAnyH_done (by kernel_rfl) ?_ _
    have hA := heap_keep HT.out HA.out
    have hB := heap_keep HT.out HB.out
    have HA5 := Lib.hid hA
    have HB5 := Lib.hid hB
    have HCC5 := Lib.hid (heap_keep HT.out HCC.out)
    have HROW5 := Lib.hid (HROW2.out.kept HT.out)
    have HW5 := Lib.hid (HWx.out.trans (HT.out.mono HWx.out.size))
    clear hA hB HARR HA HB HT HA1 HB1 HROW HROW2 HCC HWx HWy
    go_upto_region 5 with (fail)
    have hbz : Below g5.heap.size g5 (g5.alloc (.cells #[.int .i64 0, .int .i64 0, .int .i64 0, .slice none 0 0] 28)) := (Below.refl _ _).alloc (Nat.le_refl _) _
    have HZZ : Hid ((g5.alloc (.cells #[.int .i64 0, .int .i64 0, .int .i64 0, .slice none 0 0] 28)).heap[g5.heap.size]? = some (.cells #[.int .i64 0, .int .i64 0, .int .i64 0, .slice none 0 0] 28 (0, 0))) := Lib.hid (heap_new rfl)
    have hA6 := heap_keep hbz HA5.out
    have hB6 := heap_keep hbz HB5.out
    have HCC6 := Lib.hid (heap_keep hbz HCC5.out)
    have HROW6 := Lib.hid (HROW5.out.kept hbz)
    have HW6 := Lib.hid (HW5.out.trans (hbz.mono HW5.out.size))
    have hlt6 : g5.heap.size < (g5.alloc (.cells #[.int .i64 0, .int .i64 0, .int .i64 0, .slice none 0 0] 28)).heap.size := by simp
    have HNE1 : Hid (∀ b off, 0 < en → ea = some ⟨b, off, none⟩ → b ≠ g5.heap.size) := Lib.hid (fun b off hp h => by
      rcases HROW5.out with h1 | ⟨b1, o1, e1, e2, _⟩
      · omega
      · rw [h] at e1; cases e1; omega)
    have hcc5 := lt_of_heap HCC5.out
    clear hbz
    change Code.wp _ _ _ _ (g5.alloc (.cells #[.int .i64 0, .int .i64 0, .int .i64 0, .slice none 0 0] 28))
    generalize (g5.alloc (.cells #[.int .i64 0, .int .i64 0, .int .i64 0, .slice none 0 0] 28)) = g6 at *
    have a0 := cell_of (i := 0) hA6 rfl
    have a1 := cell_of (i := 1) hA6 rfl
    have a2 := cell_of (i := 2) hA6 rfl
    have a3 := cell_of (i := 3) hA6 rfl
    have b0 := cell_of (i := 0) hB6 rfl
    have b1 := cell_of (i := 1) hB6 rfl
    have b2 := cell_of (i := 2) hB6 rfl
    have b3 := cell_of (i := 3) hB6 rfl
    clear hA6 hB6
    go_wp2_with (fail)
    refine (combUnion_any s x y a n c R s' x' y' a' n' c' R' _ _ _ _ _ _ _ HV1.out HV2.out (fun p q => (covB (x.tdiv s) (y.tdiv s) n R p q || covB (x'.tdiv s') (y'.tdiv s') n' R' p q)) (fun _ _ => rfl) (HRa.out.kept HW6.out) (HRb.out.kept HW6.out)).mono ?_
    rintro e g7 ⟨fz, fx, fy, fa, fn, fc, fR, fE, rfl, hare, hrow, hfr, hm1, hm2, hm3, hb⟩
    obtain ⟨q1, q2, q3, q4, q5, q6⟩ := HARE.out.same hare
    subst q1 q2 q3 q4 q5
    have hz := heap_keep hb HZZ.out
    have HCC7 := Lib.hid (heap_keep hb HCC6.out)
    have HROW7 := Lib.hid (HROW6.out.kept hb)
    have HROF := Lib.hid hrow
    have HW7 := Lib.hid (HW6.out.trans (hb.mono HW6.out.size))
    have HQ6 := Lib.hid q6
    have hne2 : ∀ b off, fa = some ⟨b, off, none⟩ → b ≠ g5.heap.size := fun b off h => by have := hfr b off h; omega
    have HNE2 := Lib.hid hne2
    have hl3 : g5.heap.size < g7.heap.size := lt_of_heap hz
    have z0 : g7.cell? ⟨g5.heap.size, 0, none⟩ = some (.int .i64 0) := cell_of hz rfl
    have zf0 : g7.frozen? ⟨g5.heap.size, 0, none⟩ = false := frozen_of hz
    have z1 : g7.cell? ⟨g5.heap.size, 1, none⟩ = some (.int .i64 0) := cell_of hz rfl
    have zf1 : g7.frozen? ⟨g5.heap.size, 1, none⟩ = false := frozen_of hz
    have z2 : g7.cell? ⟨g5.heap.size, 2, none⟩ = some (.int .i64 0) := cell_of hz rfl
    have zf2 : g7.frozen? ⟨g5.heap.size, 2, none⟩ = false := frozen_of hz
    have z3 : g7.cell? ⟨g5.heap.size, 3, none⟩ = some (.slice none 0 0) := cell_of hz rfl
    have zf3 : g7.frozen? ⟨g5.heap.size, 3, none⟩ = false := frozen_of hz
    clear hare hrow hfr hm3 hb hz q6 hne2 a0 a1 a2 a3 b0 b1 b2 b3
    go_upto_region 6 with (fail)
    have hst := set4 (w := g7) (R := g5.heap.size) (x0 := .int .i64 ez) (x1 := .int .i64 ex) (x2 := .int .i64 ey) (x3 := .slice fa en fc) (is4 (is_some z0) (is_some z1) (is_some z2) (is_some z3)) rfl
    have HST := Lib.hid hst
    have HCC8 := Lib.hid ((keep4 (w := g7) (R := g5.heap.size) (X := v1.heap.size) (x0 := .int .i64 ez) (x1 := .int .i64 ex) (x2 := .int .i64 ey) (x3 := .slice fa en fc) (by omega)).trans HCC7.out)
    have HRO8 := Lib.hid (row4 (R := g5.heap.size) (x0 := .int .i64 ez) (x1 := .int .i64 ex) (x2 := .int .i64 ey) (x3 := .slice fa en fc) HROW7.out (fun hp b off h => HNE1.out b off hp h))
    have HRF8 := Lib.hid (row4 (R := g5.heap.size) (x0 := .int .i64 ez) (x1 := .int .i64 ex) (x2 := .int .i64 ey) (x3 := .slice fa en fc) HROF.out (fun _ b off h => HNE2.out b off h))
    have HW8 : Hid (Below w.heap.size w ((((g7.setCell ⟨g5.heap.size, 0, none⟩ (.int .i64 ez)).setCell ⟨g5.heap.size, 1, none⟩ (.int .i64 ex)).setCell ⟨g5.heap.size, 2, none⟩ (.int .i64 ey)).setCell ⟨g5.heap.size, 3, none⟩ (.slice fa en fc))) := Lib.hid ((((HW7.out.setCell (by show _ ≤ g5.heap.size; have := HW5.out.size; omega) _).setCell (by show _ ≤ g5.heap.size; have := HW5.out.size; omega) _).setCell (by show _ ≤ g5.heap.size; have := HW5.out.size; omega) _).setCell (by show _ ≤ g5.heap.size; have := HW5.out.size; omega) _)
    clear hst z0 z1 z2 z3 zf0 zf1 zf2 zf3
    change Code.wp _ _ _ _ ((((g7.setCell ⟨g5.heap.size, 0, none⟩ (.int .i64 ez)).setCell ⟨g5.heap.size, 1, none⟩ (.int .i64 ex)).setCell ⟨g5.heap.size, 2, none⟩ (.int .i64 ey)).setCell ⟨g5.heap.size, 3, none⟩ (.slice fa en fc))
    generalize ((((g7.setCell ⟨g5.heap.size, 0, none⟩ (.int .i64 ez)).setCell ⟨g5.heap.size, 1, none⟩ (.int .i64 ex)).setCell ⟨g5.heap.size, 2, none⟩ (.int .i64 ey)).setCell ⟨g5.heap.size, 3, none⟩ (.slice fa en fc)) = g8 at *
    obtain ⟨r0, r1, r2, r3⟩ := HST.out
    have k0 := cell_of (i := 0) HCC8.out rfl
    have k1 := cell_of (i := 1) HCC8.out rfl
    have k2 := cell_of (i := 2) HCC8.out rfl
    have k3 := cell_of (i := 3) HCC8.out rfl
    go_wp2_with (fail)
    refine (sameCells_any ez ex ey ea fa en ec fc eR fR _ HRO8.out HRF8.out HQ6.out (CellsAre.small HARE.out)).mono ?_
    rintro e g9 ⟨rfl, hb9⟩
    have HW9 := Lib.hid (HW8.out.trans (hb9.mono HW8.out.size))
    clear hb9
    go_wp2_with (fail)
    go_ret
    exact ⟨rfl, HW9.out⟩
  · have hG1 : (G == 0) = false := by simpa using hG0
    refine (errUnion_any s x y a n c R s' x' y' a' n' c' R' _ (HRa.out.kept HW.out) (HRb.out.kept HW.out) HLa.out hn HLb.out hn' (by rw [HC.out]; exact hG0)).mono ?_
    rw [HC.out]
    rintro e v1 ⟨rfl, hb⟩
    have HWy := Lib.hid (HW.out.trans (hb.mono HW.out.size))
    have HA1 := Lib.hid (heap_keep hb HA0.out)
    have HB1 := Lib.hid (heap_keep hb HB0.out)
    clear hb
    go_wp2_with (fail)
    have hba : Below v1.heap.size v1 (v1.alloc (.cells #[.int .i64 0, .int .i64 0, .int .i64 0, .slice none 0 0] 28)) := (Below.refl _ _).alloc (Nat.le_refl _) _
    have HCC : Hid ((v1.alloc (.cells #[.int .i64 0, .int .i64 0, .int .i64 0, .slice none 0 0] 28)).heap[v1.heap.size]? = some (.cells #[.int .i64 0, .int .i64 0, .int .i64 0, .slice none 0 0] 28 (0, 0))) := Lib.hid (heap_new rfl)
    have HA := Lib.hid (heap_keep hba HA1.out)
    have HB := Lib.hid (heap_keep hba HB1.out)
    have HWx := Lib.hid (HWy.out.trans (hba.mono HWy.out.size))
    clear hba
    generalize v1.alloc (.cells #[.int .i64 0, .int .i64 0, .int .i64 0, .slice none 0 0] 28) = v2 at *
    refine wp_region_held_drew (S := (fun w' : World => w'.heap[w.heap.size]? = some (.cells #[.int .i64 s, .int .i64 x, .int .i64 y, .slice a n c] 28 (0, 0)) ∧ w'.heap[w.heap.size + 1]? = some (.cells #[.int .i64 s', .int .i64 x', .int .i64 y', .slice a' n' c'] 28 (0, 0)))) (by kernel_rfl) ⟨HA.out, HB.out⟩ (fun hHeld => ?_)
    refine tkH hHeld 0 (oi := ?_) (v := ?_) ?_ ?_ ?_ ?_ ?_ ?_ ?_ ?_; rotate_left 2; (simp only [gA, gB, gC]; exact rfl); kernel_rfl; kernel_rfl; kernel_rfl; exact fun _ _ _ h => h; rfl; (intro w' hSw; obtain ⟨hs1, hs2⟩ := hSw; have z0 := cell_of (i := 0) hs1 rfl; have z1 := cell_of (i := 1) hs1 rfl; have z2 := cell_of (i := 2) hs1 rfl; have z3 := cell_of (i := 3) hs1 rfl; clear hs1 hs2; go_simp; with_reducible rfl); simp only [Act.put, pB, pC, pD]
    refine tkH hHeld 2 (oi := ?_) (v := ?_) ?_ ?_ ?_ ?_ ?_ ?_ ?_ ?_; rotate_left 2; (simp only [gA, gB, gC]; exact rfl); kernel_rfl; kernel_rfl; kernel_rfl; exact fun _ _ _ h => h; rfl; (intro w' hSw; obtain ⟨hs1, hs2⟩ := hSw; have z0 := cell_of (i := 0) hs2 rfl; have z1 := cell_of (i := 1) hs2 rfl; have z2 := cell_of (i := 2) hs2 rfl; have z3 := cell_of (i := 3) hs2 rfl; clear hs1 hs2; go_simp; with_reducible rfl); simp only [Act.put, pB, pC, pD]
    refine tkH hHeld 4 (oi := ?_) (v := ?_) ?_ ?_ ?_ ?_ ?_ ?_ ?_ ?_; rotate_left 2; (simp only [gA, gB, gC]; exact rfl); kernel_rfl; kernel_rfl; kernel_rfl; exact fun _ _ _ h => h; rfl; (intro w' hSw; obtain ⟨hs1, hs2⟩ := hSw; have z0 := cell_of (i := 0) hs1 rfl; have z1 := cell_of (i := 1) hs1 rfl; have z2 := cell_of (i := 2) hs1 rfl; have z3 := cell_of (i := 3) hs1 rfl; clear hs1 hs2; go_simp; with_reducible rfl); simp only [Act.put, pB, pC, pD]
    refine tkH hHeld 5 (oi := ?_) (v := ?_) ?_ ?_ ?_ ?_ ?_ ?_ ?_ ?_; rotate_left 2; (simp only [gA, gB, gC]; exact rfl); kernel_rfl; kernel_rfl; kernel_rfl; exact fun _ _ _ h => h; rfl; (intro w' hSw; obtain ⟨hs1, hs2⟩ := hSw; have z0 := cell_of (i := 0) hs2 rfl; have z1 := cell_of (i := 1) hs2 rfl; have z2 := cell_of (i := 2) hs2 rfl; have z3 := cell_of (i := 3) hs2 rfl; clear hs1 hs2; go_simp; with_reducible rfl); simp only [Act.put, pB, pC, pD]
    clear hHeld
    have HT : Hid (Below v2.heap.size v2 v2.drew) := Lib.hid (Below.refl _ _).drew
    generalize v2.drew = g0 at *
    refine onH 1 (oi := ?_) (by kernel_rfl) ?_ ?_ (fun K hK => ?_); rotate_left; (simp only [gA, gB, gC]; exact rfl); rfl
    go_wp2_with (fail)
    refine (cellsFault_any s x y a n c R _ ((HRa.out.kept HWx.out).kept HT.out) HLa.out hn).mono ?_
    rintro e g1 ⟨rfl, hb⟩
    rw [HE1.out]
    replace HT := Lib.hid (HT.out.trans (hb.mono HT.out.size))
    clear hb
    go_wp2_with (fail)
    refine hK.out _ _ ⟨heap_keep HT.out HA.out, heap_keep HT.out HB.out⟩ (fun hHeld => ?_)
    clear hK K hHeld
    try simp only [Act.put, pB, pC, pD]
    refine onH 3 (oi := ?_) (by kernel_rfl) ?_ ?_ (fun K hK => ?_); rotate_left; (simp only [gA, gB, gC]; exact rfl); rfl
    go_wp2_with (fail)
    refine (cellsFault_any s' x' y' a' n' c' R' _ ((HRb.out.kept HWx.out).kept HT.out) HLb.out hn').mono ?_
    rintro e g2 ⟨rfl, hb⟩
    rw [HE2.out]
    replace HT := Lib.hid (HT.out.trans (hb.mono HT.out.size))
    clear hb
    go_wp2_with (fail)
    refine hK.out _ _ ⟨heap_keep HT.out HA.out, heap_keep HT.out HB.out⟩ (fun hHeld => ?_)
    clear hK K hHeld
    try simp only [Act.put, pB, pC, pD]
    refine onH 6 (oi := ?_) (by kernel_rfl) ?_ ?_ (fun K hK => ?_); rotate_left; (simp only [gA, gB, gC]; exact rfl); rfl
    go_wp2_with (fail)
    refine (steps_any s x y a n c s' x' y' a' n' c' _).mono ?_
    rintro e g3 ⟨rfl, hb⟩
    rw [HE3.out]
    replace HT := Lib.hid (HT.out.trans (hb.mono HT.out.size))
    clear hb
    go_wp2_with (fail)
    refine hK.out _ _ ⟨heap_keep HT.out HA.out, heap_keep HT.out HB.out⟩ (fun hHeld => ?_)
    clear hK K hHeld
    try simp only [Act.put, pB, pC, pD]
    refine onH 7 (oi := ?_) (by kernel_rfl) ?_ ?_ (fun K hK => ?_); rotate_left; (simp only [gA, gB, gC]; exact rfl); rfl
    go_wp2_with (fail)
    have hb : Below g3.heap.size g3 (g3.alloc (.cells #[.int .i64 E1, .int .i64 E2, .int .i64 E3] 41)) := (Below.refl _ _).alloc (Nat.le_refl _) _
    have harr : (g3.alloc (.cells #[.int .i64 E1, .int .i64 E2, .int .i64 E3] 41)).heap[g3.heap.size]? = some (.cells #[.int .i64 E1, .int .i64 E2, .int .i64 E3] 41 (0, 0)) := heap_new rfl
    have HARR := Lib.hid harr
    replace HT := Lib.hid (HT.out.trans (hb.mono HT.out.size))
    clear hb harr
    generalize g3.alloc (.cells #[.int .i64 E1, .int .i64 E2, .int .i64 E3] 41) = g4 at *
    refine hK.out _ _ ⟨heap_keep HT.out HA.out, heap_keep HT.out HB.out⟩ (fun hHeld => ?_)
    clear hK K hHeld
    try simp only [Act.put, pB, pC, pD]
    refine onH 8 (oi := ?_) (by kernel_rfl) ?_ ?_ (fun K hK => ?_); rotate_left; (simp only [gA, gB, gC]; exact rfl); rfl
    go_wp2_with (fail)
    refine (or3_any _ _ E1 E2 E3 _ (cell_of HARR.out rfl) (cell_of HARR.out rfl) (cell_of HARR.out rfl)).mono ?_
    rintro e g5 ⟨rfl, rfl⟩
    rw [HG.out]
    go_wp2_with (fail)
    refine hK.out _ _ ⟨heap_keep HT.out HA.out, heap_keep HT.out HB.out⟩ (fun hHeld => ?_)
    clear hK K
    try simp only [Act.put, pB, pC, pD]
    refine tkH hHeld 9 (oi := ?_) (v := ?_) ?_ ?_ ?_ ?_ ?_ ?_ ?_ ?_; rotate_left 2; (simp only [gA, gB, gC]; exact rfl); kernel_rfl; kernel_rfl; kernel_rfl; exact fun _ _ _ h => h; rfl; (intro w' hSw; go_simp; with_reducible rfl); simp only [Act.put, pB, pC, pD]
    clear hHeld
    refine wpAnyH_done (by kernel_rfl) ?_ _
    have HCC5 := Lib.hid (heap_keep HT.out HCC.out)
    have HW5 := Lib.hid (HWx.out.trans (HT.out.mono HWx.out.size))
    clear HARR HA HB HT HA1 HB1 HCC HWx HWy
    go_upto_region 6 with (fail)
    have hbz : Below g5.heap.size g5 (g5.alloc (.cells #[.int .i64 0, .int .i64 0, .int .i64 0, .slice none 0 0] 28)) := (Below.refl _ _).alloc (Nat.le_refl _) _
    have HZZ : Hid ((g5.alloc (.cells #[.int .i64 0, .int .i64 0, .int .i64 0, .slice none 0 0] 28)).heap[g5.heap.size]? = some (.cells #[.int .i64 0, .int .i64 0, .int .i64 0, .slice none 0 0] 28 (0, 0))) := Lib.hid (heap_new rfl)
    have HCC6 := Lib.hid (heap_keep hbz HCC5.out)
    have HW6 := Lib.hid (HW5.out.trans (hbz.mono HW5.out.size))
    clear hbz
    change Code.wp _ _ _ _ (g5.alloc (.cells #[.int .i64 0, .int .i64 0, .int .i64 0, .slice none 0 0] 28))
    generalize (g5.alloc (.cells #[.int .i64 0, .int .i64 0, .int .i64 0, .slice none 0 0] 28)) = g6 at *
    have r0 := cell_of (i := 0) HZZ.out rfl
    have r1 := cell_of (i := 1) HZZ.out rfl
    have r2 := cell_of (i := 2) HZZ.out rfl
    have r3 := cell_of (i := 3) HZZ.out rfl
    have k0 := cell_of (i := 0) HCC6.out rfl
    have k1 := cell_of (i := 1) HCC6.out rfl
    have k2 := cell_of (i := 2) HCC6.out rfl
    have k3 := cell_of (i := 3) HCC6.out rfl
    go_wp2_with (fail)
    refine (sameCells_any 0 0 0 none none 0 0 0 (fun _ => []) (fun _ => []) _ (.inl rfl) (.inl rfl) (fun _ _ => rfl) (by omega)).mono ?_
    rintro e g9 ⟨rfl, hb9⟩
    have HW9 := Lib.hid (HW6.out.trans (hb9.mono HW6.out.size))
    clear hb9
    go_wp2_with (fail)
    go_ret
    exact ⟨rfl, HW9.out⟩
set_option maxRecDepth 100000 in
set_option maxHeartbeats 16000000 in
theorem lawBoth_any (s x y : Int) (a : Option Addr) (n c : Nat) (R : Nat → List UInt8) (s' x' y' : Int) (a' : Option Addr) (n' c' : Nat) (R' : Nat → List UInt8) (w : World) (hr : RowS w a n R) (hr' : RowS w a' n' R') (hl : ∀ i, i < n → (R i).length ≤ 1000000) (hn : n ≤ 1000000) (hl' : ∀ i, i < n' → (R' i).length ≤ 1000000) (hn' : n' ≤ 1000000) :
    Calls Tryz.prog 7 #[.func (.func 10) #[] #[], .agg #[.int .i64 s, .int .i64 x, .int .i64 y, .slice a n c], .agg #[.int .i64 s', .int .i64 x', .int .i64 y', .slice a' n' c'], .func (.func 11) #[] #[]] w fun e w' => e = .returned (.bool true) ∧ Below w.heap.size w w' := by
  obtain ⟨E1, hE1⟩ : ∃ E, cellsE s x y n R = E := ⟨_, rfl⟩
  obtain ⟨E2, hE2⟩ : ∃ E, cellsE s' x' y' n' R' = E := ⟨_, rfl⟩
  obtain ⟨E3, hE3⟩ : ∃ E : Int, (if s ≠ s' then 3 else 0) = E := ⟨_, rfl⟩
  obtain ⟨G, hG⟩ : ∃ G, combE s x y n R s' x' y' n' R' = G := ⟨_, rfl⟩
  have hG2 : or3E E1 E2 E3 = G := by rw [← hG, ← hE1, ← hE2, ← hE3]; rfl
  have HE1 := Lib.hid hE1
  have HE2 := Lib.hid hE2
  have HE3 := Lib.hid hE3
  have HG := Lib.hid hG2
  have HC := Lib.hid hG
  have HRa := Lib.hid hr
  have HRb := Lib.hid hr'
  have HLa := Lib.hid hl
  have HLb := Lib.hid hl'
  have HV : Hid (G = 0 → cellsE s x y n R = 0 ∧ cellsE s' x' y' n' R' = 0) := Lib.hid (fun h => by
    rw [← hG] at h
    unfold combE at h
    by_cases e1 : cellsE s x y n R = 0
    · rw [if_neg (by simp [e1])] at h
      by_cases e2 : cellsE s' x' y' n' R' = 0
      · exact ⟨e1, e2⟩
      · rw [if_pos e2] at h; exact absurd h e2
    · rw [if_pos e1] at h; exact absurd h e1)
  clear hr hr' hl hl' hE1 hE2 hE3 hG hG2
  go_enter Tryz.func7, Tryz.ntmps7
  go_wp2_with (fail)
  have HW : Hid (Below w.heap.size w ((w.alloc (.cells #[.int .i64 s, .int .i64 x, .int .i64 y, .slice a n c] 28)).alloc (.cells #[.int .i64 s', .int .i64 x', .int .i64 y', .slice a' n' c'] 28))) := Lib.hid (by repeat (first | exact Below.refl _ _ | assumption | refine Below.drew ?_ | refine bdrewN ?_ _ | refine Below.setCell ?_ (by first | omega | (simp <;> omega)) _ | refine Below.alloc ?_ (by first | omega | (simp <;> omega)) _))
  have HA0 : Hid (((w.alloc (.cells #[.int .i64 s, .int .i64 x, .int .i64 y, .slice a n c] 28)).alloc (.cells #[.int .i64 s', .int .i64 x', .int .i64 y', .slice a' n' c'] 28)).heap[w.heap.size]? = some (.cells #[.int .i64 s, .int .i64 x, .int .i64 y, .slice a n c] 28 (0, 0))) := Lib.hid (by repeat (first | (refine heap_new ?_; first | rfl | (simp; done)) | rw [Below.heap_alloc _ _ _ (by simp <;> omega)]))
  have HB0 : Hid (((w.alloc (.cells #[.int .i64 s, .int .i64 x, .int .i64 y, .slice a n c] 28)).alloc (.cells #[.int .i64 s', .int .i64 x', .int .i64 y', .slice a' n' c'] 28)).heap[w.heap.size + 1]? = some (.cells #[.int .i64 s', .int .i64 x', .int .i64 y', .slice a' n' c'] 28 (0, 0))) := Lib.hid (by repeat (first | (refine heap_new ?_; first | rfl | (simp; done)) | rw [Below.heap_alloc _ _ _ (by simp <;> omega)]))
  generalize ((w.alloc (.cells #[.int .i64 s, .int .i64 x, .int .i64 y, .slice a n c] 28)).alloc (.cells #[.int .i64 s', .int .i64 x', .int .i64 y', .slice a' n' c'] 28)) = v0 at *
  by_cases hG0 : G = 0
  · have HV1 := Lib.hid (VC.of (HV.out hG0).1)
    have HV2 := Lib.hid (VC.of (HV.out hG0).2)
    subst hG0
    refine (twoBoth_any s x y a n c R s' x' y' a' n' c' R' _ _ _ _ _ _ _ HV1.out HV2.out (fun p q => (covB (x.tdiv s) (y.tdiv s) n R p q && covB (x'.tdiv s') (y'.tdiv s') n' R' p q)) (fun _ _ => rfl) (fun p q h => by rw [Bool.and_eq_true] at h; exact h.1) (HRa.out.kept HW.out) (HRb.out.kept HW.out) HLa.out hn HLb.out hn' HC.out).mono ?_
    rintro e v1 ⟨ez, ex, ey, ea, en, ec, eR, eE, rfl, hare, hrow, hfr, hn1, hn2, hn3, hb⟩
    have HARE := Lib.hid hare
    have HROW := Lib.hid hrow
    have HWy := Lib.hid (HW.out.trans (hb.mono HW.out.size))
    have HA1 := Lib.hid (heap_keep hb HA0.out)
    have HB1 := Lib.hid (heap_keep hb HB0.out)
    have HN3 := Lib.hid hn3
    clear hare hrow hfr hn3 hb
    go_wp2_with (fail)
    have hba : Below v1.heap.size v1 (v1.alloc (.cells #[.int .i64 ez, .int .i64 ex, .int .i64 ey, .slice ea en ec] 28)) := (Below.refl _ _).alloc (Nat.le_refl _) _
    have HCC : Hid ((v1.alloc (.cells #[.int .i64 ez, .int .i64 ex, .int .i64 ey, .slice ea en ec] 28)).heap[v1.heap.size]? = some (.cells #[.int .i64 ez, .int .i64 ex, .int .i64 ey, .slice ea en ec] 28 (0, 0))) := Lib.hid (heap_new rfl)
    have HA := Lib.hid (heap_keep hba HA1.out)
    have HB := Lib.hid (heap_keep hba HB1.out)
    have HROW2 := Lib.hid (HROW.out.kept hba)
    have HWx := Lib.hid (HWy.out.trans (hba.mono HWy.out.size))
    clear hba
    generalize v1.alloc (.cells #[.int .i64 ez, .int .i64 ex, .int .i64 ey, .slice ea en ec] 28) = v2 at *
    refine wp_region_held_drew (S := (fun w' : World => w'.heap[w.heap.size]? = some (.cells #[.int .i64 s, .int .i64 x, .int .i64 y, .slice a n c] 28 (0, 0)) ∧ w'.heap[w.heap.size + 1]? = some (.cells #[.int .i64 s', .int .i64 x', .int .i64 y', .slice a' n' c'] 28 (0, 0)))) (by kernel_rfl) ⟨HA.out, HB.out⟩ (fun hHeld => ?_)
    refine tkH hHeld 0 (oi := ?_) (v := ?_) ?_ ?_ ?_ ?_ ?_ ?_ ?_ ?_; rotate_left 2; (simp only [gA, gB, gC]; exact rfl); kernel_rfl; kernel_rfl; kernel_rfl; exact fun _ _ _ h => h; rfl; (intro w' hSw; obtain ⟨hs1, hs2⟩ := hSw; have z0 := cell_of (i := 0) hs1 rfl; have z1 := cell_of (i := 1) hs1 rfl; have z2 := cell_of (i := 2) hs1 rfl; have z3 := cell_of (i := 3) hs1 rfl; clear hs1 hs2; go_simp; with_reducible rfl); simp only [Act.put, pB, pC, pD]
    refine tkH hHeld 2 (oi := ?_) (v := ?_) ?_ ?_ ?_ ?_ ?_ ?_ ?_ ?_; rotate_left 2; (simp only [gA, gB, gC]; exact rfl); kernel_rfl; kernel_rfl; kernel_rfl; exact fun _ _ _ h => h; rfl; (intro w' hSw; obtain ⟨hs1, hs2⟩ := hSw; have z0 := cell_of (i := 0) hs2 rfl; have z1 := cell_of (i := 1) hs2 rfl; have z2 := cell_of (i := 2) hs2 rfl; have z3 := cell_of (i := 3) hs2 rfl; clear hs1 hs2; go_simp; with_reducible rfl); simp only [Act.put, pB, pC, pD]
    refine tkH hHeld 4 (oi := ?_) (v := ?_) ?_ ?_ ?_ ?_ ?_ ?_ ?_ ?_; rotate_left 2; (simp only [gA, gB, gC]; exact rfl); kernel_rfl; kernel_rfl; kernel_rfl; exact fun _ _ _ h => h; rfl; (intro w' hSw; obtain ⟨hs1, hs2⟩ := hSw; have z0 := cell_of (i := 0) hs1 rfl; have z1 := cell_of (i := 1) hs1 rfl; have z2 := cell_of (i := 2) hs1 rfl; have z3 := cell_of (i := 3) hs1 rfl; clear hs1 hs2; go_simp; with_reducible rfl); simp only [Act.put, pB, pC, pD]
    refine tkH hHeld 5 (oi := ?_) (v := ?_) ?_ ?_ ?_ ?_ ?_ ?_ ?_ ?_; rotate_left 2; (simp only [gA, gB, gC]; exact rfl); kernel_rfl; kernel_rfl; kernel_rfl; exact fun _ _ _ h => h; rfl; (intro w' hSw; obtain ⟨hs1, hs2⟩ := hSw; have z0 := cell_of (i := 0) hs2 rfl; have z1 := cell_of (i := 1) hs2 rfl; have z2 := cell_of (i := 2) hs2 rfl; have z3 := cell_of (i := 3) hs2 rfl; clear hs1 hs2; go_simp; with_reducible rfl); simp only [Act.put, pB, pC, pD]
    clear hHeld
    have HT : Hid (Below v2.heap.size v2 v2.drew) := Lib.hid (Below.refl _ _).drew
    generalize v2.drew = g0 at *
    refine onH 1 (oi := ?_) (by kernel_rfl) ?_ ?_ (fun K hK => ?_); rotate_left; (simp only [gA, gB, gC]; exact rfl); rfl
    go_wp2_with (fail)
    refine (cellsFault_any s x y a n c R _ ((HRa.out.kept HWx.out).kept HT.out) HLa.out hn).mono ?_
    rintro e g1 ⟨rfl, hb⟩
    rw [HE1.out]
    replace HT := Lib.hid (HT.out.trans (hb.mono HT.out.size))
    clear hb
    go_wp2_with (fail)
    refine hK.out _ _ ⟨heap_keep HT.out HA.out, heap_keep HT.out HB.out⟩ (fun hHeld => ?_)
    clear hK K hHeld
    try simp only [Act.put, pB, pC, pD]
    refine onH 3 (oi := ?_) (by kernel_rfl) ?_ ?_ (fun K hK => ?_); rotate_left; (simp only [gA, gB, gC]; exact rfl); rfl
    go_wp2_with (fail)
    refine (cellsFault_any s' x' y' a' n' c' R' _ ((HRb.out.kept HWx.out).kept HT.out) HLb.out hn').mono ?_
    rintro e g2 ⟨rfl, hb⟩
    rw [HE2.out]
    replace HT := Lib.hid (HT.out.trans (hb.mono HT.out.size))
    clear hb
    go_wp2_with (fail)
    refine hK.out _ _ ⟨heap_keep HT.out HA.out, heap_keep HT.out HB.out⟩ (fun hHeld => ?_)
    clear hK K hHeld
    try simp only [Act.put, pB, pC, pD]
    refine onH 6 (oi := ?_) (by kernel_rfl) ?_ ?_ (fun K hK => ?_); rotate_left; (simp only [gA, gB, gC]; exact rfl); rfl
    go_wp2_with (fail)
    refine (steps_any s x y a n c s' x' y' a' n' c' _).mono ?_
    rintro e g3 ⟨rfl, hb⟩
    rw [HE3.out]
    replace HT := Lib.hid (HT.out.trans (hb.mono HT.out.size))
    clear hb
    go_wp2_with (fail)
    refine hK.out _ _ ⟨heap_keep HT.out HA.out, heap_keep HT.out HB.out⟩ (fun hHeld => ?_)
    clear hK K hHeld
    try simp only [Act.put, pB, pC, pD]
    refine onH 7 (oi := ?_) (by kernel_rfl) ?_ ?_ (fun K hK => ?_); rotate_left; (simp only [gA, gB, gC]; exact rfl); rfl
    go_wp2_with (fail)
    have hb : Below g3.heap.size g3 (g3.alloc (.cells #[.int .i64 E1, .int .i64 E2, .int .i64 E3] 41)) := (Below.refl _ _).alloc (Nat.le_refl _) _
    have harr : (g3.alloc (.cells #[.int .i64 E1, .int .i64 E2, .int .i64 E3] 41)).heap[g3.heap.size]? = some (.cells #[.int .i64 E1, .int .i64 E2, .int .i64 E3] 41 (0, 0)) := heap_new rfl
    have HARR := Lib.hid harr
    replace HT := Lib.hid (HT.out.trans (hb.mono HT.out.size))
    clear hb harr
    generalize g3.alloc (.cells #[.int .i64 E1, .int .i64 E2, .int .i64 E3] 41) = g4 at *
    refine hK.out _ _ ⟨heap_keep HT.out HA.out, heap_keep HT.out HB.out⟩ (fun hHeld => ?_)
    clear hK K hHeld
    try simp only [Act.put, pB, pC, pD]
    refine onH 8 (oi := ?_) (by kernel_rfl) ?_ ?_ (fun K hK => ?_); rotate_left; (simp only [gA, gB, gC]; exact rfl); rfl
    go_wp2_with (fail)
    refine (or3_any _ _ E1 E2 E3 _ (cell_of HARR.out rfl) (cell_of HARR.out rfl) (cell_of HARR.out rfl)).mono ?_
    rintro e g5 ⟨rfl, rfl⟩
    rw [HG.out]
    go_wp2_with (fail)
    refine hK.out _ _ ⟨heap_keep HT.out HA.out, heap_keep HT.out HB.out⟩ (fun hHeld => ?_)
    clear hK K
    try simp only [Act.put, pB, pC, pD]
    refine tkH hHeld 9 (oi := ?_) (v := ?_) ?_ ?_ ?_ ?_ ?_ ?_ ?_ ?_; rotate_left 2; (simp only [gA, gB, gC]; exact rfl); kernel_rfl; kernel_rfl; kernel_rfl; exact fun _ _ _ h => h; rfl; (intro w' hSw; go_simp; with_reducible rfl); simp only [Act.put, pB, pC, pD]
    clear hHeld
    refine wpAnyH_done (by kernel_rfl) ?_ _
    have hA := heap_keep HT.out HA.out
    have hB := heap_keep HT.out HB.out
    have HA5 := Lib.hid hA
    have HB5 := Lib.hid hB
    have HCC5 := Lib.hid (heap_keep HT.out HCC.out)
    have HROW5 := Lib.hid (HROW2.out.kept HT.out)
    have HW5 := Lib.hid (HWx.out.trans (HT.out.mono HWx.out.size))
    clear hA hB HARR HA HB HT HA1 HB1 HROW HROW2 HCC HWx HWy
    go_upto_region 5 with (fail)
    have hbz : Below g5.heap.size g5 (g5.alloc (.cells #[.int .i64 0, .int .i64 0, .int .i64 0, .slice none 0 0] 28)) := (Below.refl _ _).alloc (Nat.le_refl _) _
    have HZZ : Hid ((g5.alloc (.cells #[.int .i64 0, .int .i64 0, .int .i64 0, .slice none 0 0] 28)).heap[g5.heap.size]? = some (.cells #[.int .i64 0, .int .i64 0, .int .i64 0, .slice none 0 0] 28 (0, 0))) := Lib.hid (heap_new rfl)
    have hA6 := heap_keep hbz HA5.out
    have hB6 := heap_keep hbz HB5.out
    have HCC6 := Lib.hid (heap_keep hbz HCC5.out)
    have HROW6 := Lib.hid (HROW5.out.kept hbz)
    have HW6 := Lib.hid (HW5.out.trans (hbz.mono HW5.out.size))
    have hlt6 : g5.heap.size < (g5.alloc (.cells #[.int .i64 0, .int .i64 0, .int .i64 0, .slice none 0 0] 28)).heap.size := by simp
    have HNE1 : Hid (∀ b off, 0 < en → ea = some ⟨b, off, none⟩ → b ≠ g5.heap.size) := Lib.hid (fun b off hp h => by
      rcases HROW5.out with h1 | ⟨b1, o1, e1, e2, _⟩
      · omega
      · rw [h] at e1; cases e1; omega)
    have hcc5 := lt_of_heap HCC5.out
    clear hbz
    change Code.wp _ _ _ _ (g5.alloc (.cells #[.int .i64 0, .int .i64 0, .int .i64 0, .slice none 0 0] 28))
    generalize (g5.alloc (.cells #[.int .i64 0, .int .i64 0, .int .i64 0, .slice none 0 0] 28)) = g6 at *
    have a0 := cell_of (i := 0) hA6 rfl
    have a1 := cell_of (i := 1) hA6 rfl
    have a2 := cell_of (i := 2) hA6 rfl
    have a3 := cell_of (i := 3) hA6 rfl
    have b0 := cell_of (i := 0) hB6 rfl
    have b1 := cell_of (i := 1) hB6 rfl
    have b2 := cell_of (i := 2) hB6 rfl
    have b3 := cell_of (i := 3) hB6 rfl
    clear hA6 hB6
    go_wp2_with (fail)
    refine (combBoth_any s x y a n c R s' x' y' a' n' c' R' _ _ _ _ _ _ _ HV1.out HV2.out (fun p q => (covB (x.tdiv s) (y.tdiv s) n R p q && covB (x'.tdiv s') (y'.tdiv s') n' R' p q)) (fun _ _ => rfl) (HRa.out.kept HW6.out) (HRb.out.kept HW6.out)).mono ?_
    rintro e g7 ⟨fz, fx, fy, fa, fn, fc, fR, fE, rfl, hare, hrow, hfr, hm1, hm2, hm3, hb⟩
    obtain ⟨q1, q2, q3, q4, q5, q6⟩ := HARE.out.same hare
    subst q1 q2 q3 q4 q5
    have hz := heap_keep hb HZZ.out
    have HCC7 := Lib.hid (heap_keep hb HCC6.out)
    have HROW7 := Lib.hid (HROW6.out.kept hb)
    have HROF := Lib.hid hrow
    have HW7 := Lib.hid (HW6.out.trans (hb.mono HW6.out.size))
    have HQ6 := Lib.hid q6
    have hne2 : ∀ b off, fa = some ⟨b, off, none⟩ → b ≠ g5.heap.size := fun b off h => by have := hfr b off h; omega
    have HNE2 := Lib.hid hne2
    have hl3 : g5.heap.size < g7.heap.size := lt_of_heap hz
    have z0 : g7.cell? ⟨g5.heap.size, 0, none⟩ = some (.int .i64 0) := cell_of hz rfl
    have zf0 : g7.frozen? ⟨g5.heap.size, 0, none⟩ = false := frozen_of hz
    have z1 : g7.cell? ⟨g5.heap.size, 1, none⟩ = some (.int .i64 0) := cell_of hz rfl
    have zf1 : g7.frozen? ⟨g5.heap.size, 1, none⟩ = false := frozen_of hz
    have z2 : g7.cell? ⟨g5.heap.size, 2, none⟩ = some (.int .i64 0) := cell_of hz rfl
    have zf2 : g7.frozen? ⟨g5.heap.size, 2, none⟩ = false := frozen_of hz
    have z3 : g7.cell? ⟨g5.heap.size, 3, none⟩ = some (.slice none 0 0) := cell_of hz rfl
    have zf3 : g7.frozen? ⟨g5.heap.size, 3, none⟩ = false := frozen_of hz
    clear hare hrow hfr hm3 hb hz q6 hne2 a0 a1 a2 a3 b0 b1 b2 b3
    go_upto_region 6 with (fail)
    have hst := set4 (w := g7) (R := g5.heap.size) (x0 := .int .i64 ez) (x1 := .int .i64 ex) (x2 := .int .i64 ey) (x3 := .slice fa en fc) (is4 (is_some z0) (is_some z1) (is_some z2) (is_some z3)) rfl
    have HST := Lib.hid hst
    have HCC8 := Lib.hid ((keep4 (w := g7) (R := g5.heap.size) (X := v1.heap.size) (x0 := .int .i64 ez) (x1 := .int .i64 ex) (x2 := .int .i64 ey) (x3 := .slice fa en fc) (by omega)).trans HCC7.out)
    have HRO8 := Lib.hid (row4 (R := g5.heap.size) (x0 := .int .i64 ez) (x1 := .int .i64 ex) (x2 := .int .i64 ey) (x3 := .slice fa en fc) HROW7.out (fun hp b off h => HNE1.out b off hp h))
    have HRF8 := Lib.hid (row4 (R := g5.heap.size) (x0 := .int .i64 ez) (x1 := .int .i64 ex) (x2 := .int .i64 ey) (x3 := .slice fa en fc) HROF.out (fun _ b off h => HNE2.out b off h))
    have HW8 : Hid (Below w.heap.size w ((((g7.setCell ⟨g5.heap.size, 0, none⟩ (.int .i64 ez)).setCell ⟨g5.heap.size, 1, none⟩ (.int .i64 ex)).setCell ⟨g5.heap.size, 2, none⟩ (.int .i64 ey)).setCell ⟨g5.heap.size, 3, none⟩ (.slice fa en fc))) := Lib.hid ((((HW7.out.setCell (by show _ ≤ g5.heap.size; have := HW5.out.size; omega) _).setCell (by show _ ≤ g5.heap.size; have := HW5.out.size; omega) _).setCell (by show _ ≤ g5.heap.size; have := HW5.out.size; omega) _).setCell (by show _ ≤ g5.heap.size; have := HW5.out.size; omega) _)
    clear hst z0 z1 z2 z3 zf0 zf1 zf2 zf3
    change Code.wp _ _ _ _ ((((g7.setCell ⟨g5.heap.size, 0, none⟩ (.int .i64 ez)).setCell ⟨g5.heap.size, 1, none⟩ (.int .i64 ex)).setCell ⟨g5.heap.size, 2, none⟩ (.int .i64 ey)).setCell ⟨g5.heap.size, 3, none⟩ (.slice fa en fc))
    generalize ((((g7.setCell ⟨g5.heap.size, 0, none⟩ (.int .i64 ez)).setCell ⟨g5.heap.size, 1, none⟩ (.int .i64 ex)).setCell ⟨g5.heap.size, 2, none⟩ (.int .i64 ey)).setCell ⟨g5.heap.size, 3, none⟩ (.slice fa en fc)) = g8 at *
    obtain ⟨r0, r1, r2, r3⟩ := HST.out
    have k0 := cell_of (i := 0) HCC8.out rfl
    have k1 := cell_of (i := 1) HCC8.out rfl
    have k2 := cell_of (i := 2) HCC8.out rfl
    have k3 := cell_of (i := 3) HCC8.out rfl
    go_wp2_with (fail)
    refine (sameCells_any ez ex ey ea fa en ec fc eR fR _ HRO8.out HRF8.out HQ6.out (CellsAre.small HARE.out)).mono ?_
    rintro e g9 ⟨rfl, hb9⟩
    have HW9 := Lib.hid (HW8.out.trans (hb9.mono HW8.out.size))
    clear hb9
    go_wp2_with (fail)
    go_ret
    exact ⟨rfl, HW9.out⟩
  · have hG1 : (G == 0) = false := by simpa using hG0
    refine (errBoth_any s x y a n c R s' x' y' a' n' c' R' _ (HRa.out.kept HW.out) (HRb.out.kept HW.out) HLa.out hn HLb.out hn' (by rw [HC.out]; exact hG0)).mono ?_
    rw [HC.out]
    rintro e v1 ⟨rfl, hb⟩
    have HWy := Lib.hid (HW.out.trans (hb.mono HW.out.size))
    have HA1 := Lib.hid (heap_keep hb HA0.out)
    have HB1 := Lib.hid (heap_keep hb HB0.out)
    clear hb
    go_wp2_with (fail)
    have hba : Below v1.heap.size v1 (v1.alloc (.cells #[.int .i64 0, .int .i64 0, .int .i64 0, .slice none 0 0] 28)) := (Below.refl _ _).alloc (Nat.le_refl _) _
    have HCC : Hid ((v1.alloc (.cells #[.int .i64 0, .int .i64 0, .int .i64 0, .slice none 0 0] 28)).heap[v1.heap.size]? = some (.cells #[.int .i64 0, .int .i64 0, .int .i64 0, .slice none 0 0] 28 (0, 0))) := Lib.hid (heap_new rfl)
    have HA := Lib.hid (heap_keep hba HA1.out)
    have HB := Lib.hid (heap_keep hba HB1.out)
    have HWx := Lib.hid (HWy.out.trans (hba.mono HWy.out.size))
    clear hba
    generalize v1.alloc (.cells #[.int .i64 0, .int .i64 0, .int .i64 0, .slice none 0 0] 28) = v2 at *
    refine wp_region_held_drew (S := (fun w' : World => w'.heap[w.heap.size]? = some (.cells #[.int .i64 s, .int .i64 x, .int .i64 y, .slice a n c] 28 (0, 0)) ∧ w'.heap[w.heap.size + 1]? = some (.cells #[.int .i64 s', .int .i64 x', .int .i64 y', .slice a' n' c'] 28 (0, 0)))) (by kernel_rfl) ⟨HA.out, HB.out⟩ (fun hHeld => ?_)
    refine tkH hHeld 0 (oi := ?_) (v := ?_) ?_ ?_ ?_ ?_ ?_ ?_ ?_ ?_; rotate_left 2; (simp only [gA, gB, gC]; exact rfl); kernel_rfl; kernel_rfl; kernel_rfl; exact fun _ _ _ h => h; rfl; (intro w' hSw; obtain ⟨hs1, hs2⟩ := hSw; have z0 := cell_of (i := 0) hs1 rfl; have z1 := cell_of (i := 1) hs1 rfl; have z2 := cell_of (i := 2) hs1 rfl; have z3 := cell_of (i := 3) hs1 rfl; clear hs1 hs2; go_simp; with_reducible rfl); simp only [Act.put, pB, pC, pD]
    refine tkH hHeld 2 (oi := ?_) (v := ?_) ?_ ?_ ?_ ?_ ?_ ?_ ?_ ?_; rotate_left 2; (simp only [gA, gB, gC]; exact rfl); kernel_rfl; kernel_rfl; kernel_rfl; exact fun _ _ _ h => h; rfl; (intro w' hSw; obtain ⟨hs1, hs2⟩ := hSw; have z0 := cell_of (i := 0) hs2 rfl; have z1 := cell_of (i := 1) hs2 rfl; have z2 := cell_of (i := 2) hs2 rfl; have z3 := cell_of (i := 3) hs2 rfl; clear hs1 hs2; go_simp; with_reducible rfl); simp only [Act.put, pB, pC, pD]
    refine tkH hHeld 4 (oi := ?_) (v := ?_) ?_ ?_ ?_ ?_ ?_ ?_ ?_ ?_; rotate_left 2; (simp only [gA, gB, gC]; exact rfl); kernel_rfl; kernel_rfl; kernel_rfl; exact fun _ _ _ h => h; rfl; (intro w' hSw; obtain ⟨hs1, hs2⟩ := hSw; have z0 := cell_of (i := 0) hs1 rfl; have z1 := cell_of (i := 1) hs1 rfl; have z2 := cell_of (i := 2) hs1 rfl; have z3 := cell_of (i := 3) hs1 rfl; clear hs1 hs2; go_simp; with_reducible rfl); simp only [Act.put, pB, pC, pD]
    refine tkH hHeld 5 (oi := ?_) (v := ?_) ?_ ?_ ?_ ?_ ?_ ?_ ?_ ?_; rotate_left 2; (simp only [gA, gB, gC]; exact rfl); kernel_rfl; kernel_rfl; kernel_rfl; exact fun _ _ _ h => h; rfl; (intro w' hSw; obtain ⟨hs1, hs2⟩ := hSw; have z0 := cell_of (i := 0) hs2 rfl; have z1 := cell_of (i := 1) hs2 rfl; have z2 := cell_of (i := 2) hs2 rfl; have z3 := cell_of (i := 3) hs2 rfl; clear hs1 hs2; go_simp; with_reducible rfl); simp only [Act.put, pB, pC, pD]
    clear hHeld
    have HT : Hid (Below v2.heap.size v2 v2.drew) := Lib.hid (Below.refl _ _).drew
    generalize v2.drew = g0 at *
    refine onH 1 (oi := ?_) (by kernel_rfl) ?_ ?_ (fun K hK => ?_); rotate_left; (simp only [gA, gB, gC]; exact rfl); rfl
    go_wp2_with (fail)
    refine (cellsFault_any s x y a n c R _ ((HRa.out.kept HWx.out).kept HT.out) HLa.out hn).mono ?_
    rintro e g1 ⟨rfl, hb⟩
    rw [HE1.out]
    replace HT := Lib.hid (HT.out.trans (hb.mono HT.out.size))
    clear hb
    go_wp2_with (fail)
    refine hK.out _ _ ⟨heap_keep HT.out HA.out, heap_keep HT.out HB.out⟩ (fun hHeld => ?_)
    clear hK K hHeld
    try simp only [Act.put, pB, pC, pD]
    refine onH 3 (oi := ?_) (by kernel_rfl) ?_ ?_ (fun K hK => ?_); rotate_left; (simp only [gA, gB, gC]; exact rfl); rfl
    go_wp2_with (fail)
    refine (cellsFault_any s' x' y' a' n' c' R' _ ((HRb.out.kept HWx.out).kept HT.out) HLb.out hn').mono ?_
    rintro e g2 ⟨rfl, hb⟩
    rw [HE2.out]
    replace HT := Lib.hid (HT.out.trans (hb.mono HT.out.size))
    clear hb
    go_wp2_with (fail)
    refine hK.out _ _ ⟨heap_keep HT.out HA.out, heap_keep HT.out HB.out⟩ (fun hHeld => ?_)
    clear hK K hHeld
    try simp only [Act.put, pB, pC, pD]
    refine onH 6 (oi := ?_) (by kernel_rfl) ?_ ?_ (fun K hK => ?_); rotate_left; (simp only [gA, gB, gC]; exact rfl); rfl
    go_wp2_with (fail)
    refine (steps_any s x y a n c s' x' y' a' n' c' _).mono ?_
    rintro e g3 ⟨rfl, hb⟩
    rw [HE3.out]
    replace HT := Lib.hid (HT.out.trans (hb.mono HT.out.size))
    clear hb
    go_wp2_with (fail)
    refine hK.out _ _ ⟨heap_keep HT.out HA.out, heap_keep HT.out HB.out⟩ (fun hHeld => ?_)
    clear hK K hHeld
    try simp only [Act.put, pB, pC, pD]
    refine onH 7 (oi := ?_) (by kernel_rfl) ?_ ?_ (fun K hK => ?_); rotate_left; (simp only [gA, gB, gC]; exact rfl); rfl
    go_wp2_with (fail)
    have hb : Below g3.heap.size g3 (g3.alloc (.cells #[.int .i64 E1, .int .i64 E2, .int .i64 E3] 41)) := (Below.refl _ _).alloc (Nat.le_refl _) _
    have harr : (g3.alloc (.cells #[.int .i64 E1, .int .i64 E2, .int .i64 E3] 41)).heap[g3.heap.size]? = some (.cells #[.int .i64 E1, .int .i64 E2, .int .i64 E3] 41 (0, 0)) := heap_new rfl
    have HARR := Lib.hid harr
    replace HT := Lib.hid (HT.out.trans (hb.mono HT.out.size))
    clear hb harr
    generalize g3.alloc (.cells #[.int .i64 E1, .int .i64 E2, .int .i64 E3] 41) = g4 at *
    refine hK.out _ _ ⟨heap_keep HT.out HA.out, heap_keep HT.out HB.out⟩ (fun hHeld => ?_)
    clear hK K hHeld
    try simp only [Act.put, pB, pC, pD]
    refine onH 8 (oi := ?_) (by kernel_rfl) ?_ ?_ (fun K hK => ?_); rotate_left; (simp only [gA, gB, gC]; exact rfl); rfl
    go_wp2_with (fail)
    refine (or3_any _ _ E1 E2 E3 _ (cell_of HARR.out rfl) (cell_of HARR.out rfl) (cell_of HARR.out rfl)).mono ?_
    rintro e g5 ⟨rfl, rfl⟩
    rw [HG.out]
    go_wp2_with (fail)
    refine hK.out _ _ ⟨heap_keep HT.out HA.out, heap_keep HT.out HB.out⟩ (fun hHeld => ?_)
    clear hK K
    try simp only [Act.put, pB, pC, pD]
    refine tkH hHeld 9 (oi := ?_) (v := ?_) ?_ ?_ ?_ ?_ ?_ ?_ ?_ ?_; rotate_left 2; (simp only [gA, gB, gC]; exact rfl); kernel_rfl; kernel_rfl; kernel_rfl; exact fun _ _ _ h => h; rfl; (intro w' hSw; go_simp; with_reducible rfl); simp only [Act.put, pB, pC, pD]
    clear hHeld
    refine wpAnyH_done (by kernel_rfl) ?_ _
    have HCC5 := Lib.hid (heap_keep HT.out HCC.out)
    have HW5 := Lib.hid (HWx.out.trans (HT.out.mono HWx.out.size))
    clear HARR HA HB HT HA1 HB1 HCC HWx HWy
    go_upto_region 6 with (fail)
    have hbz : Below g5.heap.size g5 (g5.alloc (.cells #[.int .i64 0, .int .i64 0, .int .i64 0, .slice none 0 0] 28)) := (Below.refl _ _).alloc (Nat.le_refl _) _
    have HZZ : Hid ((g5.alloc (.cells #[.int .i64 0, .int .i64 0, .int .i64 0, .slice none 0 0] 28)).heap[g5.heap.size]? = some (.cells #[.int .i64 0, .int .i64 0, .int .i64 0, .slice none 0 0] 28 (0, 0))) := Lib.hid (heap_new rfl)
    have HCC6 := Lib.hid (heap_keep hbz HCC5.out)
    have HW6 := Lib.hid (HW5.out.trans (hbz.mono HW5.out.size))
    clear hbz
    change Code.wp _ _ _ _ (g5.alloc (.cells #[.int .i64 0, .int .i64 0, .int .i64 0, .slice none 0 0] 28))
    generalize (g5.alloc (.cells #[.int .i64 0, .int .i64 0, .int .i64 0, .slice none 0 0] 28)) = g6 at *
    have r0 := cell_of (i := 0) HZZ.out rfl
    have r1 := cell_of (i := 1) HZZ.out rfl
    have r2 := cell_of (i := 2) HZZ.out rfl
    have r3 := cell_of (i := 3) HZZ.out rfl
    have k0 := cell_of (i := 0) HCC6.out rfl
    have k1 := cell_of (i := 1) HCC6.out rfl
    have k2 := cell_of (i := 2) HCC6.out rfl
    have k3 := cell_of (i := 3) HCC6.out rfl
    go_wp2_with (fail)
    refine (sameCells_any 0 0 0 none none 0 0 0 (fun _ => []) (fun _ => []) _ (.inl rfl) (.inl rfl) (fun _ _ => rfl) (by omega)).mono ?_
    rintro e g9 ⟨rfl, hb9⟩
    have HW9 := Lib.hid (HW6.out.trans (hb9.mono HW6.out.size))
    clear hb9
    go_wp2_with (fail)
    go_ret
    exact ⟨rfl, HW9.out⟩
set_option maxRecDepth 100000 in
set_option maxHeartbeats 16000000 in
theorem lawMinus_any (s x y : Int) (a : Option Addr) (n c : Nat) (R : Nat → List UInt8) (s' x' y' : Int) (a' : Option Addr) (n' c' : Nat) (R' : Nat → List UInt8) (w : World) (hr : RowS w a n R) (hr' : RowS w a' n' R') (hl : ∀ i, i < n → (R i).length ≤ 1000000) (hn : n ≤ 1000000) (hl' : ∀ i, i < n' → (R' i).length ≤ 1000000) (hn' : n' ≤ 1000000) :
    Calls Tryz.prog 7 #[.func (.func 12) #[] #[], .agg #[.int .i64 s, .int .i64 x, .int .i64 y, .slice a n c], .agg #[.int .i64 s', .int .i64 x', .int .i64 y', .slice a' n' c'], .func (.func 13) #[] #[]] w fun e w' => e = .returned (.bool true) ∧ Below w.heap.size w w' := by
  obtain ⟨E1, hE1⟩ : ∃ E, cellsE s x y n R = E := ⟨_, rfl⟩
  obtain ⟨E2, hE2⟩ : ∃ E, cellsE s' x' y' n' R' = E := ⟨_, rfl⟩
  obtain ⟨E3, hE3⟩ : ∃ E : Int, (if s ≠ s' then 3 else 0) = E := ⟨_, rfl⟩
  obtain ⟨G, hG⟩ : ∃ G, combE s x y n R s' x' y' n' R' = G := ⟨_, rfl⟩
  have hG2 : or3E E1 E2 E3 = G := by rw [← hG, ← hE1, ← hE2, ← hE3]; rfl
  have HE1 := Lib.hid hE1
  have HE2 := Lib.hid hE2
  have HE3 := Lib.hid hE3
  have HG := Lib.hid hG2
  have HC := Lib.hid hG
  have HRa := Lib.hid hr
  have HRb := Lib.hid hr'
  have HLa := Lib.hid hl
  have HLb := Lib.hid hl'
  have HV : Hid (G = 0 → cellsE s x y n R = 0 ∧ cellsE s' x' y' n' R' = 0) := Lib.hid (fun h => by
    rw [← hG] at h
    unfold combE at h
    by_cases e1 : cellsE s x y n R = 0
    · rw [if_neg (by simp [e1])] at h
      by_cases e2 : cellsE s' x' y' n' R' = 0
      · exact ⟨e1, e2⟩
      · rw [if_pos e2] at h; exact absurd h e2
    · rw [if_pos e1] at h; exact absurd h e1)
  clear hr hr' hl hl' hE1 hE2 hE3 hG hG2
  go_enter Tryz.func7, Tryz.ntmps7
  go_wp2_with (fail)
  have HW : Hid (Below w.heap.size w ((w.alloc (.cells #[.int .i64 s, .int .i64 x, .int .i64 y, .slice a n c] 28)).alloc (.cells #[.int .i64 s', .int .i64 x', .int .i64 y', .slice a' n' c'] 28))) := Lib.hid (by repeat (first | exact Below.refl _ _ | assumption | refine Below.drew ?_ | refine bdrewN ?_ _ | refine Below.setCell ?_ (by first | omega | (simp <;> omega)) _ | refine Below.alloc ?_ (by first | omega | (simp <;> omega)) _))
  have HA0 : Hid (((w.alloc (.cells #[.int .i64 s, .int .i64 x, .int .i64 y, .slice a n c] 28)).alloc (.cells #[.int .i64 s', .int .i64 x', .int .i64 y', .slice a' n' c'] 28)).heap[w.heap.size]? = some (.cells #[.int .i64 s, .int .i64 x, .int .i64 y, .slice a n c] 28 (0, 0))) := Lib.hid (by repeat (first | (refine heap_new ?_; first | rfl | (simp; done)) | rw [Below.heap_alloc _ _ _ (by simp <;> omega)]))
  have HB0 : Hid (((w.alloc (.cells #[.int .i64 s, .int .i64 x, .int .i64 y, .slice a n c] 28)).alloc (.cells #[.int .i64 s', .int .i64 x', .int .i64 y', .slice a' n' c'] 28)).heap[w.heap.size + 1]? = some (.cells #[.int .i64 s', .int .i64 x', .int .i64 y', .slice a' n' c'] 28 (0, 0))) := Lib.hid (by repeat (first | (refine heap_new ?_; first | rfl | (simp; done)) | rw [Below.heap_alloc _ _ _ (by simp <;> omega)]))
  generalize ((w.alloc (.cells #[.int .i64 s, .int .i64 x, .int .i64 y, .slice a n c] 28)).alloc (.cells #[.int .i64 s', .int .i64 x', .int .i64 y', .slice a' n' c'] 28)) = v0 at *
  by_cases hG0 : G = 0
  · have HV1 := Lib.hid (VC.of (HV.out hG0).1)
    have HV2 := Lib.hid (VC.of (HV.out hG0).2)
    subst hG0
    refine (twoMinus_any s x y a n c R s' x' y' a' n' c' R' _ _ _ _ _ _ _ HV1.out HV2.out (fun p q => (covB (x.tdiv s) (y.tdiv s) n R p q && !covB (x'.tdiv s') (y'.tdiv s') n' R' p q)) (fun _ _ => rfl) (fun p q h => by rw [Bool.and_eq_true] at h; exact h.1) (HRa.out.kept HW.out) (HRb.out.kept HW.out) HLa.out hn HLb.out hn' HC.out).mono ?_
    rintro e v1 ⟨ez, ex, ey, ea, en, ec, eR, eE, rfl, hare, hrow, hfr, hn1, hn2, hn3, hb⟩
    have HARE := Lib.hid hare
    have HROW := Lib.hid hrow
    have HWy := Lib.hid (HW.out.trans (hb.mono HW.out.size))
    have HA1 := Lib.hid (heap_keep hb HA0.out)
    have HB1 := Lib.hid (heap_keep hb HB0.out)
    have HN3 := Lib.hid hn3
    clear hare hrow hfr hn3 hb
    go_wp2_with (fail)
    have hba : Below v1.heap.size v1 (v1.alloc (.cells #[.int .i64 ez, .int .i64 ex, .int .i64 ey, .slice ea en ec] 28)) := (Below.refl _ _).alloc (Nat.le_refl _) _
    have HCC : Hid ((v1.alloc (.cells #[.int .i64 ez, .int .i64 ex, .int .i64 ey, .slice ea en ec] 28)).heap[v1.heap.size]? = some (.cells #[.int .i64 ez, .int .i64 ex, .int .i64 ey, .slice ea en ec] 28 (0, 0))) := Lib.hid (heap_new rfl)
    have HA := Lib.hid (heap_keep hba HA1.out)
    have HB := Lib.hid (heap_keep hba HB1.out)
    have HROW2 := Lib.hid (HROW.out.kept hba)
    have HWx := Lib.hid (HWy.out.trans (hba.mono HWy.out.size))
    clear hba
    generalize v1.alloc (.cells #[.int .i64 ez, .int .i64 ex, .int .i64 ey, .slice ea en ec] 28) = v2 at *
    refine wp_region_held_drew (S := (fun w' : World => w'.heap[w.heap.size]? = some (.cells #[.int .i64 s, .int .i64 x, .int .i64 y, .slice a n c] 28 (0, 0)) ∧ w'.heap[w.heap.size + 1]? = some (.cells #[.int .i64 s', .int .i64 x', .int .i64 y', .slice a' n' c'] 28 (0, 0)))) (by kernel_rfl) ⟨HA.out, HB.out⟩ (fun hHeld => ?_)
    refine tkH hHeld 0 (oi := ?_) (v := ?_) ?_ ?_ ?_ ?_ ?_ ?_ ?_ ?_; rotate_left 2; (simp only [gA, gB, gC]; exact rfl); kernel_rfl; kernel_rfl; kernel_rfl; exact fun _ _ _ h => h; rfl; (intro w' hSw; obtain ⟨hs1, hs2⟩ := hSw; have z0 := cell_of (i := 0) hs1 rfl; have z1 := cell_of (i := 1) hs1 rfl; have z2 := cell_of (i := 2) hs1 rfl; have z3 := cell_of (i := 3) hs1 rfl; clear hs1 hs2; go_simp; with_reducible rfl); simp only [Act.put, pB, pC, pD]
    refine tkH hHeld 2 (oi := ?_) (v := ?_) ?_ ?_ ?_ ?_ ?_ ?_ ?_ ?_; rotate_left 2; (simp only [gA, gB, gC]; exact rfl); kernel_rfl; kernel_rfl; kernel_rfl; exact fun _ _ _ h => h; rfl; (intro w' hSw; obtain ⟨hs1, hs2⟩ := hSw; have z0 := cell_of (i := 0) hs2 rfl; have z1 := cell_of (i := 1) hs2 rfl; have z2 := cell_of (i := 2) hs2 rfl; have z3 := cell_of (i := 3) hs2 rfl; clear hs1 hs2; go_simp; with_reducible rfl); simp only [Act.put, pB, pC, pD]
    refine tkH hHeld 4 (oi := ?_) (v := ?_) ?_ ?_ ?_ ?_ ?_ ?_ ?_ ?_; rotate_left 2; (simp only [gA, gB, gC]; exact rfl); kernel_rfl; kernel_rfl; kernel_rfl; exact fun _ _ _ h => h; rfl; (intro w' hSw; obtain ⟨hs1, hs2⟩ := hSw; have z0 := cell_of (i := 0) hs1 rfl; have z1 := cell_of (i := 1) hs1 rfl; have z2 := cell_of (i := 2) hs1 rfl; have z3 := cell_of (i := 3) hs1 rfl; clear hs1 hs2; go_simp; with_reducible rfl); simp only [Act.put, pB, pC, pD]
    refine tkH hHeld 5 (oi := ?_) (v := ?_) ?_ ?_ ?_ ?_ ?_ ?_ ?_ ?_; rotate_left 2; (simp only [gA, gB, gC]; exact rfl); kernel_rfl; kernel_rfl; kernel_rfl; exact fun _ _ _ h => h; rfl; (intro w' hSw; obtain ⟨hs1, hs2⟩ := hSw; have z0 := cell_of (i := 0) hs2 rfl; have z1 := cell_of (i := 1) hs2 rfl; have z2 := cell_of (i := 2) hs2 rfl; have z3 := cell_of (i := 3) hs2 rfl; clear hs1 hs2; go_simp; with_reducible rfl); simp only [Act.put, pB, pC, pD]
    clear hHeld
    have HT : Hid (Below v2.heap.size v2 v2.drew) := Lib.hid (Below.refl _ _).drew
    generalize v2.drew = g0 at *
    refine onH 1 (oi := ?_) (by kernel_rfl) ?_ ?_ (fun K hK => ?_); rotate_left; (simp only [gA, gB, gC]; exact rfl); rfl
    go_wp2_with (fail)
    refine (cellsFault_any s x y a n c R _ ((HRa.out.kept HWx.out).kept HT.out) HLa.out hn).mono ?_
    rintro e g1 ⟨rfl, hb⟩
    rw [HE1.out]
    replace HT := Lib.hid (HT.out.trans (hb.mono HT.out.size))
    clear hb
    go_wp2_with (fail)
    refine hK.out _ _ ⟨heap_keep HT.out HA.out, heap_keep HT.out HB.out⟩ (fun hHeld => ?_)
    clear hK K hHeld
    try simp only [Act.put, pB, pC, pD]
    refine onH 3 (oi := ?_) (by kernel_rfl) ?_ ?_ (fun K hK => ?_); rotate_left; (simp only [gA, gB, gC]; exact rfl); rfl
    go_wp2_with (fail)
    refine (cellsFault_any s' x' y' a' n' c' R' _ ((HRb.out.kept HWx.out).kept HT.out) HLb.out hn').mono ?_
    rintro e g2 ⟨rfl, hb⟩
    rw [HE2.out]
    replace HT := Lib.hid (HT.out.trans (hb.mono HT.out.size))
    clear hb
    go_wp2_with (fail)
    refine hK.out _ _ ⟨heap_keep HT.out HA.out, heap_keep HT.out HB.out⟩ (fun hHeld => ?_)
    clear hK K hHeld
    try simp only [Act.put, pB, pC, pD]
    refine onH 6 (oi := ?_) (by kernel_rfl) ?_ ?_ (fun K hK => ?_); rotate_left; (simp only [gA, gB, gC]; exact rfl); rfl
    go_wp2_with (fail)
    refine (steps_any s x y a n c s' x' y' a' n' c' _).mono ?_
    rintro e g3 ⟨rfl, hb⟩
    rw [HE3.out]
    replace HT := Lib.hid (HT.out.trans (hb.mono HT.out.size))
    clear hb
    go_wp2_with (fail)
    refine hK.out _ _ ⟨heap_keep HT.out HA.out, heap_keep HT.out HB.out⟩ (fun hHeld => ?_)
    clear hK K hHeld
    try simp only [Act.put, pB, pC, pD]
    refine onH 7 (oi := ?_) (by kernel_rfl) ?_ ?_ (fun K hK => ?_); rotate_left; (simp only [gA, gB, gC]; exact rfl); rfl
    go_wp2_with (fail)
    have hb : Below g3.heap.size g3 (g3.alloc (.cells #[.int .i64 E1, .int .i64 E2, .int .i64 E3] 41)) := (Below.refl _ _).alloc (Nat.le_refl _) _
    have harr : (g3.alloc (.cells #[.int .i64 E1, .int .i64 E2, .int .i64 E3] 41)).heap[g3.heap.size]? = some (.cells #[.int .i64 E1, .int .i64 E2, .int .i64 E3] 41 (0, 0)) := heap_new rfl
    have HARR := Lib.hid harr
    replace HT := Lib.hid (HT.out.trans (hb.mono HT.out.size))
    clear hb harr
    generalize g3.alloc (.cells #[.int .i64 E1, .int .i64 E2, .int .i64 E3] 41) = g4 at *
    refine hK.out _ _ ⟨heap_keep HT.out HA.out, heap_keep HT.out HB.out⟩ (fun hHeld => ?_)
    clear hK K hHeld
    try simp only [Act.put, pB, pC, pD]
    refine onH 8 (oi := ?_) (by kernel_rfl) ?_ ?_ (fun K hK => ?_); rotate_left; (simp only [gA, gB, gC]; exact rfl); rfl
    go_wp2_with (fail)
    refine (or3_any _ _ E1 E2 E3 _ (cell_of HARR.out rfl) (cell_of HARR.out rfl) (cell_of HARR.out rfl)).mono ?_
    rintro e g5 ⟨rfl, rfl⟩
    rw [HG.out]
    go_wp2_with (fail)
    refine hK.out _ _ ⟨heap_keep HT.out HA.out, heap_keep HT.out HB.out⟩ (fun hHeld => ?_)
    clear hK K
    try simp only [Act.put, pB, pC, pD]
    refine tkH hHeld 9 (oi := ?_) (v := ?_) ?_ ?_ ?_ ?_ ?_ ?_ ?_ ?_; rotate_left 2; (simp only [gA, gB, gC]; exact rfl); kernel_rfl; kernel_rfl; kernel_rfl; exact fun _ _ _ h => h; rfl; (intro w' hSw; go_simp; with_reducible rfl); simp only [Act.put, pB, pC, pD]
    clear hHeld
    refine wpAnyH_done (by kernel_rfl) ?_ _
    have hA := heap_keep HT.out HA.out
    have hB := heap_keep HT.out HB.out
    have HA5 := Lib.hid hA
    have HB5 := Lib.hid hB
    have HCC5 := Lib.hid (heap_keep HT.out HCC.out)
    have HROW5 := Lib.hid (HROW2.out.kept HT.out)
    have HW5 := Lib.hid (HWx.out.trans (HT.out.mono HWx.out.size))
    clear hA hB HARR HA HB HT HA1 HB1 HROW HROW2 HCC HWx HWy
    go_upto_region 5 with (fail)
    have hbz : Below g5.heap.size g5 (g5.alloc (.cells #[.int .i64 0, .int .i64 0, .int .i64 0, .slice none 0 0] 28)) := (Below.refl _ _).alloc (Nat.le_refl _) _
    have HZZ : Hid ((g5.alloc (.cells #[.int .i64 0, .int .i64 0, .int .i64 0, .slice none 0 0] 28)).heap[g5.heap.size]? = some (.cells #[.int .i64 0, .int .i64 0, .int .i64 0, .slice none 0 0] 28 (0, 0))) := Lib.hid (heap_new rfl)
    have hA6 := heap_keep hbz HA5.out
    have hB6 := heap_keep hbz HB5.out
    have HCC6 := Lib.hid (heap_keep hbz HCC5.out)
    have HROW6 := Lib.hid (HROW5.out.kept hbz)
    have HW6 := Lib.hid (HW5.out.trans (hbz.mono HW5.out.size))
    have hlt6 : g5.heap.size < (g5.alloc (.cells #[.int .i64 0, .int .i64 0, .int .i64 0, .slice none 0 0] 28)).heap.size := by simp
    have HNE1 : Hid (∀ b off, 0 < en → ea = some ⟨b, off, none⟩ → b ≠ g5.heap.size) := Lib.hid (fun b off hp h => by
      rcases HROW5.out with h1 | ⟨b1, o1, e1, e2, _⟩
      · omega
      · rw [h] at e1; cases e1; omega)
    have hcc5 := lt_of_heap HCC5.out
    clear hbz
    change Code.wp _ _ _ _ (g5.alloc (.cells #[.int .i64 0, .int .i64 0, .int .i64 0, .slice none 0 0] 28))
    generalize (g5.alloc (.cells #[.int .i64 0, .int .i64 0, .int .i64 0, .slice none 0 0] 28)) = g6 at *
    have a0 := cell_of (i := 0) hA6 rfl
    have a1 := cell_of (i := 1) hA6 rfl
    have a2 := cell_of (i := 2) hA6 rfl
    have a3 := cell_of (i := 3) hA6 rfl
    have b0 := cell_of (i := 0) hB6 rfl
    have b1 := cell_of (i := 1) hB6 rfl
    have b2 := cell_of (i := 2) hB6 rfl
    have b3 := cell_of (i := 3) hB6 rfl
    clear hA6 hB6
    go_wp2_with (fail)
    refine (combMinus_any s x y a n c R s' x' y' a' n' c' R' _ _ _ _ _ _ _ HV1.out HV2.out (fun p q => (covB (x.tdiv s) (y.tdiv s) n R p q && !covB (x'.tdiv s') (y'.tdiv s') n' R' p q)) (fun _ _ => rfl) (HRa.out.kept HW6.out) (HRb.out.kept HW6.out)).mono ?_
    rintro e g7 ⟨fz, fx, fy, fa, fn, fc, fR, fE, rfl, hare, hrow, hfr, hm1, hm2, hm3, hb⟩
    obtain ⟨q1, q2, q3, q4, q5, q6⟩ := HARE.out.same hare
    subst q1 q2 q3 q4 q5
    have hz := heap_keep hb HZZ.out
    have HCC7 := Lib.hid (heap_keep hb HCC6.out)
    have HROW7 := Lib.hid (HROW6.out.kept hb)
    have HROF := Lib.hid hrow
    have HW7 := Lib.hid (HW6.out.trans (hb.mono HW6.out.size))
    have HQ6 := Lib.hid q6
    have hne2 : ∀ b off, fa = some ⟨b, off, none⟩ → b ≠ g5.heap.size := fun b off h => by have := hfr b off h; omega
    have HNE2 := Lib.hid hne2
    have hl3 : g5.heap.size < g7.heap.size := lt_of_heap hz
    have z0 : g7.cell? ⟨g5.heap.size, 0, none⟩ = some (.int .i64 0) := cell_of hz rfl
    have zf0 : g7.frozen? ⟨g5.heap.size, 0, none⟩ = false := frozen_of hz
    have z1 : g7.cell? ⟨g5.heap.size, 1, none⟩ = some (.int .i64 0) := cell_of hz rfl
    have zf1 : g7.frozen? ⟨g5.heap.size, 1, none⟩ = false := frozen_of hz
    have z2 : g7.cell? ⟨g5.heap.size, 2, none⟩ = some (.int .i64 0) := cell_of hz rfl
    have zf2 : g7.frozen? ⟨g5.heap.size, 2, none⟩ = false := frozen_of hz
    have z3 : g7.cell? ⟨g5.heap.size, 3, none⟩ = some (.slice none 0 0) := cell_of hz rfl
    have zf3 : g7.frozen? ⟨g5.heap.size, 3, none⟩ = false := frozen_of hz
    clear hare hrow hfr hm3 hb hz q6 hne2 a0 a1 a2 a3 b0 b1 b2 b3
    go_upto_region 6 with (fail)
    have hst := set4 (w := g7) (R := g5.heap.size) (x0 := .int .i64 ez) (x1 := .int .i64 ex) (x2 := .int .i64 ey) (x3 := .slice fa en fc) (is4 (is_some z0) (is_some z1) (is_some z2) (is_some z3)) rfl
    have HST := Lib.hid hst
    have HCC8 := Lib.hid ((keep4 (w := g7) (R := g5.heap.size) (X := v1.heap.size) (x0 := .int .i64 ez) (x1 := .int .i64 ex) (x2 := .int .i64 ey) (x3 := .slice fa en fc) (by omega)).trans HCC7.out)
    have HRO8 := Lib.hid (row4 (R := g5.heap.size) (x0 := .int .i64 ez) (x1 := .int .i64 ex) (x2 := .int .i64 ey) (x3 := .slice fa en fc) HROW7.out (fun hp b off h => HNE1.out b off hp h))
    have HRF8 := Lib.hid (row4 (R := g5.heap.size) (x0 := .int .i64 ez) (x1 := .int .i64 ex) (x2 := .int .i64 ey) (x3 := .slice fa en fc) HROF.out (fun _ b off h => HNE2.out b off h))
    have HW8 : Hid (Below w.heap.size w ((((g7.setCell ⟨g5.heap.size, 0, none⟩ (.int .i64 ez)).setCell ⟨g5.heap.size, 1, none⟩ (.int .i64 ex)).setCell ⟨g5.heap.size, 2, none⟩ (.int .i64 ey)).setCell ⟨g5.heap.size, 3, none⟩ (.slice fa en fc))) := Lib.hid ((((HW7.out.setCell (by show _ ≤ g5.heap.size; have := HW5.out.size; omega) _).setCell (by show _ ≤ g5.heap.size; have := HW5.out.size; omega) _).setCell (by show _ ≤ g5.heap.size; have := HW5.out.size; omega) _).setCell (by show _ ≤ g5.heap.size; have := HW5.out.size; omega) _)
    clear hst z0 z1 z2 z3 zf0 zf1 zf2 zf3
    change Code.wp _ _ _ _ ((((g7.setCell ⟨g5.heap.size, 0, none⟩ (.int .i64 ez)).setCell ⟨g5.heap.size, 1, none⟩ (.int .i64 ex)).setCell ⟨g5.heap.size, 2, none⟩ (.int .i64 ey)).setCell ⟨g5.heap.size, 3, none⟩ (.slice fa en fc))
    generalize ((((g7.setCell ⟨g5.heap.size, 0, none⟩ (.int .i64 ez)).setCell ⟨g5.heap.size, 1, none⟩ (.int .i64 ex)).setCell ⟨g5.heap.size, 2, none⟩ (.int .i64 ey)).setCell ⟨g5.heap.size, 3, none⟩ (.slice fa en fc)) = g8 at *
    obtain ⟨r0, r1, r2, r3⟩ := HST.out
    have k0 := cell_of (i := 0) HCC8.out rfl
    have k1 := cell_of (i := 1) HCC8.out rfl
    have k2 := cell_of (i := 2) HCC8.out rfl
    have k3 := cell_of (i := 3) HCC8.out rfl
    go_wp2_with (fail)
    refine (sameCells_any ez ex ey ea fa en ec fc eR fR _ HRO8.out HRF8.out HQ6.out (CellsAre.small HARE.out)).mono ?_
    rintro e g9 ⟨rfl, hb9⟩
    have HW9 := Lib.hid (HW8.out.trans (hb9.mono HW8.out.size))
    clear hb9
    go_wp2_with (fail)
    go_ret
    exact ⟨rfl, HW9.out⟩
  · have hG1 : (G == 0) = false := by simpa using hG0
    refine (errMinus_any s x y a n c R s' x' y' a' n' c' R' _ (HRa.out.kept HW.out) (HRb.out.kept HW.out) HLa.out hn HLb.out hn' (by rw [HC.out]; exact hG0)).mono ?_
    rw [HC.out]
    rintro e v1 ⟨rfl, hb⟩
    have HWy := Lib.hid (HW.out.trans (hb.mono HW.out.size))
    have HA1 := Lib.hid (heap_keep hb HA0.out)
    have HB1 := Lib.hid (heap_keep hb HB0.out)
    clear hb
    go_wp2_with (fail)
    have hba : Below v1.heap.size v1 (v1.alloc (.cells #[.int .i64 0, .int .i64 0, .int .i64 0, .slice none 0 0] 28)) := (Below.refl _ _).alloc (Nat.le_refl _) _
    have HCC : Hid ((v1.alloc (.cells #[.int .i64 0, .int .i64 0, .int .i64 0, .slice none 0 0] 28)).heap[v1.heap.size]? = some (.cells #[.int .i64 0, .int .i64 0, .int .i64 0, .slice none 0 0] 28 (0, 0))) := Lib.hid (heap_new rfl)
    have HA := Lib.hid (heap_keep hba HA1.out)
    have HB := Lib.hid (heap_keep hba HB1.out)
    have HWx := Lib.hid (HWy.out.trans (hba.mono HWy.out.size))
    clear hba
    generalize v1.alloc (.cells #[.int .i64 0, .int .i64 0, .int .i64 0, .slice none 0 0] 28) = v2 at *
    refine wp_region_held_drew (S := (fun w' : World => w'.heap[w.heap.size]? = some (.cells #[.int .i64 s, .int .i64 x, .int .i64 y, .slice a n c] 28 (0, 0)) ∧ w'.heap[w.heap.size + 1]? = some (.cells #[.int .i64 s', .int .i64 x', .int .i64 y', .slice a' n' c'] 28 (0, 0)))) (by kernel_rfl) ⟨HA.out, HB.out⟩ (fun hHeld => ?_)
    refine tkH hHeld 0 (oi := ?_) (v := ?_) ?_ ?_ ?_ ?_ ?_ ?_ ?_ ?_; rotate_left 2; (simp only [gA, gB, gC]; exact rfl); kernel_rfl; kernel_rfl; kernel_rfl; exact fun _ _ _ h => h; rfl; (intro w' hSw; obtain ⟨hs1, hs2⟩ := hSw; have z0 := cell_of (i := 0) hs1 rfl; have z1 := cell_of (i := 1) hs1 rfl; have z2 := cell_of (i := 2) hs1 rfl; have z3 := cell_of (i := 3) hs1 rfl; clear hs1 hs2; go_simp; with_reducible rfl); simp only [Act.put, pB, pC, pD]
    refine tkH hHeld 2 (oi := ?_) (v := ?_) ?_ ?_ ?_ ?_ ?_ ?_ ?_ ?_; rotate_left 2; (simp only [gA, gB, gC]; exact rfl); kernel_rfl; kernel_rfl; kernel_rfl; exact fun _ _ _ h => h; rfl; (intro w' hSw; obtain ⟨hs1, hs2⟩ := hSw; have z0 := cell_of (i := 0) hs2 rfl; have z1 := cell_of (i := 1) hs2 rfl; have z2 := cell_of (i := 2) hs2 rfl; have z3 := cell_of (i := 3) hs2 rfl; clear hs1 hs2; go_simp; with_reducible rfl); simp only [Act.put, pB, pC, pD]
    refine tkH hHeld 4 (oi := ?_) (v := ?_) ?_ ?_ ?_ ?_ ?_ ?_ ?_ ?_; rotate_left 2; (simp only [gA, gB, gC]; exact rfl); kernel_rfl; kernel_rfl; kernel_rfl; exact fun _ _ _ h => h; rfl; (intro w' hSw; obtain ⟨hs1, hs2⟩ := hSw; have z0 := cell_of (i := 0) hs1 rfl; have z1 := cell_of (i := 1) hs1 rfl; have z2 := cell_of (i := 2) hs1 rfl; have z3 := cell_of (i := 3) hs1 rfl; clear hs1 hs2; go_simp; with_reducible rfl); simp only [Act.put, pB, pC, pD]
    refine tkH hHeld 5 (oi := ?_) (v := ?_) ?_ ?_ ?_ ?_ ?_ ?_ ?_ ?_; rotate_left 2; (simp only [gA, gB, gC]; exact rfl); kernel_rfl; kernel_rfl; kernel_rfl; exact fun _ _ _ h => h; rfl; (intro w' hSw; obtain ⟨hs1, hs2⟩ := hSw; have z0 := cell_of (i := 0) hs2 rfl; have z1 := cell_of (i := 1) hs2 rfl; have z2 := cell_of (i := 2) hs2 rfl; have z3 := cell_of (i := 3) hs2 rfl; clear hs1 hs2; go_simp; with_reducible rfl); simp only [Act.put, pB, pC, pD]
    clear hHeld
    have HT : Hid (Below v2.heap.size v2 v2.drew) := Lib.hid (Below.refl _ _).drew
    generalize v2.drew = g0 at *
    refine onH 1 (oi := ?_) (by kernel_rfl) ?_ ?_ (fun K hK => ?_); rotate_left; (simp only [gA, gB, gC]; exact rfl); rfl
    go_wp2_with (fail)
    refine (cellsFault_any s x y a n c R _ ((HRa.out.kept HWx.out).kept HT.out) HLa.out hn).mono ?_
    rintro e g1 ⟨rfl, hb⟩
    rw [HE1.out]
    replace HT := Lib.hid (HT.out.trans (hb.mono HT.out.size))
    clear hb
    go_wp2_with (fail)
    refine hK.out _ _ ⟨heap_keep HT.out HA.out, heap_keep HT.out HB.out⟩ (fun hHeld => ?_)
    clear hK K hHeld
    try simp only [Act.put, pB, pC, pD]
    refine onH 3 (oi := ?_) (by kernel_rfl) ?_ ?_ (fun K hK => ?_); rotate_left; (simp only [gA, gB, gC]; exact rfl); rfl
    go_wp2_with (fail)
    refine (cellsFault_any s' x' y' a' n' c' R' _ ((HRb.out.kept HWx.out).kept HT.out) HLb.out hn').mono ?_
    rintro e g2 ⟨rfl, hb⟩
    rw [HE2.out]
    replace HT := Lib.hid (HT.out.trans (hb.mono HT.out.size))
    clear hb
    go_wp2_with (fail)
    refine hK.out _ _ ⟨heap_keep HT.out HA.out, heap_keep HT.out HB.out⟩ (fun hHeld => ?_)
    clear hK K hHeld
    try simp only [Act.put, pB, pC, pD]
    refine onH 6 (oi := ?_) (by kernel_rfl) ?_ ?_ (fun K hK => ?_); rotate_left; (simp only [gA, gB, gC]; exact rfl); rfl
    go_wp2_with (fail)
    refine (steps_any s x y a n c s' x' y' a' n' c' _).mono ?_
    rintro e g3 ⟨rfl, hb⟩
    rw [HE3.out]
    replace HT := Lib.hid (HT.out.trans (hb.mono HT.out.size))
    clear hb
    go_wp2_with (fail)
    refine hK.out _ _ ⟨heap_keep HT.out HA.out, heap_keep HT.out HB.out⟩ (fun hHeld => ?_)
    clear hK K hHeld
    try simp only [Act.put, pB, pC, pD]
    refine onH 7 (oi := ?_) (by kernel_rfl) ?_ ?_ (fun K hK => ?_); rotate_left; (simp only [gA, gB, gC]; exact rfl); rfl
    go_wp2_with (fail)
    have hb : Below g3.heap.size g3 (g3.alloc (.cells #[.int .i64 E1, .int .i64 E2, .int .i64 E3] 41)) := (Below.refl _ _).alloc (Nat.le_refl _) _
    have harr : (g3.alloc (.cells #[.int .i64 E1, .int .i64 E2, .int .i64 E3] 41)).heap[g3.heap.size]? = some (.cells #[.int .i64 E1, .int .i64 E2, .int .i64 E3] 41 (0, 0)) := heap_new rfl
    have HARR := Lib.hid harr
    replace HT := Lib.hid (HT.out.trans (hb.mono HT.out.size))
    clear hb harr
    generalize g3.alloc (.cells #[.int .i64 E1, .int .i64 E2, .int .i64 E3] 41) = g4 at *
    refine hK.out _ _ ⟨heap_keep HT.out HA.out, heap_keep HT.out HB.out⟩ (fun hHeld => ?_)
    clear hK K hHeld
    try simp only [Act.put, pB, pC, pD]
    refine onH 8 (oi := ?_) (by kernel_rfl) ?_ ?_ (fun K hK => ?_); rotate_left; (simp only [gA, gB, gC]; exact rfl); rfl
    go_wp2_with (fail)
    refine (or3_any _ _ E1 E2 E3 _ (cell_of HARR.out rfl) (cell_of HARR.out rfl) (cell_of HARR.out rfl)).mono ?_
    rintro e g5 ⟨rfl, rfl⟩
    rw [HG.out]
    go_wp2_with (fail)
    refine hK.out _ _ ⟨heap_keep HT.out HA.out, heap_keep HT.out HB.out⟩ (fun hHeld => ?_)
    clear hK K
    try simp only [Act.put, pB, pC, pD]
    refine tkH hHeld 9 (oi := ?_) (v := ?_) ?_ ?_ ?_ ?_ ?_ ?_ ?_ ?_; rotate_left 2; (simp only [gA, gB, gC]; exact rfl); kernel_rfl; kernel_rfl; kernel_rfl; exact fun _ _ _ h => h; rfl; (intro w' hSw; go_simp; with_reducible rfl); simp only [Act.put, pB, pC, pD]
    clear hHeld
    refine wpAnyH_done (by kernel_rfl) ?_ _
    have HCC5 := Lib.hid (heap_keep HT.out HCC.out)
    have HW5 := Lib.hid (HWx.out.trans (HT.out.mono HWx.out.size))
    clear HARR HA HB HT HA1 HB1 HCC HWx HWy
    go_upto_region 6 with (fail)
    have hbz : Below g5.heap.size g5 (g5.alloc (.cells #[.int .i64 0, .int .i64 0, .int .i64 0, .slice none 0 0] 28)) := (Below.refl _ _).alloc (Nat.le_refl _) _
    have HZZ : Hid ((g5.alloc (.cells #[.int .i64 0, .int .i64 0, .int .i64 0, .slice none 0 0] 28)).heap[g5.heap.size]? = some (.cells #[.int .i64 0, .int .i64 0, .int .i64 0, .slice none 0 0] 28 (0, 0))) := Lib.hid (heap_new rfl)
    have HCC6 := Lib.hid (heap_keep hbz HCC5.out)
    have HW6 := Lib.hid (HW5.out.trans (hbz.mono HW5.out.size))
    clear hbz
    change Code.wp _ _ _ _ (g5.alloc (.cells #[.int .i64 0, .int .i64 0, .int .i64 0, .slice none 0 0] 28))
    generalize (g5.alloc (.cells #[.int .i64 0, .int .i64 0, .int .i64 0, .slice none 0 0] 28)) = g6 at *
    have r0 := cell_of (i := 0) HZZ.out rfl
    have r1 := cell_of (i := 1) HZZ.out rfl
    have r2 := cell_of (i := 2) HZZ.out rfl
    have r3 := cell_of (i := 3) HZZ.out rfl
    have k0 := cell_of (i := 0) HCC6.out rfl
    have k1 := cell_of (i := 1) HCC6.out rfl
    have k2 := cell_of (i := 2) HCC6.out rfl
    have k3 := cell_of (i := 3) HCC6.out rfl
    go_wp2_with (fail)
    refine (sameCells_any 0 0 0 none none 0 0 0 (fun _ => []) (fun _ => []) _ (.inl rfl) (.inl rfl) (fun _ _ => rfl) (by omega)).mono ?_
    rintro e g9 ⟨rfl, hb9⟩
    have HW9 := Lib.hid (HW6.out.trans (hb9.mono HW6.out.size))
    clear hb9
    go_wp2_with (fail)
    go_ret
    exact ⟨rfl, HW9.out⟩
end Go.Proofs.YtllagjncibfcmaaGreatDoor

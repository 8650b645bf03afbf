/- The reference's combination of two cells. -/
import Derived.Test.YtllagjncibfcmaaGreatDoorKp
set_option linter.unusedSimpArgs false
set_option linter.unusedVariables false
namespace Go.Proofs.YtllagjncibfcmaaGreatDoor
open Go.RowKit Go.Maps

theorem Mut.grown' {S : Nat → Prop} {a w w' : World} (h : Mut S a w) (hg : w.grownBy w' none) : Mut S a w' :=
  ⟨hg.os.trans h.os, hg.tape.trans h.tape, hg.output.trans h.output, Nat.le_trans h.size hg.size, fun k hk hs => (hg.block k (by have := h.size; omega) (by simp)).trans (h.block k hk hs)⟩
theorem Mut.grownR {S : Nat → Prop} {a w w' : World} {r : Nat} (h : Mut S a w) (hg : w.grownBy w' (some r)) (hr : a.heap.size ≤ r) : Mut S a w' :=
  ⟨hg.os.trans h.os, hg.tape.trans h.tape, hg.output.trans h.output, Nat.le_trans h.size hg.size, fun k hk hs => (hg.block k (by have := h.size; omega) (by simp; omega)).trans (h.block k hk hs)⟩
theorem Mut.grownS {a w w' : World} {om : Nat} (h : Mut (· = om) a w) (hg : w.grownBy w' (some om)) : Mut (· = om) a w' :=
  ⟨hg.os.trans h.os, hg.tape.trans h.tape, hg.output.trans h.output, Nat.le_trans h.size hg.size, fun k hk hs => (hg.block k (by have := h.size; omega) (by simpa using hs)).trans (h.block k hk hs)⟩
theorem add_all {P : Int → Int → Bool} {lo : List (Int × Int)} {p : Int × Int} (h : ∀ p ∈ lo, P p.1 p.2 = true ∧ smx p.1 ∧ smx p.2) (hp : P p.1 p.2 = true ∧ smx p.1 ∧ smx p.2) : ∀ p' ∈ lo ++ [(p.1, p.2)], P p'.1 p'.2 = true ∧ smx p'.1 ∧ smx p'.2 := by
  intro q hq
  rcases List.mem_append.1 hq with h1 | h1
  · exact h q h1
  · simp at h1; subst h1; exact hp
theorem left_miss {P : Int → Int → Bool} {left : Lit → Bool} {lo lc : List (Int × Int)} {p : Int × Int} {kl : Lit} (h : ∀ p ∈ lc, left (SPK p.1 p.2) = true ∨ (P p.1 p.2 = true → p ∈ lo)) (hk : kl = SPK p.1 p.2) (hz : P p.1 p.2 = false) (hl : ∀ p ∈ lc, smx p.1 ∧ smx p.2) (hp : p ∈ lc) : ∀ q ∈ lc, (left (SPK q.1 q.2) && !(SPK q.1 q.2).sameKey kl) = true ∨ (P q.1 q.2 = true → q ∈ lo) := by
  intro q hq
  by_cases e : (SPK q.1 q.2).sameKey kl = true
  · have e2 := (WideAt.sameKey_eq e).trans hk
    have s1 := hl q hq
    have s2 := hl p hp
    obtain ⟨f1, f2⟩ := spk_inj (smx_wf s1.1) (smx_wf s1.2) (smx_wf s2.1) (smx_wf s2.2) e2
    right; intro hP; rw [f1, f2, hz] at hP; cases hP
  · rcases h q hq with h1 | h1
    · left; simp [h1, e]
    · exact .inr h1
theorem left_hit {P : Int → Int → Bool} {left : Lit → Bool} {lo lc : List (Int × Int)} {p : Int × Int} {kl : Lit} (h : ∀ p ∈ lc, left (SPK p.1 p.2) = true ∨ (P p.1 p.2 = true → p ∈ lo)) (hk : kl = SPK p.1 p.2) (hl : ∀ p ∈ lc, smx p.1 ∧ smx p.2) (hp : p ∈ lc) : ∀ q ∈ lc, (left (SPK q.1 q.2) && !(SPK q.1 q.2).sameKey kl) = true ∨ (P q.1 q.2 = true → q ∈ lo ++ [(p.1, p.2)]) := by
  intro q hq
  by_cases e : (SPK q.1 q.2).sameKey kl = true
  · have e2 := (WideAt.sameKey_eq e).trans hk
    have s1 := hl q hq
    have s2 := hl p hp
    obtain ⟨f1, f2⟩ := spk_inj (smx_wf s1.1) (smx_wf s1.2) (smx_wf s2.1) (smx_wf s2.2) e2
    right; intro _
    rw [show q = (p.1, p.2) from Prod.ext f1 f2]
    simp
  · rcases h q hq with h1 | h1
    · left; simp [h1, e]
    · exact .inr (fun hP => List.mem_append_left _ (h1 hP))
theorem lo_eq {P : Int → Int → Bool} {lo la lb : List (Int × Int)} (hA : ∀ p q, P p q = true → (p, q) ∈ la ∨ (p, q) ∈ lb) (h : ∀ p ∈ lo, P p.1 p.2 = true ∧ smx p.1 ∧ smx p.2) (h1 : ∀ p ∈ la, P p.1 p.2 = true → p ∈ lo) (h2 : ∀ p ∈ lb, P p.1 p.2 = true → p ∈ lo) : (fun p q => decide ((p, q) ∈ lo)) = P := by
  funext p q
  rw [Bool.eq_iff_iff, decide_eq_true_eq]
  constructor
  · intro hm; exact (h _ hm).1
  · intro hm
    rcases hA p q hm with h3 | h3
    · exact h1 _ h3 hm
    · exact h2 _ h3 hm
theorem own_mut {w w' : World} {bm nn om : Nat} {l : List (Int × Int)} (h : w.ownsMap Tryz.prog 72 (plainElem Tryz.prog 4) bm nn (DS l)) (hm : Mut (· = om) w w') (hne : bm ≠ om) : w'.ownsMap Tryz.prog 72 (plainElem Tryz.prog 4) bm nn (DS l) := by
  obtain ⟨es, clock, h1, F, hs, hD⟩ := h
  exact ⟨es, clock, (hm.block bm (Decidable.byContradiction fun hn => by rw [Array.getElem?_eq_none (by omega)] at h1; cases h1) hne).trans h1, F, hs, hD⟩
/-- Three maps: two sets and an empty one. -/
def MapsE (w0 : World) (la lb : List (Int × Int)) (s8 s9 s10 : Value) (wx : World) : Prop :=
  ∃ bm bn om nm nn, s8 = .map (some bm) ∧ s9 = .map (some bn) ∧ s10 = .map (some om) ∧ wx.ownsMap Tryz.prog 72 (plainElem Tryz.prog 4) bm nm (DS la) ∧ wx.ownsMap Tryz.prog 72 (plainElem Tryz.prog 4) bn nn (DS lb) ∧ wx.ownsMap Tryz.prog 72 (plainElem Tryz.prog 4) om 0 (DS []) ∧ bm ≠ om ∧ bn ≠ om ∧ nm ≤ 1000000 ∧ nn ≤ 1000000 ∧ w0.heap.size ≤ om ∧ Below w0.heap.size w0 wx
theorem isUnion_any (x y : Bool) (w : World) : Calls Tryz.prog 9 #[.bool x, .bool y] w fun e w' => e = .returned (.bool (x || y)) ∧ w' = w := by
  rcases x with _ | _ <;> rcases y with _ | _
  all_goals
    go_enter Tryz.func9, Tryz.ntmps9
    go_wp2
    go_ret
    exact ⟨rfl, rfl⟩
set_option maxRecDepth 100000 in
set_option maxHeartbeats 16000000 in
theorem combUnion_any (s x y : Int) (a : Option Addr) (n c : Nat) (R : Nat → List UInt8) (s' x' y' : Int) (a' : Option Addr) (n' c' : Nat) (R' : Nat → List UInt8) (w : World) (cx cy dx dy : Int) (m m' : Nat) (hv1 : VC s x y n R cx cy m) (hv2 : VC s' x' y' n' R' dx dy m') (P : Int → Int → Bool) (hPQ : ∀ p q, P p q = (covB cx cy n R p q || covB dx dy n' R' p q)) (hr : RowS w a n R) (hr' : RowS w a' n' R') :
    Calls Tryz.prog 22 #[.agg #[.int .i64 s, .int .i64 x, .int .i64 y, .slice a n c], .agg #[.int .i64 s', .int .i64 x', .int .i64 y', .slice a' n' c'], .func (.func 9) #[] #[]] w (CellsRes P s w) := by
  have hmm := @run_makeMap Tryz.prog
  have HPQ := Lib.hid hPQ
  have HV1 := Lib.hid hv1
  have HV2 := Lib.hid hv2
  have HRa := Lib.hid hr
  have HRb := Lib.hid hr'
  clear hv1 hv2 hPQ hr hr'
  go_enter Tryz.func22, Tryz.ntmps22
  go_wp2_with (fail)
  have HW : Hid (Below w.heap.size w (((w.alloc (.cells #[.int .i64 s, .int .i64 x, .int .i64 y, .slice a n c] 28)).alloc (.cells #[.int .i64 s', .int .i64 x', .int .i64 y', .slice a' n' c'] 28)).alloc (.cells #[.int .i64 0, .int .i64 0, .int .i64 0, .slice none 0 0] 28))) := Lib.hid (by repeat (first | exact Below.refl _ _ | assumption | refine Below.drew ?_ | refine bdrewN ?_ _ | refine Below.setCell ?_ (by first | omega | (simp <;> omega)) _ | refine Below.alloc ?_ (by first | omega | (simp <;> omega)) _))
  have HA : Hid ((((w.alloc (.cells #[.int .i64 s, .int .i64 x, .int .i64 y, .slice a n c] 28)).alloc (.cells #[.int .i64 s', .int .i64 x', .int .i64 y', .slice a' n' c'] 28)).alloc (.cells #[.int .i64 0, .int .i64 0, .int .i64 0, .slice none 0 0] 28)).heap[w.heap.size]? = some (.cells #[.int .i64 s, .int .i64 x, .int .i64 y, .slice a n c] 28 (0, 0))) := Lib.hid (by repeat (first | (refine heap_new ?_; first | rfl | (simp; done)) | rw [Below.heap_alloc _ _ _ (by simp <;> omega)]))
  have HB : Hid ((((w.alloc (.cells #[.int .i64 s, .int .i64 x, .int .i64 y, .slice a n c] 28)).alloc (.cells #[.int .i64 s', .int .i64 x', .int .i64 y', .slice a' n' c'] 28)).alloc (.cells #[.int .i64 0, .int .i64 0, .int .i64 0, .slice none 0 0] 28)).heap[w.heap.size + 1]? = some (.cells #[.int .i64 s', .int .i64 x', .int .i64 y', .slice a' n' c'] 28 (0, 0))) := Lib.hid (by repeat (first | (refine heap_new ?_; first | rfl | (simp; done)) | rw [Below.heap_alloc _ _ _ (by simp <;> omega)]))
  have HZ : Hid ((((w.alloc (.cells #[.int .i64 s, .int .i64 x, .int .i64 y, .slice a n c] 28)).alloc (.cells #[.int .i64 s', .int .i64 x', .int .i64 y', .slice a' n' c'] 28)).alloc (.cells #[.int .i64 0, .int .i64 0, .int .i64 0, .slice none 0 0] 28)).heap[w.heap.size + 1 + 1]? = some (.cells #[.int .i64 0, .int .i64 0, .int .i64 0, .slice none 0 0] 28 (0, 0))) := Lib.hid (by repeat (first | (refine heap_new ?_; first | rfl | (simp; done)) | rw [Below.heap_alloc _ _ _ (by simp <;> omega)]))
  generalize (((w.alloc (.cells #[.int .i64 s, .int .i64 x, .int .i64 y, .slice a n c] 28)).alloc (.cells #[.int .i64 s', .int .i64 x', .int .i64 y', .slice a' n' c'] 28)).alloc (.cells #[.int .i64 0, .int .i64 0, .int .i64 0, .slice none 0 0] 28)) = w0 at *
  have HR1 := Lib.hid (HRa.out.kept HW.out)
  have HR2 := Lib.hid (HRb.out.kept HW.out)
  go_cut [8, 9, 10] from 14 to 19 (MapsE w0 (setL cx cy R n) (setL dx dy R' n'))
  case first =>
    refine wp_region_held_drew (S := (fun w' : World => w'.heap[w.heap.size]? = some (.cells #[.int .i64 s, .int .i64 x, .int .i64 y, .slice a n c] 28 (0, 0)) ∧ w'.heap[w.heap.size + 1]? = some (.cells #[.int .i64 s', .int .i64 x', .int .i64 y', .slice a' n' c'] 28 (0, 0)))) (by kernel_rfl) ⟨HA.out, HB.out⟩ (fun hHeld => ?_)
    refine tkH hHeld 0 (oi := ?_) (v := ?_) ?_ ?_ ?_ ?_ ?_ ?_ ?_ ?_; rotate_left 2; (simp only [gA, gB, gC]; exact rfl); kernel_rfl; kernel_rfl; kernel_rfl; exact fun _ _ _ h => h; rfl; (intro w' hSw; obtain ⟨hs1, hs2⟩ := hSw; have z0 := cell_of (i := 0) hs1 rfl; have z1 := cell_of (i := 1) hs1 rfl; have z2 := cell_of (i := 2) hs1 rfl; have z3 := cell_of (i := 3) hs1 rfl; clear hs1 hs2; go_simp; with_reducible rfl); simp only [Act.put, pB, pC, pD]
    refine tkH hHeld 2 (oi := ?_) (v := ?_) ?_ ?_ ?_ ?_ ?_ ?_ ?_ ?_; rotate_left 2; (simp only [gA, gB, gC]; exact rfl); kernel_rfl; kernel_rfl; kernel_rfl; exact fun _ _ _ h => h; rfl; (intro w' hSw; obtain ⟨hs1, hs2⟩ := hSw; have z0 := cell_of (i := 0) hs2 rfl; have z1 := cell_of (i := 1) hs2 rfl; have z2 := cell_of (i := 2) hs2 rfl; have z3 := cell_of (i := 3) hs2 rfl; clear hs1 hs2; go_simp; with_reducible rfl); simp only [Act.put, pB, pC, pD]
    clear hHeld
    have HT : Hid (Below w0.heap.size w0 w0.drew) := Lib.hid (Below.refl _ _).drew
    generalize w0.drew = d0 at *
    refine wpAnyH_ready (rs := [1, 4]) (by kernel_rfl) (by simp) ?_
    refine coH 1 (oi := ?_) ?_ ?_ (fun K hK => ?_) ?_; rotate_left; (simp only [gA, gB, gC]; exact rfl); rfl
    ·
     go_wp2_with (fail)
     refine (setOf_all a c _ HV1.out (HR1.out.kept HT.out)).mono ?_
     rintro e d1 ⟨b1, nb1, rfl, hge, hle, hown, hb⟩
     have HN := Lib.hid hown
     clear hown
     go_wp2_with (fail)
     replace HT := Lib.hid (HT.out.trans (hb.mono HT.out.size))
     have HF := HN
     have lf := hle
     clear hb HN hge hle
     refine hK.out _ _ ⟨heap_keep HT.out HA.out, heap_keep HT.out HB.out⟩ (fun hHeld => ?_)
     clear hK K hHeld
     try simp only [Act.put, pB, pC, pD]
     refine wpAnyH_ready (rs := [3, 4]) (by kernel_rfl) (by simp) ?_
     refine coH 3 (oi := ?_) ?_ ?_ (fun K hK => ?_) ?_; rotate_left; (simp only [gA, gB, gC]; exact rfl); rfl
     ·
      go_wp2_with (fail)
      refine (setOf_all a' c' _ HV2.out (HR2.out.kept HT.out)).mono ?_
      rintro e d2 ⟨b2, nb2, rfl, hge, hle, hown, hb⟩
      have HN := Lib.hid hown
      clear hown
      go_wp2_with (fail)
      replace HT := Lib.hid (HT.out.trans (hb.mono HT.out.size))
      replace HF := Lib.hid (own_below HF.out hb)
      have HG := HN
      have lg := hle
      clear hb HN hge hle
      refine hK.out _ _ ⟨heap_keep HT.out HA.out, heap_keep HT.out HB.out⟩ (fun hHeld => ?_)
      clear hK K hHeld
      try simp only [Act.put, pB, pC, pD]
      refine tkH ⟨heap_keep HT.out HA.out, heap_keep HT.out HB.out⟩ 5 (oi := ?_) (v := ?_) ?_ ?_ ?_ ?_ ?_ ?_ ?_ ?_; rotate_left 2; (simp only [gA, gB, gC]; exact rfl); kernel_rfl; kernel_rfl; kernel_rfl; exact fun _ _ _ h => h; rfl; (intro w' hSw; go_simp; with_reducible rfl); simp only [Act.put, pB, pC, pD]
      refine tkH ⟨heap_keep HT.out HA.out, heap_keep HT.out HB.out⟩ 6 (oi := ?_) (v := ?_) ?_ ?_ ?_ ?_ ?_ ?_ ?_ ?_; rotate_left 2; (simp only [gA, gB, gC]; exact rfl); kernel_rfl; kernel_rfl; kernel_rfl; exact fun _ _ _ h => h; rfl; (intro w' hSw; go_simp; with_reducible rfl); simp only [Act.put, pB, pC, pD]
      refine wpAnyH_ready (rs := [4]) (by kernel_rfl) (by simp) ?_
      refine coH 4 (oi := ?_) ?_ ?_ (fun K hK => ?_) ?_; rotate_left; (simp only [gA, gB, gC]; exact rfl); rfl
      ·
       go_wp2_with (fail)
       have hb : Below d2.heap.size d2 (d2.alloc (.map #[] 0)) := (Below.refl _ _).alloc (Nat.le_refl _) _
       have HN : Hid ((d2.alloc (.map #[] 0)).ownsMap Tryz.prog 72 (plainElem Tryz.prog 4) d2.heap.size 0 (DS [])) := Lib.hid (World.ownsMap_made d2 Tryz.prog 72 (plainElem (H := Unit) Tryz.prog 4))
       have hwn : w0.heap.size ≤ d2.heap.size := HT.out.size
       have hn1 : b1 ≠ d2.heap.size := fun e => by have := HF.out.lt; omega
       have hn2 : b2 ≠ d2.heap.size := fun e => by have := HG.out.lt; omega
       generalize (d2.alloc (.map #[] 0)) = d3 at *
       replace HT := Lib.hid (HT.out.trans (hb.mono HT.out.size))
       replace HF := Lib.hid (own_below HF.out hb)
       replace HG := Lib.hid (own_below HG.out hb)
       have HO := HN
       have how := hwn
       have hfo := hn1
       have hgo := hn2
       clear hb HN
       refine hK.out _ _ ⟨heap_keep HT.out HA.out, heap_keep HT.out HB.out⟩ (fun hHeld => ?_)
       clear hK K hHeld
       try simp only [Act.put, pB, pC, pD]
       refine tkH ⟨heap_keep HT.out HA.out, heap_keep HT.out HB.out⟩ 7 (oi := ?_) (v := ?_) ?_ ?_ ?_ ?_ ?_ ?_ ?_ ?_; rotate_left 2; (simp only [gA, gB, gC]; exact rfl); kernel_rfl; kernel_rfl; kernel_rfl; exact fun _ _ _ h => h; rfl; (intro w' hSw; go_simp; with_reducible rfl); simp only [Act.put, pB, pC, pD]
       refine wpAnyH_done (by kernel_rfl) ?_ _
       go_wp2_with (fail)
       go_meet
       exact ⟨b1, b2, d2.heap.size, nb1, nb2, rfl, rfl, rfl, HF.out, HG.out, HO.out, hfo, hgo, lf, lg, how, HT.out⟩
      exact AllReadyH.nil
     refine coH 4 (oi := ?_) ?_ ?_ (fun K hK => ?_) ?_; rotate_left; (simp only [gA, gB, gC]; exact rfl); rfl
     ·
      go_wp2_with (fail)
      have hb : Below d1.heap.size d1 (d1.alloc (.map #[] 0)) := (Below.refl _ _).alloc (Nat.le_refl _) _
      have HN : Hid ((d1.alloc (.map #[] 0)).ownsMap Tryz.prog 72 (plainElem Tryz.prog 4) d1.heap.size 0 (DS [])) := Lib.hid (World.ownsMap_made d1 Tryz.prog 72 (plainElem (H := Unit) Tryz.prog 4))
      have hwn : w0.heap.size ≤ d1.heap.size := HT.out.size
      have hn1 : b1 ≠ d1.heap.size := fun e => by have := HF.out.lt; omega
      generalize (d1.alloc (.map #[] 0)) = d4 at *
      replace HT := Lib.hid (HT.out.trans (hb.mono HT.out.size))
      replace HF := Lib.hid (own_below HF.out hb)
      have HO := HN
      have how := hwn
      have hfo := hn1
      clear hb HN
      refine hK.out _ _ ⟨heap_keep HT.out HA.out, heap_keep HT.out HB.out⟩ (fun hHeld => ?_)
      clear hK K hHeld
      try simp only [Act.put, pB, pC, pD]
      refine wpAnyH_ready (rs := [3]) (by kernel_rfl) (by simp) ?_
      refine coH 3 (oi := ?_) ?_ ?_ (fun K hK => ?_) ?_; rotate_left; (simp only [gA, gB, gC]; exact rfl); rfl
      ·
       go_wp2_with (fail)
       refine (setOf_all a' c' _ HV2.out (HR2.out.kept HT.out)).mono ?_
       rintro e d5 ⟨b5, nb5, rfl, hge, hle, hown, hb⟩
       have HN := Lib.hid hown
       clear hown
       have hne : b5 ≠ d1.heap.size := fun e => by have := HO.out.lt; omega
       go_wp2_with (fail)
       replace HT := Lib.hid (HT.out.trans (hb.mono HT.out.size))
       replace HF := Lib.hid (own_below HF.out hb)
       replace HO := Lib.hid (own_below HO.out hb)
       have HG := HN
       have lg := hle
       have hgo := hne
       clear hne
       clear hb HN hge hle
       refine hK.out _ _ ⟨heap_keep HT.out HA.out, heap_keep HT.out HB.out⟩ (fun hHeld => ?_)
       clear hK K hHeld
       try simp only [Act.put, pB, pC, pD]
       refine tkH ⟨heap_keep HT.out HA.out, heap_keep HT.out HB.out⟩ 5 (oi := ?_) (v := ?_) ?_ ?_ ?_ ?_ ?_ ?_ ?_ ?_; rotate_left 2; (simp only [gA, gB, gC]; exact rfl); kernel_rfl; kernel_rfl; kernel_rfl; exact fun _ _ _ h => h; rfl; (intro w' hSw; go_simp; with_reducible rfl); simp only [Act.put, pB, pC, pD]
       refine tkH ⟨heap_keep HT.out HA.out, heap_keep HT.out HB.out⟩ 6 (oi := ?_) (v := ?_) ?_ ?_ ?_ ?_ ?_ ?_ ?_ ?_; rotate_left 2; (simp only [gA, gB, gC]; exact rfl); kernel_rfl; kernel_rfl; kernel_rfl; exact fun _ _ _ h => h; rfl; (intro w' hSw; go_simp; with_reducible rfl); simp only [Act.put, pB, pC, pD]
       refine tkH ⟨heap_keep HT.out HA.out, heap_keep HT.out HB.out⟩ 7 (oi := ?_) (v := ?_) ?_ ?_ ?_ ?_ ?_ ?_ ?_ ?_; rotate_left 2; (simp only [gA, gB, gC]; exact rfl); kernel_rfl; kernel_rfl; kernel_rfl; exact fun _ _ _ h => h; rfl; (intro w' hSw; go_simp; with_reducible rfl); simp only [Act.put, pB, pC, pD]
       refine wpAnyH_done (by kernel_rfl) ?_ _
       go_wp2_with (fail)
       go_meet
       exact ⟨b1, b5, d1.heap.size, nb1, nb5, rfl, rfl, rfl, HF.out, HG.out, HO.out, hfo, hgo, lf, lg, how, HT.out⟩
      exact AllReadyH.nil
     exact AllReadyH.nil
    refine coH 4 (oi := ?_) ?_ ?_ (fun K hK => ?_) ?_; rotate_left; (simp only [gA, gB, gC]; exact rfl); rfl
    ·
     go_wp2_with (fail)
     have hb : Below d0.heap.size d0 (d0.alloc (.map #[] 0)) := (Below.refl _ _).alloc (Nat.le_refl _) _
     have HN : Hid ((d0.alloc (.map #[] 0)).ownsMap Tryz.prog 72 (plainElem Tryz.prog 4) d0.heap.size 0 (DS [])) := Lib.hid (World.ownsMap_made d0 Tryz.prog 72 (plainElem (H := Unit) Tryz.prog 4))
     have hwn : w0.heap.size ≤ d0.heap.size := HT.out.size
     generalize (d0.alloc (.map #[] 0)) = d6 at *
     replace HT := Lib.hid (HT.out.trans (hb.mono HT.out.size))
     have HO := HN
     have how := hwn
     clear hb HN
     refine hK.out _ _ ⟨heap_keep HT.out HA.out, heap_keep HT.out HB.out⟩ (fun hHeld => ?_)
     clear hK K hHeld
     try simp only [Act.put, pB, pC, pD]
     refine wpAnyH_ready (rs := [1]) (by kernel_rfl) (by simp) ?_
     refine coH 1 (oi := ?_) ?_ ?_ (fun K hK => ?_) ?_; rotate_left; (simp only [gA, gB, gC]; exact rfl); rfl
     ·
      go_wp2_with (fail)
      refine (setOf_all a c _ HV1.out (HR1.out.kept HT.out)).mono ?_
      rintro e d7 ⟨b7, nb7, rfl, hge, hle, hown, hb⟩
      have HN := Lib.hid hown
      clear hown
      have hne : b7 ≠ d0.heap.size := fun e => by have := HO.out.lt; omega
      go_wp2_with (fail)
      replace HT := Lib.hid (HT.out.trans (hb.mono HT.out.size))
      replace HO := Lib.hid (own_below HO.out hb)
      have HF := HN
      have lf := hle
      have hfo := hne
      clear hne
      clear hb HN hge hle
      refine hK.out _ _ ⟨heap_keep HT.out HA.out, heap_keep HT.out HB.out⟩ (fun hHeld => ?_)
      clear hK K hHeld
      try simp only [Act.put, pB, pC, pD]
      refine wpAnyH_ready (rs := [3]) (by kernel_rfl) (by simp) ?_
      refine coH 3 (oi := ?_) ?_ ?_ (fun K hK => ?_) ?_; rotate_left; (simp only [gA, gB, gC]; exact rfl); rfl
      ·
       go_wp2_with (fail)
       refine (setOf_all a' c' _ HV2.out (HR2.out.kept HT.out)).mono ?_
       rintro e d8 ⟨b8, nb8, rfl, hge, hle, hown, hb⟩
       have HN := Lib.hid hown
       clear hown
       have hne : b8 ≠ d0.heap.size := fun e => by have := HO.out.lt; omega
       go_wp2_with (fail)
       replace HT := Lib.hid (HT.out.trans (hb.mono HT.out.size))
       replace HF := Lib.hid (own_below HF.out hb)
       replace HO := Lib.hid (own_below HO.out hb)
       have HG := HN
       have lg := hle
       have hgo := hne
       clear hne
       clear hb HN hge hle
       refine hK.out _ _ ⟨heap_keep HT.out HA.out, heap_keep HT.out HB.out⟩ (fun hHeld => ?_)
       clear hK K hHeld
       try simp only [Act.put, pB, pC, pD]
       refine tkH ⟨heap_keep HT.out HA.out, heap_keep HT.out HB.out⟩ 5 (oi := ?_) (v := ?_) ?_ ?_ ?_ ?_ ?_ ?_ ?_ ?_; rotate_left 2; (simp only [gA, gB, gC]; exact rfl); kernel_rfl; kernel_rfl; kernel_rfl; exact fun _ _ _ h => h; rfl; (intro w' hSw; go_simp; with_reducible rfl); simp only [Act.put, pB, pC, pD]
       refine tkH ⟨heap_keep HT.out HA.out, heap_keep HT.out HB.out⟩ 6 (oi := ?_) (v := ?_) ?_ ?_ ?_ ?_ ?_ ?_ ?_ ?_; rotate_left 2; (simp only [gA, gB, gC]; exact rfl); kernel_rfl; kernel_rfl; kernel_rfl; exact fun _ _ _ h => h; rfl; (intro w' hSw; go_simp; with_reducible rfl); simp only [Act.put, pB, pC, pD]
       refine tkH ⟨heap_keep HT.out HA.out, heap_keep HT.out HB.out⟩ 7 (oi := ?_) (v := ?_) ?_ ?_ ?_ ?_ ?_ ?_ ?_ ?_; rotate_left 2; (simp only [gA, gB, gC]; exact rfl); kernel_rfl; kernel_rfl; kernel_rfl; exact fun _ _ _ h => h; rfl; (intro w' hSw; go_simp; with_reducible rfl); simp only [Act.put, pB, pC, pD]
       refine wpAnyH_done (by kernel_rfl) ?_ _
       go_wp2_with (fail)
       go_meet
       exact ⟨b7, b8, d0.heap.size, nb7, nb8, rfl, rfl, rfl, HF.out, HG.out, HO.out, hfo, hgo, lf, lg, how, HT.out⟩
      exact AllReadyH.nil
     exact AllReadyH.nil
    exact AllReadyH.nil
  case rest =>
    obtain ⟨bm, bn, om, nm, nn, rfl, rfl, rfl, hom1, hom2, hom3, hb1, hb2, hn1, hn2, how, hbel⟩ := hcut
    have HP1 : Hid (∀ p ∈ (setL cx cy R n), smx p.1 ∧ smx p.2) := Lib.hid (set_smx (by have := HV1.out.bx; omega) (by have := HV1.out.by_; omega) (by have := HV1.out.n2; omega) (fun i hi => by rw [(HV1.out.row i hi).1]; have := HV1.out.m2; omega))
    have HP2 : Hid (∀ p ∈ (setL dx dy R' n'), smx p.1 ∧ smx p.2) := Lib.hid (set_smx (by have := HV2.out.bx; omega) (by have := HV2.out.by_; omega) (by have := HV2.out.n2; omega) (fun i hi => by rw [(HV2.out.row i hi).1]; have := HV2.out.m2; omega))
    have HM1 := Lib.hid hom1
    have HM2 := Lib.hid hom2
    have HM3 := Lib.hid hom3
    have hz0l := lt_of_heap HZ.out
    have HA' := Lib.hid (heap_keep hbel HA.out)
    have HZ' := Lib.hid (heap_keep hbel HZ.out)
    have HBw := Lib.hid (HW.out.trans (hbel.mono HW.out.size))
    have hl1 := hom1.lt
    have hl2 := hom2.lt
    have hl3 := hom3.lt
    clear hom1 hom2 hom3 HA HB HZ HR1 HR2 HW hbel
    go_upto_region 3 with (fail)
    have HARR : Hid ((wc.alloc (.cells #[.map (some bm), .map (some bn)] 65)).heap[wc.heap.size]? = some (.cells #[.map (some bm), .map (some bn)] 65 (0, 0))) := Lib.hid (heap_new rfl)
    have HM1a := Lib.hid (HM1.out.alloc (.cells #[.map (some bm), .map (some bn)] 65))
    have HM2a := Lib.hid (HM2.out.alloc (.cells #[.map (some bm), .map (some bn)] 65))
    have HA1 := Lib.hid (heap_keep ((Below.refl _ _).alloc (Nat.le_refl _) (.cells #[.map (some bm), .map (some bn)] 65)) HA'.out)
    have HZ1' := Lib.hid (heap_keep ((Below.refl _ _).alloc (Nat.le_refl _) (.cells #[.map (some bm), .map (some bn)] 65)) HZ'.out)
    have HBw1 := Lib.hid (HBw.out.alloc HBw.out.size (.cells #[.map (some bm), .map (some bn)] 65))
    have hz2l := lt_of_heap HZ'.out
    have HO0 := Lib.hid (HM3.out.alloc (.cells #[.map (some bm), .map (some bn)] 65))
    have hv1 : wc.heap.size + 1 = (wc.alloc (.cells #[.map (some bm), .map (some bn)] 65)).heap.size := by simp
    have HV1s := Lib.hid hv1
    have hv1l : wc.heap.size < (wc.alloc (.cells #[.map (some bm), .map (some bn)] 65)).heap.size := by simp
    clear hv1
    change Code.wp _ _ _ _ (wc.alloc (.cells #[.map (some bm), .map (some bn)] 65))
    generalize (wc.alloc (.cells #[.map (some bm), .map (some bn)] 65)) = v1 at *
    go_loopw [23] (fun i wr => ∃ (k mm : Nat) (lo : List (Int × Int)), k ≤ 2 ∧ i = .int .i64 k ∧ mm ≤ k * 1000000 ∧ wr.ownsMap Tryz.prog 72 (plainElem Tryz.prog 4) om mm (DS lo) ∧ (∀ p ∈ lo, P p.1 p.2 = true ∧ smx p.1 ∧ smx p.2) ∧ (1 ≤ k → ∀ p ∈ (setL cx cy R n), P p.1 p.2 = true → p ∈ lo) ∧ (2 ≤ k → ∀ p ∈ (setL dx dy R' n'), P p.1 p.2 = true → p ∈ lo) ∧ Mut (· = om) v1 wr) (fun i _ => 2 - (intOf i).toNat)
    case atStart => exact ⟨0, 0, [], by omega, rfl, by omega, HO0.out, fun p hp => by simp at hp, fun h => by omega, fun h => by omega, Mut.refl _ _⟩
    case round =>
      obtain ⟨k, mm0, lo0, hk, rfl, hmm0, hown, hlo, hla, hlb, hmu⟩ := hrel
      have HO := Lib.hid hown
      have HLO := Lib.hid hlo
      have HLA := Lib.hid hla
      have HLB := Lib.hid hlb
      have HMU := Lib.hid hmu
      have hszr := hmu.size
      have ec : wr.cell? ⟨wc.heap.size, 0, none⟩ = some (.map (some bm)) ∧ wr.cell? ⟨wc.heap.size, 1, none⟩ = some (.map (some bn)) := by
        have h1 := (hmu.block wc.heap.size (by omega) (by omega)).trans HARR.out
        exact ⟨cell_of h1 rfl, cell_of h1 rfl⟩
      clear hown hlo hla hlb hmu
      rcases k with _ | _ | k
      · obtain ⟨ec0, ec1⟩ := ec
        have ec := ec0
        clear ec0 ec1
        have hcm : Hid (wr.ownsMap Tryz.prog 72 (plainElem Tryz.prog 4) bm nm (DS (setL cx cy R n))) := Lib.hid (own_mut HM1a.out HMU.out hb1)
        obtain ⟨wo, hwo⟩ : ∃ wo : World, wr = wo := ⟨_, rfl⟩
        rw [hwo] at HMU HO hcm hszr ec ⊢
        clear hwo
        go_wp2_with (at_range; refine wpList_range_own _ rfl _ 65 rfl 72 4 spotKeyed Tryz.underlying65 (plainElem Tryz.prog 4) bm nm (DS (setL cx cy R n)) rfl hcm.out ?_; intro w3 hrg hg0 hs0)
        have HRG := Lib.hid hrg
        have HO3 := Lib.hid (HO.out.kept hg0 (by simp))
        have HMU3 := Lib.hid (HMU.out.grown' hg0)
        have hcl := left_le hrg
        have hs3 : w3.heap.size = wo.heap.size + 1 := hs0
        have HS3 := Lib.hid hs3
        clear hrg hg0 hs0 hs3 hcm
        go_frame
        go_loopw [13] (fun _ wr => ∃ (mm : Nat) (lo : List (Int × Int)) (left : Lit → Bool) (cnt : Nat), mm + cnt ≤ 0 * 1000000 + nm ∧ wr.ownsMap Tryz.prog 72 (plainElem Tryz.prog 4) om mm (DS lo) ∧ wr.ranges Tryz.prog 72 (plainElem Tryz.prog 4) bm wo.heap.size nm (DS (setL cx cy R n)) left cnt ∧ (∀ p ∈ lo, P p.1 p.2 = true ∧ smx p.1 ∧ smx p.2) ∧ (∀ p ∈ lo0, p ∈ lo) ∧ (∀ p ∈ (setL cx cy R n), left (SPK p.1 p.2) = true ∨ (P p.1 p.2 = true → p ∈ lo)) ∧ Mut (· = om) v1 wr) (fun _ wr => wr.rangeLeft bm wo.heap.size)
        case atStart =>
          refine ⟨mm0, lo0, _, _, by omega, HO3.out, HRG.out, HLO.out, fun p hp => hp, fun p hp => .inl ?_, HMU3.out⟩
          have := HP1.out p hp
          rw [ds_has this.1 this.2 _ HP1.out]
          simpa using hp
        case round =>
          obtain ⟨mm, lo, left, cnt, hmm, hown, hrg, hl1_, hl2_, hl3_, hmu⟩ := hrel
          have HO4 := Lib.hid hown
          have HRG4 := Lib.hid hrg
          have HL1 := Lib.hid hl1_
          have HL2 := Lib.hid hl2_
          have HL3 := Lib.hid hl3_
          have HMU4 := Lib.hid hmu
          have hrl := hrg.lt
          have hwz := hmu.size
          clear hown hrg hl1_ hl2_ hl3_ hmu
          go_wp2_with (at_next; refine wpList_next_ranges _ rfl _ rfl 72 spotKeyed (plainElem Tryz.prog 4) (fun p : Int × Int => .agg #[.int .i64 p.1, .int .i64 p.2]) (fun b : Bool => .bool b) (fun key kl h => by obtain ⟨p, e, _⟩ := key_spot_inv h; exact ⟨p, e⟩) (fun v y h => by obtain ⟨x, e, _⟩ := boolS_inv Tryz.underlying4 h; exact ⟨x, e⟩) bm wo.heap.size nm (DS (setL cx cy R n)) left cnt rfl HRG4.out ?_ ?_; all_goals (first | (intro p cv kl yv w5 cnt5 hkey hlk hv hat hrg5 hlt5 hg5 hs5 hen; try dsimp only at hkey hen) | (intro hc0 hl0)))
          · have HL0 := Lib.hid hl0
            have HDN : Hid (∀ p ∈ (setL cx cy R n), P p.1 p.2 = true → p ∈ lo) := Lib.hid (fun p hp hP => (HL3.out p hp).elim (fun h => by rw [HL0.out] at h; cases h) (fun f => f hP))
            clear hl0 hc0
            go_roundw
            case rel => exact ⟨0 + 1, mm, lo, by omega, by go_num, by omega, HO4.out, HL1.out, fun _ => HDN.out, fun h => by omega, HMU4.out⟩
            case measure => simp [intOf]
          · obtain ⟨hpm, hkk⟩ := entry_mem hkey hat HP1.out
            obtain ⟨hpx, hpy⟩ := HP1.out p hpm
            have hsy := hs5.symm
            have hKb : (w5.alloc (.cells #[.int .i64 p.1, .int .i64 p.2] 72)).heap[wr.heap.size]? = some (.cells #[.int .i64 p.1, .int .i64 p.2] 72 (0, 0)) := heap_new hsy
            have hM1 : (w5.alloc (.cells #[.int .i64 p.1, .int .i64 p.2] 72)).ownsMap Tryz.prog 72 (plainElem Tryz.prog 4) bm nm (DS (setL cx cy R n)) := ((own_mut HM1a.out HMU4.out hb1).kept hg5 (by simp; omega)).alloc _
            have hM2 : (w5.alloc (.cells #[.int .i64 p.1, .int .i64 p.2] 72)).ownsMap Tryz.prog 72 (plainElem Tryz.prog 4) bn nn (DS (setL dx dy R' n')) := ((own_mut HM2a.out HMU4.out hb2).kept hg5 (by simp; omega)).alloc _
            have HO5 : Hid ((w5.alloc (.cells #[.int .i64 p.1, .int .i64 p.2] 72)).ownsMap Tryz.prog 72 (plainElem Tryz.prog 4) om mm (DS lo)) := Lib.hid ((HO4.out.kept hg5 (by simp; omega)).alloc _)
            have HRG5 := Lib.hid (hrg5.alloc (.cells #[.int .i64 p.1, .int .i64 p.2] 72))
            have HMU5 := Lib.hid ((HMU4.out.grownR hg5 (by omega)).alloc (.cells #[.int .i64 p.1, .int .i64 p.2] 72))
            have HKK := Lib.hid hkk
            have HPM := Lib.hid hpm
            have HKY := Lib.hid (key_spot p.1 p.2 (smx_wf hpx) (smx_wf hpy))
            have hmeas : cnt5 < cnt := hlt5
            obtain ⟨z, hz⟩ : ∃ z, P p.1 p.2 = z := ⟨_, rfl⟩
            have HZ1 : Hid ((decide ((p.1, p.2) ∈ (setL cx cy R n)) || decide ((p.1, p.2) ∈ (setL dx dy R' n'))) = z) := Lib.hid ((HPQ.out p.1 p.2).symm.trans hz)
            have HZP := Lib.hid hz
            have hle5 : w5.heap.size < (w5.alloc (.cells #[.int .i64 p.1, .int .i64 p.2] 72)).heap.size := by simp
            clear hkey hlk hv hat hrg5 hg5 hs5 hen hkk hpm hsy hz
            generalize (w5.alloc (.cells #[.int .i64 p.1, .int .i64 p.2] 72)) = e5 at *
            rcases z with _ | _
            · refine wp_region_held_drew (S := (fun w' : World => w'.heap[wr.heap.size]? = some (.cells #[.int .i64 p.1, .int .i64 p.2] 72 (0, 0)) ∧ w'.ownsMap Tryz.prog 72 (plainElem Tryz.prog 4) bm nm (DS (setL cx cy R n)) ∧ w'.ownsMap Tryz.prog 72 (plainElem Tryz.prog 4) bn nn (DS (setL dx dy R' n')))) (by kernel_rfl) ⟨hKb, hM1, hM2⟩ (fun hHeld => ?_)
              refine tkH hHeld 0 (oi := ?_) (v := ?_) ?_ ?_ ?_ ?_ ?_ ?_ ?_ ?_; rotate_left 2; (simp only [gA, gB, gC]; exact rfl); kernel_rfl; kernel_rfl; kernel_rfl; exact fun _ _ _ h => h; rfl; (intro w' hSw; go_simp; with_reducible rfl); simp only [Act.put, pB, pC, pD]
              refine tkH hHeld 1 (oi := ?_) (v := ?_) ?_ ?_ ?_ ?_ ?_ ?_ ?_ ?_; rotate_left 2; (simp only [gA, gB, gC]; exact rfl); kernel_rfl; kernel_rfl; kernel_rfl; exact fun _ _ _ h => h; rfl; (intro w' hSw; go_simp; with_reducible rfl); simp only [Act.put, pB, pC, pD]
              refine tkH hHeld 2 (oi := ?_) (v := ?_) ?_ ?_ ?_ ?_ ?_ ?_ ?_ ?_; rotate_left 2; (simp only [gA, gB, gC]; exact rfl); kernel_rfl; kernel_rfl; kernel_rfl; exact fun _ _ _ h => h; rfl; (intro w' hSw; obtain ⟨s1, s2, s3⟩ := hSw; have k0 := cell_of (i := 0) s1 rfl; have k1 := cell_of (i := 1) s1 rfl; clear s1 s2 s3; go_simp; with_reducible rfl); simp only [Act.put, pB, pC, pD]
              refine tkH hHeld 4 (oi := ?_) (v := ?_) ?_ ?_ ?_ ?_ ?_ ?_ ?_ ?_; rotate_left 2; (simp only [gA, gB, gC]; exact rfl); kernel_rfl; kernel_rfl; kernel_rfl; exact fun _ _ _ h => h; rfl; (intro w' hSw; go_simp; with_reducible rfl); simp only [Act.put, pB, pC, pD]
              refine tkH hHeld 5 (oi := ?_) (v := ?_) ?_ ?_ ?_ ?_ ?_ ?_ ?_ ?_; rotate_left 2; (simp only [gA, gB, gC]; exact rfl); kernel_rfl; kernel_rfl; kernel_rfl; exact fun _ _ _ h => h; rfl; (intro w' hSw; obtain ⟨s1, s2, s3⟩ := hSw; have k0 := cell_of (i := 0) s1 rfl; have k1 := cell_of (i := 1) s1 rfl; clear s1 s2 s3; go_simp; with_reducible rfl); simp only [Act.put, pB, pC, pD]
              refine tkH hHeld 3 (oi := ?_) (v := ?_) ?_ ?_ ?_ ?_ ?_ ?_ ?_ ?_; rotate_left 2; (simp only [gA, gB, gC]; exact rfl); kernel_rfl; kernel_rfl; kernel_rfl; exact fun _ _ _ h => h; rfl; (intro w' hSw; obtain ⟨s1, s2, s3⟩ := hSw; have hk := look_spot s2 HP1.out hpx hpy; clear s1 s2 s3; go_simp; with_reducible rfl); simp only [Act.put, pB, pC, pD]
              refine tkH hHeld 6 (oi := ?_) (v := ?_) ?_ ?_ ?_ ?_ ?_ ?_ ?_ ?_; rotate_left 2; (simp only [gA, gB, gC]; exact rfl); kernel_rfl; kernel_rfl; kernel_rfl; exact fun _ _ _ h => h; rfl; (intro w' hSw; obtain ⟨s1, s2, s3⟩ := hSw; have hk := look_spot s3 HP2.out hpx hpy; clear s1 s2 s3; go_simp; with_reducible rfl); simp only [Act.put, pB, pC, pD]
              refine onH 7 (oi := ?_) (by kernel_rfl) ?_ ?_ (fun K hK => ?_); rotate_left; (simp only [gA, gB, gC]; exact rfl); rfl
              go_wp2_with (fail)
              refine (isUnion_any _ _ _).mono ?_
              rintro e w9 ⟨rfl, rfl⟩
              rw [show (decide ((p.1, p.2) ∈ (setL cx cy R n)) || decide ((p.1, p.2) ∈ (setL dx dy R' n'))) = false from HZ1.out]
              go_wp2_with (fail)
              refine hK.out _ _ hHeld (fun hH2 => ?_)
              clear hK K hHeld hH2
              try simp only [Act.put, pB, pC, pD]
              refine wpAnyH_done (by kernel_rfl) ?_ _
              
              have hNX := left_miss HL3.out HKK.out HZP.out HP1.out HPM.out
              have HNX := Lib.hid hNX
              have HRG6 := Lib.hid (ranges_drew HRG5.out)
              have HMU6 := Lib.hid HMU5.out.drew
              have HO6 := Lib.hid HO5.out.drew
              clear hNX HRG5 HMU5 HO5 hKb hM1 hM2
              go_wp2_with (fail)
              go_roundw
              case rel =>
                (repeat apply Exists.intro)
                refine ⟨?_, rfl⟩
                exact ⟨mm, lo, _, cnt5, by omega, HO6.out, HRG6.out, HL1.out, HL2.out, HNX.out, HMU6.out⟩
              case measure => (have hq := HRG6.out; rw [hq.left_eq, HRG4.out.left_eq]; exact hmeas)
            · refine wp_region_held_drew (S := (fun w' : World => w'.heap[wr.heap.size]? = some (.cells #[.int .i64 p.1, .int .i64 p.2] 72 (0, 0)) ∧ w'.ownsMap Tryz.prog 72 (plainElem Tryz.prog 4) bm nm (DS (setL cx cy R n)) ∧ w'.ownsMap Tryz.prog 72 (plainElem Tryz.prog 4) bn nn (DS (setL dx dy R' n')))) (by kernel_rfl) ⟨hKb, hM1, hM2⟩ (fun hHeld => ?_)
              refine tkH hHeld 0 (oi := ?_) (v := ?_) ?_ ?_ ?_ ?_ ?_ ?_ ?_ ?_; rotate_left 2; (simp only [gA, gB, gC]; exact rfl); kernel_rfl; kernel_rfl; kernel_rfl; exact fun _ _ _ h => h; rfl; (intro w' hSw; go_simp; with_reducible rfl); simp only [Act.put, pB, pC, pD]
              refine tkH hHeld 1 (oi := ?_) (v := ?_) ?_ ?_ ?_ ?_ ?_ ?_ ?_ ?_; rotate_left 2; (simp only [gA, gB, gC]; exact rfl); kernel_rfl; kernel_rfl; kernel_rfl; exact fun _ _ _ h => h; rfl; (intro w' hSw; go_simp; with_reducible rfl); simp only [Act.put, pB, pC, pD]
              refine tkH hHeld 2 (oi := ?_) (v := ?_) ?_ ?_ ?_ ?_ ?_ ?_ ?_ ?_; rotate_left 2; (simp only [gA, gB, gC]; exact rfl); kernel_rfl; kernel_rfl; kernel_rfl; exact fun _ _ _ h => h; rfl; (intro w' hSw; obtain ⟨s1, s2, s3⟩ := hSw; have k0 := cell_of (i := 0) s1 rfl; have k1 := cell_of (i := 1) s1 rfl; clear s1 s2 s3; go_simp; with_reducible rfl); simp only [Act.put, pB, pC, pD]
              refine tkH hHeld 4 (oi := ?_) (v := ?_) ?_ ?_ ?_ ?_ ?_ ?_ ?_ ?_; rotate_left 2; (simp only [gA, gB, gC]; exact rfl); kernel_rfl; kernel_rfl; kernel_rfl; exact fun _ _ _ h => h; rfl; (intro w' hSw; go_simp; with_reducible rfl); simp only [Act.put, pB, pC, pD]
              refine tkH hHeld 5 (oi := ?_) (v := ?_) ?_ ?_ ?_ ?_ ?_ ?_ ?_ ?_; rotate_left 2; (simp only [gA, gB, gC]; exact rfl); kernel_rfl; kernel_rfl; kernel_rfl; exact fun _ _ _ h => h; rfl; (intro w' hSw; obtain ⟨s1, s2, s3⟩ := hSw; have k0 := cell_of (i := 0) s1 rfl; have k1 := cell_of (i := 1) s1 rfl; clear s1 s2 s3; go_simp; with_reducible rfl); simp only [Act.put, pB, pC, pD]
              refine tkH hHeld 3 (oi := ?_) (v := ?_) ?_ ?_ ?_ ?_ ?_ ?_ ?_ ?_; rotate_left 2; (simp only [gA, gB, gC]; exact rfl); kernel_rfl; kernel_rfl; kernel_rfl; exact fun _ _ _ h => h; rfl; (intro w' hSw; obtain ⟨s1, s2, s3⟩ := hSw; have hk := look_spot s2 HP1.out hpx hpy; clear s1 s2 s3; go_simp; with_reducible rfl); simp only [Act.put, pB, pC, pD]
              refine tkH hHeld 6 (oi := ?_) (v := ?_) ?_ ?_ ?_ ?_ ?_ ?_ ?_ ?_; rotate_left 2; (simp only [gA, gB, gC]; exact rfl); kernel_rfl; kernel_rfl; kernel_rfl; exact fun _ _ _ h => h; rfl; (intro w' hSw; obtain ⟨s1, s2, s3⟩ := hSw; have hk := look_spot s3 HP2.out hpx hpy; clear s1 s2 s3; go_simp; with_reducible rfl); simp only [Act.put, pB, pC, pD]
              refine onH 7 (oi := ?_) (by kernel_rfl) ?_ ?_ (fun K hK => ?_); rotate_left; (simp only [gA, gB, gC]; exact rfl); rfl
              go_wp2_with (fail)
              refine (isUnion_any _ _ _).mono ?_
              rintro e w9 ⟨rfl, rfl⟩
              rw [show (decide ((p.1, p.2) ∈ (setL cx cy R n)) || decide ((p.1, p.2) ∈ (setL dx dy R' n'))) = true from HZ1.out]
              go_wp2_with (fail)
              refine hK.out _ _ hHeld (fun hH2 => ?_)
              clear hK K hHeld hH2
              try simp only [Act.put, pB, pC, pD]
              refine wpAnyH_done (by kernel_rfl) ?_ _
              
              have hNX := left_hit HL3.out HKK.out HP1.out HPM.out
              have HNX := Lib.hid hNX
              have HRG6 := Lib.hid (ranges_drew HRG5.out)
              have HMU6 := Lib.hid HMU5.out.drew
              have HO6 := Lib.hid HO5.out.drew
              have k0 : e5.drew.cell? ⟨wr.heap.size, 0, none⟩ = some (.int .i64 p.1) := cell_of (w := e5) hKb rfl
              have k1 : e5.drew.cell? ⟨wr.heap.size, 1, none⟩ = some (.int .i64 p.2) := cell_of (w := e5) hKb rfl
              clear hNX HRG5 HMU5 HO5 hKb hM1 hM2
              generalize e5.drew = e6 at *
              go_wp2_with (at_mapUpdate; refine wpList_mapUpdate_own _ rfl _ _ _ 65 rfl 72 4 spotKeyed Tryz.underlying65 _ om mm _ rfl HO6.out (by unfold maxLen; omega) _ _ _ rfl rfl HKY.out _ [] (plainElem_bool Tryz.underlying4 true) ?_; intro w6 hown6 hgrow6)
              have HO7 := Lib.hid hown6
              have HRG7 := Lib.hid (HRG6.out.kept hgrow6 (by simpa using hb1) (by simp; omega))
              have HMU7 := Lib.hid (HMU6.out.grownS hgrow6)
              clear hown6 hgrow6
              go_roundw
              case rel =>
                (repeat apply Exists.intro)
                refine ⟨?_, rfl⟩
                exact ⟨mm + 1, lo ++ [(p.1, p.2)], _, cnt5, by omega, by rw [ds_snoc]; exact HO7.out, HRG7.out, add_all HL1.out ⟨HZP.out, hpx, hpy⟩, fun p' hp' => List.mem_append_left _ (HL2.out p' hp'), HNX.out, HMU7.out⟩
              case measure => (have hq := HRG7.out; rw [hq.left_eq, HRG4.out.left_eq]; exact hmeas)
      · obtain ⟨ec0, ec1⟩ := ec
        have ec := ec1
        clear ec0 ec1
        have hcm : Hid (wr.ownsMap Tryz.prog 72 (plainElem Tryz.prog 4) bn nn (DS (setL dx dy R' n'))) := Lib.hid (own_mut HM2a.out HMU.out hb2)
        obtain ⟨wo, hwo⟩ : ∃ wo : World, wr = wo := ⟨_, rfl⟩
        rw [hwo] at HMU HO hcm hszr ec ⊢
        clear hwo
        go_wp2_with (at_range; refine wpList_range_own _ rfl _ 65 rfl 72 4 spotKeyed Tryz.underlying65 (plainElem Tryz.prog 4) bn nn (DS (setL dx dy R' n')) rfl hcm.out ?_; intro w3 hrg hg0 hs0)
        have HRG := Lib.hid hrg
        have HO3 := Lib.hid (HO.out.kept hg0 (by simp))
        have HMU3 := Lib.hid (HMU.out.grown' hg0)
        have hcl := left_le hrg
        have hs3 : w3.heap.size = wo.heap.size + 1 := hs0
        have HS3 := Lib.hid hs3
        clear hrg hg0 hs0 hs3 hcm
        go_frame
        go_loopw [13] (fun _ wr => ∃ (mm : Nat) (lo : List (Int × Int)) (left : Lit → Bool) (cnt : Nat), mm + cnt ≤ 1 * 1000000 + nn ∧ wr.ownsMap Tryz.prog 72 (plainElem Tryz.prog 4) om mm (DS lo) ∧ wr.ranges Tryz.prog 72 (plainElem Tryz.prog 4) bn wo.heap.size nn (DS (setL dx dy R' n')) left cnt ∧ (∀ p ∈ lo, P p.1 p.2 = true ∧ smx p.1 ∧ smx p.2) ∧ (∀ p ∈ lo0, p ∈ lo) ∧ (∀ p ∈ (setL dx dy R' n'), left (SPK p.1 p.2) = true ∨ (P p.1 p.2 = true → p ∈ lo)) ∧ Mut (· = om) v1 wr) (fun _ wr => wr.rangeLeft bn wo.heap.size)
        case atStart =>
          refine ⟨mm0, lo0, _, _, by omega, HO3.out, HRG.out, HLO.out, fun p hp => hp, fun p hp => .inl ?_, HMU3.out⟩
          have := HP2.out p hp
          rw [ds_has this.1 this.2 _ HP2.out]
          simpa using hp
        case round =>
          obtain ⟨mm, lo, left, cnt, hmm, hown, hrg, hl1_, hl2_, hl3_, hmu⟩ := hrel
          have HO4 := Lib.hid hown
          have HRG4 := Lib.hid hrg
          have HL1 := Lib.hid hl1_
          have HL2 := Lib.hid hl2_
          have HL3 := Lib.hid hl3_
          have HMU4 := Lib.hid hmu
          have hrl := hrg.lt
          have hwz := hmu.size
          clear hown hrg hl1_ hl2_ hl3_ hmu
          go_wp2_with (at_next; refine wpList_next_ranges _ rfl _ rfl 72 spotKeyed (plainElem Tryz.prog 4) (fun p : Int × Int => .agg #[.int .i64 p.1, .int .i64 p.2]) (fun b : Bool => .bool b) (fun key kl h => by obtain ⟨p, e, _⟩ := key_spot_inv h; exact ⟨p, e⟩) (fun v y h => by obtain ⟨x, e, _⟩ := boolS_inv Tryz.underlying4 h; exact ⟨x, e⟩) bn wo.heap.size nn (DS (setL dx dy R' n')) left cnt rfl HRG4.out ?_ ?_; all_goals (first | (intro p cv kl yv w5 cnt5 hkey hlk hv hat hrg5 hlt5 hg5 hs5 hen; try dsimp only at hkey hen) | (intro hc0 hl0)))
          · have HL0 := Lib.hid hl0
            have HDN : Hid (∀ p ∈ (setL dx dy R' n'), P p.1 p.2 = true → p ∈ lo) := Lib.hid (fun p hp hP => (HL3.out p hp).elim (fun h => by rw [HL0.out] at h; cases h) (fun f => f hP))
            clear hl0 hc0
            go_roundw
            case rel => exact ⟨1 + 1, mm, lo, by omega, by go_num, by omega, HO4.out, HL1.out, fun _ p hp hP => HL2.out p (HLA.out (by omega) p hp hP), fun _ => HDN.out, HMU4.out⟩
            case measure => simp [intOf]
          · obtain ⟨hpm, hkk⟩ := entry_mem hkey hat HP2.out
            obtain ⟨hpx, hpy⟩ := HP2.out p hpm
            have hsy := hs5.symm
            have hKb : (w5.alloc (.cells #[.int .i64 p.1, .int .i64 p.2] 72)).heap[wr.heap.size]? = some (.cells #[.int .i64 p.1, .int .i64 p.2] 72 (0, 0)) := heap_new hsy
            have hM1 : (w5.alloc (.cells #[.int .i64 p.1, .int .i64 p.2] 72)).ownsMap Tryz.prog 72 (plainElem Tryz.prog 4) bm nm (DS (setL cx cy R n)) := ((own_mut HM1a.out HMU4.out hb1).kept hg5 (by simp; omega)).alloc _
            have hM2 : (w5.alloc (.cells #[.int .i64 p.1, .int .i64 p.2] 72)).ownsMap Tryz.prog 72 (plainElem Tryz.prog 4) bn nn (DS (setL dx dy R' n')) := ((own_mut HM2a.out HMU4.out hb2).kept hg5 (by simp; omega)).alloc _
            have HO5 : Hid ((w5.alloc (.cells #[.int .i64 p.1, .int .i64 p.2] 72)).ownsMap Tryz.prog 72 (plainElem Tryz.prog 4) om mm (DS lo)) := Lib.hid ((HO4.out.kept hg5 (by simp; omega)).alloc _)
            have HRG5 := Lib.hid (hrg5.alloc (.cells #[.int .i64 p.1, .int .i64 p.2] 72))
            have HMU5 := Lib.hid ((HMU4.out.grownR hg5 (by omega)).alloc (.cells #[.int .i64 p.1, .int .i64 p.2] 72))
            have HKK := Lib.hid hkk
            have HPM := Lib.hid hpm
            have HKY := Lib.hid (key_spot p.1 p.2 (smx_wf hpx) (smx_wf hpy))
            have hmeas : cnt5 < cnt := hlt5
            obtain ⟨z, hz⟩ : ∃ z, P p.1 p.2 = z := ⟨_, rfl⟩
            have HZ1 : Hid ((decide ((p.1, p.2) ∈ (setL cx cy R n)) || decide ((p.1, p.2) ∈ (setL dx dy R' n'))) = z) := Lib.hid ((HPQ.out p.1 p.2).symm.trans hz)
            have HZP := Lib.hid hz
            have hle5 : w5.heap.size < (w5.alloc (.cells #[.int .i64 p.1, .int .i64 p.2] 72)).heap.size := by simp
            clear hkey hlk hv hat hrg5 hg5 hs5 hen hkk hpm hsy hz
            generalize (w5.alloc (.cells #[.int .i64 p.1, .int .i64 p.2] 72)) = e5 at *
            rcases z with _ | _
            · refine wp_region_held_drew (S := (fun w' : World => w'.heap[wr.heap.size]? = some (.cells #[.int .i64 p.1, .int .i64 p.2] 72 (0, 0)) ∧ w'.ownsMap Tryz.prog 72 (plainElem Tryz.prog 4) bm nm (DS (setL cx cy R n)) ∧ w'.ownsMap Tryz.prog 72 (plainElem Tryz.prog 4) bn nn (DS (setL dx dy R' n')))) (by kernel_rfl) ⟨hKb, hM1, hM2⟩ (fun hHeld => ?_)
              refine tkH hHeld 0 (oi := ?_) (v := ?_) ?_ ?_ ?_ ?_ ?_ ?_ ?_ ?_; rotate_left 2; (simp only [gA, gB, gC]; exact rfl); kernel_rfl; kernel_rfl; kernel_rfl; exact fun _ _ _ h => h; rfl; (intro w' hSw; go_simp; with_reducible rfl); simp only [Act.put, pB, pC, pD]
              refine tkH hHeld 1 (oi := ?_) (v := ?_) ?_ ?_ ?_ ?_ ?_ ?_ ?_ ?_; rotate_left 2; (simp only [gA, gB, gC]; exact rfl); kernel_rfl; kernel_rfl; kernel_rfl; exact fun _ _ _ h => h; rfl; (intro w' hSw; go_simp; with_reducible rfl); simp only [Act.put, pB, pC, pD]
              refine tkH hHeld 2 (oi := ?_) (v := ?_) ?_ ?_ ?_ ?_ ?_ ?_ ?_ ?_; rotate_left 2; (simp only [gA, gB, gC]; exact rfl); kernel_rfl; kernel_rfl; kernel_rfl; exact fun _ _ _ h => h; rfl; (intro w' hSw; obtain ⟨s1, s2, s3⟩ := hSw; have k0 := cell_of (i := 0) s1 rfl; have k1 := cell_of (i := 1) s1 rfl; clear s1 s2 s3; go_simp; with_reducible rfl); simp only [Act.put, pB, pC, pD]
              refine tkH hHeld 4 (oi := ?_) (v := ?_) ?_ ?_ ?_ ?_ ?_ ?_ ?_ ?_; rotate_left 2; (simp only [gA, gB, gC]; exact rfl); kernel_rfl; kernel_rfl; kernel_rfl; exact fun _ _ _ h => h; rfl; (intro w' hSw; go_simp; with_reducible rfl); simp only [Act.put, pB, pC, pD]
              refine tkH hHeld 5 (oi := ?_) (v := ?_) ?_ ?_ ?_ ?_ ?_ ?_ ?_ ?_; rotate_left 2; (simp only [gA, gB, gC]; exact rfl); kernel_rfl; kernel_rfl; kernel_rfl; exact fun _ _ _ h => h; rfl; (intro w' hSw; obtain ⟨s1, s2, s3⟩ := hSw; have k0 := cell_of (i := 0) s1 rfl; have k1 := cell_of (i := 1) s1 rfl; clear s1 s2 s3; go_simp; with_reducible rfl); simp only [Act.put, pB, pC, pD]
              refine tkH hHeld 3 (oi := ?_) (v := ?_) ?_ ?_ ?_ ?_ ?_ ?_ ?_ ?_; rotate_left 2; (simp only [gA, gB, gC]; exact rfl); kernel_rfl; kernel_rfl; kernel_rfl; exact fun _ _ _ h => h; rfl; (intro w' hSw; obtain ⟨s1, s2, s3⟩ := hSw; have hk := look_spot s2 HP1.out hpx hpy; clear s1 s2 s3; go_simp; with_reducible rfl); simp only [Act.put, pB, pC, pD]
              refine tkH hHeld 6 (oi := ?_) (v := ?_) ?_ ?_ ?_ ?_ ?_ ?_ ?_ ?_; rotate_left 2; (simp only [gA, gB, gC]; exact rfl); kernel_rfl; kernel_rfl; kernel_rfl; exact fun _ _ _ h => h; rfl; (intro w' hSw; obtain ⟨s1, s2, s3⟩ := hSw; have hk := look_spot s3 HP2.out hpx hpy; clear s1 s2 s3; go_simp; with_reducible rfl); simp only [Act.put, pB, pC, pD]
              refine onH 7 (oi := ?_) (by kernel_rfl) ?_ ?_ (fun K hK => ?_); rotate_left; (simp only [gA, gB, gC]; exact rfl); rfl
              go_wp2_with (fail)
              refine (isUnion_any _ _ _).mono ?_
              rintro e w9 ⟨rfl, rfl⟩
              rw [show (decide ((p.1, p.2) ∈ (setL cx cy R n)) || decide ((p.1, p.2) ∈ (setL dx dy R' n'))) = false from HZ1.out]
              go_wp2_with (fail)
              refine hK.out _ _ hHeld (fun hH2 => ?_)
              clear hK K hHeld hH2
              try simp only [Act.put, pB, pC, pD]
              refine wpAnyH_done (by kernel_rfl) ?_ _
              
              have hNX := left_miss HL3.out HKK.out HZP.out HP2.out HPM.out
              have HNX := Lib.hid hNX
              have HRG6 := Lib.hid (ranges_drew HRG5.out)
              have HMU6 := Lib.hid HMU5.out.drew
              have HO6 := Lib.hid HO5.out.drew
              clear hNX HRG5 HMU5 HO5 hKb hM1 hM2
              go_wp2_with (fail)
              go_roundw
              case rel =>
                (repeat apply Exists.intro)
                refine ⟨?_, rfl⟩
                exact ⟨mm, lo, _, cnt5, by omega, HO6.out, HRG6.out, HL1.out, HL2.out, HNX.out, HMU6.out⟩
              case measure => (have hq := HRG6.out; rw [hq.left_eq, HRG4.out.left_eq]; exact hmeas)
            · refine wp_region_held_drew (S := (fun w' : World => w'.heap[wr.heap.size]? = some (.cells #[.int .i64 p.1, .int .i64 p.2] 72 (0, 0)) ∧ w'.ownsMap Tryz.prog 72 (plainElem Tryz.prog 4) bm nm (DS (setL cx cy R n)) ∧ w'.ownsMap Tryz.prog 72 (plainElem Tryz.prog 4) bn nn (DS (setL dx dy R' n')))) (by kernel_rfl) ⟨hKb, hM1, hM2⟩ (fun hHeld => ?_)
              refine tkH hHeld 0 (oi := ?_) (v := ?_) ?_ ?_ ?_ ?_ ?_ ?_ ?_ ?_; rotate_left 2; (simp only [gA, gB, gC]; exact rfl); kernel_rfl; kernel_rfl; kernel_rfl; exact fun _ _ _ h => h; rfl; (intro w' hSw; go_simp; with_reducible rfl); simp only [Act.put, pB, pC, pD]
              refine tkH hHeld 1 (oi := ?_) (v := ?_) ?_ ?_ ?_ ?_ ?_ ?_ ?_ ?_; rotate_left 2; (simp only [gA, gB, gC]; exact rfl); kernel_rfl; kernel_rfl; kernel_rfl; exact fun _ _ _ h => h; rfl; (intro w' hSw; go_simp; with_reducible rfl); simp only [Act.put, pB, pC, pD]
              refine tkH hHeld 2 (oi := ?_) (v := ?_) ?_ ?_ ?_ ?_ ?_ ?_ ?_ ?_; rotate_left 2; (simp only [gA, gB, gC]; exact rfl); kernel_rfl; kernel_rfl; kernel_rfl; exact fun _ _ _ h => h; rfl; (intro w' hSw; obtain ⟨s1, s2, s3⟩ := hSw; have k0 := cell_of (i := 0) s1 rfl; have k1 := cell_of (i := 1) s1 rfl; clear s1 s2 s3; go_simp; with_reducible rfl); simp only [Act.put, pB, pC, pD]
              refine tkH hHeld 4 (oi := ?_) (v := ?_) ?_ ?_ ?_ ?_ ?_ ?_ ?_ ?_; rotate_left 2; (simp only [gA, gB, gC]; exact rfl); kernel_rfl; kernel_rfl; kernel_rfl; exact fun _ _ _ h => h; rfl; (intro w' hSw; go_simp; with_reducible rfl); simp only [Act.put, pB, pC, pD]
              refine tkH hHeld 5 (oi := ?_) (v := ?_) ?_ ?_ ?_ ?_ ?_ ?_ ?_ ?_; rotate_left 2; (simp only [gA, gB, gC]; exact rfl); kernel_rfl; kernel_rfl; kernel_rfl; exact fun _ _ _ h => h; rfl; (intro w' hSw; obtain ⟨s1, s2, s3⟩ := hSw; have k0 := cell_of (i := 0) s1 rfl; have k1 := cell_of (i := 1) s1 rfl; clear s1 s2 s3; go_simp; with_reducible rfl); simp only [Act.put, pB, pC, pD]
              refine tkH hHeld 3 (oi := ?_) (v := ?_) ?_ ?_ ?_ ?_ ?_ ?_ ?_ ?_; rotate_left 2; (simp only [gA, gB, gC]; exact rfl); kernel_rfl; kernel_rfl; kernel_rfl; exact fun _ _ _ h => h; rfl; (intro w' hSw; obtain ⟨s1, s2, s3⟩ := hSw; have hk := look_spot s2 HP1.out hpx hpy; clear s1 s2 s3; go_simp; with_reducible rfl); simp only [Act.put, pB, pC, pD]
              refine tkH hHeld 6 (oi := ?_) (v := ?_) ?_ ?_ ?_ ?_ ?_ ?_ ?_ ?_; rotate_left 2; (simp only [gA, gB, gC]; exact rfl); kernel_rfl; kernel_rfl; kernel_rfl; exact fun _ _ _ h => h; rfl; (intro w' hSw; obtain ⟨s1, s2, s3⟩ := hSw; have hk := look_spot s3 HP2.out hpx hpy; clear s1 s2 s3; go_simp; with_reducible rfl); simp only [Act.put, pB, pC, pD]
              refine onH 7 (oi := ?_) (by kernel_rfl) ?_ ?_ (fun K hK => ?_); rotate_left; (simp only [gA, gB, gC]; exact rfl); rfl
              go_wp2_with (fail)
              refine (isUnion_any _ _ _).mono ?_
              rintro e w9 ⟨rfl, rfl⟩
              rw [show (decide ((p.1, p.2) ∈ (setL cx cy R n)) || decide ((p.1, p.2) ∈ (setL dx dy R' n'))) = true from HZ1.out]
              go_wp2_with (fail)
              refine hK.out _ _ hHeld (fun hH2 => ?_)
              clear hK K hHeld hH2
              try simp only [Act.put, pB, pC, pD]
              refine wpAnyH_done (by kernel_rfl) ?_ _
              
              have hNX := left_hit HL3.out HKK.out HP2.out HPM.out
              have HNX := Lib.hid hNX
              have HRG6 := Lib.hid (ranges_drew HRG5.out)
              have HMU6 := Lib.hid HMU5.out.drew
              have HO6 := Lib.hid HO5.out.drew
              have k0 : e5.drew.cell? ⟨wr.heap.size, 0, none⟩ = some (.int .i64 p.1) := cell_of (w := e5) hKb rfl
              have k1 : e5.drew.cell? ⟨wr.heap.size, 1, none⟩ = some (.int .i64 p.2) := cell_of (w := e5) hKb rfl
              clear hNX HRG5 HMU5 HO5 hKb hM1 hM2
              generalize e5.drew = e6 at *
              go_wp2_with (at_mapUpdate; refine wpList_mapUpdate_own _ rfl _ _ _ 65 rfl 72 4 spotKeyed Tryz.underlying65 _ om mm _ rfl HO6.out (by unfold maxLen; omega) _ _ _ rfl rfl HKY.out _ [] (plainElem_bool Tryz.underlying4 true) ?_; intro w6 hown6 hgrow6)
              have HO7 := Lib.hid hown6
              have HRG7 := Lib.hid (HRG6.out.kept hgrow6 (by simpa using hb2) (by simp; omega))
              have HMU7 := Lib.hid (HMU6.out.grownS hgrow6)
              clear hown6 hgrow6
              go_roundw
              case rel =>
                (repeat apply Exists.intro)
                refine ⟨?_, rfl⟩
                exact ⟨mm + 1, lo ++ [(p.1, p.2)], _, cnt5, by omega, by rw [ds_snoc]; exact HO7.out, HRG7.out, add_all HL1.out ⟨HZP.out, hpx, hpy⟩, fun p' hp' => List.mem_append_left _ (HL2.out p' hp'), HNX.out, HMU7.out⟩
              case measure => (have hq := HRG7.out; rw [hq.left_eq, HRG4.out.left_eq]; exact hmeas)
      · obtain rfl : k = 0 := by omega
        have hA3 := (HMU.out.block w.heap.size (by omega) (by omega)).trans HA1.out
        have a0 : wr.cell? ⟨w.heap.size, 0, none⟩ = some (.int .i64 s) := cell_of hA3 rfl
        have HEQ : Hid ((fun p q => decide ((p, q) ∈ lo0)) = P) := Lib.hid (lo_eq (la := (setL cx cy R n)) (lb := (setL dx dy R' n')) (fun p q h => by have h2 := HPQ.out p q; rw [h] at h2; simp only [covB] at h2; simpa using h2) HLO.out (HLA.out (by omega)) (HLB.out (by omega)))
        have HZ4 := Lib.hid ((HMU.out.block (w.heap.size + 1 + 1) (by omega) (by omega)).trans HZ1'.out)
        have HB4 : Hid (Below w.heap.size w wr) := Lib.hid (HBw1.out.trans (HMU.out.toBelow w.heap.size (by omega) (fun k hk e => by omega)))
        have hom5 := HO.out
        have HOO := Lib.hid (fun p hp => (HLO.out p hp).2)
        clear hA3 ec
        go_wp2_with (fail)
        refine (cellsOf_any om mm0 lo0 s _ HO.out HOO.out HV1.out.s2).mono ?_
        rw [HEQ.out]
        rintro e w9 ⟨ez, ex, ey, ea, en, ec, eR, eE, rfl, hare, hrow, hfr, hn1_, hn2_, hn3_, hb⟩
        have hz := heap_keep hb HZ4.out
        have z0 : w9.cell? ⟨w.heap.size + 1 + 1, 0, none⟩ = some (.int .i64 0) := cell_of hz rfl
        have zf0 : w9.frozen? ⟨w.heap.size + 1 + 1, 0, none⟩ = false := frozen_of hz
        have z1 : w9.cell? ⟨w.heap.size + 1 + 1, 1, none⟩ = some (.int .i64 0) := cell_of hz rfl
        have zf1 : w9.frozen? ⟨w.heap.size + 1 + 1, 1, none⟩ = false := frozen_of hz
        have z2 : w9.cell? ⟨w.heap.size + 1 + 1, 2, none⟩ = some (.int .i64 0) := cell_of hz rfl
        have zf2 : w9.frozen? ⟨w.heap.size + 1 + 1, 2, none⟩ = false := frozen_of hz
        have z3 : w9.cell? ⟨w.heap.size + 1 + 1, 3, none⟩ = some (.slice none 0 0) := cell_of hz rfl
        have zf3 : w9.frozen? ⟨w.heap.size + 1 + 1, 3, none⟩ = false := frozen_of hz
        have HWB := Lib.hid (HB4.out.trans (hb.mono HB4.out.size))
        have hne : ∀ b off, ea = some ⟨b, off, none⟩ → b ≠ w.heap.size + 1 + 1 := fun b off h => by have := hfr b off h; omega
        have HARE := Lib.hid hare
        have HFR := Lib.hid (fun b off h => Nat.le_trans HB4.out.size (hfr b off h))
        have HN3 := Lib.hid hn3_
        have HNE := Lib.hid hne
        have HROW := Lib.hid hrow
        clear hz hne hrow hfr hare hn3_ hb hom5
        go_wp2_with (fail)
        obtain ⟨r0, r1, r2, r3⟩ := set4 (w := w9) (R := w.heap.size + 1 + 1) (x0 := (.int .i64 ez)) (x1 := (.int .i64 ex)) (x2 := (.int .i64 ey)) (x3 := (.slice ea en ec)) (is4 (is_some z0) (is_some z1) (is_some z2) (is_some z3)) rfl
        have HF : Hid (Below w.heap.size w ((((w9.setCell ⟨w.heap.size + 1 + 1, 0, none⟩ (.int .i64 ez)).setCell ⟨w.heap.size + 1 + 1, 1, none⟩ (.int .i64 ex)).setCell ⟨w.heap.size + 1 + 1, 2, none⟩ (.int .i64 ey)).setCell ⟨w.heap.size + 1 + 1, 3, none⟩ (.slice ea en ec))) := Lib.hid ((((HWB.out.setCell (by show _ ≤ w.heap.size + 1 + 1; omega) _).setCell (by show _ ≤ w.heap.size + 1 + 1; omega) _).setCell (by show _ ≤ w.heap.size + 1 + 1; omega) _).setCell (by show _ ≤ w.heap.size + 1 + 1; omega) _)
        have HRW : Hid (RowS ((((w9.setCell ⟨w.heap.size + 1 + 1, 0, none⟩ (.int .i64 ez)).setCell ⟨w.heap.size + 1 + 1, 1, none⟩ (.int .i64 ex)).setCell ⟨w.heap.size + 1 + 1, 2, none⟩ (.int .i64 ey)).setCell ⟨w.heap.size + 1 + 1, 3, none⟩ (.slice ea en ec)) ea en eR) := Lib.hid ((((HROW.out.set _ _ HNE.out).set _ _ HNE.out).set _ _ HNE.out).set _ _ HNE.out)
        generalize ((((w9.setCell ⟨w.heap.size + 1 + 1, 0, none⟩ (.int .i64 ez)).setCell ⟨w.heap.size + 1 + 1, 1, none⟩ (.int .i64 ex)).setCell ⟨w.heap.size + 1 + 1, 2, none⟩ (.int .i64 ey)).setCell ⟨w.heap.size + 1 + 1, 3, none⟩ (.slice ea en ec)) = WW at *
        exact bodyPost_ret (v := .tuple #[.agg #[.int .i64 ez, .int .i64 ex, .int .i64 ey, .slice ea en ec], .int .i64 eE]) (by simp [results, Tryz.results22, go_sem, r0, r1, r2, r3]) rfl ⟨ez, ex, ey, ea, en, ec, eR, eE, rfl, HARE.out, HRW.out, HFR.out, hn1_, hn2_, HN3.out, HF.out⟩
theorem isBoth_any (x y : Bool) (w : World) : Calls Tryz.prog 11 #[.bool x, .bool y] w fun e w' => e = .returned (.bool (x && y)) ∧ w' = w := by
  rcases x with _ | _ <;> rcases y with _ | _
  all_goals
    go_enter Tryz.func11, Tryz.ntmps11
    go_wp2
    go_ret
    exact ⟨rfl, rfl⟩
set_option maxRecDepth 100000 in
set_option maxHeartbeats 16000000 in
theorem combBoth_any (s x y : Int) (a : Option Addr) (n c : Nat) (R : Nat → List UInt8) (s' x' y' : Int) (a' : Option Addr) (n' c' : Nat) (R' : Nat → List UInt8) (w : World) (cx cy dx dy : Int) (m m' : Nat) (hv1 : VC s x y n R cx cy m) (hv2 : VC s' x' y' n' R' dx dy m') (P : Int → Int → Bool) (hPQ : ∀ p q, P p q = (covB cx cy n R p q && covB dx dy n' R' p q)) (hr : RowS w a n R) (hr' : RowS w a' n' R') :
    Calls Tryz.prog 22 #[.agg #[.int .i64 s, .int .i64 x, .int .i64 y, .slice a n c], .agg #[.int .i64 s', .int .i64 x', .int .i64 y', .slice a' n' c'], .func (.func 11) #[] #[]] w (CellsRes P s w) := by
  have hmm := @run_makeMap Tryz.prog
  have HPQ := Lib.hid hPQ
  have HV1 := Lib.hid hv1
  have HV2 := Lib.hid hv2
  have HRa := Lib.hid hr
  have HRb := Lib.hid hr'
  clear hv1 hv2 hPQ hr hr'
  go_enter Tryz.func22, Tryz.ntmps22
  go_wp2_with (fail)
  have HW : Hid (Below w.heap.size w (((w.alloc (.cells #[.int .i64 s, .int .i64 x, .int .i64 y, .slice a n c] 28)).alloc (.cells #[.int .i64 s', .int .i64 x', .int .i64 y', .slice a' n' c'] 28)).alloc (.cells #[.int .i64 0, .int .i64 0, .int .i64 0, .slice none 0 0] 28))) := Lib.hid (by repeat (first | exact Below.refl _ _ | assumption | refine Below.drew ?_ | refine bdrewN ?_ _ | refine Below.setCell ?_ (by first | omega | (simp <;> omega)) _ | refine Below.alloc ?_ (by first | omega | (simp <;> omega)) _))
  have HA : Hid ((((w.alloc (.cells #[.int .i64 s, .int .i64 x, .int .i64 y, .slice a n c] 28)).alloc (.cells #[.int .i64 s', .int .i64 x', .int .i64 y', .slice a' n' c'] 28)).alloc (.cells #[.int .i64 0, .int .i64 0, .int .i64 0, .slice none 0 0] 28)).heap[w.heap.size]? = some (.cells #[.int .i64 s, .int .i64 x, .int .i64 y, .slice a n c] 28 (0, 0))) := Lib.hid (by repeat (first | (refine heap_new ?_; first | rfl | (simp; done)) | rw [Below.heap_alloc _ _ _ (by simp <;> omega)]))
  have HB : Hid ((((w.alloc (.cells #[.int .i64 s, .int .i64 x, .int .i64 y, .slice a n c] 28)).alloc (.cells #[.int .i64 s', .int .i64 x', .int .i64 y', .slice a' n' c'] 28)).alloc (.cells #[.int .i64 0, .int .i64 0, .int .i64 0, .slice none 0 0] 28)).heap[w.heap.size + 1]? = some (.cells #[.int .i64 s', .int .i64 x', .int .i64 y', .slice a' n' c'] 28 (0, 0))) := Lib.hid (by repeat (first | (refine heap_new ?_; first | rfl | (simp; done)) | rw [Below.heap_alloc _ _ _ (by simp <;> omega)]))
  have HZ : Hid ((((w.alloc (.cells #[.int .i64 s, .int .i64 x, .int .i64 y, .slice a n c] 28)).alloc (.cells #[.int .i64 s', .int .i64 x', .int .i64 y', .slice a' n' c'] 28)).alloc (.cells #[.int .i64 0, .int .i64 0, .int .i64 0, .slice none 0 0] 28)).heap[w.heap.size + 1 + 1]? = some (.cells #[.int .i64 0, .int .i64 0, .int .i64 0, .slice none 0 0] 28 (0, 0))) := Lib.hid (by repeat (first | (refine heap_new ?_; first | rfl | (simp; done)) | rw [Below.heap_alloc _ _ _ (by simp <;> omega)]))
  generalize (((w.alloc (.cells #[.int .i64 s, .int .i64 x, .int .i64 y, .slice a n c] 28)).alloc (.cells #[.int .i64 s', .int .i64 x', .int .i64 y', .slice a' n' c'] 28)).alloc (.cells #[.int .i64 0, .int .i64 0, .int .i64 0, .slice none 0 0] 28)) = w0 at *
  have HR1 := Lib.hid (HRa.out.kept HW.out)
  have HR2 := Lib.hid (HRb.out.kept HW.out)
  go_cut [8, 9, 10] from 14 to 19 (MapsE w0 (setL cx cy R n) (setL dx dy R' n'))
  case first =>
    refine wp_region_held_drew (S := (fun w' : World => w'.heap[w.heap.size]? = some (.cells #[.int .i64 s, .int .i64 x, .int .i64 y, .slice a n c] 28 (0, 0)) ∧ w'.heap[w.heap.size + 1]? = some (.cells #[.int .i64 s', .int .i64 x', .int .i64 y', .slice a' n' c'] 28 (0, 0)))) (by kernel_rfl) ⟨HA.out, HB.out⟩ (fun hHeld => ?_)
    refine tkH hHeld 0 (oi := ?_) (v := ?_) ?_ ?_ ?_ ?_ ?_ ?_ ?_ ?_; rotate_left 2; (simp only [gA, gB, gC]; exact rfl); kernel_rfl; kernel_rfl; kernel_rfl; exact fun _ _ _ h => h; rfl; (intro w' hSw; obtain ⟨hs1, hs2⟩ := hSw; have z0 := cell_of (i := 0) hs1 rfl; have z1 := cell_of (i := 1) hs1 rfl; have z2 := cell_of (i := 2) hs1 rfl; have z3 := cell_of (i := 3) hs1 rfl; clear hs1 hs2; go_simp; with_reducible rfl); simp only [Act.put, pB, pC, pD]
    refine tkH hHeld 2 (oi := ?_) (v := ?_) ?_ ?_ ?_ ?_ ?_ ?_ ?_ ?_; rotate_left 2; (simp only [gA, gB, gC]; exact rfl); kernel_rfl; kernel_rfl; kernel_rfl; exact fun _ _ _ h => h; rfl; (intro w' hSw; obtain ⟨hs1, hs2⟩ := hSw; have z0 := cell_of (i := 0) hs2 rfl; have z1 := cell_of (i := 1) hs2 rfl; have z2 := cell_of (i := 2) hs2 rfl; have z3 := cell_of (i := 3) hs2 rfl; clear hs1 hs2; go_simp; with_reducible rfl); simp only [Act.put, pB, pC, pD]
    clear hHeld
    have HT : Hid (Below w0.heap.size w0 w0.drew) := Lib.hid (Below.refl _ _).drew
    generalize w0.drew = d0 at *
    refine wpAnyH_ready (rs := [1, 4]) (by kernel_rfl) (by simp) ?_
    refine coH 1 (oi := ?_) ?_ ?_ (fun K hK => ?_) ?_; rotate_left; (simp only [gA, gB, gC]; exact rfl); rfl
    ·
     go_wp2_with (fail)
     refine (setOf_all a c _ HV1.out (HR1.out.kept HT.out)).mono ?_
     rintro e d9 ⟨b9, nb9, rfl, hge, hle, hown, hb⟩
     have HN := Lib.hid hown
     clear hown
     go_wp2_with (fail)
     replace HT := Lib.hid (HT.out.trans (hb.mono HT.out.size))
     have HF := HN
     have lf := hle
     clear hb HN hge hle
     refine hK.out _ _ ⟨heap_keep HT.out HA.out, heap_keep HT.out HB.out⟩ (fun hHeld => ?_)
     clear hK K hHeld
     try simp only [Act.put, pB, pC, pD]
     refine wpAnyH_ready (rs := [3, 4]) (by kernel_rfl) (by simp) ?_
     refine coH 3 (oi := ?_) ?_ ?_ (fun K hK => ?_) ?_; rotate_left; (simp only [gA, gB, gC]; exact rfl); rfl
     ·
      go_wp2_with (fail)
      refine (setOf_all a' c' _ HV2.out (HR2.out.kept HT.out)).mono ?_
      rintro e d10 ⟨b10, nb10, rfl, hge, hle, hown, hb⟩
      have HN := Lib.hid hown
      clear hown
      go_wp2_with (fail)
      replace HT := Lib.hid (HT.out.trans (hb.mono HT.out.size))
      replace HF := Lib.hid (own_below HF.out hb)
      have HG := HN
      have lg := hle
      clear hb HN hge hle
      refine hK.out _ _ ⟨heap_keep HT.out HA.out, heap_keep HT.out HB.out⟩ (fun hHeld => ?_)
      clear hK K hHeld
      try simp only [Act.put, pB, pC, pD]
      refine tkH ⟨heap_keep HT.out HA.out, heap_keep HT.out HB.out⟩ 5 (oi := ?_) (v := ?_) ?_ ?_ ?_ ?_ ?_ ?_ ?_ ?_; rotate_left 2; (simp only [gA, gB, gC]; exact rfl); kernel_rfl; kernel_rfl; kernel_rfl; exact fun _ _ _ h => h; rfl; (intro w' hSw; go_simp; with_reducible rfl); simp only [Act.put, pB, pC, pD]
      refine tkH ⟨heap_keep HT.out HA.out, heap_keep HT.out HB.out⟩ 6 (oi := ?_) (v := ?_) ?_ ?_ ?_ ?_ ?_ ?_ ?_ ?_; rotate_left 2; (simp only [gA, gB, gC]; exact rfl); kernel_rfl; kernel_rfl; kernel_rfl; exact fun _ _ _ h => h; rfl; (intro w' hSw; go_simp; with_reducible rfl); simp only [Act.put, pB, pC, pD]
      refine wpAnyH_ready (rs := [4]) (by kernel_rfl) (by simp) ?_
      refine coH 4 (oi := ?_) ?_ ?_ (fun K hK => ?_) ?_; rotate_left; (simp only [gA, gB, gC]; exact rfl); rfl
      ·
       go_wp2_with (fail)
       have hb : Below d10.heap.size d10 (d10.alloc (.map #[] 0)) := (Below.refl _ _).alloc (Nat.le_refl _) _
       have HN : Hid ((d10.alloc (.map #[] 0)).ownsMap Tryz.prog 72 (plainElem Tryz.prog 4) d10.heap.size 0 (DS [])) := Lib.hid (World.ownsMap_made d10 Tryz.prog 72 (plainElem (H := Unit) Tryz.prog 4))
       have hwn : w0.heap.size ≤ d10.heap.size := HT.out.size
       have hn1 : b9 ≠ d10.heap.size := fun e => by have := HF.out.lt; omega
       have hn2 : b10 ≠ d10.heap.size := fun e => by have := HG.out.lt; omega
       generalize (d10.alloc (.map #[] 0)) = d11 at *
       replace HT := Lib.hid (HT.out.trans (hb.mono HT.out.size))
       replace HF := Lib.hid (own_below HF.out hb)
       replace HG := Lib.hid (own_below HG.out hb)
       have HO := HN
       have how := hwn
       have hfo := hn1
       have hgo := hn2
       clear hb HN
       refine hK.out _ _ ⟨heap_keep HT.out HA.out, heap_keep HT.out HB.out⟩ (fun hHeld => ?_)
       clear hK K hHeld
       try simp only [Act.put, pB, pC, pD]
       refine tkH ⟨heap_keep HT.out HA.out, heap_keep HT.out HB.out⟩ 7 (oi := ?_) (v := ?_) ?_ ?_ ?_ ?_ ?_ ?_ ?_ ?_; rotate_left 2; (simp only [gA, gB, gC]; exact rfl); kernel_rfl; kernel_rfl; kernel_rfl; exact fun _ _ _ h => h; rfl; (intro w' hSw; go_simp; with_reducible rfl); simp only [Act.put, pB, pC, pD]
       refine wpAnyH_done (by kernel_rfl) ?_ _
       go_wp2_with (fail)
       go_meet
       exact ⟨b9, b10, d10.heap.size, nb9, nb10, rfl, rfl, rfl, HF.out, HG.out, HO.out, hfo, hgo, lf, lg, how, HT.out⟩
      exact AllReadyH.nil
     refine coH 4 (oi := ?_) ?_ ?_ (fun K hK => ?_) ?_; rotate_left; (simp only [gA, gB, gC]; exact rfl); rfl
     ·
      go_wp2_with (fail)
      have hb : Below d9.heap.size d9 (d9.alloc (.map #[] 0)) := (Below.refl _ _).alloc (Nat.le_refl _) _
      have HN : Hid ((d9.alloc (.map #[] 0)).ownsMap Tryz.prog 72 (plainElem Tryz.prog 4) d9.heap.size 0 (DS [])) := Lib.hid (World.ownsMap_made d9 Tryz.prog 72 (plainElem (H := Unit) Tryz.prog 4))
      have hwn : w0.heap.size ≤ d9.heap.size := HT.out.size
      have hn1 : b9 ≠ d9.heap.size := fun e => by have := HF.out.lt; omega
      generalize (d9.alloc (.map #[] 0)) = d12 at *
      replace HT := Lib.hid (HT.out.trans (hb.mono HT.out.size))
      replace HF := Lib.hid (own_below HF.out hb)
      have HO := HN
      have how := hwn
      have hfo := hn1
      clear hb HN
      refine hK.out _ _ ⟨heap_keep HT.out HA.out, heap_keep HT.out HB.out⟩ (fun hHeld => ?_)
      clear hK K hHeld
      try simp only [Act.put, pB, pC, pD]
      refine wpAnyH_ready (rs := [3]) (by kernel_rfl) (by simp) ?_
      refine coH 3 (oi := ?_) ?_ ?_ (fun K hK => ?_) ?_; rotate_left; (simp only [gA, gB, gC]; exact rfl); rfl
      ·
       go_wp2_with (fail)
       refine (setOf_all a' c' _ HV2.out (HR2.out.kept HT.out)).mono ?_
       rintro e d13 ⟨b13, nb13, rfl, hge, hle, hown, hb⟩
       have HN := Lib.hid hown
       clear hown
       have hne : b13 ≠ d9.heap.size := fun e => by have := HO.out.lt; omega
       go_wp2_with (fail)
       replace HT := Lib.hid (HT.out.trans (hb.mono HT.out.size))
       replace HF := Lib.hid (own_below HF.out hb)
       replace HO := Lib.hid (own_below HO.out hb)
       have HG := HN
       have lg := hle
       have hgo := hne
       clear hne
       clear hb HN hge hle
       refine hK.out _ _ ⟨heap_keep HT.out HA.out, heap_keep HT.out HB.out⟩ (fun hHeld => ?_)
       clear hK K hHeld
       try simp only [Act.put, pB, pC, pD]
       refine tkH ⟨heap_keep HT.out HA.out, heap_keep HT.out HB.out⟩ 5 (oi := ?_) (v := ?_) ?_ ?_ ?_ ?_ ?_ ?_ ?_ ?_; rotate_left 2; (simp only [gA, gB, gC]; exact rfl); kernel_rfl; kernel_rfl; kernel_rfl; exact fun _ _ _ h => h; rfl; (intro w' hSw; go_simp; with_reducible rfl); simp only [Act.put, pB, pC, pD]
       refine tkH ⟨heap_keep HT.out HA.out, heap_keep HT.out HB.out⟩ 6 (oi := ?_) (v := ?_) ?_ ?_ ?_ ?_ ?_ ?_ ?_ ?_; rotate_left 2; (simp only [gA, gB, gC]; exact rfl); kernel_rfl; kernel_rfl; kernel_rfl; exact fun _ _ _ h => h; rfl; (intro w' hSw; go_simp; with_reducible rfl); simp only [Act.put, pB, pC, pD]
       refine tkH ⟨heap_keep HT.out HA.out, heap_keep HT.out HB.out⟩ 7 (oi := ?_) (v := ?_) ?_ ?_ ?_ ?_ ?_ ?_ ?_ ?_; rotate_left 2; (simp only [gA, gB, gC]; exact rfl); kernel_rfl; kernel_rfl; kernel_rfl; exact fun _ _ _ h => h; rfl; (intro w' hSw; go_simp; with_reducible rfl); simp only [Act.put, pB, pC, pD]
       refine wpAnyH_done (by kernel_rfl) ?_ _
       go_wp2_with (fail)
       go_meet
       exact ⟨b9, b13, d9.heap.size, nb9, nb13, rfl, rfl, rfl, HF.out, HG.out, HO.out, hfo, hgo, lf, lg, how, HT.out⟩
      exact AllReadyH.nil
     exact AllReadyH.nil
    refine coH 4 (oi := ?_) ?_ ?_ (fun K hK => ?_) ?_; rotate_left; (simp only [gA, gB, gC]; exact rfl); rfl
    ·
     go_wp2_with (fail)
     have hb : Below d0.heap.size d0 (d0.alloc (.map #[] 0)) := (Below.refl _ _).alloc (Nat.le_refl _) _
     have HN : Hid ((d0.alloc (.map #[] 0)).ownsMap Tryz.prog 72 (plainElem Tryz.prog 4) d0.heap.size 0 (DS [])) := Lib.hid (World.ownsMap_made d0 Tryz.prog 72 (plainElem (H := Unit) Tryz.prog 4))
     have hwn : w0.heap.size ≤ d0.heap.size := HT.out.size
     generalize (d0.alloc (.map #[] 0)) = d14 at *
     replace HT := Lib.hid (HT.out.trans (hb.mono HT.out.size))
     have HO := HN
     have how := hwn
     clear hb HN
     refine hK.out _ _ ⟨heap_keep HT.out HA.out, heap_keep HT.out HB.out⟩ (fun hHeld => ?_)
     clear hK K hHeld
     try simp only [Act.put, pB, pC, pD]
     refine wpAnyH_ready (rs := [1]) (by kernel_rfl) (by simp) ?_
     refine coH 1 (oi := ?_) ?_ ?_ (fun K hK => ?_) ?_; rotate_left; (simp only [gA, gB, gC]; exact rfl); rfl
     ·
      go_wp2_with (fail)
      refine (setOf_all a c _ HV1.out (HR1.out.kept HT.out)).mono ?_
      rintro e d15 ⟨b15, nb15, rfl, hge, hle, hown, hb⟩
      have HN := Lib.hid hown
      clear hown
      have hne : b15 ≠ d0.heap.size := fun e => by have := HO.out.lt; omega
      go_wp2_with (fail)
      replace HT := Lib.hid (HT.out.trans (hb.mono HT.out.size))
      replace HO := Lib.hid (own_below HO.out hb)
      have HF := HN
      have lf := hle
      have hfo := hne
      clear hne
      clear hb HN hge hle
      refine hK.out _ _ ⟨heap_keep HT.out HA.out, heap_keep HT.out HB.out⟩ (fun hHeld => ?_)
      clear hK K hHeld
      try simp only [Act.put, pB, pC, pD]
      refine wpAnyH_ready (rs := [3]) (by kernel_rfl) (by simp) ?_
      refine coH 3 (oi := ?_) ?_ ?_ (fun K hK => ?_) ?_; rotate_left; (simp only [gA, gB, gC]; exact rfl); rfl
      ·
       go_wp2_with (fail)
       refine (setOf_all a' c' _ HV2.out (HR2.out.kept HT.out)).mono ?_
       rintro e d16 ⟨b16, nb16, rfl, hge, hle, hown, hb⟩
       have HN := Lib.hid hown
       clear hown
       have hne : b16 ≠ d0.heap.size := fun e => by have := HO.out.lt; omega
       go_wp2_with (fail)
       replace HT := Lib.hid (HT.out.trans (hb.mono HT.out.size))
       replace HF := Lib.hid (own_below HF.out hb)
       replace HO := Lib.hid (own_below HO.out hb)
       have HG := HN
       have lg := hle
       have hgo := hne
       clear hne
       clear hb HN hge hle
       refine hK.out _ _ ⟨heap_keep HT.out HA.out, heap_keep HT.out HB.out⟩ (fun hHeld => ?_)
       clear hK K hHeld
       try simp only [Act.put, pB, pC, pD]
       refine tkH ⟨heap_keep HT.out HA.out, heap_keep HT.out HB.out⟩ 5 (oi := ?_) (v := ?_) ?_ ?_ ?_ ?_ ?_ ?_ ?_ ?_; rotate_left 2; (simp only [gA, gB, gC]; exact rfl); kernel_rfl; kernel_rfl; kernel_rfl; exact fun _ _ _ h => h; rfl; (intro w' hSw; go_simp; with_reducible rfl); simp only [Act.put, pB, pC, pD]
       refine tkH ⟨heap_keep HT.out HA.out, heap_keep HT.out HB.out⟩ 6 (oi := ?_) (v := ?_) ?_ ?_ ?_ ?_ ?_ ?_ ?_ ?_; rotate_left 2; (simp only [gA, gB, gC]; exact rfl); kernel_rfl; kernel_rfl; kernel_rfl; exact fun _ _ _ h => h; rfl; (intro w' hSw; go_simp; with_reducible rfl); simp only [Act.put, pB, pC, pD]
       refine tkH ⟨heap_keep HT.out HA.out, heap_keep HT.out HB.out⟩ 7 (oi := ?_) (v := ?_) ?_ ?_ ?_ ?_ ?_ ?_ ?_ ?_; rotate_left 2; (simp only [gA, gB, gC]; exact rfl); kernel_rfl; kernel_rfl; kernel_rfl; exact fun _ _ _ h => h; rfl; (intro w' hSw; go_simp; with_reducible rfl); simp only [Act.put, pB, pC, pD]
       refine wpAnyH_done (by kernel_rfl) ?_ _
       go_wp2_with (fail)
       go_meet
       exact ⟨b15, b16, d0.heap.size, nb15, nb16, rfl, rfl, rfl, HF.out, HG.out, HO.out, hfo, hgo, lf, lg, how, HT.out⟩
      exact AllReadyH.nil
     exact AllReadyH.nil
    exact AllReadyH.nil
  case rest =>
    obtain ⟨bm, bn, om, nm, nn, rfl, rfl, rfl, hom1, hom2, hom3, hb1, hb2, hn1, hn2, how, hbel⟩ := hcut
    have HP1 : Hid (∀ p ∈ (setL cx cy R n), smx p.1 ∧ smx p.2) := Lib.hid (set_smx (by have := HV1.out.bx; omega) (by have := HV1.out.by_; omega) (by have := HV1.out.n2; omega) (fun i hi => by rw [(HV1.out.row i hi).1]; have := HV1.out.m2; omega))
    have HP2 : Hid (∀ p ∈ (setL dx dy R' n'), smx p.1 ∧ smx p.2) := Lib.hid (set_smx (by have := HV2.out.bx; omega) (by have := HV2.out.by_; omega) (by have := HV2.out.n2; omega) (fun i hi => by rw [(HV2.out.row i hi).1]; have := HV2.out.m2; omega))
    have HM1 := Lib.hid hom1
    have HM2 := Lib.hid hom2
    have HM3 := Lib.hid hom3
    have hz0l := lt_of_heap HZ.out
    have HA' := Lib.hid (heap_keep hbel HA.out)
    have HZ' := Lib.hid (heap_keep hbel HZ.out)
    have HBw := Lib.hid (HW.out.trans (hbel.mono HW.out.size))
    have hl1 := hom1.lt
    have hl2 := hom2.lt
    have hl3 := hom3.lt
    clear hom1 hom2 hom3 HA HB HZ HR1 HR2 HW hbel
    go_upto_region 3 with (fail)
    have HARR : Hid ((wc.alloc (.cells #[.map (some bm), .map (some bn)] 65)).heap[wc.heap.size]? = some (.cells #[.map (some bm), .map (some bn)] 65 (0, 0))) := Lib.hid (heap_new rfl)
    have HM1a := Lib.hid (HM1.out.alloc (.cells #[.map (some bm), .map (some bn)] 65))
    have HM2a := Lib.hid (HM2.out.alloc (.cells #[.map (some bm), .map (some bn)] 65))
    have HA1 := Lib.hid (heap_keep ((Below.refl _ _).alloc (Nat.le_refl _) (.cells #[.map (some bm), .map (some bn)] 65)) HA'.out)
    have HZ1' := Lib.hid (heap_keep ((Below.refl _ _).alloc (Nat.le_refl _) (.cells #[.map (some bm), .map (some bn)] 65)) HZ'.out)
    have HBw1 := Lib.hid (HBw.out.alloc HBw.out.size (.cells #[.map (some bm), .map (some bn)] 65))
    have hz2l := lt_of_heap HZ'.out
    have HO0 := Lib.hid (HM3.out.alloc (.cells #[.map (some bm), .map (some bn)] 65))
    have hv1 : wc.heap.size + 1 = (wc.alloc (.cells #[.map (some bm), .map (some bn)] 65)).heap.size := by simp
    have HV1s := Lib.hid hv1
    have hv1l : wc.heap.size < (wc.alloc (.cells #[.map (some bm), .map (some bn)] 65)).heap.size := by simp
    clear hv1
    change Code.wp _ _ _ _ (wc.alloc (.cells #[.map (some bm), .map (some bn)] 65))
    generalize (wc.alloc (.cells #[.map (some bm), .map (some bn)] 65)) = v1 at *
    go_loopw [23] (fun i wr => ∃ (k mm : Nat) (lo : List (Int × Int)), k ≤ 2 ∧ i = .int .i64 k ∧ mm ≤ k * 1000000 ∧ wr.ownsMap Tryz.prog 72 (plainElem Tryz.prog 4) om mm (DS lo) ∧ (∀ p ∈ lo, P p.1 p.2 = true ∧ smx p.1 ∧ smx p.2) ∧ (1 ≤ k → ∀ p ∈ (setL cx cy R n), P p.1 p.2 = true → p ∈ lo) ∧ (2 ≤ k → ∀ p ∈ (setL dx dy R' n'), P p.1 p.2 = true → p ∈ lo) ∧ Mut (· = om) v1 wr) (fun i _ => 2 - (intOf i).toNat)
    case atStart => exact ⟨0, 0, [], by omega, rfl, by omega, HO0.out, fun p hp => by simp at hp, fun h => by omega, fun h => by omega, Mut.refl _ _⟩
    case round =>
      obtain ⟨k, mm0, lo0, hk, rfl, hmm0, hown, hlo, hla, hlb, hmu⟩ := hrel
      have HO := Lib.hid hown
      have HLO := Lib.hid hlo
      have HLA := Lib.hid hla
      have HLB := Lib.hid hlb
      have HMU := Lib.hid hmu
      have hszr := hmu.size
      have ec : wr.cell? ⟨wc.heap.size, 0, none⟩ = some (.map (some bm)) ∧ wr.cell? ⟨wc.heap.size, 1, none⟩ = some (.map (some bn)) := by
        have h1 := (hmu.block wc.heap.size (by omega) (by omega)).trans HARR.out
        exact ⟨cell_of h1 rfl, cell_of h1 rfl⟩
      clear hown hlo hla hlb hmu
      rcases k with _ | _ | k
      · obtain ⟨ec0, ec1⟩ := ec
        have ec := ec0
        clear ec0 ec1
        have hcm : Hid (wr.ownsMap Tryz.prog 72 (plainElem Tryz.prog 4) bm nm (DS (setL cx cy R n))) := Lib.hid (own_mut HM1a.out HMU.out hb1)
        obtain ⟨wo, hwo⟩ : ∃ wo : World, wr = wo := ⟨_, rfl⟩
        rw [hwo] at HMU HO hcm hszr ec ⊢
        clear hwo
        go_wp2_with (at_range; refine wpList_range_own _ rfl _ 65 rfl 72 4 spotKeyed Tryz.underlying65 (plainElem Tryz.prog 4) bm nm (DS (setL cx cy R n)) rfl hcm.out ?_; intro w3 hrg hg0 hs0)
        have HRG := Lib.hid hrg
        have HO3 := Lib.hid (HO.out.kept hg0 (by simp))
        have HMU3 := Lib.hid (HMU.out.grown' hg0)
        have hcl := left_le hrg
        have hs3 : w3.heap.size = wo.heap.size + 1 := hs0
        have HS3 := Lib.hid hs3
        clear hrg hg0 hs0 hs3 hcm
        go_frame
        go_loopw [13] (fun _ wr => ∃ (mm : Nat) (lo : List (Int × Int)) (left : Lit → Bool) (cnt : Nat), mm + cnt ≤ 0 * 1000000 + nm ∧ wr.ownsMap Tryz.prog 72 (plainElem Tryz.prog 4) om mm (DS lo) ∧ wr.ranges Tryz.prog 72 (plainElem Tryz.prog 4) bm wo.heap.size nm (DS (setL cx cy R n)) left cnt ∧ (∀ p ∈ lo, P p.1 p.2 = true ∧ smx p.1 ∧ smx p.2) ∧ (∀ p ∈ lo0, p ∈ lo) ∧ (∀ p ∈ (setL cx cy R n), left (SPK p.1 p.2) = true ∨ (P p.1 p.2 = true → p ∈ lo)) ∧ Mut (· = om) v1 wr) (fun _ wr => wr.rangeLeft bm wo.heap.size)
        case atStart =>
          refine ⟨mm0, lo0, _, _, by omega, HO3.out, HRG.out, HLO.out, fun p hp => hp, fun p hp => .inl ?_, HMU3.out⟩
          have := HP1.out p hp
          rw [ds_has this.1 this.2 _ HP1.out]
          simpa using hp
        case round =>
          obtain ⟨mm, lo, left, cnt, hmm, hown, hrg, hl1_, hl2_, hl3_, hmu⟩ := hrel
          have HO4 := Lib.hid hown
          have HRG4 := Lib.hid hrg
          have HL1 := Lib.hid hl1_
          have HL2 := Lib.hid hl2_
          have HL3 := Lib.hid hl3_
          have HMU4 := Lib.hid hmu
          have hrl := hrg.lt
          have hwz := hmu.size
          clear hown hrg hl1_ hl2_ hl3_ hmu
          go_wp2_with (at_next; refine wpList_next_ranges _ rfl _ rfl 72 spotKeyed (plainElem Tryz.prog 4) (fun p : Int × Int => .agg #[.int .i64 p.1, .int .i64 p.2]) (fun b : Bool => .bool b) (fun key kl h => by obtain ⟨p, e, _⟩ := key_spot_inv h; exact ⟨p, e⟩) (fun v y h => by obtain ⟨x, e, _⟩ := boolS_inv Tryz.underlying4 h; exact ⟨x, e⟩) bm wo.heap.size nm (DS (setL cx cy R n)) left cnt rfl HRG4.out ?_ ?_; all_goals (first | (intro p cv kl yv w5 cnt5 hkey hlk hv hat hrg5 hlt5 hg5 hs5 hen; try dsimp only at hkey hen) | (intro hc0 hl0)))
          · have HL0 := Lib.hid hl0
            have HDN : Hid (∀ p ∈ (setL cx cy R n), P p.1 p.2 = true → p ∈ lo) := Lib.hid (fun p hp hP => (HL3.out p hp).elim (fun h => by rw [HL0.out] at h; cases h) (fun f => f hP))
            clear hl0 hc0
            go_roundw
            case rel => exact ⟨0 + 1, mm, lo, by omega, by go_num, by omega, HO4.out, HL1.out, fun _ => HDN.out, fun h => by omega, HMU4.out⟩
            case measure => simp [intOf]
          · obtain ⟨hpm, hkk⟩ := entry_mem hkey hat HP1.out
            obtain ⟨hpx, hpy⟩ := HP1.out p hpm
            have hsy := hs5.symm
            have hKb : (w5.alloc (.cells #[.int .i64 p.1, .int .i64 p.2] 72)).heap[wr.heap.size]? = some (.cells #[.int .i64 p.1, .int .i64 p.2] 72 (0, 0)) := heap_new hsy
            have hM1 : (w5.alloc (.cells #[.int .i64 p.1, .int .i64 p.2] 72)).ownsMap Tryz.prog 72 (plainElem Tryz.prog 4) bm nm (DS (setL cx cy R n)) := ((own_mut HM1a.out HMU4.out hb1).kept hg5 (by simp; omega)).alloc _
            have hM2 : (w5.alloc (.cells #[.int .i64 p.1, .int .i64 p.2] 72)).ownsMap Tryz.prog 72 (plainElem Tryz.prog 4) bn nn (DS (setL dx dy R' n')) := ((own_mut HM2a.out HMU4.out hb2).kept hg5 (by simp; omega)).alloc _
            have HO5 : Hid ((w5.alloc (.cells #[.int .i64 p.1, .int .i64 p.2] 72)).ownsMap Tryz.prog 72 (plainElem Tryz.prog 4) om mm (DS lo)) := Lib.hid ((HO4.out.kept hg5 (by simp; omega)).alloc _)
            have HRG5 := Lib.hid (hrg5.alloc (.cells #[.int .i64 p.1, .int .i64 p.2] 72))
            have HMU5 := Lib.hid ((HMU4.out.grownR hg5 (by omega)).alloc (.cells #[.int .i64 p.1, .int .i64 p.2] 72))
            have HKK := Lib.hid hkk
            have HPM := Lib.hid hpm
            have HKY := Lib.hid (key_spot p.1 p.2 (smx_wf hpx) (smx_wf hpy))
            have hmeas : cnt5 < cnt := hlt5
            obtain ⟨z, hz⟩ : ∃ z, P p.1 p.2 = z := ⟨_, rfl⟩
            have HZ1 : Hid ((decide ((p.1, p.2) ∈ (setL cx cy R n)) && decide ((p.1, p.2) ∈ (setL dx dy R' n'))) = z) := Lib.hid ((HPQ.out p.1 p.2).symm.trans hz)
            have HZP := Lib.hid hz
            have hle5 : w5.heap.size < (w5.alloc (.cells #[.int .i64 p.1, .int .i64 p.2] 72)).heap.size := by simp
            clear hkey hlk hv hat hrg5 hg5 hs5 hen hkk hpm hsy hz
            generalize (w5.alloc (.cells #[.int .i64 p.1, .int .i64 p.2] 72)) = e5 at *
            rcases z with _ | _
            · refine wp_region_held_drew (S := (fun w' : World => w'.heap[wr.heap.size]? = some (.cells #[.int .i64 p.1, .int .i64 p.2] 72 (0, 0)) ∧ w'.ownsMap Tryz.prog 72 (plainElem Tryz.prog 4) bm nm (DS (setL cx cy R n)) ∧ w'.ownsMap Tryz.prog 72 (plainElem Tryz.prog 4) bn nn (DS (setL dx dy R' n')))) (by kernel_rfl) ⟨hKb, hM1, hM2⟩ (fun hHeld => ?_)
              refine tkH hHeld 0 (oi := ?_) (v := ?_) ?_ ?_ ?_ ?_ ?_ ?_ ?_ ?_; rotate_left 2; (simp only [gA, gB, gC]; exact rfl); kernel_rfl; kernel_rfl; kernel_rfl; exact fun _ _ _ h => h; rfl; (intro w' hSw; go_simp; with_reducible rfl); simp only [Act.put, pB, pC, pD]
              refine tkH hHeld 1 (oi := ?_) (v := ?_) ?_ ?_ ?_ ?_ ?_ ?_ ?_ ?_; rotate_left 2; (simp only [gA, gB, gC]; exact rfl); kernel_rfl; kernel_rfl; kernel_rfl; exact fun _ _ _ h => h; rfl; (intro w' hSw; go_simp; with_reducible rfl); simp only [Act.put, pB, pC, pD]
              refine tkH hHeld 2 (oi := ?_) (v := ?_) ?_ ?_ ?_ ?_ ?_ ?_ ?_ ?_; rotate_left 2; (simp only [gA, gB, gC]; exact rfl); kernel_rfl; kernel_rfl; kernel_rfl; exact fun _ _ _ h => h; rfl; (intro w' hSw; obtain ⟨s1, s2, s3⟩ := hSw; have k0 := cell_of (i := 0) s1 rfl; have k1 := cell_of (i := 1) s1 rfl; clear s1 s2 s3; go_simp; with_reducible rfl); simp only [Act.put, pB, pC, pD]
              refine tkH hHeld 4 (oi := ?_) (v := ?_) ?_ ?_ ?_ ?_ ?_ ?_ ?_ ?_; rotate_left 2; (simp only [gA, gB, gC]; exact rfl); kernel_rfl; kernel_rfl; kernel_rfl; exact fun _ _ _ h => h; rfl; (intro w' hSw; go_simp; with_reducible rfl); simp only [Act.put, pB, pC, pD]
              refine tkH hHeld 5 (oi := ?_) (v := ?_) ?_ ?_ ?_ ?_ ?_ ?_ ?_ ?_; rotate_left 2; (simp only [gA, gB, gC]; exact rfl); kernel_rfl; kernel_rfl; kernel_rfl; exact fun _ _ _ h => h; rfl; (intro w' hSw; obtain ⟨s1, s2, s3⟩ := hSw; have k0 := cell_of (i := 0) s1 rfl; have k1 := cell_of (i := 1) s1 rfl; clear s1 s2 s3; go_simp; with_reducible rfl); simp only [Act.put, pB, pC, pD]
              refine tkH hHeld 3 (oi := ?_) (v := ?_) ?_ ?_ ?_ ?_ ?_ ?_ ?_ ?_; rotate_left 2; (simp only [gA, gB, gC]; exact rfl); kernel_rfl; kernel_rfl; kernel_rfl; exact fun _ _ _ h => h; rfl; (intro w' hSw; obtain ⟨s1, s2, s3⟩ := hSw; have hk := look_spot s2 HP1.out hpx hpy; clear s1 s2 s3; go_simp; with_reducible rfl); simp only [Act.put, pB, pC, pD]
              refine tkH hHeld 6 (oi := ?_) (v := ?_) ?_ ?_ ?_ ?_ ?_ ?_ ?_ ?_; rotate_left 2; (simp only [gA, gB, gC]; exact rfl); kernel_rfl; kernel_rfl; kernel_rfl; exact fun _ _ _ h => h; rfl; (intro w' hSw; obtain ⟨s1, s2, s3⟩ := hSw; have hk := look_spot s3 HP2.out hpx hpy; clear s1 s2 s3; go_simp; with_reducible rfl); simp only [Act.put, pB, pC, pD]
              refine onH 7 (oi := ?_) (by kernel_rfl) ?_ ?_ (fun K hK => ?_); rotate_left; (simp only [gA, gB, gC]; exact rfl); rfl
              go_wp2_with (fail)
              refine (isBoth_any _ _ _).mono ?_
              rintro e w9 ⟨rfl, rfl⟩
              rw [show (decide ((p.1, p.2) ∈ (setL cx cy R n)) && decide ((p.1, p.2) ∈ (setL dx dy R' n'))) = false from HZ1.out]
              go_wp2_with (fail)
              refine hK.out _ _ hHeld (fun hH2 => ?_)
              clear hK K hHeld hH2
              try simp only [Act.put, pB, pC, pD]
              refine wpAnyH_done (by kernel_rfl) ?_ _
              
              have hNX := left_miss HL3.out HKK.out HZP.out HP1.out HPM.out
              have HNX := Lib.hid hNX
              have HRG6 := Lib.hid (ranges_drew HRG5.out)
              have HMU6 := Lib.hid HMU5.out.drew
              have HO6 := Lib.hid HO5.out.drew
              clear hNX HRG5 HMU5 HO5 hKb hM1 hM2
              go_wp2_with (fail)
              go_roundw
              case rel =>
                (repeat apply Exists.intro)
                refine ⟨?_, rfl⟩
                exact ⟨mm, lo, _, cnt5, by omega, HO6.out, HRG6.out, HL1.out, HL2.out, HNX.out, HMU6.out⟩
              case measure => (have hq := HRG6.out; rw [hq.left_eq, HRG4.out.left_eq]; exact hmeas)
            · refine wp_region_held_drew (S := (fun w' : World => w'.heap[wr.heap.size]? = some (.cells #[.int .i64 p.1, .int .i64 p.2] 72 (0, 0)) ∧ w'.ownsMap Tryz.prog 72 (plainElem Tryz.prog 4) bm nm (DS (setL cx cy R n)) ∧ w'.ownsMap Tryz.prog 72 (plainElem Tryz.prog 4) bn nn (DS (setL dx dy R' n')))) (by kernel_rfl) ⟨hKb, hM1, hM2⟩ (fun hHeld => ?_)
              refine tkH hHeld 0 (oi := ?_) (v := ?_) ?_ ?_ ?_ ?_ ?_ ?_ ?_ ?_; rotate_left 2; (simp only [gA, gB, gC]; exact rfl); kernel_rfl; kernel_rfl; kernel_rfl; exact fun _ _ _ h => h; rfl; (intro w' hSw; go_simp; with_reducible rfl); simp only [Act.put, pB, pC, pD]
              refine tkH hHeld 1 (oi := ?_) (v := ?_) ?_ ?_ ?_ ?_ ?_ ?_ ?_ ?_; rotate_left 2; (simp only [gA, gB, gC]; exact rfl); kernel_rfl; kernel_rfl; kernel_rfl; exact fun _ _ _ h => h; rfl; (intro w' hSw; go_simp; with_reducible rfl); simp only [Act.put, pB, pC, pD]
              refine tkH hHeld 2 (oi := ?_) (v := ?_) ?_ ?_ ?_ ?_ ?_ ?_ ?_ ?_; rotate_left 2; (simp only [gA, gB, gC]; exact rfl); kernel_rfl; kernel_rfl; kernel_rfl; exact fun _ _ _ h => h; rfl; (intro w' hSw; obtain ⟨s1, s2, s3⟩ := hSw; have k0 := cell_of (i := 0) s1 rfl; have k1 := cell_of (i := 1) s1 rfl; clear s1 s2 s3; go_simp; with_reducible rfl); simp only [Act.put, pB, pC, pD]
              refine tkH hHeld 4 (oi := ?_) (v := ?_) ?_ ?_ ?_ ?_ ?_ ?_ ?_ ?_; rotate_left 2; (simp only [gA, gB, gC]; exact rfl); kernel_rfl; kernel_rfl; kernel_rfl; exact fun _ _ _ h => h; rfl; (intro w' hSw; go_simp; with_reducible rfl); simp only [Act.put, pB, pC, pD]
              refine tkH hHeld 5 (oi := ?_) (v := ?_) ?_ ?_ ?_ ?_ ?_ ?_ ?_ ?_; rotate_left 2; (simp only [gA, gB, gC]; exact rfl); kernel_rfl; kernel_rfl; kernel_rfl; exact fun _ _ _ h => h; rfl; (intro w' hSw; obtain ⟨s1, s2, s3⟩ := hSw; have k0 := cell_of (i := 0) s1 rfl; have k1 := cell_of (i := 1) s1 rfl; clear s1 s2 s3; go_simp; with_reducible rfl); simp only [Act.put, pB, pC, pD]
              refine tkH hHeld 3 (oi := ?_) (v := ?_) ?_ ?_ ?_ ?_ ?_ ?_ ?_ ?_; rotate_left 2; (simp only [gA, gB, gC]; exact rfl); kernel_rfl; kernel_rfl; kernel_rfl; exact fun _ _ _ h => h; rfl; (intro w' hSw; obtain ⟨s1, s2, s3⟩ := hSw; have hk := look_spot s2 HP1.out hpx hpy; clear s1 s2 s3; go_simp; with_reducible rfl); simp only [Act.put, pB, pC, pD]
              refine tkH hHeld 6 (oi := ?_) (v := ?_) ?_ ?_ ?_ ?_ ?_ ?_ ?_ ?_; rotate_left 2; (simp only [gA, gB, gC]; exact rfl); kernel_rfl; kernel_rfl; kernel_rfl; exact fun _ _ _ h => h; rfl; (intro w' hSw; obtain ⟨s1, s2, s3⟩ := hSw; have hk := look_spot s3 HP2.out hpx hpy; clear s1 s2 s3; go_simp; with_reducible rfl); simp only [Act.put, pB, pC, pD]
              refine onH 7 (oi := ?_) (by kernel_rfl) ?_ ?_ (fun K hK => ?_); rotate_left; (simp only [gA, gB, gC]; exact rfl); rfl
              go_wp2_with (fail)
              refine (isBoth_any _ _ _).mono ?_
              rintro e w9 ⟨rfl, rfl⟩
              rw [show (decide ((p.1, p.2) ∈ (setL cx cy R n)) && decide ((p.1, p.2) ∈ (setL dx dy R' n'))) = true from HZ1.out]
              go_wp2_with (fail)
              refine hK.out _ _ hHeld (fun hH2 => ?_)
              clear hK K hHeld hH2
              try simp only [Act.put, pB, pC, pD]
              refine wpAnyH_done (by kernel_rfl) ?_ _
              
              have hNX := left_hit HL3.out HKK.out HP1.out HPM.out
              have HNX := Lib.hid hNX
              have HRG6 := Lib.hid (ranges_drew HRG5.out)
              have HMU6 := Lib.hid HMU5.out.drew
              have HO6 := Lib.hid HO5.out.drew
              have k0 : e5.drew.cell? ⟨wr.heap.size, 0, none⟩ = some (.int .i64 p.1) := cell_of (w := e5) hKb rfl
              have k1 : e5.drew.cell? ⟨wr.heap.size, 1, none⟩ = some (.int .i64 p.2) := cell_of (w := e5) hKb rfl
              clear hNX HRG5 HMU5 HO5 hKb hM1 hM2
              generalize e5.drew = e6 at *
              go_wp2_with (at_mapUpdate; refine wpList_mapUpdate_own _ rfl _ _ _ 65 rfl 72 4 spotKeyed Tryz.underlying65 _ om mm _ rfl HO6.out (by unfold maxLen; omega) _ _ _ rfl rfl HKY.out _ [] (plainElem_bool Tryz.underlying4 true) ?_; intro w6 hown6 hgrow6)
              have HO7 := Lib.hid hown6
              have HRG7 := Lib.hid (HRG6.out.kept hgrow6 (by simpa using hb1) (by simp; omega))
              have HMU7 := Lib.hid (HMU6.out.grownS hgrow6)
              clear hown6 hgrow6
              go_roundw
              case rel =>
                (repeat apply Exists.intro)
                refine ⟨?_, rfl⟩
                exact ⟨mm + 1, lo ++ [(p.1, p.2)], _, cnt5, by omega, by rw [ds_snoc]; exact HO7.out, HRG7.out, add_all HL1.out ⟨HZP.out, hpx, hpy⟩, fun p' hp' => List.mem_append_left _ (HL2.out p' hp'), HNX.out, HMU7.out⟩
              case measure => (have hq := HRG7.out; rw [hq.left_eq, HRG4.out.left_eq]; exact hmeas)
      · obtain ⟨ec0, ec1⟩ := ec
        have ec := ec1
        clear ec0 ec1
        have hcm : Hid (wr.ownsMap Tryz.prog 72 (plainElem Tryz.prog 4) bn nn (DS (setL dx dy R' n'))) := Lib.hid (own_mut HM2a.out HMU.out hb2)
        obtain ⟨wo, hwo⟩ : ∃ wo : World, wr = wo := ⟨_, rfl⟩
        rw [hwo] at HMU HO hcm hszr ec ⊢
        clear hwo
        go_wp2_with (at_range; refine wpList_range_own _ rfl _ 65 rfl 72 4 spotKeyed Tryz.underlying65 (plainElem Tryz.prog 4) bn nn (DS (setL dx dy R' n')) rfl hcm.out ?_; intro w3 hrg hg0 hs0)
        have HRG := Lib.hid hrg
        have HO3 := Lib.hid (HO.out.kept hg0 (by simp))
        have HMU3 := Lib.hid (HMU.out.grown' hg0)
        have hcl := left_le hrg
        have hs3 : w3.heap.size = wo.heap.size + 1 := hs0
        have HS3 := Lib.hid hs3
        clear hrg hg0 hs0 hs3 hcm
        go_frame
        go_loopw [13] (fun _ wr => ∃ (mm : Nat) (lo : List (Int × Int)) (left : Lit → Bool) (cnt : Nat), mm + cnt ≤ 1 * 1000000 + nn ∧ wr.ownsMap Tryz.prog 72 (plainElem Tryz.prog 4) om mm (DS lo) ∧ wr.ranges Tryz.prog 72 (plainElem Tryz.prog 4) bn wo.heap.size nn (DS (setL dx dy R' n')) left cnt ∧ (∀ p ∈ lo, P p.1 p.2 = true ∧ smx p.1 ∧ smx p.2) ∧ (∀ p ∈ lo0, p ∈ lo) ∧ (∀ p ∈ (setL dx dy R' n'), left (SPK p.1 p.2) = true ∨ (P p.1 p.2 = true → p ∈ lo)) ∧ Mut (· = om) v1 wr) (fun _ wr => wr.rangeLeft bn wo.heap.size)
        case atStart =>
          refine ⟨mm0, lo0, _, _, by omega, HO3.out, HRG.out, HLO.out, fun p hp => hp, fun p hp => .inl ?_, HMU3.out⟩
          have := HP2.out p hp
          rw [ds_has this.1 this.2 _ HP2.out]
          simpa using hp
        case round =>
          obtain ⟨mm, lo, left, cnt, hmm, hown, hrg, hl1_, hl2_, hl3_, hmu⟩ := hrel
          have HO4 := Lib.hid hown
          have HRG4 := Lib.hid hrg
          have HL1 := Lib.hid hl1_
          have HL2 := Lib.hid hl2_
          have HL3 := Lib.hid hl3_
          have HMU4 := Lib.hid hmu
          have hrl := hrg.lt
          have hwz := hmu.size
          clear hown hrg hl1_ hl2_ hl3_ hmu
          go_wp2_with (at_next; refine wpList_next_ranges _ rfl _ rfl 72 spotKeyed (plainElem Tryz.prog 4) (fun p : Int × Int => .agg #[.int .i64 p.1, .int .i64 p.2]) (fun b : Bool => .bool b) (fun key kl h => by obtain ⟨p, e, _⟩ := key_spot_inv h; exact ⟨p, e⟩) (fun v y h => by obtain ⟨x, e, _⟩ := boolS_inv Tryz.underlying4 h; exact ⟨x, e⟩) bn wo.heap.size nn (DS (setL dx dy R' n')) left cnt rfl HRG4.out ?_ ?_; all_goals (first | (intro p cv kl yv w5 cnt5 hkey hlk hv hat hrg5 hlt5 hg5 hs5 hen; try dsimp only at hkey hen) | (intro hc0 hl0)))
          · have HL0 := Lib.hid hl0
            have HDN : Hid (∀ p ∈ (setL dx dy R' n'), P p.1 p.2 = true → p ∈ lo) := Lib.hid (fun p hp hP => (HL3.out p hp).elim (fun h => by rw [HL0.out] at h; cases h) (fun f => f hP))
            clear hl0 hc0
            go_roundw
            case rel => exact ⟨1 + 1, mm, lo, by omega, by go_num, by omega, HO4.out, HL1.out, fun _ p hp hP => HL2.out p (HLA.out (by omega) p hp hP), fun _ => HDN.out, HMU4.out⟩
            case measure => simp [intOf]
          · obtain ⟨hpm, hkk⟩ := entry_mem hkey hat HP2.out
            obtain ⟨hpx, hpy⟩ := HP2.out p hpm
            have hsy := hs5.symm
            have hKb : (w5.alloc (.cells #[.int .i64 p.1, .int .i64 p.2] 72)).heap[wr.heap.size]? = some (.cells #[.int .i64 p.1, .int .i64 p.2] 72 (0, 0)) := heap_new hsy
            have hM1 : (w5.alloc (.cells #[.int .i64 p.1, .int .i64 p.2] 72)).ownsMap Tryz.prog 72 (plainElem Tryz.prog 4) bm nm (DS (setL cx cy R n)) := ((own_mut HM1a.out HMU4.out hb1).kept hg5 (by simp; omega)).alloc _
            have hM2 : (w5.alloc (.cells #[.int .i64 p.1, .int .i64 p.2] 72)).ownsMap Tryz.prog 72 (plainElem Tryz.prog 4) bn nn (DS (setL dx dy R' n')) := ((own_mut HM2a.out HMU4.out hb2).kept hg5 (by simp; omega)).alloc _
            have HO5 : Hid ((w5.alloc (.cells #[.int .i64 p.1, .int .i64 p.2] 72)).ownsMap Tryz.prog 72 (plainElem Tryz.prog 4) om mm (DS lo)) := Lib.hid ((HO4.out.kept hg5 (by simp; omega)).alloc _)
            have HRG5 := Lib.hid (hrg5.alloc (.cells #[.int .i64 p.1, .int .i64 p.2] 72))
            have HMU5 := Lib.hid ((HMU4.out.grownR hg5 (by omega)).alloc (.cells #[.int .i64 p.1, .int .i64 p.2] 72))
            have HKK := Lib.hid hkk
            have HPM := Lib.hid hpm
            have HKY := Lib.hid (key_spot p.1 p.2 (smx_wf hpx) (smx_wf hpy))
            have hmeas : cnt5 < cnt := hlt5
            obtain ⟨z, hz⟩ : ∃ z, P p.1 p.2 = z := ⟨_, rfl⟩
            have HZ1 : Hid ((decide ((p.1, p.2) ∈ (setL cx cy R n)) && decide ((p.1, p.2) ∈ (setL dx dy R' n'))) = z) := Lib.hid ((HPQ.out p.1 p.2).symm.trans hz)
            have HZP := Lib.hid hz
            have hle5 : w5.heap.size < (w5.alloc (.cells #[.int .i64 p.1, .int .i64 p.2] 72)).heap.size := by simp
            clear hkey hlk hv hat hrg5 hg5 hs5 hen hkk hpm hsy hz
            generalize (w5.alloc (.cells #[.int .i64 p.1, .int .i64 p.2] 72)) = e5 at *
            rcases z with _ | _
            · refine wp_region_held_drew (S := (fun w' : World => w'.heap[wr.heap.size]? = some (.cells #[.int .i64 p.1, .int .i64 p.2] 72 (0, 0)) ∧ w'.ownsMap Tryz.prog 72 (plainElem Tryz.prog 4) bm nm (DS (setL cx cy R n)) ∧ w'.ownsMap Tryz.prog 72 (plainElem Tryz.prog 4) bn nn (DS (setL dx dy R' n')))) (by kernel_rfl) ⟨hKb, hM1, hM2⟩ (fun hHeld => ?_)
              refine tkH hHeld 0 (oi := ?_) (v := ?_) ?_ ?_ ?_ ?_ ?_ ?_ ?_ ?_; rotate_left 2; (simp only [gA, gB, gC]; exact rfl); kernel_rfl; kernel_rfl; kernel_rfl; exact fun _ _ _ h => h; rfl; (intro w' hSw; go_simp; with_reducible rfl); simp only [Act.put, pB, pC, pD]
              refine tkH hHeld 1 (oi := ?_) (v := ?_) ?_ ?_ ?_ ?_ ?_ ?_ ?_ ?_; rotate_left 2; (simp only [gA, gB, gC]; exact rfl); kernel_rfl; kernel_rfl; kernel_rfl; exact fun _ _ _ h => h; rfl; (intro w' hSw; go_simp; with_reducible rfl); simp only [Act.put, pB, pC, pD]
              refine tkH hHeld 2 (oi := ?_) (v := ?_) ?_ ?_ ?_ ?_ ?_ ?_ ?_ ?_; rotate_left 2; (simp only [gA, gB, gC]; exact rfl); kernel_rfl; kernel_rfl; kernel_rfl; exact fun _ _ _ h => h; rfl; (intro w' hSw; obtain ⟨s1, s2, s3⟩ := hSw; have k0 := cell_of (i := 0) s1 rfl; have k1 := cell_of (i := 1) s1 rfl; clear s1 s2 s3; go_simp; with_reducible rfl); simp only [Act.put, pB, pC, pD]
              refine tkH hHeld 4 (oi := ?_) (v := ?_) ?_ ?_ ?_ ?_ ?_ ?_ ?_ ?_; rotate_left 2; (simp only [gA, gB, gC]; exact rfl); kernel_rfl; kernel_rfl; kernel_rfl; exact fun _ _ _ h => h; rfl; (intro w' hSw; go_simp; with_reducible rfl); simp only [Act.put, pB, pC, pD]
              refine tkH hHeld 5 (oi := ?_) (v := ?_) ?_ ?_ ?_ ?_ ?_ ?_ ?_ ?_; rotate_left 2; (simp only [gA, gB, gC]; exact rfl); kernel_rfl; kernel_rfl; kernel_rfl; exact fun _ _ _ h => h; rfl; (intro w' hSw; obtain ⟨s1, s2, s3⟩ := hSw; have k0 := cell_of (i := 0) s1 rfl; have k1 := cell_of (i := 1) s1 rfl; clear s1 s2 s3; go_simp; with_reducible rfl); simp only [Act.put, pB, pC, pD]
              refine tkH hHeld 3 (oi := ?_) (v := ?_) ?_ ?_ ?_ ?_ ?_ ?_ ?_ ?_; rotate_left 2; (simp only [gA, gB, gC]; exact rfl); kernel_rfl; kernel_rfl; kernel_rfl; exact fun _ _ _ h => h; rfl; (intro w' hSw; obtain ⟨s1, s2, s3⟩ := hSw; have hk := look_spot s2 HP1.out hpx hpy; clear s1 s2 s3; go_simp; with_reducible rfl); simp only [Act.put, pB, pC, pD]
              refine tkH hHeld 6 (oi := ?_) (v := ?_) ?_ ?_ ?_ ?_ ?_ ?_ ?_ ?_; rotate_left 2; (simp only [gA, gB, gC]; exact rfl); kernel_rfl; kernel_rfl; kernel_rfl; exact fun _ _ _ h => h; rfl; (intro w' hSw; obtain ⟨s1, s2, s3⟩ := hSw; have hk := look_spot s3 HP2.out hpx hpy; clear s1 s2 s3; go_simp; with_reducible rfl); simp only [Act.put, pB, pC, pD]
              refine onH 7 (oi := ?_) (by kernel_rfl) ?_ ?_ (fun K hK => ?_); rotate_left; (simp only [gA, gB, gC]; exact rfl); rfl
              go_wp2_with (fail)
              refine (isBoth_any _ _ _).mono ?_
              rintro e w9 ⟨rfl, rfl⟩
              rw [show (decide ((p.1, p.2) ∈ (setL cx cy R n)) && decide ((p.1, p.2) ∈ (setL dx dy R' n'))) = false from HZ1.out]
              go_wp2_with (fail)
              refine hK.out _ _ hHeld (fun hH2 => ?_)
              clear hK K hHeld hH2
              try simp only [Act.put, pB, pC, pD]
              refine wpAnyH_done (by kernel_rfl) ?_ _
              
              have hNX := left_miss HL3.out HKK.out HZP.out HP2.out HPM.out
              have HNX := Lib.hid hNX
              have HRG6 := Lib.hid (ranges_drew HRG5.out)
              have HMU6 := Lib.hid HMU5.out.drew
              have HO6 := Lib.hid HO5.out.drew
              clear hNX HRG5 HMU5 HO5 hKb hM1 hM2
              go_wp2_with (fail)
              go_roundw
              case rel =>
                (repeat apply Exists.intro)
                refine ⟨?_, rfl⟩
                exact ⟨mm, lo, _, cnt5, by omega, HO6.out, HRG6.out, HL1.out, HL2.out, HNX.out, HMU6.out⟩
              case measure => (have hq := HRG6.out; rw [hq.left_eq, HRG4.out.left_eq]; exact hmeas)
            · refine wp_region_held_drew (S := (fun w' : World => w'.heap[wr.heap.size]? = some (.cells #[.int .i64 p.1, .int .i64 p.2] 72 (0, 0)) ∧ w'.ownsMap Tryz.prog 72 (plainElem Tryz.prog 4) bm nm (DS (setL cx cy R n)) ∧ w'.ownsMap Tryz.prog 72 (plainElem Tryz.prog 4) bn nn (DS (setL dx dy R' n')))) (by kernel_rfl) ⟨hKb, hM1, hM2⟩ (fun hHeld => ?_)
              refine tkH hHeld 0 (oi := ?_) (v := ?_) ?_ ?_ ?_ ?_ ?_ ?_ ?_ ?_; rotate_left 2; (simp only [gA, gB, gC]; exact rfl); kernel_rfl; kernel_rfl; kernel_rfl; exact fun _ _ _ h => h; rfl; (intro w' hSw; go_simp; with_reducible rfl); simp only [Act.put, pB, pC, pD]
              refine tkH hHeld 1 (oi := ?_) (v := ?_) ?_ ?_ ?_ ?_ ?_ ?_ ?_ ?_; rotate_left 2; (simp only [gA, gB, gC]; exact rfl); kernel_rfl; kernel_rfl; kernel_rfl; exact fun _ _ _ h => h; rfl; (intro w' hSw; go_simp; with_reducible rfl); simp only [Act.put, pB, pC, pD]
              refine tkH hHeld 2 (oi := ?_) (v := ?_) ?_ ?_ ?_ ?_ ?_ ?_ ?_ ?_; rotate_left 2; (simp only [gA, gB, gC]; exact rfl); kernel_rfl; kernel_rfl; kernel_rfl; exact fun _ _ _ h => h; rfl; (intro w' hSw; obtain ⟨s1, s2, s3⟩ := hSw; have k0 := cell_of (i := 0) s1 rfl; have k1 := cell_of (i := 1) s1 rfl; clear s1 s2 s3; go_simp; with_reducible rfl); simp only [Act.put, pB, pC, pD]
              refine tkH hHeld 4 (oi := ?_) (v := ?_) ?_ ?_ ?_ ?_ ?_ ?_ ?_ ?_; rotate_left 2; (simp only [gA, gB, gC]; exact rfl); kernel_rfl; kernel_rfl; kernel_rfl; exact fun _ _ _ h => h; rfl; (intro w' hSw; go_simp; with_reducible rfl); simp only [Act.put, pB, pC, pD]
              refine tkH hHeld 5 (oi := ?_) (v := ?_) ?_ ?_ ?_ ?_ ?_ ?_ ?_ ?_; rotate_left 2; (simp only [gA, gB, gC]; exact rfl); kernel_rfl; kernel_rfl; kernel_rfl; exact fun _ _ _ h => h; rfl; (intro w' hSw; obtain ⟨s1, s2, s3⟩ := hSw; have k0 := cell_of (i := 0) s1 rfl; have k1 := cell_of (i := 1) s1 rfl; clear s1 s2 s3; go_simp; with_reducible rfl); simp only [Act.put, pB, pC, pD]
              refine tkH hHeld 3 (oi := ?_) (v := ?_) ?_ ?_ ?_ ?_ ?_ ?_ ?_ ?_; rotate_left 2; (simp only [gA, gB, gC]; exact rfl); kernel_rfl; kernel_rfl; kernel_rfl; exact fun _ _ _ h => h; rfl; (intro w' hSw; obtain ⟨s1, s2, s3⟩ := hSw; have hk := look_spot s2 HP1.out hpx hpy; clear s1 s2 s3; go_simp; with_reducible rfl); simp only [Act.put, pB, pC, pD]
              refine tkH hHeld 6 (oi := ?_) (v := ?_) ?_ ?_ ?_ ?_ ?_ ?_ ?_ ?_; rotate_left 2; (simp only [gA, gB, gC]; exact rfl); kernel_rfl; kernel_rfl; kernel_rfl; exact fun _ _ _ h => h; rfl; (intro w' hSw; obtain ⟨s1, s2, s3⟩ := hSw; have hk := look_spot s3 HP2.out hpx hpy; clear s1 s2 s3; go_simp; with_reducible rfl); simp only [Act.put, pB, pC, pD]
              refine onH 7 (oi := ?_) (by kernel_rfl) ?_ ?_ (fun K hK => ?_); rotate_left; (simp only [gA, gB, gC]; exact rfl); rfl
              go_wp2_with (fail)
              refine (isBoth_any _ _ _).mono ?_
              rintro e w9 ⟨rfl, rfl⟩
              rw [show (decide ((p.1, p.2) ∈ (setL cx cy R n)) && decide ((p.1, p.2) ∈ (setL dx dy R' n'))) = true from HZ1.out]
              go_wp2_with (fail)
              refine hK.out _ _ hHeld (fun hH2 => ?_)
              clear hK K hHeld hH2
              try simp only [Act.put, pB, pC, pD]
              refine wpAnyH_done (by kernel_rfl) ?_ _
              
              have hNX := left_hit HL3.out HKK.out HP2.out HPM.out
              have HNX := Lib.hid hNX
              have HRG6 := Lib.hid (ranges_drew HRG5.out)
              have HMU6 := Lib.hid HMU5.out.drew
              have HO6 := Lib.hid HO5.out.drew
              have k0 : e5.drew.cell? ⟨wr.heap.size, 0, none⟩ = some (.int .i64 p.1) := cell_of (w := e5) hKb rfl
              have k1 : e5.drew.cell? ⟨wr.heap.size, 1, none⟩ = some (.int .i64 p.2) := cell_of (w := e5) hKb rfl
              clear hNX HRG5 HMU5 HO5 hKb hM1 hM2
              generalize e5.drew = e6 at *
              go_wp2_with (at_mapUpdate; refine wpList_mapUpdate_own _ rfl _ _ _ 65 rfl 72 4 spotKeyed Tryz.underlying65 _ om mm _ rfl HO6.out (by unfold maxLen; omega) _ _ _ rfl rfl HKY.out _ [] (plainElem_bool Tryz.underlying4 true) ?_; intro w6 hown6 hgrow6)
              have HO7 := Lib.hid hown6
              have HRG7 := Lib.hid (HRG6.out.kept hgrow6 (by simpa using hb2) (by simp; omega))
              have HMU7 := Lib.hid (HMU6.out.grownS hgrow6)
              clear hown6 hgrow6
              go_roundw
              case rel =>
                (repeat apply Exists.intro)
                refine ⟨?_, rfl⟩
                exact ⟨mm + 1, lo ++ [(p.1, p.2)], _, cnt5, by omega, by rw [ds_snoc]; exact HO7.out, HRG7.out, add_all HL1.out ⟨HZP.out, hpx, hpy⟩, fun p' hp' => List.mem_append_left _ (HL2.out p' hp'), HNX.out, HMU7.out⟩
              case measure => (have hq := HRG7.out; rw [hq.left_eq, HRG4.out.left_eq]; exact hmeas)
      · obtain rfl : k = 0 := by omega
        have hA3 := (HMU.out.block w.heap.size (by omega) (by omega)).trans HA1.out
        have a0 : wr.cell? ⟨w.heap.size, 0, none⟩ = some (.int .i64 s) := cell_of hA3 rfl
        have HEQ : Hid ((fun p q => decide ((p, q) ∈ lo0)) = P) := Lib.hid (lo_eq (la := (setL cx cy R n)) (lb := (setL dx dy R' n')) (fun p q h => by have h2 := HPQ.out p q; rw [h] at h2; simp only [covB] at h2; simp at h2; exact .inl h2.1) HLO.out (HLA.out (by omega)) (HLB.out (by omega)))
        have HZ4 := Lib.hid ((HMU.out.block (w.heap.size + 1 + 1) (by omega) (by omega)).trans HZ1'.out)
        have HB4 : Hid (Below w.heap.size w wr) := Lib.hid (HBw1.out.trans (HMU.out.toBelow w.heap.size (by omega) (fun k hk e => by omega)))
        have hom5 := HO.out
        have HOO := Lib.hid (fun p hp => (HLO.out p hp).2)
        clear hA3 ec
        go_wp2_with (fail)
        refine (cellsOf_any om mm0 lo0 s _ HO.out HOO.out HV1.out.s2).mono ?_
        rw [HEQ.out]
        rintro e w9 ⟨ez, ex, ey, ea, en, ec, eR, eE, rfl, hare, hrow, hfr, hn1_, hn2_, hn3_, hb⟩
        have hz := heap_keep hb HZ4.out
        have z0 : w9.cell? ⟨w.heap.size + 1 + 1, 0, none⟩ = some (.int .i64 0) := cell_of hz rfl
        have zf0 : w9.frozen? ⟨w.heap.size + 1 + 1, 0, none⟩ = false := frozen_of hz
        have z1 : w9.cell? ⟨w.heap.size + 1 + 1, 1, none⟩ = some (.int .i64 0) := cell_of hz rfl
        have zf1 : w9.frozen? ⟨w.heap.size + 1 + 1, 1, none⟩ = false := frozen_of hz
        have z2 : w9.cell? ⟨w.heap.size + 1 + 1, 2, none⟩ = some (.int .i64 0) := cell_of hz rfl
        have zf2 : w9.frozen? ⟨w.heap.size + 1 + 1, 2, none⟩ = false := frozen_of hz
        have z3 : w9.cell? ⟨w.heap.size + 1 + 1, 3, none⟩ = some (.slice none 0 0) := cell_of hz rfl
        have zf3 : w9.frozen? ⟨w.heap.size + 1 + 1, 3, none⟩ = false := frozen_of hz
        have HWB := Lib.hid (HB4.out.trans (hb.mono HB4.out.size))
        have hne : ∀ b off, ea = some ⟨b, off, none⟩ → b ≠ w.heap.size + 1 + 1 := fun b off h => by have := hfr b off h; omega
        have HARE := Lib.hid hare
        have HFR := Lib.hid (fun b off h => Nat.le_trans HB4.out.size (hfr b off h))
        have HN3 := Lib.hid hn3_
        have HNE := Lib.hid hne
        have HROW := Lib.hid hrow
        clear hz hne hrow hfr hare hn3_ hb hom5
        go_wp2_with (fail)
        obtain ⟨r0, r1, r2, r3⟩ := set4 (w := w9) (R := w.heap.size + 1 + 1) (x0 := (.int .i64 ez)) (x1 := (.int .i64 ex)) (x2 := (.int .i64 ey)) (x3 := (.slice ea en ec)) (is4 (is_some z0) (is_some z1) (is_some z2) (is_some z3)) rfl
        have HF : Hid (Below w.heap.size w ((((w9.setCell ⟨w.heap.size + 1 + 1, 0, none⟩ (.int .i64 ez)).setCell ⟨w.heap.size + 1 + 1, 1, none⟩ (.int .i64 ex)).setCell ⟨w.heap.size + 1 + 1, 2, none⟩ (.int .i64 ey)).setCell ⟨w.heap.size + 1 + 1, 3, none⟩ (.slice ea en ec))) := Lib.hid ((((HWB.out.setCell (by show _ ≤ w.heap.size + 1 + 1; omega) _).setCell (by show _ ≤ w.heap.size + 1 + 1; omega) _).setCell (by show _ ≤ w.heap.size + 1 + 1; omega) _).setCell (by show _ ≤ w.heap.size + 1 + 1; omega) _)
        have HRW : Hid (RowS ((((w9.setCell ⟨w.heap.size + 1 + 1, 0, none⟩ (.int .i64 ez)).setCell ⟨w.heap.size + 1 + 1, 1, none⟩ (.int .i64 ex)).setCell ⟨w.heap.size + 1 + 1, 2, none⟩ (.int .i64 ey)).setCell ⟨w.heap.size + 1 + 1, 3, none⟩ (.slice ea en ec)) ea en eR) := Lib.hid ((((HROW.out.set _ _ HNE.out).set _ _ HNE.out).set _ _ HNE.out).set _ _ HNE.out)
        generalize ((((w9.setCell ⟨w.heap.size + 1 + 1, 0, none⟩ (.int .i64 ez)).setCell ⟨w.heap.size + 1 + 1, 1, none⟩ (.int .i64 ex)).setCell ⟨w.heap.size + 1 + 1, 2, none⟩ (.int .i64 ey)).setCell ⟨w.heap.size + 1 + 1, 3, none⟩ (.slice ea en ec)) = WW at *
        exact bodyPost_ret (v := .tuple #[.agg #[.int .i64 ez, .int .i64 ex, .int .i64 ey, .slice ea en ec], .int .i64 eE]) (by simp [results, Tryz.results22, go_sem, r0, r1, r2, r3]) rfl ⟨ez, ex, ey, ea, en, ec, eR, eE, rfl, HARE.out, HRW.out, HFR.out, hn1_, hn2_, HN3.out, HF.out⟩
theorem isMinus_any (x y : Bool) (w : World) : Calls Tryz.prog 13 #[.bool x, .bool y] w fun e w' => e = .returned (.bool (x && !y)) ∧ w' = w := by
  rcases x with _ | _ <;> rcases y with _ | _
  all_goals
    go_enter Tryz.func13, Tryz.ntmps13
    go_wp2
    go_ret
    exact ⟨rfl, rfl⟩
set_option maxRecDepth 100000 in
set_option maxHeartbeats 16000000 in
theorem combMinus_any (s x y : Int) (a : Option Addr) (n c : Nat) (R : Nat → List UInt8) (s' x' y' : Int) (a' : Option Addr) (n' c' : Nat) (R' : Nat → List UInt8) (w : World) (cx cy dx dy : Int) (m m' : Nat) (hv1 : VC s x y n R cx cy m) (hv2 : VC s' x' y' n' R' dx dy m') (P : Int → Int → Bool) (hPQ : ∀ p q, P p q = (covB cx cy n R p q && !covB dx dy n' R' p q)) (hr : RowS w a n R) (hr' : RowS w a' n' R') :
    Calls Tryz.prog 22 #[.agg #[.int .i64 s, .int .i64 x, .int .i64 y, .slice a n c], .agg #[.int .i64 s', .int .i64 x', .int .i64 y', .slice a' n' c'], .func (.func 13) #[] #[]] w (CellsRes P s w) := by
  have hmm := @run_makeMap Tryz.prog
  have HPQ := Lib.hid hPQ
  have HV1 := Lib.hid hv1
  have HV2 := Lib.hid hv2
  have HRa := Lib.hid hr
  have HRb := Lib.hid hr'
  clear hv1 hv2 hPQ hr hr'
  go_enter Tryz.func22, Tryz.ntmps22
  go_wp2_with (fail)
  have HW : Hid (Below w.heap.size w (((w.alloc (.cells #[.int .i64 s, .int .i64 x, .int .i64 y, .slice a n c] 28)).alloc (.cells #[.int .i64 s', .int .i64 x', .int .i64 y', .slice a' n' c'] 28)).alloc (.cells #[.int .i64 0, .int .i64 0, .int .i64 0, .slice none 0 0] 28))) := Lib.hid (by repeat (first | exact Below.refl _ _ | assumption | refine Below.drew ?_ | refine bdrewN ?_ _ | refine Below.setCell ?_ (by first | omega | (simp <;> omega)) _ | refine Below.alloc ?_ (by first | omega | (simp <;> omega)) _))
  have HA : Hid ((((w.alloc (.cells #[.int .i64 s, .int .i64 x, .int .i64 y, .slice a n c] 28)).alloc (.cells #[.int .i64 s', .int .i64 x', .int .i64 y', .slice a' n' c'] 28)).alloc (.cells #[.int .i64 0, .int .i64 0, .int .i64 0, .slice none 0 0] 28)).heap[w.heap.size]? = some (.cells #[.int .i64 s, .int .i64 x, .int .i64 y, .slice a n c] 28 (0, 0))) := Lib.hid (by repeat (first | (refine heap_new ?_; first | rfl | (simp; done)) | rw [Below.heap_alloc _ _ _ (by simp <;> omega)]))
  have HB : Hid ((((w.alloc (.cells #[.int .i64 s, .int .i64 x, .int .i64 y, .slice a n c] 28)).alloc (.cells #[.int .i64 s', .int .i64 x', .int .i64 y', .slice a' n' c'] 28)).alloc (.cells #[.int .i64 0, .int .i64 0, .int .i64 0, .slice none 0 0] 28)).heap[w.heap.size + 1]? = some (.cells #[.int .i64 s', .int .i64 x', .int .i64 y', .slice a' n' c'] 28 (0, 0))) := Lib.hid (by repeat (first | (refine heap_new ?_; first | rfl | (simp; done)) | rw [Below.heap_alloc _ _ _ (by simp <;> omega)]))
  have HZ : Hid ((((w.alloc (.cells #[.int .i64 s, .int .i64 x, .int .i64 y, .slice a n c] 28)).alloc (.cells #[.int .i64 s', .int .i64 x', .int .i64 y', .slice a' n' c'] 28)).alloc (.cells #[.int .i64 0, .int .i64 0, .int .i64 0, .slice none 0 0] 28)).heap[w.heap.size + 1 + 1]? = some (.cells #[.int .i64 0, .int .i64 0, .int .i64 0, .slice none 0 0] 28 (0, 0))) := Lib.hid (by repeat (first | (refine heap_new ?_; first | rfl | (simp; done)) | rw [Below.heap_alloc _ _ _ (by simp <;> omega)]))
  generalize (((w.alloc (.cells #[.int .i64 s, .int .i64 x, .int .i64 y, .slice a n c] 28)).alloc (.cells #[.int .i64 s', .int .i64 x', .int .i64 y', .slice a' n' c'] 28)).alloc (.cells #[.int .i64 0, .int .i64 0, .int .i64 0, .slice none 0 0] 28)) = w0 at *
  have HR1 := Lib.hid (HRa.out.kept HW.out)
  have HR2 := Lib.hid (HRb.out.kept HW.out)
  go_cut [8, 9, 10] from 14 to 19 (MapsE w0 (setL cx cy R n) (setL dx dy R' n'))
  case first =>
    refine wp_region_held_drew (S := (fun w' : World => w'.heap[w.heap.size]? = some (.cells #[.int .i64 s, .int .i64 x, .int .i64 y, .slice a n c] 28 (0, 0)) ∧ w'.heap[w.heap.size + 1]? = some (.cells #[.int .i64 s', .int .i64 x', .int .i64 y', .slice a' n' c'] 28 (0, 0)))) (by kernel_rfl) ⟨HA.out, HB.out⟩ (fun hHeld => ?_)
    refine tkH hHeld 0 (oi := ?_) (v := ?_) ?_ ?_ ?_ ?_ ?_ ?_ ?_ ?_; rotate_left 2; (simp only [gA, gB, gC]; exact rfl); kernel_rfl; kernel_rfl; kernel_rfl; exact fun _ _ _ h => h; rfl; (intro w' hSw; obtain ⟨hs1, hs2⟩ := hSw; have z0 := cell_of (i := 0) hs1 rfl; have z1 := cell_of (i := 1) hs1 rfl; have z2 := cell_of (i := 2) hs1 rfl; have z3 := cell_of (i := 3) hs1 rfl; clear hs1 hs2; go_simp; with_reducible rfl); simp only [Act.put, pB, pC, pD]
    refine tkH hHeld 2 (oi := ?_) (v := ?_) ?_ ?_ ?_ ?_ ?_ ?_ ?_ ?_; rotate_left 2; (simp only [gA, gB, gC]; exact rfl); kernel_rfl; kernel_rfl; kernel_rfl; exact fun _ _ _ h => h; rfl; (intro w' hSw; obtain ⟨hs1, hs2⟩ := hSw; have z0 := cell_of (i := 0) hs2 rfl; have z1 := cell_of (i := 1) hs2 rfl; have z2 := cell_of (i := 2) hs2 rfl; have z3 := cell_of (i := 3) hs2 rfl; clear hs1 hs2; go_simp; with_reducible rfl); simp only [Act.put, pB, pC, pD]
    clear hHeld
    have HT : Hid (Below w0.heap.size w0 w0.drew) := Lib.hid (Below.refl _ _).drew
    generalize w0.drew = d0 at *
    refine wpAnyH_ready (rs := [1, 4]) (by kernel_rfl) (by simp) ?_
    refine coH 1 (oi := ?_) ?_ ?_ (fun K hK => ?_) ?_; rotate_left; (simp only [gA, gB, gC]; exact rfl); rfl
    ·
     go_wp2_with (fail)
     refine (setOf_all a c _ HV1.out (HR1.out.kept HT.out)).mono ?_
     rintro e d17 ⟨b17, nb17, rfl, hge, hle, hown, hb⟩
     have HN := Lib.hid hown
     clear hown
     go_wp2_with (fail)
     replace HT := Lib.hid (HT.out.trans (hb.mono HT.out.size))
     have HF := HN
     have lf := hle
     clear hb HN hge hle
     refine hK.out _ _ ⟨heap_keep HT.out HA.out, heap_keep HT.out HB.out⟩ (fun hHeld => ?_)
     clear hK K hHeld
     try simp only [Act.put, pB, pC, pD]
     refine wpAnyH_ready (rs := [3, 4]) (by kernel_rfl) (by simp) ?_
     refine coH 3 (oi := ?_) ?_ ?_ (fun K hK => ?_) ?_; rotate_left; (simp only [gA, gB, gC]; exact rfl); rfl
     ·
      go_wp2_with (fail)
      refine (setOf_all a' c' _ HV2.out (HR2.out.kept HT.out)).mono ?_
      rintro e d18 ⟨b18, nb18, rfl, hge, hle, hown, hb⟩
      have HN := Lib.hid hown
      clear hown
      go_wp2_with (fail)
      replace HT := Lib.hid (HT.out.trans (hb.mono HT.out.size))
      replace HF := Lib.hid (own_below HF.out hb)
      have HG := HN
      have lg := hle
      clear hb HN hge hle
      refine hK.out _ _ ⟨heap_keep HT.out HA.out, heap_keep HT.out HB.out⟩ (fun hHeld => ?_)
      clear hK K hHeld
      try simp only [Act.put, pB, pC, pD]
      refine tkH ⟨heap_keep HT.out HA.out, heap_keep HT.out HB.out⟩ 5 (oi := ?_) (v := ?_) ?_ ?_ ?_ ?_ ?_ ?_ ?_ ?_; rotate_left 2; (simp only [gA, gB, gC]; exact rfl); kernel_rfl; kernel_rfl; kernel_rfl; exact fun _ _ _ h => h; rfl; (intro w' hSw; go_simp; with_reducible rfl); simp only [Act.put, pB, pC, pD]
      refine tkH ⟨heap_keep HT.out HA.out, heap_keep HT.out HB.out⟩ 6 (oi := ?_) (v := ?_) ?_ ?_ ?_ ?_ ?_ ?_ ?_ ?_; rotate_left 2; (simp only [gA, gB, gC]; exact rfl); kernel_rfl; kernel_rfl; kernel_rfl; exact fun _ _ _ h => h; rfl; (intro w' hSw; go_simp; with_reducible rfl); simp only [Act.put, pB, pC, pD]
      refine wpAnyH_ready (rs := [4]) (by kernel_rfl) (by simp) ?_
      refine coH 4 (oi := ?_) ?_ ?_ (fun K hK => ?_) ?_; rotate_left; (simp only [gA, gB, gC]; exact rfl); rfl
      ·
       go_wp2_with (fail)
       have hb : Below d18.heap.size d18 (d18.alloc (.map #[] 0)) := (Below.refl _ _).alloc (Nat.le_refl _) _
       have HN : Hid ((d18.alloc (.map #[] 0)).ownsMap Tryz.prog 72 (plainElem Tryz.prog 4) d18.heap.size 0 (DS [])) := Lib.hid (World.ownsMap_made d18 Tryz.prog 72 (plainElem (H := Unit) Tryz.prog 4))
       have hwn : w0.heap.size ≤ d18.heap.size := HT.out.size
       have hn1 : b17 ≠ d18.heap.size := fun e => by have := HF.out.lt; omega
       have hn2 : b18 ≠ d18.heap.size := fun e => by have := HG.out.lt; omega
       generalize (d18.alloc (.map #[] 0)) = d19 at *
       replace HT := Lib.hid (HT.out.trans (hb.mono HT.out.size))
       replace HF := Lib.hid (own_below HF.out hb)
       replace HG := Lib.hid (own_below HG.out hb)
       have HO := HN
       have how := hwn
       have hfo := hn1
       have hgo := hn2
       clear hb HN
       refine hK.out _ _ ⟨heap_keep HT.out HA.out, heap_keep HT.out HB.out⟩ (fun hHeld => ?_)
       clear hK K hHeld
       try simp only [Act.put, pB, pC, pD]
       refine tkH ⟨heap_keep HT.out HA.out, heap_keep HT.out HB.out⟩ 7 (oi := ?_) (v := ?_) ?_ ?_ ?_ ?_ ?_ ?_ ?_ ?_; rotate_left 2; (simp only [gA, gB, gC]; exact rfl); kernel_rfl; kernel_rfl; kernel_rfl; exact fun _ _ _ h => h; rfl; (intro w' hSw; go_simp; with_reducible rfl); simp only [Act.put, pB, pC, pD]
       refine wpAnyH_done (by kernel_rfl) ?_ _
       go_wp2_with (fail)
       go_meet
       exact ⟨b17, b18, d18.heap.size, nb17, nb18, rfl, rfl, rfl, HF.out, HG.out, HO.out, hfo, hgo, lf, lg, how, HT.out⟩
      exact AllReadyH.nil
     refine coH 4 (oi := ?_) ?_ ?_ (fun K hK => ?_) ?_; rotate_left; (simp only [gA, gB, gC]; exact rfl); rfl
     ·
      go_wp2_with (fail)
      have hb : Below d17.heap.size d17 (d17.alloc (.map #[] 0)) := (Below.refl _ _).alloc (Nat.le_refl _) _
      have HN : Hid ((d17.alloc (.map #[] 0)).ownsMap Tryz.prog 72 (plainElem Tryz.prog 4) d17.heap.size 0 (DS [])) := Lib.hid (World.ownsMap_made d17 Tryz.prog 72 (plainElem (H := Unit) Tryz.prog 4))
      have hwn : w0.heap.size ≤ d17.heap.size := HT.out.size
      have hn1 : b17 ≠ d17.heap.size := fun e => by have := HF.out.lt; omega
      generalize (d17.alloc (.map #[] 0)) = d20 at *
      replace HT := Lib.hid (HT.out.trans (hb.mono HT.out.size))
      replace HF := Lib.hid (own_below HF.out hb)
      have HO := HN
      have how := hwn
      have hfo := hn1
      clear hb HN
      refine hK.out _ _ ⟨heap_keep HT.out HA.out, heap_keep HT.out HB.out⟩ (fun hHeld => ?_)
      clear hK K hHeld
      try simp only [Act.put, pB, pC, pD]
      refine wpAnyH_ready (rs := [3]) (by kernel_rfl) (by simp) ?_
      refine coH 3 (oi := ?_) ?_ ?_ (fun K hK => ?_) ?_; rotate_left; (simp only [gA, gB, gC]; exact rfl); rfl
      ·
       go_wp2_with (fail)
       refine (setOf_all a' c' _ HV2.out (HR2.out.kept HT.out)).mono ?_
       rintro e d21 ⟨b21, nb21, rfl, hge, hle, hown, hb⟩
       have HN := Lib.hid hown
       clear hown
       have hne : b21 ≠ d17.heap.size := fun e => by have := HO.out.lt; omega
       go_wp2_with (fail)
       replace HT := Lib.hid (HT.out.trans (hb.mono HT.out.size))
       replace HF := Lib.hid (own_below HF.out hb)
       replace HO := Lib.hid (own_below HO.out hb)
       have HG := HN
       have lg := hle
       have hgo := hne
       clear hne
       clear hb HN hge hle
       refine hK.out _ _ ⟨heap_keep HT.out HA.out, heap_keep HT.out HB.out⟩ (fun hHeld => ?_)
       clear hK K hHeld
       try simp only [Act.put, pB, pC, pD]
       refine tkH ⟨heap_keep HT.out HA.out, heap_keep HT.out HB.out⟩ 5 (oi := ?_) (v := ?_) ?_ ?_ ?_ ?_ ?_ ?_ ?_ ?_; rotate_left 2; (simp only [gA, gB, gC]; exact rfl); kernel_rfl; kernel_rfl; kernel_rfl; exact fun _ _ _ h => h; rfl; (intro w' hSw; go_simp; with_reducible rfl); simp only [Act.put, pB, pC, pD]
       refine tkH ⟨heap_keep HT.out HA.out, heap_keep HT.out HB.out⟩ 6 (oi := ?_) (v := ?_) ?_ ?_ ?_ ?_ ?_ ?_ ?_ ?_; rotate_left 2; (simp only [gA, gB, gC]; exact rfl); kernel_rfl; kernel_rfl; kernel_rfl; exact fun _ _ _ h => h; rfl; (intro w' hSw; go_simp; with_reducible rfl); simp only [Act.put, pB, pC, pD]
       refine tkH ⟨heap_keep HT.out HA.out, heap_keep HT.out HB.out⟩ 7 (oi := ?_) (v := ?_) ?_ ?_ ?_ ?_ ?_ ?_ ?_ ?_; rotate_left 2; (simp only [gA, gB, gC]; exact rfl); kernel_rfl; kernel_rfl; kernel_rfl; exact fun _ _ _ h => h; rfl; (intro w' hSw; go_simp; with_reducible rfl); simp only [Act.put, pB, pC, pD]
       refine wpAnyH_done (by kernel_rfl) ?_ _
       go_wp2_with (fail)
       go_meet
       exact ⟨b17, b21, d17.heap.size, nb17, nb21, rfl, rfl, rfl, HF.out, HG.out, HO.out, hfo, hgo, lf, lg, how, HT.out⟩
      exact AllReadyH.nil
     exact AllReadyH.nil
    refine coH 4 (oi := ?_) ?_ ?_ (fun K hK => ?_) ?_; rotate_left; (simp only [gA, gB, gC]; exact rfl); rfl
    ·
     go_wp2_with (fail)
     have hb : Below d0.heap.size d0 (d0.alloc (.map #[] 0)) := (Below.refl _ _).alloc (Nat.le_refl _) _
     have HN : Hid ((d0.alloc (.map #[] 0)).ownsMap Tryz.prog 72 (plainElem Tryz.prog 4) d0.heap.size 0 (DS [])) := Lib.hid (World.ownsMap_made d0 Tryz.prog 72 (plainElem (H := Unit) Tryz.prog 4))
     have hwn : w0.heap.size ≤ d0.heap.size := HT.out.size
     generalize (d0.alloc (.map #[] 0)) = d22 at *
     replace HT := Lib.hid (HT.out.trans (hb.mono HT.out.size))
     have HO := HN
     have how := hwn
     clear hb HN
     refine hK.out _ _ ⟨heap_keep HT.out HA.out, heap_keep HT.out HB.out⟩ (fun hHeld => ?_)
     clear hK K hHeld
     try simp only [Act.put, pB, pC, pD]
     refine wpAnyH_ready (rs := [1]) (by kernel_rfl) (by simp) ?_
     refine coH 1 (oi := ?_) ?_ ?_ (fun K hK => ?_) ?_; rotate_left; (simp only [gA, gB, gC]; exact rfl); rfl
     ·
      go_wp2_with (fail)
      refine (setOf_all a c _ HV1.out (HR1.out.kept HT.out)).mono ?_
      rintro e d23 ⟨b23, nb23, rfl, hge, hle, hown, hb⟩
      have HN := Lib.hid hown
      clear hown
      have hne : b23 ≠ d0.heap.size := fun e => by have := HO.out.lt; omega
      go_wp2_with (fail)
      replace HT := Lib.hid (HT.out.trans (hb.mono HT.out.size))
      replace HO := Lib.hid (own_below HO.out hb)
      have HF := HN
      have lf := hle
      have hfo := hne
      clear hne
      clear hb HN hge hle
      refine hK.out _ _ ⟨heap_keep HT.out HA.out, heap_keep HT.out HB.out⟩ (fun hHeld => ?_)
      clear hK K hHeld
      try simp only [Act.put, pB, pC, pD]
      refine wpAnyH_ready (rs := [3]) (by kernel_rfl) (by simp) ?_
      refine coH 3 (oi := ?_) ?_ ?_ (fun K hK => ?_) ?_; rotate_left; (simp only [gA, gB, gC]; exact rfl); rfl
      ·
       go_wp2_with (fail)
       refine (setOf_all a' c' _ HV2.out (HR2.out.kept HT.out)).mono ?_
       rintro e d24 ⟨b24, nb24, rfl, hge, hle, hown, hb⟩
       have HN := Lib.hid hown
       clear hown
       have hne : b24 ≠ d0.heap.size := fun e => by have := HO.out.lt; omega
       go_wp2_with (fail)
       replace HT := Lib.hid (HT.out.trans (hb.mono HT.out.size))
       replace HF := Lib.hid (own_below HF.out hb)
       replace HO := Lib.hid (own_below HO.out hb)
       have HG := HN
       have lg := hle
       have hgo := hne
       clear hne
       clear hb HN hge hle
       refine hK.out _ _ ⟨heap_keep HT.out HA.out, heap_keep HT.out HB.out⟩ (fun hHeld => ?_)
       clear hK K hHeld
       try simp only [Act.put, pB, pC, pD]
       refine tkH ⟨heap_keep HT.out HA.out, heap_keep HT.out HB.out⟩ 5 (oi := ?_) (v := ?_) ?_ ?_ ?_ ?_ ?_ ?_ ?_ ?_; rotate_left 2; (simp only [gA, gB, gC]; exact rfl); kernel_rfl; kernel_rfl; kernel_rfl; exact fun _ _ _ h => h; rfl; (intro w' hSw; go_simp; with_reducible rfl); simp only [Act.put, pB, pC, pD]
       refine tkH ⟨heap_keep HT.out HA.out, heap_keep HT.out HB.out⟩ 6 (oi := ?_) (v := ?_) ?_ ?_ ?_ ?_ ?_ ?_ ?_ ?_; rotate_left 2; (simp only [gA, gB, gC]; exact rfl); kernel_rfl; kernel_rfl; kernel_rfl; exact fun _ _ _ h => h; rfl; (intro w' hSw; go_simp; with_reducible rfl); simp only [Act.put, pB, pC, pD]
       refine tkH ⟨heap_keep HT.out HA.out, heap_keep HT.out HB.out⟩ 7 (oi := ?_) (v := ?_) ?_ ?_ ?_ ?_ ?_ ?_ ?_ ?_; rotate_left 2; (simp only [gA, gB, gC]; exact rfl); kernel_rfl; kernel_rfl; kernel_rfl; exact fun _ _ _ h => h; rfl; (intro w' hSw; go_simp; with_reducible rfl); simp only [Act.put, pB, pC, pD]
       refine wpAnyH_done (by kernel_rfl) ?_ _
       go_wp2_with (fail)
       go_meet
       exact ⟨b23, b24, d0.heap.size, nb23, nb24, rfl, rfl, rfl, HF.out, HG.out, HO.out, hfo, hgo, lf, lg, how, HT.out⟩
      exact AllReadyH.nil
     exact AllReadyH.nil
    exact AllReadyH.nil
  case rest =>
    obtain ⟨bm, bn, om, nm, nn, rfl, rfl, rfl, hom1, hom2, hom3, hb1, hb2, hn1, hn2, how, hbel⟩ := hcut
    have HP1 : Hid (∀ p ∈ (setL cx cy R n), smx p.1 ∧ smx p.2) := Lib.hid (set_smx (by have := HV1.out.bx; omega) (by have := HV1.out.by_; omega) (by have := HV1.out.n2; omega) (fun i hi => by rw [(HV1.out.row i hi).1]; have := HV1.out.m2; omega))
    have HP2 : Hid (∀ p ∈ (setL dx dy R' n'), smx p.1 ∧ smx p.2) := Lib.hid (set_smx (by have := HV2.out.bx; omega) (by have := HV2.out.by_; omega) (by have := HV2.out.n2; omega) (fun i hi => by rw [(HV2.out.row i hi).1]; have := HV2.out.m2; omega))
    have HM1 := Lib.hid hom1
    have HM2 := Lib.hid hom2
    have HM3 := Lib.hid hom3
    have hz0l := lt_of_heap HZ.out
    have HA' := Lib.hid (heap_keep hbel HA.out)
    have HZ' := Lib.hid (heap_keep hbel HZ.out)
    have HBw := Lib.hid (HW.out.trans (hbel.mono HW.out.size))
    have hl1 := hom1.lt
    have hl2 := hom2.lt
    have hl3 := hom3.lt
    clear hom1 hom2 hom3 HA HB HZ HR1 HR2 HW hbel
    go_upto_region 3 with (fail)
    have HARR : Hid ((wc.alloc (.cells #[.map (some bm), .map (some bn)] 65)).heap[wc.heap.size]? = some (.cells #[.map (some bm), .map (some bn)] 65 (0, 0))) := Lib.hid (heap_new rfl)
    have HM1a := Lib.hid (HM1.out.alloc (.cells #[.map (some bm), .map (some bn)] 65))
    have HM2a := Lib.hid (HM2.out.alloc (.cells #[.map (some bm), .map (some bn)] 65))
    have HA1 := Lib.hid (heap_keep ((Below.refl _ _).alloc (Nat.le_refl _) (.cells #[.map (some bm), .map (some bn)] 65)) HA'.out)
    have HZ1' := Lib.hid (heap_keep ((Below.refl _ _).alloc (Nat.le_refl _) (.cells #[.map (some bm), .map (some bn)] 65)) HZ'.out)
    have HBw1 := Lib.hid (HBw.out.alloc HBw.out.size (.cells #[.map (some bm), .map (some bn)] 65))
    have hz2l := lt_of_heap HZ'.out
    have HO0 := Lib.hid (HM3.out.alloc (.cells #[.map (some bm), .map (some bn)] 65))
    have hv1 : wc.heap.size + 1 = (wc.alloc (.cells #[.map (some bm), .map (some bn)] 65)).heap.size := by simp
    have HV1s := Lib.hid hv1
    have hv1l : wc.heap.size < (wc.alloc (.cells #[.map (some bm), .map (some bn)] 65)).heap.size := by simp
    clear hv1
    change Code.wp _ _ _ _ (wc.alloc (.cells #[.map (some bm), .map (some bn)] 65))
    generalize (wc.alloc (.cells #[.map (some bm), .map (some bn)] 65)) = v1 at *
    go_loopw [23] (fun i wr => ∃ (k mm : Nat) (lo : List (Int × Int)), k ≤ 2 ∧ i = .int .i64 k ∧ mm ≤ k * 1000000 ∧ wr.ownsMap Tryz.prog 72 (plainElem Tryz.prog 4) om mm (DS lo) ∧ (∀ p ∈ lo, P p.1 p.2 = true ∧ smx p.1 ∧ smx p.2) ∧ (1 ≤ k → ∀ p ∈ (setL cx cy R n), P p.1 p.2 = true → p ∈ lo) ∧ (2 ≤ k → ∀ p ∈ (setL dx dy R' n'), P p.1 p.2 = true → p ∈ lo) ∧ Mut (· = om) v1 wr) (fun i _ => 2 - (intOf i).toNat)
    case atStart => exact ⟨0, 0, [], by omega, rfl, by omega, HO0.out, fun p hp => by simp at hp, fun h => by omega, fun h => by omega, Mut.refl _ _⟩
    case round =>
      obtain ⟨k, mm0, lo0, hk, rfl, hmm0, hown, hlo, hla, hlb, hmu⟩ := hrel
      have HO := Lib.hid hown
      have HLO := Lib.hid hlo
      have HLA := Lib.hid hla
      have HLB := Lib.hid hlb
      have HMU := Lib.hid hmu
      have hszr := hmu.size
      have ec : wr.cell? ⟨wc.heap.size, 0, none⟩ = some (.map (some bm)) ∧ wr.cell? ⟨wc.heap.size, 1, none⟩ = some (.map (some bn)) := by
        have h1 := (hmu.block wc.heap.size (by omega) (by omega)).trans HARR.out
        exact ⟨cell_of h1 rfl, cell_of h1 rfl⟩
      clear hown hlo hla hlb hmu
      rcases k with _ | _ | k
      · obtain ⟨ec0, ec1⟩ := ec
        have ec := ec0
        clear ec0 ec1
        have hcm : Hid (wr.ownsMap Tryz.prog 72 (plainElem Tryz.prog 4) bm nm (DS (setL cx cy R n))) := Lib.hid (own_mut HM1a.out HMU.out hb1)
        obtain ⟨wo, hwo⟩ : ∃ wo : World, wr = wo := ⟨_, rfl⟩
        rw [hwo] at HMU HO hcm hszr ec ⊢
        clear hwo
        go_wp2_with (at_range; refine wpList_range_own _ rfl _ 65 rfl 72 4 spotKeyed Tryz.underlying65 (plainElem Tryz.prog 4) bm nm (DS (setL cx cy R n)) rfl hcm.out ?_; intro w3 hrg hg0 hs0)
        have HRG := Lib.hid hrg
        have HO3 := Lib.hid (HO.out.kept hg0 (by simp))
        have HMU3 := Lib.hid (HMU.out.grown' hg0)
        have hcl := left_le hrg
        have hs3 : w3.heap.size = wo.heap.size + 1 := hs0
        have HS3 := Lib.hid hs3
        clear hrg hg0 hs0 hs3 hcm
        go_frame
        go_loopw [13] (fun _ wr => ∃ (mm : Nat) (lo : List (Int × Int)) (left : Lit → Bool) (cnt : Nat), mm + cnt ≤ 0 * 1000000 + nm ∧ wr.ownsMap Tryz.prog 72 (plainElem Tryz.prog 4) om mm (DS lo) ∧ wr.ranges Tryz.prog 72 (plainElem Tryz.prog 4) bm wo.heap.size nm (DS (setL cx cy R n)) left cnt ∧ (∀ p ∈ lo, P p.1 p.2 = true ∧ smx p.1 ∧ smx p.2) ∧ (∀ p ∈ lo0, p ∈ lo) ∧ (∀ p ∈ (setL cx cy R n), left (SPK p.1 p.2) = true ∨ (P p.1 p.2 = true → p ∈ lo)) ∧ Mut (· = om) v1 wr) (fun _ wr => wr.rangeLeft bm wo.heap.size)
        case atStart =>
          refine ⟨mm0, lo0, _, _, by omega, HO3.out, HRG.out, HLO.out, fun p hp => hp, fun p hp => .inl ?_, HMU3.out⟩
          have := HP1.out p hp
          rw [ds_has this.1 this.2 _ HP1.out]
          simpa using hp
        case round =>
          obtain ⟨mm, lo, left, cnt, hmm, hown, hrg, hl1_, hl2_, hl3_, hmu⟩ := hrel
          have HO4 := Lib.hid hown
          have HRG4 := Lib.hid hrg
          have HL1 := Lib.hid hl1_
          have HL2 := Lib.hid hl2_
          have HL3 := Lib.hid hl3_
          have HMU4 := Lib.hid hmu
          have hrl := hrg.lt
          have hwz := hmu.size
          clear hown hrg hl1_ hl2_ hl3_ hmu
          go_wp2_with (at_next; refine wpList_next_ranges _ rfl _ rfl 72 spotKeyed (plainElem Tryz.prog 4) (fun p : Int × Int => .agg #[.int .i64 p.1, .int .i64 p.2]) (fun b : Bool => .bool b) (fun key kl h => by obtain ⟨p, e, _⟩ := key_spot_inv h; exact ⟨p, e⟩) (fun v y h => by obtain ⟨x, e, _⟩ := boolS_inv Tryz.underlying4 h; exact ⟨x, e⟩) bm wo.heap.size nm (DS (setL cx cy R n)) left cnt rfl HRG4.out ?_ ?_; all_goals (first | (intro p cv kl yv w5 cnt5 hkey hlk hv hat hrg5 hlt5 hg5 hs5 hen; try dsimp only at hkey hen) | (intro hc0 hl0)))
          · have HL0 := Lib.hid hl0
            have HDN : Hid (∀ p ∈ (setL cx cy R n), P p.1 p.2 = true → p ∈ lo) := Lib.hid (fun p hp hP => (HL3.out p hp).elim (fun h => by rw [HL0.out] at h; cases h) (fun f => f hP))
            clear hl0 hc0
            go_roundw
            case rel => exact ⟨0 + 1, mm, lo, by omega, by go_num, by omega, HO4.out, HL1.out, fun _ => HDN.out, fun h => by omega, HMU4.out⟩
            case measure => simp [intOf]
          · obtain ⟨hpm, hkk⟩ := entry_mem hkey hat HP1.out
            obtain ⟨hpx, hpy⟩ := HP1.out p hpm
            have hsy := hs5.symm
            have hKb : (w5.alloc (.cells #[.int .i64 p.1, .int .i64 p.2] 72)).heap[wr.heap.size]? = some (.cells #[.int .i64 p.1, .int .i64 p.2] 72 (0, 0)) := heap_new hsy
            have hM1 : (w5.alloc (.cells #[.int .i64 p.1, .int .i64 p.2] 72)).ownsMap Tryz.prog 72 (plainElem Tryz.prog 4) bm nm (DS (setL cx cy R n)) := ((own_mut HM1a.out HMU4.out hb1).kept hg5 (by simp; omega)).alloc _
            have hM2 : (w5.alloc (.cells #[.int .i64 p.1, .int .i64 p.2] 72)).ownsMap Tryz.prog 72 (plainElem Tryz.prog 4) bn nn (DS (setL dx dy R' n')) := ((own_mut HM2a.out HMU4.out hb2).kept hg5 (by simp; omega)).alloc _
            have HO5 : Hid ((w5.alloc (.cells #[.int .i64 p.1, .int .i64 p.2] 72)).ownsMap Tryz.prog 72 (plainElem Tryz.prog 4) om mm (DS lo)) := Lib.hid ((HO4.out.kept hg5 (by simp; omega)).alloc _)
            have HRG5 := Lib.hid (hrg5.alloc (.cells #[.int .i64 p.1, .int .i64 p.2] 72))
            have HMU5 := Lib.hid ((HMU4.out.grownR hg5 (by omega)).alloc (.cells #[.int .i64 p.1, .int .i64 p.2] 72))
            have HKK := Lib.hid hkk
            have HPM := Lib.hid hpm
            have HKY := Lib.hid (key_spot p.1 p.2 (smx_wf hpx) (smx_wf hpy))
            have hmeas : cnt5 < cnt := hlt5
            obtain ⟨z, hz⟩ : ∃ z, P p.1 p.2 = z := ⟨_, rfl⟩
            have HZ1 : Hid ((decide ((p.1, p.2) ∈ (setL cx cy R n)) && !decide ((p.1, p.2) ∈ (setL dx dy R' n'))) = z) := Lib.hid ((HPQ.out p.1 p.2).symm.trans hz)
            have HZP := Lib.hid hz
            have hle5 : w5.heap.size < (w5.alloc (.cells #[.int .i64 p.1, .int .i64 p.2] 72)).heap.size := by simp
            clear hkey hlk hv hat hrg5 hg5 hs5 hen hkk hpm hsy hz
            generalize (w5.alloc (.cells #[.int .i64 p.1, .int .i64 p.2] 72)) = e5 at *
            rcases z with _ | _
            · refine wp_region_held_drew (S := (fun w' : World => w'.heap[wr.heap.size]? = some (.cells #[.int .i64 p.1, .int .i64 p.2] 72 (0, 0)) ∧ w'.ownsMap Tryz.prog 72 (plainElem Tryz.prog 4) bm nm (DS (setL cx cy R n)) ∧ w'.ownsMap Tryz.prog 72 (plainElem Tryz.prog 4) bn nn (DS (setL dx dy R' n')))) (by kernel_rfl) ⟨hKb, hM1, hM2⟩ (fun hHeld => ?_)
              refine tkH hHeld 0 (oi := ?_) (v := ?_) ?_ ?_ ?_ ?_ ?_ ?_ ?_ ?_; rotate_left 2; (simp only [gA, gB, gC]; exact rfl); kernel_rfl; kernel_rfl; kernel_rfl; exact fun _ _ _ h => h; rfl; (intro w' hSw; go_simp; with_reducible rfl); simp only [Act.put, pB, pC, pD]
              refine tkH hHeld 1 (oi := ?_) (v := ?_) ?_ ?_ ?_ ?_ ?_ ?_ ?_ ?_; rotate_left 2; (simp only [gA, gB, gC]; exact rfl); kernel_rfl; kernel_rfl; kernel_rfl; exact fun _ _ _ h => h; rfl; (intro w' hSw; go_simp; with_reducible rfl); simp only [Act.put, pB, pC, pD]
              refine tkH hHeld 2 (oi := ?_) (v := ?_) ?_ ?_ ?_ ?_ ?_ ?_ ?_ ?_; rotate_left 2; (simp only [gA, gB, gC]; exact rfl); kernel_rfl; kernel_rfl; kernel_rfl; exact fun _ _ _ h => h; rfl; (intro w' hSw; obtain ⟨s1, s2, s3⟩ := hSw; have k0 := cell_of (i := 0) s1 rfl; have k1 := cell_of (i := 1) s1 rfl; clear s1 s2 s3; go_simp; with_reducible rfl); simp only [Act.put, pB, pC, pD]
              refine tkH hHeld 4 (oi := ?_) (v := ?_) ?_ ?_ ?_ ?_ ?_ ?_ ?_ ?_; rotate_left 2; (simp only [gA, gB, gC]; exact rfl); kernel_rfl; kernel_rfl; kernel_rfl; exact fun _ _ _ h => h; rfl; (intro w' hSw; go_simp; with_reducible rfl); simp only [Act.put, pB, pC, pD]
              refine tkH hHeld 5 (oi := ?_) (v := ?_) ?_ ?_ ?_ ?_ ?_ ?_ ?_ ?_; rotate_left 2; (simp only [gA, gB, gC]; exact rfl); kernel_rfl; kernel_rfl; kernel_rfl; exact fun _ _ _ h => h; rfl; (intro w' hSw; obtain ⟨s1, s2, s3⟩ := hSw; have k0 := cell_of (i := 0) s1 rfl; have k1 := cell_of (i := 1) s1 rfl; clear s1 s2 s3; go_simp; with_reducible rfl); simp only [Act.put, pB, pC, pD]
              refine tkH hHeld 3 (oi := ?_) (v := ?_) ?_ ?_ ?_ ?_ ?_ ?_ ?_ ?_; rotate_left 2; (simp only [gA, gB, gC]; exact rfl); kernel_rfl; kernel_rfl; kernel_rfl; exact fun _ _ _ h => h; rfl; (intro w' hSw; obtain ⟨s1, s2, s3⟩ := hSw; have hk := look_spot s2 HP1.out hpx hpy; clear s1 s2 s3; go_simp; with_reducible rfl); simp only [Act.put, pB, pC, pD]
              refine tkH hHeld 6 (oi := ?_) (v := ?_) ?_ ?_ ?_ ?_ ?_ ?_ ?_ ?_; rotate_left 2; (simp only [gA, gB, gC]; exact rfl); kernel_rfl; kernel_rfl; kernel_rfl; exact fun _ _ _ h => h; rfl; (intro w' hSw; obtain ⟨s1, s2, s3⟩ := hSw; have hk := look_spot s3 HP2.out hpx hpy; clear s1 s2 s3; go_simp; with_reducible rfl); simp only [Act.put, pB, pC, pD]
              refine onH 7 (oi := ?_) (by kernel_rfl) ?_ ?_ (fun K hK => ?_); rotate_left; (simp only [gA, gB, gC]; exact rfl); rfl
              go_wp2_with (fail)
              refine (isMinus_any _ _ _).mono ?_
              rintro e w9 ⟨rfl, rfl⟩
              rw [show (decide ((p.1, p.2) ∈ (setL cx cy R n)) && !decide ((p.1, p.2) ∈ (setL dx dy R' n'))) = false from HZ1.out]
              go_wp2_with (fail)
              refine hK.out _ _ hHeld (fun hH2 => ?_)
              clear hK K hHeld hH2
              try simp only [Act.put, pB, pC, pD]
              refine wpAnyH_done (by kernel_rfl) ?_ _
              
              have hNX := left_miss HL3.out HKK.out HZP.out HP1.out HPM.out
              have HNX := Lib.hid hNX
              have HRG6 := Lib.hid (ranges_drew HRG5.out)
              have HMU6 := Lib.hid HMU5.out.drew
              have HO6 := Lib.hid HO5.out.drew
              clear hNX HRG5 HMU5 HO5 hKb hM1 hM2
              go_wp2_with (fail)
              go_roundw
              case rel =>
                (repeat apply Exists.intro)
                refine ⟨?_, rfl⟩
                exact ⟨mm, lo, _, cnt5, by omega, HO6.out, HRG6.out, HL1.out, HL2.out, HNX.out, HMU6.out⟩
              case measure => (have hq := HRG6.out; rw [hq.left_eq, HRG4.out.left_eq]; exact hmeas)
            · refine wp_region_held_drew (S := (fun w' : World => w'.heap[wr.heap.size]? = some (.cells #[.int .i64 p.1, .int .i64 p.2] 72 (0, 0)) ∧ w'.ownsMap Tryz.prog 72 (plainElem Tryz.prog 4) bm nm (DS (setL cx cy R n)) ∧ w'.ownsMap Tryz.prog 72 (plainElem Tryz.prog 4) bn nn (DS (setL dx dy R' n')))) (by kernel_rfl) ⟨hKb, hM1, hM2⟩ (fun hHeld => ?_)
              refine tkH hHeld 0 (oi := ?_) (v := ?_) ?_ ?_ ?_ ?_ ?_ ?_ ?_ ?_; rotate_left 2; (simp only [gA, gB, gC]; exact rfl); kernel_rfl; kernel_rfl; kernel_rfl; exact fun _ _ _ h => h; rfl; (intro w' hSw; go_simp; with_reducible rfl); simp only [Act.put, pB, pC, pD]
              refine tkH hHeld 1 (oi := ?_) (v := ?_) ?_ ?_ ?_ ?_ ?_ ?_ ?_ ?_; rotate_left 2; (simp only [gA, gB, gC]; exact rfl); kernel_rfl; kernel_rfl; kernel_rfl; exact fun _ _ _ h => h; rfl; (intro w' hSw; go_simp; with_reducible rfl); simp only [Act.put, pB, pC, pD]
              refine tkH hHeld 2 (oi := ?_) (v := ?_) ?_ ?_ ?_ ?_ ?_ ?_ ?_ ?_; rotate_left 2; (simp only [gA, gB, gC]; exact rfl); kernel_rfl; kernel_rfl; kernel_rfl; exact fun _ _ _ h => h; rfl; (intro w' hSw; obtain ⟨s1, s2, s3⟩ := hSw; have k0 := cell_of (i := 0) s1 rfl; have k1 := cell_of (i := 1) s1 rfl; clear s1 s2 s3; go_simp; with_reducible rfl); simp only [Act.put, pB, pC, pD]
              refine tkH hHeld 4 (oi := ?_) (v := ?_) ?_ ?_ ?_ ?_ ?_ ?_ ?_ ?_; rotate_left 2; (simp only [gA, gB, gC]; exact rfl); kernel_rfl; kernel_rfl; kernel_rfl; exact fun _ _ _ h => h; rfl; (intro w' hSw; go_simp; with_reducible rfl); simp only [Act.put, pB, pC, pD]
              refine tkH hHeld 5 (oi := ?_) (v := ?_) ?_ ?_ ?_ ?_ ?_ ?_ ?_ ?_; rotate_left 2; (simp only [gA, gB, gC]; exact rfl); kernel_rfl; kernel_rfl; kernel_rfl; exact fun _ _ _ h => h; rfl; (intro w' hSw; obtain ⟨s1, s2, s3⟩ := hSw; have k0 := cell_of (i := 0) s1 rfl; have k1 := cell_of (i := 1) s1 rfl; clear s1 s2 s3; go_simp; with_reducible rfl); simp only [Act.put, pB, pC, pD]
              refine tkH hHeld 3 (oi := ?_) (v := ?_) ?_ ?_ ?_ ?_ ?_ ?_ ?_ ?_; rotate_left 2; (simp only [gA, gB, gC]; exact rfl); kernel_rfl; kernel_rfl; kernel_rfl; exact fun _ _ _ h => h; rfl; (intro w' hSw; obtain ⟨s1, s2, s3⟩ := hSw; have hk := look_spot s2 HP1.out hpx hpy; clear s1 s2 s3; go_simp; with_reducible rfl); simp only [Act.put, pB, pC, pD]
              refine tkH hHeld 6 (oi := ?_) (v := ?_) ?_ ?_ ?_ ?_ ?_ ?_ ?_ ?_; rotate_left 2; (simp only [gA, gB, gC]; exact rfl); kernel_rfl; kernel_rfl; kernel_rfl; exact fun _ _ _ h => h; rfl; (intro w' hSw; obtain ⟨s1, s2, s3⟩ := hSw; have hk := look_spot s3 HP2.out hpx hpy; clear s1 s2 s3; go_simp; with_reducible rfl); simp only [Act.put, pB, pC, pD]
              refine onH 7 (oi := ?_) (by kernel_rfl) ?_ ?_ (fun K hK => ?_); rotate_left; (simp only [gA, gB, gC]; exact rfl); rfl
              go_wp2_with (fail)
              refine (isMinus_any _ _ _).mono ?_
              rintro e w9 ⟨rfl, rfl⟩
              rw [show (decide ((p.1, p.2) ∈ (setL cx cy R n)) && !decide ((p.1, p.2) ∈ (setL dx dy R' n'))) = true from HZ1.out]
              go_wp2_with (fail)
              refine hK.out _ _ hHeld (fun hH2 => ?_)
              clear hK K hHeld hH2
              try simp only [Act.put, pB, pC, pD]
              refine wpAnyH_done (by kernel_rfl) ?_ _
              
              have hNX := left_hit HL3.out HKK.out HP1.out HPM.out
              have HNX := Lib.hid hNX
              have HRG6 := Lib.hid (ranges_drew HRG5.out)
              have HMU6 := Lib.hid HMU5.out.drew
              have HO6 := Lib.hid HO5.out.drew
              have k0 : e5.drew.cell? ⟨wr.heap.size, 0, none⟩ = some (.int .i64 p.1) := cell_of (w := e5) hKb rfl
              have k1 : e5.drew.cell? ⟨wr.heap.size, 1, none⟩ = some (.int .i64 p.2) := cell_of (w := e5) hKb rfl
              clear hNX HRG5 HMU5 HO5 hKb hM1 hM2
              generalize e5.drew = e6 at *
              go_wp2_with (at_mapUpdate; refine wpList_mapUpdate_own _ rfl _ _ _ 65 rfl 72 4 spotKeyed Tryz.underlying65 _ om mm _ rfl HO6.out (by unfold maxLen; omega) _ _ _ rfl rfl HKY.out _ [] (plainElem_bool Tryz.underlying4 true) ?_; intro w6 hown6 hgrow6)
              have HO7 := Lib.hid hown6
              have HRG7 := Lib.hid (HRG6.out.kept hgrow6 (by simpa using hb1) (by simp; omega))
              have HMU7 := Lib.hid (HMU6.out.grownS hgrow6)
              clear hown6 hgrow6
              go_roundw
              case rel =>
                (repeat apply Exists.intro)
                refine ⟨?_, rfl⟩
                exact ⟨mm + 1, lo ++ [(p.1, p.2)], _, cnt5, by omega, by rw [ds_snoc]; exact HO7.out, HRG7.out, add_all HL1.out ⟨HZP.out, hpx, hpy⟩, fun p' hp' => List.mem_append_left _ (HL2.out p' hp'), HNX.out, HMU7.out⟩
              case measure => (have hq := HRG7.out; rw [hq.left_eq, HRG4.out.left_eq]; exact hmeas)
      · obtain ⟨ec0, ec1⟩ := ec
        have ec := ec1
        clear ec0 ec1
        have hcm : Hid (wr.ownsMap Tryz.prog 72 (plainElem Tryz.prog 4) bn nn (DS (setL dx dy R' n'))) := Lib.hid (own_mut HM2a.out HMU.out hb2)
        obtain ⟨wo, hwo⟩ : ∃ wo : World, wr = wo := ⟨_, rfl⟩
        rw [hwo] at HMU HO hcm hszr ec ⊢
        clear hwo
        go_wp2_with (at_range; refine wpList_range_own _ rfl _ 65 rfl 72 4 spotKeyed Tryz.underlying65 (plainElem Tryz.prog 4) bn nn (DS (setL dx dy R' n')) rfl hcm.out ?_; intro w3 hrg hg0 hs0)
        have HRG := Lib.hid hrg
        have HO3 := Lib.hid (HO.out.kept hg0 (by simp))
        have HMU3 := Lib.hid (HMU.out.grown' hg0)
        have hcl := left_le hrg
        have hs3 : w3.heap.size = wo.heap.size + 1 := hs0
        have HS3 := Lib.hid hs3
        clear hrg hg0 hs0 hs3 hcm
        go_frame
        go_loopw [13] (fun _ wr => ∃ (mm : Nat) (lo : List (Int × Int)) (left : Lit → Bool) (cnt : Nat), mm + cnt ≤ 1 * 1000000 + nn ∧ wr.ownsMap Tryz.prog 72 (plainElem Tryz.prog 4) om mm (DS lo) ∧ wr.ranges Tryz.prog 72 (plainElem Tryz.prog 4) bn wo.heap.size nn (DS (setL dx dy R' n')) left cnt ∧ (∀ p ∈ lo, P p.1 p.2 = true ∧ smx p.1 ∧ smx p.2) ∧ (∀ p ∈ lo0, p ∈ lo) ∧ (∀ p ∈ (setL dx dy R' n'), left (SPK p.1 p.2) = true ∨ (P p.1 p.2 = true → p ∈ lo)) ∧ Mut (· = om) v1 wr) (fun _ wr => wr.rangeLeft bn wo.heap.size)
        case atStart =>
          refine ⟨mm0, lo0, _, _, by omega, HO3.out, HRG.out, HLO.out, fun p hp => hp, fun p hp => .inl ?_, HMU3.out⟩
          have := HP2.out p hp
          rw [ds_has this.1 this.2 _ HP2.out]
          simpa using hp
        case round =>
          obtain ⟨mm, lo, left, cnt, hmm, hown, hrg, hl1_, hl2_, hl3_, hmu⟩ := hrel
          have HO4 := Lib.hid hown
          have HRG4 := Lib.hid hrg
          have HL1 := Lib.hid hl1_
          have HL2 := Lib.hid hl2_
          have HL3 := Lib.hid hl3_
          have HMU4 := Lib.hid hmu
          have hrl := hrg.lt
          have hwz := hmu.size
          clear hown hrg hl1_ hl2_ hl3_ hmu
          go_wp2_with (at_next; refine wpList_next_ranges _ rfl _ rfl 72 spotKeyed (plainElem Tryz.prog 4) (fun p : Int × Int => .agg #[.int .i64 p.1, .int .i64 p.2]) (fun b : Bool => .bool b) (fun key kl h => by obtain ⟨p, e, _⟩ := key_spot_inv h; exact ⟨p, e⟩) (fun v y h => by obtain ⟨x, e, _⟩ := boolS_inv Tryz.underlying4 h; exact ⟨x, e⟩) bn wo.heap.size nn (DS (setL dx dy R' n')) left cnt rfl HRG4.out ?_ ?_; all_goals (first | (intro p cv kl yv w5 cnt5 hkey hlk hv hat hrg5 hlt5 hg5 hs5 hen; try dsimp only at hkey hen) | (intro hc0 hl0)))
          · have HL0 := Lib.hid hl0
            have HDN : Hid (∀ p ∈ (setL dx dy R' n'), P p.1 p.2 = true → p ∈ lo) := Lib.hid (fun p hp hP => (HL3.out p hp).elim (fun h => by rw [HL0.out] at h; cases h) (fun f => f hP))
            clear hl0 hc0
            go_roundw
            case rel => exact ⟨1 + 1, mm, lo, by omega, by go_num, by omega, HO4.out, HL1.out, fun _ p hp hP => HL2.out p (HLA.out (by omega) p hp hP), fun _ => HDN.out, HMU4.out⟩
            case measure => simp [intOf]
          · obtain ⟨hpm, hkk⟩ := entry_mem hkey hat HP2.out
            obtain ⟨hpx, hpy⟩ := HP2.out p hpm
            have hsy := hs5.symm
            have hKb : (w5.alloc (.cells #[.int .i64 p.1, .int .i64 p.2] 72)).heap[wr.heap.size]? = some (.cells #[.int .i64 p.1, .int .i64 p.2] 72 (0, 0)) := heap_new hsy
            have hM1 : (w5.alloc (.cells #[.int .i64 p.1, .int .i64 p.2] 72)).ownsMap Tryz.prog 72 (plainElem Tryz.prog 4) bm nm (DS (setL cx cy R n)) := ((own_mut HM1a.out HMU4.out hb1).kept hg5 (by simp; omega)).alloc _
            have hM2 : (w5.alloc (.cells #[.int .i64 p.1, .int .i64 p.2] 72)).ownsMap Tryz.prog 72 (plainElem Tryz.prog 4) bn nn (DS (setL dx dy R' n')) := ((own_mut HM2a.out HMU4.out hb2).kept hg5 (by simp; omega)).alloc _
            have HO5 : Hid ((w5.alloc (.cells #[.int .i64 p.1, .int .i64 p.2] 72)).ownsMap Tryz.prog 72 (plainElem Tryz.prog 4) om mm (DS lo)) := Lib.hid ((HO4.out.kept hg5 (by simp; omega)).alloc _)
            have HRG5 := Lib.hid (hrg5.alloc (.cells #[.int .i64 p.1, .int .i64 p.2] 72))
            have HMU5 := Lib.hid ((HMU4.out.grownR hg5 (by omega)).alloc (.cells #[.int .i64 p.1, .int .i64 p.2] 72))
            have HKK := Lib.hid hkk
            have HPM := Lib.hid hpm
            have HKY := Lib.hid (key_spot p.1 p.2 (smx_wf hpx) (smx_wf hpy))
            have hmeas : cnt5 < cnt := hlt5
            obtain ⟨z, hz⟩ : ∃ z, P p.1 p.2 = z := ⟨_, rfl⟩
            have HZ1 : Hid ((decide ((p.1, p.2) ∈ (setL cx cy R n)) && !decide ((p.1, p.2) ∈ (setL dx dy R' n'))) = z) := Lib.hid ((HPQ.out p.1 p.2).symm.trans hz)
            have HZP := Lib.hid hz
            have hle5 : w5.heap.size < (w5.alloc (.cells #[.int .i64 p.1, .int .i64 p.2] 72)).heap.size := by simp
            clear hkey hlk hv hat hrg5 hg5 hs5 hen hkk hpm hsy hz
            generalize (w5.alloc (.cells #[.int .i64 p.1, .int .i64 p.2] 72)) = e5 at *
            rcases z with _ | _
            · refine wp_region_held_drew (S := (fun w' : World => w'.heap[wr.heap.size]? = some (.cells #[.int .i64 p.1, .int .i64 p.2] 72 (0, 0)) ∧ w'.ownsMap Tryz.prog 72 (plainElem Tryz.prog 4) bm nm (DS (setL cx cy R n)) ∧ w'.ownsMap Tryz.prog 72 (plainElem Tryz.prog 4) bn nn (DS (setL dx dy R' n')))) (by kernel_rfl) ⟨hKb, hM1, hM2⟩ (fun hHeld => ?_)
              refine tkH hHeld 0 (oi := ?_) (v := ?_) ?_ ?_ ?_ ?_ ?_ ?_ ?_ ?_; rotate_left 2; (simp only [gA, gB, gC]; exact rfl); kernel_rfl; kernel_rfl; kernel_rfl; exact fun _ _ _ h => h; rfl; (intro w' hSw; go_simp; with_reducible rfl); simp only [Act.put, pB, pC, pD]
              refine tkH hHeld 1 (oi := ?_) (v := ?_) ?_ ?_ ?_ ?_ ?_ ?_ ?_ ?_; rotate_left 2; (simp only [gA, gB, gC]; exact rfl); kernel_rfl; kernel_rfl; kernel_rfl; exact fun _ _ _ h => h; rfl; (intro w' hSw; go_simp; with_reducible rfl); simp only [Act.put, pB, pC, pD]
              refine tkH hHeld 2 (oi := ?_) (v := ?_) ?_ ?_ ?_ ?_ ?_ ?_ ?_ ?_; rotate_left 2; (simp only [gA, gB, gC]; exact rfl); kernel_rfl; kernel_rfl; kernel_rfl; exact fun _ _ _ h => h; rfl; (intro w' hSw; obtain ⟨s1, s2, s3⟩ := hSw; have k0 := cell_of (i := 0) s1 rfl; have k1 := cell_of (i := 1) s1 rfl; clear s1 s2 s3; go_simp; with_reducible rfl); simp only [Act.put, pB, pC, pD]
              refine tkH hHeld 4 (oi := ?_) (v := ?_) ?_ ?_ ?_ ?_ ?_ ?_ ?_ ?_; rotate_left 2; (simp only [gA, gB, gC]; exact rfl); kernel_rfl; kernel_rfl; kernel_rfl; exact fun _ _ _ h => h; rfl; (intro w' hSw; go_simp; with_reducible rfl); simp only [Act.put, pB, pC, pD]
              refine tkH hHeld 5 (oi := ?_) (v := ?_) ?_ ?_ ?_ ?_ ?_ ?_ ?_ ?_; rotate_left 2; (simp only [gA, gB, gC]; exact rfl); kernel_rfl; kernel_rfl; kernel_rfl; exact fun _ _ _ h => h; rfl; (intro w' hSw; obtain ⟨s1, s2, s3⟩ := hSw; have k0 := cell_of (i := 0) s1 rfl; have k1 := cell_of (i := 1) s1 rfl; clear s1 s2 s3; go_simp; with_reducible rfl); simp only [Act.put, pB, pC, pD]
              refine tkH hHeld 3 (oi := ?_) (v := ?_) ?_ ?_ ?_ ?_ ?_ ?_ ?_ ?_; rotate_left 2; (simp only [gA, gB, gC]; exact rfl); kernel_rfl; kernel_rfl; kernel_rfl; exact fun _ _ _ h => h; rfl; (intro w' hSw; obtain ⟨s1, s2, s3⟩ := hSw; have hk := look_spot s2 HP1.out hpx hpy; clear s1 s2 s3; go_simp; with_reducible rfl); simp only [Act.put, pB, pC, pD]
              refine tkH hHeld 6 (oi := ?_) (v := ?_) ?_ ?_ ?_ ?_ ?_ ?_ ?_ ?_; rotate_left 2; (simp only [gA, gB, gC]; exact rfl); kernel_rfl; kernel_rfl; kernel_rfl; exact fun _ _ _ h => h; rfl; (intro w' hSw; obtain ⟨s1, s2, s3⟩ := hSw; have hk := look_spot s3 HP2.out hpx hpy; clear s1 s2 s3; go_simp; with_reducible rfl); simp only [Act.put, pB, pC, pD]
              refine onH 7 (oi := ?_) (by kernel_rfl) ?_ ?_ (fun K hK => ?_); rotate_left; (simp only [gA, gB, gC]; exact rfl); rfl
              go_wp2_with (fail)
              refine (isMinus_any _ _ _).mono ?_
              rintro e w9 ⟨rfl, rfl⟩
              rw [show (decide ((p.1, p.2) ∈ (setL cx cy R n)) && !decide ((p.1, p.2) ∈ (setL dx dy R' n'))) = false from HZ1.out]
              go_wp2_with (fail)
              refine hK.out _ _ hHeld (fun hH2 => ?_)
              clear hK K hHeld hH2
              try simp only [Act.put, pB, pC, pD]
              refine wpAnyH_done (by kernel_rfl) ?_ _
              
              have hNX := left_miss HL3.out HKK.out HZP.out HP2.out HPM.out
              have HNX := Lib.hid hNX
              have HRG6 := Lib.hid (ranges_drew HRG5.out)
              have HMU6 := Lib.hid HMU5.out.drew
              have HO6 := Lib.hid HO5.out.drew
              clear hNX HRG5 HMU5 HO5 hKb hM1 hM2
              go_wp2_with (fail)
              go_roundw
              case rel =>
                (repeat apply Exists.intro)
                refine ⟨?_, rfl⟩
                exact ⟨mm, lo, _, cnt5, by omega, HO6.out, HRG6.out, HL1.out, HL2.out, HNX.out, HMU6.out⟩
              case measure => (have hq := HRG6.out; rw [hq.left_eq, HRG4.out.left_eq]; exact hmeas)
            · refine wp_region_held_drew (S := (fun w' : World => w'.heap[wr.heap.size]? = some (.cells #[.int .i64 p.1, .int .i64 p.2] 72 (0, 0)) ∧ w'.ownsMap Tryz.prog 72 (plainElem Tryz.prog 4) bm nm (DS (setL cx cy R n)) ∧ w'.ownsMap Tryz.prog 72 (plainElem Tryz.prog 4) bn nn (DS (setL dx dy R' n')))) (by kernel_rfl) ⟨hKb, hM1, hM2⟩ (fun hHeld => ?_)
              refine tkH hHeld 0 (oi := ?_) (v := ?_) ?_ ?_ ?_ ?_ ?_ ?_ ?_ ?_; rotate_left 2; (simp only [gA, gB, gC]; exact rfl); kernel_rfl; kernel_rfl; kernel_rfl; exact fun _ _ _ h => h; rfl; (intro w' hSw; go_simp; with_reducible rfl); simp only [Act.put, pB, pC, pD]
              refine tkH hHeld 1 (oi := ?_) (v := ?_) ?_ ?_ ?_ ?_ ?_ ?_ ?_ ?_; rotate_left 2; (simp only [gA, gB, gC]; exact rfl); kernel_rfl; kernel_rfl; kernel_rfl; exact fun _ _ _ h => h; rfl; (intro w' hSw; go_simp; with_reducible rfl); simp only [Act.put, pB, pC, pD]
              refine tkH hHeld 2 (oi := ?_) (v := ?_) ?_ ?_ ?_ ?_ ?_ ?_ ?_ ?_; rotate_left 2; (simp only [gA, gB, gC]; exact rfl); kernel_rfl; kernel_rfl; kernel_rfl; exact fun _ _ _ h => h; rfl; (intro w' hSw; obtain ⟨s1, s2, s3⟩ := hSw; have k0 := cell_of (i := 0) s1 rfl; have k1 := cell_of (i := 1) s1 rfl; clear s1 s2 s3; go_simp; with_reducible rfl); simp only [Act.put, pB, pC, pD]
              refine tkH hHeld 4 (oi := ?_) (v := ?_) ?_ ?_ ?_ ?_ ?_ ?_ ?_ ?_; rotate_left 2; (simp only [gA, gB, gC]; exact rfl); kernel_rfl; kernel_rfl; kernel_rfl; exact fun _ _ _ h => h; rfl; (intro w' hSw; go_simp; with_reducible rfl); simp only [Act.put, pB, pC, pD]
              refine tkH hHeld 5 (oi := ?_) (v := ?_) ?_ ?_ ?_ ?_ ?_ ?_ ?_ ?_; rotate_left 2; (simp only [gA, gB, gC]; exact rfl); kernel_rfl; kernel_rfl; kernel_rfl; exact fun _ _ _ h => h; rfl; (intro w' hSw; obtain ⟨s1, s2, s3⟩ := hSw; have k0 := cell_of (i := 0) s1 rfl; have k1 := cell_of (i := 1) s1 rfl; clear s1 s2 s3; go_simp; with_reducible rfl); simp only [Act.put, pB, pC, pD]
              refine tkH hHeld 3 (oi := ?_) (v := ?_) ?_ ?_ ?_ ?_ ?_ ?_ ?_ ?_; rotate_left 2; (simp only [gA, gB, gC]; exact rfl); kernel_rfl; kernel_rfl; kernel_rfl; exact fun _ _ _ h => h; rfl; (intro w' hSw; obtain ⟨s1, s2, s3⟩ := hSw; have hk := look_spot s2 HP1.out hpx hpy; clear s1 s2 s3; go_simp; with_reducible rfl); simp only [Act.put, pB, pC, pD]
              refine tkH hHeld 6 (oi := ?_) (v := ?_) ?_ ?_ ?_ ?_ ?_ ?_ ?_ ?_; rotate_left 2; (simp only [gA, gB, gC]; exact rfl); kernel_rfl; kernel_rfl; kernel_rfl; exact fun _ _ _ h => h; rfl; (intro w' hSw; obtain ⟨s1, s2, s3⟩ := hSw; have hk := look_spot s3 HP2.out hpx hpy; clear s1 s2 s3; go_simp; with_reducible rfl); simp only [Act.put, pB, pC, pD]
              refine onH 7 (oi := ?_) (by kernel_rfl) ?_ ?_ (fun K hK => ?_); rotate_left; (simp only [gA, gB, gC]; exact rfl); rfl
              go_wp2_with (fail)
              refine (isMinus_any _ _ _).mono ?_
              rintro e w9 ⟨rfl, rfl⟩
              rw [show (decide ((p.1, p.2) ∈ (setL cx cy R n)) && !decide ((p.1, p.2) ∈ (setL dx dy R' n'))) = true from HZ1.out]
              go_wp2_with (fail)
              refine hK.out _ _ hHeld (fun hH2 => ?_)
              clear hK K hHeld hH2
              try simp only [Act.put, pB, pC, pD]
              refine wpAnyH_done (by kernel_rfl) ?_ _
              
              have hNX := left_hit HL3.out HKK.out HP2.out HPM.out
              have HNX := Lib.hid hNX
              have HRG6 := Lib.hid (ranges_drew HRG5.out)
              have HMU6 := Lib.hid HMU5.out.drew
              have HO6 := Lib.hid HO5.out.drew
              have k0 : e5.drew.cell? ⟨wr.heap.size, 0, none⟩ = some (.int .i64 p.1) := cell_of (w := e5) hKb rfl
              have k1 : e5.drew.cell? ⟨wr.heap.size, 1, none⟩ = some (.int .i64 p.2) := cell_of (w := e5) hKb rfl
              clear hNX HRG5 HMU5 HO5 hKb hM1 hM2
              generalize e5.drew = e6 at *
              go_wp2_with (at_mapUpdate; refine wpList_mapUpdate_own _ rfl _ _ _ 65 rfl 72 4 spotKeyed Tryz.underlying65 _ om mm _ rfl HO6.out (by unfold maxLen; omega) _ _ _ rfl rfl HKY.out _ [] (plainElem_bool Tryz.underlying4 true) ?_; intro w6 hown6 hgrow6)
              have HO7 := Lib.hid hown6
              have HRG7 := Lib.hid (HRG6.out.kept hgrow6 (by simpa using hb2) (by simp; omega))
              have HMU7 := Lib.hid (HMU6.out.grownS hgrow6)
              clear hown6 hgrow6
              go_roundw
              case rel =>
                (repeat apply Exists.intro)
                refine ⟨?_, rfl⟩
                exact ⟨mm + 1, lo ++ [(p.1, p.2)], _, cnt5, by omega, by rw [ds_snoc]; exact HO7.out, HRG7.out, add_all HL1.out ⟨HZP.out, hpx, hpy⟩, fun p' hp' => List.mem_append_left _ (HL2.out p' hp'), HNX.out, HMU7.out⟩
              case measure => (have hq := HRG7.out; rw [hq.left_eq, HRG4.out.left_eq]; exact hmeas)
      · obtain rfl : k = 0 := by omega
        have hA3 := (HMU.out.block w.heap.size (by omega) (by omega)).trans HA1.out
        have a0 : wr.cell? ⟨w.heap.size, 0, none⟩ = some (.int .i64 s) := cell_of hA3 rfl
        have HEQ : Hid ((fun p q => decide ((p, q) ∈ lo0)) = P) := Lib.hid (lo_eq (la := (setL cx cy R n)) (lb := (setL dx dy R' n')) (fun p q h => by have h2 := HPQ.out p q; rw [h] at h2; simp only [covB] at h2; simp at h2; exact .inl h2.1) HLO.out (HLA.out (by omega)) (HLB.out (by omega)))
        have HZ4 := Lib.hid ((HMU.out.block (w.heap.size + 1 + 1) (by omega) (by omega)).trans HZ1'.out)
        have HB4 : Hid (Below w.heap.size w wr) := Lib.hid (HBw1.out.trans (HMU.out.toBelow w.heap.size (by omega) (fun k hk e => by omega)))
        have hom5 := HO.out
        have HOO := Lib.hid (fun p hp => (HLO.out p hp).2)
        clear hA3 ec
        go_wp2_with (fail)
        refine (cellsOf_any om mm0 lo0 s _ HO.out HOO.out HV1.out.s2).mono ?_
        rw [HEQ.out]
        rintro e w9 ⟨ez, ex, ey, ea, en, ec, eR, eE, rfl, hare, hrow, hfr, hn1_, hn2_, hn3_, hb⟩
        have hz := heap_keep hb HZ4.out
        have z0 : w9.cell? ⟨w.heap.size + 1 + 1, 0, none⟩ = some (.int .i64 0) := cell_of hz rfl
        have zf0 : w9.frozen? ⟨w.heap.size + 1 + 1, 0, none⟩ = false := frozen_of hz
        have z1 : w9.cell? ⟨w.heap.size + 1 + 1, 1, none⟩ = some (.int .i64 0) := cell_of hz rfl
        have zf1 : w9.frozen? ⟨w.heap.size + 1 + 1, 1, none⟩ = false := frozen_of hz
        have z2 : w9.cell? ⟨w.heap.size + 1 + 1, 2, none⟩ = some (.int .i64 0) := cell_of hz rfl
        have zf2 : w9.frozen? ⟨w.heap.size + 1 + 1, 2, none⟩ = false := frozen_of hz
        have z3 : w9.cell? ⟨w.heap.size + 1 + 1, 3, none⟩ = some (.slice none 0 0) := cell_of hz rfl
        have zf3 : w9.frozen? ⟨w.heap.size + 1 + 1, 3, none⟩ = false := frozen_of hz
        have HWB := Lib.hid (HB4.out.trans (hb.mono HB4.out.size))
        have hne : ∀ b off, ea = some ⟨b, off, none⟩ → b ≠ w.heap.size + 1 + 1 := fun b off h => by have := hfr b off h; omega
        have HARE := Lib.hid hare
        have HFR := Lib.hid (fun b off h => Nat.le_trans HB4.out.size (hfr b off h))
        have HN3 := Lib.hid hn3_
        have HNE := Lib.hid hne
        have HROW := Lib.hid hrow
        clear hz hne hrow hfr hare hn3_ hb hom5
        go_wp2_with (fail)
        obtain ⟨r0, r1, r2, r3⟩ := set4 (w := w9) (R := w.heap.size + 1 + 1) (x0 := (.int .i64 ez)) (x1 := (.int .i64 ex)) (x2 := (.int .i64 ey)) (x3 := (.slice ea en ec)) (is4 (is_some z0) (is_some z1) (is_some z2) (is_some z3)) rfl
        have HF : Hid (Below w.heap.size w ((((w9.setCell ⟨w.heap.size + 1 + 1, 0, none⟩ (.int .i64 ez)).setCell ⟨w.heap.size + 1 + 1, 1, none⟩ (.int .i64 ex)).setCell ⟨w.heap.size + 1 + 1, 2, none⟩ (.int .i64 ey)).setCell ⟨w.heap.size + 1 + 1, 3, none⟩ (.slice ea en ec))) := Lib.hid ((((HWB.out.setCell (by show _ ≤ w.heap.size + 1 + 1; omega) _).setCell (by show _ ≤ w.heap.size + 1 + 1; omega) _).setCell (by show _ ≤ w.heap.size + 1 + 1; omega) _).setCell (by show _ ≤ w.heap.size + 1 + 1; omega) _)
        have HRW : Hid (RowS ((((w9.setCell ⟨w.heap.size + 1 + 1, 0, none⟩ (.int .i64 ez)).setCell ⟨w.heap.size + 1 + 1, 1, none⟩ (.int .i64 ex)).setCell ⟨w.heap.size + 1 + 1, 2, none⟩ (.int .i64 ey)).setCell ⟨w.heap.size + 1 + 1, 3, none⟩ (.slice ea en ec)) ea en eR) := Lib.hid ((((HROW.out.set _ _ HNE.out).set _ _ HNE.out).set _ _ HNE.out).set _ _ HNE.out)
        generalize ((((w9.setCell ⟨w.heap.size + 1 + 1, 0, none⟩ (.int .i64 ez)).setCell ⟨w.heap.size + 1 + 1, 1, none⟩ (.int .i64 ex)).setCell ⟨w.heap.size + 1 + 1, 2, none⟩ (.int .i64 ey)).setCell ⟨w.heap.size + 1 + 1, 3, none⟩ (.slice ea en ec)) = WW at *
        exact bodyPost_ret (v := .tuple #[.agg #[.int .i64 ez, .int .i64 ex, .int .i64 ey, .slice ea en ec], .int .i64 eE]) (by simp [results, Tryz.results22, go_sem, r0, r1, r2, r3]) rfl ⟨ez, ex, ey, ea, en, ec, eR, eE, rfl, HARE.out, HRW.out, HFR.out, hn1_, hn2_, HN3.out, HF.out⟩
end Go.Proofs.YtllagjncibfcmaaGreatDoor

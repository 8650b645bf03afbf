/- Travel: the reference. -/
import Derived.Test.YtapihgmokgkaaaaYo
set_option linter.unusedSimpArgs false
set_option linter.unusedVariables false
namespace Go.Proofs.Ytapihgmokgkaaaa
open Go.RowKit

def pthOf (P : Nat → Pth) (v : Vis) : Pth := P v.p.toNat
def bX (P : Nat → Pth) (v : Vis) : Int := (pthOf P v).X (enB (pthOf P v) v)
def bY (P : Nat → Pth) (v : Vis) : Int := (pthOf P v).Y (enB (pthOf P v) v)
def eX (P : Nat → Pth) (v : Vis) : Int := (pthOf P v).X (enE (pthOf P v) v)
def eY (P : Nat → Pth) (v : Vis) : Int := (pthOf P v).Y (enE (pthOf P v) v)
/-- Where the head is before a visit. -/
def hdX (sx : Int) (P : Nat → Pth) (V : Nat → Vis) : Nat → Int
  | 0 => sx
  | j + 1 => eX P (V j)
def hdY (sy : Int) (P : Nat → Pth) (V : Nat → Vis) : Nat → Int
  | 0 => sy
  | j + 1 => eY P (V j)
def trv (sx sy : Int) (P : Nat → Pth) (V : Nat → Vis) : Nat → Int
  | 0 => 0
  | j + 1 => trv sx sy P V j + dI (hdX sx P V j) (hdY sy P V j) (bX P (V j)) (bY P (V j))
/-- Visits that fit, and their points within their limits. -/
structure AllFit (m : Nat) (P : Nat → Pth) (l : Nat) (V : Nat → Vis) : Prop where
  q : ∀ j, j < l → ∃ q : Nat, (V j).p = q ∧ q < m ∧ VFit (P q) (V j)
  b : ∀ j, j < l → (cI (bX P (V j)) ∧ cI (bY P (V j))) ∧ (cI (eX P (V j)) ∧ cI (eY P (V j)))
theorem hd_cI {sx sy : Int} {m l : Nat} {P : Nat → Pth} {V : Nat → Vis} (h : AllFit m P l V) (h1 : cI sx) (h2 : cI sy) : ∀ j, j ≤ l → cI (hdX sx P V j) ∧ cI (hdY sy P V j)
  | 0, _ => ⟨h1, h2⟩
  | j + 1, hj => (h.b j (by omega)).2
theorem trv_le {sx sy : Int} {m l : Nat} {P : Nat → Pth} {V : Nat → Vis} (h : AllFit m P l V) (h1 : cI sx) (h2 : cI sy) : ∀ j, j ≤ l → 0 ≤ trv sx sy P V j ∧ trv sx sy P V j ≤ 200000 * j
  | 0, _ => by simp [trv]
  | j + 1, hj => by
    obtain ⟨g1, g2⟩ := hd_cI h h1 h2 j (by omega)
    obtain ⟨⟨g3, g4⟩, _⟩ := h.b j (by omega)
    have := dI_le g1 g2 g3 g4
    have := trv_le h h1 h2 j (by omega)
    simp only [trv]
    omega
theorem allFit_of {m l : Nat} {P : Nat → Pth} {V : Nat → Vis} (h : oF m P l V = 0) : l = m ∧ AllFit m P l V := by
  unfold oF at h
  split at h
  · rename_i h0; exact absurd h h0
  · rename_i h0
    split at h
    · cases h
    · rename_i h1
      have hps : psF m P = 0 := Classical.byContradiction h0
      have hlm : l = m := Classical.byContradiction h1
      have hall := firstE_all h
      have hpg := firstE_all (f := fun i => pF (P i)) hps
      have key : ∀ j, j < l → ∃ q : Nat, (V j).p = q ∧ q < m ∧ VFit (P q) (V j) := fun j hj => by
        obtain ⟨vlo, vhi, vf, vg, vs1, vs2⟩ := vgood (hall j hj)
        obtain ⟨q, hq⟩ := Int.eq_ofNat_of_zero_le vlo
        have hq' : (V j).p.toNat = q := by rw [hq]; rfl
        rw [hq'] at vf vg vs2
        exact ⟨q, hq, by omega, vf, vg, vs1, vs2⟩
      refine ⟨hlm, key, fun j hj => ?_⟩
      obtain ⟨q, hq, hqm, hf⟩ := key j hj
      have hg := pgood (hpg q hqm)
      have hq' : (V j).p.toNat = q := by rw [hq]; rfl
      have e : pthOf P (V j) = P q := by unfold pthOf; rw [hq']
      have hB : enB (P q) (V j) < (P q).n := by
        obtain ⟨h1, h2, h3, h4⟩ := hf
        have := hg.pos
        unfold enB; split
        · omega
        · split <;> omega
      have hE : enE (P q) (V j) < (P q).n := by
        obtain ⟨h1, h2, h3, h4⟩ := hf
        have := hg.pos
        unfold enE; split
        · omega
        · split <;> omega
      unfold bX bY eX eY
      rw [e]
      exact ⟨allB_one hg.r hB, allB_one hg.r hE⟩
theorem heap_put0 {w : World} {b : Nat} {v0 v1 u0 u1 : Value} {t : TypeId} (h : w.heap[b]? = some (.cells #[v0, v1] t (0, 0))) : ((w.setCell ⟨b, 0, none⟩ u0).setCell ⟨b, 1, none⟩ u1).heap[b]? = some (.cells #[u0, u1] t (0, 0)) := by
  have h0 : (w.setCell ⟨b, 0, none⟩ u0).heap[b]? = some (.cells #[u0, v1] t (0, 0)) := by simp [World.setCell, Array.getElem?_modify, h]
  generalize (w.setCell ⟨b, 0, none⟩ u0) = q at *
  simp [World.setCell, Array.getElem?_modify, h0]
set_option maxRecDepth 100000 in
set_option maxHeartbeats 8000000 in
theorem travelOf_any (sx sy : Int) (a : Option Addr) (m c : Nat) (P : Nat → Pth) (ao : Option Addr) (l co : Nat) (V : Nat → Vis) (w : World) (hm : m ≤ 100) (hp : PathsR w a m P) (hn : ∀ i, i < m → (P i).n ≤ 100) (hc : ∀ i, i < m → (P i).n ≤ (P i).c)
    (hl : l ≤ 100) (ho : VisR w ao l V) (hf : AllFit m P l V) (h1 : cI sx) (h2 : cI sy) :
    Calls Try.prog 19 #[.agg #[.int .i64 sx, .int .i64 sy], .slice a m c, .slice ao l co] w fun e w' => e = .returned (.int .i64 (trv sx sy P V l)) ∧ Below w.heap.size w w' := by
  have HP := Lib.hid hp
  have HN := Lib.hid hn
  have HC := Lib.hid hc
  have HO := Lib.hid ho
  have HF := Lib.hid hf
  have H1 := Lib.hid h1
  have H2 := Lib.hid h2
  clear hp hn hc ho hf h1 h2
  go_enter Try.func19, Try.ntmps19
  go_wp2_with (fail)
  go_loopw [7, 14] (fun sv i wr => ∃ k : Nat, k ≤ l ∧ i = .int .i64 k ∧ sv = .int .i64 (trv sx sy P V k) ∧ wr.heap[w.heap.size]? = some (.cells #[.int .i64 (hdX sx P V k), .int .i64 (hdY sy P V k)] 27 (0, 0)) ∧ Below w.heap.size w wr) (fun _ i _ => l - (intOf i).toNat)
  case atStart => exact ⟨0, by omega, rfl, rfl, (by repeat (first | (refine heap_new ?_; first | rfl | (simp; done)) | rw [Below.heap_setCell _ _ _ _ (by simp <;> omega)] | rw [Below.heap_alloc _ _ _ (by simp <;> omega)])), (by repeat (first | exact Below.refl _ _ | assumption | refine Below.drew ?_ | refine bdrewN ?_ _ | refine Below.setCell ?_ (by first | omega | (simp <;> omega)) _ | refine Below.alloc ?_ (by first | omega | (simp <;> omega)) _))⟩
  case round =>
    obtain ⟨k, hk, rfl, rfl, hh, hbel⟩ := hrel
    have hsz := hbel.size
    have HH := Lib.hid hh
    have HB := Lib.hid hbel
    have hlh := lt_of_heap hh
    have c0 := cell_of hh (i := 0) rfl
    have c1 := cell_of hh (i := 1) rfl
    have ff0 := frozen_of hh (i := 0)
    have ff1 := frozen_of hh (i := 1)
    clear hh
    by_cases hlt : k < l
    · rcases HO.out with h0 | ⟨b, off, rfl, hb, hd⟩
      · omega
      obtain ⟨d0, d1, d2⟩ := hd k hlt
      replace d0 := cellk hbel hb d0
      replace d1 := cellk hbel hb d1
      replace d2 := cellk hbel hb d2
      have hbw : b < wr.heap.size := by omega
      obtain ⟨q, hq, hqm, hfit⟩ := HF.out.q k hlt
      have hgb := HF.out.b k hlt
      have hg12 := hd_cI HF.out H1.out H2.out k hk
      have htl := trv_le HF.out H1.out H2.out k hk
      have hstep : trv sx sy P V (k + 1) = trv sx sy P V k + dI (hdX sx P V k) (hdY sy P V k) (bX P (V k)) (bY P (V k)) := rfl
      have hd1' := dI_le hg12.1 hg12.2 hgb.1.1 hgb.1.2
      obtain ⟨D, hD⟩ : ∃ D, dI (hdX sx P V k) (hdY sy P V k) (bX P (V k)) (bY P (V k)) = D := ⟨_, rfl⟩
      have HDD := Lib.hid hD
      rw [hD] at hstep hd1'
      have hwr : IntKind.i64.wrap (trv sx sy P V k + D) = trv sx sy P V k + D := w64 (by omega)
      have HST := Lib.hid hstep
      have hpe : pthOf P (V k) = P q := by unfold pthOf; rw [hq]; rfl
      have ebx : (P q).X (enB (P q) (V k)) = bX P (V k) := by unfold bX; rw [hpe]
      have eby : (P q).Y (enB (P q) (V k)) = bY P (V k) := by unfold bY; rw [hpe]
      have eex : (P q).X (enE (P q) (V k)) = eX P (V k) := by unfold eX; rw [hpe]
      have eey : (P q).Y (enE (P q) (V k)) = eY P (V k) := by unfold eY; rw [hpe]
      have HX1 := Lib.hid (show hdX sx P V (k + 1) = eX P (V k) from rfl)
      have HY1 := Lib.hid (show hdY sy P V (k + 1) = eY P (V k) from rfl)
      have hVk : (⟨(q : Int), (V k).s, (V k).b⟩ : Vis) = V k := by rw [← hq]
      rw [hq] at d0
      have BV : Below w.heap.size w (wr.alloc (.cells #[.int .i64 q, .int .i64 (V k).s, .bool (V k).b] 34)) := HB.out.alloc hsz _
      have hhv := (Below.heap_alloc wr (.cells #[.int .i64 q, .int .i64 (V k).s, .bool (V k).b] 34) _ hlh).trans HH.out
      have hE := endsOf_any a m c P q (V k).s (V k).b (wr.alloc (.cells #[.int .i64 q, .int .i64 (V k).s, .bool (V k).b] 34)) hm (HP.out.kept BV) HN.out HC.out hqm (by rw [hVk]; exact hfit)
      rw [hVk, ebx, eby, eex, eey] at hE
      have HHV := Lib.hid hhv
      have HBV := Lib.hid BV
      have HE := Lib.hid hE
      have HEX := Lib.hid (show eX P (V k) = eX P (V k) from rfl)
      have G12 := Lib.hid hg12
      have GB := Lib.hid hgb
      clear hVk ebx eby eex eey hE BV hhv hbel hd hq hfit hgb hg12 htl hd1' hD hpe hstep c0 c1 ff0 ff1
      go_wp2_with (fail)
      refine HE.out.mono ?_
      rintro e w3 ⟨rfl, hb3⟩
      unfold two
      have B3 := Lib.hid (HBV.out.trans (hb3.mono HBV.out.size))
      have hh3 := heap_keep hb3 HHV.out
      have HH3 := Lib.hid hh3
      have hlh3 := lt_of_heap hh3
      clear hb3 hh3 HHV HBV HE d0 d1 d2
      have e0 := cell_of HH3.out (i := 0) rfl
      have e1 := cell_of HH3.out (i := 1) rfl
      have hz : w.heap.size ≤ w3.heap.size := B3.out.size
      go_wp2_with (fail)
      have B4 : Below w3.heap.size w3 ((w3.alloc (.cells #[.int .i64 (bX P (V k)), .int .i64 (bY P (V k))] 27)).alloc (.cells #[.int .i64 (eX P (V k)), .int .i64 (eY P (V k))] 27)) := (by repeat (first | exact Below.refl _ _ | assumption | refine Below.drew ?_ | refine bdrewN ?_ _ | refine Below.setCell ?_ (by first | omega | (simp <;> omega)) _ | refine Below.alloc ?_ (by first | omega | (simp <;> omega)) _))
      have t0 : ((w3.alloc (.cells #[.int .i64 (bX P (V k)), .int .i64 (bY P (V k))] 27)).alloc (.cells #[.int .i64 (eX P (V k)), .int .i64 (eY P (V k))] 27)).cell? ⟨w3.heap.size + 1, 0, none⟩ = some (.int .i64 (eX P (V k))) := by simp [go_sem]
      have t1 : ((w3.alloc (.cells #[.int .i64 (bX P (V k)), .int .i64 (bY P (V k))] 27)).alloc (.cells #[.int .i64 (eX P (V k)), .int .i64 (eY P (V k))] 27)).cell? ⟨w3.heap.size + 1, 1, none⟩ = some (.int .i64 (eY P (V k))) := by simp [go_sem]
      have hs4 : ((w3.alloc (.cells #[.int .i64 (bX P (V k)), .int .i64 (bY P (V k))] 27)).alloc (.cells #[.int .i64 (eX P (V k)), .int .i64 (eY P (V k))] 27)).heap.size = w3.heap.size + 1 + 1 := by simp
      have hh4 := heap_keep B4 HH3.out
      have HH4 := Lib.hid hh4
      have B4w := Lib.hid (B3.out.trans (B4.mono hz))
      generalize ((w3.alloc (.cells #[.int .i64 (bX P (V k)), .int .i64 (bY P (V k))] 27)).alloc (.cells #[.int .i64 (eX P (V k)), .int .i64 (eY P (V k))] 27)) = w4 at *
      refine (apart_any _ _ _ _ w4 G12.out.1 G12.out.2 GB.out.1.1 GB.out.1.2).mono ?_
      rintro e w5 ⟨rfl, hb5⟩
      rw [HDD.out]
      have B5 := Lib.hid (B4w.out.trans (hb5.mono B4w.out.size))
      have hh5 := heap_keep hb5 HH4.out
      have HH5 := Lib.hid hh5
      replace t0 := cellk hb5 (by show w3.heap.size + 1 < w4.heap.size; omega) t0
      replace t1 := cellk hb5 (by show w3.heap.size + 1 < w4.heap.size; omega) t1
      have f0 := frozen_of hh5 (i := 0)
      have f1 := frozen_of hh5 (i := 1)
      have m0 := cell_of hh5 (i := 0) rfl
      have m1 := cell_of hh5 (i := 1) rfl
      have hne : w3.heap.size + 1 ≠ w.heap.size := by omega
      clear hb5 hh5 HH4 HH3 B4 hh4 hs4 e0 e1
      go_wp2_with (fail)
      go_roundw
      case rel => exact ⟨k + 1, by omega, by go_num, by rw [HST.out], by rw [HX1.out, HY1.out]; exact heap_put0 HH5.out, (B5.out.setCell (Nat.le_refl _) _).setCell (Nat.le_refl _) _⟩
      case measure => simp [intOf]; omega
    · obtain rfl : l = k := by omega
      clear hbel
      go_wp2_with (fail)
      go_ret
      exact ⟨rfl, HB.out⟩
end Go.Proofs.Ytapihgmokgkaaaa

/- Travel: the reference. -/
import Derived.Test.YtcahjkaphpeobaaYo
set_option linter.unusedSimpArgs false
set_option linter.unusedVariables false
namespace Go.Proofs.Ytcahjkaphpeobaa
open Go.RowKit

def pthOf (P : Nat → Pth) (v : Vis) : Pth := P v.p.toNat
def bX (P : Nat → Pth) (v : Vis) : Int := (pthOf P v).X (enB (pthOf P v) v)
def bY (P : Nat → Pth) (v : Vis) : Int := (pthOf P v).Y (enB (pthOf P v) v)
def eX (P : Nat → Pth) (v : Vis) : Int := (pthOf P v).X (enE (pthOf P v) v)
def eY (P : Nat → Pth) (v : Vis) : Int := (pthOf P v).Y (enE (pthOf P v) v)
/-- Where the head is before a visit. -/
def hdX (sx : Int) (P : Nat → Pth) (V : Nat → Vis) : Nat → Int
  | 0 => sx
  | j + 1 => eX P (V j)
def hdY (sy : Int) (P : Nat → Pth) (V : Nat → Vis) : Nat → Int
  | 0 => sy
  | j + 1 => eY P (V j)
def trv (sx sy : Int) (P : Nat → Pth) (V : Nat → Vis) : Nat → Int
  | 0 => 0
  | j + 1 => trv sx sy P V j + dI (hdX sx P V j) (hdY sy P V j) (bX P (V j)) (bY P (V j))
/-- Visits that fit, and their points within their limits. -/
structure AllFit (m : Nat) (P : Nat → Pth) (l : Nat) (V : Nat → Vis) : Prop where
  q : ∀ j, j < l → ∃ q : Nat, (V j).p = q ∧ q < m ∧ VFit (P q) (V j)
  b : ∀ j, j < l → (cI (bX P (V j)) ∧ cI (bY P (V j))) ∧ (cI (eX P (V j)) ∧ cI (eY P (V j)))
theorem hd_cI {sx sy : Int} {m l : Nat} {P : Nat → Pth} {V : Nat → Vis} (h : AllFit m P l V) (h1 : cI sx) (h2 : cI sy) : ∀ j, j ≤ l → cI (hdX sx P V j) ∧ cI (hdY sy P V j)
  | 0, _ => ⟨h1, h2⟩
  | j + 1, hj => (h.b j (by omega)).2
theorem trv_le {sx sy : Int} {m l : Nat} {P : Nat → Pth} {V : Nat → Vis} (h : AllFit m P l V) (h1 : cI sx) (h2 : cI sy) : ∀ j, j ≤ l → 0 ≤ trv sx sy P V j ∧ trv sx sy P V j ≤ 200000 * j
  | 0, _ => by simp [trv]
  | j + 1, hj => by
    obtain ⟨g1, g2⟩ := hd_cI h h1 h2 j (by omega)
    obtain ⟨⟨g3, g4⟩, _⟩ := h.b j (by omega)
    have := dI_le g1 g2 g3 g4
    have := trv_le h h1 h2 j (by omega)
    simp only [trv]
    omega
theorem allFit_of {m l : Nat} {P : Nat → Pth} {V : Nat → Vis} (h : oF m P l V = 0) : l = m ∧ AllFit m P l V := by
  unfold oF at h
  split at h
  · rename_i h0; exact absurd h h0
  · rename_i h0
    split at h
    · cases h
    · rename_i h1
      have hps : psF m P = 0 := Classical.byContradiction h0
      have hlm : l = m := Classical.byContradiction h1
      have hall := firstE_all h
      have hpg := firstE_all (f := fun i => pF (P i)) hps
      have key : ∀ j, j < l → ∃ q : Nat, (V j).p = q ∧ q < m ∧ VFit (P q) (V j) := fun j hj => by
        obtain ⟨vlo, vhi, vf, vg, vs1, vs2⟩ := vgood (hall j hj)
        obtain ⟨q, hq⟩ := Int.eq_ofNat_of_zero_le vlo
        have hq' : (V j).p.toNat = q := by rw [hq]; rfl
        rw [hq'] at vf vg vs2
        exact ⟨q, hq, by omega, vf, vg, vs1, vs2⟩
      refine ⟨hlm, key, fun j hj => ?_⟩
      obtain ⟨q, hq, hqm, hf⟩ := key j hj
      have hg := pgood (hpg q hqm)
      have hq' : (V j).p.toNat = q := by rw [hq]; rfl
      have e : pthOf P (V j) = P q := by unfold pthOf; rw [hq']
      have hB : enB (P q) (V j) < (P q).n := by
        obtain ⟨h1, h2, h3, h4⟩ := hf
        have := hg.pos
        unfold enB; split
        · omega
        · split <;> omega
      have hE : enE (P q) (V j) < (P q).n := by
        obtain ⟨h1, h2, h3, h4⟩ := hf
        have := hg.pos
        unfold enE; split
        · omega
        · split <;> omega
      unfold bX bY eX eY
      rw [e]
      exact ⟨allB_one hg.r hB, allB_one hg.r hE⟩
theorem heap_put0 {w : World} {b : Nat} {v0 v1 u0 u1 : Value} {t : TypeId} (h : w.heap[b]? = some (.cells #[v0, v1] t (0, 0))) : ((w.setCell ⟨b, 0, none⟩ u0).setCell ⟨b, 1, none⟩ u1).heap[b]? = some (.cells #[u0, u1] t (0, 0)) := by
  have h0 : (w.setCell ⟨b, 0, none⟩ u0).heap[b]? = some (.cells #[u0, v1] t (0, 0)) := by simp [World.setCell, Array.getElem?_modify, h]
  generalize (w.setCell ⟨b, 0, none⟩ u0) = q at *
  simp [World.setCell, Array.getElem?_modify, h0]
end Go.Proofs.Ytcahjkaphpeobaa

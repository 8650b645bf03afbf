/- Four stores into one block. -/
import Derived.Test.YtllagjncibfcmaaGreatDoorKv
set_option linter.unusedSimpArgs false
set_option linter.unusedVariables false
namespace Go.Proofs.YtllagjncibfcmaaGreatDoor
open Go.RowKit

theorem RowS.mutB {w w' : World} {B k n : Nat} {a : Option Addr} {R : Nat → List UInt8} (h : RowS w a n R) (hs : Strm w B k) (hm : Mut (· = B) w w') : RowS w' a n R := by
  rcases Nat.eq_zero_or_pos n with h0 | h0
  · exact .inl h0
  rcases h with h | ⟨b, off, rfl, h1, h2⟩
  · exact .inl h
  have hb : b ≠ B := by
    rintro rfl
    obtain ⟨_, a', len, cap, j, zs, _, hz, _⟩ := hs
    have h3 := h2 0 h0
    simp only [World.cell?, hz, Nat.add_zero] at h3
    match off, h3 with
    | 0, h3 => simp at h3
    | 1, h3 => simp at h3
    | k + 2, h3 => simp at h3
  exact .inr ⟨b, off, rfl, Nat.lt_of_lt_of_le h1 hm.size, fun i hi => (hm.cell (p := ⟨b, off + i, none⟩) h1 hb).trans (h2 i hi)⟩
theorem cellsSet4 {w W4 : World} {p n n1 c1 : Nat} {z1 x1 y1 : Int} {a a1 : Option Addr} {v0 v1 v2 v3 : Value} {R : Nat → List UInt8} (hz : w.heap[p]? = some (.cells #[.int .i64 z1, .int .i64 x1, .int .i64 y1, .slice a1 n1 c1] 28 (0, 0))) (hr : RowS w a n R)
    (hW : ((((w.setCell ⟨p, 0, none⟩ v0).setCell ⟨p, 1, none⟩ v1).setCell ⟨p, 2, none⟩ v2).setCell ⟨p, 3, none⟩ v3) = W4) : RowS W4 a n R ∧ W4.heap[p]? = some (.cells #[v0, v1, v2, v3] 28 (0, 0)) ∧ Mut (· = p) w W4 := by
  have M4 : Mut (· = p) w W4 := by
    rw [← hW]
    exact Mut.setCell (p := ⟨p, 3, none⟩) (Mut.setCell (p := ⟨p, 2, none⟩) (Mut.setCell (p := ⟨p, 1, none⟩) (Mut.setCell (p := ⟨p, 0, none⟩) (Mut.refl (· = p) w) (fun _ => rfl) _) (fun _ => rfl) _) (fun _ => rfl) _) (fun _ => rfl) _
  have h0 : (w.setCell ⟨p, 0, none⟩ v0).heap[p]? = some (.cells #[v0, .int .i64 x1, .int .i64 y1, .slice a1 n1 c1] 28 (0, 0)) := by simp [World.setCell, Array.getElem?_modify, hz]
  have h1 : ((w.setCell ⟨p, 0, none⟩ v0).setCell ⟨p, 1, none⟩ v1).heap[p]? = some (.cells #[v0, v1, .int .i64 y1, .slice a1 n1 c1] 28 (0, 0)) := by
    generalize (w.setCell ⟨p, 0, none⟩ v0) = q at *
    simp [World.setCell, Array.getElem?_modify, h0]
  have h2 : (((w.setCell ⟨p, 0, none⟩ v0).setCell ⟨p, 1, none⟩ v1).setCell ⟨p, 2, none⟩ v2).heap[p]? = some (.cells #[v0, v1, v2, .slice a1 n1 c1] 28 (0, 0)) := by
    generalize ((w.setCell ⟨p, 0, none⟩ v0).setCell ⟨p, 1, none⟩ v1) = q at *
    simp [World.setCell, Array.getElem?_modify, h1]
  have h3 : W4.heap[p]? = some (.cells #[v0, v1, v2, v3] 28 (0, 0)) := by
    rw [← hW]
    generalize (((w.setCell ⟨p, 0, none⟩ v0).setCell ⟨p, 1, none⟩ v1).setCell ⟨p, 2, none⟩ v2) = q at *
    simp [World.setCell, Array.getElem?_modify, h2]
  clear h0 h1 h2
  refine ⟨?_, h3, M4⟩
  rcases Nat.eq_zero_or_pos n with h0 | h0
  · exact .inl h0
  rcases hr with h | ⟨b, off, rfl, h1, h2⟩
  · exact .inl h
  have hb : b ≠ p := by
    rintro rfl
    have h3 := h2 0 h0
    simp only [World.cell?, hz, Nat.add_zero] at h3
    match off, h3 with
    | 0, h3 => simp at h3
    | 1, h3 => simp at h3
    | 2, h3 => simp at h3
    | 3, h3 => simp at h3
    | k + 4, h3 => simp at h3
  exact .inr ⟨b, off, rfl, Nat.lt_of_lt_of_le h1 M4.size, fun i hi => (M4.cell (p := ⟨b, off + i, none⟩) h1 hb).trans (h2 i hi)⟩
end Go.Proofs.YtllagjncibfcmaaGreatDoor

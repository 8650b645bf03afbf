/- Drawn cells. -/
import Derived.Test.YtllagjncibfcmaaGreatDoorKt
set_option linter.unusedSimpArgs false
set_option linter.unusedVariables false
namespace Go.Proofs.YtllagjncibfcmaaGreatDoor
open Go.RowKit

def StrE (P : List UInt8 → Prop) (e : Ending) : Prop := ∃ T : List UInt8, e = .returned (.string ⟨T.toArray⟩) ∧ P T
set_option maxHeartbeats 1000000 in
theorem some_any (B k b len cap : Nat) (P : List UInt8 → Prop) (w : World) (hs : Strm w B k) (hk : k + 1 ≤ 1000000) (h3 : 1 ≤ len) (h4 : len ≤ 1000000) (hb : b ≠ B) (hbs : b < w.heap.size)
    (hc : ∀ i, i < len → ∃ T : List UInt8, w.cell? ⟨b, i, none⟩ = some (.string ⟨T.toArray⟩) ∧ P T) :
    Calls Tryz.prog 16 #[.pointer (some ⟨B, 0, none⟩), .slice (some ⟨b, 0, none⟩) len cap] w (StrmPost w B k 1 (StrE P)) := by
  go_enter Tryz.func16, Tryz.ntmps16
  have HC := Lib.hid hc
  clear hc
  go_wp2_with (go_at_call 17; refine (next_any B k _ w hs hk (by omega) (by omega)).mono ?_; rintro e w' ⟨⟨r, rfl, h5, h6⟩, hst, hmt⟩; obtain ⟨i, rfl⟩ := Int.eq_ofNat_of_zero_le h5; obtain ⟨z, hz, hp⟩ := HC.out i (by omega); have hz2 := (hmt.cell (p := ⟨b, i, none⟩) hbs hb).trans hz; have HZ := Lib.hid hz; clear hz; have HP := Lib.hid hp; clear hp)
  go_ret
  exact ⟨⟨_, rfl, HP.out⟩, hst, hmt⟩
theorem strs_lit (w : World) (l : List (List UInt8)) (T : TypeId) (P : List UInt8 → Prop) (hP : ∀ z ∈ l, P z) :
    ∀ i, i < l.length → ∃ z : List UInt8, (w.alloc (.cells (l.map fun z : List UInt8 => Value.string ⟨z.toArray⟩).toArray T)).cell? ⟨w.heap.size, i, none⟩ = some (.string ⟨z.toArray⟩) ∧ P z := by
  intro i hi
  refine ⟨l[i], ?_, hP _ (List.getElem_mem hi)⟩
  rw [World.cell?_alloc_at] <;> simp [hi]
theorem some_new (B k : Nat) (l : List (List UInt8)) (n : Nat) (P : List UInt8 → Prop) (w : World) (hs : Strm w B k) (hk : k + 1 ≤ 1000000) (hn : l.length = n) (h3 : 1 ≤ n) (h4 : n ≤ 1000000) (hP : ∀ z ∈ l, P z) :
    Calls Tryz.prog 16 #[.pointer (some ⟨B, 0, none⟩), .slice (some ⟨w.heap.size, 0, none⟩) n n] (w.alloc (.cells (l.map fun z : List UInt8 => Value.string ⟨z.toArray⟩).toArray 9)) (StrmPost w B k 1 (StrE P)) := by
  have hlt := hs.lt
  refine (some_any B k w.heap.size n n P _ (hs.alloc _) hk h3 h4 (by omega) (by simp) (by have := strs_lit w l 9 P hP; rwa [hn] at this)).mono ?_
  rintro e w' ⟨h1, h2, h3⟩
  exact ⟨h1, h2, ((Mut.refl _ _).alloc _).trans (h3.mono fun _ _ h => h)⟩
end Go.Proofs.YtllagjncibfcmaaGreatDoor

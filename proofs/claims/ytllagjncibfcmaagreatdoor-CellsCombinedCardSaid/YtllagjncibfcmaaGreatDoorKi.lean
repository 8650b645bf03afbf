/- Boxes of two cells. -/
import Derived.Test.YtllagjncibfcmaaGreatDoorKg
set_option linter.unusedSimpArgs false
set_option linter.unusedVariables false
namespace Go.Proofs.YtllagjncibfcmaaGreatDoor
open Go.RowKit

/-- The box around two. -/
structure JoinI (l lo r h l' lo' r' h' L B Rt H : Int) : Prop where
  both : l < r → l' < r' → L = min l l' ∧ B = min lo lo' ∧ Rt = max r r' ∧ H = max h h'
  left : l < r → ¬ l' < r' → L = l ∧ B = lo ∧ Rt = r ∧ H = h
  right : ¬ l < r → L = l' ∧ B = lo' ∧ Rt = r' ∧ H = h'
def JoinE (l lo r h l' lo' r' h' : Int) (w : World) (e : Ending) (w' : World) : Prop :=
  ∃ L B Rt H, e = .returned (.agg #[.int .i64 L, .int .i64 B, .int .i64 Rt, .int .i64 H]) ∧ JoinI l lo r h l' lo' r' h' L B Rt H ∧ Below w.heap.size w w'
theorem joined_all (l lo r h l' lo' r' h' : Int) (w : World) (h1 : l < r ∨ (l = 0 ∧ lo = 0 ∧ r = 0 ∧ h = 0)) (h2 : l' < r' ∨ (l' = 0 ∧ lo' = 0 ∧ r' = 0 ∧ h' = 0)) : Calls Tryz.prog 28 #[.agg #[.int .i64 l, .int .i64 lo, .int .i64 r, .int .i64 h], .agg #[.int .i64 l', .int .i64 lo', .int .i64 r', .int .i64 h']] w (JoinE l lo r h l' lo' r' h' w) := by
  rcases h1 with h1 | ⟨rfl, rfl, rfl, rfl⟩
  · rcases h2 with h2 | ⟨rfl, rfl, rfl, rfl⟩
    · refine (joined_any l lo r h l' lo' r' h' w h1 h2).mono ?_
      rintro e w' ⟨rfl, hb⟩
      exact ⟨_, _, _, _, rfl, ⟨fun _ _ => ⟨rfl, rfl, rfl, rfl⟩, fun _ h => absurd h2 h, fun h => absurd h1 h⟩, hb⟩
    · refine (joined_l l lo r h w h1).mono ?_
      rintro e w' ⟨rfl, hb⟩
      exact ⟨_, _, _, _, rfl, ⟨fun _ h => by omega, fun _ _ => ⟨rfl, rfl, rfl, rfl⟩, fun h => absurd h1 h⟩, hb⟩
  · refine (joined_z l' lo' r' h' w).mono ?_
    rintro e w' ⟨rfl, hb⟩
    exact ⟨_, _, _, _, rfl, ⟨fun h => by omega, fun h => by omega, fun _ => ⟨rfl, rfl, rfl, rfl⟩⟩, hb⟩
theorem VC.box {s x y : Int} {n : Nat} {R : Nat → List UInt8} {cx cy : Int} {m : Nat} (h : VC s x y n R cx cy m) : cx < cx + m ∨ (cx = 0 ∧ cy = 0 ∧ cx + m = 0 ∧ cy + n = 0) := by
  by_cases e : n = 0
  · have := h.n0 e; right; omega
  · have := h.size (by omega); left; omega
theorem VC.cov {s x y : Int} {n : Nat} {R : Nat → List UInt8} {cx cy : Int} {m : Nat} (h : VC s x y n R cx cy m) {p q : Int} (hp : covB cx cy n R p q = true) : cx ≤ p ∧ p < cx + m ∧ cy ≤ q ∧ q < cy + n := cov_box (fun i hi => (h.row i hi).1) hp
/-- The box of what is in one or the other. -/
theorem join_box {s x y : Int} {n : Nat} {R : Nat → List UInt8} {cx cy : Int} {m : Nat} (v : VC s x y n R cx cy m) {s' x' y' : Int} {n' : Nat} {R' : Nat → List UInt8} {dx dy : Int} {m' : Nat} (v' : VC s' x' y' n' R' dx dy m') {L B Rt H : Int} (j : JoinI cx cy (cx + m) (cy + n) dx dy (dx + m') (dy + n') L B Rt H)
    {P : Int → Int → Bool} (hP : ∀ p q, P p q = true ↔ covB cx cy n R p q = true ∨ covB dx dy n' R' p q = true) :
    L ≤ Rt ∧ B ≤ H ∧ (-3000000 ≤ L ∧ Rt ≤ 3000000) ∧ (-3000000 ≤ B ∧ H ≤ 3000000) ∧ (∀ p q, P p q = true → L ≤ p ∧ p < Rt ∧ B ≤ q ∧ q < H) ∧ (200 < Rt - L ∨ 200 < H - B → Tight P L B (Rt - 1) (H - 1)) := by
  have b1 := v.bx
  have b2 := v.by_
  have b3 := v'.bx
  have b4 := v'.by_
  have b5 := v.n2
  have b6 := v.m2
  have b7 := v'.n2
  have b8 := v'.m2
  by_cases e : n = 0
  · obtain ⟨h1, h2, h3, _⟩ := v.n0 e
    obtain ⟨rfl, rfl, rfl, rfl⟩ := j.right (by omega)
    refine ⟨by omega, by omega, by omega, by omega, fun p q hp => ?_, fun h => by omega⟩
    rcases (hP p q).1 hp with hp | hp
    · have := v.cov hp; omega
    · exact v'.cov hp
  · have hm := v.size (by omega)
    by_cases e' : n' = 0
    · obtain ⟨h1, h2, h3, _⟩ := v'.n0 e'
      obtain ⟨rfl, rfl, rfl, rfl⟩ := j.left (by omega) (by omega)
      refine ⟨by omega, by omega, by omega, by omega, fun p q hp => ?_, fun h => by omega⟩
      rcases (hP p q).1 hp with hp | hp
      · exact v.cov hp
      · have := v'.cov hp; omega
    · have hm' := v'.size (by omega)
      obtain ⟨rfl, rfl, rfl, rfl⟩ := j.both (by omega) (by omega)
      have t := v.tight (by omega)
      have t' := v'.tight (by omega)
      have hbox : ∀ p q, P p q = true → min cx dx ≤ p ∧ p < max (cx + m) (dx + m') ∧ min cy dy ≤ q ∧ q < max (cy + n) (dy + n') := fun p q hp => by
        rcases (hP p q).1 hp with hp | hp
        · have := v.cov hp; omega
        · have := v'.cov hp; omega
      refine ⟨by omega, by omega, by omega, by omega, hbox, fun _ => ⟨fun p q hp => by have := hbox p q hp; omega, ?_, ?_, ?_, ?_⟩⟩
      · by_cases q : cx ≤ dx
        · obtain ⟨r, hr⟩ := t.l
          exact ⟨r, (hP _ _).2 (.inl (by rw [Int.min_eq_left q]; exact hr))⟩
        · obtain ⟨r, hr⟩ := t'.l
          exact ⟨r, (hP _ _).2 (.inr (by rw [Int.min_eq_right (by omega)]; exact hr))⟩
      · by_cases q : cy ≤ dy
        · obtain ⟨r, hr⟩ := t.b
          exact ⟨r, (hP _ _).2 (.inl (by rw [Int.min_eq_left q]; exact hr))⟩
        · obtain ⟨r, hr⟩ := t'.b
          exact ⟨r, (hP _ _).2 (.inr (by rw [Int.min_eq_right (by omega)]; exact hr))⟩
      · by_cases q : dx + m' ≤ cx + m
        · obtain ⟨r, hr⟩ := t.h
          exact ⟨r, (hP _ _).2 (.inl (by rw [Int.max_eq_left q]; exact hr))⟩
        · obtain ⟨r, hr⟩ := t'.h
          exact ⟨r, (hP _ _).2 (.inr (by rw [Int.max_eq_right (by omega)]; exact hr))⟩
      · by_cases q : dy + n' ≤ cy + n
        · obtain ⟨r, hr⟩ := t.t
          exact ⟨r, (hP _ _).2 (.inl (by rw [Int.max_eq_left q]; exact hr))⟩
        · obtain ⟨r, hr⟩ := t'.t
          exact ⟨r, (hP _ _).2 (.inr (by rw [Int.max_eq_right (by omega)]; exact hr))⟩
/-- The box of what is in the first. -/
theorem own_box {s x y : Int} {n : Nat} {R : Nat → List UInt8} {cx cy : Int} {m : Nat} (v : VC s x y n R cx cy m) {P : Int → Int → Bool} (hP : ∀ p q, P p q = true → covB cx cy n R p q = true) :
    cx ≤ cx + m ∧ cy ≤ cy + n ∧ (-3000000 ≤ cx ∧ cx + m ≤ 3000000) ∧ (-3000000 ≤ cy ∧ cy + n ≤ 3000000) ∧ (∀ p q, P p q = true → cx ≤ p ∧ p < cx + m ∧ cy ≤ q ∧ q < cy + n) ∧ (200 < cx + m - cx ∨ 200 < cy + n - cy → Tight P cx cy (cx + m - 1) (cy + n - 1)) := by
  have b1 := v.bx
  have b2 := v.by_
  have b5 := v.n2
  have b6 := v.m2
  exact ⟨by omega, by omega, by omega, by omega, fun p q hp => v.cov (hP p q hp), fun h => by omega⟩
theorem keep4 {w : World} {R X : Nat} {x0 x1 x2 x3 : Value} (h : X ≠ R) : ((((w.setCell ⟨R, 0, none⟩ x0).setCell ⟨R, 1, none⟩ x1).setCell ⟨R, 2, none⟩ x2).setCell ⟨R, 3, none⟩ x3).heap[X]? = w.heap[X]? := by
  rw [Below.heap_setCell _ _ _ _ h, Below.heap_setCell _ _ _ _ h, Below.heap_setCell _ _ _ _ h, Below.heap_setCell _ _ _ _ h]
end Go.Proofs.YtllagjncibfcmaaGreatDoor

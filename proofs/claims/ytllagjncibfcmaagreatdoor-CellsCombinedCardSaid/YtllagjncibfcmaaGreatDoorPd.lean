/- The pictures of cells; what cells a picture gives. -/
import Derived.Test.YtllagjncibfcmaaGreatDoorCh
import Derived.Test.YtllagjncibfcmaaGreatDoorPc
set_option linter.unusedSimpArgs false
set_option linter.unusedVariables false
namespace Go.Proofs.YtllagjncibfcmaaGreatDoor
open Go.RowKit

theorem pre_hit (l : List UInt8) : hpB l = true ↔ l[0]? = some 35 := by
  unfold hpB Lib.hasPrefix
  cases l with
  | nil => simp [List.isPrefixOf]
  | cons a l => simp [List.isPrefixOf]; exact ⟨fun h => h.symm, fun h => h.symm⟩
theorem suf_hit (l : List UInt8) : hsB l = true ↔ 0 < l.length ∧ l[l.length - 1]? = some 35 := by
  unfold hsB Lib.hasSuffix
  rw [List.isSuffixOf_iff_suffix]
  constructor
  · rintro ⟨t, rfl⟩
    simp
  · rintro ⟨h, h2⟩
    refine ⟨l.take (l.length - 1), ?_⟩
    have := List.take_append_drop (l.length - 1) l
    have h3 : l.drop (l.length - 1) = [35] := by
      apply List.ext_getElem?
      intro j
      rw [List.getElem?_drop]
      cases j with
      | zero => simpa using h2
      | succ j => rw [List.getElem?_eq_none (by omega)]; simp
    rw [h3] at this
    exact this
theorem con_hit (l : List UInt8) : ctB l = true ↔ ∃ j : Nat, l[j]? = some 35 := by
  unfold ctB
  rw [decide_eq_true_eq]
  constructor
  · intro h
    obtain ⟨o, ho⟩ : ∃ o : Nat, Lib.indexByte l 35 = o := ⟨(Lib.indexByte l 35).toNat, by omega⟩
    exact ⟨o, (Lib.indexByte_some ho).1⟩
  · rintro ⟨j, hj⟩
    have := Lib.indexByte_ge l 35
    by_cases e : Lib.indexByte l 35 = -1
    · exact absurd hj (Lib.indexByte_none e j)
    · omega
theorem any_hit {p : List UInt8 → Bool} {R : Nat → List UInt8} {n : Nat} : anyR p R n = true ↔ ∃ i, i < n ∧ p (R i) = true := by
  simp [anyR, List.any_eq_true]
/-- The picture of cells. -/
def covB (cx cy : Int) (n : Nat) (R : Nat → List UInt8) (c r : Int) : Bool := decide ((c, r) ∈ setL cx cy R n)
theorem cov_iff {cx cy : Int} {n : Nat} {R : Nat → List UInt8} {c r : Int} : covB cx cy n R c r = true ↔ ∃ i : Nat, i < n ∧ r = cy + i ∧ ∃ j : Nat, (R i)[j]? = some 35 ∧ c = cx + j := by
  unfold covB; rw [decide_eq_true_eq, setL_mem]
theorem cov_at {cx cy : Int} {n : Nat} {R : Nat → List UInt8} {i j : Nat} (hi : i < n) : covB cx cy n R (cx + j) (cy + i) = true ↔ (R i)[j]? = some 35 := by
  rw [cov_iff]
  constructor
  · rintro ⟨i', h1, h2, j', h3, h4⟩
    obtain rfl : i' = i := by omega
    obtain rfl : j' = j := by omega
    exact h3
  · intro h; exact ⟨i, hi, rfl, j, h, rfl⟩
theorem cov_box {cx cy : Int} {n m : Nat} {R : Nat → List UInt8} (hm : ∀ i, i < n → (R i).length = m) {c r : Int} (h : covB cx cy n R c r = true) : cx ≤ c ∧ c < cx + m ∧ cy ≤ r ∧ r < cy + n := by
  obtain ⟨i, h1, h2, j, h3, h4⟩ := cov_iff.1 h
  have := (List.getElem?_eq_some_iff.1 h3).1
  have := hm i h1
  omega
theorem edge_tight {cx cy : Int} {n m : Nat} {R : Nat → List UInt8} (hn : 0 < n) (hm : ∀ i, i < n → (R i).length = m) : edgeB n R = true ↔ Tight (covB cx cy n R) cx cy (cx + m - 1) (cy + n - 1) := by
  have h0 : decide (n = 0) = false := by simp; omega
  unfold edgeB
  rw [h0, Bool.false_or, Bool.and_eq_true, Bool.and_eq_true, Bool.and_eq_true, con_hit, con_hit, any_hit, any_hit]
  simp only [pre_hit, suf_hit]
  constructor
  · rintro ⟨⟨j1, h1⟩, ⟨j2, h2⟩, ⟨i3, h3, h3'⟩, ⟨i4, h4, h4', h4''⟩⟩
    refine ⟨fun c r hc => by have := cov_box hm hc; omega, ⟨cy + i3, ?_⟩, ⟨cx + j1, ?_⟩, ⟨cy + i4, ?_⟩, ⟨cx + j2, ?_⟩⟩
    · have := (cov_at (cx := cx) (cy := cy) (j := 0) h3).2 h3'; simpa using this
    · have := (cov_at (cx := cx) (cy := cy) (i := 0) (j := j1) hn).2 h1; simpa using this
    · have := (cov_at (cx := cx) (cy := cy) h4).2 h4''
      rw [hm i4 h4] at this
      rw [hm i4 h4] at h4'
      rwa [show cx + ((m - 1 : Nat) : Int) = cx + m - 1 by omega] at this
    · have := (cov_at (cx := cx) (cy := cy) (n := n) (R := R) (i := n - 1) (j := j2) (by omega)).2 h2
      rwa [show cy + ((n - 1 : Nat) : Int) = cy + n - 1 by omega] at this
  · intro h
    obtain ⟨r1, h1⟩ := h.b
    obtain ⟨r2, h2⟩ := h.t
    obtain ⟨r3, h3⟩ := h.l
    obtain ⟨r4, h4⟩ := h.h
    obtain ⟨i1, a1, b1, j1, c1, d1⟩ := cov_iff.1 h1
    obtain ⟨i2, a2, b2, j2, c2, d2⟩ := cov_iff.1 h2
    obtain ⟨i3, a3, b3, j3, c3, d3⟩ := cov_iff.1 h3
    obtain ⟨i4, a4, b4, j4, c4, d4⟩ := cov_iff.1 h4
    obtain rfl : i1 = 0 := by omega
    obtain rfl : i2 = n - 1 := by omega
    obtain rfl : j3 = 0 := by omega
    have l4 := hm i4 a4
    obtain rfl : j4 = (R i4).length - 1 := by omega
    have := (List.getElem?_eq_some_iff.1 c4).1
    exact ⟨⟨j1, c1⟩, ⟨j2, c2⟩, ⟨i3, a3, c3⟩, ⟨i4, a4, by omega, c4⟩⟩
theorem rowsE_ok {n : Nat} {R : Nat → List UInt8} (h : rowsE n R = 0) : n ≤ 200 ∧ (∀ i, i < n → (R i).length = (R 0).length ∧ okR (R i) = true) ∧ (0 < n → (R 0).length ≤ 200) := by
  unfold rowsE at h
  by_cases h1 : 200 < n
  · rw [if_pos h1] at h; cases h
  rw [if_neg h1] at h
  by_cases h2 : firstR (rowE R) n ≠ 0
  · rw [if_pos h2] at h; exact absurd h h2
  rw [if_neg h2] at h
  have h3 : ∀ m, firstR (rowE R) m = 0 → ∀ i, i < m → rowE R i = 0 := by
    intro m
    induction m with
    | zero => intro _ i hi; omega
    | succ m ih =>
      intro hm i hi
      simp only [firstR] at hm
      by_cases q : firstR (rowE R) m = 0
      · simp [q] at hm
        by_cases e : i = m
        · subst e; exact hm
        · exact ih q i (by omega)
      · simp [q] at hm
  refine ⟨by omega, fun i hi => ?_, fun hn => ?_⟩
  · have := h3 n (by simpa using h2) i hi
    unfold rowE at this
    by_cases e : (R i).length = (R 0).length
    · refine ⟨e, ?_⟩
      by_cases o : okR (R i) = true
      · exact o
      · simp [e, o] at this
    · simp [e] at this
  · by_cases q : 0 < n ∧ 200 < (R 0).length
    · rw [if_pos q] at h; cases h
    · omega
/-- What is so of valid cells. -/
theorem cellsE_ok {s x y : Int} {n : Nat} {R : Nat → List UInt8} (h : cellsE s x y n R = 0) : stB s = true ∧ (n = 0 → x = 0 ∧ y = 0) ∧ rowsE n R = 0 ∧ -2000000 ≤ x ∧ x ≤ 2000000 ∧ -2000000 ≤ y ∧ y ≤ 2000000 ∧ x.tmod s = 0 ∧ y.tmod s = 0 ∧ edgeB n R = true := by
  unfold cellsE at h
  by_cases h1 : stB s = false
  · rw [if_pos h1] at h; cases h
  rw [if_neg h1] at h
  by_cases h2 : n = 0 ∧ (x ≠ 0 ∨ y ≠ 0)
  · rw [if_pos h2] at h; cases h
  rw [if_neg h2] at h
  by_cases h3 : rowsE n R ≠ 0
  · rw [if_pos h3] at h; exact absurd h h3
  rw [if_neg h3] at h
  by_cases h4 : 2000000 < max x y ∨ min x y < -2000000
  · rw [if_pos h4] at h; cases h
  rw [if_neg h4] at h
  by_cases h5 : x.tmod s ≠ 0 ∨ y.tmod s ≠ 0 ∨ edgeB n R = false
  · rw [if_pos h5] at h; cases h
  have h6 : ¬ x.tmod s ≠ 0 := fun q => h5 (.inl q)
  have h7 : ¬ y.tmod s ≠ 0 := fun q => h5 (.inr (.inl q))
  have h8 : ¬ edgeB n R = false := fun q => h5 (.inr (.inr q))
  refine ⟨by simpa using h1, fun hn => ?_, by omega, by omega, by omega, by omega, by omega, by omega, by omega, by simpa using h8⟩
  refine ⟨?_, ?_⟩
  · by_cases q : x = 0
    · exact q
    · exact absurd ⟨hn, .inl q⟩ h2
  · by_cases q : y = 0
    · exact q
    · exact absurd ⟨hn, .inr q⟩ h2
/-- The error of the cells of a picture within bounds. -/
def picE (P : Int → Int → Bool) (s lc lr hc hr : Int) : Int :=
  if 199 < hc - lc ∨ 199 < hr - lr then 12 else cellsE s (lc * s) (lr * s) (hr - lr + 1).toNat (fun i => rowP P lc (hc - lc + 1).toNat (lr + i))
/-- What cells a picture gives: the error, and the value. -/
def CellsAre (P : Int → Int → Bool) (s E z x y : Int) (n : Nat) (R : Nat → List UInt8) : Prop :=
  ((∀ c r, P c r = false) ∧ E = 0 ∧ z = s ∧ x = 0 ∧ y = 0 ∧ n = 0) ∨
  ∃ lc lr hc hr, Tight P lc lr hc hr ∧ E = picE P s lc lr hc hr ∧ (E ≠ 0 → z = 0 ∧ x = 0 ∧ y = 0 ∧ n = 0) ∧
    (E = 0 → z = s ∧ x = lc * s ∧ y = lr * s ∧ n = (hr - lr + 1).toNat ∧ ∀ i, i < n → R i = rowP P lc (hc - lc + 1).toNat (lr + i))
theorem CellsAre.same {P : Int → Int → Bool} {s E z x y E' z' x' y' : Int} {n n' : Nat} {R R' : Nat → List UInt8} (h : CellsAre P s E z x y n R) (k : CellsAre P s E' z' x' y' n' R') : E = E' ∧ z = z' ∧ x = x' ∧ y = y' ∧ n = n' ∧ ∀ i, i < n → R i = R' i := by
  rcases h with ⟨h0, rfl, rfl, rfl, rfl, rfl⟩ | ⟨a, b, c, d, ht, h1, h2, h3⟩
  · rcases k with ⟨_, rfl, rfl, rfl, rfl, rfl⟩ | ⟨a, b, c, d, kt, _⟩
    · exact ⟨rfl, rfl, rfl, rfl, rfl, fun i hi => absurd hi (by omega)⟩
    · obtain ⟨r, hr⟩ := kt.l
      rw [h0] at hr; cases hr
  · rcases k with ⟨h0, _⟩ | ⟨a', b', c', d', kt, k1, k2, k3⟩
    · obtain ⟨r, hr⟩ := ht.l
      rw [h0] at hr; cases hr
    · obtain ⟨rfl, rfl, rfl, rfl⟩ := ht.uniq kt
      have e : E = E' := h1.trans k1.symm
      subst e
      by_cases q : E = 0
      · obtain ⟨e1, e2, e3, e4, e5⟩ := h3 q
        obtain ⟨f1, f2, f3, f4, f5⟩ := k3 q
        exact ⟨rfl, e1.trans f1.symm, e2.trans f2.symm, e3.trans f3.symm, e4.trans f4.symm, fun i hi => (e5 i hi).trans (f5 i (by omega)).symm⟩
      · obtain ⟨e1, e2, e3, e4⟩ := h2 q
        obtain ⟨f1, f2, f3, f4⟩ := k2 q
        exact ⟨rfl, e1.trans f1.symm, e2.trans f2.symm, e3.trans f3.symm, e4.trans f4.symm, fun i hi => absurd hi (by omega)⟩
/-- What a call returns that makes cells of a picture. -/
def CellsRes (P : Int → Int → Bool) (s : Int) (w : World) (e : Ending) (w' : World) : Prop :=
  ∃ z x y a n c R E, e = .returned (.tuple #[.agg #[.int .i64 z, .int .i64 x, .int .i64 y, .slice a n c], .int .i64 E]) ∧ CellsAre P s E z x y n R ∧ RowS w' a n R ∧ (∀ b off, a = some ⟨b, off, none⟩ → w.heap.size ≤ b) ∧ n ≤ c ∧ c ≤ maxLen ∧ (∀ i, i < n → (R i).length ≤ 200) ∧ Below w.heap.size w w'
end Go.Proofs.YtllagjncibfcmaaGreatDoor

/- Pictures: which places are covered, and what is left when they are trimmed. -/
import Derived.Test.YtllagjncibfcmaaGreatDoorRows
import Derived.Lib.IndexLaws
import Derived.Lib.LastIndexByte
set_option linter.unusedSimpArgs false
set_option linter.unusedVariables false
namespace Go.Proofs.YtllagjncibfcmaaGreatDoor
/-- The bounds of a picture. -/
structure Tight (P : Int → Int → Bool) (lc lr hc hr : Int) : Prop where
  all : ∀ c r, P c r = true → lc ≤ c ∧ c ≤ hc ∧ lr ≤ r ∧ r ≤ hr
  l : ∃ r, P lc r = true
  b : ∃ c, P c lr = true
  h : ∃ r, P hc r = true
  t : ∃ c, P c hr = true
theorem Tight.uniq {P : Int → Int → Bool} {a b c d a' b' c' d' : Int} (h : Tight P a b c d) (k : Tight P a' b' c' d') : a = a' ∧ b = b' ∧ c = c' ∧ d = d' := by
  obtain ⟨r1, e1⟩ := h.l; obtain ⟨r2, e2⟩ := k.l
  obtain ⟨r3, e3⟩ := h.b; obtain ⟨r4, e4⟩ := k.b
  obtain ⟨r5, e5⟩ := h.h; obtain ⟨r6, e6⟩ := k.h
  obtain ⟨r7, e7⟩ := h.t; obtain ⟨r8, e8⟩ := k.t
  have := h.all _ _ e2; have := k.all _ _ e1
  have := h.all _ _ e4; have := k.all _ _ e3
  have := h.all _ _ e6; have := k.all _ _ e5
  have := h.all _ _ e8; have := k.all _ _ e7
  omega
theorem Tight.le {P : Int → Int → Bool} {a b c d : Int} (h : Tight P a b c d) : a ≤ c ∧ b ≤ d := by
  obtain ⟨r, e⟩ := h.l
  have := h.all _ _ e
  omega
/-- A row of a picture: m places from column lc on. -/
def rowP (P : Int → Int → Bool) (lc : Int) (m : Nat) (r : Int) : List UInt8 := (List.range m).map fun j : Nat => if P (lc + j) r then 35 else 46
theorem rowP_len (P : Int → Int → Bool) (lc : Int) (m : Nat) (r : Int) : (rowP P lc m r).length = m := by simp [rowP]
theorem rowP_at {P : Int → Int → Bool} {lc : Int} {m : Nat} {r : Int} {j : Nat} (h : j < m) : (rowP P lc m r)[j]? = some (if P (lc + j) r then 35 else 46) := by
  simp [rowP, h]
theorem rowP_hit {P : Int → Int → Bool} {lc : Int} {m : Nat} {r : Int} {j : Nat} : (rowP P lc m r)[j]? = some 35 ↔ j < m ∧ P (lc + j) r = true := by
  by_cases h : j < m
  · rw [rowP_at h]
    by_cases e : P (lc + j) r = true
    · simp [e, h]
    · simp [e, h]
  · rw [List.getElem?_eq_none (by rw [rowP_len]; omega)]
    simp [h]
theorem rowP_snoc (P : Int → Int → Bool) (lc : Int) (m : Nat) (r : Int) : rowP P lc (m + 1) r = rowP P lc m r ++ [if P (lc + m) r then 35 else 46] := by
  simp [rowP, List.range_succ]
theorem rowP_piece (P : Int → Int → Bool) (lc : Int) (m : Nat) (r : Int) (b e : Nat) (h1 : b ≤ e) (h2 : e ≤ m) : ((rowP P lc m r).drop b).take (e - b) = rowP P (lc + b) (e - b) r := by
  apply List.ext_getElem?
  intro j
  by_cases h : j < e - b
  · rw [List.getElem?_take_of_lt h, List.getElem?_drop, rowP_at (by omega), rowP_at h]
    have : lc + ((b + j : Nat) : Int) = lc + b + j := by omega
    rw [this]
  · rw [List.getElem?_eq_none (by simp [rowP_len]; omega), List.getElem?_eq_none (by rw [rowP_len]; omega)]
/-- What the first k rows show: the first and the last row with a covered cell, the least and the greatest column of such. -/
structure TrI (R : Nat → List UInt8) (k : Nat) (f l b e : Int) : Prop where
  no : f < 0 → f = -1 ∧ l = -1 ∧ b = -1 ∧ e = -1 ∧ ∀ i, i < k → ∀ j : Nat, (R i)[j]? ≠ some 35
  yes : 0 ≤ f → f ≤ l ∧ l < k ∧ 0 ≤ b ∧ b ≤ e ∧ (∀ i : Nat, i < k → ∀ j : Nat, (R i)[j]? = some 35 → f ≤ i ∧ (i : Int) ≤ l ∧ b ≤ j ∧ (j : Int) ≤ e)
    ∧ (∃ j : Nat, (R f.toNat)[j]? = some 35) ∧ (∃ j : Nat, (R l.toNat)[j]? = some 35) ∧ (∃ i : Nat, i < k ∧ (R i)[b.toNat]? = some 35) ∧ (∃ i : Nat, i < k ∧ (R i)[e.toNat]? = some 35)
theorem TrI.zero (R : Nat → List UInt8) : TrI R 0 (-1) (-1) (-1) (-1) := ⟨fun _ => ⟨rfl, rfl, rfl, rfl, fun i hi => by omega⟩, fun h => by omega⟩
theorem TrI.skip {R : Nat → List UInt8} {k : Nat} {f l b e : Int} (h : TrI R k f l b e) (hk : ∀ j : Nat, (R k)[j]? ≠ some 35) : TrI R (k + 1) f l b e := by
  refine ⟨fun hf => ?_, fun hf => ?_⟩
  · obtain ⟨h1, h2, h3, h4, h5⟩ := h.no hf
    refine ⟨h1, h2, h3, h4, fun i hi j => ?_⟩
    by_cases e : i = k
    · subst e; exact hk j
    · exact h5 i (by omega) j
  · obtain ⟨h1, h2, h3, h4, h5, h6, h7, ⟨i8, h8, h8'⟩, ⟨i9, h9, h9'⟩⟩ := h.yes hf
    refine ⟨h1, by omega, h3, h4, fun i hi j hj => ?_, h6, h7, ⟨i8, by omega, h8'⟩, ⟨i9, by omega, h9'⟩⟩
    by_cases e : i = k
    · subst e; exact absurd hj (hk j)
    · exact h5 i (by omega) j hj
/-- The first and the last place of a byte. -/
structure Ends (l : List UInt8) (a z : Int) : Prop where
  le : 0 ≤ a ∧ a ≤ z
  all : ∀ j : Nat, l[j]? = some 35 → a ≤ j ∧ (j : Int) ≤ z
  a : l[a.toNat]? = some 35
  z : l[z.toNat]? = some 35
theorem TrI.hit0 {R : Nat → List UInt8} {k : Nat} {f l b e a z : Int} (h : TrI R k f l b e) (hf : f < 0) (E : Ends (R k) a z) : TrI R (k + 1) k k (min a a) (max e z) := by
  obtain ⟨h1, h2, h3, h4, h5⟩ := h.no hf
  have hle := E.le
  have hmax : max e z = z := by omega
  rw [hmax, Int.min_self]
  refine ⟨fun hf => by omega, fun _ => ⟨by omega, by omega, by omega, by omega, fun i hi j hj => ?_, ⟨_, by simpa using E.a⟩, ⟨_, by simpa using E.a⟩, ⟨k, by omega, E.a⟩, ⟨k, by omega, E.z⟩⟩⟩
  by_cases e : i = k
  · subst e; have := E.all j hj; omega
  · exact absurd hj (h5 i (by omega) j)
theorem TrI.hit {R : Nat → List UInt8} {k : Nat} {f l b e a z : Int} (h : TrI R k f l b e) (hf : 0 ≤ f) (E : Ends (R k) a z) : TrI R (k + 1) f k (min b a) (max e z) := by
  obtain ⟨h1, h2, h3, h4, h5, h6, h7, ⟨i8, h8, h8'⟩, ⟨i9, h9, h9'⟩⟩ := h.yes hf
  have hle := E.le
  refine ⟨fun hf => by omega, fun _ => ⟨by omega, by omega, by omega, by omega, fun i hi j hj => ?_, h6, ⟨_, by simpa using E.a⟩, ?_, ?_⟩⟩
  · by_cases e : i = k
    · subst e; have := E.all j hj; omega
    · have := h5 i (by omega) j hj; omega
  · by_cases q : b ≤ a
    · exact ⟨i8, by omega, by rw [Int.min_eq_left q]; exact h8'⟩
    · exact ⟨k, by omega, by rw [Int.min_eq_right (by omega)]; exact E.a⟩
  · by_cases q : z ≤ e
    · exact ⟨i9, by omega, by rw [Int.max_eq_left q]; exact h9'⟩
    · exact ⟨k, by omega, by rw [Int.max_eq_right (by omega)]; exact E.z⟩
theorem ends_of {l : List UInt8} {a z : Int} (ha : Lib.indexByte l 35 = a) (h0 : 0 ≤ a) (hz : Lib.lastIndexByte ⟨l.toArray⟩ 35 = z) : Ends l a z := by
  obtain ⟨o, rfl⟩ : ∃ o : Nat, a = o := ⟨a.toNat, by omega⟩
  obtain ⟨h1, h2⟩ := Lib.indexByte_some ha
  have hlt : o < l.length := (List.getElem?_eq_some_iff.1 h1).1
  have hat : ∀ j : Nat, j < l.length → ((((⟨l.toArray⟩ : ByteArray).data[j]!).toNat : Int) = 35 ↔ l[j]? = some 35) := by
    intro j hj
    have : ((⟨l.toArray⟩ : ByteArray).data[j]!) = l[j] := by simp [hj]
    rw [this, List.getElem?_eq_getElem hj]
    constructor
    · intro h
      have : l[j].toNat = 35 := by omega
      rw [Option.some.injEq]
      exact UInt8.toNat_inj.1 (by rw [this]; rfl)
    · intro h
      rw [Option.some.injEq] at h
      rw [h]; rfl
  have hsz : (⟨l.toArray⟩ : ByteArray).size = l.length := by show l.toArray.size = _; simp
  rcases Lib.lastIndexByte_spec ⟨l.toArray⟩ 35 with ⟨_, hn⟩ | ⟨i, hi, e, hc, hn⟩
  · exact absurd ((hat o hlt).2 h1) (hn o (by rw [hsz]; exact hlt))
  · rw [hsz] at hi
    rw [hz] at e
    subst e
    have hall : ∀ j : Nat, l[j]? = some 35 → (o : Int) ≤ j ∧ (j : Int) ≤ i := by
      intro j hj
      have hjl : j < l.length := (List.getElem?_eq_some_iff.1 hj).1
      refine ⟨?_, ?_⟩
      · have : ¬ j < o := fun h => h2 j h hj
        omega
      · have : ¬ i < j := fun h => hn j h (by rw [hsz]; exact hjl) ((hat j hjl).2 hj)
        omega
    have := (hall o h1).2
    exact ⟨by omega, hall, by simpa using h1, by simpa using (hat i hi).1 hc⟩
/-- What trimming finds of the rows of a picture. -/
theorem TrI.tight {P : Int → Int → Bool} {L B : Int} {W H : Nat} {f l b e : Int} (h : TrI (fun i => rowP P L W (B + i)) H f l b e) (hf : 0 ≤ f) (hP : ∀ c r, P c r = true → L ≤ c ∧ c < L + W ∧ B ≤ r ∧ r < B + H) : Tight P (L + b) (B + f) (L + e) (B + l) := by
  obtain ⟨h1, h2, h3, h4, h5, ⟨j6, h6⟩, ⟨j7, h7⟩, ⟨i8, h8, h8'⟩, ⟨i9, h9, h9'⟩⟩ := h.yes hf
  rw [rowP_hit] at h6 h7 h8' h9'
  refine ⟨fun c r hc => ?_, ⟨B + i8, ?_⟩, ⟨L + j6, ?_⟩, ⟨B + i9, ?_⟩, ⟨L + j7, ?_⟩⟩
  · have hb := hP c r hc
    have := h5 (r - B).toNat (by omega) (c - L).toNat (by
      rw [rowP_hit]
      exact ⟨by omega, by rw [show L + ((c - L).toNat : Int) = c by omega, show B + ((r - B).toNat : Int) = r by omega]; exact hc⟩)
    omega
  · have := h8'.2; rwa [show L + (b.toNat : Int) = L + b by omega] at this
  · have := h6.2; rwa [show B + (f.toNat : Int) = B + f by omega] at this
  · have := h9'.2; rwa [show L + (e.toNat : Int) = L + e by omega] at this
  · have := h7.2; rwa [show B + (l.toNat : Int) = B + l by omega] at this
theorem TrI.none {P : Int → Int → Bool} {L B : Int} {W H : Nat} {f l b e : Int} (h : TrI (fun i => rowP P L W (B + i)) H f l b e) (hf : f < 0) (hP : ∀ c r, P c r = true → L ≤ c ∧ c < L + W ∧ B ≤ r ∧ r < B + H) : ∀ c r, P c r = false := by
  obtain ⟨_, _, _, _, h5⟩ := h.no hf
  intro c r
  by_cases hc : P c r = true
  · exfalso
    have hb := hP c r hc
    refine h5 (r - B).toNat (by omega) (c - L).toNat ?_
    rw [rowP_hit]
    exact ⟨by omega, by rw [show L + ((c - L).toNat : Int) = c by omega, show B + ((r - B).toNat : Int) = r by omega]; exact hc⟩
  · simpa using hc
end Go.Proofs.YtllagjncibfcmaaGreatDoor

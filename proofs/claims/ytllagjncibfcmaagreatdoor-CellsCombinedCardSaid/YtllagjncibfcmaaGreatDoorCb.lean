/- The rows of cells. -/
import Derived.Test.YtllagjncibfcmaaGreatDoorCa
set_option linter.unusedSimpArgs false
set_option linter.unusedVariables false
namespace Go.Proofs.YtllagjncibfcmaaGreatDoor
open Go.RowKit

/-- Strings in a slice. -/
def Sts (w : World) (b off n : Nat) (R : Nat → List UInt8) : Prop := ∀ i, i < n → w.cell? ⟨b, off + i, none⟩ = some (.string ⟨(R i).toArray⟩)
theorem Sts.kept {w w' : World} {b off n : Nat} {R : Nat → List UInt8} (h : Sts w b off n R) (hb : Below w.heap.size w w') (hl : b < w.heap.size) : Sts w' b off n R := fun i hi => cellk hb hl (h i hi)
def RowS (w : World) (a : Option Addr) (n : Nat) (R : Nat → List UInt8) : Prop := n = 0 ∨ ∃ b off, a = some ⟨b, off, none⟩ ∧ b < w.heap.size ∧ Sts w b off n R
theorem RowS.kept {w w' : World} {a : Option Addr} {n : Nat} {R : Nat → List UInt8} (h : RowS w a n R) (hb : Below w.heap.size w w') : RowS w' a n R := by
  rcases h with h | ⟨b, off, h1, h2, h3⟩
  · exact .inl h
  · exact .inr ⟨b, off, h1, by have := hb.size; omega, h3.kept hb h2⟩
/-- The first of n errors. -/
def firstR (E : Nat → Int) : Nat → Int
  | 0 => 0
  | n + 1 => if firstR E n ≠ 0 then firstR E n else E n
theorem firstR_none {E : Nat → Int} {n : Nat} (h : ∀ i, i < n → E i = 0) : firstR E n = 0 := by
  induction n with
  | zero => rfl
  | succ n ih => simp [firstR, ih (fun i hi => h i (by omega)), h n (by omega)]
theorem firstR_hit {E : Nat → Int} {n k : Nat} (hk : k < n) (h : ∀ i, i < k → E i = 0) (hE : E k ≠ 0) : firstR E n = E k := by
  induction n with
  | zero => omega
  | succ n ih =>
    simp only [firstR]
    by_cases e : k = n
    · subst e; simp [firstR_none h]
    · rw [ih (by omega)]; simp [hE]
def rowE (R : Nat → List UInt8) (k : Nat) : Int := if (R k).length ≠ (R 0).length then 3 else if okR (R k) = true then 0 else 9
def rowsE (n : Nat) (R : Nat → List UInt8) : Int := if 200 < n then 2 else if firstR (rowE R) n ≠ 0 then firstR (rowE R) n else if 0 < n ∧ 200 < (R 0).length then 2 else 0
theorem bsize (l : List UInt8) : (⟨l.toArray⟩ : ByteArray).size = l.length := by show l.toArray.size = _; simp
set_option maxRecDepth 100000 in
set_option maxHeartbeats 4000000 in
theorem checkRows_any (a : Option Addr) (n c : Nat) (R : Nat → List UInt8) (w : World) (hr : RowS w a n R) (hl : ∀ i, i < n → (R i).length ≤ 1000000) (hn : n ≤ 1000000) :
    Calls Tryz.prog 59 #[.slice a n c] w fun e w' => e = .returned (.int .i64 (rowsE n R)) ∧ Below w.heap.size w w' := by
  by_cases h2 : 200 < n
  · have hres : rowsE n R = 2 := by simp [rowsE, h2]
    rw [hres]
    have h2' : (200 : Int) < (n : Int) := by omega
    go_enter Tryz.func59, Tryz.ntmps59
    go_wp2
    go_ret
    exact ⟨rfl, Below.refl _ _⟩
  have h2' : ¬ (200 : Int) < (n : Int) := by omega
  by_cases hn0 : n = 0
  · subst hn0
    have hres : rowsE 0 R = 0 := by simp [rowsE, firstR]
    rw [hres]
    go_enter Tryz.func59, Tryz.ntmps59
    go_wp2
    refine wp_loop_rounds 1 ?_
    rw [rounds_succ]
    go_wp2
    go_ret
    exact ⟨rfl, Below.refl _ _⟩
  rcases hr with h | ⟨b, off, rfl, hb, hs⟩
  · exact absurd h hn0
  have HS := Lib.hid hs
  have HL := Lib.hid hl
  obtain ⟨E, hE⟩ : ∃ E, rowsE n R = E := ⟨_, rfl⟩
  rw [hE]
  have HE := Lib.hid hE
  have hb0 : w.cell? ⟨b, off, none⟩ = some (.string ⟨(R 0).toArray⟩) := by have := hs 0 (by omega); simpa using this
  clear hs hl hE
  have z0 := bsize (R 0)
  go_enter Tryz.func59, Tryz.ntmps59
  go_wp2_with (fail)
  go_loopw [10] (fun i wr => ∃ k : Nat, k ≤ n ∧ i = .int .i64 k ∧ (∀ j, j < k → rowE R j = 0) ∧ Below w.heap.size w wr) (fun i _ => n - (intOf i).toNat)
  case atStart => exact ⟨0, by omega, rfl, fun j hj => absurd hj (by omega), Below.refl _ _⟩
  case round =>
    obtain ⟨k, hk, rfl, hz, hbel⟩ := hrel
    have hsz := hbel.size
    have HZ := Lib.hid hz
    clear hz
    by_cases hlt : k < n
    · have c0 := (HS.out.kept hbel hb) k hlt
      have c1 := cellk hbel hb hb0
      have hbw : b < wr.heap.size := by omega
      have HB := Lib.hid hbel
      have zk := bsize (R k)
      have lk := HL.out k hlt
      clear hbel
      by_cases he : (R k).length = (R 0).length
      · have hlen : ((R k).length : Int) = ((R 0).length : Int) := by omega
        by_cases ho : okR (R k) = true
        · have T0 := Lib.hid ((trim_nil (R k)).2 ho)
          have hk0 : rowE R k = 0 := by simp [rowE, he, ho]
          go_wp2_with (go_at_call 53; refine (trim_any (R k) _ lk).mono ?_; rintro e w2 ⟨rfl, hb2⟩; rw [T0.out])
          have R2 := Lib.hid (HB.out.trans (hb2.mono hsz))
          clear hb2
          go_roundw
          case rel => exact ⟨k + 1, by omega, by go_num, fun j hj => by
            by_cases e : j = k
            · subst e; exact hk0
            · exact HZ.out j (by omega), R2.out⟩
          case measure => simp [intOf]; omega
        · have T0 : Lib.trimS (R k) [35, 46] ≠ [] := fun h => ho ((trim_nil (R k)).1 h)
          have hk0 : rowE R k = 9 := by simp [rowE, he, ho]
          have e9 : E = 9 := by
            rw [← HE.out]; unfold rowsE
            rw [if_neg h2, firstR_hit hlt HZ.out (by rw [hk0]; decide), hk0]
            simp
          subst e9
          obtain ⟨T, hT⟩ : ∃ T, Lib.trimS (R k) [35, 46] = T := ⟨_, rfl⟩
          rw [hT] at T0
          have HT := Lib.hid hT
          clear hT
          have hne : T.isEmpty = false := by cases T <;> simp_all
          go_wp2_with (go_at_call 53; refine (trim_any (R k) _ lk).mono ?_; rintro e w2 ⟨rfl, hb2⟩; rw [HT.out])
          go_ret
          exact ⟨rfl, HB.out.trans (hb2.mono hsz)⟩
      · have hk0 : rowE R k = 3 := by simp [rowE, he]
        have e3 : E = 3 := by
          rw [← HE.out]; unfold rowsE
          rw [if_neg h2, firstR_hit hlt HZ.out (by rw [hk0]; decide), hk0]
          simp
        subst e3
        have hlen : (((R k).length : Int) != ((R 0).length : Int)) = true := by simp; omega
        have hlen2 : ¬ ((R k).length : Int) = ((R 0).length : Int) := by omega
        go_wp2
        go_ret
        exact ⟨rfl, HB.out⟩
    · obtain rfl : n = k := by omega
      have c1 := cellk hbel hb hb0
      have f0 : firstR (rowE R) n = 0 := firstR_none HZ.out
      have hbw : b < wr.heap.size := by omega
      have hpos : (0 : Int) < (n : Int) := by omega
      by_cases hw : 200 < (R 0).length
      · have e2 : E = 2 := by
          rw [← HE.out]; unfold rowsE
          rw [if_neg h2, if_neg (by rw [f0]; simp), if_pos ⟨by omega, hw⟩]
        subst e2
        have hw' : (200 : Int) < ((R 0).length : Int) := by omega
        go_wp2
        go_ret
        exact ⟨rfl, hbel⟩
      · have e2 : E = 0 := by
          rw [← HE.out]; unfold rowsE
          rw [if_neg h2, if_neg (by rw [f0]; simp), if_neg (by omega)]
        subst e2
        have hw' : ¬ (200 : Int) < ((R 0).length : Int) := by omega
        go_wp2
        go_ret
        exact ⟨rfl, hbel⟩
end Go.Proofs.YtllagjncibfcmaaGreatDoor

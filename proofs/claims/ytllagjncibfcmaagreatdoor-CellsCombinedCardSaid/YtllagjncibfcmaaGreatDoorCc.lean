/- Cells reach their edges. -/
import Derived.Test.YtllagjncibfcmaaGreatDoorCb
import Derived.BigQuiet
import Derived.Deep.QuietTactic
import Derived.Deep.CutRange
set_option linter.unusedSimpArgs false
set_option linter.unusedVariables false
namespace Go.Proofs.YtllagjncibfcmaaGreatDoor
open Go.RowKit

def hpB (l : List UInt8) : Bool := Lib.hasPrefix l [35]
def hsB (l : List UInt8) : Bool := Lib.hasSuffix l [35]
def ctB (l : List UInt8) : Bool := decide (0 ≤ Lib.indexByte l 35)
def anyR (P : List UInt8 → Bool) (R : Nat → List UInt8) (n : Nat) : Bool := (List.range n).any fun i => P (R i)
theorem anyR_no {P : List UInt8 → Bool} {R : Nat → List UInt8} {n : Nat} (h : ∀ i, i < n → P (R i) = false) : anyR P R n = false := by
  simp only [anyR, List.any_eq_false, List.mem_range]
  intro i hi; simp [h i hi]
theorem anyR_yes {P : List UInt8 → Bool} {R : Nat → List UInt8} {n k : Nat} (hk : k < n) (h : P (R k) = true) : anyR P R n = true := by
  simp only [anyR, List.any_eq_true, List.mem_range]
  exact ⟨k, hk, h⟩
theorem pre_any (l : List UInt8) (w : World) : Calls Tryz.prog 75 #[.string ⟨l.toArray⟩, .string ⟨#[35]⟩] w fun e w' => e = .returned (.bool (hpB l)) ∧ w' = w := Go.Proofs.Tryz.strings_HasPrefix ⟨l.toArray⟩ ⟨#[35]⟩ w
theorem suf_any (l : List UInt8) (w : World) (h : l.length ≤ 1000000) : Calls Tryz.prog 77 #[.string ⟨l.toArray⟩, .string ⟨#[35]⟩] w fun e w' => e = .returned (.bool (hsB l)) ∧ w' = w := Go.Proofs.Tryz.strings_HasSuffix ⟨l.toArray⟩ ⟨#[35]⟩ w (by rw [bsize]; omega)
theorem con_any (l : List UInt8) (w : World) : Calls Tryz.prog 55 #[.string ⟨l.toArray⟩, .string ⟨#[35]⟩] w fun e w' => e = .returned (.bool (ctB l)) ∧ w' = w := Go.Proofs.Tryz.strings_Contains_one ⟨l.toArray⟩ 35 w
theorem re1_any (l : List UInt8) (w : World) : Calls Tryz.prog 74 #[.string ⟨l.toArray⟩] w fun e w' => e = .returned (.bool (hpB l)) ∧ w' = w := by
  go_enter Tryz.func74, Tryz.ntmps74
  go_wp2_with (go_at_call 75; refine (pre_any l _).mono ?_; rintro e w' ⟨rfl, rfl⟩)
  go_ret
  exact ⟨rfl, rfl⟩
theorem re2_any (l : List UInt8) (w : World) (h : l.length ≤ 1000000) : Calls Tryz.prog 76 #[.string ⟨l.toArray⟩] w fun e w' => e = .returned (.bool (hsB l)) ∧ w' = w := by
  go_enter Tryz.func76, Tryz.ntmps76
  go_wp2_with (go_at_call 77; refine (suf_any l _ h).mono ?_; rintro e w' ⟨rfl, rfl⟩)
  go_ret
  exact ⟨rfl, rfl⟩

set_option maxRecDepth 100000 in
set_option maxHeartbeats 4000000 in
theorem idx1_any (b off n c : Nat) (R : Nat → List UInt8) (w : World) (hb : b < w.heap.size) (hs : Sts w b off n R) (hl : ∀ i, i < n → (R i).length ≤ 1000000) (hn : n ≤ 1000000) :
    Calls Tryz.prog 93 #[.slice (some ⟨b, off, none⟩) n c, .func (.func 74) #[] #[]] w fun e w' => (∃ z, e = .returned (.int .i64 z) ∧ decide (0 ≤ z) = anyR hpB R n) ∧ w' = w := by
  have HS := Lib.hid hs
  have HL := Lib.hid hl
  clear hs hl
  go_enter Tryz.func93, Tryz.ntmps93
  go_wp2_with (fail)
  go_loopw [8] (fun i wr => ∃ k : Nat, k ≤ n ∧ i = .int .i64 k ∧ (∀ j, j < k → hpB (R j) = false) ∧ wr = w) (fun i _ => n - (intOf i).toNat)
  case atStart => exact ⟨0, by omega, rfl, fun j hj => absurd hj (by omega), rfl⟩
  case round =>
    obtain ⟨k, hk, rfl, hz, rfl⟩ := hrel
    have HZ := Lib.hid hz
    clear hz
    by_cases hlt : k < n
    · have c0 := HS.out k hlt
      have lk := HL.out k hlt
      obtain ⟨x, hx⟩ : ∃ x, hpB (R k) = x := ⟨_, rfl⟩
      have HX := Lib.hid hx
      clear hx
      rcases x with _ | _
      · go_wp2_with (go_at_call 74; refine (re1_any (R k) _ ).mono ?_; rintro e w' ⟨rfl, rfl⟩; rw [HX.out])
        go_roundw
        case rel => exact ⟨k + 1, by omega, by go_num, fun j hj => by
          by_cases e : j = k
          · subst e; exact HX.out
          · exact HZ.out j (by omega), by first | rfl | trivial⟩
        case measure => simp [intOf]; omega
      · go_wp2_with (go_at_call 74; refine (re1_any (R k) _ ).mono ?_; rintro e w' ⟨rfl, rfl⟩; rw [HX.out])
        go_ret
        exact ⟨⟨_, rfl, by rw [anyR_yes hlt HX.out]; simp⟩, rfl⟩
    · obtain rfl : n = k := by omega
      go_wp2
      go_ret
      exact ⟨⟨_, rfl, by rw [anyR_no HZ.out]; simp⟩, rfl⟩
theorem cf1_any (b off n c : Nat) (R : Nat → List UInt8) (w : World) (hb : b < w.heap.size) (hs : Sts w b off n R) (hl : ∀ i, i < n → (R i).length ≤ 1000000) (hn : n ≤ 1000000) :
    Calls Tryz.prog 78 #[.slice (some ⟨b, off, none⟩) n c, .func (.func 74) #[] #[]] w fun e w' => e = .returned (.bool (anyR hpB R n)) ∧ w' = w := by
  go_enter Tryz.func78, Tryz.ntmps78
  go_wp2_with (fail)
  refine (idx1_any b off n c R w hb hs hl hn).mono ?_
  rintro e w' ⟨⟨z, rfl, hz⟩, rfl⟩
  go_wp2
  go_ret
  exact ⟨by rw [← hz]; first | rfl | simp, rfl⟩

set_option maxRecDepth 100000 in
set_option maxHeartbeats 4000000 in
theorem idx2_any (b off n c : Nat) (R : Nat → List UInt8) (w : World) (hb : b < w.heap.size) (hs : Sts w b off n R) (hl : ∀ i, i < n → (R i).length ≤ 1000000) (hn : n ≤ 1000000) :
    Calls Tryz.prog 93 #[.slice (some ⟨b, off, none⟩) n c, .func (.func 76) #[] #[]] w fun e w' => (∃ z, e = .returned (.int .i64 z) ∧ decide (0 ≤ z) = anyR hsB R n) ∧ w' = w := by
  have HS := Lib.hid hs
  have HL := Lib.hid hl
  clear hs hl
  go_enter Tryz.func93, Tryz.ntmps93
  go_wp2_with (fail)
  go_loopw [8] (fun i wr => ∃ k : Nat, k ≤ n ∧ i = .int .i64 k ∧ (∀ j, j < k → hsB (R j) = false) ∧ wr = w) (fun i _ => n - (intOf i).toNat)
  case atStart => exact ⟨0, by omega, rfl, fun j hj => absurd hj (by omega), rfl⟩
  case round =>
    obtain ⟨k, hk, rfl, hz, rfl⟩ := hrel
    have HZ := Lib.hid hz
    clear hz
    by_cases hlt : k < n
    · have c0 := HS.out k hlt
      have lk := HL.out k hlt
      obtain ⟨x, hx⟩ : ∃ x, hsB (R k) = x := ⟨_, rfl⟩
      have HX := Lib.hid hx
      clear hx
      rcases x with _ | _
      · go_wp2_with (go_at_call 76; refine (re2_any (R k) _ lk).mono ?_; rintro e w' ⟨rfl, rfl⟩; rw [HX.out])
        go_roundw
        case rel => exact ⟨k + 1, by omega, by go_num, fun j hj => by
          by_cases e : j = k
          · subst e; exact HX.out
          · exact HZ.out j (by omega), by first | rfl | trivial⟩
        case measure => simp [intOf]; omega
      · go_wp2_with (go_at_call 76; refine (re2_any (R k) _ lk).mono ?_; rintro e w' ⟨rfl, rfl⟩; rw [HX.out])
        go_ret
        exact ⟨⟨_, rfl, by rw [anyR_yes hlt HX.out]; simp⟩, rfl⟩
    · obtain rfl : n = k := by omega
      go_wp2
      go_ret
      exact ⟨⟨_, rfl, by rw [anyR_no HZ.out]; simp⟩, rfl⟩
theorem cf2_any (b off n c : Nat) (R : Nat → List UInt8) (w : World) (hb : b < w.heap.size) (hs : Sts w b off n R) (hl : ∀ i, i < n → (R i).length ≤ 1000000) (hn : n ≤ 1000000) :
    Calls Tryz.prog 78 #[.slice (some ⟨b, off, none⟩) n c, .func (.func 76) #[] #[]] w fun e w' => e = .returned (.bool (anyR hsB R n)) ∧ w' = w := by
  go_enter Tryz.func78, Tryz.ntmps78
  go_wp2_with (fail)
  refine (idx2_any b off n c R w hb hs hl hn).mono ?_
  rintro e w' ⟨⟨z, rfl, hz⟩, rfl⟩
  go_wp2
  go_ret
  exact ⟨by rw [← hz]; first | rfl | simp, rfl⟩

/-- Some cell is covered at each edge. -/
def edgeB (n : Nat) (R : Nat → List UInt8) : Bool := decide (n = 0) || (ctB (R 0) && (ctB (R (n - 1)) && (anyR hpB R n && anyR hsB R n)))
set_option maxRecDepth 100000 in
set_option maxHeartbeats 4000000 in
theorem reach_any (a : Option Addr) (n c : Nat) (R : Nat → List UInt8) (w : World) (hr : RowS w a n R) (hl : ∀ i, i < n → (R i).length ≤ 1000000) (hn : n ≤ 1000000) :
    Calls Tryz.prog 60 #[.slice a n c] w fun e w' => e = .returned (.bool (edgeB n R)) ∧ Below w.heap.size w w' := by
  by_cases hn0 : n = 0
  · subst hn0
    have hres : edgeB 0 R = true := by simp [edgeB]
    rw [hres]
    go_enter Tryz.func60, Tryz.ntmps60
    go_wp2
    go_ret
    exact ⟨rfl, Below.refl _ _⟩
  rcases hr with h | ⟨b, off, rfl, hb, hs⟩
  · exact absurd h hn0
  have hb0 : w.cell? ⟨b, off, none⟩ = some (.string ⟨(R 0).toArray⟩) := by have := hs 0 (by omega); simpa using this
  obtain ⟨m, rfl⟩ : ∃ m, n = m + 1 := ⟨n - 1, by omega⟩
  have hbm := hs m (by omega)
  have hres : edgeB (m + 1) R = (ctB (R 0) && (ctB (R m) && (anyR hpB R (m + 1) && anyR hsB R (m + 1)))) := by simp [edgeB]
  rw [hres]
  obtain ⟨x1, h1⟩ : ∃ x, ctB (R 0) = x := ⟨_, rfl⟩
  obtain ⟨x2, h2⟩ : ∃ x, ctB (R m) = x := ⟨_, rfl⟩
  obtain ⟨x3, h3⟩ : ∃ x, anyR hpB R (m + 1) = x := ⟨_, rfl⟩
  obtain ⟨x4, h4⟩ : ∃ x, anyR hsB R (m + 1) = x := ⟨_, rfl⟩
  rw [h1, h2, h3, h4]
  have H1 := Lib.hid h1
  have H2 := Lib.hid h2
  have H3 := Lib.hid h3
  have H4 := Lib.hid h4
  have HS := Lib.hid hs
  have HL := Lib.hid hl
  have hm0 : IntKind.i64.wrap (((m + 1 : Nat) : Int) - 1) = (m : Int) := by rw [IntKind.wrap_i64]; omega
  have hm1 : IntKind.i64.wrap ((m : Int) + 1 - 1) = (m : Int) := by rw [IntKind.wrap_i64]; omega
  have hm2 : (m : Int) < ((m + 1 : Nat) : Int) := by omega
  clear h1 h2 h3 h4 hs hl hres
  have hne : ¬ ((m : Int) + 1 = 0) := by omega
  go_enter Tryz.func60, Tryz.ntmps60
  go_upto_region 5 with (fail)
  go_cut [5, 6] from 10 to 18 (fun s5 s6 wx => s5 = .string ⟨(R 0).toArray⟩ ∧ s6 = .string ⟨(R m).toArray⟩ ∧ ∃ q, wx = w.drewN q)
  case first =>
    go_quiet (fail)
    go_wp2_with (fail)
    go_meet
    exact ⟨rfl, rfl, _, rfl⟩
  case rest =>
    obtain ⟨rfl, rfl, q, rfl⟩ := hcut
    have RB := Lib.hid (bdrewN (Below.refl w.heap.size w) q)
    have HS2 := Lib.hid (HS.out.kept (bdrewN (Below.refl w.heap.size w) q) hb)
    have hb2 : b < (w.drewN q).heap.size := hb
    generalize w.drewN q = w2 at *
    rcases x1 with _ | _
    · go_wp2_with (first | (go_at_call 55; refine (con_any (R 0) _).mono ?_; rintro e w' ⟨rfl, rfl⟩; rw [H1.out]))
      go_ret
      exact ⟨rfl, RB.out⟩
    rcases x2 with _ | _
    · go_wp2_with (fail)
      refine (con_any (R 0) _).mono ?_
      rintro e w' ⟨rfl, rfl⟩
      rw [H1.out]
      go_wp2_with (fail)
      refine (con_any (R m) _).mono ?_
      rintro e w' ⟨rfl, rfl⟩
      rw [H2.out]
      go_wp2
      go_ret
      exact ⟨rfl, RB.out⟩
    rcases x3 with _ | _
    · go_wp2_with (fail)
      refine (con_any (R 0) _).mono ?_
      rintro e w' ⟨rfl, rfl⟩
      rw [H1.out]
      go_wp2_with (fail)
      refine (con_any (R m) _).mono ?_
      rintro e w' ⟨rfl, rfl⟩
      rw [H2.out]
      go_wp2_with (fail)
      refine (cf1_any b off (m + 1) c R _ hb2 HS2.out HL.out hn).mono ?_
      rintro e w' ⟨rfl, rfl⟩
      rw [H3.out]
      go_wp2
      go_ret
      exact ⟨rfl, RB.out⟩
    go_wp2_with (fail)
    refine (con_any (R 0) _).mono ?_
    rintro e w' ⟨rfl, rfl⟩
    rw [H1.out]
    go_wp2_with (fail)
    refine (con_any (R m) _).mono ?_
    rintro e w' ⟨rfl, rfl⟩
    rw [H2.out]
    go_wp2_with (fail)
    refine (cf1_any b off (m + 1) c R _ hb2 HS2.out HL.out hn).mono ?_
    rintro e w' ⟨rfl, rfl⟩
    rw [H3.out]
    go_wp2_with (fail)
    refine (cf2_any b off (m + 1) c R _ hb2 HS2.out HL.out hn).mono ?_
    rintro e w' ⟨rfl, rfl⟩
    rw [H4.out]
    go_wp2
    go_ret
    exact ⟨by simp, RB.out⟩
end Go.Proofs.YtllagjncibfcmaaGreatDoor

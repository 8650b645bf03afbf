/- Legs and corners the other way round: Back. -/
import Derived.Test.YtdanlnmdkneepaaUg
set_option linter.unusedSimpArgs false
set_option linter.unusedVariables false
namespace Go.Proofs.Ytdanlnmdkneepaa
open Go.RowKit

theorem turnedL_any (b off n cl : Nat) (L M : Nat → Int) (w : World) (hn : n ≤ 100) (hb : b < w.heap.size) (hd : Du w b off n L M) :
    Calls Try.prog 89 #[.slice (some ⟨b, off, none⟩) n cl] w fun e w' => ∃ a c, e = .returned (.slice a n c) ∧ w'.ownsRow w.heap.size 83 2 (.slice a n c) n (cells2 (rv n L) (rv n M) n) ∧ Below w.heap.size w w' :=
  callsIn_wide.1 (turnedL_in b off n cl L M w hn hb hd)
theorem turnedI_any (a : Option Addr) (n cl : Nat) (L : Nat → Int) (w : World) (hn : n ≤ 100) (hp : IntsR w a n L) :
    Calls Try.prog 90 #[.slice a n cl] w fun e w' => ∃ a c, e = .returned (.slice a n c) ∧ w'.ownsRow w.heap.size 3 1 (.slice a n c) n (vs (rv n L) n) ∧ Below w.heap.size w w' := by
  rcases hp with h | ⟨b, off, rfl, hb, hd⟩
  · exact callsIn_wide.1 (turnedI_in a (w.heap.size + 1) 0 n cl L w hn (fun h' => by omega) (.inr ⟨h, rfl⟩) (fun i hi => by omega))
  · exact callsIn_wide.1 (turnedI_in _ b off n cl L w hn (fun _ => rfl) (.inl hb) hd)
theorem corn_ok {n m : Nat} {L M C : Nat → Int} (h : cornE n L M m C = 0) : (0 < n ∧ ∀ i, i < n → 1 ≤ L i ∧ L i ≤ 200000 ∧ 1 ≤ M i ∧ M i ≤ 100000) ∧ m + 1 = n := by
  unfold cornE at h
  split at h
  · rename_i h1
    refine ⟨legE_ok h1, ?_⟩
    split at h
    · assumption
    · cases h
  · rename_i h1; exact absurd h h1
/-- The answer of what gives legs and corners. -/
def LCPost (E : Int) (n m : Nat) (L M C : Nat → Int) (w : World) (e : Ending) (w' : World) : Prop :=
  (E = 0 → ∃ a1 c1 a2 c2, e = .returned (.tuple #[.slice a1 n c1, .slice a2 m c2, .int .i64 0]) ∧ w'.ownsRow w.heap.size 83 2 (.slice a1 n c1) n (cells2 L M n) ∧ w'.ownsRow w.heap.size 3 1 (.slice a2 m c2) m (vs C m)) ∧
  (E ≠ 0 → e = .returned (.tuple #[.slice none 0 0, .slice none 0 0, .int .i64 E])) ∧ Below w.heap.size w w'
set_option maxRecDepth 100000 in
set_option maxHeartbeats 4000000 in
theorem Back_any (a : Option Addr) (n c : Nat) (L M : Nat → Int) (ac : Option Addr) (m cc : Nat) (C : Nat → Int) (w : World) (hn : n ≤ 100) (hm : m ≤ 100) (hp : LegsR w a n L M) (hc : IntsR w ac m C) :
    Calls Try.prog 48 #[.slice a n c, .slice ac m cc] w (LCPost (cornE n L M m C) n m (rv n L) (rv n M) (rv m C) w) := by
  have HP := Lib.hid hp
  have HC := Lib.hid hc
  clear hp hc
  go_enter Try.func48, Try.ntmps48
  go_wp2_with (fail)
  refine (checkCorners_any a n c L M ac m cc C w hn hm HP.out HC.out).mono ?_
  rintro e w1 ⟨rfl, hb1⟩
  have HB1 := Lib.hid hb1
  by_cases hz : cornE n L M m C = 0
  · have HZ := Lib.hid hz
    obtain ⟨⟨h0, _⟩, _⟩ := corn_ok hz
    obtain ⟨b, off, rfl, hbl, hd⟩ : ∃ b off, a = some ⟨b, off, none⟩ ∧ b < w1.heap.size ∧ Du w1 b off n L M := by
      rcases HP.out.kept hb1 with h | ⟨b, off, h1, h2, h3⟩
      · omega
      · exact ⟨b, off, h1, h2, h3⟩
    have HCk := Lib.hid (HC.out.kept hb1)
    rw [hz]
    clear hz hb1 HP HC
    go_wp2_with (fail)
    refine (turnedL_any b off n c L M w1 hn hbl hd).mono ?_
    rintro e w2 ⟨a1, c1, rfl, ho1, hb2⟩
    have HO1 := Lib.hid (own_base ho1 HB1.out.size)
    have HB2 := Lib.hid (HB1.out.trans (hb2.mono HB1.out.size))
    have HCl := Lib.hid (HCk.out.kept hb2)
    clear ho1 hb2 hd HCk
    go_wp2_with (fail)
    refine (turnedI_any ac m cc C w2 hm HCl.out).mono ?_
    rintro e w3 ⟨a2, c2, rfl, ho2, hb3⟩
    have HO2 := Lib.hid (own_base ho2 HB2.out.size)
    have HO1b := Lib.hid (ownsRow_below HO1.out hb3)
    have HB3 := Lib.hid (HB2.out.trans (hb3.mono HB2.out.size))
    clear ho2 hb3
    go_wp2_with (fail)
    exact bodyPost_ret (v := .tuple #[.slice a1 n c1, .slice a2 m c2, .int .i64 0]) (by simp [results, Try.results48, go_sem]) rfl ⟨fun _ => ⟨_, _, _, _, rfl, HO1b.out, HO2.out⟩, fun h => absurd HZ.out h, HB3.out⟩
  · have HZ := Lib.hid hz
    have hz' : (cornE n L M m C != 0) = true := by simpa using hz
    clear hz hb1
    go_wp2_with (fail)
    exact bodyPost_ret (v := .tuple #[.slice none 0 0, .slice none 0 0, .int .i64 (cornE n L M m C)]) (by simp [results, Try.results48, go_sem]) rfl ⟨fun h => absurd h HZ.out, fun _ => rfl, HB1.out⟩
end Go.Proofs.Ytdanlnmdkneepaa

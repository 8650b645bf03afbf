/- Drawn paths that are right. -/
import Derived.Test.YtcahjkaphpeobaaYx
import Derived.Test.YtcahjkaphpeobaaYc
set_option linter.unusedSimpArgs false
set_option linter.unusedVariables false
namespace Go.Proofs.Ytcahjkaphpeobaa
open Go.RowKit
theorem StrmY.below {w w' : World} {B k : Nat} (h : Strm w B k) (hb : Below w.heap.size w w') : Strm w' B k :=
  h.kept (S := fun _ => False) ⟨hb.os, hb.tape, hb.output, hb.size, fun k hk _ => hb.block k hk⟩ (fun _ _ h => h)
theorem PO.from {w0 w W : World} {B k t : Nat} {v : Value} {L : Nat → Pth} (h : PO w W B k v t L) (hm : Mut (· = B) w0 w) (hl : B < w0.heap.size) : PO w0 W B k v t L :=
  ⟨own_base h.o hm.size, fun i hi => ⟨(h.p i hi).1, own_base (h.p i hi).2 hm.size⟩, h.s, hm.trans h.m, hl⟩
theorem PO.below {w W W' : World} {B k t : Nat} {v : Value} {L : Nat → Pth} (h : PO w W B k v t L) (hb : Below W.heap.size W W') : PO w W' B k v t L :=
  h.next ⟨hb.os, hb.tape, hb.output, hb.size, fun k hk _ => hb.block k hk⟩ (StrmY.below h.s hb)
/-- Paths that are right, in memory. -/
def RPaths (w : World) (B k : Nat) (e : Ending) (w' : World) : Prop := ∃ a t c L, e = .returned (.slice a t c) ∧ t ≤ 5 ∧ psF t L = 0 ∧ PO w w' B k (.slice a t c) t L
set_option maxRecDepth 100000 in
set_option maxHeartbeats 8000000 in
theorem rightPaths_any (M : Int) (hM : 0 ≤ M ∧ M ≤ 5) (B k : Nat) (w : World) (hs : Strm w B k) (hk : k + 600 ≤ 1000000) :
    Calls Try.prog 4 #[.pointer (some ⟨B, 0, none⟩), .int .i64 M] w (RPaths w B (k + 420)) := by
  have hB := hs.lt
  have HS := Lib.hid hs
  clear hs
  go_enter Try.func4, Try.ntmps4
  go_wp2_with (fail)
  go_loopw [6] (fun i wr => ∃ j : Nat, j ≤ 6 ∧ i = .int .i64 j ∧ Strm wr B (k + 70 * j) ∧ Mut (· = B) w wr) (fun i _ => 6 - (intOf i).toNat)
  case atStart => exact ⟨0, by omega, rfl, HS.out, Mut.refl _ _⟩
  case round =>
    obtain ⟨j, hj, rfl, hst, hmt⟩ := hrel
    have HSj := Lib.hid hst
    have HM := Lib.hid hmt
    clear hst hmt
    by_cases hlt : j < 6
    · go_wp2_with (fail)
      refine (pathListM_any M hM B _ wr HSj.out (by omega)).mono ?_
      rintro e w1 ⟨a, t, c, L, rfl, ht, hpo⟩
      have HPO := Lib.hid hpo
      clear hpo
      go_wp2_with (fail)
      refine (pathsFault_any a t c L w1 (by omega) HPO.out.fin.1 (fun i hi => by have := (HPO.out.fin.2 i hi).1; omega)).mono ?_
      rintro e w2 ⟨rfl, hb⟩
      replace HPO := Lib.hid (HPO.out.below hb)
      clear hb
      by_cases hz : psF t L = 0
      · have HZ := Lib.hid hz
        have hz' : (psF t L == 0) = true := by simpa using hz
        clear hz
        go_wp2_with (fail)
        go_ret
        exact ⟨a, t, c, L, rfl, ht, HZ.out, (HPO.out.from HM.out hB).more (by omega) (by omega)⟩
      · have hz' : (psF t L == 0) = false := by simpa using hz
        clear hz
        have HS2 := Lib.hid (HPO.out.s.more (k' := k + 70 * (j + 1)) (by omega) (by omega))
        have HM2 := Lib.hid (HM.out.trans HPO.out.m)
        go_wp2_with (fail)
        go_roundw
        case rel => exact ⟨j + 1, by omega, by go_num, HS2.out, HM2.out⟩
        case measure => simp [intOf] <;> omega
    · obtain rfl : j = 6 := by omega
      go_wp2_with (fail)
      go_ret
      exact ⟨none, 0, 0, fun _ => ⟨none, 0, 0, fun _ => 0, fun _ => 0, false⟩, rfl, by omega, rfl, ⟨World.ownsRow_nil _ _ _ _, fun i hi => by omega, HSj.out, HM.out, hB⟩⟩
end Go.Proofs.Ytcahjkaphpeobaa

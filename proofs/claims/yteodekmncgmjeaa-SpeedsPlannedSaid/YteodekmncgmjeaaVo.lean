/- KeptOf and SlowOf of the reference. -/
import Derived.Test.YteodekmncgmjeaaVn
set_option linter.unusedSimpArgs false
set_option linter.unusedVariables false
namespace Go.Proofs.Yteodekmncgmjeaa
open Go.RowKit
attribute [local go_sem] min3V min2V
theorem Below.next_drew {B : Nat} {w W : World} (h : Below B w W) : Below B w W.drew := ⟨h.os, h.tape, h.output, h.size, h.block⟩
def absZ (x : Int) : Int := if x < 0 then -x else x
theorem abs_any (x : Int) (w : World) (h : -1000000000000000000 ≤ x ∧ x ≤ 1000000000000000000) : Calls Try.prog 33 #[.int .i64 x] w fun e w' => e = .returned (.int .i64 (absZ x)) ∧ w = w' := by
  have e1 : IntKind.i64.wrap (-x) = -x := i64w (by omega)
  have e2 : (if -x > x then -x else x) = absZ x := by unfold absZ; split <;> split <;> omega
  go_enter Try.func33, Try.ntmps33
  go_wp2_with (fail)
  go_ret
  exact ⟨rfl, rfl⟩
set_option maxRecDepth 100000 in
set_option maxHeartbeats 16000000 in
theorem keptOf_any (a : Option Addr) (n cl : Nat) (L M : Nat → Int) (ac : Option Addr) (m cc : Nat) (C : Nat → Int) (av : Option Addr) (cv : Nat) (V : Nat → Int) (c : Int) (w : World) (hn : n ≤ 100) (hp : LegsR w a n L M) (hc : IntsR w ac m C) (hv : IntsR w av (n + 1) V) (ok : MOk n L M m C c) :
    Calls Try.prog 15 #[.slice a n cl, .slice ac m cc, .slice av (n + 1) cv, .int .i64 c] w fun e w' => e = .returned (.bool (keptB n L M C c V)) ∧ Below w.heap.size w w' := by
  have HC := Lib.hid hc
  have OK := Lib.hid ok
  obtain ⟨b, off, rfl, hb, hd⟩ : ∃ b off, a = some ⟨b, off, none⟩ ∧ b < w.heap.size ∧ ∀ i, i < n → w.cell? ⟨b, off + i * 2, none⟩ = some (.int .i64 (L i)) ∧ w.cell? ⟨b, off + i * 2 + 1, none⟩ = some (.int .i64 (M i)) := by
    rcases hp with h | h
    · have := ok.pos; omega
    · exact h
  obtain ⟨bv, ov, rfl, hbv, hdv⟩ : ∃ b off, av = some ⟨b, off, none⟩ ∧ b < w.heap.size ∧ ∀ i, i < n + 1 → w.cell? ⟨b, off + i, none⟩ = some (.int .i64 (V i)) := by
    rcases hv with h | h
    · omega
    · exact h
  have HD := Lib.hid hd
  have HV := Lib.hid hdv
  have hmn := ok.kn
  have hpos := ok.pos
  clear hc hp hd ok hv hdv
  go_enter Try.func15, Try.ntmps15
  go_wp2_with (fail)
  go_loopw [15] (fun i wr => ∃ t : Nat, t ≤ n + 1 ∧ i = .int .i64 t ∧ (∀ j, j < t → 0 ≤ V j ∧ V j ≤ bndZ n M C j) ∧ Below w.heap.size w wr) (fun i _ => n + 1 - (intOf i).toNat)
  case atStart => exact ⟨0, by omega, rfl, fun j hj => by omega, Below.refl _ _⟩
  case round =>
    obtain ⟨t, ht, rfl, hj, hbel⟩ := hrel
    have HJ := Lib.hid hj
    have HB := Lib.hid hbel
    have hsz := hbel.size
    clear hj hbel
    by_cases hlt : t < n + 1
    · have c0 := cellk HB.out hbv (HV.out t hlt)
      have hbw : bv < wr.heap.size := by omega
      have hlt' : (t : Int) < (n : Int) + 1 := by omega
      by_cases h1 : V t < 0
      · have R := Lib.hid (keptB_no1 (L := L) (M := M) (C := C) (c := c) (V := V) hlt (by omega))
        go_wp2_with (fail)
        go_ret
        exact ⟨by rw [R.out]; rfl, HB.out⟩
      · have h1' : decide (V t < 0) = false := by simpa using h1
        by_cases h2 : bndZ n M C t < V t
        · have R := Lib.hid (keptB_no1 (L := L) (M := M) (C := C) (c := c) (V := V) hlt (by omega))
          by_cases h0 : t = 0
          · subst h0
            rw [Nat.add_zero] at c0
            have hv0 : (V 0 != 0) = true := by rw [bndZ_0] at h2; simp; omega
            clear h2
            go_wp2_with (fail)
            go_ret
            exact ⟨by rw [R.out]; rfl, HB.out⟩
          · by_cases hn0 : t = n
            · subst hn0
              have hv0 : (V t != 0) = true := by rw [bndZ_n] at h2; simp; omega
              have ht0 : ((t : Int) == 0) = false := by simp; omega
              clear h2
              go_wp2_with (fail)
              go_ret
              exact ⟨by rw [R.out]; rfl, HB.out⟩
            · obtain ⟨s, hs⟩ : ∃ s, t = s + 1 := ⟨t - 1, by omega⟩
              have ht0 : ((t : Int) == 0) = false := by simp; omega
              have htn : ((t : Int) == (n : Int)) = false := by simp; omega
              have ht1 : 0 < t := by omega
              have ht2 : t < n := by omega
              have hw1 : IntKind.i64.wrap ((t : Int) - 1) = (s : Int) := by rw [i64w (by omega)]; omega
              have hsm : s < m := by omega
              have hsn : s < n := by omega
              have htn2 : t < n := by omega
              have hmin : min (C s) (min (M s) (M t)) = bndZ n M C t := by rw [hs, bndZ_mid (by omega), Int.min_assoc]
              obtain ⟨bc, oc, rfl, hbc, hdc⟩ : ∃ b off, ac = some ⟨b, off, none⟩ ∧ b < w.heap.size ∧ ∀ i, i < m → w.cell? ⟨b, off + i, none⟩ = some (.int .i64 (C i)) := by
                rcases HC.out with h | h
                · omega
                · exact h
              have d0 := cellk HB.out hbc (hdc s hsm)
              have d1 := cellk HB.out hb (HD.out s hsn).2
              have d2 := cellk HB.out hb (HD.out t htn2).2
              clear hs hdc
              go_wp2_with (fail)
              refine wp_region_held_drew (S := (fun w' => w'.cell? ⟨bc, oc + s, none⟩ = some (.int .i64 (C s)) ∧ w'.cell? ⟨b, off + s * 2 + 1, none⟩ = some (.int .i64 (M s)) ∧ w'.cell? ⟨b, off + t * 2 + 1, none⟩ = some (.int .i64 (M t)))) (by kernel_rfl) ⟨d0, d1, d2⟩ (fun hHeld => ?_)
              refine tkH (by assumption) 0 (oi := ?_) (v := ?_) ?_ ?_ ?_ ?_ ?_ ?_ ?_ ?_; rotate_left 2; (simp only [gA, gB, gC]; exact rfl); kernel_rfl; kernel_rfl; kernel_rfl; exact fun _ _ _ h => h; rfl; (intro w' hSw; (try dsimp only at hSw); go_simp; with_reducible rfl); simp only [Act.put, pB, pC, pD]
              refine tkH (by assumption) 1 (oi := ?_) (v := ?_) ?_ ?_ ?_ ?_ ?_ ?_ ?_ ?_; rotate_left 2; (simp only [gA, gB, gC]; exact rfl); kernel_rfl; kernel_rfl; kernel_rfl; exact fun _ _ _ h => h; rfl; (intro w' hSw; (try dsimp only at hSw); go_simp; with_reducible rfl); simp only [Act.put, pB, pC, pD]
              refine tkH (by assumption) 2 (oi := ?_) (v := ?_) ?_ ?_ ?_ ?_ ?_ ?_ ?_ ?_; rotate_left 2; (simp only [gA, gB, gC]; exact rfl); kernel_rfl; kernel_rfl; kernel_rfl; exact fun _ _ _ h => h; rfl; (intro w' hSw; (try dsimp only at hSw); go_simp; with_reducible rfl); simp only [Act.put, pB, pC, pD]
              refine tkH (by assumption) 3 (oi := ?_) (v := ?_) ?_ ?_ ?_ ?_ ?_ ?_ ?_ ?_; rotate_left 2; (simp only [gA, gB, gC]; exact rfl); kernel_rfl; kernel_rfl; kernel_rfl; exact fun _ _ _ h => h; rfl; (intro w' hSw; (try dsimp only at hSw); go_simp; with_reducible rfl); simp only [Act.put, pB, pC, pD]
              refine tkH (by assumption) 4 (oi := ?_) (v := ?_) ?_ ?_ ?_ ?_ ?_ ?_ ?_ ?_; rotate_left 2; (simp only [gA, gB, gC]; exact rfl); kernel_rfl; kernel_rfl; kernel_rfl; exact fun _ _ _ h => h; rfl; (intro w' hSw; (try dsimp only at hSw); go_simp; with_reducible rfl); simp only [Act.put, pB, pC, pD]
              refine tkH (by assumption) 5 (oi := ?_) (v := ?_) ?_ ?_ ?_ ?_ ?_ ?_ ?_ ?_; rotate_left 2; (simp only [gA, gB, gC]; exact rfl); kernel_rfl; kernel_rfl; kernel_rfl; exact fun _ _ _ h => h; rfl; (intro w' hSw; (try dsimp only at hSw); go_simp; with_reducible rfl); simp only [Act.put, pB, pC, pD]
              refine tkH (by assumption) 6 (oi := ?_) (v := ?_) ?_ ?_ ?_ ?_ ?_ ?_ ?_ ?_; rotate_left 2; (simp only [gA, gB, gC]; exact rfl); kernel_rfl; kernel_rfl; kernel_rfl; exact fun _ _ _ h => h; rfl; (intro w' hSw; (try dsimp only at hSw); go_simp; with_reducible rfl); simp only [Act.put, pB, pC, pD]
              refine tkH (by assumption) 7 (oi := ?_) (v := ?_) ?_ ?_ ?_ ?_ ?_ ?_ ?_ ?_; rotate_left 2; (simp only [gA, gB, gC]; exact rfl); kernel_rfl; kernel_rfl; kernel_rfl; exact fun _ _ _ h => h; rfl; (intro w' hSw; (try dsimp only at hSw); go_simp; with_reducible rfl); simp only [Act.put, pB, pC, pD]
              refine tkH (by assumption) 8 (oi := ?_) (v := ?_) ?_ ?_ ?_ ?_ ?_ ?_ ?_ ?_; rotate_left 2; (simp only [gA, gB, gC]; exact rfl); kernel_rfl; kernel_rfl; kernel_rfl; exact fun _ _ _ h => h; rfl; (intro w' hSw; (try dsimp only at hSw); go_simp; with_reducible rfl); simp only [Act.put, pB, pC, pD]
              refine tkH (by assumption) 9 (oi := ?_) (v := ?_) ?_ ?_ ?_ ?_ ?_ ?_ ?_ ?_; rotate_left 2; (simp only [gA, gB, gC]; exact rfl); kernel_rfl; kernel_rfl; kernel_rfl; exact fun _ _ _ h => h; rfl; (intro w' hSw; (try dsimp only at hSw); go_simp; with_reducible rfl); simp only [Act.put, pB, pC, pD]
              refine tkH (by assumption) 10 (oi := ?_) (v := ?_) ?_ ?_ ?_ ?_ ?_ ?_ ?_ ?_; rotate_left 2; (simp only [gA, gB, gC]; exact rfl); kernel_rfl; kernel_rfl; kernel_rfl; exact fun _ _ _ h => h; rfl; (intro w' hSw; (try dsimp only at hSw); go_simp; with_reducible rfl); simp only [Act.put, pB, pC, pD]
              refine tkH (by assumption) 11 (oi := ?_) (v := ?_) ?_ ?_ ?_ ?_ ?_ ?_ ?_ ?_; rotate_left 2; (simp only [gA, gB, gC]; exact rfl); kernel_rfl; kernel_rfl; kernel_rfl; exact fun _ _ _ h => h; rfl; (intro w' hSw; (try dsimp only at hSw); go_simp; with_reducible rfl); simp only [Act.put, pB, pC, pD]
              refine tkH (by assumption) 12 (oi := ?_) (v := ?_) ?_ ?_ ?_ ?_ ?_ ?_ ?_ ?_; rotate_left 2; (simp only [gA, gB, gC]; exact rfl); kernel_rfl; kernel_rfl; kernel_rfl; exact fun _ _ _ h => h; rfl; (intro w' hSw; (try dsimp only at hSw); go_simp; with_reducible rfl); simp only [Act.put, pB, pC, pD]
              refine tkH (by assumption) 13 (oi := ?_) (v := ?_) ?_ ?_ ?_ ?_ ?_ ?_ ?_ ?_; rotate_left 2; (simp only [gA, gB, gC]; exact rfl); kernel_rfl; kernel_rfl; kernel_rfl; exact fun _ _ _ h => h; rfl; (intro w' hSw; (try dsimp only at hSw); go_simp; with_reducible rfl); simp only [Act.put, pB, pC, pD]
              refine tkH (by assumption) 14 (oi := ?_) (v := ?_) ?_ ?_ ?_ ?_ ?_ ?_ ?_ ?_; rotate_left 2; (simp only [gA, gB, gC]; exact rfl); kernel_rfl; kernel_rfl; kernel_rfl; exact fun _ _ _ h => h; rfl; (intro w' hSw; (try dsimp only at hSw); go_simp; with_reducible rfl); simp only [Act.put, pB, pC, pD]
              refine tkH (by assumption) 15 (oi := ?_) (v := ?_) ?_ ?_ ?_ ?_ ?_ ?_ ?_ ?_; rotate_left 2; (simp only [gA, gB, gC]; exact rfl); kernel_rfl; kernel_rfl; kernel_rfl; exact fun _ _ _ h => h; rfl; (intro w' hSw; (try dsimp only at hSw); go_simp; with_reducible rfl); simp only [Act.put, pB, pC, pD]
              refine tkH (by assumption) 16 (oi := ?_) (v := ?_) ?_ ?_ ?_ ?_ ?_ ?_ ?_ ?_; rotate_left 2; (simp only [gA, gB, gC]; exact rfl); kernel_rfl; kernel_rfl; kernel_rfl; exact fun _ _ _ h => h; rfl; (intro w' hSw; (try dsimp only at hSw); go_simp; with_reducible rfl); simp only [Act.put, pB, pC, pD]
              refine tkH (by assumption) 17 (oi := ?_) (v := ?_) ?_ ?_ ?_ ?_ ?_ ?_ ?_ ?_; rotate_left 2; (simp only [gA, gB, gC]; exact rfl); kernel_rfl; kernel_rfl; kernel_rfl; exact fun _ _ _ h => h; rfl; (intro w' hSw; (try dsimp only at hSw); go_simp; with_reducible rfl); simp only [Act.put, pB, pC, pD]
              refine tkH (by assumption) 18 (oi := ?_) (v := ?_) ?_ ?_ ?_ ?_ ?_ ?_ ?_ ?_; rotate_left 2; (simp only [gA, gB, gC]; exact rfl); kernel_rfl; kernel_rfl; kernel_rfl; exact fun _ _ _ h => h; rfl; (intro w' hSw; (try dsimp only at hSw); go_simp; with_reducible rfl); simp only [Act.put, pB, pC, pD]
              refine tkH (by assumption) 19 (oi := ?_) (v := ?_) ?_ ?_ ?_ ?_ ?_ ?_ ?_ ?_; rotate_left 2; (simp only [gA, gB, gC]; exact rfl); kernel_rfl; kernel_rfl; kernel_rfl; exact fun _ _ _ h => h; rfl; (intro w' hSw; (try dsimp only at hSw); go_simp; with_reducible rfl); simp only [Act.put, pB, pC, pD]
              refine tkH (by assumption) 20 (oi := ?_) (v := ?_) ?_ ?_ ?_ ?_ ?_ ?_ ?_ ?_; rotate_left 2; (simp only [gA, gB, gC]; exact rfl); kernel_rfl; kernel_rfl; kernel_rfl; exact fun _ _ _ h => h; rfl; (intro w' hSw; (try dsimp only at hSw); go_simp; with_reducible rfl); simp only [Act.put, pB, pC, pD]
              refine tkH (by assumption) 21 (oi := ?_) (v := ?_) ?_ ?_ ?_ ?_ ?_ ?_ ?_ ?_; rotate_left 2; (simp only [gA, gB, gC]; exact rfl); kernel_rfl; kernel_rfl; kernel_rfl; exact fun _ _ _ h => h; rfl; (intro w' hSw; (try dsimp only at hSw); go_simp; with_reducible rfl); simp only [Act.put, pB, pC, pD]
              refine tkH (by assumption) 22 (oi := ?_) (v := ?_) ?_ ?_ ?_ ?_ ?_ ?_ ?_ ?_; rotate_left 2; (simp only [gA, gB, gC]; exact rfl); kernel_rfl; kernel_rfl; kernel_rfl; exact fun _ _ _ h => h; rfl; (intro w' hSw; (try dsimp only at hSw); go_simp; with_reducible rfl); simp only [Act.put, pB, pC, pD]
              refine tkH (by assumption) 23 (oi := ?_) (v := ?_) ?_ ?_ ?_ ?_ ?_ ?_ ?_ ?_; rotate_left 2; (simp only [gA, gB, gC]; exact rfl); kernel_rfl; kernel_rfl; kernel_rfl; exact fun _ _ _ h => h; rfl; (intro w' hSw; (try dsimp only at hSw); go_simp; with_reducible rfl); simp only [Act.put, pB, pC, pD]
              refine tkH (by assumption) 24 (oi := ?_) (v := ?_) ?_ ?_ ?_ ?_ ?_ ?_ ?_ ?_; rotate_left 2; (simp only [gA, gB, gC]; exact rfl); kernel_rfl; kernel_rfl; kernel_rfl; exact fun _ _ _ h => h; rfl; (intro w' hSw; (try dsimp only at hSw); go_simp; with_reducible rfl); simp only [Act.put, pB, pC, pD]
              refine tkH (by assumption) 25 (oi := ?_) (v := ?_) ?_ ?_ ?_ ?_ ?_ ?_ ?_ ?_; rotate_left 2; (simp only [gA, gB, gC]; exact rfl); kernel_rfl; kernel_rfl; kernel_rfl; exact fun _ _ _ h => h; rfl; (intro w' hSw; (try dsimp only at hSw); go_simp; with_reducible rfl); simp only [Act.put, pB, pC, pD]
              refine tkH (by assumption) 26 (oi := ?_) (v := ?_) ?_ ?_ ?_ ?_ ?_ ?_ ?_ ?_; rotate_left 2; (simp only [gA, gB, gC]; exact rfl); kernel_rfl; kernel_rfl; kernel_rfl; exact fun _ _ _ h => h; rfl; (intro w' hSw; (try dsimp only at hSw); go_simp; with_reducible rfl); simp only [Act.put, pB, pC, pD]
              refine tkH (by assumption) 27 (oi := ?_) (v := ?_) ?_ ?_ ?_ ?_ ?_ ?_ ?_ ?_; rotate_left 2; (simp only [gA, gB, gC]; exact rfl); kernel_rfl; kernel_rfl; kernel_rfl; exact fun _ _ _ h => h; rfl; (intro w' hSw; (try dsimp only at hSw); go_simp; with_reducible rfl); simp only [Act.put, pB, pC, pD]
              refine tkH (by assumption) 28 (oi := ?_) (v := ?_) ?_ ?_ ?_ ?_ ?_ ?_ ?_ ?_; rotate_left 2; (simp only [gA, gB, gC]; exact rfl); kernel_rfl; kernel_rfl; kernel_rfl; exact fun _ _ _ h => h; rfl; (intro w' hSw; (try dsimp only at hSw); go_simp; with_reducible rfl); simp only [Act.put, pB, pC, pD]
              refine wpAnyH_done (by kernel_rfl) ?_ _
              have HB6 := Lib.hid (Below.next_drew HB.out)
              go_wp2_with (fail)
              go_ret
              exact ⟨by rw [R.out]; rfl, HB6.out⟩
        · have HS := Lib.hid (show ∀ j, j < t + 1 → 0 ≤ V j ∧ V j ≤ bndZ n M C j from fun j hj => by
            rcases Nat.lt_or_ge j t with h | h
            · exact HJ.out j h
            · obtain rfl : j = t := by omega
              omega)
          by_cases h0 : t = 0
          · subst h0
            rw [Nat.add_zero] at c0
            have hv0 : (V 0 != 0) = false := by rw [bndZ_0] at h2; simp; omega
            have HB6 := Lib.hid HB.out
            clear h2
            go_wp2_with (fail)
            refine wp_region_held_drew (S := (fun _ => True)) (by kernel_rfl) True.intro (fun hHeld => ?_)
            refine tkH (by assumption) 0 (oi := ?_) (v := ?_) ?_ ?_ ?_ ?_ ?_ ?_ ?_ ?_; rotate_left 2; (simp only [gA, gB, gC]; exact rfl); kernel_rfl; kernel_rfl; kernel_rfl; exact fun _ _ _ h => h; rfl; (intro w' hSw; (try dsimp only at hSw); go_simp; with_reducible rfl); simp only [Act.put, pB, pC, pD]
            refine tkH (by assumption) 1 (oi := ?_) (v := ?_) ?_ ?_ ?_ ?_ ?_ ?_ ?_ ?_; rotate_left 2; (simp only [gA, gB, gC]; exact rfl); kernel_rfl; kernel_rfl; kernel_rfl; exact fun _ _ _ h => h; rfl; (intro w' hSw; (try dsimp only at hSw); go_simp; with_reducible rfl); simp only [Act.put, pB, pC, pD]
            refine tkH (by assumption) 2 (oi := ?_) (v := ?_) ?_ ?_ ?_ ?_ ?_ ?_ ?_ ?_; rotate_left 2; (simp only [gA, gB, gC]; exact rfl); kernel_rfl; kernel_rfl; kernel_rfl; exact fun _ _ _ h => h; rfl; (intro w' hSw; (try dsimp only at hSw); go_simp; with_reducible rfl); simp only [Act.put, pB, pC, pD]
            refine skH (by assumption) 3 (oi := ?_) ?_ ?_ ?_ ?_ ?_ ?_ ?_; rotate_left; (simp only [gA, gB, gC]; exact rfl); kernel_rfl; kernel_rfl; kernel_rfl; exact fun _ _ _ h => h; rfl; simp only [Act.put, pB, pC, pD]
            refine skH (by assumption) 4 (oi := ?_) ?_ ?_ ?_ ?_ ?_ ?_ ?_; rotate_left; (simp only [gA, gB, gC]; exact rfl); kernel_rfl; kernel_rfl; kernel_rfl; exact fun _ _ _ h => h; rfl; simp only [Act.put, pB, pC, pD]
            refine skH (by assumption) 5 (oi := ?_) ?_ ?_ ?_ ?_ ?_ ?_ ?_; rotate_left; (simp only [gA, gB, gC]; exact rfl); kernel_rfl; kernel_rfl; kernel_rfl; exact fun _ _ _ h => h; rfl; simp only [Act.put, pB, pC, pD]
            refine skH (by assumption) 6 (oi := ?_) ?_ ?_ ?_ ?_ ?_ ?_ ?_; rotate_left; (simp only [gA, gB, gC]; exact rfl); kernel_rfl; kernel_rfl; kernel_rfl; exact fun _ _ _ h => h; rfl; simp only [Act.put, pB, pC, pD]
            refine tkH (by assumption) 7 (oi := ?_) (v := ?_) ?_ ?_ ?_ ?_ ?_ ?_ ?_ ?_; rotate_left 2; (simp only [gA, gB, gC]; exact rfl); kernel_rfl; kernel_rfl; kernel_rfl; exact fun _ _ _ h => h; rfl; (intro w' hSw; (try dsimp only at hSw); go_simp; with_reducible rfl); simp only [Act.put, pB, pC, pD]
            refine tkH (by assumption) 8 (oi := ?_) (v := ?_) ?_ ?_ ?_ ?_ ?_ ?_ ?_ ?_; rotate_left 2; (simp only [gA, gB, gC]; exact rfl); kernel_rfl; kernel_rfl; kernel_rfl; exact fun _ _ _ h => h; rfl; (intro w' hSw; (try dsimp only at hSw); go_simp; with_reducible rfl); simp only [Act.put, pB, pC, pD]
            refine skH (by assumption) 9 (oi := ?_) ?_ ?_ ?_ ?_ ?_ ?_ ?_; rotate_left; (simp only [gA, gB, gC]; exact rfl); kernel_rfl; kernel_rfl; kernel_rfl; exact fun _ _ _ h => h; rfl; simp only [Act.put, pB, pC, pD]
            refine skH (by assumption) 10 (oi := ?_) ?_ ?_ ?_ ?_ ?_ ?_ ?_; rotate_left; (simp only [gA, gB, gC]; exact rfl); kernel_rfl; kernel_rfl; kernel_rfl; exact fun _ _ _ h => h; rfl; simp only [Act.put, pB, pC, pD]
            refine skH (by assumption) 11 (oi := ?_) ?_ ?_ ?_ ?_ ?_ ?_ ?_; rotate_left; (simp only [gA, gB, gC]; exact rfl); kernel_rfl; kernel_rfl; kernel_rfl; exact fun _ _ _ h => h; rfl; simp only [Act.put, pB, pC, pD]
            refine skH (by assumption) 12 (oi := ?_) ?_ ?_ ?_ ?_ ?_ ?_ ?_; rotate_left; (simp only [gA, gB, gC]; exact rfl); kernel_rfl; kernel_rfl; kernel_rfl; exact fun _ _ _ h => h; rfl; simp only [Act.put, pB, pC, pD]
            refine skH (by assumption) 13 (oi := ?_) ?_ ?_ ?_ ?_ ?_ ?_ ?_; rotate_left; (simp only [gA, gB, gC]; exact rfl); kernel_rfl; kernel_rfl; kernel_rfl; exact fun _ _ _ h => h; rfl; simp only [Act.put, pB, pC, pD]
            refine skH (by assumption) 14 (oi := ?_) ?_ ?_ ?_ ?_ ?_ ?_ ?_; rotate_left; (simp only [gA, gB, gC]; exact rfl); kernel_rfl; kernel_rfl; kernel_rfl; exact fun _ _ _ h => h; rfl; simp only [Act.put, pB, pC, pD]
            refine skH (by assumption) 15 (oi := ?_) ?_ ?_ ?_ ?_ ?_ ?_ ?_; rotate_left; (simp only [gA, gB, gC]; exact rfl); kernel_rfl; kernel_rfl; kernel_rfl; exact fun _ _ _ h => h; rfl; simp only [Act.put, pB, pC, pD]
            refine skH (by assumption) 16 (oi := ?_) ?_ ?_ ?_ ?_ ?_ ?_ ?_; rotate_left; (simp only [gA, gB, gC]; exact rfl); kernel_rfl; kernel_rfl; kernel_rfl; exact fun _ _ _ h => h; rfl; simp only [Act.put, pB, pC, pD]
            refine skH (by assumption) 17 (oi := ?_) ?_ ?_ ?_ ?_ ?_ ?_ ?_; rotate_left; (simp only [gA, gB, gC]; exact rfl); kernel_rfl; kernel_rfl; kernel_rfl; exact fun _ _ _ h => h; rfl; simp only [Act.put, pB, pC, pD]
            refine skH (by assumption) 18 (oi := ?_) ?_ ?_ ?_ ?_ ?_ ?_ ?_; rotate_left; (simp only [gA, gB, gC]; exact rfl); kernel_rfl; kernel_rfl; kernel_rfl; exact fun _ _ _ h => h; rfl; simp only [Act.put, pB, pC, pD]
            refine skH (by assumption) 19 (oi := ?_) ?_ ?_ ?_ ?_ ?_ ?_ ?_; rotate_left; (simp only [gA, gB, gC]; exact rfl); kernel_rfl; kernel_rfl; kernel_rfl; exact fun _ _ _ h => h; rfl; simp only [Act.put, pB, pC, pD]
            refine skH (by assumption) 20 (oi := ?_) ?_ ?_ ?_ ?_ ?_ ?_ ?_; rotate_left; (simp only [gA, gB, gC]; exact rfl); kernel_rfl; kernel_rfl; kernel_rfl; exact fun _ _ _ h => h; rfl; simp only [Act.put, pB, pC, pD]
            refine skH (by assumption) 21 (oi := ?_) ?_ ?_ ?_ ?_ ?_ ?_ ?_; rotate_left; (simp only [gA, gB, gC]; exact rfl); kernel_rfl; kernel_rfl; kernel_rfl; exact fun _ _ _ h => h; rfl; simp only [Act.put, pB, pC, pD]
            refine skH (by assumption) 22 (oi := ?_) ?_ ?_ ?_ ?_ ?_ ?_ ?_; rotate_left; (simp only [gA, gB, gC]; exact rfl); kernel_rfl; kernel_rfl; kernel_rfl; exact fun _ _ _ h => h; rfl; simp only [Act.put, pB, pC, pD]
            refine skH (by assumption) 23 (oi := ?_) ?_ ?_ ?_ ?_ ?_ ?_ ?_; rotate_left; (simp only [gA, gB, gC]; exact rfl); kernel_rfl; kernel_rfl; kernel_rfl; exact fun _ _ _ h => h; rfl; simp only [Act.put, pB, pC, pD]
            refine skH (by assumption) 24 (oi := ?_) ?_ ?_ ?_ ?_ ?_ ?_ ?_; rotate_left; (simp only [gA, gB, gC]; exact rfl); kernel_rfl; kernel_rfl; kernel_rfl; exact fun _ _ _ h => h; rfl; simp only [Act.put, pB, pC, pD]
            refine skH (by assumption) 25 (oi := ?_) ?_ ?_ ?_ ?_ ?_ ?_ ?_; rotate_left; (simp only [gA, gB, gC]; exact rfl); kernel_rfl; kernel_rfl; kernel_rfl; exact fun _ _ _ h => h; rfl; simp only [Act.put, pB, pC, pD]
            refine skH (by assumption) 26 (oi := ?_) ?_ ?_ ?_ ?_ ?_ ?_ ?_; rotate_left; (simp only [gA, gB, gC]; exact rfl); kernel_rfl; kernel_rfl; kernel_rfl; exact fun _ _ _ h => h; rfl; simp only [Act.put, pB, pC, pD]
            refine skH (by assumption) 27 (oi := ?_) ?_ ?_ ?_ ?_ ?_ ?_ ?_; rotate_left; (simp only [gA, gB, gC]; exact rfl); kernel_rfl; kernel_rfl; kernel_rfl; exact fun _ _ _ h => h; rfl; simp only [Act.put, pB, pC, pD]
            refine tkH (by assumption) 28 (oi := ?_) (v := ?_) ?_ ?_ ?_ ?_ ?_ ?_ ?_ ?_; rotate_left 2; (simp only [gA, gB, gC]; exact rfl); kernel_rfl; kernel_rfl; kernel_rfl; exact fun _ _ _ h => h; rfl; (intro w' hSw; (try dsimp only at hSw); go_simp; with_reducible rfl); simp only [Act.put, pB, pC, pD]
            refine wpAnyH_done (by kernel_rfl) ?_ _
            go_wp2_with (fail)
            go_roundw
            case rel => exact ⟨0 + 1, by omega, by simp, HS.out, Below.next_drew HB.out⟩
            case measure => simp [intOf] <;> omega
          · by_cases hn0 : t = n
            · subst hn0
              have hv0 : (V t != 0) = false := by rw [bndZ_n] at h2; simp; omega
              have ht0 : ((t : Int) == 0) = false := by simp; omega
              have ht1 : 0 < t := by omega
              clear h2
              go_wp2_with (fail)
              refine wp_region_held_drew (S := (fun _ => True)) (by kernel_rfl) True.intro (fun hHeld => ?_)
              refine tkH (by assumption) 0 (oi := ?_) (v := ?_) ?_ ?_ ?_ ?_ ?_ ?_ ?_ ?_; rotate_left 2; (simp only [gA, gB, gC]; exact rfl); kernel_rfl; kernel_rfl; kernel_rfl; exact fun _ _ _ h => h; rfl; (intro w' hSw; (try dsimp only at hSw); go_simp; with_reducible rfl); simp only [Act.put, pB, pC, pD]
              refine tkH (by assumption) 1 (oi := ?_) (v := ?_) ?_ ?_ ?_ ?_ ?_ ?_ ?_ ?_; rotate_left 2; (simp only [gA, gB, gC]; exact rfl); kernel_rfl; kernel_rfl; kernel_rfl; exact fun _ _ _ h => h; rfl; (intro w' hSw; (try dsimp only at hSw); go_simp; with_reducible rfl); simp only [Act.put, pB, pC, pD]
              refine tkH (by assumption) 2 (oi := ?_) (v := ?_) ?_ ?_ ?_ ?_ ?_ ?_ ?_ ?_; rotate_left 2; (simp only [gA, gB, gC]; exact rfl); kernel_rfl; kernel_rfl; kernel_rfl; exact fun _ _ _ h => h; rfl; (intro w' hSw; (try dsimp only at hSw); go_simp; with_reducible rfl); simp only [Act.put, pB, pC, pD]
              refine tkH (by assumption) 3 (oi := ?_) (v := ?_) ?_ ?_ ?_ ?_ ?_ ?_ ?_ ?_; rotate_left 2; (simp only [gA, gB, gC]; exact rfl); kernel_rfl; kernel_rfl; kernel_rfl; exact fun _ _ _ h => h; rfl; (intro w' hSw; (try dsimp only at hSw); go_simp; with_reducible rfl); simp only [Act.put, pB, pC, pD]
              refine tkH (by assumption) 4 (oi := ?_) (v := ?_) ?_ ?_ ?_ ?_ ?_ ?_ ?_ ?_; rotate_left 2; (simp only [gA, gB, gC]; exact rfl); kernel_rfl; kernel_rfl; kernel_rfl; exact fun _ _ _ h => h; rfl; (intro w' hSw; (try dsimp only at hSw); go_simp; with_reducible rfl); simp only [Act.put, pB, pC, pD]
              refine tkH (by assumption) 5 (oi := ?_) (v := ?_) ?_ ?_ ?_ ?_ ?_ ?_ ?_ ?_; rotate_left 2; (simp only [gA, gB, gC]; exact rfl); kernel_rfl; kernel_rfl; kernel_rfl; exact fun _ _ _ h => h; rfl; (intro w' hSw; (try dsimp only at hSw); go_simp; with_reducible rfl); simp only [Act.put, pB, pC, pD]
              refine tkH (by assumption) 6 (oi := ?_) (v := ?_) ?_ ?_ ?_ ?_ ?_ ?_ ?_ ?_; rotate_left 2; (simp only [gA, gB, gC]; exact rfl); kernel_rfl; kernel_rfl; kernel_rfl; exact fun _ _ _ h => h; rfl; (intro w' hSw; (try dsimp only at hSw); go_simp; with_reducible rfl); simp only [Act.put, pB, pC, pD]
              refine tkH (by assumption) 7 (oi := ?_) (v := ?_) ?_ ?_ ?_ ?_ ?_ ?_ ?_ ?_; rotate_left 2; (simp only [gA, gB, gC]; exact rfl); kernel_rfl; kernel_rfl; kernel_rfl; exact fun _ _ _ h => h; rfl; (intro w' hSw; (try dsimp only at hSw); go_simp; with_reducible rfl); simp only [Act.put, pB, pC, pD]
              refine tkH (by assumption) 8 (oi := ?_) (v := ?_) ?_ ?_ ?_ ?_ ?_ ?_ ?_ ?_; rotate_left 2; (simp only [gA, gB, gC]; exact rfl); kernel_rfl; kernel_rfl; kernel_rfl; exact fun _ _ _ h => h; rfl; (intro w' hSw; (try dsimp only at hSw); go_simp; with_reducible rfl); simp only [Act.put, pB, pC, pD]
              refine skH (by assumption) 9 (oi := ?_) ?_ ?_ ?_ ?_ ?_ ?_ ?_; rotate_left; (simp only [gA, gB, gC]; exact rfl); kernel_rfl; kernel_rfl; kernel_rfl; exact fun _ _ _ h => h; rfl; simp only [Act.put, pB, pC, pD]
              refine skH (by assumption) 10 (oi := ?_) ?_ ?_ ?_ ?_ ?_ ?_ ?_; rotate_left; (simp only [gA, gB, gC]; exact rfl); kernel_rfl; kernel_rfl; kernel_rfl; exact fun _ _ _ h => h; rfl; simp only [Act.put, pB, pC, pD]
              refine skH (by assumption) 11 (oi := ?_) ?_ ?_ ?_ ?_ ?_ ?_ ?_; rotate_left; (simp only [gA, gB, gC]; exact rfl); kernel_rfl; kernel_rfl; kernel_rfl; exact fun _ _ _ h => h; rfl; simp only [Act.put, pB, pC, pD]
              refine skH (by assumption) 12 (oi := ?_) ?_ ?_ ?_ ?_ ?_ ?_ ?_; rotate_left; (simp only [gA, gB, gC]; exact rfl); kernel_rfl; kernel_rfl; kernel_rfl; exact fun _ _ _ h => h; rfl; simp only [Act.put, pB, pC, pD]
              refine skH (by assumption) 13 (oi := ?_) ?_ ?_ ?_ ?_ ?_ ?_ ?_; rotate_left; (simp only [gA, gB, gC]; exact rfl); kernel_rfl; kernel_rfl; kernel_rfl; exact fun _ _ _ h => h; rfl; simp only [Act.put, pB, pC, pD]
              refine skH (by assumption) 14 (oi := ?_) ?_ ?_ ?_ ?_ ?_ ?_ ?_; rotate_left; (simp only [gA, gB, gC]; exact rfl); kernel_rfl; kernel_rfl; kernel_rfl; exact fun _ _ _ h => h; rfl; simp only [Act.put, pB, pC, pD]
              refine skH (by assumption) 15 (oi := ?_) ?_ ?_ ?_ ?_ ?_ ?_ ?_; rotate_left; (simp only [gA, gB, gC]; exact rfl); kernel_rfl; kernel_rfl; kernel_rfl; exact fun _ _ _ h => h; rfl; simp only [Act.put, pB, pC, pD]
              refine skH (by assumption) 16 (oi := ?_) ?_ ?_ ?_ ?_ ?_ ?_ ?_; rotate_left; (simp only [gA, gB, gC]; exact rfl); kernel_rfl; kernel_rfl; kernel_rfl; exact fun _ _ _ h => h; rfl; simp only [Act.put, pB, pC, pD]
              refine skH (by assumption) 17 (oi := ?_) ?_ ?_ ?_ ?_ ?_ ?_ ?_; rotate_left; (simp only [gA, gB, gC]; exact rfl); kernel_rfl; kernel_rfl; kernel_rfl; exact fun _ _ _ h => h; rfl; simp only [Act.put, pB, pC, pD]
              refine skH (by assumption) 18 (oi := ?_) ?_ ?_ ?_ ?_ ?_ ?_ ?_; rotate_left; (simp only [gA, gB, gC]; exact rfl); kernel_rfl; kernel_rfl; kernel_rfl; exact fun _ _ _ h => h; rfl; simp only [Act.put, pB, pC, pD]
              refine skH (by assumption) 19 (oi := ?_) ?_ ?_ ?_ ?_ ?_ ?_ ?_; rotate_left; (simp only [gA, gB, gC]; exact rfl); kernel_rfl; kernel_rfl; kernel_rfl; exact fun _ _ _ h => h; rfl; simp only [Act.put, pB, pC, pD]
              refine skH (by assumption) 20 (oi := ?_) ?_ ?_ ?_ ?_ ?_ ?_ ?_; rotate_left; (simp only [gA, gB, gC]; exact rfl); kernel_rfl; kernel_rfl; kernel_rfl; exact fun _ _ _ h => h; rfl; simp only [Act.put, pB, pC, pD]
              refine skH (by assumption) 21 (oi := ?_) ?_ ?_ ?_ ?_ ?_ ?_ ?_; rotate_left; (simp only [gA, gB, gC]; exact rfl); kernel_rfl; kernel_rfl; kernel_rfl; exact fun _ _ _ h => h; rfl; simp only [Act.put, pB, pC, pD]
              refine skH (by assumption) 22 (oi := ?_) ?_ ?_ ?_ ?_ ?_ ?_ ?_; rotate_left; (simp only [gA, gB, gC]; exact rfl); kernel_rfl; kernel_rfl; kernel_rfl; exact fun _ _ _ h => h; rfl; simp only [Act.put, pB, pC, pD]
              refine skH (by assumption) 23 (oi := ?_) ?_ ?_ ?_ ?_ ?_ ?_ ?_; rotate_left; (simp only [gA, gB, gC]; exact rfl); kernel_rfl; kernel_rfl; kernel_rfl; exact fun _ _ _ h => h; rfl; simp only [Act.put, pB, pC, pD]
              refine skH (by assumption) 24 (oi := ?_) ?_ ?_ ?_ ?_ ?_ ?_ ?_; rotate_left; (simp only [gA, gB, gC]; exact rfl); kernel_rfl; kernel_rfl; kernel_rfl; exact fun _ _ _ h => h; rfl; simp only [Act.put, pB, pC, pD]
              refine skH (by assumption) 25 (oi := ?_) ?_ ?_ ?_ ?_ ?_ ?_ ?_; rotate_left; (simp only [gA, gB, gC]; exact rfl); kernel_rfl; kernel_rfl; kernel_rfl; exact fun _ _ _ h => h; rfl; simp only [Act.put, pB, pC, pD]
              refine skH (by assumption) 26 (oi := ?_) ?_ ?_ ?_ ?_ ?_ ?_ ?_; rotate_left; (simp only [gA, gB, gC]; exact rfl); kernel_rfl; kernel_rfl; kernel_rfl; exact fun _ _ _ h => h; rfl; simp only [Act.put, pB, pC, pD]
              refine skH (by assumption) 27 (oi := ?_) ?_ ?_ ?_ ?_ ?_ ?_ ?_; rotate_left; (simp only [gA, gB, gC]; exact rfl); kernel_rfl; kernel_rfl; kernel_rfl; exact fun _ _ _ h => h; rfl; simp only [Act.put, pB, pC, pD]
              refine tkH (by assumption) 28 (oi := ?_) (v := ?_) ?_ ?_ ?_ ?_ ?_ ?_ ?_ ?_; rotate_left 2; (simp only [gA, gB, gC]; exact rfl); kernel_rfl; kernel_rfl; kernel_rfl; exact fun _ _ _ h => h; rfl; (intro w' hSw; (try dsimp only at hSw); go_simp; with_reducible rfl); simp only [Act.put, pB, pC, pD]
              refine wpAnyH_done (by kernel_rfl) ?_ _
              go_wp2_with (fail)
              go_roundw
              case rel => exact ⟨t + 1, by omega, by go_num, HS.out, Below.next_drew HB.out⟩
              case measure => simp [intOf] <;> omega
            · have h2' : decide (bndZ n M C t < V t) = false := by simpa using h2
              obtain ⟨s, hs⟩ : ∃ s, t = s + 1 := ⟨t - 1, by omega⟩
              have ht0 : ((t : Int) == 0) = false := by simp; omega
              have htn : ((t : Int) == (n : Int)) = false := by simp; omega
              have ht1 : 0 < t := by omega
              have ht2 : t < n := by omega
              have hw1 : IntKind.i64.wrap ((t : Int) - 1) = (s : Int) := by rw [i64w (by omega)]; omega
              have hsm : s < m := by omega
              have hsn : s < n := by omega
              have htn2 : t < n := by omega
              have hmin : min (C s) (min (M s) (M t)) = bndZ n M C t := by rw [hs, bndZ_mid (by omega), Int.min_assoc]
              obtain ⟨bc, oc, rfl, hbc, hdc⟩ : ∃ b off, ac = some ⟨b, off, none⟩ ∧ b < w.heap.size ∧ ∀ i, i < m → w.cell? ⟨b, off + i, none⟩ = some (.int .i64 (C i)) := by
                rcases HC.out with h | h
                · omega
                · exact h
              have d0 := cellk HB.out hbc (hdc s hsm)
              have d1 := cellk HB.out hb (HD.out s hsn).2
              have d2 := cellk HB.out hb (HD.out t htn2).2
              clear hs hdc
              go_wp2_with (fail)
              refine wp_region_held_drew (S := (fun w' => w'.cell? ⟨bc, oc + s, none⟩ = some (.int .i64 (C s)) ∧ w'.cell? ⟨b, off + s * 2 + 1, none⟩ = some (.int .i64 (M s)) ∧ w'.cell? ⟨b, off + t * 2 + 1, none⟩ = some (.int .i64 (M t)))) (by kernel_rfl) ⟨d0, d1, d2⟩ (fun hHeld => ?_)
              refine tkH (by assumption) 0 (oi := ?_) (v := ?_) ?_ ?_ ?_ ?_ ?_ ?_ ?_ ?_; rotate_left 2; (simp only [gA, gB, gC]; exact rfl); kernel_rfl; kernel_rfl; kernel_rfl; exact fun _ _ _ h => h; rfl; (intro w' hSw; (try dsimp only at hSw); go_simp; with_reducible rfl); simp only [Act.put, pB, pC, pD]
              refine tkH (by assumption) 1 (oi := ?_) (v := ?_) ?_ ?_ ?_ ?_ ?_ ?_ ?_ ?_; rotate_left 2; (simp only [gA, gB, gC]; exact rfl); kernel_rfl; kernel_rfl; kernel_rfl; exact fun _ _ _ h => h; rfl; (intro w' hSw; (try dsimp only at hSw); go_simp; with_reducible rfl); simp only [Act.put, pB, pC, pD]
              refine tkH (by assumption) 2 (oi := ?_) (v := ?_) ?_ ?_ ?_ ?_ ?_ ?_ ?_ ?_; rotate_left 2; (simp only [gA, gB, gC]; exact rfl); kernel_rfl; kernel_rfl; kernel_rfl; exact fun _ _ _ h => h; rfl; (intro w' hSw; (try dsimp only at hSw); go_simp; with_reducible rfl); simp only [Act.put, pB, pC, pD]
              refine tkH (by assumption) 3 (oi := ?_) (v := ?_) ?_ ?_ ?_ ?_ ?_ ?_ ?_ ?_; rotate_left 2; (simp only [gA, gB, gC]; exact rfl); kernel_rfl; kernel_rfl; kernel_rfl; exact fun _ _ _ h => h; rfl; (intro w' hSw; (try dsimp only at hSw); go_simp; with_reducible rfl); simp only [Act.put, pB, pC, pD]
              refine tkH (by assumption) 4 (oi := ?_) (v := ?_) ?_ ?_ ?_ ?_ ?_ ?_ ?_ ?_; rotate_left 2; (simp only [gA, gB, gC]; exact rfl); kernel_rfl; kernel_rfl; kernel_rfl; exact fun _ _ _ h => h; rfl; (intro w' hSw; (try dsimp only at hSw); go_simp; with_reducible rfl); simp only [Act.put, pB, pC, pD]
              refine tkH (by assumption) 5 (oi := ?_) (v := ?_) ?_ ?_ ?_ ?_ ?_ ?_ ?_ ?_; rotate_left 2; (simp only [gA, gB, gC]; exact rfl); kernel_rfl; kernel_rfl; kernel_rfl; exact fun _ _ _ h => h; rfl; (intro w' hSw; (try dsimp only at hSw); go_simp; with_reducible rfl); simp only [Act.put, pB, pC, pD]
              refine tkH (by assumption) 6 (oi := ?_) (v := ?_) ?_ ?_ ?_ ?_ ?_ ?_ ?_ ?_; rotate_left 2; (simp only [gA, gB, gC]; exact rfl); kernel_rfl; kernel_rfl; kernel_rfl; exact fun _ _ _ h => h; rfl; (intro w' hSw; (try dsimp only at hSw); go_simp; with_reducible rfl); simp only [Act.put, pB, pC, pD]
              refine tkH (by assumption) 7 (oi := ?_) (v := ?_) ?_ ?_ ?_ ?_ ?_ ?_ ?_ ?_; rotate_left 2; (simp only [gA, gB, gC]; exact rfl); kernel_rfl; kernel_rfl; kernel_rfl; exact fun _ _ _ h => h; rfl; (intro w' hSw; (try dsimp only at hSw); go_simp; with_reducible rfl); simp only [Act.put, pB, pC, pD]
              refine tkH (by assumption) 8 (oi := ?_) (v := ?_) ?_ ?_ ?_ ?_ ?_ ?_ ?_ ?_; rotate_left 2; (simp only [gA, gB, gC]; exact rfl); kernel_rfl; kernel_rfl; kernel_rfl; exact fun _ _ _ h => h; rfl; (intro w' hSw; (try dsimp only at hSw); go_simp; with_reducible rfl); simp only [Act.put, pB, pC, pD]
              refine tkH (by assumption) 9 (oi := ?_) (v := ?_) ?_ ?_ ?_ ?_ ?_ ?_ ?_ ?_; rotate_left 2; (simp only [gA, gB, gC]; exact rfl); kernel_rfl; kernel_rfl; kernel_rfl; exact fun _ _ _ h => h; rfl; (intro w' hSw; (try dsimp only at hSw); go_simp; with_reducible rfl); simp only [Act.put, pB, pC, pD]
              refine tkH (by assumption) 10 (oi := ?_) (v := ?_) ?_ ?_ ?_ ?_ ?_ ?_ ?_ ?_; rotate_left 2; (simp only [gA, gB, gC]; exact rfl); kernel_rfl; kernel_rfl; kernel_rfl; exact fun _ _ _ h => h; rfl; (intro w' hSw; (try dsimp only at hSw); go_simp; with_reducible rfl); simp only [Act.put, pB, pC, pD]
              refine tkH (by assumption) 11 (oi := ?_) (v := ?_) ?_ ?_ ?_ ?_ ?_ ?_ ?_ ?_; rotate_left 2; (simp only [gA, gB, gC]; exact rfl); kernel_rfl; kernel_rfl; kernel_rfl; exact fun _ _ _ h => h; rfl; (intro w' hSw; (try dsimp only at hSw); go_simp; with_reducible rfl); simp only [Act.put, pB, pC, pD]
              refine tkH (by assumption) 12 (oi := ?_) (v := ?_) ?_ ?_ ?_ ?_ ?_ ?_ ?_ ?_; rotate_left 2; (simp only [gA, gB, gC]; exact rfl); kernel_rfl; kernel_rfl; kernel_rfl; exact fun _ _ _ h => h; rfl; (intro w' hSw; (try dsimp only at hSw); go_simp; with_reducible rfl); simp only [Act.put, pB, pC, pD]
              refine tkH (by assumption) 13 (oi := ?_) (v := ?_) ?_ ?_ ?_ ?_ ?_ ?_ ?_ ?_; rotate_left 2; (simp only [gA, gB, gC]; exact rfl); kernel_rfl; kernel_rfl; kernel_rfl; exact fun _ _ _ h => h; rfl; (intro w' hSw; (try dsimp only at hSw); go_simp; with_reducible rfl); simp only [Act.put, pB, pC, pD]
              refine tkH (by assumption) 14 (oi := ?_) (v := ?_) ?_ ?_ ?_ ?_ ?_ ?_ ?_ ?_; rotate_left 2; (simp only [gA, gB, gC]; exact rfl); kernel_rfl; kernel_rfl; kernel_rfl; exact fun _ _ _ h => h; rfl; (intro w' hSw; (try dsimp only at hSw); go_simp; with_reducible rfl); simp only [Act.put, pB, pC, pD]
              refine tkH (by assumption) 15 (oi := ?_) (v := ?_) ?_ ?_ ?_ ?_ ?_ ?_ ?_ ?_; rotate_left 2; (simp only [gA, gB, gC]; exact rfl); kernel_rfl; kernel_rfl; kernel_rfl; exact fun _ _ _ h => h; rfl; (intro w' hSw; (try dsimp only at hSw); go_simp; with_reducible rfl); simp only [Act.put, pB, pC, pD]
              refine tkH (by assumption) 16 (oi := ?_) (v := ?_) ?_ ?_ ?_ ?_ ?_ ?_ ?_ ?_; rotate_left 2; (simp only [gA, gB, gC]; exact rfl); kernel_rfl; kernel_rfl; kernel_rfl; exact fun _ _ _ h => h; rfl; (intro w' hSw; (try dsimp only at hSw); go_simp; with_reducible rfl); simp only [Act.put, pB, pC, pD]
              refine tkH (by assumption) 17 (oi := ?_) (v := ?_) ?_ ?_ ?_ ?_ ?_ ?_ ?_ ?_; rotate_left 2; (simp only [gA, gB, gC]; exact rfl); kernel_rfl; kernel_rfl; kernel_rfl; exact fun _ _ _ h => h; rfl; (intro w' hSw; (try dsimp only at hSw); go_simp; with_reducible rfl); simp only [Act.put, pB, pC, pD]
              refine tkH (by assumption) 18 (oi := ?_) (v := ?_) ?_ ?_ ?_ ?_ ?_ ?_ ?_ ?_; rotate_left 2; (simp only [gA, gB, gC]; exact rfl); kernel_rfl; kernel_rfl; kernel_rfl; exact fun _ _ _ h => h; rfl; (intro w' hSw; (try dsimp only at hSw); go_simp; with_reducible rfl); simp only [Act.put, pB, pC, pD]
              refine tkH (by assumption) 19 (oi := ?_) (v := ?_) ?_ ?_ ?_ ?_ ?_ ?_ ?_ ?_; rotate_left 2; (simp only [gA, gB, gC]; exact rfl); kernel_rfl; kernel_rfl; kernel_rfl; exact fun _ _ _ h => h; rfl; (intro w' hSw; (try dsimp only at hSw); go_simp; with_reducible rfl); simp only [Act.put, pB, pC, pD]
              refine tkH (by assumption) 20 (oi := ?_) (v := ?_) ?_ ?_ ?_ ?_ ?_ ?_ ?_ ?_; rotate_left 2; (simp only [gA, gB, gC]; exact rfl); kernel_rfl; kernel_rfl; kernel_rfl; exact fun _ _ _ h => h; rfl; (intro w' hSw; (try dsimp only at hSw); go_simp; with_reducible rfl); simp only [Act.put, pB, pC, pD]
              refine tkH (by assumption) 21 (oi := ?_) (v := ?_) ?_ ?_ ?_ ?_ ?_ ?_ ?_ ?_; rotate_left 2; (simp only [gA, gB, gC]; exact rfl); kernel_rfl; kernel_rfl; kernel_rfl; exact fun _ _ _ h => h; rfl; (intro w' hSw; (try dsimp only at hSw); go_simp; with_reducible rfl); simp only [Act.put, pB, pC, pD]
              refine tkH (by assumption) 22 (oi := ?_) (v := ?_) ?_ ?_ ?_ ?_ ?_ ?_ ?_ ?_; rotate_left 2; (simp only [gA, gB, gC]; exact rfl); kernel_rfl; kernel_rfl; kernel_rfl; exact fun _ _ _ h => h; rfl; (intro w' hSw; (try dsimp only at hSw); go_simp; with_reducible rfl); simp only [Act.put, pB, pC, pD]
              refine tkH (by assumption) 23 (oi := ?_) (v := ?_) ?_ ?_ ?_ ?_ ?_ ?_ ?_ ?_; rotate_left 2; (simp only [gA, gB, gC]; exact rfl); kernel_rfl; kernel_rfl; kernel_rfl; exact fun _ _ _ h => h; rfl; (intro w' hSw; (try dsimp only at hSw); go_simp; with_reducible rfl); simp only [Act.put, pB, pC, pD]
              refine tkH (by assumption) 24 (oi := ?_) (v := ?_) ?_ ?_ ?_ ?_ ?_ ?_ ?_ ?_; rotate_left 2; (simp only [gA, gB, gC]; exact rfl); kernel_rfl; kernel_rfl; kernel_rfl; exact fun _ _ _ h => h; rfl; (intro w' hSw; (try dsimp only at hSw); go_simp; with_reducible rfl); simp only [Act.put, pB, pC, pD]
              refine tkH (by assumption) 25 (oi := ?_) (v := ?_) ?_ ?_ ?_ ?_ ?_ ?_ ?_ ?_; rotate_left 2; (simp only [gA, gB, gC]; exact rfl); kernel_rfl; kernel_rfl; kernel_rfl; exact fun _ _ _ h => h; rfl; (intro w' hSw; (try dsimp only at hSw); go_simp; with_reducible rfl); simp only [Act.put, pB, pC, pD]
              refine tkH (by assumption) 26 (oi := ?_) (v := ?_) ?_ ?_ ?_ ?_ ?_ ?_ ?_ ?_; rotate_left 2; (simp only [gA, gB, gC]; exact rfl); kernel_rfl; kernel_rfl; kernel_rfl; exact fun _ _ _ h => h; rfl; (intro w' hSw; (try dsimp only at hSw); go_simp; with_reducible rfl); simp only [Act.put, pB, pC, pD]
              refine tkH (by assumption) 27 (oi := ?_) (v := ?_) ?_ ?_ ?_ ?_ ?_ ?_ ?_ ?_; rotate_left 2; (simp only [gA, gB, gC]; exact rfl); kernel_rfl; kernel_rfl; kernel_rfl; exact fun _ _ _ h => h; rfl; (intro w' hSw; (try dsimp only at hSw); go_simp; with_reducible rfl); simp only [Act.put, pB, pC, pD]
              refine tkH (by assumption) 28 (oi := ?_) (v := ?_) ?_ ?_ ?_ ?_ ?_ ?_ ?_ ?_; rotate_left 2; (simp only [gA, gB, gC]; exact rfl); kernel_rfl; kernel_rfl; kernel_rfl; exact fun _ _ _ h => h; rfl; (intro w' hSw; (try dsimp only at hSw); go_simp; with_reducible rfl); simp only [Act.put, pB, pC, pD]
              refine wpAnyH_done (by kernel_rfl) ?_ _
              have HB6 := Lib.hid (Below.next_drew HB.out)
              go_wp2_with (fail)
              go_roundw
              case rel => exact ⟨t + 1, by omega, by go_num, HS.out, HB6.out⟩
              case measure => simp [intOf] <;> omega
    · obtain rfl : t = n + 1 := by omega
      have hz : ((n + 1 : Nat) : Int) = (n : Int) + 1 := by omega
      rw [hz]
      clear hz hsz
      have B2 := Lib.hid HB.out
      clear HB
      go_wp2_with (fail)
      generalize wr = w2 at *
      go_loopw [68] (fun i wr => ∃ t : Nat, t ≤ n ∧ i = .int .i64 t ∧ (∀ j, j < t → jnOk (V j) (V (j + 1)) (gainZ c (L j)) = true) ∧ Below w.heap.size w wr) (fun i _ => n - (intOf i).toNat)
      case atStart => exact ⟨0, by omega, rfl, fun j hj => by omega, B2.out⟩
      case round =>
        clear B2
        obtain ⟨t, ht, rfl, hj, hbel⟩ := hrel
        have HN := Lib.hid hj
        have HB := Lib.hid hbel
        have hsz := hbel.size
        clear hj hbel
        by_cases hlt : t < n
        · have l0 := cellk HB.out hb (HD.out t hlt).1
          have l1 := cellk HB.out hb (HD.out t hlt).2
          have v0 := cellk HB.out hbv (HV.out t (by omega))
          have v1 := cellk HB.out hbv (HV.out (t + 1) (by omega))
          have hbw : b < wr.heap.size := by omega
          have hbvw : bv < wr.heap.size := by omega
          have OL := OK.out.lg t hlt
          have hj0 := HJ.out t (by omega)
          have hj1 := HJ.out (t + 1) (by omega)
          have k0 := OK.out.bnd t (by omega)
          have k1 := OK.out.bnd (t + 1) (by omega)
          have s0 := bnd_sq (o := V t) (by omega) (by omega)
          have s1 := bnd_sq (o := V (t + 1)) (by omega) (by omega)
          have q0 : IntKind.i64.wrap (V t * V t) = V t * V t := i64w (by omega)
          have q1 : IntKind.i64.wrap (V (t + 1) * V (t + 1)) = V (t + 1) * V (t + 1) := i64w (by omega)
          have q2 : IntKind.i64.wrap (V t * V t - V (t + 1) * V (t + 1)) = V t * V t - V (t + 1) * V (t + 1) := i64w (by omega)
          have SB := Lib.hid (show -1000000000000000000 ≤ V t * V t - V (t + 1) * V (t + 1) ∧ V t * V t - V (t + 1) * V (t + 1) ≤ 1000000000000000000 by omega)
          have hgn := gainZ_bnd OK.out.ch ⟨OL.1, OL.2.1⟩
          have hch := OK.out.ch
          have e1' : IntKind.i64.wrap (2 * c) = 2 * c := i64w (by omega)
          have e2' : IntKind.i64.wrap (2 * c * L t) = gainZ c (L t) := i64w (show -9000000000000000000 ≤ gainZ c (L t) ∧ gainZ c (L t) ≤ 9000000000000000000 by omega)
          have hw1 : IntKind.i64.wrap ((t : Int) + 1) = (t : Int) + 1 := i64w (by omega)
          have ht1 : (t : Int) < (n : Int) + 1 := by omega
          have ht3 : (0 : Int) ≤ (t : Int) + 1 := by omega
          have ht4 : (t : Int) + 1 < (n : Int) + 1 := by omega
          have hb9 : Below wr.heap.size wr (wr.alloc (.cells #[.int .i64 (L t), .int .i64 (M t)] 49)) := (Below.refl _ _).alloc (Nat.le_refl _) _
          have hq9 := heap_alloc_new wr (.cells #[.int .i64 (L t), .int .i64 (M t)] 49)
          have k90 := cell_of hq9 (i := 0) rfl
          have e0 := cellk hb9 hbvw v0
          have e1 := cellk hb9 hbvw v1
          have B3 := Lib.hid (HB.out.trans (hb9.mono hsz))
          clear hb9 hq9 OL hj0 hj1 k0 k1 s0 s1 hgn hch
          go_wp2_with (fail)
          generalize (wr.alloc (.cells #[.int .i64 (L t), .int .i64 (M t)] 49)) = W0 at *
          obtain ⟨q9, hq⟩ : ∃ q, q = wr.heap.size := ⟨_, rfl⟩
          rw [← hq] at k90 ⊢
          clear hq l0 l1 v0 v1
          have HTN := Lib.hid hlt
          refine wp_region_held_drew (S := (fun w' => w'.cell? ⟨bv, ov + t, none⟩ = some (.int .i64 (V t)) ∧ w'.cell? ⟨bv, ov + (t + 1), none⟩ = some (.int .i64 (V (t + 1))) ∧ w'.cell? ⟨q9, 0, none⟩ = some (.int .i64 (L t)))) (by kernel_rfl) ⟨e0, e1, k90⟩ (fun hHeld => ?_)
          refine tkH (by assumption) 0 (oi := ?_) (v := ?_) ?_ ?_ ?_ ?_ ?_ ?_ ?_ ?_; rotate_left 2; (simp only [gA, gB, gC]; exact rfl); kernel_rfl; kernel_rfl; kernel_rfl; exact fun _ _ _ h => h; rfl; (intro w' hSw; (try dsimp only at hSw); go_simp; with_reducible rfl); simp only [Act.put, pB, pC, pD]
          refine tkH (by assumption) 1 (oi := ?_) (v := ?_) ?_ ?_ ?_ ?_ ?_ ?_ ?_ ?_; rotate_left 2; (simp only [gA, gB, gC]; exact rfl); kernel_rfl; kernel_rfl; kernel_rfl; exact fun _ _ _ h => h; rfl; (intro w' hSw; (try dsimp only at hSw); go_simp; with_reducible rfl); simp only [Act.put, pB, pC, pD]
          refine tkH (by assumption) 2 (oi := ?_) (v := ?_) ?_ ?_ ?_ ?_ ?_ ?_ ?_ ?_; rotate_left 2; (simp only [gA, gB, gC]; exact rfl); kernel_rfl; kernel_rfl; kernel_rfl; exact fun _ _ _ h => h; rfl; (intro w' hSw; (try dsimp only at hSw); go_simp; with_reducible rfl); simp only [Act.put, pB, pC, pD]
          refine tkH (by assumption) 3 (oi := ?_) (v := ?_) ?_ ?_ ?_ ?_ ?_ ?_ ?_ ?_; rotate_left 2; (simp only [gA, gB, gC]; exact rfl); kernel_rfl; kernel_rfl; kernel_rfl; exact fun _ _ _ h => h; rfl; (intro w' hSw; (try dsimp only at hSw); go_simp; with_reducible rfl); simp only [Act.put, pB, pC, pD]
          refine tkH (by assumption) 4 (oi := ?_) (v := ?_) ?_ ?_ ?_ ?_ ?_ ?_ ?_ ?_; rotate_left 2; (simp only [gA, gB, gC]; exact rfl); kernel_rfl; kernel_rfl; kernel_rfl; exact fun _ _ _ h => h; rfl; (intro w' hSw; (try dsimp only at hSw); go_simp; with_reducible rfl); simp only [Act.put, pB, pC, pD]
          refine tkH (by assumption) 5 (oi := ?_) (v := ?_) ?_ ?_ ?_ ?_ ?_ ?_ ?_ ?_; rotate_left 2; (simp only [gA, gB, gC]; exact rfl); kernel_rfl; kernel_rfl; kernel_rfl; exact fun _ _ _ h => h; rfl; (intro w' hSw; (try dsimp only at hSw); go_simp; with_reducible rfl); simp only [Act.put, pB, pC, pD]
          refine tkH (by assumption) 6 (oi := ?_) (v := ?_) ?_ ?_ ?_ ?_ ?_ ?_ ?_ ?_; rotate_left 2; (simp only [gA, gB, gC]; exact rfl); kernel_rfl; kernel_rfl; kernel_rfl; exact fun _ _ _ h => h; rfl; (intro w' hSw; (try dsimp only at hSw); go_simp; with_reducible rfl); simp only [Act.put, pB, pC, pD]
          refine tkH (by assumption) 7 (oi := ?_) (v := ?_) ?_ ?_ ?_ ?_ ?_ ?_ ?_ ?_; rotate_left 2; (simp only [gA, gB, gC]; exact rfl); kernel_rfl; kernel_rfl; kernel_rfl; exact fun _ _ _ h => h; rfl; (intro w' hSw; (try dsimp only at hSw); go_simp; with_reducible rfl); simp only [Act.put, pB, pC, pD]
          refine tkH (by assumption) 8 (oi := ?_) (v := ?_) ?_ ?_ ?_ ?_ ?_ ?_ ?_ ?_; rotate_left 2; (simp only [gA, gB, gC]; exact rfl); kernel_rfl; kernel_rfl; kernel_rfl; exact fun _ _ _ h => h; rfl; (intro w' hSw; (try dsimp only at hSw); go_simp; with_reducible rfl); simp only [Act.put, pB, pC, pD]
          refine tkH (by assumption) 9 (oi := ?_) (v := ?_) ?_ ?_ ?_ ?_ ?_ ?_ ?_ ?_; rotate_left 2; (simp only [gA, gB, gC]; exact rfl); kernel_rfl; kernel_rfl; kernel_rfl; exact fun _ _ _ h => h; rfl; (intro w' hSw; (try dsimp only at hSw); go_simp; with_reducible rfl); simp only [Act.put, pB, pC, pD]
          refine tkH (by assumption) 10 (oi := ?_) (v := ?_) ?_ ?_ ?_ ?_ ?_ ?_ ?_ ?_; rotate_left 2; (simp only [gA, gB, gC]; exact rfl); kernel_rfl; kernel_rfl; kernel_rfl; exact fun _ _ _ h => h; rfl; (intro w' hSw; (try dsimp only at hSw); go_simp; with_reducible rfl); simp only [Act.put, pB, pC, pD]
          refine tkH (by assumption) 11 (oi := ?_) (v := ?_) ?_ ?_ ?_ ?_ ?_ ?_ ?_ ?_; rotate_left 2; (simp only [gA, gB, gC]; exact rfl); kernel_rfl; kernel_rfl; kernel_rfl; exact fun _ _ _ h => h; rfl; (intro w' hSw; (try dsimp only at hSw); go_simp; with_reducible rfl); simp only [Act.put, pB, pC, pD]
          refine tkH (by assumption) 12 (oi := ?_) (v := ?_) ?_ ?_ ?_ ?_ ?_ ?_ ?_ ?_; rotate_left 2; (simp only [gA, gB, gC]; exact rfl); kernel_rfl; kernel_rfl; kernel_rfl; exact fun _ _ _ h => h; rfl; (intro w' hSw; (try dsimp only at hSw); go_simp; with_reducible rfl); simp only [Act.put, pB, pC, pD]
          refine tkH (by assumption) 13 (oi := ?_) (v := ?_) ?_ ?_ ?_ ?_ ?_ ?_ ?_ ?_; rotate_left 2; (simp only [gA, gB, gC]; exact rfl); kernel_rfl; kernel_rfl; kernel_rfl; exact fun _ _ _ h => h; rfl; (intro w' hSw; (try dsimp only at hSw); go_simp; with_reducible rfl); simp only [Act.put, pB, pC, pD]
          refine tkH (by assumption) 14 (oi := ?_) (v := ?_) ?_ ?_ ?_ ?_ ?_ ?_ ?_ ?_; rotate_left 2; (simp only [gA, gB, gC]; exact rfl); kernel_rfl; kernel_rfl; kernel_rfl; exact fun _ _ _ h => h; rfl; (intro w' hSw; (try dsimp only at hSw); go_simp; with_reducible rfl); simp only [Act.put, pB, pC, pD]
          refine tkH (by assumption) 15 (oi := ?_) (v := ?_) ?_ ?_ ?_ ?_ ?_ ?_ ?_ ?_; rotate_left 2; (simp only [gA, gB, gC]; exact rfl); kernel_rfl; kernel_rfl; kernel_rfl; exact fun _ _ _ h => h; rfl; (intro w' hSw; (try dsimp only at hSw); go_simp; with_reducible rfl); simp only [Act.put, pB, pC, pD]
          refine tkH (by assumption) 16 (oi := ?_) (v := ?_) ?_ ?_ ?_ ?_ ?_ ?_ ?_ ?_; rotate_left 2; (simp only [gA, gB, gC]; exact rfl); kernel_rfl; kernel_rfl; kernel_rfl; exact fun _ _ _ h => h; rfl; (intro w' hSw; (try dsimp only at hSw); go_simp; with_reducible rfl); simp only [Act.put, pB, pC, pD]
          refine tkH (by assumption) 17 (oi := ?_) (v := ?_) ?_ ?_ ?_ ?_ ?_ ?_ ?_ ?_; rotate_left 2; (simp only [gA, gB, gC]; exact rfl); kernel_rfl; kernel_rfl; kernel_rfl; exact fun _ _ _ h => h; rfl; (intro w' hSw; (try dsimp only at hSw); go_simp; with_reducible rfl); simp only [Act.put, pB, pC, pD]
          refine tkH (by assumption) 18 (oi := ?_) (v := ?_) ?_ ?_ ?_ ?_ ?_ ?_ ?_ ?_; rotate_left 2; (simp only [gA, gB, gC]; exact rfl); kernel_rfl; kernel_rfl; kernel_rfl; exact fun _ _ _ h => h; rfl; (intro w' hSw; (try dsimp only at hSw); go_simp; with_reducible rfl); simp only [Act.put, pB, pC, pD]
          refine tkH (by assumption) 19 (oi := ?_) (v := ?_) ?_ ?_ ?_ ?_ ?_ ?_ ?_ ?_; rotate_left 2; (simp only [gA, gB, gC]; exact rfl); kernel_rfl; kernel_rfl; kernel_rfl; exact fun _ _ _ h => h; rfl; (intro w' hSw; (try dsimp only at hSw); go_simp; with_reducible rfl); simp only [Act.put, pB, pC, pD]
          refine tkH (by assumption) 20 (oi := ?_) (v := ?_) ?_ ?_ ?_ ?_ ?_ ?_ ?_ ?_; rotate_left 2; (simp only [gA, gB, gC]; exact rfl); kernel_rfl; kernel_rfl; kernel_rfl; exact fun _ _ _ h => h; rfl; (intro w' hSw; (try dsimp only at hSw); go_simp; with_reducible rfl); simp only [Act.put, pB, pC, pD]
          refine tkH (by assumption) 22 (oi := ?_) (v := ?_) ?_ ?_ ?_ ?_ ?_ ?_ ?_ ?_; rotate_left 2; (simp only [gA, gB, gC]; exact rfl); kernel_rfl; kernel_rfl; kernel_rfl; exact fun _ _ _ h => h; rfl; (intro w' hSw; (try dsimp only at hSw); go_simp; with_reducible rfl); simp only [Act.put, pB, pC, pD]
          refine tkH (by assumption) 23 (oi := ?_) (v := ?_) ?_ ?_ ?_ ?_ ?_ ?_ ?_ ?_; rotate_left 2; (simp only [gA, gB, gC]; exact rfl); kernel_rfl; kernel_rfl; kernel_rfl; exact fun _ _ _ h => h; rfl; (intro w' hSw; (try dsimp only at hSw); go_simp; with_reducible rfl); simp only [Act.put, pB, pC, pD]
          refine tkH (by assumption) 24 (oi := ?_) (v := ?_) ?_ ?_ ?_ ?_ ?_ ?_ ?_ ?_; rotate_left 2; (simp only [gA, gB, gC]; exact rfl); kernel_rfl; kernel_rfl; kernel_rfl; exact fun _ _ _ h => h; rfl; (intro w' hSw; (try dsimp only at hSw); go_simp; with_reducible rfl); simp only [Act.put, pB, pC, pD]
          refine tkH (by assumption) 25 (oi := ?_) (v := ?_) ?_ ?_ ?_ ?_ ?_ ?_ ?_ ?_; rotate_left 2; (simp only [gA, gB, gC]; exact rfl); kernel_rfl; kernel_rfl; kernel_rfl; exact fun _ _ _ h => h; rfl; (intro w' hSw; (try dsimp only at hSw); go_simp; with_reducible rfl); simp only [Act.put, pB, pC, pD]
          refine tkH (by assumption) 26 (oi := ?_) (v := ?_) ?_ ?_ ?_ ?_ ?_ ?_ ?_ ?_; rotate_left 2; (simp only [gA, gB, gC]; exact rfl); kernel_rfl; kernel_rfl; kernel_rfl; exact fun _ _ _ h => h; rfl; (intro w' hSw; (try dsimp only at hSw); go_simp; with_reducible rfl); simp only [Act.put, pB, pC, pD]
          refine onH 21 (oi := ?_) (by kernel_rfl) ?_ ?_ (fun K hK => ?_); rotate_left; (simp only [gA, gB, gC]; exact rfl); rfl
          go_wp2_with (fail)
          refine (abs_any _ _ SB.out).mono ?_
          rintro e w5 ⟨rfl, rfl⟩
          refine hK.out _ _ hHeld (fun hHeldN => ?_)
          clear hK K hHeld
          have hHeld := hHeldN
          clear hHeldN
          try simp only [Act.put, pB, pC, pD]
          refine tkH (by assumption) 27 (oi := ?_) (v := ?_) ?_ ?_ ?_ ?_ ?_ ?_ ?_ ?_; rotate_left 2; (simp only [gA, gB, gC]; exact rfl); kernel_rfl; kernel_rfl; kernel_rfl; exact fun _ _ _ h => h; rfl; (intro w' hSw; (try dsimp only at hSw); go_simp; with_reducible rfl); simp only [Act.put, pB, pC, pD]
          refine wpAnyH_done (by kernel_rfl) ?_ _
          have B5 := Lib.hid (Below.next_drew B3.out)
          have HKEY := Lib.hid (show jnOk (V t) (V (t + 1)) (gainZ c (L t)) = !decide (gainZ c (L t) < absZ (V t * V t - V (t + 1) * V (t + 1))) by
            unfold jnOk absZ
            rw [← decide_not]
            exact decide_eq_decide.2 (by split <;> omega))
          by_cases hq : gainZ c (L t) < absZ (V t * V t - V (t + 1) * V (t + 1))
          · have R := Lib.hid (keptB_no2 (M := M) (C := C) HTN.out (HKEY.out.trans (by simp [hq])))
            go_wp2_with (fail)
            go_ret
            exact ⟨by rw [R.out]; rfl, B5.out⟩
          · have HS := Lib.hid (show ∀ j, j < t + 1 → jnOk (V j) (V (j + 1)) (gainZ c (L j)) = true from fun j hj => by
              rcases Nat.lt_or_ge j t with h | h
              · exact HN.out j h
              · obtain rfl : j = t := by omega
                exact HKEY.out.trans (by simpa using hq))
            go_wp2_with (fail)
            go_roundw
            case rel => exact ⟨t + 1, by omega, by go_num, HS.out, B5.out⟩
            case measure => simp [intOf] <;> omega
        · obtain rfl : n = t := by omega
          have R := Lib.hid (keptB_yes HJ.out HN.out)
          go_wp2_with (fail)
          go_ret
          exact ⟨by rw [R.out]; rfl, HB.out⟩
set_option maxRecDepth 100000 in
set_option maxHeartbeats 8000000 in
theorem slowOf_any (a : Option Addr) (n cl : Nat) (L M : Nat → Int) (ac : Option Addr) (m cc : Nat) (C : Nat → Int) (av : Option Addr) (cv : Nat) (V : Nat → Int) (c : Int) (w : World) (hn : n ≤ 100) (hp : LegsR w a n L M) (hc : IntsR w ac m C) (hv : IntsR w av (n + 1) V) (ok : MOk n L M m C c) :
    Calls Try.prog 16 #[.slice a n cl, .slice ac m cc, .slice av (n + 1) cv, .int .i64 c] w fun e w' => ∃ ao q co, e = .returned (.slice ao q co) ∧ q = (slowL V (spZ n L M C c) (n + 1)).length ∧ w'.ownsRow w.heap.size 3 1 (.slice ao q co) q (iv (slowL V (spZ n L M C c) (n + 1))) ∧ Below w.heap.size w w' := by
  obtain ⟨i0, hi0, hz0, hz1, hz2⟩ := info_parts info_intV
  have HP := Lib.hid hp
  have HC := Lib.hid hc
  have OK := Lib.hid ok
  obtain ⟨bv, ov, rfl, hbv, hdv⟩ : ∃ b off, av = some ⟨b, off, none⟩ ∧ b < w.heap.size ∧ ∀ i, i < n + 1 → w.cell? ⟨b, off + i, none⟩ = some (.int .i64 (V i)) := by
    rcases hv with h | h
    · omega
    · exact h
  have HV := Lib.hid hdv
  clear hdv hp hc ok hv
  go_enter Try.func16, Try.ntmps16
  go_wp2_with (fail)
  refine (speedsOf_any a n cl L M ac m cc C c _ hn HP.out HC.out OK.out).mono ?_
  rintro e w3 ⟨g, rfl, hown3, hb3⟩
  have HBL := Lib.hid (blk_of_own hown3)
  have hg0 := (hown3.lt _ rfl).1
  have B2 := Lib.hid hb3
  clear hb3 hown3
  go_wp2_with (fail)

  go_loopw [9, 17] (fun sv i wr => ∃ (t q : Nat) (ao : Option Addr) (co : Nat), t ≤ n + 1 ∧ i = .int .i64 t ∧ sv = .slice ao q co ∧ q = (slowL V (spZ n L M C c) t).length ∧ wr.ownsRow w.heap.size 3 1 (.slice ao q co) q (iv (slowL V (spZ n L M C c) t)) ∧ BlkI wr g (n + 1) (spZ n L M C c) ∧ Below w.heap.size w wr ∧ (∀ x, ao = some x → x.block ≠ g)) (fun _ i _ => n + 1 - (intOf i).toNat)
  case atStart => exact ⟨0, 0, none, 0, by omega, rfl, rfl, rfl, World.ownsRow_nil _ _ _ _, HBL.out, B2.out, fun x h => by cases h⟩
  case round =>
    clear HBL B2
    obtain ⟨t, q, ao, co, ht, rfl, rfl, hq, hown, hbl, hbel, hne⟩ := hrel
    have HO := Lib.hid hown
    have HBL := Lib.hid hbl
    have HB := Lib.hid hbel
    have HQ := Lib.hid hq
    have HNE := Lib.hid hne
    have hql := slowL_len V (spZ n L M C c) t
    have hqt : q ≤ t := by omega
    clear hown hbl hbel hq hql hne
    by_cases hlt : t < n + 1
    · have v0 := cellk HB.out hbv (HV.out t hlt)
      have s0 := HBL.out.cell hlt
      have hbw : bv < wr.heap.size := Nat.lt_of_lt_of_le hbv HB.out.size
      have hgw := HBL.out.lt
      have hlt' : (t : Int) < (n : Int) + 1 := by omega
      obtain ⟨x, hx⟩ : ∃ x, V t = x := ⟨_, rfl⟩
      obtain ⟨y, hy⟩ : ∃ y, spZ n L M C c t = y := ⟨_, rfl⟩
      rw [hx] at v0
      rw [hy] at s0
      have HX := Lib.hid hx
      have HY := Lib.hid hy
      clear hx hy
      by_cases h1 : x < y
      · have HS := Lib.hid (show slowL V (spZ n L M C c) (t + 1) = slowL V (spZ n L M C c) t ++ [(t : Int)] by simp only [slowL]; rw [HX.out, HY.out, if_pos h1])
        go_wp2_with (at_builtin; refine wpList_append_lies _ rfl _ _ 22 rfl w.heap.size 3 i0 (.int .i64 0) 1 8 Try.underlying22 hi0 hz0 hz1 hz2 rfl (by decide) _ _ _ rfl (ownsRow_below HO.out ((Below.refl _ wr).alloc (Nat.le_refl _) _)) ⟨wr.heap.size, 0, none⟩ 1 1 [.int .i64 (t : Int)] rfl rfl (World.news_of_block (cs := #[.int .i64 (t : Int)]) (t := 3) (fr := (0, 0)) (heap_alloc_new wr (.cells #[.int .i64 (t : Int)] 3))) (by simp [Value.oneCell']) (by omega) (by unfold maxLen; omega) (by omega) (by have := HB.out.size; simp; omega) (wr.heap.size + 1) (by simp) ?_; intro g5 c5 w5 hown hgrow hor hlt5; have HOR := Lib.hid hor; clear hor)
        have B5 : Below w.heap.size w w5 := Below.grown (HB.out.alloc HB.out.size (.cells #[.int .i64 (t : Int)] 3)) hgrow (by have := HB.out.size; simp; omega) (fun b hb => (HO.out.lt b hb).1)
        have hbA : Below wr.heap.size wr (wr.alloc (.cells #[.int .i64 (t : Int)] 3)) := (Below.refl _ _).alloc (Nat.le_refl _) _
        have hblA := HBL.out.kept hbA
        have hgo : (Value.slice ao q co).ownBlock ≠ some g := fun e => by
          cases ao with
          | none => cases e
          | some x => simp only [Value.ownBlock, Option.some.injEq] at e; exact HNE.out x rfl e
        have hbl5 : BlkI w5 g (n + 1) (spZ n L M C c) := by
          obtain ⟨cur, hc1, hc2⟩ := hblA
          exact ⟨cur, (hgrow.block g (lt_of_heap hc1) (fun e => hgo e.symm)).trans hc1, hc2⟩
        have HBL5 := Lib.hid hbl5
        have HB5 := Lib.hid B5
        have HO5 := Lib.hid (show w5.ownsRow w.heap.size 3 1 (.slice (some ⟨g5, 0, none⟩) (q + 1) c5) (q + 1) (iv (slowL V (spZ n L M C c) (t + 1))) by rw [HS.out]; simpa [iv] using hown)
        have hg5 : g5 ≠ g := (fun e => by rcases HOR.out with h | h; exact hgo (e ▸ h); omega)
        have HQ5 := Lib.hid (show q + 1 = (slowL V (spZ n L M C c) (t + 1)).length by rw [HS.out]; simp; exact HQ.out)
        clear hbl5 hblA hbA B5 hown hgrow
        go_wp2_with (fail)
        go_roundw
        case rel => exact ⟨t + 1, q + 1, _, c5, by omega, by go_num, rfl, HQ5.out, HO5.out, HBL5.out, HB5.out, fun x h => by cases h; exact hg5⟩
        case measure => simp [intOf]; omega
      · have HS := Lib.hid (show slowL V (spZ n L M C c) (t + 1) = slowL V (spZ n L M C c) t by simp only [slowL]; rw [HX.out, HY.out, if_neg h1])
        go_wp2_with (fail)
        go_roundw
        case rel => exact ⟨t + 1, q, ao, co, by omega, by go_num, rfl, by rw [HS.out]; exact HQ.out, by rw [HS.out]; exact HO.out, HBL.out, HB.out, HNE.out⟩
        case measure => simp [intOf]; omega
    · obtain rfl : t = n + 1 := by omega
      go_wp2_with (fail)
      go_ret
      exact ⟨ao, q, co, rfl, HQ.out, HO.out, HB.out⟩
end Go.Proofs.Yteodekmncgmjeaa

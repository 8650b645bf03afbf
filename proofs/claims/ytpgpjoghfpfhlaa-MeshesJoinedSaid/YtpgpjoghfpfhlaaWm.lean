/- The reference's welded mesh. -/
import Derived.Test.YtpgpjoghfpfhlaaUs
import Derived.Test.YtpgpjoghfpfhlaaWe
import Derived.Deep.RegionHeld3
set_option linter.unusedSimpArgs false
set_option linter.unusedVariables false
namespace Go.Proofs.Ytpgpjoghfpfhlaa
open Go.RowKit

theorem ixV_min {V : Nat → V3} {v : V3} {n j : Nat} (hj : j < n) (h : V j = v) : ixV V v n ≤ j := by
  induction n with
  | zero => omega
  | succ n ih =>
    simp only [ixV]
    split
    · rename_i h1
      by_cases e : j = n
      · omega
      · exact ih (by omega)
    · rename_i h1
      by_cases e : j = n
      · subst e; rw [if_pos (vEq_iff.2 h.symm)]; omega
      · exact absurd (ixV_lt (n := n) (by omega) h) h1
theorem ixV_before {V : Nat → V3} {v : V3} {n j : Nat} (hj : j < ixV V v n) : vEq v (V j) = false := by
  rcases h : vEq v (V j) with _ | _
  · rfl
  · have h1 := ixV_le V v n
    have h2 := ixV_min (V := V) (n := n) (j := j) (by omega) (vEq_iff.1 h).symm
    omega
set_option maxHeartbeats 2000000 in
theorem indexV_any (a : Option Addr) (n c : Nat) (V : Nat → V3) (p q r : Int) (w : World) (hn : n ≤ 1000000) (hc : Row3 w a n V) (i : Nat) (hi : i < n) (hno : ∀ j, j < i → vEq ⟨p, q, r⟩ (V j) = false) (hyes : vEq ⟨p, q, r⟩ (V i) = true) :
    Calls Try.prog 46 #[.slice a n c, .agg #[.int .i64 p, .int .i64 q, .int .i64 r]] w fun e w' => e = .returned (.int .i64 i) ∧ Below w.heap.size w w' := by
  rcases hc with h | ⟨b, off, rfl, hb, hc⟩
  · omega
  have HC := Lib.hid hc
  have HN := Lib.hid hno
  have HY := Lib.hid hyes
  clear hc hno hyes
  go_enter Try.func46, Try.ntmps46
  go_wp2
  go_loopw [8] (fun k wr => ∃ j : Nat, j ≤ i ∧ k = .int .i64 j ∧ Below w.heap.size w wr ∧ wr.heap[w.heap.size]? = some (.cells #[.int .i64 p, .int .i64 q, .int .i64 r] 47 (0, 0))) (fun k _ => n - (intOf k).toNat)
  case atStart => exact ⟨0, by omega, rfl, (by repeat (first | exact Below.refl _ _ | assumption | refine Below.drew ?_ | refine bdrewN ?_ _ | refine Below.setCell ?_ (by first | omega | (simp <;> omega)) _ | refine Below.alloc ?_ (by first | omega | (simp <;> omega)) _)), heap_alloc_new w _⟩
  case round =>
    obtain ⟨j, hj, rfl, hbel, hbx⟩ := hrel
    have hsz := hbel.size
    have hlx := lt_of_heap hbx
    have cp : wr.cell? ⟨w.heap.size, 0, none⟩ = some (.int .i64 p) := cell_of hbx rfl
    have cq : wr.cell? ⟨w.heap.size, 1, none⟩ = some (.int .i64 q) := cell_of hbx rfl
    have cr : wr.cell? ⟨w.heap.size, 2, none⟩ = some (.int .i64 r) := cell_of hbx rfl
    have HX := Lib.hid hbx
    have HB := Lib.hid hbel
    obtain ⟨c0, c1, c2⟩ := (HC.out.kept hbel hb) j (by omega)
    have lb : b < wr.heap.size := by omega
    have hi0 : (0 : Int) ≤ (j : Int) := by omega
    have hi1 : (j : Int) < (n : Int) := by omega
    clear hbx hbel
    by_cases hji : j < i
    · have hne : tEq p q r (V j).x (V j).y (V j).z = false := HN.out j hji
      have hE := fun wx => eql_vec p q r (V j).x (V j).y (V j).z wx
      have hG := gd_vec
      have hjn : j < n := by omega
      go_wp2
      go_quiet (fail)
      go_wp2
      go_roundw
      case rel => exact ⟨j + 1, by omega, by go_num, bdrewN HB.out _, HX.out⟩
      case measure => simp [intOf]; omega
    · obtain rfl : j = i := by omega
      have hye : tEq p q r (V j).x (V j).y (V j).z = true := HY.out
      have hE := fun wx => eql_vec p q r (V j).x (V j).y (V j).z wx
      have hG := gd_vec
      clear hj hji
      go_wp2
      go_quiet (fail)
      clear c0 c1 c2 cp cq cr hE hG
      go_wp2
      go_ret
      exact ⟨rfl, bdrewN HB.out _⟩
set_option maxRecDepth 100000 in
set_option maxHeartbeats 4000000 in
theorem wm1_any (p nv cv i : Nat) (av : Option Addr) (V : Nat → V3) (w : World) (hp : w.cell? ⟨p, 0, none⟩ = some (.slice av nv cv)) (hl : p < w.heap.size) (hv : Row3 w av nv V) (hi : i < nv) (hn : nv ≤ 1000000) :
    Calls Try.prog 45 #[.int .i64 i, .pointer (some ⟨p, 0, none⟩)] w fun e w' => e = .returned (.int .i64 (ixV V (V i) nv : Int)) ∧ Below w.heap.size w w' := by
  have HV := Lib.hid hv
  rcases hv with h | ⟨b, off, rfl, hb, ht⟩
  · omega
  obtain ⟨c0, c1, c2⟩ := ht i hi
  have b1 : (i : Int) < (nv : Int) := by omega
  have b0 : (0 : Int) ≤ (i : Int) := by omega
  clear ht
  go_enter Try.func45, Try.ntmps45
  go_wp2_with (fail)
  go_region_held3 (fun w' => w'.cell? ⟨p, 0, none⟩ = some (.slice (some ⟨b, off, none⟩) nv cv) ∧ w'.cell? ⟨b, off + i * 3, none⟩ = some (.int .i64 (V i).x) ∧ w'.cell? ⟨b, off + i * 3 + 1, none⟩ = some (.int .i64 (V i).y) ∧ w'.cell? ⟨b, off + i * 3 + 2, none⟩ = some (.int .i64 (V i).z))
    (first
      | exact ⟨hp, c0, c1, c2⟩
      | assumption
      | exact ⟨cellk BB hl hp, cellk BB hb c0, cellk BB hb c1, cellk BB hb c2⟩
      | go_keep)
    (first
      | (go_at_call 46; refine (indexV_any _ nv cv V (V i).x (V i).y (V i).z _ hn (HV.out.kept (by repeat (first | exact Below.refl _ _ | refine Below.drew ?_))) (ixV V (V i) nv) (ixV_lt hi rfl) (fun j hj => ixV_before hj) (vEq_iff.2 (show (⟨(V i).x, (V i).y, (V i).z⟩ : V3) = V (ixV V (V i) nv) from (ixV_hit (V := V) (ixV_lt hi rfl)).symm))).mono ?_; rintro e w2 ⟨rfl, hb2⟩; have BB : Below w.heap.size w w2 := Below.trans (by repeat (first | exact Below.refl _ _ | refine Below.drew ?_)) (hb2.mono (by first | omega | (simp <;> omega)))))
  all_goals
    go_wp2
    go_ret
    exact ⟨rfl, BB⟩
theorem fz_ne {a b c : V3} (h : tEq (vnorm a b c).x (vnorm a b c).y (vnorm a b c).z 0 0 0 = false) : a ≠ b ∧ b ≠ c ∧ c ≠ a := by
  have w0 : wrap64 0 = 0 := by unfold wrap64; omega
  refine ⟨?_, ?_, ?_⟩
  · rintro rfl
    simp [vnorm, vcross, vsub, tEq, w0] at h
  · rintro rfl
    simp [vnorm, vcross, vsub, tEq, w0, Int.mul_comm] at h
  · rintro rfl
    simp [vnorm, vcross, vsub, tEq, w0] at h
/-- The corners of a right face are at three places. -/
theorem face_ne {nv nf k : Nat} {V F : Nat → V3} (h : fault nv V nf F = 0) (hk : k < nf) : V (F k).x.toNat ≠ V (F k).y.toNat ∧ V (F k).y.toNat ≠ V (F k).z.toNat ∧ V (F k).z.toNat ≠ V (F k).x.toNat := by
  obtain ⟨_, _, _, h4⟩ := fault_ok h
  have h1 := first_none h4 k hk
  unfold fErr at h1
  split at h1
  · split at h1
    · omega
    · rename_i h2
      simp only [fZero, fNrm, Bool.not_eq_true] at h2
      exact fz_ne h2
  · omega
theorem ix_ne {V : Nat → V3} {nv i j : Nat} (hi : i < nv) (hj : j < nv) (h : V i ≠ V j) : ((ixV V (V i) nv : Int) != (ixV V (V j) nv : Int)) = true := by
  rw [bne_iff_ne]
  intro e
  have e' : ixV V (V i) nv = ixV V (V j) nv := by omega
  have h1 := ixV_hit (V := V) (v := V i) (n := nv) (ixV_lt hi rfl)
  have h2 := ixV_hit (V := V) (v := V j) (n := nv) (ixV_lt hj rfl)
  rw [e', h2] at h1
  exact h h1.symm
end Go.Proofs.Ytpgpjoghfpfhlaa

/- The vertices that faces have: which, how many, in what place. -/
import Derived.Test.YtpgpjoghfpfhlaaRn
import Derived.RegionTactic
set_option linter.unusedSimpArgs false
set_option linter.unusedVariables false
namespace Go.Proofs.Ytpgpjoghfpfhlaa
open Go.RowKit

theorem cells3_ext0 {V W : Nat → V3} {n : Nat} (h : ∀ i, i < n → V i = W i) : cells3 V n = cells3 W n := by
  induction n with
  | zero => rfl
  | succ n ih => simp only [cells3]; rw [ih fun i hi => h i (by omega), h n (by omega)]
/-- Cells of truths; of numbers. -/
def bvs (U : Nat → Bool) (n : Nat) : Array Value := ((List.range n).map fun i => Value.bool (U i)).toArray
def nvs (Z : Nat → Int) (n : Nat) : Array Value := ((List.range n).map fun i => Value.int .i64 (Z i)).toArray
theorem bvs_get (U : Nat → Bool) (n i : Nat) (h : i < n) : (bvs U n)[i]? = some (.bool (U i)) := by simp [bvs, h]
theorem nvs_get (Z : Nat → Int) (n i : Nat) (h : i < n) : (nvs Z n)[i]? = some (.int .i64 (Z i)) := by simp [nvs, h]
theorem bvs_ext {U V : Nat → Bool} {n : Nat} (h : ∀ i, i < n → U i = V i) : bvs U n = bvs V n := by
  unfold bvs; congr 1; apply List.map_congr_left; intro i hi; rw [h i (by simpa using hi)]
theorem nvs_ext {U V : Nat → Int} {n : Nat} (h : ∀ i, i < n → U i = V i) : nvs U n = nvs V n := by
  unfold nvs; congr 1; apply List.map_congr_left; intro i hi; rw [h i (by simpa using hi)]
theorem bvs_set (U : Nat → Bool) (n i : Nat) : (bvs U n).setIfInBounds i (.bool true) = bvs (fun t => U t || t == i) n := by
  apply Array.ext_getElem?
  intro t
  rw [Array.getElem?_setIfInBounds]
  by_cases ht : t < n
  · rw [bvs_get _ n t ht]
    by_cases e : i = t
    · subst e; simp [bvs, ht]
    · rw [if_neg e, bvs_get _ n t ht]; simp [show t ≠ i from fun h => e h.symm]
  · rw [Array.getElem?_eq_none (by simp [bvs]; omega)]
    by_cases e : i = t
    · subst e; simp [bvs, ht]
    · rw [if_neg e, Array.getElem?_eq_none (by simp [bvs]; omega)]
theorem nvs_set (U : Nat → Int) (n i : Nat) (z : Int) : (nvs U n).setIfInBounds i (.int .i64 z) = nvs (fun t => if t = i then z else U t) n := by
  apply Array.ext_getElem?
  intro t
  rw [Array.getElem?_setIfInBounds]
  by_cases ht : t < n
  · rw [nvs_get _ n t ht]
    by_cases e : i = t
    · subst e; simp [nvs, ht]
    · rw [if_neg e, nvs_get _ n t ht]; simp [show t ≠ i from fun h => e h.symm]
  · rw [Array.getElem?_eq_none (by simp [nvs]; omega)]
    by_cases e : i = t
    · subst e; simp [nvs, ht]
    · rw [if_neg e, Array.getElem?_eq_none (by simp [nvs]; omega)]
theorem cell_of {w : World} {b i : Nat} {c : Array Value} {t : TypeId} {fr : Nat × Nat} {v : Value} (h : w.heap[b]? = some (.cells c t fr)) (hv : c[i]? = some v) : w.cell? ⟨b, i, none⟩ = some v := by simp [World.cell?, h, hv]
theorem frozen_of {w : World} {b i : Nat} {c : Array Value} {t : TypeId} (h : w.heap[b]? = some (.cells c t (0, 0))) : w.frozen? ⟨b, i, none⟩ = false := by simp [World.frozen?, h]
theorem heap_set {w : World} {b i : Nat} {c : Array Value} {t : TypeId} {v : Value} (h : w.heap[b]? = some (.cells c t (0, 0))) : (w.setCell ⟨b, i, none⟩ v).heap[b]? = some (.cells (c.setIfInBounds i v) t (0, 0)) := by
  simp [World.setCell, Array.getElem?_modify, h]

/-- A vertex is one of the first k faces'. -/
def useB (F : Nat → V3) (k : Nat) (i : Nat) : Bool := (List.range k).any fun t => (F t).x == (i : Int) || ((F t).y == (i : Int) || (F t).z == (i : Int))
theorem useB_succ (F : Nat → V3) (k i : Nat) : useB F (k + 1) i = (useB F k i || ((F k).x == (i : Int) || ((F k).y == (i : Int) || (F k).z == (i : Int)))) := by simp [useB, List.range_succ]
/-- How many below i are such. -/
def cnt (U : Nat → Bool) : Nat → Nat
  | 0 => 0
  | i + 1 => if U i = true then cnt U i + 1 else cnt U i
theorem cnt_le (U : Nat → Bool) (i : Nat) : cnt U i ≤ i := by
  induction i with
  | zero => simp [cnt]
  | succ i ih => simp only [cnt]; split <;> omega
/-- Those that are such, in their order. -/
def keepV (U : Nat → Bool) (V : Nat → V3) : Nat → Nat → V3
  | 0, _ => ⟨0, 0, 0⟩
  | i + 1, t => if U i = true ∧ t = cnt U i then V i else keepV U V i t
theorem keep_yes {U : Nat → Bool} {V : Nat → V3} {i : Nat} (h : U i = true) : cells3 (keepV U V (i + 1)) (cnt U (i + 1)) = cells3 (keepV U V i) (cnt U i) ++ [.int .i64 (V i).x, .int .i64 (V i).y, .int .i64 (V i).z] := by
  rw [show cnt U (i + 1) = cnt U i + 1 by simp [cnt, h]]
  simp only [cells3]
  rw [cells3_ext0 (W := keepV U V i) fun t ht => by simp only [keepV]; rw [if_neg (by omega)]]
  simp [keepV, h]
theorem keep_no {U : Nat → Bool} {V : Nat → V3} {i : Nat} (h : U i = false) : cells3 (keepV U V (i + 1)) (cnt U (i + 1)) = cells3 (keepV U V i) (cnt U i) := by
  rw [show cnt U (i + 1) = cnt U i by simp [cnt, h]]
  exact cells3_ext0 fun t ht => by simp only [keepV]; rw [if_neg (by simp [h])]
theorem made_one (z : Value) (n : Nat) (hz : z.cells = #[z]) : madeCells z.cells (n * 1) = ((List.range n).map fun _ => z).toArray := by
  rw [hz]
  apply Array.ext
  · simp [madeCells]
  · intro i h1 h2
    simp [madeCells, Nat.mod_one]
theorem info_bool : (Try.prog.info? 4).map (fun i => (i.zero, i.size, i.bytes)) = some (some (.bool false), 1, 1) := by kernel_rfl
theorem info_int2 : (Try.prog.info? 3).map (fun i => (i.zero, i.size, i.bytes)) = some (some (.int .i64 0), 1, 8) := by kernel_rfl
theorem mk_bools (n : Nat) (hn : n ≤ 1000000) (w : World) : (Instr.makeSlice 69 (.int .i64 (n : Int)) (.int .i64 (n : Int))).run Try.prog w = .ok (.slice (some ⟨w.heap.size, 0, none⟩) n n) (w.alloc (.cells (bvs (fun _ => false) n) 4)) := by
  obtain ⟨i0, hi0, hz0, hz1, hz2⟩ := info_parts info_bool
  have h := run_makeSlice (P := Try.prog) w 69 4 i0 (.bool false) Try.underlying69 hi0 hz0 .i64 .i64 (n : Int) (n : Int) (by omega) (by omega) (by rw [hz1]; omega) (by rw [hz2]; omega) (by omega)
  rw [h, hz1, Int.toNat_natCast, made_one _ _ rfl]
  rfl
theorem mk_ints (n : Nat) (hn : n ≤ 1000000) (w : World) : (Instr.makeSlice 22 (.int .i64 (n : Int)) (.int .i64 (n : Int))).run Try.prog w = .ok (.slice (some ⟨w.heap.size, 0, none⟩) n n) (w.alloc (.cells (nvs (fun _ => 0) n) 3)) := by
  obtain ⟨i0, hi0, hz0, hz1, hz2⟩ := info_parts info_int2
  have h := run_makeSlice (P := Try.prog) w 22 3 i0 (.int .i64 0) Try.underlying22 hi0 hz0 .i64 .i64 (n : Int) (n : Int) (by omega) (by omega) (by rw [hz1]; omega) (by rw [hz2]; omega) (by omega)
  rw [h, hz1, Int.toNat_natCast, made_one _ _ rfl]
  rfl
theorem comp1_any (p g n c : Nat) (Z : Nat → Int) (u : Int) (w : World) (hp : w.cell? ⟨p, 0, none⟩ = some (.slice (some ⟨g, 0, none⟩) n c)) (hg : w.heap[g]? = some (.cells (nvs Z n) 3 (0, 0))) (hu : 0 ≤ u ∧ u < n) (hn : n ≤ 1000000) :
    Calls Try.prog 62 #[.int .i64 u, .pointer (some ⟨p, 0, none⟩)] w fun e w' => e = .returned (.int .i64 (Z u.toNat)) ∧ w' = w := by
  obtain ⟨i, rfl⟩ := Int.eq_ofNat_of_zero_le hu.1
  have hi : i < n := by omega
  have c0 := cell_of hg (nvs_get Z n i hi)
  have b1 : (i : Int) < (n : Int) := by omega
  clear hg
  go_enter Try.func62, Try.ntmps62
  go_wp2
  go_ret
  exact ⟨rfl, rfl⟩
end Go.Proofs.Ytpgpjoghfpfhlaa

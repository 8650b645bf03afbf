/- The sides of a ring. -/
import Derived.Test.YthaecpcpeelcnaaRc
import Derived.Deep.RegionLaw
import Derived.Deep.CutRange
import Derived.StillTailTactics
import Derived.Deep.AppendLies
import Derived.Lib.AppendZerosOnto
set_option linter.unusedSimpArgs false
set_option linter.unusedVariables false
namespace Go.Proofs.Ythaecpcpeelcnaa
open Go.RowKit

theorem info_partsR {f : Option TypeInfo} {z : Value} {s b : Nat} (h : f.map (fun i => (i.zero, i.size, i.bytes)) = some (some z, s, b)) : ∃ i, f = some i ∧ i.zero = some z ∧ i.size = s ∧ i.bytes = b := by
  rcases f with _ | i
  · cases h
  · simp at h; exact ⟨i, rfl, h.1, h.2.1, h.2.2⟩
theorem info_side : (Try.prog.info? 94).map (fun i => (i.zero, i.size, i.bytes)) = some (some (.agg #[.int .i64 0, .int .i64 0, .int .i64 0, .int .i64 0]), 4, 32) := by kernel_rfl
/-- The sides' numbers as cells. -/
def nx (n i : Nat) : Nat := (i + 1) % n
def cells4 (n : Nat) (X Y : Nat → Int) : Nat → List Value
  | 0 => []
  | k + 1 => cells4 n X Y k ++ [.int .i64 (X k), .int .i64 (Y k), .int .i64 (X (nx n k)), .int .i64 (Y (nx n k))]
theorem cells4_length (n : Nat) (X Y : Nat → Int) (k : Nat) : (cells4 n X Y k).length = k * 4 := by
  induction k with
  | zero => rfl
  | succ k ih => simp [cells4, ih]; omega
/-- A slice with the sides of a ring, in new memory. -/
def SidesE (w : World) (base n : Nat) (X Y : Nat → Int) (e : Ending) (w' : World) : Prop :=
  ∃ a c, e = .returned (.slice a n c) ∧ w'.ownsRow base 94 4 (.slice a n c) n (cells4 n X Y n) ∧ Below w.heap.size w w'
theorem nx_lt {n k : Nat} (h : k < n) : nx n k < n := Nat.mod_lt _ (by omega)
theorem nx_mod (n k : Nat) : ((k : Int) + 1).tmod (n : Int) = ((nx n k : Nat) : Int) := by
  have : ((k : Int) + 1) = ((k + 1 : Nat) : Int) := by omega
  rw [this, Int.tmod_eq_emod_of_nonneg (by omega)]
  rfl
theorem made_atR {w : World} {base g size cap : Nat} {e : TypeId} (cur : Array Value) (hg : w.heap.size = g) (hb : base ≤ g) (hm : cap ≤ maxLen) (hs : cur.size = cap * size) :
    (w.alloc (.cells cur e)).ownsRow base e size (.slice (some ⟨g, 0, none⟩) 0 cap) 0 [] := by
  subst hg; exact World.ownsRow_made w cur cap hb hm hs
theorem mk_sides (n : Nat) (hn : n ≤ 1000000) : ∃ MC : Array Value, MC.size = n * 4 ∧ ∀ w : World, (Instr.makeSlice 91 (.int .i64 0) (.int .i64 (n : Int))).run Try.prog w = .ok (.slice (some ⟨w.heap.size, 0, none⟩) 0 n) (w.alloc (.cells MC 94)) := by
  obtain ⟨i0, hi0, hz0, hz1, hz2⟩ := info_partsR info_side
  refine ⟨madeCells (Value.agg #[.int .i64 0, .int .i64 0, .int .i64 0, .int .i64 0]).cells (n * 4), size_madeCells _ _, fun w => ?_⟩
  have h := run_makeSlice (P := Try.prog) w 91 94 i0 (.agg #[.int .i64 0, .int .i64 0, .int .i64 0, .int .i64 0]) Try.underlying91 hi0 hz0 .i64 .i64 0 (n : Int) (by omega) (by omega) (by rw [hz1]; omega) (by rw [hz2]; omega) (by omega)
  rw [h, hz1]
  rfl
set_option maxRecDepth 100000 in
set_option maxHeartbeats 4000000 in
theorem sidesOf_any (b off n c : Nat) (X Y : Nat → Int) (w : World) (hb : b < w.heap.size) (hd : Du w b off n X Y) (hn : n ≤ 1000) :
    Calls Try.prog 55 #[.slice (some ⟨b, off, none⟩) n c] w (SidesE w w.heap.size n X Y) := by
  obtain ⟨i0, hi0, hz0, hz1, hz2⟩ := info_partsR info_side
  obtain ⟨MC, hMC, hmk⟩ := mk_sides n (by omega)
  have HD := Lib.hid hd
  clear hd
  go_enter Try.func55, Try.ntmps55
  go_wp2_with (fail)
  go_loopw [3, 11] (fun s i wr => ∃ (k : Nat) (ao : Option Addr) (co : Nat), k ≤ n ∧ s = .slice ao k co ∧ i = .int .i64 k ∧ wr.ownsRow w.heap.size 94 4 (.slice ao k co) k (cells4 n X Y k) ∧ Below w.heap.size w wr) (fun _ i _ => n - (intOf i).toNat)
  case atStart => exact ⟨0, _, _, by omega, rfl, rfl, made_atR MC rfl (Nat.le_refl _) (by unfold maxLen; omega) hMC, (by repeat (first | exact Below.refl _ _ | assumption | refine Below.drew ?_ | refine bdrewN ?_ _ | refine Below.setCell ?_ (by first | omega | (simp <;> omega)) _ | refine Below.alloc ?_ (by first | omega | (simp <;> omega)) _))⟩
  case round =>
    obtain ⟨k, ao, co, hk, rfl, rfl, hown, hbel⟩ := hrel
    have hsz := hbel.size
    have HO := Lib.hid hown
    clear hown
    by_cases hlt : k < n
    · obtain ⟨c0, c1⟩ := (HD.out.kept hbel hb) k hlt
      have hx := nx_lt hlt
      obtain ⟨d0, d1⟩ := (HD.out.kept hbel hb) (nx n k) hx
      have hmod := nx_mod n k
      have hbw : b < wr.heap.size := by omega
      have hbe : b ≠ wr.heap.size := by omega
      obtain ⟨m, hmm⟩ : ∃ m, nx n k = m := ⟨_, rfl⟩
      rw [hmm] at hx d0 d1 hmod
      have HMM := Lib.hid hmm
      clear hmm
      have hw1 : IntKind.i64.wrap ((k : Int) + 1) = (k : Int) + 1 := w64 (by omega)
      have HB := Lib.hid hbel
      clear hbel
      go_upto_region 5 with (fail)
      have e0 : (wr.alloc (.cells #[.int .i64 (X k), .int .i64 (Y k)] 49)).cell? ⟨b, off + m * 2, none⟩ = some (.int .i64 (X m)) := by rw [World.cell?_alloc_old wr _ ⟨b, off + m * 2, none⟩ hbe]; exact d0
      have e1 : (wr.alloc (.cells #[.int .i64 (X k), .int .i64 (Y k)] 49)).cell? ⟨b, off + m * 2 + 1, none⟩ = some (.int .i64 (Y m)) := by rw [World.cell?_alloc_old wr _ ⟨b, off + m * 2 + 1, none⟩ hbe]; exact d1
      have hn0 : ¬ n = 0 := by omega
      have hm0 : (0 : Int) ≤ (m : Int) := by omega
      have hm1 : (m : Int) < (n : Int) := by omega
      have p0 : (wr.alloc (.cells #[.int .i64 (X k), .int .i64 (Y k)] 49)).cell? ⟨wr.heap.size, 0, none⟩ = some (.int .i64 (X k)) := by simp [go_sem]
      have p1 : (wr.alloc (.cells #[.int .i64 (X k), .int .i64 (Y k)] 49)).cell? ⟨wr.heap.size, 1, none⟩ = some (.int .i64 (Y k)) := by simp [go_sem]
      have HO1 := Lib.hid (HO.out.alloc (.cells #[.int .i64 (X k), .int .i64 (Y k)] 49))
      have HB1 := Lib.hid (HB.out.alloc hsz (.cells #[.int .i64 (X k), .int .i64 (Y k)] 49))
      have hs1 : w.heap.size ≤ (wr.alloc (.cells #[.int .i64 (X k), .int .i64 (Y k)] 49)).heap.size := by simp; omega
      change Code.wp _ _ _ _ (wr.alloc (.cells #[.int .i64 (X k), .int .i64 (Y k)] 49))
      generalize (wr.alloc (.cells #[.int .i64 (X k), .int .i64 (Y k)] 49)) = w1 at *
      have hne : (Value.slice ao k co).ownBlock ≠ some wr.heap.size := fun e => by have := (HO.out.lt _ e).2; omega
      have hne2 : (Value.slice ao k co).ownBlock ≠ some b := fun e => by have := (HO.out.lt _ e).1; omega
      have hz2' : wr.heap.size < w1.heap.size := World.block_lt_of_cell? w1 _ p0
      have hz3' : b < w1.heap.size := by omega
      have HM : Hid (cells4 n X Y (k + 1) = cells4 n X Y k ++ [.int .i64 (X k), .int .i64 (Y k), .int .i64 (X m), .int .i64 (Y m)]) := Lib.hid (by simp only [cells4]; rw [HMM.out])
      go_region_held3 (fun w' => w'.cell? ⟨wr.heap.size, 0, none⟩ = some (.int .i64 (X k)) ∧ w'.cell? ⟨wr.heap.size, 1, none⟩ = some (.int .i64 (Y k)) ∧ w'.cell? ⟨b, off + m * 2, none⟩ = some (.int .i64 (X m)) ∧ w'.cell? ⟨b, off + m * 2 + 1, none⟩ = some (.int .i64 (Y m)))
        (first
          | exact ⟨p0, p1, e0, e1⟩
          | assumption
          | go_keep
          | (go_split_ands
             refine ⟨?_, ?_, ?_, ?_⟩
             · (rw [hgrow.cell_far _ (by simp; omega) (Ne.symm hne)]; assumption)
             · (rw [hgrow.cell_far _ (by simp; omega) (Ne.symm hne)]; assumption)
             · (rw [hgrow.cell_far _ (by simp; omega) (Ne.symm hne2)]; assumption)
             · (rw [hgrow.cell_far _ (by simp; omega) (Ne.symm hne2)]; assumption)))
        (first
          | (refine step_append_lies _ (by rfl) _ _ _ (by rfl) w.heap.size 94 i0 (.agg #[.int .i64 0, .int .i64 0, .int .i64 0, .int .i64 0]) 4 32 Try.underlying91 hi0 hz0 hz1 hz2 rfl (by decide) (.slice ao k co) k (cells4 n X Y k) (by rfl) (HO1.out.alloc _) ⟨w1.heap.size, 0, none⟩ 1 1 [.int .i64 (X k), .int .i64 (Y k), .int .i64 (X m), .int .i64 (Y m)] (by rfl) (by rfl) (World.news_of_block (cs := #[.int .i64 (X k), .int .i64 (Y k), .int .i64 (X m), .int .i64 (Y m)]) (t := 94) (fr := (0, 0)) (heap_alloc_new w1 _)) (by simp [Value.oneCell']) (by omega) (by unfold maxLen; omega) (by omega) (by simp; omega) (w1.heap.size + 1) (by simp) ?_; intro g cap' w4 hown4 hgrow hat hlt4))
      all_goals
        have HB4 := Lib.hid (Below.grown (show Below w.heap.size w _ from by repeat (first | exact HB1.out | refine Below.drew ?_ | refine bdrewN ?_ _ | refine Below.alloc ?_ (by first | exact hs1 | omega | (simp <;> omega)) _)) hgrow (by simp; omega) (fun b hb => (HO1.out.lt b hb).1))
        go_wp2
        go_roundw
        case rel => exact ⟨k + 1, _, _, by omega, rfl, by go_num, by rw [HM.out]; exact hown4, HB4.out⟩
        case measure => simp [intOf]; omega
    · obtain rfl : n = k := by omega
      go_wp2
      go_ret
      exact ⟨_, _, rfl, HO.out, hbel⟩
end Go.Proofs.Ythaecpcpeelcnaa

/- Faces with other numbers. -/
import Derived.Test.YtpgpjoghfpfhlaaGn
import Derived.Deep.RegionHeld3
set_option linter.unusedSimpArgs false
set_option linter.unusedVariables false
namespace Go.Proofs.Ytpgpjoghfpfhlaa
open Go.RowKit

theorem mk_face (n : Nat) (hn : n ≤ 1000000) : ∃ MC : Array Value, MC.size = n * 3 ∧ ∀ w : World, (Instr.makeSlice 27 (.int .i64 0) (.int .i64 (n : Int))).run Try.prog w = .ok (.slice (some ⟨w.heap.size, 0, none⟩) 0 n) (w.alloc (.cells MC 52)) := by
  obtain ⟨i0, hi0, hz0, hz1, hz2⟩ := info_parts info_face
  refine ⟨madeCells (Value.agg #[.int .i64 0, .int .i64 0, .int .i64 0]).cells (n * 3), size_madeCells _ _, fun w => ?_⟩
  have h := run_makeSlice (P := Try.prog) w 27 52 i0 (.agg #[.int .i64 0, .int .i64 0, .int .i64 0]) Try.underlying27 hi0 hz0 .i64 .i64 0 (n : Int) (by omega) (by omega) (by rw [hz1]; omega) (by rw [hz2]; omega) (by omega)
  rw [h, hz1]
  rfl
theorem own_heapEq {w w' : World} {base n size : Nat} {e : TypeId} {v : Value} {xs : List Value} (h : w'.heap = w.heap) (o : w.ownsRow base e size v n xs) : w'.ownsRow base e size v n xs := by
  obtain ⟨h1, h2⟩ := o
  refine ⟨h1, ?_⟩
  rcases h2 with h2 | ⟨g, cap, cur, hv, hb, hh, r⟩
  · exact .inl h2
  · exact .inr ⟨g, cap, cur, hv, hb, by rw [h]; exact hh, r⟩
/-- A face with other numbers. -/
def rnf (N : Int → Int) (f : V3) : V3 := ⟨N f.x, N f.y, N f.z⟩

set_option maxRecDepth 100000 in
set_option maxHeartbeats 4000000 in
theorem renum_J (p : Nat) (N : Int → Int) (af : Option Addr) (nf cf : Nat) (F : Nat → V3) (w : World) (hf : Row3 w af nf F) (hnf : nf ≤ 1000000)
    (hcl : ∀ W, Below w.heap.size w W → ∀ k, k < nf → ∀ u, (u = (F k).x ∨ u = (F k).y ∨ u = (F k).z) → Calls Try.prog 34 #[.int .i64 u, .pointer (some ⟨p, 0, none⟩)] W (fun e w' => e = .returned (.int .i64 (N u)) ∧ w' = W)) :
    Calls Try.prog 33 #[.slice af nf cf, .func (.func 34) #[] #[.pointer (some ⟨p, 0, none⟩)]] w (RowsPost w 52 nf (fun i => rnf N (F i))) := by
  obtain ⟨i0, hi0, hz0, hz1, hz2⟩ := info_parts info_face
  have HC := Lib.hid hcl
  have HF := Lib.hid hf
  clear hcl hf
  obtain ⟨MC, hMC, hmk⟩ := mk_face nf hnf
  have HMC := Lib.hid hMC
  clear hMC
  go_enter Try.func33, Try.ntmps33
  go_wp2_with (fail)
  go_loopw [5, 13] (fun v i wr => ∃ k : Nat, k ≤ nf ∧ i = .int .i64 k ∧ wr.ownsRow w.heap.size 52 3 v k (cells3 (fun i => rnf N (F i)) k) ∧ Below w.heap.size w wr) (fun _ i _ => nf - (intOf i).toNat)
  case atStart => exact ⟨0, by omega, rfl, made_at MC rfl (Nat.le_refl _) (by unfold maxLen; omega) HMC.out, (by repeat (first | exact Below.refl _ _ | assumption | refine Below.drew ?_ | refine bdrewN ?_ _ | refine Below.setCell ?_ (by first | omega | (simp <;> omega)) _ | refine Below.alloc ?_ (by first | omega | (simp <;> omega)) _))⟩
  case round =>
    obtain ⟨k, hk, rfl, hown, hbel⟩ := hrel
    have hsz := hbel.size
    have HO := Lib.hid hown
    have HB := Lib.hid hbel
    obtain ⟨ao, co, rfl⟩ := own_slice' hown
    clear hmk HMC hown hbel
    by_cases hlt : k < nf
    · rcases HF.out with h | ⟨bf, of, rfl, hbf, hF⟩
      · omega
      obtain ⟨c0, c1, c2⟩ := (hF.kept HB.out hbf) k hlt
      have hbw : bf < wr.heap.size := by omega
      clear hF
      go_wp2_with (fail)
      have HB2 : Hid (Below w.heap.size w (wr.alloc (.cells #[.int .i64 (F k).x, .int .i64 (F k).y, .int .i64 (F k).z] 52))) := Lib.hid (HB.out.alloc hsz _)
      have HO2 : Hid ((wr.alloc (.cells #[.int .i64 (F k).x, .int .i64 (F k).y, .int .i64 (F k).z] 52)).ownsRow w.heap.size 52 3 (.slice ao k co) k (cells3 (fun i => rnf N (F i)) k)) := Lib.hid (HO.out.alloc _)
      have d0 : (wr.alloc (.cells #[.int .i64 (F k).x, .int .i64 (F k).y, .int .i64 (F k).z] 52)).cell? ⟨wr.heap.size, 0, none⟩ = some (.int .i64 (F k).x) := by simp [go_sem]
      have d1 : (wr.alloc (.cells #[.int .i64 (F k).x, .int .i64 (F k).y, .int .i64 (F k).z] 52)).cell? ⟨wr.heap.size, 1, none⟩ = some (.int .i64 (F k).y) := by simp [go_sem]
      have d2 : (wr.alloc (.cells #[.int .i64 (F k).x, .int .i64 (F k).y, .int .i64 (F k).z] 52)).cell? ⟨wr.heap.size, 2, none⟩ = some (.int .i64 (F k).z) := by simp [go_sem]
      generalize (wr.alloc (.cells #[.int .i64 (F k).x, .int .i64 (F k).y, .int .i64 (F k).z] 52)) = w2 at *
      clear c0 c1 c2
      have hs2 := HB2.out.size
      have hne : (Value.slice ao k co).ownBlock ≠ some wr.heap.size := fun e => by have := (HO.out.lt _ e).2; omega
      have hz2' : wr.heap.size < w2.heap.size := World.block_lt_of_cell? w2 _ d0
      go_region_held3 (fun w' => w'.cell? ⟨wr.heap.size, 0, none⟩ = some (.int .i64 (F k).x) ∧ w'.cell? ⟨wr.heap.size, 1, none⟩ = some (.int .i64 (F k).y) ∧ w'.cell? ⟨wr.heap.size, 2, none⟩ = some (.int .i64 (F k).z))
        (first
          | exact ⟨d0, d1, d2⟩
          | assumption
          | go_keep
          | (go_split_ands
             refine ⟨?_, ?_, ?_⟩
             · (rw [hgrow.cell_far _ (by simp; omega) (Ne.symm hne)]; assumption)
             · (rw [hgrow.cell_far _ (by simp; omega) (Ne.symm hne)]; assumption)
             · (rw [hgrow.cell_far _ (by simp; omega) (Ne.symm hne)]; assumption)))
        (first
          | (refine step_append_lies _ (by rfl) _ _ _ (by rfl) w.heap.size 52 i0 (.agg #[.int .i64 0, .int .i64 0, .int .i64 0]) 3 24 Try.underlying27 hi0 hz0 hz1 hz2 rfl (by decide) (.slice ao k co) k (cells3 (fun i => rnf N (F i)) k) (by rfl) (HO2.out.alloc _) ⟨w2.heap.size, 0, none⟩ 1 1 [.int .i64 (N (F k).x), .int .i64 (N (F k).y), .int .i64 (N (F k).z)] (by rfl) (by rfl) (World.news_of_block (cs := #[.int .i64 (N (F k).x), .int .i64 (N (F k).y), .int .i64 (N (F k).z)]) (t := 52) (fr := (0, 0)) (heap_alloc_new w2 _)) (by simp [Value.oneCell']) (by omega) (by unfold maxLen; omega) (by omega) (by simp; omega) (w2.heap.size + 1) (by simp) ?_; intro g cap' w4 hown4 hgrow hat hlt4)
          | (go_at_call 34; refine (HC.out _ HB2.out.drew k hlt _ (by first | exact .inl rfl | exact .inr (.inl rfl) | exact .inr (.inr rfl))).mono ?_; rintro e w' ⟨rfl, rfl⟩))
      all_goals
        have HB4 := Lib.hid (Below.grown (show Below w.heap.size w _ from by repeat (first | exact HB2.out | refine Below.drew ?_ | refine bdrewN ?_ _ | refine Below.alloc ?_ (by first | exact hs2 | omega | (simp <;> omega)) _)) hgrow (by simp; omega) (fun b hb => (HO2.out.lt b hb).1))
        go_wp2
        go_roundw
        case rel => exact ⟨k + 1, by omega, by go_num, hown4, HB4.out⟩
        case measure => simp [intOf]; omega
    · obtain rfl : nf = k := by omega
      go_wp2
      go_ret
      exact ⟨_, _, rfl, HO.out, HB.out⟩

set_option maxRecDepth 100000 in
set_option maxHeartbeats 4000000 in
theorem renum_W (p q : Nat) (N : Int → Int) (af : Option Addr) (nf cf : Nat) (F : Nat → V3) (w : World) (hf : Row3 w af nf F) (hnf : nf ≤ 1000000)
    (hcl : ∀ W, Below w.heap.size w W → ∀ k, k < nf → ∀ u, (u = (F k).x ∨ u = (F k).y ∨ u = (F k).z) → Calls Try.prog 39 #[.int .i64 u, .pointer (some ⟨p, 0, none⟩), .pointer (some ⟨q, 0, none⟩)] W (fun e w' => e = .returned (.int .i64 (N u)) ∧ ∃ nq, w' = W.drewN nq)) :
    Calls Try.prog 33 #[.slice af nf cf, .func (.func 39) #[] #[.pointer (some ⟨p, 0, none⟩), .pointer (some ⟨q, 0, none⟩)]] w (RowsPost w 52 nf (fun i => rnf N (F i))) := by
  obtain ⟨i0, hi0, hz0, hz1, hz2⟩ := info_parts info_face
  have HC := Lib.hid hcl
  have HF := Lib.hid hf
  clear hcl hf
  obtain ⟨MC, hMC, hmk⟩ := mk_face nf hnf
  have HMC := Lib.hid hMC
  clear hMC
  go_enter Try.func33, Try.ntmps33
  go_wp2_with (fail)
  go_loopw [5, 13] (fun v i wr => ∃ k : Nat, k ≤ nf ∧ i = .int .i64 k ∧ wr.ownsRow w.heap.size 52 3 v k (cells3 (fun i => rnf N (F i)) k) ∧ Below w.heap.size w wr) (fun _ i _ => nf - (intOf i).toNat)
  case atStart => exact ⟨0, by omega, rfl, made_at MC rfl (Nat.le_refl _) (by unfold maxLen; omega) HMC.out, (by repeat (first | exact Below.refl _ _ | assumption | refine Below.drew ?_ | refine bdrewN ?_ _ | refine Below.setCell ?_ (by first | omega | (simp <;> omega)) _ | refine Below.alloc ?_ (by first | omega | (simp <;> omega)) _))⟩
  case round =>
    obtain ⟨k, hk, rfl, hown, hbel⟩ := hrel
    have hsz := hbel.size
    have HO := Lib.hid hown
    have HB := Lib.hid hbel
    obtain ⟨ao, co, rfl⟩ := own_slice' hown
    clear hmk HMC hown hbel
    by_cases hlt : k < nf
    · rcases HF.out with h | ⟨bf, of, rfl, hbf, hF⟩
      · omega
      obtain ⟨c0, c1, c2⟩ := (hF.kept HB.out hbf) k hlt
      have hbw : bf < wr.heap.size := by omega
      clear hF
      go_wp2_with (fail)
      have HB2 : Hid (Below w.heap.size w (wr.alloc (.cells #[.int .i64 (F k).x, .int .i64 (F k).y, .int .i64 (F k).z] 52))) := Lib.hid (HB.out.alloc hsz _)
      have HO2 : Hid ((wr.alloc (.cells #[.int .i64 (F k).x, .int .i64 (F k).y, .int .i64 (F k).z] 52)).ownsRow w.heap.size 52 3 (.slice ao k co) k (cells3 (fun i => rnf N (F i)) k)) := Lib.hid (HO.out.alloc _)
      have d0 : (wr.alloc (.cells #[.int .i64 (F k).x, .int .i64 (F k).y, .int .i64 (F k).z] 52)).cell? ⟨wr.heap.size, 0, none⟩ = some (.int .i64 (F k).x) := by simp [go_sem]
      have d1 : (wr.alloc (.cells #[.int .i64 (F k).x, .int .i64 (F k).y, .int .i64 (F k).z] 52)).cell? ⟨wr.heap.size, 1, none⟩ = some (.int .i64 (F k).y) := by simp [go_sem]
      have d2 : (wr.alloc (.cells #[.int .i64 (F k).x, .int .i64 (F k).y, .int .i64 (F k).z] 52)).cell? ⟨wr.heap.size, 2, none⟩ = some (.int .i64 (F k).z) := by simp [go_sem]
      generalize (wr.alloc (.cells #[.int .i64 (F k).x, .int .i64 (F k).y, .int .i64 (F k).z] 52)) = w2 at *
      clear c0 c1 c2
      have hs2 := HB2.out.size
      have hne : (Value.slice ao k co).ownBlock ≠ some wr.heap.size := fun e => by have := (HO.out.lt _ e).2; omega
      have hz2' : wr.heap.size < w2.heap.size := World.block_lt_of_cell? w2 _ d0
      go_region_held3 (fun w' => w'.cell? ⟨wr.heap.size, 0, none⟩ = some (.int .i64 (F k).x) ∧ w'.cell? ⟨wr.heap.size, 1, none⟩ = some (.int .i64 (F k).y) ∧ w'.cell? ⟨wr.heap.size, 2, none⟩ = some (.int .i64 (F k).z))
        (first
          | exact ⟨d0, d1, d2⟩
          | assumption
          | go_keep
          | (go_split_ands
             refine ⟨?_, ?_, ?_⟩
             · (rw [hgrow.cell_far _ (by simp; omega) (Ne.symm hne)]; assumption)
             · (rw [hgrow.cell_far _ (by simp; omega) (Ne.symm hne)]; assumption)
             · (rw [hgrow.cell_far _ (by simp; omega) (Ne.symm hne)]; assumption)))
        (first
          | (refine step_append_lies _ (by rfl) _ _ _ (by rfl) w.heap.size 52 i0 (.agg #[.int .i64 0, .int .i64 0, .int .i64 0]) 3 24 Try.underlying27 hi0 hz0 hz1 hz2 rfl (by decide) (.slice ao k co) k (cells3 (fun i => rnf N (F i)) k) (by rfl) ((own_heapEq rfl HO2.out).alloc _) ⟨w2.heap.size, 0, none⟩ 1 1 [.int .i64 (N (F k).x), .int .i64 (N (F k).y), .int .i64 (N (F k).z)] (by rfl) (by rfl) (World.news_of_block (cs := #[.int .i64 (N (F k).x), .int .i64 (N (F k).y), .int .i64 (N (F k).z)]) (t := 52) (fr := (0, 0)) (heap_new (by simp))) (by simp [Value.oneCell']) (by omega) (by unfold maxLen; omega) (by omega) (by simp; omega) (w2.heap.size + 1) (by simp) ?_; intro g cap' w4 hown4 hgrow hat hlt4)
          | (go_at_call 39; refine (HC.out _ (by repeat (first | exact HB2.out | refine Below.drew ?_ | refine bdrewN ?_ _)) k hlt _ (by first | exact .inl rfl | exact .inr (.inl rfl) | exact .inr (.inr rfl))).mono ?_; rintro e w' ⟨rfl, nq, rfl⟩))
      all_goals
        have HB4 := Lib.hid (Below.grown (show Below w.heap.size w _ from by repeat (first | exact HB2.out | refine Below.drew ?_ | refine bdrewN ?_ _ | refine Below.alloc ?_ (by first | exact hs2 | omega | (simp <;> omega)) _)) hgrow (by simp; omega) (fun b hb => (HO2.out.lt b hb).1))
        go_wp2
        go_roundw
        case rel => exact ⟨k + 1, by omega, by go_num, hown4, HB4.out⟩
        case measure => simp [intOf]; omega
    · obtain rfl : nf = k := by omega
      go_wp2
      go_ret
      exact ⟨_, _, rfl, HO.out, HB.out⟩

set_option maxRecDepth 100000 in
set_option maxHeartbeats 4000000 in
theorem renum_C (p : Nat) (N : Int → Int) (af : Option Addr) (nf cf : Nat) (F : Nat → V3) (w : World) (hf : Row3 w af nf F) (hnf : nf ≤ 1000000)
    (hcl : ∀ W, Below w.heap.size w W → ∀ k, k < nf → ∀ u, (u = (F k).x ∨ u = (F k).y ∨ u = (F k).z) → Calls Try.prog 62 #[.int .i64 u, .pointer (some ⟨p, 0, none⟩)] W (fun e w' => e = .returned (.int .i64 (N u)) ∧ w' = W)) :
    Calls Try.prog 33 #[.slice af nf cf, .func (.func 62) #[] #[.pointer (some ⟨p, 0, none⟩)]] w (RowsPost w 52 nf (fun i => rnf N (F i))) := by
  obtain ⟨i0, hi0, hz0, hz1, hz2⟩ := info_parts info_face
  have HC := Lib.hid hcl
  have HF := Lib.hid hf
  clear hcl hf
  obtain ⟨MC, hMC, hmk⟩ := mk_face nf hnf
  have HMC := Lib.hid hMC
  clear hMC
  go_enter Try.func33, Try.ntmps33
  go_wp2_with (fail)
  go_loopw [5, 13] (fun v i wr => ∃ k : Nat, k ≤ nf ∧ i = .int .i64 k ∧ wr.ownsRow w.heap.size 52 3 v k (cells3 (fun i => rnf N (F i)) k) ∧ Below w.heap.size w wr) (fun _ i _ => nf - (intOf i).toNat)
  case atStart => exact ⟨0, by omega, rfl, made_at MC rfl (Nat.le_refl _) (by unfold maxLen; omega) HMC.out, (by repeat (first | exact Below.refl _ _ | assumption | refine Below.drew ?_ | refine bdrewN ?_ _ | refine Below.setCell ?_ (by first | omega | (simp <;> omega)) _ | refine Below.alloc ?_ (by first | omega | (simp <;> omega)) _))⟩
  case round =>
    obtain ⟨k, hk, rfl, hown, hbel⟩ := hrel
    have hsz := hbel.size
    have HO := Lib.hid hown
    have HB := Lib.hid hbel
    obtain ⟨ao, co, rfl⟩ := own_slice' hown
    clear hmk HMC hown hbel
    by_cases hlt : k < nf
    · rcases HF.out with h | ⟨bf, of, rfl, hbf, hF⟩
      · omega
      obtain ⟨c0, c1, c2⟩ := (hF.kept HB.out hbf) k hlt
      have hbw : bf < wr.heap.size := by omega
      clear hF
      go_wp2_with (fail)
      have HB2 : Hid (Below w.heap.size w (wr.alloc (.cells #[.int .i64 (F k).x, .int .i64 (F k).y, .int .i64 (F k).z] 52))) := Lib.hid (HB.out.alloc hsz _)
      have HO2 : Hid ((wr.alloc (.cells #[.int .i64 (F k).x, .int .i64 (F k).y, .int .i64 (F k).z] 52)).ownsRow w.heap.size 52 3 (.slice ao k co) k (cells3 (fun i => rnf N (F i)) k)) := Lib.hid (HO.out.alloc _)
      have d0 : (wr.alloc (.cells #[.int .i64 (F k).x, .int .i64 (F k).y, .int .i64 (F k).z] 52)).cell? ⟨wr.heap.size, 0, none⟩ = some (.int .i64 (F k).x) := by simp [go_sem]
      have d1 : (wr.alloc (.cells #[.int .i64 (F k).x, .int .i64 (F k).y, .int .i64 (F k).z] 52)).cell? ⟨wr.heap.size, 1, none⟩ = some (.int .i64 (F k).y) := by simp [go_sem]
      have d2 : (wr.alloc (.cells #[.int .i64 (F k).x, .int .i64 (F k).y, .int .i64 (F k).z] 52)).cell? ⟨wr.heap.size, 2, none⟩ = some (.int .i64 (F k).z) := by simp [go_sem]
      generalize (wr.alloc (.cells #[.int .i64 (F k).x, .int .i64 (F k).y, .int .i64 (F k).z] 52)) = w2 at *
      clear c0 c1 c2
      have hs2 := HB2.out.size
      have hne : (Value.slice ao k co).ownBlock ≠ some wr.heap.size := fun e => by have := (HO.out.lt _ e).2; omega
      have hz2' : wr.heap.size < w2.heap.size := World.block_lt_of_cell? w2 _ d0
      go_region_held3 (fun w' => w'.cell? ⟨wr.heap.size, 0, none⟩ = some (.int .i64 (F k).x) ∧ w'.cell? ⟨wr.heap.size, 1, none⟩ = some (.int .i64 (F k).y) ∧ w'.cell? ⟨wr.heap.size, 2, none⟩ = some (.int .i64 (F k).z))
        (first
          | exact ⟨d0, d1, d2⟩
          | assumption
          | go_keep
          | (go_split_ands
             refine ⟨?_, ?_, ?_⟩
             · (rw [hgrow.cell_far _ (by simp; omega) (Ne.symm hne)]; assumption)
             · (rw [hgrow.cell_far _ (by simp; omega) (Ne.symm hne)]; assumption)
             · (rw [hgrow.cell_far _ (by simp; omega) (Ne.symm hne)]; assumption)))
        (first
          | (refine step_append_lies _ (by rfl) _ _ _ (by rfl) w.heap.size 52 i0 (.agg #[.int .i64 0, .int .i64 0, .int .i64 0]) 3 24 Try.underlying27 hi0 hz0 hz1 hz2 rfl (by decide) (.slice ao k co) k (cells3 (fun i => rnf N (F i)) k) (by rfl) (HO2.out.alloc _) ⟨w2.heap.size, 0, none⟩ 1 1 [.int .i64 (N (F k).x), .int .i64 (N (F k).y), .int .i64 (N (F k).z)] (by rfl) (by rfl) (World.news_of_block (cs := #[.int .i64 (N (F k).x), .int .i64 (N (F k).y), .int .i64 (N (F k).z)]) (t := 52) (fr := (0, 0)) (heap_alloc_new w2 _)) (by simp [Value.oneCell']) (by omega) (by unfold maxLen; omega) (by omega) (by simp; omega) (w2.heap.size + 1) (by simp) ?_; intro g cap' w4 hown4 hgrow hat hlt4)
          | (go_at_call 62; refine (HC.out _ HB2.out.drew k hlt _ (by first | exact .inl rfl | exact .inr (.inl rfl) | exact .inr (.inr rfl))).mono ?_; rintro e w' ⟨rfl, rfl⟩))
      all_goals
        have HB4 := Lib.hid (Below.grown (show Below w.heap.size w _ from by repeat (first | exact HB2.out | refine Below.drew ?_ | refine bdrewN ?_ _ | refine Below.alloc ?_ (by first | exact hs2 | omega | (simp <;> omega)) _)) hgrow (by simp; omega) (fun b hb => (HO2.out.lt b hb).1))
        go_wp2
        go_roundw
        case rel => exact ⟨k + 1, by omega, by go_num, hown4, HB4.out⟩
        case measure => simp [intOf]; omega
    · obtain rfl : nf = k := by omega
      go_wp2
      go_ret
      exact ⟨_, _, rfl, HO.out, HB.out⟩
end Go.Proofs.Ytpgpjoghfpfhlaa

/- Placed meshes: each vertex where a closure leads it. -/
import Derived.Test.YtmcebhjcaacbpaaPl
import Derived.Test.YtmcebhjcaacbpaaTu
import Derived.Laws.MakeOwn
set_option linter.unusedSimpArgs false
set_option linter.unusedVariables false
namespace Go.Proofs.Ytmcebhjcaacbpaa
open Go.RowKit

theorem made_at {w : World} {base g size cap : Nat} {e : TypeId} (cur : Array Value) (hg : w.heap.size = g) (hb : base ≤ g) (hm : cap ≤ maxLen) (hs : cur.size = cap * size) :
    (w.alloc (.cells cur e)).ownsRow base e size (.slice (some ⟨g, 0, none⟩) 0 cap) 0 [] := by
  subst hg; exact World.ownsRow_made w cur cap hb hm hs
theorem mk_vec (n : Nat) (hn : n ≤ 1000000) : ∃ MC : Array Value, MC.size = n * 3 ∧ ∀ w : World, (Instr.makeSlice 26 (.int .i64 0) (.int .i64 (n : Int))).run Try.prog w = .ok (.slice (some ⟨w.heap.size, 0, none⟩) 0 n) (w.alloc (.cells MC 39)) := by
  obtain ⟨i0, hi0, hz0, hz1, hz2⟩ := info_parts info_vec
  refine ⟨madeCells (Value.agg #[.int .i64 0, .int .i64 0, .int .i64 0]).cells (n * 3), size_madeCells _ _, fun w => ?_⟩
  have h := run_makeSlice (P := Try.prog) w 26 39 i0 (.agg #[.int .i64 0, .int .i64 0, .int .i64 0]) Try.underlying26 hi0 hz0 .i64 .i64 0 (n : Int) (by omega) (by omega) (by rw [hz1]; omega) (by rw [hz2]; omega) (by omega)
  rw [h, hz1]
  rfl

set_option maxRecDepth 100000 in
set_option maxHeartbeats 4000000 in
theorem placed_1  (G : Nat → V3) (av af : Option Addr) (nv cv nf cf : Nat) (V F : Nat → V3) (w : World) (hv : Row3 w av nv V) (hf : Row3 w af nf F) (hnv : nv ≤ 1000000) (hnf : nf ≤ 1000000)
    (hcl : ∀ W, Below w.heap.size w W → ∀ k, k < nv → Calls Try.prog 54 #[.agg #[.int .i64 (V k).x, .int .i64 (V k).y, .int .i64 (V k).z]] W fun e w' => e = .returned (.agg #[.int .i64 (G k).x, .int .i64 (G k).y, .int .i64 (G k).z]) ∧ Below W.heap.size W w') :
    Calls Try.prog 23 #[.agg #[.slice av nv cv, .slice af nf cf], .func (.func 54) #[] #[]] w (MeshP w nv G nf F) := by
  obtain ⟨i0, hi0, hz0, hz1, hz2⟩ := info_parts info_vec
  have HC := Lib.hid hcl
  have HV := Lib.hid hv
  have HF := Lib.hid hf
  clear hcl hv hf
  obtain ⟨MC, hMC, hmk⟩ := mk_vec nv hnv
  have HMC := Lib.hid hMC
  clear hMC
  go_enter Try.func23, Try.ntmps23
  go_wp2_with (fail)
  generalize hw0 : ((w.alloc (Obj.cells #[Value.slice av nv cv, Value.slice af nf cf] 29)).alloc (Obj.cells #[Value.slice none 0 0, Value.slice none 0 0] 29)) = w0
  have z0 : w0.heap.size = w.heap.size + 1 + 1 := by rw [← hw0]; simp
  have hM : w0.heap[w.heap.size]? = some (.cells #[.slice av nv cv, .slice af nf cf] 29 (0, 0)) := by rw [← hw0]; exact (by repeat (first | (refine heap_new ?_; first | rfl | (simp; done)) | rw [Below.heap_setCell _ _ _ _ (by simp <;> omega)] | rw [Below.heap_alloc _ _ _ (by simp <;> omega)]))
  have hR : w0.heap[w.heap.size + 1]? = some (.cells #[.slice none 0 0, .slice none 0 0] 29 (0, 0)) := by rw [← hw0]; exact (by repeat (first | (refine heap_new ?_; first | rfl | (simp; done)) | rw [Below.heap_setCell _ _ _ _ (by simp <;> omega)] | rw [Below.heap_alloc _ _ _ (by simp <;> omega)]))
  have B0 : Below w.heap.size w w0 := by rw [← hw0]; exact (by repeat (first | exact Below.refl _ _ | assumption | refine Below.drew ?_ | refine bdrewN ?_ _ | refine Below.setCell ?_ (by first | omega | (simp <;> omega)) _ | refine Below.alloc ?_ (by first | omega | (simp <;> omega)) _))
  have HM := Lib.hid hM
  have HR := Lib.hid hR
  have z0' : w.heap.size + 1 + 1 ≤ w0.heap.size := by omega
  have z0'' : w0.heap.size ≤ w.heap.size + 1 + 1 := by omega
  clear hM hR hw0 z0
  go_loopw [5, 15] (fun v i wr => ∃ k : Nat, k ≤ nv ∧ i = .int .i64 k ∧ wr.ownsRow (w.heap.size + 1 + 1) 39 3 v k (cells3 G k) ∧ Below w0.heap.size w0 wr) (fun _ i _ => nv - (intOf i).toNat)
  case atStart => exact ⟨0, by omega, rfl, made_at MC (by omega) (by omega) (by unfold maxLen; omega) HMC.out, (by repeat (first | exact Below.refl _ _ | assumption | refine Below.drew ?_ | refine bdrewN ?_ _ | refine Below.setCell ?_ (by first | omega | (simp <;> omega)) _ | refine Below.alloc ?_ (by first | omega | (simp <;> omega)) _))⟩
  case round =>
    obtain ⟨k, hk, rfl, hown, hbel⟩ := hrel
    have hsz := hbel.size
    have HO := Lib.hid hown
    clear hmk HMC
    by_cases hlt : k < nv
    · rcases HV.out with h | ⟨bf, of, rfl, hbf, hF⟩
      · omega
      have BW : Below w.heap.size w wr := B0.trans (hbel.mono (by omega))
      obtain ⟨c0, c1, c2⟩ := (hF.kept BW hbf) k hlt
      have hbw : bf < wr.heap.size := by omega
      clear hF hown
      have HBL := Lib.hid hbel
      have HBW := Lib.hid BW
      clear hbel BW
      go_wp2_with (fail)
      have hcall := HC.out (wr.alloc (.cells #[.int .i64 (V k).x, .int .i64 (V k).y, .int .i64 (V k).z] 39)) (Below.alloc HBW.out (by omega) _) k hlt
      refine hcall.mono ?_
      rintro e w1 ⟨rfl, hb1⟩
      have B1 : Below wr.heap.size wr w1 := Below.trans (by repeat (first | exact Below.refl _ _ | assumption | refine Below.drew ?_ | refine bdrewN ?_ _ | refine Below.setCell ?_ (by first | omega | (simp <;> omega)) _ | refine Below.alloc ?_ (by first | omega | (simp <;> omega)) _)) (hb1.mono (by simp))
      have z1 : wr.heap.size + 1 ≤ w1.heap.size := by have := hb1.size; simpa using this
      have HO1 := Lib.hid (ownsRow_below HO.out B1)
      have HB := Lib.hid (HBL.out.trans (B1.mono hsz))
      clear hb1 B1 hcall
      go_wp2_with (at_builtin; refine wpList_append_lies _ rfl _ _ 26 rfl (w.heap.size + 1 + 1) 39 i0 (.agg #[.int .i64 0, .int .i64 0, .int .i64 0]) 3 24 Try.underlying26 hi0 hz0 hz1 hz2 rfl (by decide) _ _ _ rfl (HO1.out.alloc _) ⟨w1.heap.size, 0, none⟩ 1 1 [.int .i64 (G k).x, .int .i64 (G k).y, .int .i64 (G k).z] rfl rfl (World.news_of_block (cs := #[.int .i64 (G k).x, .int .i64 (G k).y, .int .i64 (G k).z]) (t := 39) (fr := (0, 0)) (heap_alloc_new w1 _)) (by simp [Value.oneCell']) (by omega) (by unfold maxLen; omega) (by omega) (by simp; omega) (w1.heap.size + 1) (by simp) ?_; intro g cap' w4 hown4 hgrow hat hlt4)
      have HB4 := Lib.hid (Below.grown (Below.alloc HB.out (by have := HB.out.size; omega) _) hgrow (by simp; omega) (fun b hb => by have := (HO1.out.lt b hb).1; omega))
      go_roundw
      case rel => exact ⟨k + 1, by omega, by go_num, hown4, HB4.out⟩
      case measure => simp [intOf]; omega
    · obtain rfl : nv = k := by omega
      obtain ⟨ao, cap, rfl⟩ := own_slice' hown
      have BW : Below w.heap.size w wr := B0.trans (hbel.mono (by omega))
      have hm := (hbel.block w.heap.size (by omega)).trans HM.out
      have hr := (hbel.block (w.heap.size + 1) (by omega)).trans HR.out
      have hlm := lt_of_heap hm
      have hlr := lt_of_heap hr
      have mc0 : wr.cell? ⟨w.heap.size, 0, none⟩ = some (.slice av nv cv) := (by simp [World.cell?, hm]); have mf0 : wr.frozen? ⟨w.heap.size, 0, none⟩ = false := (by simp [World.frozen?, hm]); have mc1 : wr.cell? ⟨w.heap.size, 1, none⟩ = some (.slice af nf cf) := (by simp [World.cell?, hm]); have mf1 : wr.frozen? ⟨w.heap.size, 1, none⟩ = false := (by simp [World.frozen?, hm])
      have HR2 := Lib.hid hr
      have HBW := Lib.hid BW
      clear hm hr hbel BW hown
      go_wp2_with (go_at_call 57; refine (cloneF_any af nf cf F _ (HF.out.kept HBW.out) hnf).mono ?_; rintro e w5 ⟨a5, c5, rfl, ho5, hb5⟩; have HB5 := Lib.hid hb5; have HO5 := Lib.hid ho5; clear hb5 ho5; have hr5 := heap_keep HB5.out HR2.out; have HR5 := Lib.hid hr5; have rc0 : w5.cell? ⟨w.heap.size + 1, 0, none⟩ = some (.slice none 0 0) := (by simp [World.cell?, hr5]); have rf0 : w5.frozen? ⟨w.heap.size + 1, 0, none⟩ = false := (by simp [World.frozen?, hr5]); have rc1 : w5.cell? ⟨w.heap.size + 1, 1, none⟩ = some (.slice none 0 0) := (by simp [World.cell?, hr5]); have rf1 : w5.frozen? ⟨w.heap.size + 1, 1, none⟩ = false := (by simp [World.frozen?, hr5]); clear hr5)
      have hlr5 := lt_of_heap HR5.out
      have O1 := own_set (o := 1) (u := .slice a5 nf c5) (own_set (o := 0) (u := .slice ao nv cap) (ownsRow_below HO.out HB5.out) HR5.out (by decide)) (set2_0 HR5.out) (by decide)
      have O2 := own_set (o := 1) (u := .slice a5 nf c5) (own_set (o := 0) (u := .slice ao nv cap) HO5.out HR5.out (by decide)) (set2_0 HR5.out) (by decide)
      have R := Lib.hid ((HBW.out.trans (HB5.out.mono HBW.out.size)).setCell (p := ⟨w.heap.size + 1, 0, none⟩) (by show _ ≤ w.heap.size + 1; omega) (.slice ao nv cap) |>.setCell (p := ⟨w.heap.size + 1, 1, none⟩) (by show _ ≤ w.heap.size + 1; omega) (.slice a5 nf c5))
      have P1 := Lib.hid (own_base O1 (show w.heap.size ≤ w.heap.size + 1 + 1 by omega))
      have P2 := Lib.hid (own_base O2 (show w.heap.size ≤ wr.heap.size by have := HBW.out.size; omega))
      clear O1 O2
      exact bodyPost_ret (v := .agg #[.slice ao nv cap, .slice a5 nf c5]) (by simp [results, Try.results23, go_sem, rc0, rc1]) rfl ⟨_, _, _, _, rfl, P1.out, P2.out, R.out⟩

set_option maxRecDepth 100000 in
set_option maxHeartbeats 4000000 in
theorem placed_2  (G : Nat → V3) (av af : Option Addr) (nv cv nf cf : Nat) (V F : Nat → V3) (w : World) (hv : Row3 w av nv V) (hf : Row3 w af nf F) (hnv : nv ≤ 1000000) (hnf : nf ≤ 1000000)
    (hcl : ∀ W, Below w.heap.size w W → ∀ k, k < nv → Calls Try.prog 55 #[.agg #[.int .i64 (V k).x, .int .i64 (V k).y, .int .i64 (V k).z]] W fun e w' => e = .returned (.agg #[.int .i64 (G k).x, .int .i64 (G k).y, .int .i64 (G k).z]) ∧ Below W.heap.size W w') :
    Calls Try.prog 23 #[.agg #[.slice av nv cv, .slice af nf cf], .func (.func 55) #[] #[]] w (MeshP w nv G nf F) := by
  obtain ⟨i0, hi0, hz0, hz1, hz2⟩ := info_parts info_vec
  have HC := Lib.hid hcl
  have HV := Lib.hid hv
  have HF := Lib.hid hf
  clear hcl hv hf
  obtain ⟨MC, hMC, hmk⟩ := mk_vec nv hnv
  have HMC := Lib.hid hMC
  clear hMC
  go_enter Try.func23, Try.ntmps23
  go_wp2_with (fail)
  generalize hw0 : ((w.alloc (Obj.cells #[Value.slice av nv cv, Value.slice af nf cf] 29)).alloc (Obj.cells #[Value.slice none 0 0, Value.slice none 0 0] 29)) = w0
  have z0 : w0.heap.size = w.heap.size + 1 + 1 := by rw [← hw0]; simp
  have hM : w0.heap[w.heap.size]? = some (.cells #[.slice av nv cv, .slice af nf cf] 29 (0, 0)) := by rw [← hw0]; exact (by repeat (first | (refine heap_new ?_; first | rfl | (simp; done)) | rw [Below.heap_setCell _ _ _ _ (by simp <;> omega)] | rw [Below.heap_alloc _ _ _ (by simp <;> omega)]))
  have hR : w0.heap[w.heap.size + 1]? = some (.cells #[.slice none 0 0, .slice none 0 0] 29 (0, 0)) := by rw [← hw0]; exact (by repeat (first | (refine heap_new ?_; first | rfl | (simp; done)) | rw [Below.heap_setCell _ _ _ _ (by simp <;> omega)] | rw [Below.heap_alloc _ _ _ (by simp <;> omega)]))
  have B0 : Below w.heap.size w w0 := by rw [← hw0]; exact (by repeat (first | exact Below.refl _ _ | assumption | refine Below.drew ?_ | refine bdrewN ?_ _ | refine Below.setCell ?_ (by first | omega | (simp <;> omega)) _ | refine Below.alloc ?_ (by first | omega | (simp <;> omega)) _))
  have HM := Lib.hid hM
  have HR := Lib.hid hR
  have z0' : w.heap.size + 1 + 1 ≤ w0.heap.size := by omega
  have z0'' : w0.heap.size ≤ w.heap.size + 1 + 1 := by omega
  clear hM hR hw0 z0
  go_loopw [5, 15] (fun v i wr => ∃ k : Nat, k ≤ nv ∧ i = .int .i64 k ∧ wr.ownsRow (w.heap.size + 1 + 1) 39 3 v k (cells3 G k) ∧ Below w0.heap.size w0 wr) (fun _ i _ => nv - (intOf i).toNat)
  case atStart => exact ⟨0, by omega, rfl, made_at MC (by omega) (by omega) (by unfold maxLen; omega) HMC.out, (by repeat (first | exact Below.refl _ _ | assumption | refine Below.drew ?_ | refine bdrewN ?_ _ | refine Below.setCell ?_ (by first | omega | (simp <;> omega)) _ | refine Below.alloc ?_ (by first | omega | (simp <;> omega)) _))⟩
  case round =>
    obtain ⟨k, hk, rfl, hown, hbel⟩ := hrel
    have hsz := hbel.size
    have HO := Lib.hid hown
    clear hmk HMC
    by_cases hlt : k < nv
    · rcases HV.out with h | ⟨bf, of, rfl, hbf, hF⟩
      · omega
      have BW : Below w.heap.size w wr := B0.trans (hbel.mono (by omega))
      obtain ⟨c0, c1, c2⟩ := (hF.kept BW hbf) k hlt
      have hbw : bf < wr.heap.size := by omega
      clear hF hown
      have HBL := Lib.hid hbel
      have HBW := Lib.hid BW
      clear hbel BW
      go_wp2_with (fail)
      have hcall := HC.out (wr.alloc (.cells #[.int .i64 (V k).x, .int .i64 (V k).y, .int .i64 (V k).z] 39)) (Below.alloc HBW.out (by omega) _) k hlt
      refine hcall.mono ?_
      rintro e w1 ⟨rfl, hb1⟩
      have B1 : Below wr.heap.size wr w1 := Below.trans (by repeat (first | exact Below.refl _ _ | assumption | refine Below.drew ?_ | refine bdrewN ?_ _ | refine Below.setCell ?_ (by first | omega | (simp <;> omega)) _ | refine Below.alloc ?_ (by first | omega | (simp <;> omega)) _)) (hb1.mono (by simp))
      have z1 : wr.heap.size + 1 ≤ w1.heap.size := by have := hb1.size; simpa using this
      have HO1 := Lib.hid (ownsRow_below HO.out B1)
      have HB := Lib.hid (HBL.out.trans (B1.mono hsz))
      clear hb1 B1 hcall
      go_wp2_with (at_builtin; refine wpList_append_lies _ rfl _ _ 26 rfl (w.heap.size + 1 + 1) 39 i0 (.agg #[.int .i64 0, .int .i64 0, .int .i64 0]) 3 24 Try.underlying26 hi0 hz0 hz1 hz2 rfl (by decide) _ _ _ rfl (HO1.out.alloc _) ⟨w1.heap.size, 0, none⟩ 1 1 [.int .i64 (G k).x, .int .i64 (G k).y, .int .i64 (G k).z] rfl rfl (World.news_of_block (cs := #[.int .i64 (G k).x, .int .i64 (G k).y, .int .i64 (G k).z]) (t := 39) (fr := (0, 0)) (heap_alloc_new w1 _)) (by simp [Value.oneCell']) (by omega) (by unfold maxLen; omega) (by omega) (by simp; omega) (w1.heap.size + 1) (by simp) ?_; intro g cap' w4 hown4 hgrow hat hlt4)
      have HB4 := Lib.hid (Below.grown (Below.alloc HB.out (by have := HB.out.size; omega) _) hgrow (by simp; omega) (fun b hb => by have := (HO1.out.lt b hb).1; omega))
      go_roundw
      case rel => exact ⟨k + 1, by omega, by go_num, hown4, HB4.out⟩
      case measure => simp [intOf]; omega
    · obtain rfl : nv = k := by omega
      obtain ⟨ao, cap, rfl⟩ := own_slice' hown
      have BW : Below w.heap.size w wr := B0.trans (hbel.mono (by omega))
      have hm := (hbel.block w.heap.size (by omega)).trans HM.out
      have hr := (hbel.block (w.heap.size + 1) (by omega)).trans HR.out
      have hlm := lt_of_heap hm
      have hlr := lt_of_heap hr
      have mc0 : wr.cell? ⟨w.heap.size, 0, none⟩ = some (.slice av nv cv) := (by simp [World.cell?, hm]); have mf0 : wr.frozen? ⟨w.heap.size, 0, none⟩ = false := (by simp [World.frozen?, hm]); have mc1 : wr.cell? ⟨w.heap.size, 1, none⟩ = some (.slice af nf cf) := (by simp [World.cell?, hm]); have mf1 : wr.frozen? ⟨w.heap.size, 1, none⟩ = false := (by simp [World.frozen?, hm])
      have HR2 := Lib.hid hr
      have HBW := Lib.hid BW
      clear hm hr hbel BW hown
      go_wp2_with (go_at_call 57; refine (cloneF_any af nf cf F _ (HF.out.kept HBW.out) hnf).mono ?_; rintro e w5 ⟨a5, c5, rfl, ho5, hb5⟩; have HB5 := Lib.hid hb5; have HO5 := Lib.hid ho5; clear hb5 ho5; have hr5 := heap_keep HB5.out HR2.out; have HR5 := Lib.hid hr5; have rc0 : w5.cell? ⟨w.heap.size + 1, 0, none⟩ = some (.slice none 0 0) := (by simp [World.cell?, hr5]); have rf0 : w5.frozen? ⟨w.heap.size + 1, 0, none⟩ = false := (by simp [World.frozen?, hr5]); have rc1 : w5.cell? ⟨w.heap.size + 1, 1, none⟩ = some (.slice none 0 0) := (by simp [World.cell?, hr5]); have rf1 : w5.frozen? ⟨w.heap.size + 1, 1, none⟩ = false := (by simp [World.frozen?, hr5]); clear hr5)
      have hlr5 := lt_of_heap HR5.out
      have O1 := own_set (o := 1) (u := .slice a5 nf c5) (own_set (o := 0) (u := .slice ao nv cap) (ownsRow_below HO.out HB5.out) HR5.out (by decide)) (set2_0 HR5.out) (by decide)
      have O2 := own_set (o := 1) (u := .slice a5 nf c5) (own_set (o := 0) (u := .slice ao nv cap) HO5.out HR5.out (by decide)) (set2_0 HR5.out) (by decide)
      have R := Lib.hid ((HBW.out.trans (HB5.out.mono HBW.out.size)).setCell (p := ⟨w.heap.size + 1, 0, none⟩) (by show _ ≤ w.heap.size + 1; omega) (.slice ao nv cap) |>.setCell (p := ⟨w.heap.size + 1, 1, none⟩) (by show _ ≤ w.heap.size + 1; omega) (.slice a5 nf c5))
      have P1 := Lib.hid (own_base O1 (show w.heap.size ≤ w.heap.size + 1 + 1 by omega))
      have P2 := Lib.hid (own_base O2 (show w.heap.size ≤ wr.heap.size by have := HBW.out.size; omega))
      clear O1 O2
      exact bodyPost_ret (v := .agg #[.slice ao nv cap, .slice a5 nf c5]) (by simp [results, Try.results23, go_sem, rc0, rc1]) rfl ⟨_, _, _, _, rfl, P1.out, P2.out, R.out⟩

set_option maxRecDepth 100000 in
set_option maxHeartbeats 4000000 in
theorem placed_3  (G : Nat → V3) (av af : Option Addr) (nv cv nf cf : Nat) (V F : Nat → V3) (w : World) (hv : Row3 w av nv V) (hf : Row3 w af nf F) (hnv : nv ≤ 1000000) (hnf : nf ≤ 1000000)
    (hcl : ∀ W, Below w.heap.size w W → ∀ k, k < nv → Calls Try.prog 56 #[.agg #[.int .i64 (V k).x, .int .i64 (V k).y, .int .i64 (V k).z]] W fun e w' => e = .returned (.agg #[.int .i64 (G k).x, .int .i64 (G k).y, .int .i64 (G k).z]) ∧ Below W.heap.size W w') :
    Calls Try.prog 23 #[.agg #[.slice av nv cv, .slice af nf cf], .func (.func 56) #[] #[]] w (MeshP w nv G nf F) := by
  obtain ⟨i0, hi0, hz0, hz1, hz2⟩ := info_parts info_vec
  have HC := Lib.hid hcl
  have HV := Lib.hid hv
  have HF := Lib.hid hf
  clear hcl hv hf
  obtain ⟨MC, hMC, hmk⟩ := mk_vec nv hnv
  have HMC := Lib.hid hMC
  clear hMC
  go_enter Try.func23, Try.ntmps23
  go_wp2_with (fail)
  generalize hw0 : ((w.alloc (Obj.cells #[Value.slice av nv cv, Value.slice af nf cf] 29)).alloc (Obj.cells #[Value.slice none 0 0, Value.slice none 0 0] 29)) = w0
  have z0 : w0.heap.size = w.heap.size + 1 + 1 := by rw [← hw0]; simp
  have hM : w0.heap[w.heap.size]? = some (.cells #[.slice av nv cv, .slice af nf cf] 29 (0, 0)) := by rw [← hw0]; exact (by repeat (first | (refine heap_new ?_; first | rfl | (simp; done)) | rw [Below.heap_setCell _ _ _ _ (by simp <;> omega)] | rw [Below.heap_alloc _ _ _ (by simp <;> omega)]))
  have hR : w0.heap[w.heap.size + 1]? = some (.cells #[.slice none 0 0, .slice none 0 0] 29 (0, 0)) := by rw [← hw0]; exact (by repeat (first | (refine heap_new ?_; first | rfl | (simp; done)) | rw [Below.heap_setCell _ _ _ _ (by simp <;> omega)] | rw [Below.heap_alloc _ _ _ (by simp <;> omega)]))
  have B0 : Below w.heap.size w w0 := by rw [← hw0]; exact (by repeat (first | exact Below.refl _ _ | assumption | refine Below.drew ?_ | refine bdrewN ?_ _ | refine Below.setCell ?_ (by first | omega | (simp <;> omega)) _ | refine Below.alloc ?_ (by first | omega | (simp <;> omega)) _))
  have HM := Lib.hid hM
  have HR := Lib.hid hR
  have z0' : w.heap.size + 1 + 1 ≤ w0.heap.size := by omega
  have z0'' : w0.heap.size ≤ w.heap.size + 1 + 1 := by omega
  clear hM hR hw0 z0
  go_loopw [5, 15] (fun v i wr => ∃ k : Nat, k ≤ nv ∧ i = .int .i64 k ∧ wr.ownsRow (w.heap.size + 1 + 1) 39 3 v k (cells3 G k) ∧ Below w0.heap.size w0 wr) (fun _ i _ => nv - (intOf i).toNat)
  case atStart => exact ⟨0, by omega, rfl, made_at MC (by omega) (by omega) (by unfold maxLen; omega) HMC.out, (by repeat (first | exact Below.refl _ _ | assumption | refine Below.drew ?_ | refine bdrewN ?_ _ | refine Below.setCell ?_ (by first | omega | (simp <;> omega)) _ | refine Below.alloc ?_ (by first | omega | (simp <;> omega)) _))⟩
  case round =>
    obtain ⟨k, hk, rfl, hown, hbel⟩ := hrel
    have hsz := hbel.size
    have HO := Lib.hid hown
    clear hmk HMC
    by_cases hlt : k < nv
    · rcases HV.out with h | ⟨bf, of, rfl, hbf, hF⟩
      · omega
      have BW : Below w.heap.size w wr := B0.trans (hbel.mono (by omega))
      obtain ⟨c0, c1, c2⟩ := (hF.kept BW hbf) k hlt
      have hbw : bf < wr.heap.size := by omega
      clear hF hown
      have HBL := Lib.hid hbel
      have HBW := Lib.hid BW
      clear hbel BW
      go_wp2_with (fail)
      have hcall := HC.out (wr.alloc (.cells #[.int .i64 (V k).x, .int .i64 (V k).y, .int .i64 (V k).z] 39)) (Below.alloc HBW.out (by omega) _) k hlt
      refine hcall.mono ?_
      rintro e w1 ⟨rfl, hb1⟩
      have B1 : Below wr.heap.size wr w1 := Below.trans (by repeat (first | exact Below.refl _ _ | assumption | refine Below.drew ?_ | refine bdrewN ?_ _ | refine Below.setCell ?_ (by first | omega | (simp <;> omega)) _ | refine Below.alloc ?_ (by first | omega | (simp <;> omega)) _)) (hb1.mono (by simp))
      have z1 : wr.heap.size + 1 ≤ w1.heap.size := by have := hb1.size; simpa using this
      have HO1 := Lib.hid (ownsRow_below HO.out B1)
      have HB := Lib.hid (HBL.out.trans (B1.mono hsz))
      clear hb1 B1 hcall
      go_wp2_with (at_builtin; refine wpList_append_lies _ rfl _ _ 26 rfl (w.heap.size + 1 + 1) 39 i0 (.agg #[.int .i64 0, .int .i64 0, .int .i64 0]) 3 24 Try.underlying26 hi0 hz0 hz1 hz2 rfl (by decide) _ _ _ rfl (HO1.out.alloc _) ⟨w1.heap.size, 0, none⟩ 1 1 [.int .i64 (G k).x, .int .i64 (G k).y, .int .i64 (G k).z] rfl rfl (World.news_of_block (cs := #[.int .i64 (G k).x, .int .i64 (G k).y, .int .i64 (G k).z]) (t := 39) (fr := (0, 0)) (heap_alloc_new w1 _)) (by simp [Value.oneCell']) (by omega) (by unfold maxLen; omega) (by omega) (by simp; omega) (w1.heap.size + 1) (by simp) ?_; intro g cap' w4 hown4 hgrow hat hlt4)
      have HB4 := Lib.hid (Below.grown (Below.alloc HB.out (by have := HB.out.size; omega) _) hgrow (by simp; omega) (fun b hb => by have := (HO1.out.lt b hb).1; omega))
      go_roundw
      case rel => exact ⟨k + 1, by omega, by go_num, hown4, HB4.out⟩
      case measure => simp [intOf]; omega
    · obtain rfl : nv = k := by omega
      obtain ⟨ao, cap, rfl⟩ := own_slice' hown
      have BW : Below w.heap.size w wr := B0.trans (hbel.mono (by omega))
      have hm := (hbel.block w.heap.size (by omega)).trans HM.out
      have hr := (hbel.block (w.heap.size + 1) (by omega)).trans HR.out
      have hlm := lt_of_heap hm
      have hlr := lt_of_heap hr
      have mc0 : wr.cell? ⟨w.heap.size, 0, none⟩ = some (.slice av nv cv) := (by simp [World.cell?, hm]); have mf0 : wr.frozen? ⟨w.heap.size, 0, none⟩ = false := (by simp [World.frozen?, hm]); have mc1 : wr.cell? ⟨w.heap.size, 1, none⟩ = some (.slice af nf cf) := (by simp [World.cell?, hm]); have mf1 : wr.frozen? ⟨w.heap.size, 1, none⟩ = false := (by simp [World.frozen?, hm])
      have HR2 := Lib.hid hr
      have HBW := Lib.hid BW
      clear hm hr hbel BW hown
      go_wp2_with (go_at_call 57; refine (cloneF_any af nf cf F _ (HF.out.kept HBW.out) hnf).mono ?_; rintro e w5 ⟨a5, c5, rfl, ho5, hb5⟩; have HB5 := Lib.hid hb5; have HO5 := Lib.hid ho5; clear hb5 ho5; have hr5 := heap_keep HB5.out HR2.out; have HR5 := Lib.hid hr5; have rc0 : w5.cell? ⟨w.heap.size + 1, 0, none⟩ = some (.slice none 0 0) := (by simp [World.cell?, hr5]); have rf0 : w5.frozen? ⟨w.heap.size + 1, 0, none⟩ = false := (by simp [World.frozen?, hr5]); have rc1 : w5.cell? ⟨w.heap.size + 1, 1, none⟩ = some (.slice none 0 0) := (by simp [World.cell?, hr5]); have rf1 : w5.frozen? ⟨w.heap.size + 1, 1, none⟩ = false := (by simp [World.frozen?, hr5]); clear hr5)
      have hlr5 := lt_of_heap HR5.out
      have O1 := own_set (o := 1) (u := .slice a5 nf c5) (own_set (o := 0) (u := .slice ao nv cap) (ownsRow_below HO.out HB5.out) HR5.out (by decide)) (set2_0 HR5.out) (by decide)
      have O2 := own_set (o := 1) (u := .slice a5 nf c5) (own_set (o := 0) (u := .slice ao nv cap) HO5.out HR5.out (by decide)) (set2_0 HR5.out) (by decide)
      have R := Lib.hid ((HBW.out.trans (HB5.out.mono HBW.out.size)).setCell (p := ⟨w.heap.size + 1, 0, none⟩) (by show _ ≤ w.heap.size + 1; omega) (.slice ao nv cap) |>.setCell (p := ⟨w.heap.size + 1, 1, none⟩) (by show _ ≤ w.heap.size + 1; omega) (.slice a5 nf c5))
      have P1 := Lib.hid (own_base O1 (show w.heap.size ≤ w.heap.size + 1 + 1 by omega))
      have P2 := Lib.hid (own_base O2 (show w.heap.size ≤ wr.heap.size by have := HBW.out.size; omega))
      clear O1 O2
      exact bodyPost_ret (v := .agg #[.slice ao nv cap, .slice a5 nf c5]) (by simp [results, Try.results23, go_sem, rc0, rc1]) rfl ⟨_, _, _, _, rfl, P1.out, P2.out, R.out⟩
end Go.Proofs.Ytmcebhjcaacbpaa

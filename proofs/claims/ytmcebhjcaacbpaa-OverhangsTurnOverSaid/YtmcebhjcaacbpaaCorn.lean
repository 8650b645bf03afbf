/- The reference's corners of a face. -/
import Derived.Test.YtmcebhjcaacbpaaVec
set_option linter.unusedSimpArgs false
set_option linter.unusedVariables false
namespace Go.Proofs.Ytmcebhjcaacbpaa
open Go.RowKit

set_option maxHeartbeats 16000000 in
theorem corners_any (b off n cap : Nat) (V : Nat → V3) (i j k : Nat) (sf : Value) (hsf : sf.oneCell' = true) (hi : i < n) (hj : j < n) (hk : k < n) (w : World) (hb : b < w.heap.size) (hc : Tri w b off n V) :
    Calls Try.prog 72 #[.agg #[.slice (some ⟨b, off, none⟩) n cap, sf], .agg #[.int .i64 i, .int .i64 j, .int .i64 k]] w
      fun e w' => e = .returned (.tuple #[.agg #[.int .i64 (V i).x, .int .i64 (V i).y, .int .i64 (V i).z], .agg #[.int .i64 (V j).x, .int .i64 (V j).y, .int .i64 (V j).z], .agg #[.int .i64 (V k).x, .int .i64 (V k).y, .int .i64 (V k).z]]) ∧ Below w.heap.size w w' := by
  obtain ⟨ci0, ci1, ci2⟩ := hc i hi
  obtain ⟨cj0, cj1, cj2⟩ := hc j hj
  obtain ⟨ck0, ck1, ck2⟩ := hc k hk
  clear hc
  go_enter Try.func72, Try.ntmps72
  go_wp2
  generalize hw0 : ((((w.alloc (Obj.cells #[Value.slice (some { block := b, off := off }) n cap, sf] 29)).alloc (Obj.cells #[Value.int IntKind.i64 ↑i, Value.int IntKind.i64 ↑j, Value.int IntKind.i64 ↑k] 47)).alloc (Obj.cells #[Value.int IntKind.i64 0, Value.int IntKind.i64 0, Value.int IntKind.i64 0] 39)).alloc (Obj.cells #[Value.int IntKind.i64 0, Value.int IntKind.i64 0, Value.int IntKind.i64 0] 39)).alloc (Obj.cells #[Value.int IntKind.i64 0, Value.int IntKind.i64 0, Value.int IntKind.i64 0] 39) = w0
  have z4 : w.heap.size + 1 + 1 + 1 + 1 < w0.heap.size := by subst hw0; simp
  have zb : b < w0.heap.size := by omega
  have B0 : Below w.heap.size w w0 := by subst hw0; exact (by repeat (first | exact Below.refl _ _ | assumption | refine Below.drew ?_ | refine bdrewN ?_ _ | refine Below.setCell ?_ (by first | omega | (simp <;> omega)) _ | refine Below.alloc ?_ (by first | omega | (simp <;> omega)) _))
  have di0 := cellk B0 hb ci0
  have di1 := cellk B0 hb ci1
  have di2 := cellk B0 hb ci2
  have dj0 := cellk B0 hb cj0
  have dj1 := cellk B0 hb cj1
  have dj2 := cellk B0 hb cj2
  have dk0 := cellk B0 hb ck0
  have dk1 := cellk B0 hb ck1
  have dk2 := cellk B0 hb ck2
  have qc0 : w0.cell? ⟨w.heap.size, 0, none⟩ = some (.slice (some ⟨b, off, none⟩) n cap) := by subst hw0; simp [go_sem]
  have qc1 : w0.cell? ⟨w.heap.size + 1, 0, none⟩ = some (.int .i64 i) := by subst hw0; simp [go_sem]
  have qc2 : w0.cell? ⟨w.heap.size + 1, 1, none⟩ = some (.int .i64 j) := by subst hw0; simp [go_sem]
  have qc3 : w0.cell? ⟨w.heap.size + 1, 2, none⟩ = some (.int .i64 k) := by subst hw0; simp [go_sem]
  have qc4 : w0.cell? ⟨w.heap.size + 1 + 1, 0, none⟩ = some (.int .i64 0) := by subst hw0; simp [go_sem]
  have qc5 : w0.cell? ⟨w.heap.size + 1 + 1, 1, none⟩ = some (.int .i64 0) := by subst hw0; simp [go_sem]
  have qc6 : w0.cell? ⟨w.heap.size + 1 + 1, 2, none⟩ = some (.int .i64 0) := by subst hw0; simp [go_sem]
  have qf7 : w0.frozen? ⟨w.heap.size + 1 + 1, 0, none⟩ = false := by subst hw0; simp [go_sem]
  have qf8 : w0.frozen? ⟨w.heap.size + 1 + 1, 1, none⟩ = false := by subst hw0; simp [go_sem]
  have qf9 : w0.frozen? ⟨w.heap.size + 1 + 1, 2, none⟩ = false := by subst hw0; simp [go_sem]
  have qc10 : w0.cell? ⟨w.heap.size + 1 + 1 + 1, 0, none⟩ = some (.int .i64 0) := by subst hw0; simp [go_sem]
  have qc11 : w0.cell? ⟨w.heap.size + 1 + 1 + 1, 1, none⟩ = some (.int .i64 0) := by subst hw0; simp [go_sem]
  have qc12 : w0.cell? ⟨w.heap.size + 1 + 1 + 1, 2, none⟩ = some (.int .i64 0) := by subst hw0; simp [go_sem]
  have qf13 : w0.frozen? ⟨w.heap.size + 1 + 1 + 1, 0, none⟩ = false := by subst hw0; simp [go_sem]
  have qf14 : w0.frozen? ⟨w.heap.size + 1 + 1 + 1, 1, none⟩ = false := by subst hw0; simp [go_sem]
  have qf15 : w0.frozen? ⟨w.heap.size + 1 + 1 + 1, 2, none⟩ = false := by subst hw0; simp [go_sem]
  have qc16 : w0.cell? ⟨w.heap.size + 1 + 1 + 1 + 1, 0, none⟩ = some (.int .i64 0) := by subst hw0; simp [go_sem]
  have qc17 : w0.cell? ⟨w.heap.size + 1 + 1 + 1 + 1, 1, none⟩ = some (.int .i64 0) := by subst hw0; simp [go_sem]
  have qc18 : w0.cell? ⟨w.heap.size + 1 + 1 + 1 + 1, 2, none⟩ = some (.int .i64 0) := by subst hw0; simp [go_sem]
  have qf19 : w0.frozen? ⟨w.heap.size + 1 + 1 + 1 + 1, 0, none⟩ = false := by subst hw0; simp [go_sem]
  have qf20 : w0.frozen? ⟨w.heap.size + 1 + 1 + 1 + 1, 1, none⟩ = false := by subst hw0; simp [go_sem]
  have qf21 : w0.frozen? ⟨w.heap.size + 1 + 1 + 1 + 1, 2, none⟩ = false := by subst hw0; simp [go_sem]
  have zn2 : b ≠ w.heap.size + 1 + 1 := by omega
  have zn3 : b ≠ w.heap.size + 1 + 1 + 1 := by omega
  have zn4 : b ≠ w.heap.size + 1 + 1 + 1 + 1 := by omega
  have ha2 : ∀ o, o < 3 → (w0.cell? ⟨w.heap.size + 1 + 1, o, none⟩).isSome = true := by
    intro o ho; match o, ho with
    | 0, _ => exact is_some qc4
    | 1, _ => exact is_some qc5
    | 2, _ => exact is_some qc6
  have ha3 : ∀ o, o < 3 → (w0.cell? ⟨w.heap.size + 1 + 1 + 1, o, none⟩).isSome = true := by
    intro o ho; match o, ho with
    | 0, _ => exact is_some qc10
    | 1, _ => exact is_some qc11
    | 2, _ => exact is_some qc12
  have ha4 : ∀ o, o < 3 → (w0.cell? ⟨w.heap.size + 1 + 1 + 1 + 1, o, none⟩).isSome = true := by
    intro o ho; match o, ho with
    | 0, _ => exact is_some qc16
    | 1, _ => exact is_some qc17
    | 2, _ => exact is_some qc18
  have HA2 := Lib.hid ha2
  have HA3 := Lib.hid ha3
  have HA4 := Lib.hid ha4
  clear ha2 ha3 ha4
  clear ci0 ci1 ci2 cj0 cj1 cj2 ck0 ck1 ck2 hw0
  go_region
  all_goals
    generalize hW : World.setCell _ _ _ = W
    obtain ⟨r20, r21, r22, r30, r31, r32, r40, r41, r42⟩ := set9 (by omega) (by omega) (by omega) HA2.out HA3.out HA4.out hW
    have HB : Hid (Below w.heap.size w W) := by rw [← hW]; exact (((((((((B0).setCell (by dsimp only; omega) _).setCell (by dsimp only; omega) _).setCell (by dsimp only; omega) _).setCell (by dsimp only; omega) _).setCell (by dsimp only; omega) _).setCell (by dsimp only; omega) _).setCell (by dsimp only; omega) _).setCell (by dsimp only; omega) _).setCell (by dsimp only; omega) _
    clear hW
    go_wp2
    exact bodyPost_ret (v := .tuple #[.agg #[.int .i64 (V i).x, .int .i64 (V i).y, .int .i64 (V i).z], .agg #[.int .i64 (V j).x, .int .i64 (V j).y, .int .i64 (V j).z], .agg #[.int .i64 (V k).x, .int .i64 (V k).y, .int .i64 (V k).z]]) (by simp [results, Try.results72, go_sem, r20, r21, r22, r30, r31, r32, r40, r41, r42]) rfl ⟨rfl, by first | exact HB.out | exact HB.out.drew | exact bdrewN HB.out _⟩

end Go.Proofs.Ytmcebhjcaacbpaa

/- Places in space, as they are drawn. -/
import Derived.Test.YtmcebhjcaacbpaaOd
import Derived.Test.YtmcebhjcaacbpaaVec
set_option linter.unusedSimpArgs false
set_option linter.unusedVariables false
namespace Go.Proofs.Ytmcebhjcaacbpaa
open Go.RowKit

theorem Strm.setCell {w : World} {B k : Nat} (h : Strm w B k) {a : Addr} (ha : B < a.block) (v : Value) : Strm (w.setCell a v) B k :=
  h.kept ((Mut.refl (· = a.block) w).setCell (p := a) (fun _ => rfl) v) (fun x hx => by omega)
theorem Strm.drewN {w : World} {B k : Nat} (h : Strm w B k) (n : Nat) : Strm (w.drewN n) B k :=
  h.kept (S := fun _ => False) ⟨rfl, rfl, rfl, Nat.le_refl _, fun _ _ _ => rfl⟩ (fun _ _ h => h)
theorem Mut.drewN {S : Nat → Prop} {a w : World} (h : Mut S a w) (n : Nat) : Mut S a (w.drewN n) := ⟨h.os, h.tape, h.output, h.size, h.block⟩

theorem pick_at (B k : Nat) (l : List Int) (n : Nat) (P : Int → Prop) (w : World) (g : Nat) (hg : w.heap.size = g) (hs : Strm w B k) (hk : k + 1 ≤ 1000000) (hn : l.length = n) (h3 : 1 ≤ n) (h4 : n ≤ 1000000) (hP : ∀ z ∈ l, P z) :
    Calls Try.prog 38 #[.pointer (some ⟨B, 0, none⟩), .slice (some ⟨g, 0, none⟩) n n] (w.alloc (.cells (l.map (Value.int .i64)).toArray 3)) (StrmPost w B k 1 (IntE P)) := by
  subst hg; exact pick_new B k l n P w hs hk hn h3 h4 hP

/-- Three numbers, not far. -/
def VecE (e : Ending) : Prop := ∃ x y z : Int, e = .returned (.agg #[.int .i64 x, .int .i64 y, .int .i64 z]) ∧ (-1200000000000 ≤ x ∧ x ≤ 1200000000000) ∧ (-1200000000000 ≤ y ∧ y ≤ 1200000000000) ∧ (-1200000000000 ≤ z ∧ z ≤ 1200000000000)

set_option maxHeartbeats 2000000 in
theorem avec_any (B k : Nat) (w : World) (hs : Strm w B k) (hk : k + 6 ≤ 1000000) :
    Calls Try.prog 37 #[.pointer (some ⟨B, 0, none⟩)] w (StrmPost w B k 6 VecE) := by
  have hlt := hs.lt
  go_enter Try.func37, Try.ntmps37
  go_wp2_with fail
  refine (pick_at B k [0, 1, 3, -5, 100] 5 (fun z => -1000 ≤ z ∧ z ≤ 1000) (w.alloc (Obj.cells #[Value.int IntKind.i64 0, Value.int IntKind.i64 0, Value.int IntKind.i64 0] 39)) _ (by simp) (hs.alloc _) (by omega) rfl (by omega) (by omega) (by intro z hz; simp only [List.mem_cons, List.not_mem_nil, or_false] at hz; omega)).mono ?_
  rintro e w1 ⟨⟨x, rfl, hx1, hx2⟩, hst1, hm1⟩
  have z1 : w.heap.size + 1 ≤ w1.heap.size := by have := hm1.size; simpa using this
  have hR1 := (hm1.block w.heap.size (by simp) (by omega)).trans (heap_alloc_new w _)
  have HR1 := Lib.hid hR1
  clear hR1
  go_wp2_with fail
  refine (pick_new B (k + 1) [0, 2, -7, 50] 4 (fun z => -1000 ≤ z ∧ z ≤ 1000) w1 hst1 (by omega) rfl (by omega) (by omega) (by intro z hz; simp only [List.mem_cons, List.not_mem_nil, or_false] at hz; omega)).mono ?_
  rintro e w2 ⟨⟨y, rfl, hy1, hy2⟩, hst2, hm2⟩
  have z2 := hm2.size
  go_wp2_with fail
  refine (pick_new B (k + 1 + 1) [0, 0, 4, -2, 20] 5 (fun z => -1000 ≤ z ∧ z ≤ 1000) w2 hst2 (by omega) rfl (by omega) (by omega) (by intro z hz; simp only [List.mem_cons, List.not_mem_nil, or_false] at hz; omega)).mono ?_
  rintro e w3 ⟨⟨z, rfl, hz1, hz2⟩, hst3, hm3⟩
  have z3 := hm3.size
  go_wp2_with fail
  refine (flip_any B (k + 1 + 1 + 1) 40 _ (hst3.alloc _) (by omega) (by omega) (by omega)).mono ?_
  rintro e w4 ⟨⟨b, rfl⟩, hst4, hm4⟩
  have z4 : w3.heap.size + 1 ≤ w4.heap.size := by have := hm4.size; simpa using this
  have hR4 := (hm4.block w.heap.size (by simp; omega) (by omega)).trans ((Below.heap_alloc w3 _ w.heap.size (by omega)).trans ((hm3.block w.heap.size (by omega) (by omega)).trans ((hm2.block w.heap.size (by omega) (by omega)).trans HR1.out)))
  have hV4 := (hm4.block w3.heap.size (by simp) (by omega)).trans (heap_alloc_new w3 _)
  have M4 : Mut (· = B) w w4 := ((((((Mut.refl _ _).alloc _).trans hm1).trans hm2).trans hm3).alloc _).trans hm4
  clear hm1 hm2 hm3 hm4 hst1 hst2 hst3
  have hne : w.heap.size ≠ w3.heap.size := by omega
  have hlt2 : w.heap.size < w3.heap.size := by omega
  cases b
  · have rc0 : w4.cell? ⟨w.heap.size, 0, none⟩ = some (.int .i64 0) := (by simp [World.cell?, hR4]); have rf0 : w4.frozen? ⟨w.heap.size, 0, none⟩ = false := (by simp [World.frozen?, hR4]); have rc1 : w4.cell? ⟨w.heap.size, 1, none⟩ = some (.int .i64 0) := (by simp [World.cell?, hR4]); have rf1 : w4.frozen? ⟨w.heap.size, 1, none⟩ = false := (by simp [World.frozen?, hR4]); have rc2 : w4.cell? ⟨w.heap.size, 2, none⟩ = some (.int .i64 0) := (by simp [World.cell?, hR4]); have rf2 : w4.frozen? ⟨w.heap.size, 2, none⟩ = false := (by simp [World.frozen?, hR4])
    have vc0 : w4.cell? ⟨w3.heap.size, 0, none⟩ = some (.int .i64 x) := (by simp [World.cell?, hV4]); have vf0 : w4.frozen? ⟨w3.heap.size, 0, none⟩ = false := (by simp [World.frozen?, hV4]); have vc1 : w4.cell? ⟨w3.heap.size, 1, none⟩ = some (.int .i64 y) := (by simp [World.cell?, hV4]); have vf1 : w4.frozen? ⟨w3.heap.size, 1, none⟩ = false := (by simp [World.frozen?, hV4]); have vc2 : w4.cell? ⟨w3.heap.size, 2, none⟩ = some (.int .i64 z) := (by simp [World.cell?, hV4]); have vf2 : w4.frozen? ⟨w3.heap.size, 2, none⟩ = false := (by simp [World.frozen?, hV4])
    clear hR4 hV4
    go_wp2
    exact bodyPost_ret (v := .agg #[.int .i64 x, .int .i64 y, .int .i64 z]) (by simp [results, Try.results37, go_sem, rc0, rc1, rc2]) rfl
      ⟨⟨x, y, z, rfl, by omega, by omega, by omega⟩, (((hst4.setCell (by show B < w.heap.size; omega) _).setCell (by show B < w.heap.size; omega) _).setCell (by show B < w.heap.size; omega) _).more (by omega) (by omega), (((M4.setCell (fun h => absurd h (by simp)) _).setCell (fun h => absurd h (by simp)) _).setCell (fun h => absurd h (by simp)) _)⟩
  · go_wp2_with fail
    refine (odd_any B (k + 1 + 1 + 1 + 1) _ _ w4 hst4 (by omega) (by omega) (by omega) (by omega)).mono ?_
    rintro e w5 ⟨⟨o, rfl, ho1, ho2⟩, hst5, hm5⟩
    have z5 := hm5.size
    have hR5 := (hm5.block w.heap.size (by omega) (by omega)).trans hR4
    have hV5 := (hm5.block w3.heap.size (by omega) (by omega)).trans hV4
    have M5 := M4.trans hm5
    clear hm5 hR4 hV4 M4
    have rc0 : w5.cell? ⟨w.heap.size, 0, none⟩ = some (.int .i64 0) := (by simp [World.cell?, hR5]); have rf0 : w5.frozen? ⟨w.heap.size, 0, none⟩ = false := (by simp [World.frozen?, hR5]); have rc1 : w5.cell? ⟨w.heap.size, 1, none⟩ = some (.int .i64 0) := (by simp [World.cell?, hR5]); have rf1 : w5.frozen? ⟨w.heap.size, 1, none⟩ = false := (by simp [World.frozen?, hR5]); have rc2 : w5.cell? ⟨w.heap.size, 2, none⟩ = some (.int .i64 0) := (by simp [World.cell?, hR5]); have rf2 : w5.frozen? ⟨w.heap.size, 2, none⟩ = false := (by simp [World.frozen?, hR5])
    have vc0 : w5.cell? ⟨w3.heap.size, 0, none⟩ = some (.int .i64 x) := (by simp [World.cell?, hV5]); have vf0 : w5.frozen? ⟨w3.heap.size, 0, none⟩ = false := (by simp [World.frozen?, hV5]); have vc1 : w5.cell? ⟨w3.heap.size, 1, none⟩ = some (.int .i64 y) := (by simp [World.cell?, hV5]); have vf1 : w5.frozen? ⟨w3.heap.size, 1, none⟩ = false := (by simp [World.frozen?, hV5]); have vc2 : w5.cell? ⟨w3.heap.size, 2, none⟩ = some (.int .i64 z) := (by simp [World.cell?, hV5]); have vf2 : w5.frozen? ⟨w3.heap.size, 2, none⟩ = false := (by simp [World.frozen?, hV5])
    clear hR5 hV5
    go_wp2
    exact bodyPost_ret (v := .agg #[.int .i64 o, .int .i64 y, .int .i64 z]) (by simp [results, Try.results37, go_sem, rc0, rc1, rc2, vc0, vc1, vc2, hne]) rfl
      ⟨⟨o, y, z, rfl, by omega, by omega, by omega⟩, ((((hst5.setCell (by show B < w3.heap.size; omega) _).setCell (by show B < w.heap.size; omega) _).setCell (by show B < w.heap.size; omega) _).setCell (by show B < w.heap.size; omega) _).more (by omega) (by omega), ((((M5.setCell (fun h => absurd h (by dsimp only; omega)) _).setCell (fun h => absurd h (by simp)) _).setCell (fun h => absurd h (by simp)) _).setCell (fun h => absurd h (by simp)) _)⟩
end Go.Proofs.Ytmcebhjcaacbpaa

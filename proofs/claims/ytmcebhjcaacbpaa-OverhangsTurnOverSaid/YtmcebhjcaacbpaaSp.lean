/- A mesh that is changed at one place. -/
import Derived.Test.YtmcebhjcaacbpaaOd
import Derived.Test.YtmcebhjcaacbpaaDel
import Derived.Test.YtmcebhjcaacbpaaHold
import Derived.Deep.AppendLies
import Derived.Deep.RegionLaw
set_option linter.unusedSimpArgs false
set_option linter.unusedVariables false
namespace Go.Proofs.Ytmcebhjcaacbpaa
open Go.RowKit

theorem Strm.drew {w : World} {B k : Nat} (h : Strm w B k) : Strm w.drew B k := h.drewN 1

theorem own_two {w : World} {base base' : Nat} {e e' : TypeId} {size size' g n n' cap cap' : Nat} {xs xs' : List Value} (h : w.ownsRow base e size (.slice (some ⟨g, 0, none⟩) n cap) n xs) (h' : w.ownsRow base' e' size' (.slice (some ⟨g, 0, none⟩) n' cap') n' xs') (he : e ≠ e') : False := by
  rcases h.2 with ⟨h1, _⟩ | ⟨g1, c1, cur, hv, _, hh, _⟩
  · cases h1
  · simp only [Value.slice.injEq, Option.some.injEq, Addr.mk.injEq, true_and, and_true] at hv
    obtain ⟨rfl, rfl⟩ := hv
    exact own_ne h' hh he rfl

/-- A mesh whose slices own their rows, whatever the faces are. -/
structure MAny (w : World) (base : Nat) (sv sf : Value) (nv nf : Nat) : Prop where
  v : ∃ xs, w.ownsRow base 39 3 sv nv xs ∧ AllInt (fun _ => True) xs
  f : ∃ xs, w.ownsRow base 47 3 sf nf xs ∧ AllInt (fun _ => True) xs
theorem MIn.any {w : World} {base : Nat} {sv sf : Value} {nv nf : Nat} (h : MIn w base sv sf nv nf) : MAny w base sv sf nv nf :=
  ⟨h.v, let ⟨x, h1, h2⟩ := h.f; ⟨x, h1, h2.mono fun _ _ => trivial⟩⟩

def SpoilPost (w : World) (B Bm base k nv nf : Nat) (e : Ending) (w' : World) : Prop :=
  e = .returned (.tuple #[]) ∧ ∃ sv sf nf', nf' ≤ nf + 1 ∧ w'.heap[Bm]? = some (.cells #[sv, sf] 29 (0, 0)) ∧ MAny w' base sv sf nv nf' ∧ Strm w' B (k + 5) ∧ Mut (fun b => b = B ∨ base ≤ b) w w'

/-- What a change keeps: the mesh's own two slices. -/
structure SpSt (w : World) (Bm base gv cv gf cf nv nf : Nat) : Prop where
  m : w.heap[Bm]? = some (.cells #[.slice (some ⟨gv, 0, none⟩) nv cv, .slice (some ⟨gf, 0, none⟩) nf cf] 29 (0, 0))
  a : MAny w base (.slice (some ⟨gv, 0, none⟩) nv cv) (.slice (some ⟨gf, 0, none⟩) nf cf) nv nf
theorem AllInt.set {P : Int → Prop} {xs : List Value} (h : AllInt P xs) (j : Nat) {z : Int} (hz : P z) : AllInt P (xs.set j (.int .i64 z)) := fun u hu => by
  rcases List.mem_or_eq_of_mem_set hu with h' | rfl
  · exact h u h'
  · exact ⟨z, rfl, hz⟩
theorem SpSt.mut {S : Nat → Prop} {w w' : World} {Bm base gv cv gf cf nv nf : Nat} (h : SpSt w Bm base gv cv gf cf nv nf) (hm : Mut S w w') (hs : ∀ b, S b → b < base) (hB : base ≤ Bm) : SpSt w' Bm base gv cv gf cf nv nf := by
  obtain ⟨h0, ⟨x, h1, h2⟩, y, h3, h4⟩ := h
  exact ⟨(hm.block Bm (lt_of_heap h0) (fun e => by have := hs _ e; omega)).trans h0, ⟨x, own_mut h1 hm (fun b hb hS => by have := (h1.lt b hb).1; have := hs b hS; omega), h2⟩, y, own_mut h3 hm (fun b hb hS => by have := (h3.lt b hb).1; have := hs b hS; omega), h4⟩
theorem SpSt.sf {w : World} {Bm base gv cv gf cf nv nf : Nat} (h : SpSt w Bm base gv cv gf cf nv nf) (j : Nat) (z : Int) : SpSt (w.setCell ⟨gf, j, none⟩ (.int .i64 z)) Bm base gv cv gf cf nv nf := by
  obtain ⟨h0, ⟨x, h1, h2⟩, y, h3, h4⟩ := h
  have n1 : Bm ≠ gf := fun e => by subst e; exact own_ne h3 h0 (by decide) rfl
  exact ⟨(Below.heap_setCell _ _ _ _ n1).trans h0, ⟨x, own_mut h1 ((Mut.refl (· = gf) w).setCell (p := ⟨gf, j, none⟩) (fun _ => rfl) _) (fun b hb e => by
    simp only [Value.ownBlock, Option.some.injEq] at hb
    subst hb; subst e; exact own_two h1 h3 (by decide)), h2⟩, _, (h3.stored j _).1, h4.set j trivial⟩
theorem SpSt.sv {w : World} {Bm base gv cv gf cf nv nf : Nat} (h : SpSt w Bm base gv cv gf cf nv nf) (j : Nat) (z : Int) : SpSt (w.setCell ⟨gv, j, none⟩ (.int .i64 z)) Bm base gv cv gf cf nv nf := by
  obtain ⟨h0, ⟨x, h1, h2⟩, y, h3, h4⟩ := h
  have n1 : Bm ≠ gv := fun e => by subst e; exact own_ne h1 h0 (by decide) rfl
  exact ⟨(Below.heap_setCell _ _ _ _ n1).trans h0, ⟨_, (h1.stored j _).1, h2.set j trivial⟩, y, own_mut h3 ((Mut.refl (· = gv) w).setCell (p := ⟨gv, j, none⟩) (fun _ => rfl) _) (fun b hb e => by
    simp only [Value.ownBlock, Option.some.injEq] at hb
    subst hb; subst e; exact own_two h1 h3 (by decide)), h4⟩
theorem hof_heap {w : World} {base g n cap : Nat} {e : TypeId} {xs : List Value} (h : w.ownsRow base e 3 (.slice (some ⟨g, 0, none⟩) n cap) n xs) : w.heap[g]? = some ((w.heap[g]?).getD (.cells #[] 0 (0, 0))) := by
  rcases h.2 with ⟨h1, _⟩ | ⟨g1, c1, cur, hv, _, hh, _⟩
  · cases h1
  · simp only [Value.slice.injEq, Option.some.injEq, Addr.mk.injEq, true_and, and_true] at hv
    obtain ⟨rfl, rfl⟩ := hv
    rw [hh]; rfl
theorem sp_post {w w' : World} {B Bm base k nv nf gv cv gf cf k' : Nat} (h : SpSt w' Bm base gv cv gf cf nv nf) (hs : Strm w' B k') (hk : k' ≤ k + 5) (hk2 : k + 5 ≤ 1000000) (hm : Mut (fun b => b = B ∨ base ≤ b) w w') :
    SpoilPost w B Bm base k nv nf (.returned (.tuple #[])) w' :=
  ⟨rfl, _, _, nf, by omega, h.m, h.a, hs.more hk hk2, hm⟩

theorem sp_append {w w2 w6 : World} {B Bm base k nv nf gv cv gf cf g cap' k' : Nat} {o : Obj} {zs : List Value} (h : SpSt w2 Bm base gv cv gf cf nv nf) (hs : Strm w2 B k') (hk : k' ≤ k + 5) (hk2 : k + 5 ≤ 1000000) (hm : Mut (fun b => b = B ∨ base ≤ b) w w2) (hB : B < base) (hBm : base ≤ Bm)
    (hgrow : ((w2.alloc o).drew).grownBy w6 (Value.ownBlock (.slice (some ⟨gf, 0, none⟩) nf cf))) (hown : w6.ownsRow base 47 3 (.slice (some ⟨g, 0, none⟩) (nf + 1) cap') (nf + 1) zs) (hz : AllInt (fun _ => True) zs) :
    SpoilPost w B Bm base k nv nf (.returned (.tuple #[])) (w6.setCell ⟨Bm, 1, none⟩ (.slice (some ⟨g, 0, none⟩) (nf + 1) cap')) := by
  obtain ⟨h0, ⟨x, h1, h2⟩, y, h3, h4⟩ := h
  have lf := (h3.lt gf rfl).1
  have hM : Mut (· = gf) w2 w6 := (((Mut.refl _ w2).alloc o).drew).trans ⟨hgrow.os, hgrow.tape, hgrow.output, hgrow.size, fun k hk hn => hgrow.block k hk (by simp only [Value.ownBlock, ne_eq, Option.some.injEq]; exact hn)⟩
  have n1 : ¬ Bm = gf := fun e => by subst e; exact own_ne h3 h0 (by decide) rfl
  have hm6 := (hM.block Bm (lt_of_heap h0) n1).trans h0
  refine ⟨rfl, _, _, nf + 1, by omega, set2_1 hm6, ⟨⟨x, own_set (own_mut h1 hM (fun b hb e => by
    simp only [Value.ownBlock, Option.some.injEq] at hb
    subst hb; subst e; exact own_two h1 h3 (by decide))) hm6 (by decide), h2⟩, _, own_set hown hm6 (by decide), hz⟩, ?_, ?_⟩
  · exact ((hs.kept hM (fun x hx => by omega)).setCell (by dsimp only; omega) _).more hk hk2
  · exact (hm.trans (hM.mono fun b _ hb => .inr (by omega))).setCell (fun _ => .inr hBm) _

set_option maxRecDepth 100000 in
set_option maxHeartbeats 8000000 in
theorem spoil_any (B Bm base k nv nf gv cv gf cf : Nat) (w : World) (hs : Strm w B k) (hk : k + 5 ≤ 1000000) (hB : B < base) (hBm : base ≤ Bm)
    (hM : w.heap[Bm]? = some (.cells #[.slice (some ⟨gv, 0, none⟩) nv cv, .slice (some ⟨gf, 0, none⟩) nf cf] 29 (0, 0)))
    (hin : MIn w base (.slice (some ⟨gv, 0, none⟩) nv cv) (.slice (some ⟨gf, 0, none⟩) nf cf) nv nf) (hv0 : 1 ≤ nv) (hv1 : nv ≤ 1000) (hf0 : 1 ≤ nf) (hf1 : nf ≤ 1000) :
    Calls Try.prog 43 #[.pointer (some ⟨B, 0, none⟩), .pointer (some ⟨Bm, 0, none⟩)] w (SpoilPost w B Bm base k nv nf) := by
  obtain ⟨i1, hi1, hy0, hy1, hy2⟩ := info_parts info_face
  have hBm0 := lt_of_heap hM
  have mc0 : w.cell? ⟨Bm, 0, none⟩ = some (.slice (some ⟨gv, 0, none⟩) nv cv) := (by simp [World.cell?, hM]); have mf0 : w.frozen? ⟨Bm, 0, none⟩ = false := (by simp [World.frozen?, hM]); have mc1 : w.cell? ⟨Bm, 1, none⟩ = some (.slice (some ⟨gf, 0, none⟩) nf cf) := (by simp [World.cell?, hM]); have mf1 : w.frozen? ⟨Bm, 1, none⟩ = false := (by simp [World.frozen?, hM])
  have HIN := Lib.hid hin
  have HM := Lib.hid hM
  have HST := Lib.hid hs
  clear hM hin hs
  have hnf0 : (1 : Int) ≤ (nf : Int) := by omega
  go_enter Try.func43, Try.ntmps43
  go_wp2_with fail
  go_region_held3 (fun w' => w'.cell? ⟨Bm, 0, none⟩ = some (.slice (some ⟨gv, 0, none⟩) nv cv) ∧ w'.cell? ⟨Bm, 1, none⟩ = some (.slice (some ⟨gf, 0, none⟩) nf cf))
    (first | exact ⟨mc0, mc1⟩ | exact ⟨(hm1.cell (p := ⟨Bm, 0, none⟩) (by exact hBm0) (by dsimp only; omega)).trans mc0, (hm1.cell (p := ⟨Bm, 1, none⟩) (by exact hBm0) (by dsimp only; omega)).trans mc1⟩)
    (first
      | (go_at_call 41; refine (next_any B k _ w.drew HST.out.drew (by omega) hnf0 (by omega)).mono ?_; rintro e w1 ⟨⟨r, rfl, h5, h6⟩, hst, hm1⟩; obtain ⟨i, rfl⟩ := Int.eq_ofNat_of_zero_le h5))
  clear ‹_ ∧ _›
  have hi : i < nf := by omega
  clear h5 h6
  go_wp2_with fail
  refine (next_any B (k + 1) 5 w1 hst (by omega) (by omega) (by omega)).mono ?_
  rintro e w2 ⟨⟨r, rfl, h5, h6⟩, hst2, hm2⟩
  obtain ⟨c, rfl⟩ := Int.eq_ofNat_of_zero_le h5
  have hc : c < 5 := by omega
  have M2 : Mut (· = B) w w2 := (((Mut.refl _ w).drew).trans hm1).trans hm2
  have hM2 := (M2.block Bm hBm0 (by omega)).trans HM.out
  have hI2 : MIn w2 base (.slice (some ⟨gv, 0, none⟩) nv cv) (.slice (some ⟨gf, 0, none⟩) nf cf) nv nf := HIN.out.mut M2 (fun b hb => by omega)
  obtain ⟨⟨xs, hov, hav⟩, ys, hof, haf⟩ := hI2
  obtain ⟨a0, fa0, pa0, _⟩ := own_cells hof haf (i * 3) (by omega)
  obtain ⟨a1, fa1, pa1, _⟩ := own_cells hof haf (i * 3 + 1) (by omega)
  obtain ⟨a2, fa2, pa2, _⟩ := own_cells hof haf (i * 3 + 2) (by omega)
  have fz := fun t => hof.frozenAt t
  have vz := fun t => hov.frozenAt t
  have lv := (hov.lt gv rfl)
  have lf := (hof.lt gf rfl)
  have hvf : gv ≠ gf := fun e => by subst e; exact own_two hov hof (by decide)
  have hvm : gv ≠ Bm := fun e => by subst e; exact own_ne hov hM2 (by decide) rfl
  have hfm : gf ≠ Bm := fun e => by subst e; exact own_ne hof hM2 (by decide) rfl
  have f0 := fz (i * 3)
  have f1 := fz (i * 3 + 1)
  have f2 := fz (i * 3 + 2)
  have HSP : Hid (SpSt w2 Bm base gv cv gf cf nv nf) := ⟨hM2, ⟨xs, hov, hav⟩, ys, hof, haf.mono fun _ _ => trivial⟩
  have HMU : Hid (Mut (fun b => b = B ∨ base ≤ b) w w2) := M2.mono fun _ _ h => .inl h
  have HOV := Lib.hid hov
  have HAV := Lib.hid hav
  have HOF := Lib.hid hof
  have HAF := Lib.hid haf
  have HM2 := Lib.hid hM2
  have HFZ := Lib.hid fz
  have HVZ := Lib.hid vz
  have hBm2 := lt_of_heap hM2
  clear mc0 mf0 mc1 mf1 hm1 hm2 hst
  have mc0 : w2.cell? ⟨Bm, 0, none⟩ = some (.slice (some ⟨gv, 0, none⟩) nv cv) := (by simp [World.cell?, hM2]); have mf0 : w2.frozen? ⟨Bm, 0, none⟩ = false := (by simp [World.frozen?, hM2]); have mc1 : w2.cell? ⟨Bm, 1, none⟩ = some (.slice (some ⟨gf, 0, none⟩) nf cf) := (by simp [World.cell?, hM2]); have mf1 : w2.frozen? ⟨Bm, 1, none⟩ = false := (by simp [World.frozen?, hM2])
  clear hov hav hof haf hM2 fz vz h5 h6
  match c, hc with
  | 0, _ =>
    have lf2 := lt_of_heap (hof_heap HOF.out)
    have K1 : ∀ W, Mut (· = B) w2 W → W.cell? ⟨Bm, 0, none⟩ = some (.slice (some ⟨gv, 0, none⟩) nv cv) ∧ W.cell? ⟨gf, i * 3 + 1, none⟩ = some (.int .i64 a1) ∧ W.cell? ⟨gf, i * 3, none⟩ = some (rd W gf (i * 3)) ∧ W.frozen? ⟨gf, i * 3, none⟩ = false ∧ SpSt W Bm base gv cv gf cf nv nf ∧ Mut (fun b => b = B ∨ base ≤ b) w W := fun W M =>
      ⟨(M.cell (p := ⟨Bm, 0, none⟩) (by exact hBm2) (by dsimp only; omega)).trans mc0, (M.cell (p := ⟨gf, i * 3 + 1, none⟩) (by exact lf2) (by dsimp only; omega)).trans fa1,
        rd_of ((M.cell (p := ⟨gf, i * 3, none⟩) (by exact lf2) (by dsimp only; omega)).trans fa0), (M.frozen (p := ⟨gf, i * 3, none⟩) (by exact lf2) (by dsimp only; omega)).trans f0,
        HSP.out.mut M (fun b hb => by omega) hBm, HMU.out.trans (M.mono fun _ _ h => .inl h)⟩
    have K2 : ∀ W z, W.cell? ⟨Bm, 0, none⟩ = some (.slice (some ⟨gv, 0, none⟩) nv cv) ∧ W.cell? ⟨gf, i * 3 + 1, none⟩ = some (.int .i64 a1) ∧ W.cell? ⟨gf, i * 3, none⟩ = some (rd W gf (i * 3)) ∧ W.frozen? ⟨gf, i * 3, none⟩ = false ∧ SpSt W Bm base gv cv gf cf nv nf ∧ Mut (fun b => b = B ∨ base ≤ b) w W → (W.setCell ⟨gf, i * 3, none⟩ (.int .i64 z)).cell? ⟨Bm, 0, none⟩ = some (.slice (some ⟨gv, 0, none⟩) nv cv) ∧ (W.setCell ⟨gf, i * 3, none⟩ (.int .i64 z)).cell? ⟨gf, i * 3 + 1, none⟩ = some (.int .i64 a1) ∧ (W.setCell ⟨gf, i * 3, none⟩ (.int .i64 z)).cell? ⟨gf, i * 3, none⟩ = some (rd (W.setCell ⟨gf, i * 3, none⟩ (.int .i64 z)) gf (i * 3)) ∧ (W.setCell ⟨gf, i * 3, none⟩ (.int .i64 z)).frozen? ⟨gf, i * 3, none⟩ = false ∧ SpSt (W.setCell ⟨gf, i * 3, none⟩ (.int .i64 z)) Bm base gv cv gf cf nv nf ∧ Mut (fun b => b = B ∨ base ≤ b) w (W.setCell ⟨gf, i * 3, none⟩ (.int .i64 z)) := fun W z ⟨h1, h2, h3, h4, h5, h6⟩ =>
      ⟨(sc_other (ne_block hfm)).trans h1, (sc_other (ne_off (by omega))).trans h2, rd_of (sc_same h3), (World.frozen?_setCell ..).trans h4, h5.sf _ _, h6.setCell (fun _ => .inr lf.1) _⟩
    have HK1 := Lib.hid K1
    have HK2 := Lib.hid K2
    clear K1 K2
    go_wp2
    go_region_held3 (fun w' => w'.cell? ⟨Bm, 0, none⟩ = some (.slice (some ⟨gv, 0, none⟩) nv cv) ∧ w'.cell? ⟨gf, i * 3 + 1, none⟩ = some (.int .i64 a1) ∧ w'.cell? ⟨gf, i * 3, none⟩ = some (rd w' gf (i * 3)) ∧ w'.frozen? ⟨gf, i * 3, none⟩ = false ∧ SpSt w' Bm base gv cv gf cf nv nf ∧ Mut (fun b => b = B ∨ base ≤ b) w w')
      (first | exact HK1.out _ (Mut.refl _ w2).drew | exact HK1.out _ (((Mut.refl _ w2).drew).alloc _) | exact HK1.out _ (((Mut.refl _ w2).drew).trans hm3) | exact HK2.out _ _ (by assumption))
      (first
        | (go_at_call 38; refine (pick_at B (k + 1 + 1) [-1, (nv : Int), a1] 3 (fun _ => True) w2.drew _ (by simp) hst2.drew (by omega) rfl (by omega) (by omega) (fun _ _ => trivial)).mono ?_; rintro e w3 ⟨⟨z, rfl, _⟩, hst3, hm3⟩))
    all_goals
      obtain ⟨_, _, _, _, h5, h6⟩ := ‹_ ∧ _ ∧ _ ∧ _ ∧ SpSt _ _ _ _ _ _ _ _ _ ∧ Mut _ w _›
      have H5 := Lib.hid h5
      have H6 := Lib.hid h6
      clear h5 h6
      go_wp2
      go_end0
      exact sp_post H5.out (hst3.setCell (by dsimp only; omega) _) (by omega) hk H6.out
  | 1, _ =>
    go_wp2
    go_region
    all_goals
      go_wp2
      go_end0
      exact sp_post ((((HSP.out.mut (Mut.refl (fun _ => False) w2).drew (fun _ h => h.elim) hBm).sf _ _).sf _ _)) ((hst2.drew.setCell (by dsimp only; omega) _).setCell (by dsimp only; omega) _) (by omega) hk ((HMU.out.drew.setCell (fun _ => .inr lf.1) _).setCell (fun _ => .inr lf.1) _)
  | 2, _ =>
    have lv2 := lt_of_heap (hof_heap HOV.out)
    have hcv : ∀ o, o < nv * 3 → ∃ u, w2.cell? ⟨gv, o, none⟩ = some u := fun o ho => by
      obtain ⟨z, h1, _⟩ := own_cells HOV.out HAV.out o ho
      exact ⟨_, h1⟩
    have K1 : ∀ W, Mut (· = B) w2 W → W.cell? ⟨Bm, 0, none⟩ = some (.slice (some ⟨gv, 0, none⟩) nv cv) ∧ (∀ o, o < nv * 3 → W.cell? ⟨gv, o, none⟩ = some (rd W gv o)) ∧ (∀ o, W.frozen? ⟨gv, o, none⟩ = false) ∧ SpSt W Bm base gv cv gf cf nv nf ∧ Mut (fun b => b = B ∨ base ≤ b) w W := fun W M =>
      ⟨(M.cell (p := ⟨Bm, 0, none⟩) (by exact hBm2) (by dsimp only; omega)).trans mc0, fun o ho => by
          obtain ⟨u, hu⟩ := hcv o ho
          exact rd_of ((M.cell (p := ⟨gv, o, none⟩) (by exact lv2) (by dsimp only; omega)).trans hu),
        fun o => (M.frozen (p := ⟨gv, o, none⟩) (by exact lv2) (by dsimp only; omega)).trans (HVZ.out o),
        HSP.out.mut M (fun b hb => by omega) hBm, HMU.out.trans (M.mono fun _ _ h => .inl h)⟩
    have K2 : ∀ W o z, W.cell? ⟨Bm, 0, none⟩ = some (.slice (some ⟨gv, 0, none⟩) nv cv) ∧ (∀ o, o < nv * 3 → W.cell? ⟨gv, o, none⟩ = some (rd W gv o)) ∧ (∀ o, W.frozen? ⟨gv, o, none⟩ = false) ∧ SpSt W Bm base gv cv gf cf nv nf ∧ Mut (fun b => b = B ∨ base ≤ b) w W → (W.setCell ⟨gv, o, none⟩ (.int .i64 z)).cell? ⟨Bm, 0, none⟩ = some (.slice (some ⟨gv, 0, none⟩) nv cv) ∧ (∀ o', o' < nv * 3 → (W.setCell ⟨gv, o, none⟩ (.int .i64 z)).cell? ⟨gv, o', none⟩ = some (rd (W.setCell ⟨gv, o, none⟩ (.int .i64 z)) gv o')) ∧ (∀ o', (W.setCell ⟨gv, o, none⟩ (.int .i64 z)).frozen? ⟨gv, o', none⟩ = false) ∧ SpSt (W.setCell ⟨gv, o, none⟩ (.int .i64 z)) Bm base gv cv gf cf nv nf ∧ Mut (fun b => b = B ∨ base ≤ b) w (W.setCell ⟨gv, o, none⟩ (.int .i64 z)) := fun W o z ⟨h1, h2, h3, h5, h6⟩ =>
      ⟨(sc_other (ne_block hvm)).trans h1, fun o' ho' => by
          obtain ⟨v', hv'⟩ := cell?_setCell_some (w := W) (p := ⟨gv, o, none⟩) (x := .int .i64 z) (q := ⟨gv, o', none⟩) (h2 o' ho')
          exact rd_of hv', fun o' => (World.frozen?_setCell ..).trans (h3 o'), h5.sv _ _, h6.setCell (fun _ => .inr lv.1) _⟩
    have HK1 := Lib.hid K1
    have HK2 := Lib.hid K2
    have hnv : (1 : Int) ≤ (nv : Int) := by omega
    clear K1 K2 hcv
    go_wp2
    go_region_held3 (fun w' => w'.cell? ⟨Bm, 0, none⟩ = some (.slice (some ⟨gv, 0, none⟩) nv cv) ∧ (∀ o, o < nv * 3 → w'.cell? ⟨gv, o, none⟩ = some (rd w' gv o)) ∧ (∀ o, w'.frozen? ⟨gv, o, none⟩ = false) ∧ SpSt w' Bm base gv cv gf cf nv nf ∧ Mut (fun b => b = B ∨ base ≤ b) w w')
      (first | exact HK1.out _ (Mut.refl _ w2).drew | exact HK1.out _ (((Mut.refl _ w2).drew).trans hm3) | exact HK1.out _ ((((Mut.refl _ w2).drew).trans hm3).trans hm4) | exact HK2.out _ _ _ (by assumption))
      (first
        | (go_at_call 41; refine (next_any B (k + 1 + 1) _ w2.drew hst2.drew (by omega) hnv (by omega)).mono ?_; rintro e w3 ⟨⟨t, rfl, t0, t1⟩, hst3, hm3⟩; obtain ⟨t, rfl⟩ := Int.eq_ofNat_of_zero_le t0; have ht3 : t * 3 + 2 < nv * 3 := (by omega))
        | (go_at_call 70; refine (odd_any B (k + 1 + 1 + 1) _ _ w3 hst3 (by omega) (by omega) (by omega) (by omega)).mono ?_; rintro e w4 ⟨⟨z, rfl, _⟩, hst4, hm4⟩))
    all_goals
      obtain ⟨_, _, _, h5, h6⟩ := ‹_ ∧ _ ∧ _ ∧ SpSt _ _ _ _ _ _ _ _ _ ∧ Mut _ w _›
      have H5 := Lib.hid h5
      have H6 := Lib.hid h6
      clear h5 h6
      go_wp2
      go_end0
      exact sp_post H5.out (hst4.setCell (by dsimp only; omega) _) (by omega) hk H6.out
  | 3, _ =>
    obtain ⟨b0, fb0, _⟩ := own_cells HOF.out HAF.out 0 (by omega)
    obtain ⟨b1, fb1, _⟩ := own_cells HOF.out HAF.out 1 (by omega)
    obtain ⟨b2, fb2, _⟩ := own_cells HOF.out HAF.out 2 (by omega)
    have hz1 : (0 : Int) < (nf : Int) := by omega
    have hz2 : 0 < nf := by omega
    have lf2 := lt_of_heap (hof_heap HOF.out)
    clear pa0 pa1 pa2
    go_wp2
    go_region_law (first
      | (refine step_append_lies _ (by rfl) _ _ 27 (by rfl) base 47 i1 (.agg #[.int .i64 0, .int .i64 0, .int .i64 0]) 3 24 Try.underlying27 hi1 hy0 hy1 hy2 rfl (by decide) (.slice (some ⟨gf, 0, none⟩) nf cf) nf ys (by rfl) ((HOF.out.alloc _).drew) ⟨w2.heap.size, 0, none⟩ 1 1 [.int .i64 b0, .int .i64 b1, .int .i64 b2] (by rfl) (by rfl) (World.news_of_block (cs := #[.int .i64 b0, .int .i64 b1, .int .i64 b2]) (t := 47) (fr := (0, 0)) (heap_alloc_new w2 _)) (by simp [Value.oneCell']) (by omega) (by unfold maxLen; omega) (by omega) (by simp; omega) (w2.heap.size + 1) (by simp) ?_; intro g cap' w6 hown6 hgrow hat hlt6; have hm6 : w6.heap[Bm]? = some (.cells #[.slice (some ⟨gv, 0, none⟩) nv cv, .slice (some ⟨gf, 0, none⟩) nf cf] 29 (0, 0)) := grow_keep hgrow ((Below.heap_alloc w2 _ _ hBm2).trans HM2.out) (own_ne HOF.out HM2.out (by decide)); have nc0 : w6.cell? ⟨Bm, 0, none⟩ = some (.slice (some ⟨gv, 0, none⟩) nv cv) := (by simp [World.cell?, hm6]); have nf0 : w6.frozen? ⟨Bm, 0, none⟩ = false := (by simp [World.frozen?, hm6]); have nc1 : w6.cell? ⟨Bm, 1, none⟩ = some (.slice (some ⟨gf, 0, none⟩) nf cf) := (by simp [World.cell?, hm6]); have nf1 : w6.frozen? ⟨Bm, 1, none⟩ = false := (by simp [World.frozen?, hm6]); have HM6 := Lib.hid hm6; clear hm6))
    all_goals
      have HE := Lib.hid (sp_append (w := w) (k := k) HSP.out hst2 (by omega) hk HMU.out hB hBm hgrow hown6 ((HAF.out.mono fun _ _ => trivial).app (AllInt.cons trivial (AllInt.cons trivial (AllInt.cons trivial AllInt.nil)))))
      clear hgrow hown6 hat
      go_wp2
      go_end0
      exact HE.out
  | 4, _ =>
    obtain ⟨p, rfl⟩ := Int.eq_ofNat_of_zero_le pa0.1
    obtain ⟨q, rfl⟩ := Int.eq_ofNat_of_zero_le pa1.1
    have hp : p < nv := by omega
    have hq : q < nv := by omega
    obtain ⟨x0, vp0, _⟩ := own_cells HOV.out HAV.out (p * 3) (by omega)
    obtain ⟨x1, vp1, _⟩ := own_cells HOV.out HAV.out (p * 3 + 1) (by omega)
    obtain ⟨x2, vp2, _⟩ := own_cells HOV.out HAV.out (p * 3 + 2) (by omega)
    obtain ⟨y0, vq0, _⟩ := own_cells HOV.out HAV.out (q * 3) (by omega)
    obtain ⟨y1, vq1, _⟩ := own_cells HOV.out HAV.out (q * 3 + 1) (by omega)
    obtain ⟨y2, vq2, _⟩ := own_cells HOV.out HAV.out (q * 3 + 2) (by omega)
    have g0 := HVZ.out (p * 3)
    have g1 := HVZ.out (p * 3 + 1)
    have g2 := HVZ.out (p * 3 + 2)
    have ip0 : (0 : Int) ≤ (p : Int) := by omega
    have ip1 : (p : Int) < (nv : Int) := by omega
    have iq0 : (0 : Int) ≤ (q : Int) := by omega
    have iq1 : (q : Int) < (nv : Int) := by omega
    clear pa0 pa1 pa2
    go_wp2
    go_region
    all_goals
      go_wp2
      go_end0
      exact sp_post (((((HSP.out.mut (Mut.refl (fun _ => False) w2).drew (fun _ h => h.elim) hBm).sv _ _).sv _ _).sv _ _)) (((hst2.drew.setCell (by dsimp only; omega) _).setCell (by dsimp only; omega) _).setCell (by dsimp only; omega) _) (by omega) hk (((HMU.out.drew.setCell (fun _ => .inr lv.1) _).setCell (fun _ => .inr lv.1) _).setCell (fun _ => .inr lv.1) _)
end Go.Proofs.Ytmcebhjcaacbpaa

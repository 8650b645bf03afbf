import Derived.Test.YtdanlnmdkneepaaVi
import Derived.Deep.Cut
/- The plan of speeds. -/
set_option linter.unusedSimpArgs false
set_option linter.unusedVariables false
namespace Go.Proofs.Ytdanlnmdkneepaa
open Go.RowKit Go.Shelf
attribute [local go_sem] Oper.semAt_some
attribute [local go_sem] min3V min2V

/-- The plan under way: the change's box, the speeds' box, the speeds. -/
structure PL (w : World) (B7 : Nat) (c : Int) (g cap n : Nat) (v : Nat → Int) (W : World) : Prop where
  h5 : W.heap[w.heap.size]? = some (.cells #[.int .i64 c] 3 (0, 0))
  h7 : W.heap[B7]? = some (.cells #[.slice (some ⟨g, 0, none⟩) (n + 1) cap] 22 (0, 0))
  bl : BlkI W g (n + 1) v
  b : Below w.heap.size w W
  g5 : w.heap.size < g
  g7 : g < B7
section
variable {w W W' : World} {B7 : Nat} {c : Int} {g cap n : Nat} {v : Nat → Int}
theorem PL.next (h : PL w B7 c g cap n v W) (hb : Below W.heap.size W W') : PL w B7 c g cap n v W' :=
  ⟨heap_keep hb h.h5, heap_keep hb h.h7, h.bl.kept hb, h.b.trans (hb.mono h.b.size), h.g5, h.g7⟩
theorem PL.lt (h : PL w B7 c g cap n v W) : B7 < W.heap.size := lt_of_heap h.h7
theorem PL.set (h : PL w B7 c g cap n v W) {i : Nat} (hi : i < n + 1) (x : Int) : PL w B7 c g cap n (updV v i x) (W.setCell ⟨g, i, none⟩ (.int .i64 x)) := by
  have h1 := h.g5
  have h2 := h.g7
  refine ⟨(Below.heap_setCell _ _ _ _ (by show w.heap.size ≠ g; omega)).trans h.h5, (Below.heap_setCell _ _ _ _ (by show B7 ≠ g; omega)).trans h.h7, h.bl.set hi x, h.b.setCell (by show w.heap.size ≤ g; omega) _, h1, h2⟩
theorem PL.ext {u : Nat → Int} (h : PL w B7 c g cap n v W) (he : ∀ i, i < n + 1 → v i = u i) : PL w B7 c g cap n u W := ⟨h.h5, h.h7, h.bl.ext he, h.b, h.g5, h.g7⟩
end
/-- The way there, under way. -/
noncomputable def fpart (n : Nat) (L M C : Nat → Int) (c : Int) (t j : Nat) : Int := if j ≤ t then fwZ n L M C c j else bndZ n M C j
/-- One step of the way back. -/
noncomputable def stepB (L M : Nat → Int) (c : Int) (v : Nat → Int) (q : Nat) : Nat → Int := updV v q (min (v q) (oppZ (v (q + 1)) (M q) (gainZ c (L q))))
noncomputable def foldB (n : Nat) (L M C : Nat → Int) (c : Int) (pre : List (Fin n)) : Nat → Int := (pre.map Fin.val).foldl (stepB L M c) (fwZ n L M C c)
theorem stepB_eq (L M : Nat → Int) (c : Int) (v : Nat → Int) (q j : Nat) : stepB L M c v q j = if j = q then min (v q) (oppZ (v (q + 1)) (M q) (gainZ c (L q))) else v j := rfl
theorem foldB_snoc {n : Nat} {L M C : Nat → Int} {c : Int} {pre : List (Fin n)} {x : Fin n} : foldB n L M C c (pre ++ [x]) = stepB L M c (foldB n L M C c pre) x.val := by simp [foldB]
theorem stepB_bnd {n : Nat} {L M : Nat → Int} {k : Nat} {C : Nat → Int} {c : Int} (ok : MOk n L M k C c) {v : Nat → Int} (h : ∀ i, i ≤ n → 0 ≤ v i ∧ v i ≤ 100000) {q : Nat} (hq : q < n) : ∀ i, i ≤ n → 0 ≤ stepB L M c v q i ∧ stepB L M c v q i ≤ 100000 := fun i hi => by
  unfold stepB updV
  split
  · have h1 := h q (by omega)
    have h2 := h (q + 1) (by omega)
    have h3 := ok.lg q hq
    have h4 := (gainZ_bnd ok.ch ⟨h3.1, h3.2.1⟩).1
    have h5 := rt_nng (v := v (q + 1)) h4 h2.1
    unfold oppZ
    omega
  · exact h i hi
theorem foldl_bnd {n : Nat} {L M : Nat → Int} {k : Nat} {C : Nat → Int} {c : Int} (ok : MOk n L M k C c) : ∀ (l : List Nat) (v : Nat → Int), (∀ q ∈ l, q < n) → (∀ i, i ≤ n → 0 ≤ v i ∧ v i ≤ 100000) → ∀ i, i ≤ n → 0 ≤ l.foldl (stepB L M c) v i ∧ l.foldl (stepB L M c) v i ≤ 100000
  | [], _, _, h => h
  | q :: l, v, hl, h => by
    rw [List.foldl_cons]
    exact foldl_bnd ok l _ (fun q' h' => hl q' (List.mem_cons_of_mem _ h')) (stepB_bnd ok h (hl q (List.mem_cons_self ..)))
theorem foldB_bnd {n : Nat} {L M : Nat → Int} {k : Nat} {C : Nat → Int} {c : Int} (ok : MOk n L M k C c) (pre : List (Fin n)) (i : Nat) (hi : i ≤ n) : 0 ≤ foldB n L M C c pre i ∧ foldB n L M C c pre i ≤ 100000 :=
  foldl_bnd ok _ _ (fun q hq => by obtain ⟨x, _, rfl⟩ := List.mem_map.1 hq; exact x.isLt) (fun i hi => by have := ok.fw i hi; omega) i hi
theorem fold_dn {n : Nat} {L M : Nat → Int} {m : Nat} {C : Nat → Int} {c : Int} (ok : MOk n L M m C c) : ∀ k, k ≤ n → ∀ j, j ≤ n → (dn n k).foldl (stepB L M c) (fwZ n L M C c) j = if n ≤ j + k then spZ n L M C c j else fwZ n L M C c j
  | 0, _, j, hj => by
    show fwZ n L M C c j = _
    split
    · obtain rfl : j = n := by omega
      rw [spZ_n]
    · rfl
  | k + 1, hk, j, hj => by
    rw [dn_succ, List.foldl_append, List.foldl_cons, List.foldl_nil]
    have ih := fold_dn ok k (by omega)
    rw [stepB_eq]
    by_cases e : j = n - 1 - k
    · rw [if_pos e, ih (n - 1 - k) (by omega), ih (n - 1 - k + 1) (by omega), if_neg (by omega), if_pos (by omega), if_pos (by omega), e, ok.sps (n - 1 - k) (by omega)]
    · rw [if_neg e, ih j hj]
      by_cases h : n ≤ j + k
      · rw [if_pos h, if_pos (by omega)]
      · rw [if_neg h, if_neg (by omega)]
theorem foldB_dn {n : Nat} {L M : Nat → Int} {m : Nat} {C : Nat → Int} {c : Int} (ok : MOk n L M m C c) {ys : List (Fin n)} (h : ys.map Fin.val = dn n n) (j : Nat) (hj : j ≤ n) : foldB n L M C c ys j = spZ n L M C c j := by
  unfold foldB
  rw [h, fold_dn ok n (Nat.le_refl _) j hj, if_pos (by omega)]
theorem keeps_below {W W' : World} (h : Below W.heap.size W W') : KeepsOthers W W' := ⟨h.size, fun k o hk _ => (h.block k (lt_of_heap hk)).trans hk⟩
theorem PL.own {w W W' : World} {B7 : Nat} {c : Int} {g cap n B : Nat} {v : Nat → Int} {row : Option Nat} (h : PL w B7 c g cap n v W) (hB : w.heap.size ≤ B) (hg : W.grownBy W' row) (hr : ∀ r, row = some r → B ≤ r ∧ ∃ o : Obj, W.heap[r]? = some o ∧ o.isCells = false) : PL w B7 c g cap n v W' := by
  have key : ∀ {b : Nat} {cs : Array Value} {t : TypeId} {fr : Nat × Nat}, W.heap[b]? = some (Obj.cells cs t fr) → W'.heap[b]? = some (Obj.cells cs t fr) := fun {b cs t fr} hb => (hg.block b (lt_of_heap hb) (fun e => by
    obtain ⟨_, o, ho, hc⟩ := hr b e.symm
    rw [hb] at ho; cases ho; cases hc)).trans hb
  obtain ⟨cur, hc, hv⟩ := h.bl
  exact ⟨key h.h5, key h.h7, ⟨cur, key hc, hv⟩, ownFrom_below (β := Unit) (Nat.le_refl _) hB () W W' row h.b hg hr, h.g5, h.g7⟩
set_option maxRecDepth 100000 in
set_option maxHeartbeats 8000000 in
theorem plan_in (a : Option Addr) (n cl : Nat) (L M : Nat → Int) (ac : Option Addr) (m cc : Nat) (C : Nat → Int) (c : Int) (w : World) (hn : n ≤ 100) (hp : LegsR w a n L M) (hc : IntsR w ac m C) (ok : MOk n L M m C c) :
    CallsIn Fence.wide 9 Try.prog 133 #[.slice a n cl, .slice ac m cc, .int .i64 c] w fun e w' => ∃ g cap, e = .returned (.slice (some ⟨g, 0, none⟩) (n + 1) cap) ∧ BlkI w' g (n + 1) (spZ n L M C c) ∧ w.heap.size ≤ g ∧ Below w.heap.size w w' := by
  have HC := Lib.hid hc
  have HP := Lib.hid hp
  have OK := Lib.hid ok
  obtain ⟨b, off, rfl, hb, hd⟩ : ∃ b off, a = some ⟨b, off, none⟩ ∧ b < w.heap.size ∧ ∀ i, i < n → w.cell? ⟨b, off + i * 2, none⟩ = some (.int .i64 (L i)) ∧ w.cell? ⟨b, off + i * 2 + 1, none⟩ = some (.int .i64 (M i)) := by
    rcases hp with h | h
    · have := ok.pos; omega
    · exact h
  have HD := Lib.hid hd
  clear hc hp hd ok
  have h1 : 1 ≤ 9 := by omega
  refine callsIn_of_wp_marks Try.func133 rfl trivial ?_ rfl
  simp only [Try.ntmps133, List.size_toArray, List.length_cons, List.length_nil, Nat.reduceAdd, Nat.reduceSub, Array.replicate_succ, Array.replicate_zero, List.push_toArray, List.append_toArray, List.nil_append, List.cons_append]
  have B0 : Below w.heap.size w (w.alloc (.cells #[.int .i64 c] 3)) := (by repeat (first | exact Below.refl _ _ | assumption | refine Below.drew ?_ | refine bdrewN ?_ _ | refine Below.setCell ?_ (by first | omega | (simp <;> omega)) _ | refine Below.alloc ?_ (by first | omega | (simp <;> omega)) _))
  gi_wp2_with (fail)
  refine ⟨trivial, (callsIn_wide.2 (bounds_any (some ⟨b, off, none⟩) n cl L M ac m cc C _ hn OK.out.kn (HP.out.kept B0) (HC.out.kept B0))).mono ?_⟩
  rintro e w2 ⟨g, cap, rfl, hown, hgl, hb2⟩
  have HP0 : Hid (PL w w2.heap.size c g cap n (fpart n L M C c 0) (w2.alloc (.cells #[.slice (some ⟨g, 0, none⟩) (n + 1) cap] 22))) := by
    have hg := (hown.lt _ rfl).1
    have hb3 : Below w2.heap.size w2 (w2.alloc (.cells #[.slice (some ⟨g, 0, none⟩) (n + 1) cap] 22)) := (Below.refl _ _).alloc (Nat.le_refl _) _
    refine Lib.hid ⟨heap_keep hb3 (heap_keep hb2 (heap_alloc_new w _)), heap_alloc_new w2 _, ((blk_of_own hown).kept hb3).ext (fun i hi => ?_), (B0.trans (hb2.mono B0.size)).trans (hb3.mono (Nat.le_trans B0.size hb2.size)), by simp at hg; omega, hgl⟩
    unfold fpart
    split
    · obtain rfl : i = 0 := by omega
      rw [fwZ_0]
    · rfl
  clear hown hb2 B0 hgl
  gi_wp2_with (fail)
  generalize (w2.alloc (.cells #[.slice (some ⟨g, 0, none⟩) (n + 1) cap] 22)) = w3 at *
  generalize w2.heap.size = B7 at *
  gi_loopw [17] (fun i wr => ∃ t : Nat, t ≤ n ∧ i = .int .i64 t ∧ PL w B7 c g cap n (fpart n L M C c t) wr) (fun i _ => n - (intOf i).toNat)
  case atStart => exact ⟨0, by omega, rfl, HP0.out⟩
  case round =>
    clear HP0
    obtain ⟨t, ht, rfl, hpl⟩ := hrel
    have HL := Lib.hid hpl
    clear hpl
    by_cases hlt : t < n
    · have l0 := (HL.out.b.cell (p := ⟨b, off + t * 2, none⟩) hb).trans (HD.out t hlt).1
      have l1 := (HL.out.b.cell (p := ⟨b, off + t * 2 + 1, none⟩) hb).trans (HD.out t hlt).2
      have hbl : b < wr.heap.size := Nat.lt_of_lt_of_le hb HL.out.b.size
      have OKx := OK.out.fw t (by omega)
      have XB := Lib.hid (show 0 ≤ fwZ n L M C c t ∧ fwZ n L M C c t ≤ 1000000 by omega)
      have CH := Lib.hid OK.out.ch
      have LB := Lib.hid (show (1 ≤ L t ∧ L t ≤ 200000) ∧ (1 ≤ M t ∧ M t ≤ 100000) from ⟨⟨(OK.out.lg t hlt).1, (OK.out.lg t hlt).2.1⟩, (OK.out.lg t hlt).2.2⟩)
      have HFU : Hid (∀ i, updV (fpart n L M C c t) (t + 1) (min (bndZ n M C (t + 1)) (oppZ (fwZ n L M C c t) (M t) (gainZ c (L t)))) i = fpart n L M C c (t + 1) i) := Lib.hid (fun i => by
        rw [← OK.out.fws t hlt]
        unfold updV fpart
        split
        · rename_i h; rw [h, if_pos (by omega)]
        · split
          · rw [if_pos (by omega)]
          · rw [if_neg (by omega)])
      have hb9 : Below wr.heap.size wr (wr.alloc (.cells #[.int .i64 (L t), .int .i64 (M t)] 83)) := (Below.refl _ _).alloc (Nat.le_refl _) _
      have HW := Lib.hid (HL.out.next hb9)
      have hq9 := heap_alloc_new wr (.cells #[.int .i64 (L t), .int .i64 (M t)] 83)
      have k90 := cell_of hq9 (i := 0) rfl
      have k91 := cell_of hq9 (i := 1) rfl
      have l9 := lt_of_heap hq9
      have hB7 := HL.out.lt
      have hg5 : g ≠ w.heap.size := by have := HL.out.g5; omega
      have hgB : g ≠ B7 := by have := HL.out.g7; omega
      have hg9 : g ≠ wr.heap.size := by have := HL.out.g7; omega
      have k7 := cell_of HW.out.h7 (i := 0) rfl
      have k5 := cell_of HW.out.h5 (i := 0) rfl
      have ex := HW.out.bl.cell (i := t) (by omega)
      have ey := HW.out.bl.cell (i := t + 1) (by omega)
      rw [show fpart n L M C c t t = fwZ n L M C c t by unfold fpart; rw [if_pos (Nat.le_refl _)]] at ex
      rw [show fpart n L M C c t (t + 1) = bndZ n M C (t + 1) by unfold fpart; rw [if_neg (by omega)]] at ey
      have l7 := HW.out.lt
      have l5 := lt_of_heap HW.out.h5
      have lg := HW.out.bl.lt
      have hw1 : IntKind.i64.wrap ((t : Int) + 1) = (t : Int) + 1 := i64w (by omega)
      have ht1 : (t : Int) < (n : Int) + 1 := by omega
      have ht3 : (0 : Int) ≤ (t : Int) + 1 := by omega
      have ht4 : (t : Int) + 1 < (n : Int) + 1 := by omega
      clear hb9 hq9 OKx
      gi_wp2_with (fail)
      generalize (wr.alloc (.cells #[.int .i64 (L t), .int .i64 (M t)] 83)) = W0 at *
      obtain ⟨q9, hq⟩ : ∃ q, q = wr.heap.size := ⟨_, rfl⟩
      rw [← hq] at k90 k91 l9 hg9 ⊢
      clear hq HL l0 l1 hbl
      generalize fwZ n L M C c t = x at *
      generalize bndZ n M C (t + 1) = y at *
      generalize L t = lx at *
      generalize M t = mx_ at *
      refine wpIn_region_only open_wide (S := (fun w' => w'.cell? ⟨B7, 0, none⟩ = some (.slice (some ⟨g, 0, none⟩) (n + 1) cap) ∧ w'.cell? ⟨q9, 0, none⟩ = some (.int .i64 lx) ∧ w'.cell? ⟨q9, 1, none⟩ = some (.int .i64 mx_) ∧ w'.cell? ⟨w.heap.size, 0, none⟩ = some (.int .i64 c) ∧ w'.cell? ⟨g, t, none⟩ = some (.int .i64 x))) (by kernel_rfl) (by kernel_rfl) ⟨k7, k90, k91, k5, ex⟩ (fun hHeld => ?_)
      refine tkH (by assumption) 0 (oi := ?_) (v := ?_) ?_ ?_ ?_ ?_ ?_ ?_ ?_ ?_; rotate_left 2; (simp only [gA, gB, gC]; exact rfl); kernel_rfl; kernel_rfl; kernel_rfl; exact fun _ _ _ h => h; rfl; (intro w' hSw; (try dsimp only at hSw); go_simp; with_reducible rfl); simp only [Act.put, pB, pC, pD]
      refine tkH (by assumption) 1 (oi := ?_) (v := ?_) ?_ ?_ ?_ ?_ ?_ ?_ ?_ ?_; rotate_left 2; (simp only [gA, gB, gC]; exact rfl); kernel_rfl; kernel_rfl; kernel_rfl; exact fun _ _ _ h => h; rfl; (intro w' hSw; (try dsimp only at hSw); go_simp; with_reducible rfl); simp only [Act.put, pB, pC, pD]
      refine tkH (by assumption) 2 (oi := ?_) (v := ?_) ?_ ?_ ?_ ?_ ?_ ?_ ?_ ?_; rotate_left 2; (simp only [gA, gB, gC]; exact rfl); kernel_rfl; kernel_rfl; kernel_rfl; exact fun _ _ _ h => h; rfl; (intro w' hSw; (try dsimp only at hSw); go_simp; with_reducible rfl); simp only [Act.put, pB, pC, pD]
      refine tkH (by assumption) 3 (oi := ?_) (v := ?_) ?_ ?_ ?_ ?_ ?_ ?_ ?_ ?_; rotate_left 2; (simp only [gA, gB, gC]; exact rfl); kernel_rfl; kernel_rfl; kernel_rfl; exact fun _ _ _ h => h; rfl; (intro w' hSw; (try dsimp only at hSw); go_simp; with_reducible rfl); simp only [Act.put, pB, pC, pD]
      refine tkH (by assumption) 4 (oi := ?_) (v := ?_) ?_ ?_ ?_ ?_ ?_ ?_ ?_ ?_; rotate_left 2; (simp only [gA, gB, gC]; exact rfl); kernel_rfl; kernel_rfl; kernel_rfl; exact fun _ _ _ h => h; rfl; (intro w' hSw; (try dsimp only at hSw); go_simp; with_reducible rfl); simp only [Act.put, pB, pC, pD]
      refine tkH (by assumption) 5 (oi := ?_) (v := ?_) ?_ ?_ ?_ ?_ ?_ ?_ ?_ ?_; rotate_left 2; (simp only [gA, gB, gC]; exact rfl); kernel_rfl; kernel_rfl; kernel_rfl; exact fun _ _ _ h => h; rfl; (intro w' hSw; (try dsimp only at hSw); go_simp; with_reducible rfl); simp only [Act.put, pB, pC, pD]
      refine tkH (by assumption) 6 (oi := ?_) (v := ?_) ?_ ?_ ?_ ?_ ?_ ?_ ?_ ?_; rotate_left 2; (simp only [gA, gB, gC]; exact rfl); kernel_rfl; kernel_rfl; kernel_rfl; exact fun _ _ _ h => h; rfl; (intro w' hSw; (try dsimp only at hSw); go_simp; with_reducible rfl); simp only [Act.put, pB, pC, pD]
      refine tkH (by assumption) 8 (oi := ?_) (v := ?_) ?_ ?_ ?_ ?_ ?_ ?_ ?_ ?_; rotate_left 2; (simp only [gA, gB, gC]; exact rfl); kernel_rfl; kernel_rfl; kernel_rfl; exact fun _ _ _ h => h; rfl; (intro w' hSw; (try dsimp only at hSw); go_simp; with_reducible rfl); simp only [Act.put, pB, pC, pD]
      refine tkH (by assumption) 9 (oi := ?_) (v := ?_) ?_ ?_ ?_ ?_ ?_ ?_ ?_ ?_; rotate_left 2; (simp only [gA, gB, gC]; exact rfl); kernel_rfl; kernel_rfl; kernel_rfl; exact fun _ _ _ h => h; rfl; (intro w' hSw; (try dsimp only at hSw); go_simp; with_reducible rfl); simp only [Act.put, pB, pC, pD]
      refine tkH (by assumption) 10 (oi := ?_) (v := ?_) ?_ ?_ ?_ ?_ ?_ ?_ ?_ ?_; rotate_left 2; (simp only [gA, gB, gC]; exact rfl); kernel_rfl; kernel_rfl; kernel_rfl; exact fun _ _ _ h => h; rfl; (intro w' hSw; (try dsimp only at hSw); go_simp; with_reducible rfl); simp only [Act.put, pB, pC, pD]
      refine tkH (by assumption) 11 (oi := ?_) (v := ?_) ?_ ?_ ?_ ?_ ?_ ?_ ?_ ?_; rotate_left 2; (simp only [gA, gB, gC]; exact rfl); kernel_rfl; kernel_rfl; kernel_rfl; exact fun _ _ _ h => h; rfl; (intro w' hSw; (try dsimp only at hSw); go_simp; with_reducible rfl); simp only [Act.put, pB, pC, pD]
      refine tkH (by assumption) 12 (oi := ?_) (v := ?_) ?_ ?_ ?_ ?_ ?_ ?_ ?_ ?_; rotate_left 2; (simp only [gA, gB, gC]; exact rfl); kernel_rfl; kernel_rfl; kernel_rfl; exact fun _ _ _ h => h; rfl; (intro w' hSw; (try dsimp only at hSw); go_simp; with_reducible rfl); simp only [Act.put, pB, pC, pD]
      refine tkH (by assumption) 13 (oi := ?_) (v := ?_) ?_ ?_ ?_ ?_ ?_ ?_ ?_ ?_; rotate_left 2; (simp only [gA, gB, gC]; exact rfl); kernel_rfl; kernel_rfl; kernel_rfl; exact fun _ _ _ h => h; rfl; (intro w' hSw; (try dsimp only at hSw); go_simp; with_reducible rfl); simp only [Act.put, pB, pC, pD]
      refine wpAnyH_ready (rs := [7, 14]) (by kernel_rfl) (by simp) ?_
      refine coH 7 (oi := ?_) ?_ ?_ (fun K hK => ?_) ?_; rotate_left; (simp only [gA, gB, gC]; exact rfl); rfl
      · skip
        go_wp2_with (fail)
        refine hK.out _ _ hHeld (fun hHeldN => ?_)
        clear hK K hHeld
        have hHeld := hHeldN
        clear hHeldN
        try simp only [Act.put, pB, pC, pD]
        refine onH 14 (oi := ?_) (by kernel_rfl) ?_ ?_ (fun K hK => ?_); rotate_left; (simp only [gA, gB, gC]; exact rfl); rfl
        go_wp2_with (fail)
        refine (opposite_any x lx mx_ c _ XB.out CH.out LB.out.1 LB.out.2).mono ?_
        rintro e w5 ⟨rfl, hb5⟩
        have hb6 : Below W0.heap.size W0 w5 := ⟨hb5.os, hb5.tape, hb5.output, hb5.size, hb5.block⟩
        have HW5 := Lib.hid (HW.out.next hb6)
        replace k7 := cellk hb6 l7 k7
        replace k90 := cellk hb6 l9 k90
        replace k91 := cellk hb6 l9 k91
        replace k5 := cellk hb6 l5 k5
        replace ex := cellk hb6 lg ex
        replace ey := cellk hb6 lg ey
        have fy := HW5.out.bl.frozen (t + 1)
        have HB6 := Lib.hid hb6
        clear hb5 hb6
        refine hK.out _ _ ⟨k7, k90, k91, k5, ex⟩ (fun hHeldN => ?_)
        clear hK K hHeld
        have hHeld := hHeldN
        clear hHeldN
        try simp only [Act.put, pB, pC, pD]
        have hz : (if oppZ x mx_ (gainZ c lx) < y then oppZ x mx_ (gainZ c lx) else y) = min y (oppZ x mx_ (gainZ c lx)) := by split <;> omega
        refine tkH (by assumption) 15 (oi := ?_) (v := ?_) ?_ ?_ ?_ ?_ ?_ ?_ ?_ ?_; rotate_left 2; (simp only [gA, gB, gC]; exact rfl); kernel_rfl; kernel_rfl; kernel_rfl; exact fun _ _ _ h => h; rfl; (intro w' hSw; (try dsimp only at hSw); go_simp; with_reducible rfl); simp only [Act.put, pB, pC, pD]
        refine tkH (by assumption) 16 (oi := ?_) (v := ?_) ?_ ?_ ?_ ?_ ?_ ?_ ?_ ?_; rotate_left 2; (simp only [gA, gB, gC]; exact rfl); kernel_rfl; kernel_rfl; kernel_rfl; exact fun _ _ _ h => h; rfl; (intro w' hSw; (try dsimp only at hSw); go_simp; with_reducible rfl); simp only [Act.put, pB, pC, pD]
        refine onH 17 (oi := ?_) (by kernel_rfl) ?_ ?_ (fun K hK => ?_); rotate_left; (simp only [gA, gB, gC]; exact rfl); rfl
        go_wp2_with (fail)
        have ng7 : (⟨g, t + 1, none⟩ : Addr) ≠ ⟨B7, 0, none⟩ := ne_block hgB
        have ng9 : ∀ i, (⟨g, t + 1, none⟩ : Addr) ≠ ⟨q9, i, none⟩ := fun i => ne_block hg9
        have ng5 : (⟨g, t + 1, none⟩ : Addr) ≠ ⟨w.heap.size, 0, none⟩ := ne_block (by omega)
        have ngx : (⟨g, t + 1, none⟩ : Addr) ≠ ⟨g, t, none⟩ := ne_off (by omega)
        have HS := Lib.hid (HW5.out.set (i := t + 1) (by omega) (min y (oppZ x mx_ (gainZ c lx))))
        refine hK.out _ _ ⟨(sc_other ng7).trans k7, (sc_other (ng9 0)).trans k90, (sc_other (ng9 1)).trans k91, (sc_other ng5).trans k5, (sc_other ngx).trans ex⟩ (fun hHeldN => ?_)
        clear hK K hHeld
        have hHeld := hHeldN
        clear hHeldN
        try simp only [Act.put, pB, pC, pD]
        refine wpAnyH_done (by kernel_rfl) ?_ _
        simp only [onlyN]
        gi_wp2_with (fail)
        go_roundw
        case rel => exact ⟨t + 1, by omega, by simp, HS.out.ext (fun i hi => (HFU.out i))⟩
        case measure => simp [intOf]; omega
      refine coH 14 (oi := ?_) ?_ ?_ (fun K hK => ?_) ?_; rotate_left; (simp only [gA, gB, gC]; exact rfl); rfl
      · skip
        go_wp2_with (fail)
        refine (opposite_any x lx mx_ c _ XB.out CH.out LB.out.1 LB.out.2).mono ?_
        rintro e w5 ⟨rfl, hb5⟩
        have hb6 : Below W0.heap.size W0 w5 := ⟨hb5.os, hb5.tape, hb5.output, hb5.size, hb5.block⟩
        have HW5 := Lib.hid (HW.out.next hb6)
        replace k7 := cellk hb6 l7 k7
        replace k90 := cellk hb6 l9 k90
        replace k91 := cellk hb6 l9 k91
        replace k5 := cellk hb6 l5 k5
        replace ex := cellk hb6 lg ex
        replace ey := cellk hb6 lg ey
        have fy := HW5.out.bl.frozen (t + 1)
        have HB6 := Lib.hid hb6
        clear hb5 hb6
        refine hK.out _ _ ⟨k7, k90, k91, k5, ex⟩ (fun hHeldN => ?_)
        clear hK K hHeld
        have hHeld := hHeldN
        clear hHeldN
        try simp only [Act.put, pB, pC, pD]
        refine onH 7 (oi := ?_) (by kernel_rfl) ?_ ?_ (fun K hK => ?_); rotate_left; (simp only [gA, gB, gC]; exact rfl); rfl
        go_wp2_with (fail)
        refine hK.out _ _ hHeld (fun hHeldN => ?_)
        clear hK K hHeld
        have hHeld := hHeldN
        clear hHeldN
        try simp only [Act.put, pB, pC, pD]
        have hz : (if oppZ x mx_ (gainZ c lx) < y then oppZ x mx_ (gainZ c lx) else y) = min y (oppZ x mx_ (gainZ c lx)) := by split <;> omega
        refine tkH (by assumption) 15 (oi := ?_) (v := ?_) ?_ ?_ ?_ ?_ ?_ ?_ ?_ ?_; rotate_left 2; (simp only [gA, gB, gC]; exact rfl); kernel_rfl; kernel_rfl; kernel_rfl; exact fun _ _ _ h => h; rfl; (intro w' hSw; (try dsimp only at hSw); go_simp; with_reducible rfl); simp only [Act.put, pB, pC, pD]
        refine tkH (by assumption) 16 (oi := ?_) (v := ?_) ?_ ?_ ?_ ?_ ?_ ?_ ?_ ?_; rotate_left 2; (simp only [gA, gB, gC]; exact rfl); kernel_rfl; kernel_rfl; kernel_rfl; exact fun _ _ _ h => h; rfl; (intro w' hSw; (try dsimp only at hSw); go_simp; with_reducible rfl); simp only [Act.put, pB, pC, pD]
        refine onH 17 (oi := ?_) (by kernel_rfl) ?_ ?_ (fun K hK => ?_); rotate_left; (simp only [gA, gB, gC]; exact rfl); rfl
        go_wp2_with (fail)
        have ng7 : (⟨g, t + 1, none⟩ : Addr) ≠ ⟨B7, 0, none⟩ := ne_block hgB
        have ng9 : ∀ i, (⟨g, t + 1, none⟩ : Addr) ≠ ⟨q9, i, none⟩ := fun i => ne_block hg9
        have ng5 : (⟨g, t + 1, none⟩ : Addr) ≠ ⟨w.heap.size, 0, none⟩ := ne_block (by omega)
        have ngx : (⟨g, t + 1, none⟩ : Addr) ≠ ⟨g, t, none⟩ := ne_off (by omega)
        have HS := Lib.hid (HW5.out.set (i := t + 1) (by omega) (min y (oppZ x mx_ (gainZ c lx))))
        refine hK.out _ _ ⟨(sc_other ng7).trans k7, (sc_other (ng9 0)).trans k90, (sc_other (ng9 1)).trans k91, (sc_other ng5).trans k5, (sc_other ngx).trans ex⟩ (fun hHeldN => ?_)
        clear hK K hHeld
        have hHeld := hHeldN
        clear hHeldN
        try simp only [Act.put, pB, pC, pD]
        refine wpAnyH_done (by kernel_rfl) ?_ _
        simp only [onlyN]
        gi_wp2_with (fail)
        go_roundw
        case rel => exact ⟨t + 1, by omega, by simp, HS.out.ext (fun i hi => (HFU.out i))⟩
        case measure => simp [intOf]; omega
      exact AllReadyH.nil
    · obtain rfl : n = t := by omega
      have OKn := OK.out.pos
      have HL2 := Lib.hid (HL.out.ext (u := foldB n L M C c []) (fun i hi => by unfold fpart; rw [if_pos (by omega)]; rfl))
      have hbl : b < wr.heap.size := Nat.lt_of_lt_of_le hb HL.out.b.size
      have hgl : g < wr.heap.size := HL.out.bl.lt
      have hg5 : w.heap.size < g := HL.out.g5
      clear HL
      gi_wp2_with (fail)
      refine ⟨trivial, (backward_in Fence.wide 8 trivial rfl _ _ _ _).mono ?_⟩
      rintro e w' ⟨rfl, rfl⟩
      gi_wp2_with (fail)
      have hb9 : Below wr.heap.size wr (wr.alloc (.cells #[.slice (some ⟨b, off, none⟩) n cl] 64)) := (Below.refl _ _).alloc (Nat.le_refl _) _
      have HL3 := Lib.hid (HL2.out.next hb9)
      have hq9 := heap_alloc_new wr (.cells #[.slice (some ⟨b, off, none⟩) n cl] 64)
      have k90 := cell_of hq9 (i := 0) rfl
      have l9 := lt_of_heap hq9
      have hb3 : b < (wr.alloc (.cells #[.slice (some ⟨b, off, none⟩) n cl] 64)).heap.size := Nat.lt_of_lt_of_le hbl hb9.size
      have HD3 := Lib.hid (show ∀ i, i < n → (wr.alloc (.cells #[.slice (some ⟨b, off, none⟩) n cl] 64)).cell? ⟨b, off + i * 2, none⟩ = some (.int .i64 (L i)) ∧ (wr.alloc (.cells #[.slice (some ⟨b, off, none⟩) n cl] 64)).cell? ⟨b, off + i * 2 + 1, none⟩ = some (.int .i64 (M i)) from fun i hi =>
        ⟨(HL3.out.b.cell (p := ⟨b, _, none⟩) hb).trans (HD.out i hi).1, (HL3.out.b.cell (p := ⟨b, _, none⟩) hb).trans (HD.out i hi).2⟩)
      have hwl : w.heap.size ≤ (wr.alloc (.cells #[.slice (some ⟨b, off, none⟩) n cl] 64)).heap.size := HL3.out.b.size
      clear hb9 hq9 HL2
      obtain ⟨Bs, hBs⟩ : ∃ q, q = wr.heap.size := ⟨_, rfl⟩
      generalize (wr.alloc (.cells #[.slice (some ⟨b, off, none⟩) n cl] 64)) = w4 at *
      rw [← hBs] at k90 l9 hgl ⊢
      clear hBs hbl
      have hwl := HL3.out.b.size
      refine wpIn_rangeFunc_ownH rfl h1 (gf := 129) (lb := #[.pointer (some ⟨Bs, 0, none⟩)]) rfl trivial (enters_of Try.func129 (by kernel_rfl) rfl)
        (backward_stops Fence.wide 8 trivial rfl (by omega) Bs b off n cl L M (by omega) w4 l9 hb3 k90 HD3.out) (fun h k => KB.trans h k) (KB.put hb3 l9) (Below.refl _ _) (fun _ => rfl)
        (fun pre W => PL w B7 c g cap n (foldB n L M C c pre) W ∧ Bs < W.heap.size)
        (fun _ _ _ => False)
        (fun pre W W' row hs hg hr => ⟨hs.1.own hwl hg hr, Nat.lt_of_lt_of_le hs.2 hg.size⟩)
        (fun _ _ _ _ _ hs _ _ => hs)
        ⟨HL3.out, l9⟩
        (fun x a' W => ∃ Bx, g < Bx ∧ W.heap[Bx]? = some (.cells #[.int .i64 (L x.val), .int .i64 (M x.val)] 83 (0, 0)) ∧ a' = { tmps := #[.slice (some ⟨b, off, none⟩) n cl, .slice ac m cc, .int .i64 c, undef, undef, .pointer (some ⟨w.heap.size, 0, none⟩), .slice none 0 0, .pointer (some ⟨B7, 0, none⟩), u8, u9, .int .i64 (x.val : Int), .pointer (some ⟨Bx, 0, none⟩), .slice (some ⟨b, off, none⟩) n cl, .slice ac m cc, .slice (some ⟨g, 0, none⟩) (n + 1) cap, .slice (some ⟨b, off, none⟩) n cl, .int .i64 (n : Int), .int .i64 (n : Int), .bool false, u19, u20, u21, u22, u23, u24, u25, u26, u27, u28, u29, u30, u31, u32, u33, u34, u35, u36, u37, u38, u39, .slice (some ⟨b, off, none⟩) n cl, .func (.func 129) #[] #[.pointer (some ⟨Bs, 0, none⟩)], .int .i64 (x.val : Int), .agg #[.int .i64 (L x.val), .int .i64 (M x.val)], undef, undef, undef, undef, undef, undef, undef, undef, undef, undef, undef, undef, undef, undef, undef, undef, undef], defers := [] })
        (fun x a' _ X Y row hs hg hr => by
          obtain ⟨Bx, h1, h2, h3⟩ := hs
          refine ⟨Bx, h1, (hg.block Bx (lt_of_heap h2) (fun e => ?_)).trans h2, h3⟩
          obtain ⟨_, o, ho, hc⟩ := hr Bx e.symm
          rw [h2] at ho; cases ho; cases hc)
        ?assign ?body ?done ?stop
      case assign =>
        rintro l pre x W K ⟨hpl, hbs⟩ hK
        have HPL := Lib.hid hpl
        have hws := hpl.b.size
        have hlt := HPL.out.bl.lt
        clear hpl
        unfold encL
        gi_wp2_with (fail)
        have hb : Below W.heap.size W (W.alloc (.cells #[.int .i64 (L x.val), .int .i64 (M x.val)] 83)) := (Below.refl _ _).alloc (Nat.le_refl _) _
        have hbW : b < W.heap.size := by omega
        exact hK _ _ ((KeepsOthers.alloc _ _).from _) (KB.below hb hbW hbs) ⟨HPL.out.next hb, Nat.lt_of_lt_of_le hbs hb.size⟩ ⟨W.heap.size, hlt, heap_alloc_new W _, rfl⟩
      case body =>
        rintro l pre x a' W0 hl _ ⟨hpl, hBsW⟩ ⟨q9, hgq, hx9, rfl⟩ hlt
        obtain ⟨q, hq⟩ := x
        dsimp only at *
        have HW := Lib.hid hpl
        clear hpl
        have hbW : b < W0.heap.size := by have := HW.out.b.size; omega
        have HV := Lib.hid (foldB_bnd OK.out pre)
        have hv1 := HV.out (q + 1) (by omega)
        have XB := Lib.hid (show 0 ≤ foldB n L M C c pre (q + 1) ∧ foldB n L M C c pre (q + 1) ≤ 1000000 by omega)
        have CH := Lib.hid OK.out.ch
        have LB := Lib.hid (show (1 ≤ L q ∧ L q ≤ 200000) ∧ (1 ≤ M q ∧ M q ≤ 100000) from ⟨⟨(OK.out.lg q hq).1, (OK.out.lg q hq).2.1⟩, (OK.out.lg q hq).2.2⟩)
        have HST := Lib.hid (show stepB L M c (foldB n L M C c pre) q = updV (foldB n L M C c pre) q (min (foldB n L M C c pre q) (oppZ (foldB n L M C c pre (q + 1)) (M q) (gainZ c (L q)))) from rfl)
        have k90 := cell_of hx9 (i := 0) rfl
        have k91 := cell_of hx9 (i := 1) rfl
        have l9 := lt_of_heap hx9
        have hg5' : g ≠ w.heap.size := by omega
        have hgB : g ≠ B7 := by have := HW.out.g7; omega
        have hg9 : g ≠ q9 := by omega
        have k7 := cell_of HW.out.h7 (i := 0) rfl
        have k5 := cell_of HW.out.h5 (i := 0) rfl
        have ey := HW.out.bl.cell (i := q) (by omega)
        have ex := HW.out.bl.cell (i := q + 1) (by omega)
        have l7 := HW.out.lt
        have l5 := lt_of_heap HW.out.h5
        have lg := HW.out.bl.lt
        have hw1 : IntKind.i64.wrap ((q : Int) + 1) = (q : Int) + 1 := i64w (by omega)
        have ht1 : (q : Int) < (n : Int) + 1 := by omega
        have ht3 : (0 : Int) ≤ (q : Int) + 1 := by omega
        have ht4 : (q : Int) + 1 < (n : Int) + 1 := by omega
        clear hv1 hx9
        gi_wp2_with (fail)
        obtain ⟨V, hV⟩ : ∃ V, V = foldB n L M C c pre := ⟨_, rfl⟩
        have hfs : foldB n L M C c (pre ++ [⟨q, hq⟩]) = stepB L M c V q := by rw [hV]; exact foldB_snoc
        have HFS := Lib.hid hfs
        rw [← hV] at HW XB HST ey ex
        clear hV hfs HV
        generalize V (q + 1) = x at *
        generalize V q = y at *
        generalize L q = lx at *
        generalize M q = mx_ at *
        refine wpIn_region_only (open_round open_wide l) (S := (fun w' => w'.cell? ⟨B7, 0, none⟩ = some (.slice (some ⟨g, 0, none⟩) (n + 1) cap) ∧ w'.cell? ⟨q9, 0, none⟩ = some (.int .i64 lx) ∧ w'.cell? ⟨q9, 1, none⟩ = some (.int .i64 mx_) ∧ w'.cell? ⟨w.heap.size, 0, none⟩ = some (.int .i64 c) ∧ w'.cell? ⟨g, q + 1, none⟩ = some (.int .i64 x))) (by kernel_rfl) (by kernel_rfl) ⟨k7, k90, k91, k5, ex⟩ (fun hHeld => ?_)
        refine tkH (by assumption) 0 (oi := ?_) (v := ?_) ?_ ?_ ?_ ?_ ?_ ?_ ?_ ?_; rotate_left 2; (simp only [gA, gB, gC]; exact rfl); kernel_rfl; kernel_rfl; kernel_rfl; exact fun _ _ _ h => h; rfl; (intro w' hSw; (try dsimp only at hSw); go_simp; with_reducible rfl); simp only [Act.put, pB, pC, pD]
        refine tkH (by assumption) 1 (oi := ?_) (v := ?_) ?_ ?_ ?_ ?_ ?_ ?_ ?_ ?_; rotate_left 2; (simp only [gA, gB, gC]; exact rfl); kernel_rfl; kernel_rfl; kernel_rfl; exact fun _ _ _ h => h; rfl; (intro w' hSw; (try dsimp only at hSw); go_simp; with_reducible rfl); simp only [Act.put, pB, pC, pD]
        refine tkH (by assumption) 2 (oi := ?_) (v := ?_) ?_ ?_ ?_ ?_ ?_ ?_ ?_ ?_; rotate_left 2; (simp only [gA, gB, gC]; exact rfl); kernel_rfl; kernel_rfl; kernel_rfl; exact fun _ _ _ h => h; rfl; (intro w' hSw; (try dsimp only at hSw); go_simp; with_reducible rfl); simp only [Act.put, pB, pC, pD]
        refine tkH (by assumption) 3 (oi := ?_) (v := ?_) ?_ ?_ ?_ ?_ ?_ ?_ ?_ ?_; rotate_left 2; (simp only [gA, gB, gC]; exact rfl); kernel_rfl; kernel_rfl; kernel_rfl; exact fun _ _ _ h => h; rfl; (intro w' hSw; (try dsimp only at hSw); go_simp; with_reducible rfl); simp only [Act.put, pB, pC, pD]
        refine tkH (by assumption) 4 (oi := ?_) (v := ?_) ?_ ?_ ?_ ?_ ?_ ?_ ?_ ?_; rotate_left 2; (simp only [gA, gB, gC]; exact rfl); kernel_rfl; kernel_rfl; kernel_rfl; exact fun _ _ _ h => h; rfl; (intro w' hSw; (try dsimp only at hSw); go_simp; with_reducible rfl); simp only [Act.put, pB, pC, pD]
        refine tkH (by assumption) 6 (oi := ?_) (v := ?_) ?_ ?_ ?_ ?_ ?_ ?_ ?_ ?_; rotate_left 2; (simp only [gA, gB, gC]; exact rfl); kernel_rfl; kernel_rfl; kernel_rfl; exact fun _ _ _ h => h; rfl; (intro w' hSw; (try dsimp only at hSw); go_simp; with_reducible rfl); simp only [Act.put, pB, pC, pD]
        refine tkH (by assumption) 7 (oi := ?_) (v := ?_) ?_ ?_ ?_ ?_ ?_ ?_ ?_ ?_; rotate_left 2; (simp only [gA, gB, gC]; exact rfl); kernel_rfl; kernel_rfl; kernel_rfl; exact fun _ _ _ h => h; rfl; (intro w' hSw; (try dsimp only at hSw); go_simp; with_reducible rfl); simp only [Act.put, pB, pC, pD]
        refine tkH (by assumption) 8 (oi := ?_) (v := ?_) ?_ ?_ ?_ ?_ ?_ ?_ ?_ ?_; rotate_left 2; (simp only [gA, gB, gC]; exact rfl); kernel_rfl; kernel_rfl; kernel_rfl; exact fun _ _ _ h => h; rfl; (intro w' hSw; (try dsimp only at hSw); go_simp; with_reducible rfl); simp only [Act.put, pB, pC, pD]
        refine tkH (by assumption) 9 (oi := ?_) (v := ?_) ?_ ?_ ?_ ?_ ?_ ?_ ?_ ?_; rotate_left 2; (simp only [gA, gB, gC]; exact rfl); kernel_rfl; kernel_rfl; kernel_rfl; exact fun _ _ _ h => h; rfl; (intro w' hSw; (try dsimp only at hSw); go_simp; with_reducible rfl); simp only [Act.put, pB, pC, pD]
        refine tkH (by assumption) 10 (oi := ?_) (v := ?_) ?_ ?_ ?_ ?_ ?_ ?_ ?_ ?_; rotate_left 2; (simp only [gA, gB, gC]; exact rfl); kernel_rfl; kernel_rfl; kernel_rfl; exact fun _ _ _ h => h; rfl; (intro w' hSw; (try dsimp only at hSw); go_simp; with_reducible rfl); simp only [Act.put, pB, pC, pD]
        refine tkH (by assumption) 11 (oi := ?_) (v := ?_) ?_ ?_ ?_ ?_ ?_ ?_ ?_ ?_; rotate_left 2; (simp only [gA, gB, gC]; exact rfl); kernel_rfl; kernel_rfl; kernel_rfl; exact fun _ _ _ h => h; rfl; (intro w' hSw; (try dsimp only at hSw); go_simp; with_reducible rfl); simp only [Act.put, pB, pC, pD]
        refine tkH (by assumption) 12 (oi := ?_) (v := ?_) ?_ ?_ ?_ ?_ ?_ ?_ ?_ ?_; rotate_left 2; (simp only [gA, gB, gC]; exact rfl); kernel_rfl; kernel_rfl; kernel_rfl; exact fun _ _ _ h => h; rfl; (intro w' hSw; (try dsimp only at hSw); go_simp; with_reducible rfl); simp only [Act.put, pB, pC, pD]
        refine wpAnyH_ready (rs := [5, 13]) (by kernel_rfl) (by simp) ?_
        refine coH 5 (oi := ?_) ?_ ?_ (fun K hK => ?_) ?_; rotate_left; (simp only [gA, gB, gC]; exact rfl); rfl
        · skip
          go_wp2_with (fail)
          refine hK.out _ _ hHeld (fun hHeldN => ?_)
          clear hK K hHeld
          have hHeld := hHeldN
          clear hHeldN
          try simp only [Act.put, pB, pC, pD]
          refine onH 13 (oi := ?_) (by kernel_rfl) ?_ ?_ (fun K hK => ?_); rotate_left; (simp only [gA, gB, gC]; exact rfl); rfl
          go_wp2_with (fail)
          refine (opposite_any x lx mx_ c _ XB.out CH.out LB.out.1 LB.out.2).mono ?_
          rintro e w5 ⟨rfl, hb5⟩
          have hb6 : Below W0.heap.size W0 w5 := ⟨hb5.os, hb5.tape, hb5.output, hb5.size, hb5.block⟩
          have HW5 := Lib.hid (HW.out.next hb6)
          replace k7 := cellk hb6 l7 k7
          replace k90 := cellk hb6 l9 k90
          replace k91 := cellk hb6 l9 k91
          replace k5 := cellk hb6 l5 k5
          replace ex := cellk hb6 lg ex
          replace ey := cellk hb6 lg ey
          have fy := HW5.out.bl.frozen (q)
          have HB6 := Lib.hid hb6
          clear hb5 hb6
          refine hK.out _ _ ⟨k7, k90, k91, k5, ex⟩ (fun hHeldN => ?_)
          clear hK K hHeld
          have hHeld := hHeldN
          clear hHeldN
          try simp only [Act.put, pB, pC, pD]
          have hz : (if oppZ x mx_ (gainZ c lx) < y then oppZ x mx_ (gainZ c lx) else y) = min y (oppZ x mx_ (gainZ c lx)) := by split <;> omega
          refine tkH (by assumption) 14 (oi := ?_) (v := ?_) ?_ ?_ ?_ ?_ ?_ ?_ ?_ ?_; rotate_left 2; (simp only [gA, gB, gC]; exact rfl); kernel_rfl; kernel_rfl; kernel_rfl; exact fun _ _ _ h => h; rfl; (intro w' hSw; (try dsimp only at hSw); go_simp; with_reducible rfl); simp only [Act.put, pB, pC, pD]
          refine tkH (by assumption) 15 (oi := ?_) (v := ?_) ?_ ?_ ?_ ?_ ?_ ?_ ?_ ?_; rotate_left 2; (simp only [gA, gB, gC]; exact rfl); kernel_rfl; kernel_rfl; kernel_rfl; exact fun _ _ _ h => h; rfl; (intro w' hSw; (try dsimp only at hSw); go_simp; with_reducible rfl); simp only [Act.put, pB, pC, pD]
          refine onH 16 (oi := ?_) (by kernel_rfl) ?_ ?_ (fun K hK => ?_); rotate_left; (simp only [gA, gB, gC]; exact rfl); rfl
          go_wp2_with (fail)
          have ng7 : (⟨g, q, none⟩ : Addr) ≠ ⟨B7, 0, none⟩ := ne_block hgB
          have ng9 : ∀ i, (⟨g, q, none⟩ : Addr) ≠ ⟨q9, i, none⟩ := fun i => ne_block hg9
          have ng5 : (⟨g, q, none⟩ : Addr) ≠ ⟨w.heap.size, 0, none⟩ := ne_block (by omega)
          have ngx : (⟨g, q, none⟩ : Addr) ≠ ⟨g, q + 1, none⟩ := ne_off (by omega)
          have HS := Lib.hid (HW5.out.set (i := q) (by omega) (min y (oppZ x mx_ (gainZ c lx))))
          refine hK.out _ _ ⟨(sc_other ng7).trans k7, (sc_other (ng9 0)).trans k90, (sc_other (ng9 1)).trans k91, (sc_other ng5).trans k5, (sc_other ngx).trans ex⟩ (fun hHeldN => ?_)
          clear hK K hHeld
          have hHeld := hHeldN
          clear hHeldN
          try simp only [Act.put, pB, pC, pD]
          refine wpAnyH_done (by kernel_rfl) ?_ _
          simp only [onlyN]
          gi_wp2_with (fail)
          exact ⟨((keeps_below HB6.out).trans (KeepsOthers.setCell _ _ _)).from _, (KB.below HB6.out hbW hBsW).trans (KB.set (by omega) (by omega) _ _), ⟨by rw [HFS.out, HST.out]; exact HS.out, by have := HB6.out.size; simp; omega⟩⟩
        refine coH 13 (oi := ?_) ?_ ?_ (fun K hK => ?_) ?_; rotate_left; (simp only [gA, gB, gC]; exact rfl); rfl
        · skip
          go_wp2_with (fail)
          refine (opposite_any x lx mx_ c _ XB.out CH.out LB.out.1 LB.out.2).mono ?_
          rintro e w5 ⟨rfl, hb5⟩
          have hb6 : Below W0.heap.size W0 w5 := ⟨hb5.os, hb5.tape, hb5.output, hb5.size, hb5.block⟩
          have HW5 := Lib.hid (HW.out.next hb6)
          replace k7 := cellk hb6 l7 k7
          replace k90 := cellk hb6 l9 k90
          replace k91 := cellk hb6 l9 k91
          replace k5 := cellk hb6 l5 k5
          replace ex := cellk hb6 lg ex
          replace ey := cellk hb6 lg ey
          have fy := HW5.out.bl.frozen (q)
          have HB6 := Lib.hid hb6
          clear hb5 hb6
          refine hK.out _ _ ⟨k7, k90, k91, k5, ex⟩ (fun hHeldN => ?_)
          clear hK K hHeld
          have hHeld := hHeldN
          clear hHeldN
          try simp only [Act.put, pB, pC, pD]
          refine onH 5 (oi := ?_) (by kernel_rfl) ?_ ?_ (fun K hK => ?_); rotate_left; (simp only [gA, gB, gC]; exact rfl); rfl
          go_wp2_with (fail)
          refine hK.out _ _ hHeld (fun hHeldN => ?_)
          clear hK K hHeld
          have hHeld := hHeldN
          clear hHeldN
          try simp only [Act.put, pB, pC, pD]
          have hz : (if oppZ x mx_ (gainZ c lx) < y then oppZ x mx_ (gainZ c lx) else y) = min y (oppZ x mx_ (gainZ c lx)) := by split <;> omega
          refine tkH (by assumption) 14 (oi := ?_) (v := ?_) ?_ ?_ ?_ ?_ ?_ ?_ ?_ ?_; rotate_left 2; (simp only [gA, gB, gC]; exact rfl); kernel_rfl; kernel_rfl; kernel_rfl; exact fun _ _ _ h => h; rfl; (intro w' hSw; (try dsimp only at hSw); go_simp; with_reducible rfl); simp only [Act.put, pB, pC, pD]
          refine tkH (by assumption) 15 (oi := ?_) (v := ?_) ?_ ?_ ?_ ?_ ?_ ?_ ?_ ?_; rotate_left 2; (simp only [gA, gB, gC]; exact rfl); kernel_rfl; kernel_rfl; kernel_rfl; exact fun _ _ _ h => h; rfl; (intro w' hSw; (try dsimp only at hSw); go_simp; with_reducible rfl); simp only [Act.put, pB, pC, pD]
          refine onH 16 (oi := ?_) (by kernel_rfl) ?_ ?_ (fun K hK => ?_); rotate_left; (simp only [gA, gB, gC]; exact rfl); rfl
          go_wp2_with (fail)
          have ng7 : (⟨g, q, none⟩ : Addr) ≠ ⟨B7, 0, none⟩ := ne_block hgB
          have ng9 : ∀ i, (⟨g, q, none⟩ : Addr) ≠ ⟨q9, i, none⟩ := fun i => ne_block hg9
          have ng5 : (⟨g, q, none⟩ : Addr) ≠ ⟨w.heap.size, 0, none⟩ := ne_block (by omega)
          have ngx : (⟨g, q, none⟩ : Addr) ≠ ⟨g, q + 1, none⟩ := ne_off (by omega)
          have HS := Lib.hid (HW5.out.set (i := q) (by omega) (min y (oppZ x mx_ (gainZ c lx))))
          refine hK.out _ _ ⟨(sc_other ng7).trans k7, (sc_other (ng9 0)).trans k90, (sc_other (ng9 1)).trans k91, (sc_other ng5).trans k5, (sc_other ngx).trans ex⟩ (fun hHeldN => ?_)
          clear hK K hHeld
          have hHeld := hHeldN
          clear hHeldN
          try simp only [Act.put, pB, pC, pD]
          refine wpAnyH_done (by kernel_rfl) ?_ _
          simp only [onlyN]
          gi_wp2_with (fail)
          exact ⟨((keeps_below HB6.out).trans (KeepsOthers.setCell _ _ _)).from _, (KB.below HB6.out hbW hBsW).trans (KB.set (by omega) (by omega) _ _), ⟨by rw [HFS.out, HST.out]; exact HS.out, by have := HB6.out.size; simp; omega⟩⟩
        exact AllReadyH.nil
      case done =>
        rintro D ys W hD hS ⟨hpl, hBsW⟩ hK
        have HPL := Lib.hid hpl
        have HPO := Lib.hid (hpl.own (Nat.le_trans hwl hD) (grownBy_putObj' W D (.deferred none)) (fun r e => by cases e; exact ⟨Nat.le_refl _, _, hK, rfl⟩))
        have k7 := cell_of HPL.out.h7 (i := 0) rfl
        clear hpl
        gi_wp2_with (fail)
        refine ⟨by simp, .inl ⟨_, _, rfl, run_takeDeferred hK, ?_⟩⟩
        exact ⟨_, results_tmp rfl _ _ _, g, cap, rfl, HPO.out.bl.ext (fun i hi => foldB_dn OK.out hS i (by omega)), by omega, HPO.out.b⟩
      case stop =>
        rintro D c pre W _ _ h _
        exact h.elim
theorem plan_any (a : Option Addr) (n cl : Nat) (L M : Nat → Int) (ac : Option Addr) (m cc : Nat) (C : Nat → Int) (c : Int) (w : World) (hn : n ≤ 100) (hp : LegsR w a n L M) (hc : IntsR w ac m C) (ok : MOk n L M m C c) :
    Calls Try.prog 133 #[.slice a n cl, .slice ac m cc, .int .i64 c] w fun e w' => ∃ g cap, e = .returned (.slice (some ⟨g, 0, none⟩) (n + 1) cap) ∧ BlkI w' g (n + 1) (spZ n L M C c) ∧ w.heap.size ≤ g ∧ Below w.heap.size w w' :=
  callsIn_wide.1 (plan_in a n cl L M ac m cc C c w hn hp hc ok)
end Go.Proofs.Ytdanlnmdkneepaa

/- The reference's abs. -/
set_option linter.unusedSimpArgs false
set_option linter.unusedVariables false
namespace Go.Proofs.Ytdanlnmdkneepaa
open Go.RowKit

def absZ (x : Int) : Int := if x < 0 then -x else x
theorem abs_any (x : Int) (w : World) (h : -1000000000000000000 ≤ x ∧ x ≤ 1000000000000000000) : Calls Try.prog 94 #[.int .i64 x] w fun e w' => e = .returned (.int .i64 (absZ x)) ∧ w = w' := by
  have e1 : IntKind.i64.wrap (-x) = -x := i64w (by omega)
  have e2 : (if -x > x then -x else x) = absZ x := by unfold absZ; split <;> split <;> omega
  go_enter Try.func94, Try.ntmps94
  go_wp2_with (fail)
  go_ret
  exact ⟨rfl, rfl⟩
end Go.Proofs.Ytdanlnmdkneepaa

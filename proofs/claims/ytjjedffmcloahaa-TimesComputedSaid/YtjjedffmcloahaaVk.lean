/- Speeds that are made less until none is too great. -/
import Derived.Test.YtjjedffmcloahaaVj
import Derived.Deep.OwnRows
set_option linter.unusedSimpArgs false
set_option linter.unusedVariables false
namespace Go.Proofs.Ytjjedffmcloahaa
open Go.RowKit

def sumV (v : Nat → Int) : Nat → Int
  | 0 => v 0
  | k + 1 => sumV v k + v (k + 1)
theorem sumV_ext {u v : Nat → Int} : ∀ {n : Nat}, (∀ j, j ≤ n → u j = v j) → sumV u n = sumV v n
  | 0, h => h 0 (Nat.le_refl _)
  | n + 1, h => by simp only [sumV]; rw [sumV_ext (fun j hj => h j (by omega)), h (n + 1) (Nat.le_refl _)]
theorem sumV_upd {v : Nat → Int} {i : Nat} {r : Int} : ∀ {n : Nat}, i ≤ n → sumV (updV v i r) n = sumV v n - v i + r
  | 0, h => by
    obtain rfl : i = 0 := by omega
    simp only [sumV, updV_same]; omega
  | n + 1, h => by
    simp only [sumV]
    by_cases e : i = n + 1
    · subst e
      rw [sumV_ext (u := updV v (n + 1) r) (v := v) (n := n) (fun j hj => updV_other (v := v) (x := r) (show j ≠ n + 1 by omega)), updV_same]; omega
    · rw [sumV_upd (by omega), updV_other (Ne.symm e)]; omega
theorem sumV_nn {v : Nat → Int} : ∀ {n : Nat}, (∀ j, j ≤ n → 0 ≤ v j) → 0 ≤ sumV v n
  | 0, h => h 0 (Nat.le_refl _)
  | n + 1, h => by
    have h1 := sumV_nn (v := v) (n := n) (fun j hj => h j (by omega))
    have h2 := h (n + 1) (Nat.le_refl _)
    simp only [sumV]; omega
/-- The sum that lies in memory. -/
def sumW (w : World) (g n : Nat) : Int := sumV (fun j => intOf (rd w g j)) n
theorem sumW_of {w : World} {g n : Nat} {v : Nat → Int} (h : BlkI w g (n + 1) v) : sumW w g n = sumV v n := sumV_ext (fun j hj => by rw [rd_is (h.cell (show j < n + 1 by omega))]; rfl)

section
variable {n : Nat} {L M : Nat → Int} {k : Nat} {C : Nat → Int} {c : Int}
/-- What is known of speeds that are made less. -/
def Bet (n : Nat) (L M C : Nat → Int) (c : Int) (v : Nat → Int) : Prop := ∀ j, j ≤ n → spZ n L M C c j ≤ v j ∧ v j ≤ bndZ n M C j
/-- No speed is too great at a leg. -/
def Fits (L : Nat → Int) (c : Int) (v : Nat → Int) (j : Nat) : Prop := v (j + 1) ≤ rt (v j * v j + gainZ c (L j)) ∧ v j ≤ rt (v (j + 1) * v (j + 1) + gainZ c (L j))
theorem Bet.pos (ok : MOk n L M k C c) {v : Nat → Int} (h : Bet n L M C c v) {j : Nat} (hj : j ≤ n) : 0 ≤ v j ∧ v j ≤ 100000 := by
  have h1 := ok.sp j hj
  have h2 := ok.bnd j hj
  have h3 := h j hj
  omega
theorem Bet.done (ok : MOk n L M k C c) {v : Nat → Int} (h : Bet n L M C c v) (hf : ∀ j, j < n → Fits L c v j) (j : Nat) (hj : j ≤ n) : v j = spZ n L M C c j := by
  have h1 := top_spd (u := v) ok.bg ⟨fun i hi => ⟨(h.pos ok hi).1, (h i hi).2⟩, fun i hi => (hf i hi).1, fun i hi => (hf i hi).2⟩ j hj
  have h2 := (h j hj).1
  unfold spZ at *
  omega
theorem Bet.fwd (ok : MOk n L M k C c) {v : Nat → Int} (h : Bet n L M C c v) {j : Nat} (hj : j < n) : spZ n L M C c (j + 1) ≤ rt (v j * v j + gainZ c (L j)) := by
  have h1 := spd_fwd ok.bg hj
  have h2 := rt_up (u := spZ n L M C c j) (v := v j) (g := gainZ c (L j)) (ok.sp j (by omega)).1 (h j (by omega)).1 (ok.gn j hj).1
  unfold spZ at *
  exact Int.le_trans h1 h2
theorem Bet.bwd (ok : MOk n L M k C c) {v : Nat → Int} (h : Bet n L M C c v) {j : Nat} (hj : j < n) : spZ n L M C c j ≤ rt (v (j + 1) * v (j + 1) + gainZ c (L j)) := by
  have h1 := spd_bwd (B := bndZ n M C) (G := gnZ L c) hj
  have h2 := rt_up (u := spZ n L M C c (j + 1)) (v := v (j + 1)) (g := gainZ c (L j)) (ok.sp (j + 1) (by omega)).1 (h (j + 1) (by omega)).1 (ok.gn j hj).1
  unfold spZ at *
  exact Int.le_trans h1 h2
theorem Bet.low {v : Nat → Int} (h : Bet n L M C c v) {i : Nat} {r : Int} (hr : r < v i) (hs : spZ n L M C c i ≤ r) : Bet n L M C c (updV v i r) := fun j hj => by
  have h1 := h j hj
  unfold updV
  split
  · rename_i e; subst e; omega
  · exact h1
/-- A round through the legs. -/
structure IN (n : Nat) (L M C : Nat → Int) (c : Int) (v0 : Nat → Int) (b : Bool) (t : Nat) (v : Nat → Int) : Prop where
  bt : Bet n L M C c v
  no : b = false → (∀ j, j ≤ n → v j = v0 j) ∧ ∀ j, j < t → Fits L c v j
  yes : b = true → sumV v n < sumV v0 n
theorem IN.le {v0 v : Nat → Int} {b : Bool} {t : Nat} (h : IN n L M C c v0 b t v) : sumV v n ≤ sumV v0 n := by
  cases b with
  | true => have := h.yes rfl; omega
  | false => rw [sumV_ext (h.no rfl).1]; exact Int.le_refl _
theorem IN.low {v0 v : Nat → Int} {b : Bool} {t : Nat} (h : IN n L M C c v0 b t v) {i : Nat} (hi : i ≤ n) {r : Int} (hr : r < v i) (hs : spZ n L M C c i ≤ r) : IN n L M C c v0 true t (updV v i r) :=
  ⟨h.bt.low hr hs, fun e => (by cases e), fun _ => (by rw [sumV_upd hi]; have := h.le; omega)⟩
theorem IN.skip {v0 v : Nat → Int} {t : Nat} (h : IN n L M C c v0 true t v) : IN n L M C c v0 true (t + 1) v := ⟨h.bt, fun e => (by cases e), h.yes⟩
theorem IN.keep {v0 v : Nat → Int} {b : Bool} {t : Nat} (h : IN n L M C c v0 b t v) (hf : Fits L c v t) : IN n L M C c v0 b (t + 1) v :=
  ⟨h.bt, fun e => ⟨(h.no e).1, fun j hj => by
    rcases Nat.lt_or_ge j t with h' | h'
    · exact (h.no e).2 j h'
    · obtain rfl : j = t := by omega
      exact hf⟩, h.yes⟩
end
/-- A block of k numbers. -/
def SzI (w : World) (g k : Nat) : Prop := ∃ cur, w.heap[g]? = some (.cells cur 3 (0, 0)) ∧ cur.size = k
theorem own_of {w : World} {base g k : Nat} {v : Nat → Int} (h : BlkI w g k v) (hz : SzI w g k) (hb : base ≤ g) (hk : k ≤ 1000000) : w.ownsRow base 3 1 (.slice (some ⟨g, 0, none⟩) k k) k (vs v k) := by
  obtain ⟨cur, h1, h2⟩ := h
  obtain ⟨cur', h3, h4⟩ := hz
  rw [h1] at h3; cases h3
  refine own_litV h1 hb (by unfold maxLen; omega) (by rw [vs_length]; omega) ?_
  apply List.ext_getElem?
  intro i
  by_cases hi : i < k
  · rw [vs_get v k i hi, Array.getElem?_toList]; exact h2 i hi
  · rw [List.getElem?_eq_none (by simp; omega), List.getElem?_eq_none (by rw [vs_length]; omega)]
/-- The reference's speeds under way. -/
structure RS (w : World) (g n : Nat) (v : Nat → Int) (W : World) : Prop where
  bl : BlkI W g (n + 1) v
  b : Below w.heap.size w W
  g0 : w.heap.size ≤ g
  sz : SzI W g (n + 1)
theorem RS.next {w W W' : World} {g n : Nat} {v : Nat → Int} (h : RS w g n v W) (hb : Below W.heap.size W W') : RS w g n v W' := ⟨h.bl.kept hb, h.b.trans (hb.mono h.b.size), h.g0, by obtain ⟨c, h1, h2⟩ := h.sz; exact ⟨c, heap_keep hb h1, h2⟩⟩
theorem RS.set {w W : World} {g n : Nat} {v : Nat → Int} (h : RS w g n v W) {i : Nat} (hi : i < n + 1) (x : Int) : RS w g n (updV v i x) (W.setCell ⟨g, i, none⟩ (.int .i64 x)) := ⟨h.bl.set hi x, h.b.setCell h.g0 _, h.g0, by
  obtain ⟨c, h1, h2⟩ := h.sz
  exact ⟨c.setIfInBounds i (.int .i64 x), by simp [World.setCell, Array.getElem?_modify, h1], by simpa using h2⟩⟩
theorem RS.ext {w W : World} {g n : Nat} {u v : Nat → Int} (h : RS w g n v W) (he : ∀ i, i < n + 1 → v i = u i) : RS w g n u W := ⟨h.bl.ext he, h.b, h.g0, h.sz⟩
theorem mk_intsV (n : Nat) (hn : n ≤ 100) : ∃ MC : Array Value, (∀ i, i < n + 1 → MC[i]? = some (.int .i64 0)) ∧ MC.size = n + 1 ∧ ∀ w : World, (Instr.makeSlice 22 (.int .i64 ((n : Int) + 1)) (.int .i64 ((n : Int) + 1))).run Try.prog w = .ok (.slice (some ⟨w.heap.size, 0, none⟩) (n + 1) (n + 1)) (w.alloc (.cells MC 3)) := by
  obtain ⟨i0, hi0, hz0, hz1, hz2⟩ := info_parts info_intV
  refine ⟨madeCells #[.int .i64 0] (n + 1), fun i hi => ?_, by simp [madeCells], fun w => ?_⟩
  · simp [madeCells, hi, Nat.mod_one]
  · have h := run_make_row (P := Try.prog) 22 3 i0 (.int .i64 0) Try.underlying22 hi0 hz0 hz1 rfl .i64 .i64 (n + 1) (by rw [hz2]; omega) (by omega) w
    rwa [show ((n + 1 : Nat) : Int) = (n : Int) + 1 by omega] at h
end Go.Proofs.Ytjjedffmcloahaa

/- The number stream of the drawn values: what Below, Next, Pick, Flip and Range give. -/
import Derived.Test.YtddnimbalfaieaaRows
import Derived.WalkKit
import Derived.WalkSpells
import Derived.Lib.Hide
import Derived.BigQuiet
import Derived.Deep.QuietTactic
set_option linter.unusedSimpArgs false
set_option linter.unusedVariables false
namespace Go.Proofs.Ytddnimbalfaieaa
open Go.RowKit

theorem ret_int {k : IntKind} {a b : Int} (h : a = b) : Ending.returned (.int k a) = .returned (.int k b) := by rw [h]

/-- Outside the blocks of S, what was there is as it was. -/
structure Mut (S : Nat → Prop) (w w' : World) : Prop where
  os : w'.os = w.os
  tape : w'.tape = w.tape
  output : w'.output = w.output
  size : w.heap.size ≤ w'.heap.size
  block : ∀ k, k < w.heap.size → ¬ S k → w'.heap[k]? = w.heap[k]?

theorem Mut.refl (S : Nat → Prop) (w : World) : Mut S w w := ⟨rfl, rfl, rfl, Nat.le_refl _, fun _ _ _ => rfl⟩
theorem Mut.trans {S : Nat → Prop} {a b c : World} (h : Mut S a b) (k : Mut S b c) : Mut S a c :=
  ⟨k.os.trans h.os, k.tape.trans h.tape, k.output.trans h.output, Nat.le_trans h.size k.size,
    fun i hi hs => (k.block i (Nat.lt_of_lt_of_le hi h.size) hs).trans (h.block i hi hs)⟩
theorem Mut.mono {S S' : Nat → Prop} {w w' : World} (h : Mut S w w') (hs : ∀ k, k < w.heap.size → S k → S' k) : Mut S' w w' :=
  ⟨h.os, h.tape, h.output, h.size, fun k hk hn => h.block k hk fun x => hn (hs k hk x)⟩
theorem Mut.drew {S : Nat → Prop} {a w : World} (h : Mut S a w) : Mut S a w.drew := ⟨h.os, h.tape, h.output, h.size, h.block⟩
theorem Mut.alloc {S : Nat → Prop} {a w : World} (h : Mut S a w) (o : Obj) : Mut S a (w.alloc o) :=
  h.trans ⟨rfl, rfl, rfl, by simp, fun k hk _ => Below.heap_alloc _ _ _ hk⟩
theorem Mut.setCell {S : Nat → Prop} {a w : World} (h : Mut S a w) {p : Addr} (hp : p.block < a.heap.size → S p.block) (u : Value) : Mut S a (w.setCell p u) :=
  ⟨h.os, h.tape, h.output, by have := h.size; simp [World.setCell]; omega, fun k hk hs => by
    rw [Below.heap_setCell _ _ _ _ (by intro e; exact hs (e ▸ hp (e ▸ hk)))]; exact h.block k hk hs⟩
theorem Mut.below {S : Nat → Prop} {a w w' : World} (h : Mut S a w) (hb : Below w.heap.size w w') : Mut S a w' :=
  ⟨hb.os.trans h.os, hb.tape.trans h.tape, hb.output.trans h.output, Nat.le_trans h.size hb.size,
    fun k hk hs => (hb.block k (by have := h.size; omega)).trans (h.block k hk hs)⟩
theorem Mut.toBelow {S : Nat → Prop} {w w' : World} (h : Mut S w w') (B : Nat) (hB : B ≤ w.heap.size) (hs : ∀ k, k < B → ¬ S k) : Below B w w' :=
  ⟨h.os, h.tape, h.output, h.size, fun k hk => h.block k (by omega) (hs k hk)⟩
theorem Mut.cell {S : Nat → Prop} {w w' : World} (h : Mut S w w') {p : Addr} (hp : p.block < w.heap.size) (hs : ¬ S p.block) : w'.cell? p = w.cell? p :=
  World.cell?_of_block (w := w) (h.block p.block hp hs)
theorem Mut.frozen {S : Nat → Prop} {w w' : World} (h : Mut S w w') {p : Addr} (hp : p.block < w.heap.size) (hs : ¬ S p.block) : w'.frozen? p = w.frozen? p :=
  World.frozen?_of_block (w := w) (h.block p.block hp hs)

theorem bdrewN {B : Nat} {a w : World} (h : Below B a w) (n : Nat) : Below B a (w.drewN n) := ⟨h.os, h.tape, h.output, h.size, h.block⟩

/-- A slice of integers that can be read: nil, or a row of cells. -/
def IsRow (k : IntKind) (w : World) (a : Option Addr) (len cap : Nat) (zs : List Int) : Prop :=
  (a = none ∧ len = 0 ∧ cap = 0 ∧ zs = []) ∨
  ∃ x, a = some x ∧ len ≤ cap ∧ cap ≤ maxLen ∧ zs.length = cap ∧ (∀ i, i < zs.length → w.cell? (x.add i) = some (.int k (zs.getD i 0))) ∧ ∀ n ∈ zs, (Lit.int k n).wf = true

/-- The stream in block B, which has given at most k numbers: its list lies below B. -/
structure Strm (w : World) (B k : Nat) : Prop where
  small : k ≤ 1000000
  at_ : ∃ (a : Option Addr) (len cap n : Nat) (zs : List Int), n ≤ k ∧ w.heap[B]? = some (.cells #[.slice a len cap, .int .i64 n] 25 (0, 0)) ∧ IsRow .i64 w a len cap zs ∧ (∀ x, a = some x → 0 < zs.length → x.block < B)

theorem Strm.lt {w : World} {B k : Nat} (h : Strm w B k) : B < w.heap.size := by
  obtain ⟨_, a, len, cap, n, zs, _, hb, _⟩ := h
  exact Decidable.byContradiction fun hn => by rw [Array.getElem?_eq_none (by omega)] at hb; cases hb

theorem Strm.kept {S : Nat → Prop} {w w' : World} {B k : Nat} (h : Strm w B k) (hm : Mut S w w') (hs : ∀ x, x ≤ B → ¬ S x) : Strm w' B k := by
  have hlt := h.lt
  obtain ⟨h1, a, len, cap, n, zs, hn, hb, hr, ha⟩ := h
  refine ⟨h1, a, len, cap, n, zs, hn, (hm.block B hlt (hs B (Nat.le_refl _))).trans hb, ?_, ha⟩
  rcases hr with hr | ⟨x, hx, hl, hc, hz, hcell, hwf⟩
  · exact .inl hr
  · refine .inr ⟨x, hx, hl, hc, hz, fun i hi => ?_, hwf⟩
    have hx2 := ha x hx (by omega)
    have hx3 : (x.add i).block = x.block := by unfold Addr.add; split <;> rfl
    rw [hm.cell (by rw [hx3]; omega) (hs _ (by rw [hx3]; omega))]
    exact hcell i hi
theorem Strm.more {w : World} {B k k' : Nat} (h : Strm w B k) (hk : k ≤ k') (hs : k' ≤ 1000000) : Strm w B k' := by
  obtain ⟨_, a, len, cap, n, zs, hn, r⟩ := h
  exact ⟨hs, a, len, cap, n, zs, by omega, r⟩

theorem tmod_bounds (x n : Int) (hn : 1 ≤ n) : -n < x.tmod n ∧ x.tmod n < n := by
  have h1 := Int.tmod_lt_of_pos x (b := n) (by omega)
  have h2 := Int.lt_tmod_of_pos x (b := n) (by omega)
  omega

/-- A number from 0 to n-1. -/
def IntIn (n : Int) (e : Ending) : Prop := ∃ r : Int, e = .returned (.int .i64 r) ∧ 0 ≤ r ∧ r < n

/-- Below reduces to the range from 0 to n-1. -/
theorem below_any (x n : Int) (w : World) (h3 : 1 ≤ n) (h4 : n ≤ 4611686018427387904) :
    Calls Try.prog 54 #[.int .i64 x, .int .i64 n] w fun e w' => IntIn n e ∧ w = w' := by
  obtain ⟨hm1, hm2⟩ := tmod_bounds x n h3
  go_enter Try.func54, Try.ntmps54
  go_wp2
  all_goals
    go_ret
    exact ⟨⟨_, rfl, by omega, by omega⟩, rfl⟩

/-- The stream after one number. -/
def NextPost (w : World) (B k : Nat) (n : Int) (e : Ending) (w' : World) : Prop := IntIn n e ∧ Strm w' B (k + 1) ∧ Mut (· = B) w w'


theorem strm_set {w : World} {B : Nat} {v0 v1 u : Value} {t : TypeId} (hb : w.heap[B]? = some (.cells #[v0, v1] t (0, 0))) :
    (w.setCell ⟨B, 1, none⟩ u).heap[B]? = some (.cells #[v0, u] t (0, 0)) := by
  simp [World.setCell, Array.getElem?_modify, hb]

theorem next_post {w : World} {B k j : Nat} {n : Int} {a : Option Addr} {len cap : Nat} {zs : List Int} (hn : j ≤ k) (hk : k + 1 ≤ 1000000)
    (hb : w.heap[B]? = some (.cells #[.slice a len cap, .int .i64 j] 25 (0, 0))) (hr : IsRow .i64 w a len cap zs) (ha : ∀ x, a = some x → 0 < zs.length → x.block < B) {e : Ending}
    (h : IntIn n e) (q : Nat) : NextPost w B k n e ((w.setCell ⟨B, 1, none⟩ (.int .i64 ((j : Int) + 1))).drewN q) := by
  have hlt : B < w.heap.size := Decidable.byContradiction fun hn => by rw [Array.getElem?_eq_none (by omega)] at hb; cases hb
  have hm : Mut (· = B) w (w.setCell ⟨B, 1, none⟩ (.int .i64 ((j : Int) + 1))) := (Mut.refl (· = B) w).setCell (p := ⟨B, 1, none⟩) (fun _ => rfl) _
  have hm' : Mut (· = B) w ((w.setCell ⟨B, 1, none⟩ (.int .i64 ((j : Int) + 1))).drewN q) := ⟨hm.os, hm.tape, hm.output, hm.size, hm.block⟩
  refine ⟨h, ⟨hk, a, len, cap, j + 1, zs, by omega, strm_set hb, ?_, ha⟩, hm'⟩
  rcases hr with hr | ⟨x, hx, hl, hc, hz, hcell, hwf⟩
  · exact .inl hr
  · refine .inr ⟨x, hx, hl, hc, hz, fun i hi => ?_, hwf⟩
    have hx2 := ha x hx (by omega)
    have hx3 : (x.add i).block = x.block := by unfold Addr.add; split <;> rfl
    rw [hm'.cell (by rw [hx3]; omega) (by rw [hx3]; omega)]
    exact hcell i hi

set_option maxHeartbeats 400000 in
theorem next_any (B k : Nat) (n : Int) (w : World) (hs : Strm w B k) (hk : k + 1 ≤ 1000000) (h3 : 1 ≤ n) (h4 : n ≤ 4611686018427387904) :
    Calls Try.prog 39 #[.pointer (some ⟨B, 0, none⟩), .int .i64 n] w (NextPost w B k n) := by
  have hlt := hs.lt
  obtain ⟨h1, a, len, cap, j, zs, hn, hb, hr, ha⟩ := hs
  have c0 : w.cell? ⟨B, 0, none⟩ = some (.slice a len cap) := by simp [World.cell?, hb]
  have c1 : w.cell? ⟨B, 1, none⟩ = some (.int .i64 j) := by simp [World.cell?, hb]
  have f1 : w.frozen? ⟨B, 1, none⟩ = false := by simp [World.frozen?, hb]
  have P : ∀ e q, IntIn n e → NextPost w B k n e ((w.setCell ⟨B, 1, none⟩ (.int .i64 ((j : Int) + 1))).drewN q) := fun e q h => next_post hn hk hb hr ha h q
  have HP := Lib.hid P
  have HB := Lib.hid hb
  clear P hb
  by_cases h0 : len = 0
  · subst h0
    clear ha hr
    go_enter Try.func39, Try.ntmps39
    go_wp2_with (go_at_call 54; refine (below_any _ _ _ h3 h4).mono ?_; rintro e w' ⟨⟨r, rfl, h5, h6⟩, rfl⟩)
    go_ret
    exact HP.out _ 0 ⟨r, rfl, h5, h6⟩
  · rcases hr with ⟨rfl, rfl, rfl, rfl⟩ | ⟨x, rfl, hl, hc, hz, hcell, hwf⟩
    · omega
    · have hx2 := ha x rfl (by omega)
      obtain ⟨b, off, spot⟩ := x
      have hspot : spot = none := by simpa [Addr.add] using World.cell?_spot (hcell 0 (by omega))
      subst hspot
      have hbb : b < B := hx2
      have hlen : len ≤ 9223372036854775807 := by unfold maxLen at hc; omega
      have hi0 : 0 ≤ (j : Int) % len := Int.emod_nonneg _ (by omega)
      have hi1 : (j : Int) % len < len := Int.emod_lt_of_pos _ (by omega)
      have hi2 : j % len < len := Nat.mod_lt _ (by omega)
      have e0 : ((len : Int) == 0) = false := by simp; omega
      obtain ⟨z, hzz⟩ : ∃ z, w.cell? ⟨b, off + j % len, none⟩ = some (.int .i64 z) := by
        have := hcell (j % len) (by omega)
        have e : Addr.add ⟨b, off, none⟩ (j % len) = ⟨b, off + j % len, none⟩ := by unfold Addr.add; split <;> simp_all
        rw [e] at this; exact ⟨_, this⟩
      clear ha hx2 hcell hwf
      go_enter Try.func39, Try.ntmps39
      go_wp2
      go_quiet (fail)
      go_wp2
      go_quiet (fail)
      go_wp2_with (go_at_call 54; refine (below_any _ _ _ (by omega) (by omega)).mono ?_; rintro e w' ⟨⟨r, rfl, h5, h6⟩, rfl⟩)
      go_ret
      exact HP.out _ _ ⟨r, rfl, h5, h6⟩

/-- The answer of a call that takes c numbers of the stream at most, and writes nothing else. -/
def StrmPost (w : World) (B k c : Nat) (R : Ending → Prop) (e : Ending) (w' : World) : Prop := R e ∧ Strm w' B (k + c) ∧ Mut (· = B) w w'
def BoolE (e : Ending) : Prop := ∃ b : Bool, e = .returned (.bool b)
def IntE (P : Int → Prop) (e : Ending) : Prop := ∃ z : Int, e = .returned (.int .i64 z) ∧ P z

theorem flip_any (B k : Nat) (n : Int) (w : World) (hs : Strm w B k) (hk : k + 1 ≤ 1000000) (h3 : 1 ≤ n) (h4 : n ≤ 4611686018427387904) :
    Calls Try.prog 7 #[.pointer (some ⟨B, 0, none⟩), .int .i64 n] w (StrmPost w B k 1 BoolE) := by
  go_enter Try.func7, Try.ntmps7
  go_wp2_with (go_at_call 39; refine (next_any B k n w hs hk h3 h4).mono ?_; rintro e w' ⟨⟨r, rfl, h5, h6⟩, hst, hmt⟩)
  all_goals
    go_ret
    exact ⟨⟨_, rfl⟩, hst, hmt⟩

theorem range_any (B k : Nat) (lo hi : Int) (w : World) (hs : Strm w B k) (hk : k + 1 ≤ 1000000) (h3 : lo ≤ hi) (h4 : -1000000000000 ≤ lo) (h5 : hi ≤ 1000000000000) :
    Calls Try.prog 25 #[.pointer (some ⟨B, 0, none⟩), .int .i64 lo, .int .i64 hi] w (StrmPost w B k 1 (IntE fun z => lo ≤ z ∧ z ≤ hi)) := by
  go_enter Try.func25, Try.ntmps25
  go_wp2_with (go_at_call 39; refine (next_any B k _ w hs hk (by omega) (by omega)).mono ?_; rintro e w' ⟨⟨r, rfl, h5, h6⟩, hst, hmt⟩)
  go_ret
  exact ⟨⟨_, rfl, by omega, by omega⟩, hst, hmt⟩

theorem pick_any (B k b len cap : Nat) (P : Int → Prop) (w : World) (hs : Strm w B k) (hk : k + 1 ≤ 1000000) (h3 : 1 ≤ len) (h4 : len ≤ 1000000) (hb : b ≠ B) (hbs : b < w.heap.size)
    (hc : ∀ i, i < len → ∃ z, w.cell? ⟨b, i, none⟩ = some (.int .i64 z) ∧ P z) :
    Calls Try.prog 23 #[.pointer (some ⟨B, 0, none⟩), .slice (some ⟨b, 0, none⟩) len cap] w (StrmPost w B k 1 (IntE P)) := by
  go_enter Try.func23, Try.ntmps23
  have HC := Lib.hid hc
  clear hc
  go_wp2_with (go_at_call 39; refine (next_any B k _ w hs hk (by omega) (by omega)).mono ?_; rintro e w' ⟨⟨r, rfl, h5, h6⟩, hst, hmt⟩; obtain ⟨i, rfl⟩ := Int.eq_ofNat_of_zero_le h5; obtain ⟨z, hz, hp⟩ := HC.out i (by omega); have hz2 := (hmt.cell (p := ⟨b, i, none⟩) hbs hb).trans hz; have HZ := Lib.hid hz; clear hz; have HP := Lib.hid hp; clear hp)
  go_ret
  exact ⟨⟨_, rfl, HP.out⟩, hst, hmt⟩

theorem Strm.alloc {w : World} {B k : Nat} (h : Strm w B k) (o : Obj) : Strm (w.alloc o) B k :=
  h.kept ((Mut.refl (fun _ => False) w).alloc o) (fun _ _ h => h)

theorem cells_lit (w : World) (l : List Int) (T : TypeId) (P : Int → Prop) (hP : ∀ z ∈ l, P z) :
    ∀ i, i < l.length → ∃ z, (w.alloc (.cells (l.map (Value.int .i64)).toArray T)).cell? ⟨w.heap.size, i, none⟩ = some (.int .i64 z) ∧ P z := by
  intro i hi
  refine ⟨l[i], ?_, hP _ (List.getElem_mem hi)⟩
  rw [World.cell?_alloc_at] <;> simp [hi]

/-- Pick out of a literal list. -/
theorem pick_new (B k : Nat) (l : List Int) (n : Nat) (P : Int → Prop) (w : World) (hs : Strm w B k) (hk : k + 1 ≤ 1000000) (hn : l.length = n) (h3 : 1 ≤ n) (h4 : n ≤ 1000000) (hP : ∀ z ∈ l, P z) :
    Calls Try.prog 23 #[.pointer (some ⟨B, 0, none⟩), .slice (some ⟨w.heap.size, 0, none⟩) n n] (w.alloc (.cells (l.map (Value.int .i64)).toArray 3)) (StrmPost w B k 1 (IntE P)) := by
  have hlt := hs.lt
  refine (pick_any B k w.heap.size n n P _ (hs.alloc _) hk h3 h4 (by omega) (by simp) (by have := cells_lit w l 3 P hP; rwa [hn] at this)).mono ?_
  rintro e w' ⟨h1, h2, h3⟩
  exact ⟨h1, h2, ((Mut.refl _ _).alloc _).trans (h3.mono fun _ _ h => h)⟩

theorem StrmPost.trans {w w1 w' : World} {B k c d : Nat} {R : Ending → Prop} {e : Ending} (h : Mut (· = B) w w1) (g : StrmPost w1 B (k + c) d R e w') : StrmPost w B k (c + d) R e w' := by
  obtain ⟨h1, h2, h3⟩ := g
  exact ⟨h1, by rw [← Nat.add_assoc]; exact h2, h.trans h3⟩

theorem cell_lt {w : World} {p : Addr} {v : Value} (h : w.cell? p = some v) : p.block < w.heap.size :=
  Decidable.byContradiction fun hn => by
    have := World.cell?_of_block (w := w) (w' := { w with heap := #[] }) (a := p) (by rw [Array.getElem?_eq_none (by simp), Array.getElem?_eq_none (by omega)])
    rw [h] at this
    simp [World.cell?] at this
/-- A new stream over a list. -/
theorem Strm.start {w : World} {a : Option Addr} {len cap : Nat} {zs : List Int} (h : IsRow .i64 w a len cap zs) : Strm (w.alloc (.cells #[.slice a len cap, .int .i64 0] 25)) w.heap.size 0 := by
  have hb : Below w.heap.size w (w.alloc (.cells #[.slice a len cap, .int .i64 0] 25)) := (Below.refl _ w).alloc (Nat.le_refl _) _
  refine ⟨by omega, a, len, cap, 0, zs, Nat.le_refl _, heap_alloc_new w _, ?_, ?_⟩
  · rcases h with h | ⟨x, hx, hl, hc, hz, hcell, hwf⟩
    · exact .inl h
    · exact .inr ⟨x, hx, hl, hc, hz, fun i hi => (hb.cell (cell_lt (hcell i hi))).trans (hcell i hi), hwf⟩
  · intro x hx hpos
    rcases h with ⟨_, _, _, h4⟩ | ⟨y, hy, _, _, hz, hcell, _⟩
    · subst h4; simp at hpos
    · rw [hx] at hy
      cases hy
      have := cell_lt (hcell 0 hpos)
      have e : (x.add 0).block = x.block := by unfold Addr.add; split <;> rfl
      omega
end Go.Proofs.Ytddnimbalfaieaa

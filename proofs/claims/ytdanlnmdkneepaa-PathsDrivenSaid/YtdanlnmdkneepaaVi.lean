/- slices.Backward of legs: each index and leg, from the last one to the first. -/
import Derived.Test.YtdanlnmdkneepaaVh
set_option linter.unusedSimpArgs false
set_option linter.unusedVariables false
namespace Go.Proofs.Ytdanlnmdkneepaa
open Go.RowKit Go.Shelf
attribute [local go_sem] Oper.semAt_some

/-- The first k numbers from n - 1 down. -/
def dn (n k : Nat) : List Nat := (List.range k).map (fun j => n - 1 - j)
theorem dn_succ (n k : Nat) : dn n (k + 1) = dn n k ++ [n - 1 - k] := by simp [dn, List.range_succ]
theorem dn_length (n k : Nat) : (dn n k).length = k := by simp [dn]
def encL {n : Nat} (L M : Nat → Int) (x : Fin n) : Array Value := #[.int .i64 (x.val : Int), .agg #[.int .i64 (L x.val), .int .i64 (M x.val)]]

/-- Two blocks lie as they lay. -/
def KB (b B : Nat) (W W' : World) : Prop := W'.heap[b]? = W.heap[b]? ∧ W'.heap[B]? = W.heap[B]?
theorem KB.refl (b B : Nat) (W : World) : KB b B W W := ⟨rfl, rfl⟩
theorem KB.trans {b B : Nat} {X Y Z : World} (h : KB b B X Y) (k : KB b B Y Z) : KB b B X Z := ⟨k.1.trans h.1, k.2.trans h.2⟩
theorem KB.cell {b B : Nat} {W W' : World} (h : KB b B W W') (o : Nat) : W'.cell? ⟨b, o, none⟩ = W.cell? ⟨b, o, none⟩ := World.cell?_of_block (w := W) h.1
theorem KB.cellB {b B : Nat} {W W' : World} (h : KB b B W W') (o : Nat) : W'.cell? ⟨B, o, none⟩ = W.cell? ⟨B, o, none⟩ := World.cell?_of_block (w := W) h.2
theorem KB.put {b B : Nat} {w : World} (hb : b < w.heap.size) (hB : B < w.heap.size) (W : World) (l : Nat) (o o' : Obj) (hl : w.heap.size ≤ l) (_ : W.heap[l]? = some o) (_ : o.isCells = false) (_ : o.isWalk = false) : KB b B W (W.putObj l o') :=
  ⟨World.putObj_heap_other (by omega), World.putObj_heap_other (by omega)⟩
theorem KB.below {b B : Nat} {W W' : World} (h : Below W.heap.size W W') (hb : b < W.heap.size) (hB : B < W.heap.size) : KB b B W W' := ⟨h.block b hb, h.block B hB⟩
theorem KB.set {b B g : Nat} {W : World} (hb : b ≠ g) (hB : B ≠ g) (i : Nat) (v : Value) : KB b B W (W.setCell ⟨g, i, none⟩ v) := ⟨Below.heap_setCell _ _ _ _ hb, Below.heap_setCell _ _ _ _ hB⟩
set_option maxRecDepth 100000 in
set_option maxHeartbeats 4000000 in
theorem backward1_in (F : Fence) (N : Nat) (h8 : F.fn 129) (hro : F.round = none) (hN : 1 ≤ N) (l Bs b off n cap : Nat) (L M : Nat → Int) (hn : n ≤ 1000000) (J Jx : List (Fin n) → World → Prop)
    (hY : ∀ pre x W, J pre W → pre.length < n → YieldAt F (N - 1) Try.prog l (encL L M x) W fun e W' =>
      (e = .returned (.bool true) ∧ J (pre ++ [x]) W' ∧ KB b Bs W W') ∨ (e = .returned (.bool false) ∧ Jx (pre ++ [x]) W'))
    (W : World) (hBs : W.cell? ⟨Bs, 0, none⟩ = some (.slice (some ⟨b, off, none⟩) n cap))
    (hc : ∀ i, i < n → W.cell? ⟨b, off + i * 2, none⟩ = some (.int .i64 (L i)) ∧ W.cell? ⟨b, off + i * 2 + 1, none⟩ = some (.int .i64 (M i))) (h0 : J [] W) :
    CallsIn F N Try.prog 129 #[.func (.yield l) #[] #[], .pointer (some ⟨Bs, 0, none⟩)] W fun e W' => (∃ v, e = .returned v) ∧
      ((∃ ys : List (Fin n), ys.map Fin.val = dn n n ∧ J ys W') ∨ (∃ pre : List (Fin n), (∃ k, k ≤ n ∧ pre.map Fin.val = dn n k) ∧ Jx pre W')) := by
  refine callsIn_of_wp Try.func129 rfl h8 ?_ hro
  simp only [Try.ntmps129, List.size_toArray, List.length_cons, List.length_nil, Nat.reduceAdd, Nat.reduceSub, Array.replicate_succ, Array.replicate_zero, List.push_toArray, List.append_toArray, List.nil_append, List.cons_append]
  have hw0 : IntKind.i64.wrap ((n : Int) - 1) = (n : Int) - 1 := i64w (by omega)
  gi_wp2
  gi_loopw [3] (fun i wr => ∃ (k : Nat) (pre : List (Fin n)), k ≤ n ∧ i = .int .i64 ((n : Int) - 1 - k) ∧ pre.map Fin.val = dn n k ∧ J pre wr ∧ KB b Bs W wr)
    (fun i _ => (intOf i + 1).toNat)
  case atStart => exact ⟨0, [], Nat.zero_le _, by simp, rfl, h0, KB.refl _ _ _⟩
  case round =>
    obtain ⟨k, pre, hk, rfl, hpre, hJs, hnx⟩ := hrel
    have hBx := (hnx.cellB 0).trans hBs
    have hpl : pre.length = k := by have := congrArg List.length hpre; rw [dn_length, List.length_map] at this; exact this
    by_cases hlt : k < n
    · obtain ⟨q, hq⟩ : ∃ q : Nat, q = n - 1 - k := ⟨_, rfl⟩
      have hqn : q < n := by omega
      have hqe : (n : Int) - 1 - (k : Int) = (q : Int) := by omega
      rw [hqe]
      have hw1 : IntKind.i64.wrap ((q : Int) - 1) = (q : Int) - 1 := i64w (by omega)
      obtain ⟨fn, tmps, assign, body, hy, hR⟩ := hY pre ⟨q, hqn⟩ wr hJs (by omega)
      dsimp only [encL] at hy
      have hc0 := (hnx.cell (off + q * 2)).trans (hc q hqn).1
      have hc1 := (hnx.cell (off + q * 2 + 1)).trans (hc q hqn).2
      have HQ := Lib.hid hq
      have HE := Lib.hid hqe
      clear hq hqe
      gi_wp2
      refine hR.mono ?_
      rintro e W3 (⟨rfl, hJ3, hk3⟩ | ⟨rfl, hJx3⟩)
      · gi_wp2
        go_roundw
        case rel => exact ⟨k + 1, _, by omega, by have := HE.out; simp <;> omega, by rw [List.map_append, hpre, dn_succ, ← HQ.out]; rfl, hJ3, hnx.trans hk3⟩
        case measure => have := HE.out; simp [intOf] <;> omega
      · gi_wp2
        refine bodyPost_ret (results_none rfl _ _ _) rfl ?_
        exact ⟨⟨_, rfl⟩, .inr ⟨_, ⟨k + 1, by omega, by rw [List.map_append, hpre, dn_succ, ← HQ.out]; rfl⟩, hJx3⟩⟩
    · obtain rfl : k = n := by omega
      have hneg : (k : Int) - 1 - (k : Int) = -1 := by omega
      rw [hneg]
      gi_wp2
      go_end0
      exact ⟨⟨_, rfl⟩, .inl ⟨_, hpre, hJs⟩⟩
set_option maxHeartbeats 1000000 in
theorem backward_in (F : Fence) (N : Nat) (h5 : F.fn 115) (hro : F.round = none) (a : Option Addr) (len cap : Nat) (w : World) :
    CallsIn F N Try.prog 115 #[.slice a len cap] w fun e w' => e = .returned (.func (.func 129) #[] #[.pointer (some ⟨w.heap.size, 0, none⟩)]) ∧ w' = w.alloc (.cells #[.slice a len cap] 64) := by
  refine callsIn_of_wp Try.func115 rfl h5 ?_ hro
  simp only [Try.ntmps115, List.size_toArray, List.length_cons, List.length_nil, Nat.reduceAdd, Nat.reduceSub, Array.replicate_succ, Array.replicate_zero, List.push_toArray, List.append_toArray, List.nil_append, List.cons_append]
  gi_wp2
  go_ret
  exact ⟨rfl, rfl⟩
theorem backward_stops (F : Fence) (N : Nat) (h8 : F.fn 129) (hro : F.round = none) (hN : 1 ≤ N) (Bs b off n cap : Nat) (L M : Nat → Int) (hn : n ≤ 1000000) (w : World) (hBs : Bs < w.heap.size) (hb : b < w.heap.size)
    (hc : w.cell? ⟨Bs, 0, none⟩ = some (.slice (some ⟨b, off, none⟩) n cap)) (hI : ∀ i, i < n → w.cell? ⟨b, off + i * 2, none⟩ = some (.int .i64 (L i)) ∧ w.cell? ⟨b, off + i * 2 + 1, none⟩ = some (.int .i64 (M i))) :
    SeqStopsK F N Try.prog 129 #[.pointer (some ⟨Bs, 0, none⟩)] (encL L M : Fin n → Array Value) (KB b Bs) (fun ys => ys.map Fin.val = dn n n)
      (fun pre => ∃ k, k ≤ n ∧ pre.map Fin.val = dn n k) n w := fun l J Jx W hW _ _ hY h0 => by
  have hc' := (hW.cell (p := ⟨Bs, 0, none⟩) (by show Bs < _; omega)).trans hc
  have hI' : ∀ i, i < n → W.cell? ⟨b, off + i * 2, none⟩ = some (.int .i64 (L i)) ∧ W.cell? ⟨b, off + i * 2 + 1, none⟩ = some (.int .i64 (M i)) := fun i hi =>
    ⟨(hW.cell (p := ⟨b, off + i * 2, none⟩) (by show b < _; omega)).trans (hI i hi).1, (hW.cell (p := ⟨b, off + i * 2 + 1, none⟩) (by show b < _; omega)).trans (hI i hi).2⟩
  exact backward1_in F N h8 hro hN l Bs b off n cap L M hn J Jx hY W hc' hI' h0
end Go.Proofs.Ytdanlnmdkneepaa

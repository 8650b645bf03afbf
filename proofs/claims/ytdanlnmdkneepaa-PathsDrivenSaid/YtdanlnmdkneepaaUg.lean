/- Legs and corners the other way round: the program. -/
import Derived.Test.YtdanlnmdkneepaaUf
import Derived.Test.YtdanlnmdkneepaaVi
import Derived.Deep.Cut
set_option linter.unusedSimpArgs false
set_option linter.unusedVariables false
namespace Go.Proofs.Ytdanlnmdkneepaa
open Go.RowKit Go.Shelf
attribute [local go_sem] Oper.semAt_some

theorem keeps_belowT {W W' : World} (h : Below W.heap.size W W') : KeepsOthers W W' := ⟨h.size, fun k o hk _ => (h.block k (lt_of_heap hk)).trans hk⟩
/-- A list under way, in a box: what it holds. -/
structure TL (w : World) (tb te : TypeId) (sz k : Nat) (xs : List Value) (W : World) : Prop where
  h : ∃ v, Boxed W w.heap.size tb v ∧ W.ownsRow w.heap.size te sz v k xs
  b : Below w.heap.size w W
theorem TL.lt {w W : World} {tb te : TypeId} {sz k : Nat} {xs : List Value} (h : TL w tb te sz k xs W) : w.heap.size < W.heap.size := by obtain ⟨⟨v, h, _⟩, _⟩ := h; exact h.lt
theorem TL.next {w W W' : World} {tb te : TypeId} {sz k : Nat} {xs : List Value} (h : TL w tb te sz k xs W) (hb : Below W.heap.size W W') : TL w tb te sz k xs W' := by
  obtain ⟨⟨v, h1, h2⟩, h3⟩ := h
  exact ⟨⟨v, heap_keep hb h1, ownsRow_below h2 hb⟩, h3.trans (hb.mono h3.size)⟩
theorem TL.own {w W W' : World} {tb te : TypeId} {sz k B : Nat} {xs : List Value} {row : Option Nat} (h : TL w tb te sz k xs W) (hB : w.heap.size ≤ B) (hg : W.grownBy W' row) (hr : ∀ r, row = some r → B ≤ r ∧ ∃ o, W.heap[r]? = some o ∧ o.isCells = false) : TL w tb te sz k xs W' := by
  obtain ⟨⟨v, h1, h2⟩, h3⟩ := h
  refine ⟨⟨v, h1.kept hg (fun e => ?_), h2.kept hg ?_⟩, ownFrom_below (β := Unit) (Nat.le_refl _) hB () W W' row h3 hg hr⟩
  · obtain ⟨_, o, ho, hc⟩ := hr _ e.symm
    rw [show W.heap[w.heap.size]? = _ from h1] at ho; cases ho; cases hc
  · rcases h2.2 with ⟨rfl, _⟩ | ⟨g, cap, cur, rfl, _, hgb, _⟩
    · exact .inl rfl
    · refine .inr fun e' => ?_
      obtain ⟨_, o, ho, hc⟩ := hr g (by simpa [Value.ownBlock] using e'.symm)
      rw [hgb] at ho; cases ho; cases hc
def lcL (L M : Nat → Int) (l : List Nat) : List Value := l.flatMap fun x => [.int .i64 (L x), .int .i64 (M x)]
theorem lcL_app (L M : Nat → Int) (l : List Nat) (q : Nat) : lcL L M (l ++ [q]) = lcL L M l ++ [.int .i64 (L q), .int .i64 (M q)] := by simp [lcL]
theorem lcL_dn (L M : Nat → Int) (n : Nat) : ∀ k, lcL L M (dn n k) = cells2 (rv n L) (rv n M) k
  | 0 => rfl
  | k + 1 => by rw [dn_succ, lcL_app, lcL_dn L M n k]; rfl
set_option maxRecDepth 100000 in
set_option maxHeartbeats 8000000 in
theorem turnedL_in (b off n cl : Nat) (L M : Nat → Int) (w : World) (hn : n ≤ 100) (hb : b < w.heap.size) (hd : Du w b off n L M) :
    CallsIn Fence.wide 9 Try.prog 89 #[.slice (some ⟨b, off, none⟩) n cl] w fun e w' => ∃ a c, e = .returned (.slice a n c) ∧ w'.ownsRow w.heap.size 83 2 (.slice a n c) n (cells2 (rv n L) (rv n M) n) ∧ Below w.heap.size w w' := by
  obtain ⟨i0, hi0, hz0, hz1, hz2⟩ := info_parts info_leg
  have h1 : 1 ≤ 9 := by omega
  refine callsIn_of_wp_marks Try.func89 rfl trivial ?_ rfl
  simp only [Try.ntmps89, List.size_toArray, List.length_cons, List.length_nil, Nat.reduceAdd, Nat.reduceSub, Array.replicate_succ, Array.replicate_zero, List.push_toArray, List.append_toArray, List.nil_append, List.cons_append]
  have HD := Lib.hid hd
  clear hd
  gi_wp2_with (fail)
  refine ⟨trivial, (backward_in Fence.wide 8 trivial rfl _ _ _ _).mono ?_⟩
  rintro e w' ⟨rfl, rfl⟩
  gi_wp2_with (fail)
  have HTL := Lib.hid (show TL w 64 83 2 0 (lcL L M []) ((w.alloc (.cells #[.slice none 0 0] 64)).alloc (.cells #[.slice (some ⟨b, off, none⟩) n cl] 64)) from ⟨⟨.slice none 0 0, by unfold Boxed; exact (by repeat (first | (refine heap_new ?_; first | rfl | (simp; done)) | rw [Below.heap_setCell _ _ _ _ (by simp <;> omega)] | rw [Below.heap_alloc _ _ _ (by simp <;> omega)])), World.ownsRow_nil _ _ _ _⟩, (by repeat (first | exact Below.refl _ _ | assumption | refine Below.drew ?_ | refine bdrewN ?_ _ | refine Below.setCell ?_ (by first | omega | (simp <;> omega)) _ | refine Below.alloc ?_ (by first | omega | (simp <;> omega)) _))⟩)
  have hq9 : Boxed ((w.alloc (.cells #[.slice none 0 0] 64)).alloc (.cells #[.slice (some ⟨b, off, none⟩) n cl] 64)) (w.heap.size + 1) 64 (.slice (some ⟨b, off, none⟩) n cl) := by unfold Boxed; exact (by repeat (first | (refine heap_new ?_; first | rfl | (simp; done)) | rw [Below.heap_setCell _ _ _ _ (by simp <;> omega)] | rw [Below.heap_alloc _ _ _ (by simp <;> omega)]))
  generalize ((w.alloc (.cells #[.slice none 0 0] 64)).alloc (.cells #[.slice (some ⟨b, off, none⟩) n cl] 64)) = w4 at *
  have hwl := HTL.out.b.size
  have hb3 : b < w4.heap.size := by omega
  have HD3 := Lib.hid (HD.out.kept HTL.out.b hb)
  obtain ⟨Bs, hBs⟩ : ∃ q, q = w.heap.size + 1 := ⟨_, rfl⟩
  rw [← hBs] at hq9 ⊢
  have l9 := hq9.lt
  have HE := Lib.hid hBs
  clear hBs
  refine wpIn_rangeFunc_ownH rfl h1 (gf := 129) (lb := #[.pointer (some ⟨Bs, 0, none⟩)]) rfl trivial (enters_of Try.func129 (by kernel_rfl) rfl)
    (backward_stops Fence.wide 8 trivial rfl (by omega) Bs b off n cl L M (by omega) w4 l9 hb3 hq9.cell HD3.out) (fun h k => KB.trans h k) (KB.put hb3 l9) (Below.refl _ _) (fun _ => rfl)
    (fun pre W => TL w 64 83 2 pre.length (lcL L M (pre.map Fin.val)) W ∧ Boxed W Bs 64 (.slice (some ⟨b, off, none⟩) n cl))
    (fun _ _ _ => False)
    (fun pre W W' row hs hg hr => ⟨hs.1.own hwl hg hr, hs.2.kept hg (fun e => by
      obtain ⟨_, o, ho, hc⟩ := hr _ e.symm
      rw [show W.heap[Bs]? = _ from hs.2] at ho; cases ho; cases hc)⟩)
    (fun _ _ _ _ _ hs _ _ => hs)
    ⟨HTL.out, hq9⟩
    (fun x a' W => ∃ Bx, W.heap[Bx]? = some (.cells #[.int .i64 (L x.val), .int .i64 (M x.val)] 83 (0, 0)) ∧ a' = { tmps := #[.slice (some ⟨b, off, none⟩) n cl, undef, .slice none 0 0, .pointer (some ⟨w.heap.size, 0, none⟩), undef, .pointer (some ⟨Bx, 0, none⟩), .slice (some ⟨b, off, none⟩) n cl, .func (.func 129) #[] #[.pointer (some ⟨Bs, 0, none⟩)], .int .i64 (x.val : Int), .agg #[.int .i64 (L x.val), .int .i64 (M x.val)], undef, undef, undef, undef, undef], defers := [] })
    (fun x a' _ X Y row hs hg hr => by
      obtain ⟨Bx, h2, h3⟩ := hs
      refine ⟨Bx, (hg.block Bx (lt_of_heap h2) (fun e => ?_)).trans h2, h3⟩
      obtain ⟨_, o, ho, hc⟩ := hr Bx e.symm
      rw [h2] at ho; cases ho; cases hc)
    ?assign ?body ?done ?stop
  case assign =>
    rintro l pre x W K ⟨hpl, hbs⟩ hK
    have HPL := Lib.hid hpl
    have hws := hpl.b.size
    clear hpl
    unfold encL
    gi_wp2_with (fail)
    have hb : Below W.heap.size W (W.alloc (.cells #[.int .i64 (L x.val), .int .i64 (M x.val)] 83)) := (Below.refl _ _).alloc (Nat.le_refl _) _
    have hbW : b < W.heap.size := by omega
    exact hK _ _ ((KeepsOthers.alloc _ _).from _) (KB.below hb hbW hbs.lt) ⟨HPL.out.next hb, hbs.alloc _⟩ ⟨W.heap.size, heap_alloc_new W _, rfl⟩
  case body =>
    rintro l pre x a' W0 hl _ ⟨hpl, hBsW⟩ ⟨q9, hx9, rfl⟩ hlt
    obtain ⟨q, hq⟩ := x
    dsimp only at *
    obtain ⟨⟨v0, hh0, ho0⟩, hb0⟩ := hpl
    have hs0 := hb0.size
    have HO := Lib.hid ho0
    have HH := Lib.hid hh0
    have HB := Lib.hid hb0
    have HBs := Lib.hid hBsW
    have k3 := hh0.cell
    have k90 := cell_of hx9 (i := 0) rfl
    have k91 := cell_of hx9 (i := 1) rfl
    have l9 := lt_of_heap hx9
    have hlw := hh0.lt
    clear hh0 ho0 hb0 hBsW
    gi_wp2_with (gi_at_builtin; refine wpListIn_append_own _ rfl _ _ 64 rfl w.heap.size 83 i0 (.agg #[.int .i64 0, .int .i64 0]) 2 16 Try.underlying64 hi0 hz0 hz1 hz2 rfl (by decide) _ _ _ rfl (HO.out.alloc (.cells #[.int .i64 (L q), .int .i64 (M q)] 83)) ⟨W0.heap.size, 0, none⟩ 1 1 [.int .i64 (L q), .int .i64 (M q)] rfl rfl (World.news_of_block (cs := #[.int .i64 (L q), .int .i64 (M q)]) (World.alloc_heap_new W0 _)) (by simp [Value.oneCell']) (by unfold maxLen; omega) (by omega) (by simp; omega) ?_; intro v' w' hown hgrow _; have HA := Lib.hid (Boxed.appended HH.out (by decide) HO.out (by omega) (Nat.le_refl _) hown hgrow); have HN := Lib.hid ((HBs.out.alloc _).kept hgrow (HBs.out.not_row (by decide) HO.out)); obtain ⟨g, cap, rfl⟩ := ownsRow_succ hown; clear hown hgrow; have hc1 := HA.out.1.cell; have hf1 := HA.out.1.frozen)
    obtain ⟨hA1, hA2, hA3, hA4, hA5⟩ := HA.out
    refine ⟨hA4.from _, ⟨hA5.block b hb, ?_⟩, ⟨⟨_, hA2, ?_⟩, HB.out.trans hA5⟩, ?_⟩
    · exact (Below.heap_setCell _ _ _ _ (by show Bs ≠ w.heap.size; rw [HE.out]; omega)).trans (HN.out.trans HBs.out.symm)
    · rw [List.map_append, List.map_cons, List.map_nil, lcL_app, List.length_append]
      exact hA3
    · exact (Below.heap_setCell _ _ _ _ (by show Bs ≠ w.heap.size; rw [HE.out]; omega)).trans HN.out
  case done =>
    rintro D ys W hD hS ⟨hpl, hbs⟩ hK
    have HPO := Lib.hid (hpl.own (Nat.le_trans hwl hD) (grownBy_putObj' W D (.deferred none)) (fun r e => by cases e; exact ⟨Nat.le_refl _, _, hK, rfl⟩)).b
    obtain ⟨⟨v, hh, ho⟩, _⟩ := hpl
    have hyl : ys.length = n := by have := congrArg List.length hS; rwa [dn_length, List.length_map] at this
    rw [hS, hyl, lcL_dn L M n n] at ho
    have HO := Lib.hid (ownsRow_putObj ho (.deferred none) hK rfl)
    obtain ⟨ao, cap, rfl⟩ := own_sliceV ho
    have k3 := hh.cell
    clear hh ho hbs
    gi_wp2_with (fail)
    refine ⟨by simp, .inl ⟨_, _, rfl, run_takeDeferred hK, ?_⟩⟩
    exact ⟨_, results_tmp rfl _ _ _, ao, cap, rfl, HO.out, HPO.out⟩
  case stop =>
    rintro D c pre W _ _ h _
    exact h.elim
def encI {n : Nat} (L : Nat → Int) (x : Fin n) : Array Value := #[.int .i64 (x.val : Int), .int .i64 (L x.val)]
set_option maxRecDepth 100000 in
set_option maxHeartbeats 4000000 in
theorem backwardI1_in (F : Fence) (N : Nat) (h8 : F.fn 130) (hro : F.round = none) (hN : 1 ≤ N) (a : Option Addr) (l Bs b off n cap : Nat) (L : Nat → Int) (ha : 0 < n → a = some ⟨b, off, none⟩) (hn : n ≤ 1000000) (J Jx : List (Fin n) → World → Prop)
    (hY : ∀ pre x W, J pre W → pre.length < n → YieldAt F (N - 1) Try.prog l (encI L x) W fun e W' =>
      (e = .returned (.bool true) ∧ J (pre ++ [x]) W' ∧ KB b Bs W W') ∨ (e = .returned (.bool false) ∧ Jx (pre ++ [x]) W'))
    (W : World) (hBs : W.cell? ⟨Bs, 0, none⟩ = some (.slice a n cap))
    (hc : ∀ i, i < n → W.cell? ⟨b, off + i, none⟩ = some (.int .i64 (L i))) (h0 : J [] W) :
    CallsIn F N Try.prog 130 #[.func (.yield l) #[] #[], .pointer (some ⟨Bs, 0, none⟩)] W fun e W' => (∃ v, e = .returned v) ∧
      ((∃ ys : List (Fin n), ys.map Fin.val = dn n n ∧ J ys W') ∨ (∃ pre : List (Fin n), (∃ k, k ≤ n ∧ pre.map Fin.val = dn n k) ∧ Jx pre W')) := by
  refine callsIn_of_wp Try.func130 rfl h8 ?_ hro
  simp only [Try.ntmps130, List.size_toArray, List.length_cons, List.length_nil, Nat.reduceAdd, Nat.reduceSub, Array.replicate_succ, Array.replicate_zero, List.push_toArray, List.append_toArray, List.nil_append, List.cons_append]
  have hw0 : IntKind.i64.wrap ((n : Int) - 1) = (n : Int) - 1 := i64w (by omega)
  gi_wp2
  gi_loopw [3] (fun i wr => ∃ (k : Nat) (pre : List (Fin n)), k ≤ n ∧ i = .int .i64 ((n : Int) - 1 - k) ∧ pre.map Fin.val = dn n k ∧ J pre wr ∧ KB b Bs W wr)
    (fun i _ => (intOf i + 1).toNat)
  case atStart => exact ⟨0, [], Nat.zero_le _, by simp, rfl, h0, KB.refl _ _ _⟩
  case round =>
    obtain ⟨k, pre, hk, rfl, hpre, hJs, hnx⟩ := hrel
    have hBx := (hnx.cellB 0).trans hBs
    have hpl : pre.length = k := by have := congrArg List.length hpre; rw [dn_length, List.length_map] at this; exact this
    by_cases hlt : k < n
    · obtain rfl := ha (by omega)
      obtain ⟨q, hq⟩ : ∃ q : Nat, q = n - 1 - k := ⟨_, rfl⟩
      have hqn : q < n := by omega
      have hqe : (n : Int) - 1 - (k : Int) = (q : Int) := by omega
      rw [hqe]
      have hw1 : IntKind.i64.wrap ((q : Int) - 1) = (q : Int) - 1 := i64w (by omega)
      obtain ⟨fn, tmps, assign, body, hy, hR⟩ := hY pre ⟨q, hqn⟩ wr hJs (by omega)
      dsimp only [encI] at hy
      have hc0 := (hnx.cell (off + q)).trans (hc q hqn)
      have HQ := Lib.hid hq
      have HE := Lib.hid hqe
      clear hq hqe
      gi_wp2
      refine hR.mono ?_
      rintro e W3 (⟨rfl, hJ3, hk3⟩ | ⟨rfl, hJx3⟩)
      · gi_wp2
        go_roundw
        case rel => exact ⟨k + 1, _, by omega, by have := HE.out; simp <;> omega, by rw [List.map_append, hpre, dn_succ, ← HQ.out]; rfl, hJ3, hnx.trans hk3⟩
        case measure => have := HE.out; simp [intOf] <;> omega
      · gi_wp2
        refine bodyPost_ret (results_none rfl _ _ _) rfl ?_
        exact ⟨⟨_, rfl⟩, .inr ⟨_, ⟨k + 1, by omega, by rw [List.map_append, hpre, dn_succ, ← HQ.out]; rfl⟩, hJx3⟩⟩
    · obtain rfl : k = n := by omega
      have hneg : (k : Int) - 1 - (k : Int) = -1 := by omega
      rw [hneg]
      gi_wp2
      go_end0
      exact ⟨⟨_, rfl⟩, .inl ⟨_, hpre, hJs⟩⟩
set_option maxHeartbeats 1000000 in
theorem backwardI_in (F : Fence) (N : Nat) (h5 : F.fn 116) (hro : F.round = none) (a : Option Addr) (len cap : Nat) (w : World) :
    CallsIn F N Try.prog 116 #[.slice a len cap] w fun e w' => e = .returned (.func (.func 130) #[] #[.pointer (some ⟨w.heap.size, 0, none⟩)]) ∧ w' = w.alloc (.cells #[.slice a len cap] 22) := by
  refine callsIn_of_wp Try.func116 rfl h5 ?_ hro
  simp only [Try.ntmps116, List.size_toArray, List.length_cons, List.length_nil, Nat.reduceAdd, Nat.reduceSub, Array.replicate_succ, Array.replicate_zero, List.push_toArray, List.append_toArray, List.nil_append, List.cons_append]
  gi_wp2
  go_ret
  exact ⟨rfl, rfl⟩
theorem backwardI_stops (F : Fence) (N : Nat) (h8 : F.fn 130) (hro : F.round = none) (hN : 1 ≤ N) (a : Option Addr) (Bs b off n cap : Nat) (L : Nat → Int) (ha : 0 < n → a = some ⟨b, off, none⟩) (hn : n ≤ 1000000) (w : World) (hBs : Bs < w.heap.size) (hb : b < w.heap.size)
    (hc : w.cell? ⟨Bs, 0, none⟩ = some (.slice a n cap)) (hI : ∀ i, i < n → w.cell? ⟨b, off + i, none⟩ = some (.int .i64 (L i))) :
    SeqStopsK F N Try.prog 130 #[.pointer (some ⟨Bs, 0, none⟩)] (encI L : Fin n → Array Value) (KB b Bs) (fun ys => ys.map Fin.val = dn n n)
      (fun pre => ∃ k, k ≤ n ∧ pre.map Fin.val = dn n k) n w := fun l J Jx W hW _ _ hY h0 => by
  have hc' := (hW.cell (p := ⟨Bs, 0, none⟩) (by show Bs < _; omega)).trans hc
  have hI' : ∀ i, i < n → W.cell? ⟨b, off + i, none⟩ = some (.int .i64 (L i)) := fun i hi =>
    (hW.cell (p := ⟨b, off + i, none⟩) (by show b < _; omega)).trans (hI i hi)
  exact backwardI1_in F N h8 hro hN a l Bs b off n cap L ha hn J Jx hY W hc' hI' h0
def lcI (L : Nat → Int) (l : List Nat) : List Value := l.flatMap fun x => [.int .i64 (L x)]
theorem lcI_app (L : Nat → Int) (l : List Nat) (q : Nat) : lcI L (l ++ [q]) = lcI L l ++ [.int .i64 (L q)] := by simp [lcI]
theorem lcI_dn (L : Nat → Int) (n : Nat) : ∀ k, lcI L (dn n k) = vs (rv n L) k
  | 0 => rfl
  | k + 1 => by rw [dn_succ, lcI_app, lcI_dn L n k]; rw [vs_succ]; rfl
set_option maxRecDepth 100000 in
set_option maxHeartbeats 8000000 in
theorem turnedI_in (a : Option Addr) (b off n cl : Nat) (L : Nat → Int) (w : World) (hn : n ≤ 100) (ha : 0 < n → a = some ⟨b, off, none⟩) (hb : b < w.heap.size ∨ (n = 0 ∧ b = w.heap.size + 1)) (hd : ∀ i, i < n → w.cell? ⟨b, off + i, none⟩ = some (.int .i64 (L i))) :
    CallsIn Fence.wide 9 Try.prog 90 #[.slice a n cl] w fun e w' => ∃ a' c, e = .returned (.slice a' n c) ∧ w'.ownsRow w.heap.size 3 1 (.slice a' n c) n (vs (rv n L) n) ∧ Below w.heap.size w w' := by
  obtain ⟨i0, hi0, hz0, hz1, hz2⟩ := info_parts info_intV
  have h1 : 1 ≤ 9 := by omega
  refine callsIn_of_wp_marks Try.func90 rfl trivial ?_ rfl
  simp only [Try.ntmps90, List.size_toArray, List.length_cons, List.length_nil, Nat.reduceAdd, Nat.reduceSub, Array.replicate_succ, Array.replicate_zero, List.push_toArray, List.append_toArray, List.nil_append, List.cons_append]
  have HD := Lib.hid hd
  clear hd
  gi_wp2_with (fail)
  refine ⟨trivial, (backwardI_in Fence.wide 8 trivial rfl _ _ _ _).mono ?_⟩
  rintro e w' ⟨rfl, rfl⟩
  gi_wp2_with (fail)
  have HTL := Lib.hid (show TL w 22 3 1 0 (lcI L []) ((w.alloc (.cells #[.slice none 0 0] 22)).alloc (.cells #[.slice a n cl] 22)) from ⟨⟨.slice none 0 0, by unfold Boxed; exact (by repeat (first | (refine heap_new ?_; first | rfl | (simp; done)) | rw [Below.heap_setCell _ _ _ _ (by simp <;> omega)] | rw [Below.heap_alloc _ _ _ (by simp <;> omega)])), World.ownsRow_nil _ _ _ _⟩, (by repeat (first | exact Below.refl _ _ | assumption | refine Below.drew ?_ | refine bdrewN ?_ _ | refine Below.setCell ?_ (by first | omega | (simp <;> omega)) _ | refine Below.alloc ?_ (by first | omega | (simp <;> omega)) _))⟩)
  have hq9 : Boxed ((w.alloc (.cells #[.slice none 0 0] 22)).alloc (.cells #[.slice a n cl] 22)) (w.heap.size + 1) 22 (.slice a n cl) := by unfold Boxed; exact (by repeat (first | (refine heap_new ?_; first | rfl | (simp; done)) | rw [Below.heap_setCell _ _ _ _ (by simp <;> omega)] | rw [Below.heap_alloc _ _ _ (by simp <;> omega)]))
  generalize ((w.alloc (.cells #[.slice none 0 0] 22)).alloc (.cells #[.slice a n cl] 22)) = w4 at *
  have hwl := HTL.out.b.size
  have hb3 : b < w4.heap.size := by have := hq9.lt; omega
  have HD3 := Lib.hid (fun i hi => cellk HTL.out.b (by show b < _; omega) (HD.out i hi))
  obtain ⟨Bs, hBs⟩ : ∃ q, q = w.heap.size + 1 := ⟨_, rfl⟩
  rw [← hBs] at hq9 ⊢
  have l9 := hq9.lt
  have HE := Lib.hid hBs
  clear hBs
  refine wpIn_rangeFunc_ownH rfl h1 (gf := 130) (lb := #[.pointer (some ⟨Bs, 0, none⟩)]) rfl trivial (enters_of Try.func130 (by kernel_rfl) rfl)
    (backwardI_stops Fence.wide 8 trivial rfl (by omega) a Bs b off n cl L ha (by omega) w4 l9 hb3 hq9.cell HD3.out) (fun h k => KB.trans h k) (KB.put hb3 l9) (Below.refl _ _) (fun _ => rfl)
    (fun pre W => TL w 22 3 1 pre.length (lcI L (pre.map Fin.val)) W ∧ Boxed W Bs 22 (.slice a n cl))
    (fun _ _ _ => False)
    (fun pre W W' row hs hg hr => ⟨hs.1.own hwl hg hr, hs.2.kept hg (fun e => by
      obtain ⟨_, o, ho, hc⟩ := hr _ e.symm
      rw [show W.heap[Bs]? = _ from hs.2] at ho; cases ho; cases hc)⟩)
    (fun _ _ _ _ _ hs _ _ => hs)
    ⟨HTL.out, hq9⟩
    (fun x a' W => a' = { tmps := #[.slice a n cl, undef, .slice none 0 0, .pointer (some ⟨w.heap.size, 0, none⟩), undef, .int .i64 (L x.val), .slice a n cl, .func (.func 130) #[] #[.pointer (some ⟨Bs, 0, none⟩)], .int .i64 (x.val : Int), .int .i64 (L x.val), undef, undef, undef, undef, undef], defers := [] })
    (fun x a' _ X Y row hs hg hr => hs)
    ?assign ?body ?done ?stop
  case assign =>
    rintro l pre x W K ⟨hpl, hbs⟩ hK
    have HPL := Lib.hid hpl
    have hws := hpl.b.size
    clear hpl
    unfold encI
    gi_wp2_with (fail)
    exact hK _ _ (KeepsOthers.refl _ |>.from _) (KB.refl _ _ _) ⟨HPL.out, hbs⟩ rfl
  case body =>
    rintro l pre x a' W0 hl _ ⟨hpl, hBsW⟩ rfl hlt
    obtain ⟨q, hq⟩ := x
    dsimp only at *
    obtain ⟨⟨v0, hh0, ho0⟩, hb0⟩ := hpl
    have hs0 := hb0.size
    have HO := Lib.hid ho0
    have HH := Lib.hid hh0
    have HB := Lib.hid hb0
    have HBs := Lib.hid hBsW
    have k3 := hh0.cell
    have hlw := hh0.lt
    clear hh0 ho0 hb0 hBsW
    gi_wp2_with (gi_at_builtin; refine wpListIn_append_own _ rfl _ _ 22 rfl w.heap.size 3 i0 (.int .i64 0) 1 8 Try.underlying22 hi0 hz0 hz1 hz2 rfl (by decide) _ _ _ rfl (HO.out.alloc (.cells #[.int .i64 (L q)] 3)) ⟨W0.heap.size, 0, none⟩ 1 1 [.int .i64 (L q)] rfl rfl (World.news_of_block (cs := #[.int .i64 (L q)]) (World.alloc_heap_new W0 _)) (by simp [Value.oneCell']) (by unfold maxLen; omega) (by omega) (by simp; omega) ?_; intro v' w' hown hgrow _; have HA := Lib.hid (Boxed.appended HH.out (by decide) HO.out (by omega) (Nat.le_refl _) hown hgrow); have HN := Lib.hid ((HBs.out.alloc _).kept hgrow (HBs.out.not_row (by decide) HO.out)); obtain ⟨g, cap, rfl⟩ := ownsRow_succ hown; clear hown hgrow; have hc1 := HA.out.1.cell; have hf1 := HA.out.1.frozen)
    obtain ⟨hA1, hA2, hA3, hA4, hA5⟩ := HA.out
    refine ⟨hA4.from _, ⟨hA5.block b (by omega), ?_⟩, ⟨⟨_, hA2, ?_⟩, HB.out.trans hA5⟩, ?_⟩
    · exact (Below.heap_setCell _ _ _ _ (by show Bs ≠ w.heap.size; rw [HE.out]; omega)).trans (HN.out.trans HBs.out.symm)
    · rw [List.map_append, List.map_cons, List.map_nil, lcI_app, List.length_append]
      exact hA3
    · exact (Below.heap_setCell _ _ _ _ (by show Bs ≠ w.heap.size; rw [HE.out]; omega)).trans HN.out
  case done =>
    rintro D ys W hD hS ⟨hpl, hbs⟩ hK
    have HPO := Lib.hid (hpl.own (Nat.le_trans hwl hD) (grownBy_putObj' W D (.deferred none)) (fun r e => by cases e; exact ⟨Nat.le_refl _, _, hK, rfl⟩)).b
    obtain ⟨⟨v, hh, ho⟩, _⟩ := hpl
    have hyl : ys.length = n := by have := congrArg List.length hS; rwa [dn_length, List.length_map] at this
    rw [hS, hyl, lcI_dn L n n] at ho
    have HO := Lib.hid (ownsRow_putObj ho (.deferred none) hK rfl)
    obtain ⟨ao, cap, rfl⟩ := own_sliceV ho
    have k3 := hh.cell
    clear hh ho hbs
    gi_wp2_with (fail)
    refine ⟨by simp, .inl ⟨_, _, rfl, run_takeDeferred hK, ?_⟩⟩
    exact ⟨_, results_tmp rfl _ _ _, ao, cap, rfl, HO.out, HPO.out⟩
  case stop =>
    rintro D c pre W _ _ h _
    exact h.elim
end Go.Proofs.Ytdanlnmdkneepaa

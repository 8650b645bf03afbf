/- Meshes, as they are drawn: the state of the making. -/
import Derived.Test.YtmcebhjcaacbpaaSp
set_option linter.unusedSimpArgs false
set_option linter.unusedVariables false
namespace Go.Proofs.Ytmcebhjcaacbpaa
open Go.RowKit

/-- The making of a mesh that began in w: the result's block, the mesh's block, its slices; the stream. -/
structure AM (w W : World) (B kk : Nat) (sv sf : Value) (nv nf : Nat) : Prop where
  r : W.heap[w.heap.size]? = some (.cells #[.slice none 0 0, .slice none 0 0] 29 (0, 0))
  m : W.heap[w.heap.size + 1]? = some (.cells #[sv, sf] 29 (0, 0))
  i : MIn W (w.heap.size + 1 + 1) sv sf nv nf
  s : Strm W B kk
  u : Mut (· = B) w W
  b : B < w.heap.size
  z : w.heap.size + 1 + 1 ≤ W.heap.size

theorem MIn.keep {S : Nat → Prop} {w w' : World} {base : Nat} {sv sf : Value} {nv nf : Nat} (h : MIn w base sv sf nv nf) (hm : Mut S w w') (hs : ∀ b, base ≤ b → b < w.heap.size → ¬ S b) : MIn w' base sv sf nv nf := by
  obtain ⟨⟨x, h1, h2⟩, y, h3, h4⟩ := h
  exact ⟨⟨x, own_mut h1 hm (fun b hb => hs b (h1.lt b hb).1 (h1.lt b hb).2), h2⟩, y, own_mut h3 hm (fun b hb => hs b (h3.lt b hb).1 (h3.lt b hb).2), h4⟩
theorem MIn.weak {w : World} {base base' : Nat} {sv sf : Value} {nv nf : Nat} (h : MIn w base sv sf nv nf) (hb : base' ≤ base) : MIn w base' sv sf nv nf := by
  obtain ⟨⟨x, h1, h2⟩, y, h3, h4⟩ := h
  exact ⟨⟨x, own_base h1 hb, h2⟩, y, own_base h3 hb, h4⟩
theorem AM.step {w W W' : World} {B kk kk' : Nat} {sv sf : Value} {nv nf : Nat} (h : AM w W B kk sv sf nv nf) (hm : Mut (· = B) W W') (hs : Strm W' B kk') : AM w W' B kk' sv sf nv nf := by
  obtain ⟨r, m, i, s, u, b, z⟩ := h
  exact ⟨(hm.block _ (lt_of_heap r) (by omega)).trans r, (hm.block _ (lt_of_heap m) (by omega)).trans m, i.keep hm (fun _ _ _ => by omega), hs, u.trans hm, b, Nat.le_trans z hm.size⟩
theorem mut_of_below {S : Nat → Prop} {w w' : World} (h : Below w.heap.size w w') : Mut S w w' := ⟨h.os, h.tape, h.output, h.size, fun k hk _ => h.block k hk⟩
theorem AM.below {w W W' : World} {B kk : Nat} {sv sf : Value} {nv nf : Nat} (h : AM w W B kk sv sf nv nf) (hb : Below W.heap.size W W') : AM w W' B kk sv sf nv nf :=
  h.step (mut_of_below hb) (h.s.kept (S := fun _ => False) (mut_of_below hb) (fun _ _ h => h))
theorem AM.start (w : World) {B k : Nat} (hs : Strm w B k) : AM w ((w.alloc (.cells #[.slice none 0 0, .slice none 0 0] 29)).alloc (.cells #[.slice none 0 0, .slice none 0 0] 29)) B k (.slice none 0 0) (.slice none 0 0) 0 0 :=
  ⟨(Below.heap_alloc _ _ _ (by simp)).trans (heap_new rfl), heap_new (by simp), ⟨⟨[], World.ownsRow_nil _ _ _ _, AllInt.nil⟩, [], World.ownsRow_nil _ _ _ _, AllInt.nil⟩, (hs.alloc _).alloc _, ((Mut.refl _ w).alloc _).alloc _, hs.lt, by simp⟩
/-- Another mesh is taken for it: m = n. -/
theorem AM.take {w W : World} {B kk : Nat} {sv sf sv' sf' : Value} {nv nf nv' nf' : Nat} (h : AM w W B kk sv sf nv nf) (i' : MIn W (w.heap.size + 1 + 1) sv' sf' nv' nf') :
    AM w ((W.setCell ⟨w.heap.size + 1, 0, none⟩ sv').setCell ⟨w.heap.size + 1, 1, none⟩ sf') B kk sv' sf' nv' nf' := by
  obtain ⟨r, m, i, s, u, b, z⟩ := h
  have hm : Mut (· = w.heap.size + 1) W ((W.setCell ⟨w.heap.size + 1, 0, none⟩ sv').setCell ⟨w.heap.size + 1, 1, none⟩ sf') := ((Mut.refl (· = w.heap.size + 1) W).setCell (p := ⟨w.heap.size + 1, 0, none⟩) (fun _ => rfl) _).setCell (p := ⟨w.heap.size + 1, 1, none⟩) (fun _ => rfl) _
  exact ⟨(hm.block _ (lt_of_heap r) (by omega)).trans r, set2_1 (set2_0 m), i'.keep hm (fun _ _ _ => by omega), s.kept hm (fun _ _ => by omega),
    ⟨hm.os.trans u.os, hm.tape.trans u.tape, hm.output.trans u.output, Nat.le_trans u.size hm.size, fun k hk hn => (hm.block k (by have := u.size; omega) (by omega)).trans (u.block k hk hn)⟩, b, Nat.le_trans z hm.size⟩
theorem mut_of_grown {w w' : World} {row : Option Nat} (h : w.grownBy w' row) : Mut (fun b => row = some b) w w' := ⟨h.os, h.tape, h.output, h.size, fun k hk hn => h.block k hk (fun e => hn e.symm)⟩
theorem AM.mut {S : Nat → Prop} {w W W' : World} {B kk : Nat} {sv sf sv' sf' : Value} {nv nf nv' nf' : Nat} (h : AM w W B kk sv sf nv nf) (hm : Mut S W W') (hs : ∀ b, S b → w.heap.size + 1 ≤ b)
    (m' : W'.heap[w.heap.size + 1]? = some (.cells #[sv', sf'] 29 (0, 0))) (i' : MIn W' (w.heap.size + 1 + 1) sv' sf' nv' nf') : AM w W' B kk sv' sf' nv' nf' := by
  obtain ⟨r, m, i, s, u, b, z⟩ := h
  exact ⟨(hm.block _ (lt_of_heap r) (fun e => by have := hs _ e; omega)).trans r, m', i', s.kept hm (fun x hx e => by have := hs _ e; omega),
    ⟨hm.os.trans u.os, hm.tape.trans u.tape, hm.output.trans u.output, Nat.le_trans u.size hm.size, fun k hk hn => (hm.block k (by have := u.size; omega) (fun e => by have := hs _ e; omega)).trans (u.block k hk hn)⟩, b, Nat.le_trans z hm.size⟩
theorem AM.more {w W : World} {B kk kk' : Nat} {sv sf : Value} {nv nf : Nat} (h : AM w W B kk sv sf nv nf) (hk : kk ≤ kk') (h2 : kk' ≤ 1000000) : AM w W B kk' sv sf nv nf :=
  ⟨h.r, h.m, h.i, h.s.more hk h2, h.u, h.b, h.z⟩
theorem AM.sep {w W : World} {B kk : Nat} {sv sf : Value} {nv nf : Nat} (h : AM w W B kk sv sf nv nf) : ∀ b, sv.ownBlock = some b ∨ sf.ownBlock = some b → b < W.heap.size := by
  obtain ⟨⟨x, h1, _⟩, y, h3, _⟩ := h.i
  intro b hb
  rcases hb with hb | hb
  · exact (h1.lt b hb).2
  · exact (h3.lt b hb).2
theorem own_news {w : World} {base g n cap : Nat} {e : TypeId} {xs : List Value} (h : w.ownsRow base e 3 (.slice (some ⟨g, 0, none⟩) n cap) n xs) : ∀ j u, xs[j]? = some u → w.cell? ((⟨g, 0, none⟩ : Addr).add j) = some u := by
  intro j u hu
  have hj : j < n * 3 := by
    have := (List.getElem?_eq_some_iff.1 hu).1
    rwa [h.1] at this
  rw [Addr.add_lit, Nat.zero_add, h.cellAt j hj]
  exact hu
theorem AllInt.one {P : Int → Prop} {xs : List Value} (h : AllInt P xs) : ∀ u ∈ xs, u.oneCell' = true := fun u hu => by
  obtain ⟨z, rfl, _⟩ := h u hu; rfl
/-- More faces. -/
theorem AM.addf {w W W4 : World} {B kk : Nat} {sv sf sf' : Value} {nv nf n' : Nat} {ys : List Value} (h : AM w W B kk sv sf nv nf) (o o' : Obj) (hgrow : ((W.alloc o).alloc o').grownBy W4 sf.ownBlock)
    (hown : W4.ownsRow (w.heap.size + 1 + 1) 47 3 sf' n' ys) (hys : AllInt (fun z => 0 ≤ z ∧ z < nv) ys) : AM w (W4.setCell ⟨w.heap.size + 1, 1, none⟩ sf') B kk sv sf' nv n' := by
  obtain ⟨⟨x, h1, h2⟩, y, h3, h4⟩ := h.i
  have hM : Mut (fun b => sf.ownBlock = some b) W W4 := (((Mut.refl _ W).alloc o).alloc o').trans (mut_of_grown hgrow)
  have nb := own_ne h3 h.m (by decide)
  have hm4 := (hM.block _ (lt_of_heap h.m) nb).trans h.m
  refine (h.mut (S := fun b => sf.ownBlock = some b ∨ b = w.heap.size + 1) ((hM.mono fun _ _ h => .inl h).setCell (fun _ => .inr rfl) _) (fun b hb => ?_) (set2_1 hm4) ⟨⟨x, own_set (own_mut h1 hM (fun b hb hb' => ?_)) hm4 (by decide), h2⟩, ys, own_set hown hm4 (by decide), hys⟩)
  · rcases hb with hb | hb
    · have := (h3.lt b hb).1; omega
    · omega
  · rcases h1.2 with ⟨rfl, _⟩ | ⟨g, cap, cur, rfl, _, hh, _⟩
    · cases hb
    · simp only [Value.ownBlock, Option.some.injEq] at hb
      subst hb
      exact own_ne h3 hh (by decide) hb'
/-- More vertices. -/
theorem AM.addv {w W W4 : World} {B kk : Nat} {sv sf sv' : Value} {nv nf n' : Nat} {xs : List Value} (h : AM w W B kk sv sf nv nf) (hgrow : W.grownBy W4 sv.ownBlock) (hn : nv ≤ n')
    (hown : W4.ownsRow (w.heap.size + 1 + 1) 39 3 sv' n' xs) (hxs : AllInt (fun _ => True) xs) : AM w (W4.setCell ⟨w.heap.size + 1, 0, none⟩ sv') B kk sv' sf n' nf := by
  obtain ⟨⟨x, h1, h2⟩, y, h3, h4⟩ := h.i
  have hM : Mut (fun b => sv.ownBlock = some b) W W4 := mut_of_grown hgrow
  have nb := own_ne h1 h.m (by decide)
  have hm4 := (hM.block _ (lt_of_heap h.m) nb).trans h.m
  refine (h.mut (S := fun b => sv.ownBlock = some b ∨ b = w.heap.size + 1) ((hM.mono fun _ _ h => .inl h).setCell (fun _ => .inr rfl) _) (fun b hb => ?_) (set2_0 hm4) ⟨⟨xs, own_set hown hm4 (by decide), hxs⟩, y, own_set (own_mut h3 hM (fun b hb hb' => ?_)) hm4 (by decide), h4.mono fun z hz => by omega⟩)
  · rcases hb with hb | hb
    · have := (h1.lt b hb).1; omega
    · omega
  · rcases h3.2 with ⟨rfl, _⟩ | ⟨g, cap, cur, rfl, _, hh, _⟩
    · cases hb
    · simp only [Value.ownBlock, Option.some.injEq] at hb
      subst hb
      exact own_ne h1 hh (by decide) hb'
theorem MIn.setn {w : World} {base bn o : Nat} {c : Array Value} {u sv sf : Value} {nv nf : Nat} (h : MIn w base sv sf nv nf) (hn : w.heap[bn]? = some (.cells c 29 (0, 0))) : MIn (w.setCell ⟨bn, o, none⟩ u) base sv sf nv nf := by
  obtain ⟨⟨x, h1, h2⟩, y, h3, h4⟩ := h
  exact ⟨⟨x, own_set h1 hn (by decide), h2⟩, y, own_set h3 hn (by decide), h4⟩
theorem AM.setn {w W : World} {B kk bn o : Nat} {c : Array Value} {u sv sf : Value} {nv nf : Nat} (h : AM w W B kk sv sf nv nf) (hn : W.heap[bn]? = some (.cells c 29 (0, 0))) (hb : w.heap.size + 1 < bn) : AM w (W.setCell ⟨bn, o, none⟩ u) B kk sv sf nv nf :=
  h.mut (S := (· = bn)) ((Mut.refl (· = bn) W).setCell (p := ⟨bn, o, none⟩) (fun _ => rfl) _) (fun b hb' => by omega) ((Below.heap_setCell _ _ _ _ (by dsimp only; omega)).trans h.m) (h.i.setn hn)
/-- Two slices of a mesh just made, with how many. -/
theorem made_slices {w W : World} {nv nf : Nat} {e : Ending} (h : MeshMade w nv nf e W) (hv : 0 < nv) (hf : 0 < nf) : ∃ gv cv gf cf, e = .returned (.agg #[.slice (some ⟨gv, 0, none⟩) nv cv, .slice (some ⟨gf, 0, none⟩) nf cf]) ∧ MIn W w.heap.size (.slice (some ⟨gv, 0, none⟩) nv cv) (.slice (some ⟨gf, 0, none⟩) nf cf) nv nf ∧ Below w.heap.size w W := by
  obtain ⟨sv, sf, rfl, hi, hb⟩ := h
  obtain ⟨⟨x, h1, h2⟩, y, h3, h4⟩ := hi
  obtain ⟨gv, cv, rfl, _⟩ := h1.form hv
  obtain ⟨gf, cf, rfl, _⟩ := h3.form hf
  exact ⟨gv, cv, gf, cf, rfl, ⟨⟨x, h1, h2⟩, y, h3, h4⟩, hb⟩
theorem delete_n (base g n cap i : Nat) (P : Int → Prop) (xs : List Value) (w : World) (h : w.ownsRow base 47 3 (.slice (some ⟨g, 0, none⟩) n cap) n xs) (hP : AllInt P xs) (hi : i < n) (hn : n ≤ 1000) :
    Calls Try.prog 42 #[.slice (some ⟨g, 0, none⟩) n cap, .int .i64 i, .int .i64 ((i : Int) + 1)] w (DelPost w base g n cap P) := by
  obtain ⟨m, rfl⟩ : ∃ m, n = i + 1 + m := ⟨n - (i + 1), by omega⟩
  exact delete_any base g m cap i P xs w h hP hn
/-- One face less. -/
theorem AM.del {w W W' : World} {B kk g cap : Nat} {sv : Value} {nv nf n' : Nat} {ys : List Value} (h : AM w W B kk sv (.slice (some ⟨g, 0, none⟩) nf cap) nv nf) (hm : Mut (· = g) W W')
    (hown : W'.ownsRow (w.heap.size + 1 + 1) 47 3 (.slice (some ⟨g, 0, none⟩) n' cap) n' ys) (hys : AllInt (fun z => 0 ≤ z ∧ z < nv) ys) : AM w (W'.setCell ⟨w.heap.size + 1, 1, none⟩ (.slice (some ⟨g, 0, none⟩) n' cap)) B kk sv (.slice (some ⟨g, 0, none⟩) n' cap) nv n' := by
  obtain ⟨⟨x, h1, h2⟩, y, h3, h4⟩ := h.i
  have nb := own_ne h3 h.m (by decide)
  have lg := (h3.lt g rfl).1
  have hm4 := (hm.block _ (lt_of_heap h.m) (by omega)).trans h.m
  refine (h.mut (S := fun b => b = g ∨ b = w.heap.size + 1) ((hm.mono fun _ _ h => .inl h).setCell (fun _ => .inr rfl) _) (fun b hb => by omega) (set2_1 hm4) ⟨⟨x, own_set (own_mut h1 hm (fun b hb hb' => ?_)) hm4 (by decide), h2⟩, ys, own_set hown hm4 (by decide), hys⟩)
  subst hb'
  rcases h1.2 with ⟨rfl, _⟩ | ⟨g', cap', cur, rfl, _, hh, _⟩
  · cases hb
  · simp only [Value.ownBlock, Option.some.injEq] at hb
    subst hb
    exact own_ne h3 hh (by decide) rfl

/-- A slice of triples reads as the first n of V, in a block behind B. -/
def RowX (w : World) (B : Nat) (a : Option Addr) (n : Nat) (V : Nat → V3) : Prop := n = 0 ∨ ∃ b off, a = some ⟨b, off, none⟩ ∧ B < b ∧ b < w.heap.size ∧ Tri w b off n V
theorem rowx_of {w : World} {B base : Nat} {e : TypeId} {a : Option Addr} {n cap : Nat} {xs : List Value} (h : w.ownsRow base e 3 (.slice a n cap) n xs) (hx : AllInt (fun _ => True) xs) (hB : B < base) : ∃ V, RowX w B a n V := by
  by_cases hn : n = 0
  · exact ⟨fun _ => ⟨0, 0, 0⟩, .inl hn⟩
  obtain ⟨g, c, hv, hg, hl⟩ := h.form (by omega)
  simp only [Value.slice.injEq, true_and] at hv
  obtain ⟨rfl, rfl⟩ := hv
  refine ⟨fun i => ⟨intOf (xs.getD (i * 3) undef), intOf (xs.getD (i * 3 + 1) undef), intOf (xs.getD (i * 3 + 2) undef)⟩, .inr ⟨g, 0, rfl, by omega, hl, fun i hi => ?_⟩⟩
  have k : ∀ t, t < n * 3 → w.cell? ⟨g, 0 + t, none⟩ = some (.int .i64 (intOf (xs.getD t undef))) := fun t ht => by
    obtain ⟨z, h1, _, h3⟩ := own_cells h hx t ht
    rw [Nat.zero_add, h1, List.getD_eq_getElem?_getD, h3]
    rfl
  refine ⟨k _ (by omega), ?_, ?_⟩
  · exact k (i * 3 + 1) (by omega)
  · exact k (i * 3 + 2) (by omega)
theorem MAny.setn {w : World} {base bn o : Nat} {c : Array Value} {u sv sf : Value} {nv nf : Nat} (h : MAny w base sv sf nv nf) (hn : w.heap[bn]? = some (.cells c 29 (0, 0))) : MAny (w.setCell ⟨bn, o, none⟩ u) base sv sf nv nf := by
  obtain ⟨⟨x, h1, h2⟩, y, h3, h4⟩ := h
  exact ⟨⟨x, own_set h1 hn (by decide), h2⟩, y, own_set h3 hn (by decide), h4⟩
/-- A mesh is drawn: at most 200 numbers of the stream; nothing else that was there has changed. -/
def MeshE (w : World) (B k : Nat) (e : Ending) (w' : World) : Prop :=
  ∃ av cv af cf nv nf V F, e = .returned (.agg #[.slice av nv cv, .slice af nf cf]) ∧ RowX w' B av nv V ∧ RowX w' B af nf F ∧ nv ≤ 100 ∧ nf ≤ 100 ∧ Strm w' B (k + 100) ∧ Mut (· = B) w w'
theorem mesh_end {w W : World} {B k k' base nv nf cv cf : Nat} {av af : Option Addr} (hany : MAny W base (.slice av nv cv) (.slice af nf cf) nv nf) (hB : B < w.heap.size) (hb : w.heap.size + 1 ≤ base) (hr : W.heap[w.heap.size]? = some (.cells #[.slice none 0 0, .slice none 0 0] 29 (0, 0)))
    (hs : Strm W B k') (hk : k' ≤ k + 100) (hk2 : k + 100 ≤ 1000000) (hm : Mut (· = B) w W) (h1 : nv ≤ 100) (h2 : nf ≤ 100) :
    MeshE w B k (.returned (.agg #[.slice av nv cv, .slice af nf cf])) ((W.setCell ⟨w.heap.size, 0, none⟩ (.slice av nv cv)).setCell ⟨w.heap.size, 1, none⟩ (.slice af nf cf)) := by
  obtain ⟨⟨x, a1, a2⟩, y, a3, a4⟩ := (hany.setn (o := 0) (u := .slice av nv cv) hr).setn (o := 1) (u := .slice af nf cf) (set2_0 hr)
  obtain ⟨V, hV⟩ := rowx_of a1 a2 (B := B) (by omega)
  obtain ⟨F, hF⟩ := rowx_of a3 a4 (B := B) (by omega)
  exact ⟨av, cv, af, cf, nv, nf, V, F, rfl, hV, hF, h1, h2, ((hs.setCell (by dsimp only; omega) _).setCell (by dsimp only; omega) _).more hk hk2, (hm.setCell (fun h => absurd h (by simp)) _).setCell (fun h => absurd h (by simp)) _⟩
end Go.Proofs.Ytmcebhjcaacbpaa

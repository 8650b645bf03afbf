/- The closure of retold: steps with places told anew. -/
import Derived.Test.YthmplflmjjccfaaQa
import Derived.Deep.Cut
import Derived.Deep.CutRange
import Derived.BigRegion
set_option linter.unusedSimpArgs false
set_option linter.unusedVariables false
namespace Go.Proofs.Ythmplflmjjccfaa
open Go.RowKit
theorem absH {P : Program} {md : Region.Mode} {ops : Array Oper} {Q : Exit → Act → World → Prop} {S : World → Prop} {fuel : Nat} {listed : Array Bool} {a : Act} {w : World}
    (h : ∀ (G : Nat → Array Bool → Act → World → Prop) (A : Act), (∀ f l b v, G f l b v ↔ wpAnyH P md ops Q S f l b v) → A = a → G fuel listed A w) : wpAnyH P md ops Q S fuel listed a w :=
  (h _ a (fun _ _ _ _ => Iff.rfl) rfl)
theorem listedEq {P : Program} {md : Region.Mode} {ops : Array Oper} {Q : Exit → Act → World → Prop} {S : World → Prop} {fuel : Nat} {l l' : Array Bool} {a : Act} {w : World}
    (h : l = l') (hw : wpAnyH P md ops Q S fuel l' a w) : wpAnyH P md ops Q S fuel l a w := h ▸ hw
/-- What the closure of retold keeps. -/
def TInv (F : FuncId) (pl : Ma → Ma → Pl) (m : Ma) (pS pF pA base : Nat) (a : Option Addr) (n c : Nat) (S : Nat → St) (i : Nat) (w : World) : Prop :=
  ∃ ao co, w.heap[pA]? = some (.cells #[.slice ao (toldL pl m S i).length co] 26 (0, 0)) ∧ w.heap[pS]? = some (.cells #[.slice a n c] 26 (0, 0)) ∧ w.heap[pF]? = some (.cells #[.func (.func F) #[] #[]] 48 (0, 0)) ∧
    w.ownsRow (base + 2) 36 6 (.slice ao (toldL pl m S i).length co) (toldL pl m S i).length (rowS (toldL pl m S i)) ∧ StepsR w a n S
/-- A step is stored into a block. -/
theorem storeSt {w W : World} {g : Nat} {c0 c1 c2 c3 c4 c5 : Value} {s : St} (h : w.heap[g]? = some (.cells #[c0, c1, c2, c3, c4, c5] 36 (0, 0))) (hW : ((((((w.setCell ⟨g, 0, none⟩ (.int .i64 s.k)).setCell ⟨g, 1, none⟩ (.int .i64 s.x)).setCell ⟨g, 2, none⟩ (.int .i64 s.y)).setCell ⟨g, 3, none⟩ (.int .i64 s.z)).setCell ⟨g, 4, none⟩ (.int .i64 s.f)).setCell ⟨g, 5, none⟩ (.int .i64 s.n)) = W) : W.heap[g]? = some (.cells #[.int .i64 s.k, .int .i64 s.x, .int .i64 s.y, .int .i64 s.z, .int .i64 s.f, .int .i64 s.n] 36 (0, 0)) ∧ Mut (· = g) w W := by
  subst hW
  refine ⟨?_, ?_⟩
  · have h1 := cells_set (i := 5) (cells_set (i := 4) (cells_set (i := 3) (cells_set (i := 2) (cells_set (i := 1) (cells_set (i := 0) h (.int .i64 s.k)) (.int .i64 s.x)) (.int .i64 s.y)) (.int .i64 s.z)) (.int .i64 s.f)) (.int .i64 s.n)
    refine h1.trans ?_
    simp only [List.setIfInBounds_toArray, List.set_cons_zero, List.set_cons_succ]
  · exact Mut.setCell (p := ⟨g, 5, none⟩) (Mut.setCell (p := ⟨g, 4, none⟩) (Mut.setCell (p := ⟨g, 3, none⟩) (Mut.setCell (p := ⟨g, 2, none⟩) (Mut.setCell (p := ⟨g, 1, none⟩) (Mut.setCell (p := ⟨g, 0, none⟩) (Mut.refl (· = g) w) (fun _ => rfl) _) (fun _ => rfl) _) (fun _ => rfl) _) (fun _ => rfl) _) (fun _ => rfl) _) (fun _ => rfl) _
theorem storeVec {w W : World} {g : Nat} {c0 c1 c2 v0 v1 v2 : Value} (h : w.heap[g]? = some (.cells #[c0, c1, c2] 47 (0, 0))) (hW : ((w.setCell ⟨g, 0, none⟩ v0).setCell ⟨g, 1, none⟩ v1).setCell ⟨g, 2, none⟩ v2 = W) : W.heap[g]? = some (.cells #[v0, v1, v2] 47 (0, 0)) ∧ Mut (· = g) w W := by
  subst hW
  refine ⟨?_, ?_⟩
  · have h1 := cells_set (i := 2) (cells_set (i := 1) (cells_set (i := 0) h v0) v1) v2
    refine h1.trans ?_
    simp only [List.setIfInBounds_toArray, List.set_cons_zero, List.set_cons_succ]
  · exact Mut.setCell (p := ⟨g, 2, none⟩) (Mut.setCell (p := ⟨g, 1, none⟩) (Mut.setCell (p := ⟨g, 0, none⟩) (Mut.refl (· = g) w) (fun _ => rfl) _) (fun _ => rfl) _) (fun _ => rfl) _
set_option maxRecDepth 100000 in
set_option maxHeartbeats 16000000 in
theorem retA_any (m : Ma) (j pS pF pA base i : Nat) (a : Option Addr) (n c : Nat) (S : Nat → St) (w0 w : World) (hi : i < n) (hn : n ≤ 5000) (hj : j ≤ 5000) (hm : MB j m) (hok : ∀ i, i < n → SOk (S i)) (hI : TInv 42 plA m pS pF pA base a n c S i w0) (hpA : pA < base) (hpS : pS < pA) (hpF : pF < pA) (hab : 0 < n → ∀ x, a = some x → x.block < pA) (hb2 : base + 2 ≤ w0.heap.size) (hb : Below w0.heap.size w0 w) :
    Calls Try.prog 44 #[.int .i64 i, (.agg #[.int .i64 (runF m S i).x, .int .i64 (runF m S i).y, .int .i64 (runF m S i).z, .int .i64 (runF m S i).s, .int .i64 (runF m S i).h, .int .i64 (runF m S i).t, .int .i64 (runF m S i).f, .bool (runF m S i).r]), (.agg #[.int .i64 (runF m S (i + 1)).x, .int .i64 (runF m S (i + 1)).y, .int .i64 (runF m S (i + 1)).z, .int .i64 (runF m S (i + 1)).s, .int .i64 (runF m S (i + 1)).h, .int .i64 (runF m S (i + 1)).t, .int .i64 (runF m S (i + 1)).f, .bool (runF m S (i + 1)).r]), .pointer (some ⟨pS, 0, none⟩), .pointer (some ⟨pF, 0, none⟩), .pointer (some ⟨pA, 0, none⟩)] w fun e w' => e = .returned (.tuple #[]) ∧ TInv 42 plA m pS pF pA base a n c S (i + 1) w' ∧ Mut (fun b => b < w0.heap.size ∧ (b = pA ∨ base + 2 ≤ b)) w w' := by
  obtain ⟨i0, hi0, hz0, hz1, hz2⟩ := info_parts2 info_st
  obtain ⟨ao, co, hhA, hhS, hhF, hown, hsr⟩ := hI
  have HBA := runF_mb (n := i) hm (fun i hi => hok i (by omega))
  have HBB := runF_mb (n := i + 1) hm (fun i hi => hok i (by omega))
  have hLlen := toldL_len plA m S i
  obtain ⟨L, hL⟩ : ∃ L, toldL plA m S i = L := ⟨_, rfl⟩
  have HL := Lib.hid hL
  rw [hL] at hhA hown hLlen
  obtain ⟨ma, hma⟩ : ∃ x, runF m S i = x := ⟨_, rfl⟩
  obtain ⟨mb, hmb⟩ : ∃ x, runF m S (i + 1) = x := ⟨_, rfl⟩
  have HMA := Lib.hid hma
  have HMB := Lib.hid hmb
  rw [hma] at HBA ⊢
  rw [hmb] at HBB ⊢
  have hR : Hid ((-9000000000000000000 ≤ mb.x - ma.x ∧ mb.x - ma.x ≤ 9000000000000000000) ∧ (-9000000000000000000 ≤ mb.y - ma.y ∧ mb.y - ma.y ≤ 9000000000000000000) ∧ (-9000000000000000000 ≤ mb.z - ma.z ∧ mb.z - ma.z ≤ 9000000000000000000)) := Lib.hid (by
    have h1 := HBA.x
    have h2 := HBA.y
    have h3 := HBA.z
    have h4 := HBB.x
    have h5 := HBB.y
    have h6 := HBB.z
    refine ⟨⟨?_, ?_⟩, ⟨?_, ?_⟩, ⟨?_, ?_⟩⟩ <;> omega)
  obtain ⟨pv, hpv⟩ : ∃ x, plA ma mb = x := ⟨_, rfl⟩
  have HPV := Lib.hid hpv
  obtain ⟨s, hs⟩ : ∃ s, S i = s := ⟨_, rfl⟩
  have RS := Lib.hid hs
  have hsz := hb.size
  rcases hsr with h0 | ⟨b, off, rfl, hbl, hd⟩
  · omega
  have hbA : b < pA := hab (by omega) _ rfl
  have HSR : Hid (StepsR w0 (some ⟨b, off, none⟩) n S) := Lib.hid (.inr ⟨b, off, rfl, hbl, hd⟩)
  obtain ⟨s0, s1, s2, s3, s4, s5⟩ := hd i hi
  rw [hs] at s0 s1 s2 s3 s4 s5
  have hb1 : Below w.heap.size w ((w.alloc (.cells #[.int .i64 ma.x, .int .i64 ma.y, .int .i64 ma.z, .int .i64 ma.s, .int .i64 ma.h, .int .i64 ma.t, .int .i64 ma.f, .bool ma.r] 44)).alloc (.cells #[.int .i64 mb.x, .int .i64 mb.y, .int .i64 mb.z, .int .i64 mb.s, .int .i64 mb.h, .int .i64 mb.t, .int .i64 mb.f, .bool mb.r] 44)) := (by repeat (first | exact Below.refl _ _ | assumption | refine Below.drew ?_ | refine bdrewN ?_ _ | refine Below.setCell ?_ (by first | omega | (simp <;> omega)) _ | refine Below.alloc ?_ (by first | omega | (simp <;> omega)) _))
  have hbw : Below w0.heap.size w0 ((w.alloc (.cells #[.int .i64 ma.x, .int .i64 ma.y, .int .i64 ma.z, .int .i64 ma.s, .int .i64 ma.h, .int .i64 ma.t, .int .i64 ma.f, .bool ma.r] 44)).alloc (.cells #[.int .i64 mb.x, .int .i64 mb.y, .int .i64 mb.z, .int .i64 mb.s, .int .i64 mb.h, .int .i64 mb.t, .int .i64 mb.f, .bool mb.r] 44)) := hb.trans (hb1.mono hsz)
  have HN0 : Hid (((w.alloc (.cells #[.int .i64 ma.x, .int .i64 ma.y, .int .i64 ma.z, .int .i64 ma.s, .int .i64 ma.h, .int .i64 ma.t, .int .i64 ma.f, .bool ma.r] 44)).alloc (.cells #[.int .i64 mb.x, .int .i64 mb.y, .int .i64 mb.z, .int .i64 mb.s, .int .i64 mb.h, .int .i64 mb.t, .int .i64 mb.f, .bool mb.r] 44)).heap[w.heap.size]? = some (.cells #[.int .i64 ma.x, .int .i64 ma.y, .int .i64 ma.z, .int .i64 ma.s, .int .i64 ma.h, .int .i64 ma.t, .int .i64 ma.f, .bool ma.r] 44 (0, 0))) := Lib.hid ((Below.heap_alloc _ _ _ (by simp)).trans (heap_new rfl))
  have HN1 : Hid (((w.alloc (.cells #[.int .i64 ma.x, .int .i64 ma.y, .int .i64 ma.z, .int .i64 ma.s, .int .i64 ma.h, .int .i64 ma.t, .int .i64 ma.f, .bool ma.r] 44)).alloc (.cells #[.int .i64 mb.x, .int .i64 mb.y, .int .i64 mb.z, .int .i64 mb.s, .int .i64 mb.h, .int .i64 mb.t, .int .i64 mb.f, .bool mb.r] 44)).heap[w.heap.size + 1]? = some (.cells #[.int .i64 mb.x, .int .i64 mb.y, .int .i64 mb.z, .int .i64 mb.s, .int .i64 mb.h, .int .i64 mb.t, .int .i64 mb.f, .bool mb.r] 44 (0, 0))) := Lib.hid (heap_new (by simp))
  have HHA := Lib.hid (heap_keep hbw hhA)
  have HHS := Lib.hid (heap_keep hbw hhS)
  have HHF := Lib.hid (heap_keep hbw hhF)
  have HOW := Lib.hid (ownsRow_below hown hbw)
  have HLT := Lib.hid hown.lt
  have HB1 := Lib.hid hb1
  replace HSR := Lib.hid (HSR.out.kept hbw)
  have H6 : Hid (((w.alloc (.cells #[.int .i64 ma.x, .int .i64 ma.y, .int .i64 ma.z, .int .i64 ma.s, .int .i64 ma.h, .int .i64 ma.t, .int .i64 ma.f, .bool ma.r] 44)).alloc (.cells #[.int .i64 mb.x, .int .i64 mb.y, .int .i64 mb.z, .int .i64 mb.s, .int .i64 mb.h, .int .i64 mb.t, .int .i64 mb.f, .bool mb.r] 44)).cell? ⟨b, off + i * 6, none⟩ = some (.int .i64 s.k) ∧ ((w.alloc (.cells #[.int .i64 ma.x, .int .i64 ma.y, .int .i64 ma.z, .int .i64 ma.s, .int .i64 ma.h, .int .i64 ma.t, .int .i64 ma.f, .bool ma.r] 44)).alloc (.cells #[.int .i64 mb.x, .int .i64 mb.y, .int .i64 mb.z, .int .i64 mb.s, .int .i64 mb.h, .int .i64 mb.t, .int .i64 mb.f, .bool mb.r] 44)).cell? ⟨b, off + i * 6 + 1, none⟩ = some (.int .i64 s.x) ∧ ((w.alloc (.cells #[.int .i64 ma.x, .int .i64 ma.y, .int .i64 ma.z, .int .i64 ma.s, .int .i64 ma.h, .int .i64 ma.t, .int .i64 ma.f, .bool ma.r] 44)).alloc (.cells #[.int .i64 mb.x, .int .i64 mb.y, .int .i64 mb.z, .int .i64 mb.s, .int .i64 mb.h, .int .i64 mb.t, .int .i64 mb.f, .bool mb.r] 44)).cell? ⟨b, off + i * 6 + 2, none⟩ = some (.int .i64 s.y) ∧ ((w.alloc (.cells #[.int .i64 ma.x, .int .i64 ma.y, .int .i64 ma.z, .int .i64 ma.s, .int .i64 ma.h, .int .i64 ma.t, .int .i64 ma.f, .bool ma.r] 44)).alloc (.cells #[.int .i64 mb.x, .int .i64 mb.y, .int .i64 mb.z, .int .i64 mb.s, .int .i64 mb.h, .int .i64 mb.t, .int .i64 mb.f, .bool mb.r] 44)).cell? ⟨b, off + i * 6 + 3, none⟩ = some (.int .i64 s.z) ∧ ((w.alloc (.cells #[.int .i64 ma.x, .int .i64 ma.y, .int .i64 ma.z, .int .i64 ma.s, .int .i64 ma.h, .int .i64 ma.t, .int .i64 ma.f, .bool ma.r] 44)).alloc (.cells #[.int .i64 mb.x, .int .i64 mb.y, .int .i64 mb.z, .int .i64 mb.s, .int .i64 mb.h, .int .i64 mb.t, .int .i64 mb.f, .bool mb.r] 44)).cell? ⟨b, off + i * 6 + 4, none⟩ = some (.int .i64 s.f) ∧ ((w.alloc (.cells #[.int .i64 ma.x, .int .i64 ma.y, .int .i64 ma.z, .int .i64 ma.s, .int .i64 ma.h, .int .i64 ma.t, .int .i64 ma.f, .bool ma.r] 44)).alloc (.cells #[.int .i64 mb.x, .int .i64 mb.y, .int .i64 mb.z, .int .i64 mb.s, .int .i64 mb.h, .int .i64 mb.t, .int .i64 mb.f, .bool mb.r] 44)).cell? ⟨b, off + i * 6 + 5, none⟩ = some (.int .i64 s.n)) := Lib.hid ⟨cellk hbw hbl s0, cellk hbw hbl s1, cellk hbw hbl s2, cellk hbw hbl s3, cellk hbw hbl s4, cellk hbw hbl s5⟩
  have hpl := lt_of_heap hhA
  have hkb : b < ((w.alloc (.cells #[.int .i64 ma.x, .int .i64 ma.y, .int .i64 ma.z, .int .i64 ma.s, .int .i64 ma.h, .int .i64 ma.t, .int .i64 ma.f, .bool ma.r] 44)).alloc (.cells #[.int .i64 mb.x, .int .i64 mb.y, .int .i64 mb.z, .int .i64 mb.s, .int .i64 mb.h, .int .i64 mb.t, .int .i64 mb.f, .bool mb.r] 44)).heap.size := Nat.lt_of_lt_of_le hbl hbw.size
  have HSOK := Lib.hid (hok i hi)
  have hs1 : ((w.alloc (.cells #[.int .i64 ma.x, .int .i64 ma.y, .int .i64 ma.z, .int .i64 ma.s, .int .i64 ma.h, .int .i64 ma.t, .int .i64 ma.f, .bool ma.r] 44)).alloc (.cells #[.int .i64 mb.x, .int .i64 mb.y, .int .i64 mb.z, .int .i64 mb.s, .int .i64 mb.h, .int .i64 mb.t, .int .i64 mb.f, .bool mb.r] 44)).heap.size = w.heap.size + 1 + 1 := by simp
  clear hma hmb HBA HBB hpv hs hd s0 s1 s2 s3 s4 s5 hb1 hhA hhS hhF hown hL hok hm
  go_enter Try.func44, Try.ntmps44
  go_wp2_with (fail)
  generalize ((w.alloc (.cells #[.int .i64 ma.x, .int .i64 ma.y, .int .i64 ma.z, .int .i64 ma.s, .int .i64 ma.h, .int .i64 ma.t, .int .i64 ma.f, .bool ma.r] 44)).alloc (.cells #[.int .i64 mb.x, .int .i64 mb.y, .int .i64 mb.z, .int .i64 mb.s, .int .i64 mb.h, .int .i64 mb.t, .int .i64 mb.f, .bool mb.r] 44)) = W0 at *
  obtain ⟨r0, hr0⟩ : ∃ r, w.heap.size = r := ⟨_, rfl⟩
  have HR0 := Lib.hid hr0
  rw [hr0] at HN0 HN1 hs1
  try rw [hr0]
  clear hr0
  have hn0 : (0 : Int) ≤ (i : Int) := by omega
  have hn1 : (i : Int) < (n : Int) := by omega
  have HSK : Hid (∀ W, Below W0.heap.size W0 W → (fun w' => w'.cell? ⟨pS, 0, none⟩ = some (.slice (some ⟨b, off, none⟩) n c) ∧ (w'.cell? ⟨b, off + i * 6, none⟩ = some (.int .i64 s.k) ∧ w'.cell? ⟨b, off + i * 6 + 1, none⟩ = some (.int .i64 s.x) ∧ w'.cell? ⟨b, off + i * 6 + 2, none⟩ = some (.int .i64 s.y) ∧ w'.cell? ⟨b, off + i * 6 + 3, none⟩ = some (.int .i64 s.z) ∧ w'.cell? ⟨b, off + i * 6 + 4, none⟩ = some (.int .i64 s.f) ∧ w'.cell? ⟨b, off + i * 6 + 5, none⟩ = some (.int .i64 s.n)) ∧ w'.cell? ⟨pF, 0, none⟩ = some (.func (.func 42) #[] #[]) ∧ (w'.cell? ⟨r0, 0, none⟩ = some (.int .i64 ma.x) ∧ w'.cell? ⟨r0, 1, none⟩ = some (.int .i64 ma.y) ∧ w'.cell? ⟨r0, 2, none⟩ = some (.int .i64 ma.z) ∧ w'.cell? ⟨r0, 3, none⟩ = some (.int .i64 ma.s) ∧ w'.cell? ⟨r0, 4, none⟩ = some (.int .i64 ma.h) ∧ w'.cell? ⟨r0, 5, none⟩ = some (.int .i64 ma.t) ∧ w'.cell? ⟨r0, 6, none⟩ = some (.int .i64 ma.f) ∧ w'.cell? ⟨r0, 7, none⟩ = some (.bool ma.r)) ∧ (w'.cell? ⟨r0 + 1, 0, none⟩ = some (.int .i64 mb.x) ∧ w'.cell? ⟨r0 + 1, 1, none⟩ = some (.int .i64 mb.y) ∧ w'.cell? ⟨r0 + 1, 2, none⟩ = some (.int .i64 mb.z) ∧ w'.cell? ⟨r0 + 1, 3, none⟩ = some (.int .i64 mb.s) ∧ w'.cell? ⟨r0 + 1, 4, none⟩ = some (.int .i64 mb.h) ∧ w'.cell? ⟨r0 + 1, 5, none⟩ = some (.int .i64 mb.t) ∧ w'.cell? ⟨r0 + 1, 6, none⟩ = some (.int .i64 mb.f) ∧ w'.cell? ⟨r0 + 1, 7, none⟩ = some (.bool mb.r))) W) := Lib.hid (fun W hB => by
    have k1 := lt_of_heap HHS.out
    have k2 := lt_of_heap HHF.out
    obtain ⟨q0, q1, q2, q3, q4, q5⟩ := H6.out
    have kb : b < W0.heap.size := hkb
    exact ⟨cell_of (heap_keep hB HHS.out) (i := 0) rfl, ⟨cellk hB kb q0, cellk hB kb q1, cellk hB kb q2, cellk hB kb q3, cellk hB kb q4, cellk hB kb q5⟩, cell_of (heap_keep hB HHF.out) (i := 0) rfl, ⟨cell_of (heap_keep hB HN0.out) (i := 0) rfl, cell_of (heap_keep hB HN0.out) (i := 1) rfl, cell_of (heap_keep hB HN0.out) (i := 2) rfl, cell_of (heap_keep hB HN0.out) (i := 3) rfl, cell_of (heap_keep hB HN0.out) (i := 4) rfl, cell_of (heap_keep hB HN0.out) (i := 5) rfl, cell_of (heap_keep hB HN0.out) (i := 6) rfl, cell_of (heap_keep hB HN0.out) (i := 7) rfl⟩, ⟨cell_of (heap_keep hB HN1.out) (i := 0) rfl, cell_of (heap_keep hB HN1.out) (i := 1) rfl, cell_of (heap_keep hB HN1.out) (i := 2) rfl, cell_of (heap_keep hB HN1.out) (i := 3) rfl, cell_of (heap_keep hB HN1.out) (i := 4) rfl, cell_of (heap_keep hB HN1.out) (i := 5) rfl, cell_of (heap_keep hB HN1.out) (i := 6) rfl, cell_of (heap_keep hB HN1.out) (i := 7) rfl⟩⟩)
  refine wp_region_held_drew (S := (fun w' => w'.cell? ⟨pS, 0, none⟩ = some (.slice (some ⟨b, off, none⟩) n c) ∧ (w'.cell? ⟨b, off + i * 6, none⟩ = some (.int .i64 s.k) ∧ w'.cell? ⟨b, off + i * 6 + 1, none⟩ = some (.int .i64 s.x) ∧ w'.cell? ⟨b, off + i * 6 + 2, none⟩ = some (.int .i64 s.y) ∧ w'.cell? ⟨b, off + i * 6 + 3, none⟩ = some (.int .i64 s.z) ∧ w'.cell? ⟨b, off + i * 6 + 4, none⟩ = some (.int .i64 s.f) ∧ w'.cell? ⟨b, off + i * 6 + 5, none⟩ = some (.int .i64 s.n)) ∧ w'.cell? ⟨pF, 0, none⟩ = some (.func (.func 42) #[] #[]) ∧ (w'.cell? ⟨r0, 0, none⟩ = some (.int .i64 ma.x) ∧ w'.cell? ⟨r0, 1, none⟩ = some (.int .i64 ma.y) ∧ w'.cell? ⟨r0, 2, none⟩ = some (.int .i64 ma.z) ∧ w'.cell? ⟨r0, 3, none⟩ = some (.int .i64 ma.s) ∧ w'.cell? ⟨r0, 4, none⟩ = some (.int .i64 ma.h) ∧ w'.cell? ⟨r0, 5, none⟩ = some (.int .i64 ma.t) ∧ w'.cell? ⟨r0, 6, none⟩ = some (.int .i64 ma.f) ∧ w'.cell? ⟨r0, 7, none⟩ = some (.bool ma.r)) ∧ (w'.cell? ⟨r0 + 1, 0, none⟩ = some (.int .i64 mb.x) ∧ w'.cell? ⟨r0 + 1, 1, none⟩ = some (.int .i64 mb.y) ∧ w'.cell? ⟨r0 + 1, 2, none⟩ = some (.int .i64 mb.z) ∧ w'.cell? ⟨r0 + 1, 3, none⟩ = some (.int .i64 mb.s) ∧ w'.cell? ⟨r0 + 1, 4, none⟩ = some (.int .i64 mb.h) ∧ w'.cell? ⟨r0 + 1, 5, none⟩ = some (.int .i64 mb.t) ∧ w'.cell? ⟨r0 + 1, 6, none⟩ = some (.int .i64 mb.f) ∧ w'.cell? ⟨r0 + 1, 7, none⟩ = some (.bool mb.r)))) (by kernel_rfl) (HSK.out _ (bdrewN (Below.refl _ _) 1)) (fun hHeld => ?_)
  refine tkH (by assumption) 0 (oi := ?_) (v := ?_) ?_ ?_ ?_ ?_ ?_ ?_ ?_ ?_; rotate_left 2; (simp only [gA, gB, gC]; exact rfl); kernel_rfl; kernel_rfl; kernel_rfl; exact fun _ _ _ h => h; rfl; (intro w' hSw; (try dsimp only at hSw); go_simp; with_reducible rfl); simp only [Act.put, pB, pC, pD]
  refine tkH (by assumption) 1 (oi := ?_) (v := ?_) ?_ ?_ ?_ ?_ ?_ ?_ ?_ ?_; rotate_left 2; (simp only [gA, gB, gC]; exact rfl); kernel_rfl; kernel_rfl; kernel_rfl; exact fun _ _ _ h => h; rfl; (intro w' hSw; (try dsimp only at hSw); go_simp; with_reducible rfl); simp only [Act.put, pB, pC, pD]
  refine tkH (by assumption) 2 (oi := ?_) (v := ?_) ?_ ?_ ?_ ?_ ?_ ?_ ?_ ?_; rotate_left 2; (simp only [gA, gB, gC]; exact rfl); kernel_rfl; kernel_rfl; kernel_rfl; exact fun _ _ _ h => h; rfl; (intro w' hSw; (try dsimp only at hSw); go_simp; with_reducible rfl); simp only [Act.put, pB, pC, pD]
  refine tkH (by assumption) 3 (oi := ?_) (v := ?_) ?_ ?_ ?_ ?_ ?_ ?_ ?_ ?_; rotate_left 2; (simp only [gA, gB, gC]; exact rfl); kernel_rfl; kernel_rfl; kernel_rfl; exact fun _ _ _ h => h; rfl; (intro w' hSw; (try dsimp only at hSw); go_simp; with_reducible rfl); simp only [Act.put, pB, pC, pD]
  refine tkH (by assumption) 4 (oi := ?_) (v := ?_) ?_ ?_ ?_ ?_ ?_ ?_ ?_ ?_; rotate_left 2; (simp only [gA, gB, gC]; exact rfl); kernel_rfl; kernel_rfl; kernel_rfl; exact fun _ _ _ h => h; rfl; (intro w' hSw; (try dsimp only at hSw); go_simp; with_reducible rfl); simp only [Act.put, pB, pC, pD]
  refine tkH (by assumption) 5 (oi := ?_) (v := ?_) ?_ ?_ ?_ ?_ ?_ ?_ ?_ ?_; rotate_left 2; (simp only [gA, gB, gC]; exact rfl); kernel_rfl; kernel_rfl; kernel_rfl; exact fun _ _ _ h => h; rfl; (intro w' hSw; (try dsimp only at hSw); go_simp; with_reducible rfl); simp only [Act.put, pB, pC, pD]
  refine tkH (by assumption) 6 (oi := ?_) (v := ?_) ?_ ?_ ?_ ?_ ?_ ?_ ?_ ?_; rotate_left 2; (simp only [gA, gB, gC]; exact rfl); kernel_rfl; kernel_rfl; kernel_rfl; exact fun _ _ _ h => h; rfl; (intro w' hSw; (try dsimp only at hSw); go_simp; with_reducible rfl); simp only [Act.put, pB, pC, pD]
  refine absH (fun G A hG hA => ?_)
  suffices h_7_8_9 : ∀ (g8 : Nat) (g9 : Nat) (W : World), Hid (Below W0.heap.size W0 W) → Hid (W.heap[g8]? = some (.cells #[.int .i64 0, .int .i64 0, .int .i64 0, .int .i64 0, .int .i64 0, .int .i64 0] 36 (0, 0))) → Hid (W.heap[g9]? = some (.cells #[.int .i64 0, .int .i64 0, .int .i64 0] 47 (0, 0))) → W0.heap.size ≤ g8 ∧ g8 < W.heap.size → W0.heap.size ≤ g9 ∧ g9 < W.heap.size → g8 ≠ g9 → G 2 #[true, true, true, true, true, true, true, true, true, true, false, false] (((A.put (some 18) (.agg #[.int .i64 pv.x, .int .i64 pv.y, .int .i64 pv.z])).put (some 9) (.pointer (some ⟨g8, 0, none⟩))).put (some 10) (.pointer (some ⟨g9, 0, none⟩))) W by
    have h_7_8 : ∀ (g8 : Nat) (W : World), Hid (Below W0.heap.size W0 W) → Hid (W.heap[g8]? = some (.cells #[.int .i64 0, .int .i64 0, .int .i64 0, .int .i64 0, .int .i64 0, .int .i64 0] 36 (0, 0))) → W0.heap.size ≤ g8 ∧ g8 < W.heap.size → G 3 #[true, true, true, true, true, true, true, true, true, false, false, false] ((A.put (some 18) (.agg #[.int .i64 pv.x, .int .i64 pv.y, .int .i64 pv.z])).put (some 9) (.pointer (some ⟨g8, 0, none⟩))) W := by
      intro g8 W HB0 HG8 hl8
      subst hA
      rw [hG]
      simp only [Act.put, pB, pC, pD]
      have hWW := HB0.out.size
      refine wpAnyH_ready (rs := [9]) (by kernel_rfl) (by simp) ?_
      refine coH 9 (oi := ?_) ?_ ?_ (fun K hK => ?_) ?_; rotate_left; (simp only [gA, gB, gC]; exact rfl); rfl
      · go_wp2_with (fail)
        have hb : Below W.heap.size W (W.alloc (.cells #[.int .i64 0, .int .i64 0, .int .i64 0] 47)) := (Below.refl _ _).alloc (Nat.le_refl _) _
        have hgs : (W.alloc (.cells #[.int .i64 0, .int .i64 0, .int .i64 0] 47)).heap.size = W.heap.size + 1 := by simp
        have K_HG9 := Lib.hid (heap_alloc_new W (.cells #[.int .i64 0, .int .i64 0, .int .i64 0] 47))
        refine hK.out _ _ (HSK.out _ (HB0.out.trans (hb.mono HB0.out.size))) (fun hHeldN => ?_)
        clear hK K
        try simp only [Act.put, pB, pC, pD]
        refine listedEq (l' := #[true, true, true, true, true, true, true, true, true, true, false, false]) (by kernel_rfl) ?_
        have h := h_7_8_9 g8 W.heap.size (W.alloc (.cells #[.int .i64 0, .int .i64 0, .int .i64 0] 47)) (Lib.hid (HB0.out.trans (hb.mono HB0.out.size))) (Lib.hid (heap_keep hb HG8.out)) K_HG9 ⟨hl8.1, by have := hl8.2; omega⟩ ⟨hWW, by omega⟩ (by have := hl8.2; omega)
        rw [hG] at h
        simp only [Act.put, pB, pC, pD] at h
        exact h
      exact AllReadyH.nil
    have h_7_9 : ∀ (g9 : Nat) (W : World), Hid (Below W0.heap.size W0 W) → Hid (W.heap[g9]? = some (.cells #[.int .i64 0, .int .i64 0, .int .i64 0] 47 (0, 0))) → W0.heap.size ≤ g9 ∧ g9 < W.heap.size → G 3 #[true, true, true, true, true, true, true, true, false, true, false, false] ((A.put (some 18) (.agg #[.int .i64 pv.x, .int .i64 pv.y, .int .i64 pv.z])).put (some 10) (.pointer (some ⟨g9, 0, none⟩))) W := by
      intro g9 W HB0 HG9 hl9
      subst hA
      rw [hG]
      simp only [Act.put, pB, pC, pD]
      have hWW := HB0.out.size
      refine wpAnyH_ready (rs := [8]) (by kernel_rfl) (by simp) ?_
      refine coH 8 (oi := ?_) ?_ ?_ (fun K hK => ?_) ?_; rotate_left; (simp only [gA, gB, gC]; exact rfl); rfl
      · go_wp2_with (fail)
        have hb : Below W.heap.size W (W.alloc (.cells #[.int .i64 0, .int .i64 0, .int .i64 0, .int .i64 0, .int .i64 0, .int .i64 0] 36)) := (Below.refl _ _).alloc (Nat.le_refl _) _
        have hgs : (W.alloc (.cells #[.int .i64 0, .int .i64 0, .int .i64 0, .int .i64 0, .int .i64 0, .int .i64 0] 36)).heap.size = W.heap.size + 1 := by simp
        have K_HG8 := Lib.hid (heap_alloc_new W (.cells #[.int .i64 0, .int .i64 0, .int .i64 0, .int .i64 0, .int .i64 0, .int .i64 0] 36))
        refine hK.out _ _ (HSK.out _ (HB0.out.trans (hb.mono HB0.out.size))) (fun hHeldN => ?_)
        clear hK K
        try simp only [Act.put, pB, pC, pD]
        refine listedEq (l' := #[true, true, true, true, true, true, true, true, true, true, false, false]) (by kernel_rfl) ?_
        have h := h_7_8_9 W.heap.size g9 (W.alloc (.cells #[.int .i64 0, .int .i64 0, .int .i64 0, .int .i64 0, .int .i64 0, .int .i64 0] 36)) (Lib.hid (HB0.out.trans (hb.mono HB0.out.size))) K_HG8 (Lib.hid (heap_keep hb HG9.out)) ⟨hWW, by omega⟩ ⟨hl9.1, by have := hl9.2; omega⟩ (by have := hl9.2; omega)
        rw [hG] at h
        simp only [Act.put, pB, pC, pD] at h
        exact h
      exact AllReadyH.nil
    have h_8_9 : ∀ (g8 : Nat) (g9 : Nat) (W : World), Hid (Below W0.heap.size W0 W) → Hid (W.heap[g8]? = some (.cells #[.int .i64 0, .int .i64 0, .int .i64 0, .int .i64 0, .int .i64 0, .int .i64 0] 36 (0, 0))) → Hid (W.heap[g9]? = some (.cells #[.int .i64 0, .int .i64 0, .int .i64 0] 47 (0, 0))) → W0.heap.size ≤ g8 ∧ g8 < W.heap.size → W0.heap.size ≤ g9 ∧ g9 < W.heap.size → g8 ≠ g9 → G 3 #[true, true, true, true, true, true, true, false, true, true, false, false] ((A.put (some 9) (.pointer (some ⟨g8, 0, none⟩))).put (some 10) (.pointer (some ⟨g9, 0, none⟩))) W := by
      intro g8 g9 W HB0 HG8 HG9 hl8 hl9 ne8_9
      subst hA
      rw [hG]
      simp only [Act.put, pB, pC, pD]
      have hWW := HB0.out.size
      refine wpAnyH_ready (rs := [7]) (by kernel_rfl) (by simp) ?_
      refine coH 7 (oi := ?_) ?_ ?_ (fun K hK => ?_) ?_; rotate_left; (simp only [gA, gB, gC]; exact rfl); rfl
      · go_wp2_with (fail)
        refine (absPl_any ma mb W).mono ?_
        rintro e Wn ⟨rfl, hb⟩
        have hgs := hb.size
        rw [HPV.out]
        refine hK.out _ _ (HSK.out _ (HB0.out.trans (hb.mono HB0.out.size))) (fun hHeldN => ?_)
        clear hK K
        try simp only [Act.put, pB, pC, pD]
        refine listedEq (l' := #[true, true, true, true, true, true, true, true, true, true, false, false]) (by kernel_rfl) ?_
        have h := h_7_8_9 g8 g9 Wn (Lib.hid (HB0.out.trans (hb.mono HB0.out.size))) (Lib.hid (heap_keep hb HG8.out)) (Lib.hid (heap_keep hb HG9.out)) ⟨hl8.1, by have := hl8.2; omega⟩ ⟨hl9.1, by have := hl9.2; omega⟩ ne8_9
        rw [hG] at h
        simp only [Act.put, pB, pC, pD] at h
        exact h
      exact AllReadyH.nil
    have h_7 : ∀  (W : World), Hid (Below W0.heap.size W0 W) → G 4 #[true, true, true, true, true, true, true, true, false, false, false, false] (A.put (some 18) (.agg #[.int .i64 pv.x, .int .i64 pv.y, .int .i64 pv.z])) W := by
      intro W HB0
      subst hA
      rw [hG]
      simp only [Act.put, pB, pC, pD]
      have hWW := HB0.out.size
      refine wpAnyH_ready (rs := [8, 9]) (by kernel_rfl) (by simp) ?_
      refine coH 8 (oi := ?_) ?_ ?_ (fun K hK => ?_) ?_; rotate_left; (simp only [gA, gB, gC]; exact rfl); rfl
      · go_wp2_with (fail)
        have hb : Below W.heap.size W (W.alloc (.cells #[.int .i64 0, .int .i64 0, .int .i64 0, .int .i64 0, .int .i64 0, .int .i64 0] 36)) := (Below.refl _ _).alloc (Nat.le_refl _) _
        have hgs : (W.alloc (.cells #[.int .i64 0, .int .i64 0, .int .i64 0, .int .i64 0, .int .i64 0, .int .i64 0] 36)).heap.size = W.heap.size + 1 := by simp
        have K_HG8 := Lib.hid (heap_alloc_new W (.cells #[.int .i64 0, .int .i64 0, .int .i64 0, .int .i64 0, .int .i64 0, .int .i64 0] 36))
        refine hK.out _ _ (HSK.out _ (HB0.out.trans (hb.mono HB0.out.size))) (fun hHeldN => ?_)
        clear hK K
        try simp only [Act.put, pB, pC, pD]
        refine listedEq (l' := #[true, true, true, true, true, true, true, true, true, false, false, false]) (by kernel_rfl) ?_
        have h := h_7_8 W.heap.size (W.alloc (.cells #[.int .i64 0, .int .i64 0, .int .i64 0, .int .i64 0, .int .i64 0, .int .i64 0] 36)) (Lib.hid (HB0.out.trans (hb.mono HB0.out.size))) K_HG8 ⟨hWW, by omega⟩
        rw [hG] at h
        simp only [Act.put, pB, pC, pD] at h
        exact h
      refine coH 9 (oi := ?_) ?_ ?_ (fun K hK => ?_) ?_; rotate_left; (simp only [gA, gB, gC]; exact rfl); rfl
      · go_wp2_with (fail)
        have hb : Below W.heap.size W (W.alloc (.cells #[.int .i64 0, .int .i64 0, .int .i64 0] 47)) := (Below.refl _ _).alloc (Nat.le_refl _) _
        have hgs : (W.alloc (.cells #[.int .i64 0, .int .i64 0, .int .i64 0] 47)).heap.size = W.heap.size + 1 := by simp
        have K_HG9 := Lib.hid (heap_alloc_new W (.cells #[.int .i64 0, .int .i64 0, .int .i64 0] 47))
        refine hK.out _ _ (HSK.out _ (HB0.out.trans (hb.mono HB0.out.size))) (fun hHeldN => ?_)
        clear hK K
        try simp only [Act.put, pB, pC, pD]
        refine listedEq (l' := #[true, true, true, true, true, true, true, true, false, true, false, false]) (by kernel_rfl) ?_
        have h := h_7_9 W.heap.size (W.alloc (.cells #[.int .i64 0, .int .i64 0, .int .i64 0] 47)) (Lib.hid (HB0.out.trans (hb.mono HB0.out.size))) K_HG9 ⟨hWW, by omega⟩
        rw [hG] at h
        simp only [Act.put, pB, pC, pD] at h
        exact h
      exact AllReadyH.nil
    have h_8 : ∀ (g8 : Nat) (W : World), Hid (Below W0.heap.size W0 W) → Hid (W.heap[g8]? = some (.cells #[.int .i64 0, .int .i64 0, .int .i64 0, .int .i64 0, .int .i64 0, .int .i64 0] 36 (0, 0))) → W0.heap.size ≤ g8 ∧ g8 < W.heap.size → G 4 #[true, true, true, true, true, true, true, false, true, false, false, false] (A.put (some 9) (.pointer (some ⟨g8, 0, none⟩))) W := by
      intro g8 W HB0 HG8 hl8
      subst hA
      rw [hG]
      simp only [Act.put, pB, pC, pD]
      have hWW := HB0.out.size
      refine wpAnyH_ready (rs := [7, 9]) (by kernel_rfl) (by simp) ?_
      refine coH 7 (oi := ?_) ?_ ?_ (fun K hK => ?_) ?_; rotate_left; (simp only [gA, gB, gC]; exact rfl); rfl
      · go_wp2_with (fail)
        refine (absPl_any ma mb W).mono ?_
        rintro e Wn ⟨rfl, hb⟩
        have hgs := hb.size
        rw [HPV.out]
        refine hK.out _ _ (HSK.out _ (HB0.out.trans (hb.mono HB0.out.size))) (fun hHeldN => ?_)
        clear hK K
        try simp only [Act.put, pB, pC, pD]
        refine listedEq (l' := #[true, true, true, true, true, true, true, true, true, false, false, false]) (by kernel_rfl) ?_
        have h := h_7_8 g8 Wn (Lib.hid (HB0.out.trans (hb.mono HB0.out.size))) (Lib.hid (heap_keep hb HG8.out)) ⟨hl8.1, by have := hl8.2; omega⟩
        rw [hG] at h
        simp only [Act.put, pB, pC, pD] at h
        exact h
      refine coH 9 (oi := ?_) ?_ ?_ (fun K hK => ?_) ?_; rotate_left; (simp only [gA, gB, gC]; exact rfl); rfl
      · go_wp2_with (fail)
        have hb : Below W.heap.size W (W.alloc (.cells #[.int .i64 0, .int .i64 0, .int .i64 0] 47)) := (Below.refl _ _).alloc (Nat.le_refl _) _
        have hgs : (W.alloc (.cells #[.int .i64 0, .int .i64 0, .int .i64 0] 47)).heap.size = W.heap.size + 1 := by simp
        have K_HG9 := Lib.hid (heap_alloc_new W (.cells #[.int .i64 0, .int .i64 0, .int .i64 0] 47))
        refine hK.out _ _ (HSK.out _ (HB0.out.trans (hb.mono HB0.out.size))) (fun hHeldN => ?_)
        clear hK K
        try simp only [Act.put, pB, pC, pD]
        refine listedEq (l' := #[true, true, true, true, true, true, true, false, true, true, false, false]) (by kernel_rfl) ?_
        have h := h_8_9 g8 W.heap.size (W.alloc (.cells #[.int .i64 0, .int .i64 0, .int .i64 0] 47)) (Lib.hid (HB0.out.trans (hb.mono HB0.out.size))) (Lib.hid (heap_keep hb HG8.out)) K_HG9 ⟨hl8.1, by have := hl8.2; omega⟩ ⟨hWW, by omega⟩ (by have := hl8.2; omega)
        rw [hG] at h
        simp only [Act.put, pB, pC, pD] at h
        exact h
      exact AllReadyH.nil
    have h_9 : ∀ (g9 : Nat) (W : World), Hid (Below W0.heap.size W0 W) → Hid (W.heap[g9]? = some (.cells #[.int .i64 0, .int .i64 0, .int .i64 0] 47 (0, 0))) → W0.heap.size ≤ g9 ∧ g9 < W.heap.size → G 4 #[true, true, true, true, true, true, true, false, false, true, false, false] (A.put (some 10) (.pointer (some ⟨g9, 0, none⟩))) W := by
      intro g9 W HB0 HG9 hl9
      subst hA
      rw [hG]
      simp only [Act.put, pB, pC, pD]
      have hWW := HB0.out.size
      refine wpAnyH_ready (rs := [7, 8]) (by kernel_rfl) (by simp) ?_
      refine coH 7 (oi := ?_) ?_ ?_ (fun K hK => ?_) ?_; rotate_left; (simp only [gA, gB, gC]; exact rfl); rfl
      · go_wp2_with (fail)
        refine (absPl_any ma mb W).mono ?_
        rintro e Wn ⟨rfl, hb⟩
        have hgs := hb.size
        rw [HPV.out]
        refine hK.out _ _ (HSK.out _ (HB0.out.trans (hb.mono HB0.out.size))) (fun hHeldN => ?_)
        clear hK K
        try simp only [Act.put, pB, pC, pD]
        refine listedEq (l' := #[true, true, true, true, true, true, true, true, false, true, false, false]) (by kernel_rfl) ?_
        have h := h_7_9 g9 Wn (Lib.hid (HB0.out.trans (hb.mono HB0.out.size))) (Lib.hid (heap_keep hb HG9.out)) ⟨hl9.1, by have := hl9.2; omega⟩
        rw [hG] at h
        simp only [Act.put, pB, pC, pD] at h
        exact h
      refine coH 8 (oi := ?_) ?_ ?_ (fun K hK => ?_) ?_; rotate_left; (simp only [gA, gB, gC]; exact rfl); rfl
      · go_wp2_with (fail)
        have hb : Below W.heap.size W (W.alloc (.cells #[.int .i64 0, .int .i64 0, .int .i64 0, .int .i64 0, .int .i64 0, .int .i64 0] 36)) := (Below.refl _ _).alloc (Nat.le_refl _) _
        have hgs : (W.alloc (.cells #[.int .i64 0, .int .i64 0, .int .i64 0, .int .i64 0, .int .i64 0, .int .i64 0] 36)).heap.size = W.heap.size + 1 := by simp
        have K_HG8 := Lib.hid (heap_alloc_new W (.cells #[.int .i64 0, .int .i64 0, .int .i64 0, .int .i64 0, .int .i64 0, .int .i64 0] 36))
        refine hK.out _ _ (HSK.out _ (HB0.out.trans (hb.mono HB0.out.size))) (fun hHeldN => ?_)
        clear hK K
        try simp only [Act.put, pB, pC, pD]
        refine listedEq (l' := #[true, true, true, true, true, true, true, false, true, true, false, false]) (by kernel_rfl) ?_
        have h := h_8_9 W.heap.size g9 (W.alloc (.cells #[.int .i64 0, .int .i64 0, .int .i64 0, .int .i64 0, .int .i64 0, .int .i64 0] 36)) (Lib.hid (HB0.out.trans (hb.mono HB0.out.size))) K_HG8 (Lib.hid (heap_keep hb HG9.out)) ⟨hWW, by omega⟩ ⟨hl9.1, by have := hl9.2; omega⟩ (by have := hl9.2; omega)
        rw [hG] at h
        simp only [Act.put, pB, pC, pD] at h
        exact h
      exact AllReadyH.nil
    have h_0 : ∀  (W : World), Hid (Below W0.heap.size W0 W) → G 5 #[true, true, true, true, true, true, true, false, false, false, false, false] A W := by
      intro W HB0
      subst hA
      rw [hG]
      have hWW := HB0.out.size
      refine wpAnyH_ready (rs := [7, 8, 9]) (by kernel_rfl) (by simp) ?_
      refine coH 7 (oi := ?_) ?_ ?_ (fun K hK => ?_) ?_; rotate_left; (simp only [gA, gB, gC]; exact rfl); rfl
      · go_wp2_with (fail)
        refine (absPl_any ma mb W).mono ?_
        rintro e Wn ⟨rfl, hb⟩
        have hgs := hb.size
        rw [HPV.out]
        refine hK.out _ _ (HSK.out _ (HB0.out.trans (hb.mono HB0.out.size))) (fun hHeldN => ?_)
        clear hK K
        try simp only [Act.put, pB, pC, pD]
        refine listedEq (l' := #[true, true, true, true, true, true, true, true, false, false, false, false]) (by kernel_rfl) ?_
        have h := h_7  Wn (Lib.hid (HB0.out.trans (hb.mono HB0.out.size)))
        rw [hG] at h
        simp only [Act.put, pB, pC, pD] at h
        exact h
      refine coH 8 (oi := ?_) ?_ ?_ (fun K hK => ?_) ?_; rotate_left; (simp only [gA, gB, gC]; exact rfl); rfl
      · go_wp2_with (fail)
        have hb : Below W.heap.size W (W.alloc (.cells #[.int .i64 0, .int .i64 0, .int .i64 0, .int .i64 0, .int .i64 0, .int .i64 0] 36)) := (Below.refl _ _).alloc (Nat.le_refl _) _
        have hgs : (W.alloc (.cells #[.int .i64 0, .int .i64 0, .int .i64 0, .int .i64 0, .int .i64 0, .int .i64 0] 36)).heap.size = W.heap.size + 1 := by simp
        have K_HG8 := Lib.hid (heap_alloc_new W (.cells #[.int .i64 0, .int .i64 0, .int .i64 0, .int .i64 0, .int .i64 0, .int .i64 0] 36))
        refine hK.out _ _ (HSK.out _ (HB0.out.trans (hb.mono HB0.out.size))) (fun hHeldN => ?_)
        clear hK K
        try simp only [Act.put, pB, pC, pD]
        refine listedEq (l' := #[true, true, true, true, true, true, true, false, true, false, false, false]) (by kernel_rfl) ?_
        have h := h_8 W.heap.size (W.alloc (.cells #[.int .i64 0, .int .i64 0, .int .i64 0, .int .i64 0, .int .i64 0, .int .i64 0] 36)) (Lib.hid (HB0.out.trans (hb.mono HB0.out.size))) K_HG8 ⟨hWW, by omega⟩
        rw [hG] at h
        simp only [Act.put, pB, pC, pD] at h
        exact h
      refine coH 9 (oi := ?_) ?_ ?_ (fun K hK => ?_) ?_; rotate_left; (simp only [gA, gB, gC]; exact rfl); rfl
      · go_wp2_with (fail)
        have hb : Below W.heap.size W (W.alloc (.cells #[.int .i64 0, .int .i64 0, .int .i64 0] 47)) := (Below.refl _ _).alloc (Nat.le_refl _) _
        have hgs : (W.alloc (.cells #[.int .i64 0, .int .i64 0, .int .i64 0] 47)).heap.size = W.heap.size + 1 := by simp
        have K_HG9 := Lib.hid (heap_alloc_new W (.cells #[.int .i64 0, .int .i64 0, .int .i64 0] 47))
        refine hK.out _ _ (HSK.out _ (HB0.out.trans (hb.mono HB0.out.size))) (fun hHeldN => ?_)
        clear hK K
        try simp only [Act.put, pB, pC, pD]
        refine listedEq (l' := #[true, true, true, true, true, true, true, false, false, true, false, false]) (by kernel_rfl) ?_
        have h := h_9 W.heap.size (W.alloc (.cells #[.int .i64 0, .int .i64 0, .int .i64 0] 47)) (Lib.hid (HB0.out.trans (hb.mono HB0.out.size))) K_HG9 ⟨hWW, by omega⟩
        rw [hG] at h
        simp only [Act.put, pB, pC, pD] at h
        exact h
      exact AllReadyH.nil
    exact h_0 W0.drew (Lib.hid (bdrewN (Below.refl _ _) 1))
  intro g8 g9 W HB0 HG8 HG9 hl8 hl9 ne8_9
  subst hA
  rw [hG]
  simp only [Act.put, pB, pC, pD]
  have hWW := HB0.out.size
  have y0 : W.cell? ⟨g8, 0, none⟩ = some (.int .i64 0) := cell_of HG8.out (i := 0) rfl
  have y1 : W.cell? ⟨g8, 1, none⟩ = some (.int .i64 0) := cell_of HG8.out (i := 1) rfl
  have y2 : W.cell? ⟨g8, 2, none⟩ = some (.int .i64 0) := cell_of HG8.out (i := 2) rfl
  have y3 : W.cell? ⟨g8, 3, none⟩ = some (.int .i64 0) := cell_of HG8.out (i := 3) rfl
  have y4 : W.cell? ⟨g8, 4, none⟩ = some (.int .i64 0) := cell_of HG8.out (i := 4) rfl
  have y5 : W.cell? ⟨g8, 5, none⟩ = some (.int .i64 0) := cell_of HG8.out (i := 5) rfl
  have fz8 := fun i => frozen_of (i := i) HG8.out
  refine onH 10 (oi := ?_) (by kernel_rfl) ?_ ?_ (fun K hK => ?_); rotate_left; (simp only [gA, gB, gC]; exact rfl); rfl
  go_wp2_with (fail)
  obtain ⟨hh1, hm1⟩ := storeSt (s := s) HG8.out rfl
  refine hK.out _ _ (HSK.out _ (HB0.out.trans (hm1.toBelow W0.heap.size hWW (fun x hx h => by have := hl8.1; omega)))) (fun hHeldN => ?_)
  clear hK K hHeldN
  try simp only [Act.put, pB, pC, pD]
  generalize ((((((W.setCell ⟨g8, 0, none⟩ (.int .i64 s.k)).setCell ⟨g8, 1, none⟩ (.int .i64 s.x)).setCell ⟨g8, 2, none⟩ (.int .i64 s.y)).setCell ⟨g8, 3, none⟩ (.int .i64 s.z)).setCell ⟨g8, 4, none⟩ (.int .i64 s.f)).setCell ⟨g8, 5, none⟩ (.int .i64 s.n)) = X1 at *
  have hrw1 : w.heap.size ≤ r0 := Nat.le_of_eq HR0.out
  have hrw2 : r0 ≤ w.heap.size := Nat.le_of_eq HR0.out.symm
  have HB1X := Lib.hid (HB0.out.trans (hm1.toBelow W0.heap.size hWW (fun x hx h => by have := hl8.1; omega)))
  have HG9X := Lib.hid (heap_mut HG9.out hm1 (by omega))
  have HG8X := Lib.hid hh1
  have hWX := HB1X.out.size
  have hX9 := lt_of_heap HG9X.out
  clear hh1 hm1 y0 y1 y2 y3 y4 y5 fz8
  have z0 : X1.cell? ⟨g9, 0, none⟩ = some (.int .i64 0) := cell_of HG9X.out (i := 0) rfl
  have z1 : X1.cell? ⟨g9, 1, none⟩ = some (.int .i64 0) := cell_of HG9X.out (i := 1) rfl
  have z2 : X1.cell? ⟨g9, 2, none⟩ = some (.int .i64 0) := cell_of HG9X.out (i := 2) rfl
  have fz9 := fun i => frozen_of (i := i) HG9X.out
  refine onH 11 (oi := ?_) (by kernel_rfl) ?_ ?_ (fun K hK => ?_); rotate_left; (simp only [gA, gB, gC]; exact rfl); rfl
  go_wp2_with (fail)
  obtain ⟨hh1, hm1⟩ := storeVec (v0 := .int .i64 pv.x) (v1 := .int .i64 pv.y) (v2 := .int .i64 pv.z) HG9X.out rfl
  refine hK.out _ _ (HSK.out _ (HB1X.out.trans (hm1.toBelow W0.heap.size hWX (fun x hx h => by have := hl9.1; omega)))) (fun hHeldN => ?_)
  clear hK K hHeldN
  try simp only [Act.put, pB, pC, pD]
  generalize (((X1.setCell ⟨g9, 0, none⟩ (.int .i64 pv.x)).setCell ⟨g9, 1, none⟩ (.int .i64 pv.y)).setCell ⟨g9, 2, none⟩ (.int .i64 pv.z)) = X2 at *
  have HBX := Lib.hid (HB1X.out.trans (hm1.toBelow W0.heap.size hWX (fun x hx h => by have := hl9.1; omega)))
  have HS5 := Lib.hid (heap_mut HG8X.out hm1 (by omega))
  have HV5 := Lib.hid hh1
  clear hh1 hm1 z0 z1 z2 fz9 HG8X HG9X HB1X HG8 HG9
  refine wpAnyH_done (by kernel_rfl) ?_ _
  have hb3 := HBX.out
  replace HHA := Lib.hid (heap_keep hb3 HHA.out)
  replace HHS := Lib.hid (heap_keep hb3 HHS.out)
  replace HHF := Lib.hid (heap_keep hb3 HHF.out)
  replace HOW := Lib.hid (ownsRow_below HOW.out hb3)
  replace HSR := Lib.hid (HSR.out.kept hb3)
  have B5 := Lib.hid (HB1.out.trans (hb3.mono (by omega)))
  have hsX := hb3.size
  clear hb3 HBX HB0 HSK HN0 HN1 H6
  have hq8 := lt_of_heap HS5.out
  have hq9 := lt_of_heap HV5.out
  have hg8 := hl8.1
  have hg9 := hl9.1
  by_cases hk1 : s.k = 1
  · have HM := Lib.hid (show toldL plA m S (i + 1) = L by rw [toldL, if_pos (by rw [RS.out]; exact .inl hk1), HL.out])
    rw [hk1] at HS5
    have s0 : X2.cell? ⟨g8, 0, none⟩ = some (.int .i64 1) := cell_of HS5.out (i := 0) rfl
    have s1 : X2.cell? ⟨g8, 1, none⟩ = some (.int .i64 s.x) := cell_of HS5.out (i := 1) rfl
    have s2 : X2.cell? ⟨g8, 2, none⟩ = some (.int .i64 s.y) := cell_of HS5.out (i := 2) rfl
    have s3 : X2.cell? ⟨g8, 3, none⟩ = some (.int .i64 s.z) := cell_of HS5.out (i := 3) rfl
    have s4 : X2.cell? ⟨g8, 4, none⟩ = some (.int .i64 s.f) := cell_of HS5.out (i := 4) rfl
    have s5 : X2.cell? ⟨g8, 5, none⟩ = some (.int .i64 s.n) := cell_of HS5.out (i := 5) rfl
    go_wp2_with (fail)
    first | go_end0 | go_ret2 | (refine bodyPost_ret (v := .tuple #[]) (results_none rfl _ _ _) rfl ?_)
    exact ⟨rfl, ⟨ao, co, by rw [HM.out]; exact HHA.out, HHS.out, HHF.out, by rw [HM.out]; exact HOW.out, HSR.out⟩, (Mut.refl _ w).below B5.out⟩
  by_cases hk2 : s.k = 2
  · have HM := Lib.hid (show toldL plA m S (i + 1) = L by rw [toldL, if_pos (by rw [RS.out]; exact .inr hk2), HL.out])
    rw [hk2] at HS5
    have s0 : X2.cell? ⟨g8, 0, none⟩ = some (.int .i64 2) := cell_of HS5.out (i := 0) rfl
    have s1 : X2.cell? ⟨g8, 1, none⟩ = some (.int .i64 s.x) := cell_of HS5.out (i := 1) rfl
    have s2 : X2.cell? ⟨g8, 2, none⟩ = some (.int .i64 s.y) := cell_of HS5.out (i := 2) rfl
    have s3 : X2.cell? ⟨g8, 3, none⟩ = some (.int .i64 s.z) := cell_of HS5.out (i := 3) rfl
    have s4 : X2.cell? ⟨g8, 4, none⟩ = some (.int .i64 s.f) := cell_of HS5.out (i := 4) rfl
    have s5 : X2.cell? ⟨g8, 5, none⟩ = some (.int .i64 s.n) := cell_of HS5.out (i := 5) rfl
    go_wp2_with (fail)
    first | go_end0 | go_ret2 | (refine bodyPost_ret (v := .tuple #[]) (results_none rfl _ _ _) rfl ?_)
    exact ⟨rfl, ⟨ao, co, by rw [HM.out]; exact HHA.out, HHS.out, HHF.out, by rw [HM.out]; exact HOW.out, HSR.out⟩, (Mut.refl _ w).below B5.out⟩
  by_cases hk3 : s.k = 3
  · have HM := Lib.hid (show toldL plA m S (i + 1) = L ++ [⟨3, pv.x, pv.y, s.z, s.f, s.n⟩] by rw [toldL, if_neg (by rw [RS.out]; omega), RS.out, HMA.out, HMB.out, HPV.out, HL.out]; unfold toldS; rw [if_pos (by omega), hk3])
    rw [hk3] at HS5
    have s0 : X2.cell? ⟨g8, 0, none⟩ = some (.int .i64 3) := cell_of HS5.out (i := 0) rfl
    have s1 : X2.cell? ⟨g8, 1, none⟩ = some (.int .i64 s.x) := cell_of HS5.out (i := 1) rfl
    have s2 : X2.cell? ⟨g8, 2, none⟩ = some (.int .i64 s.y) := cell_of HS5.out (i := 2) rfl
    have s3 : X2.cell? ⟨g8, 3, none⟩ = some (.int .i64 s.z) := cell_of HS5.out (i := 3) rfl
    have s4 : X2.cell? ⟨g8, 4, none⟩ = some (.int .i64 s.f) := cell_of HS5.out (i := 4) rfl
    have s5 : X2.cell? ⟨g8, 5, none⟩ = some (.int .i64 s.n) := cell_of HS5.out (i := 5) rfl
    have d0 : X2.cell? ⟨g9, 0, none⟩ = some (.int .i64 pv.x) := cell_of HV5.out (i := 0) rfl
    have d1 : X2.cell? ⟨g9, 1, none⟩ = some (.int .i64 pv.y) := cell_of HV5.out (i := 1) rfl
    have d2 : X2.cell? ⟨g9, 2, none⟩ = some (.int .i64 pv.z) := cell_of HV5.out (i := 2) rfl
    have fq := fun i => frozen_of (i := i) HS5.out
    go_upto_region 7 with (fail)
    go_region
    go_upto_region 10 with (fail)
    have hm6 : Mut (· = g8) X2 ((X2.setCell ⟨g8, 1, none⟩ (.int .i64 pv.x)).setCell ⟨g8, 2, none⟩ (.int .i64 pv.y)).drew := (Mut.setCell (p := ⟨g8, 2, none⟩) (Mut.setCell (p := ⟨g8, 1, none⟩) (Mut.refl (· = g8) X2) (fun _ => rfl) _) (fun _ => rfl) _).drew
    have hs6 : ((X2.setCell ⟨g8, 1, none⟩ (.int .i64 pv.x)).setCell ⟨g8, 2, none⟩ (.int .i64 pv.y)).drew.heap[g8]? = some (.cells #[.int .i64 3, .int .i64 pv.x, .int .i64 pv.y, .int .i64 s.z, .int .i64 s.f, .int .i64 s.n] 36 (0, 0)) := (cells_set (i := 2) (cells_set (i := 1) HS5.out (.int .i64 pv.x)) (.int .i64 pv.y)).trans (by simp only [List.setIfInBounds_toArray, List.set_cons_zero, List.set_cons_succ])
    have HS7 := Lib.hid hs6
    have HHA7 := Lib.hid (heap_mut HHA.out hm6 (by omega))
    have HHS7 := Lib.hid (heap_mut HHS.out hm6 (by omega))
    have HHF7 := Lib.hid (heap_mut HHF.out hm6 (by omega))
    have HO7 := Lib.hid (own_mut HOW.out hm6 (fun x hx e => by have := HLT.out x hx; omega))
    have HSR7 := Lib.hid (HSR.out.mutC hm6 (fun _ x hx e => by cases hx; have e' : b = g8 := e; omega))
    have B7 := Lib.hid (B5.out.trans (hm6.toBelow w.heap.size (by omega) (fun x hx h => by have := HR0.out; omega)))
    clear hs6 hm6 s0 s1 s2 s3 s4 s5 d0 d1 d2 fq
    generalize ((X2.setCell ⟨g8, 1, none⟩ (.int .i64 pv.x)).setCell ⟨g8, 2, none⟩ (.int .i64 pv.y)).drew = X7 at *
    have s0 : X7.cell? ⟨g8, 0, none⟩ = some (.int .i64 (3)) := cell_of HS7.out (i := 0) rfl
    have s1 : X7.cell? ⟨g8, 1, none⟩ = some (.int .i64 (pv.x)) := cell_of HS7.out (i := 1) rfl
    have s2 : X7.cell? ⟨g8, 2, none⟩ = some (.int .i64 (pv.y)) := cell_of HS7.out (i := 2) rfl
    have s3 : X7.cell? ⟨g8, 3, none⟩ = some (.int .i64 (s.z)) := cell_of HS7.out (i := 3) rfl
    have s4 : X7.cell? ⟨g8, 4, none⟩ = some (.int .i64 (s.f)) := cell_of HS7.out (i := 4) rfl
    have s5 : X7.cell? ⟨g8, 5, none⟩ = some (.int .i64 (s.n)) := cell_of HS7.out (i := 5) rfl
    have p0 : X7.cell? ⟨pA, 0, none⟩ = some (.slice ao L.length co) := cell_of HHA7.out (i := 0) rfl
    have hpA7 := lt_of_heap HHA7.out
    have hs7 := B7.out.size
    go_wp2_with (at_builtin; refine wpList_append_lies _ rfl _ _ 26 rfl (base + 2) 36 i0 (.agg #[.int .i64 0, .int .i64 0, .int .i64 0, .int .i64 0, .int .i64 0, .int .i64 0]) 6 48 Try.underlying26 hi0 hz0 hz1 hz2 rfl (by decide) _ _ _ rfl (ownsRow_below (HO7.out) ((Below.refl _ X7).alloc (Nat.le_refl _) _)) ⟨X7.heap.size, 0, none⟩ 1 1 [.int .i64 3, .int .i64 pv.x, .int .i64 pv.y, .int .i64 s.z, .int .i64 s.f, .int .i64 s.n] rfl rfl (World.news_of_block (cs := #[.int .i64 3, .int .i64 pv.x, .int .i64 pv.y, .int .i64 s.z, .int .i64 s.f, .int .i64 s.n]) (t := 36) (fr := (0, 0)) (heap_alloc_new X7 (.cells #[.int .i64 3, .int .i64 pv.x, .int .i64 pv.y, .int .i64 s.z, .int .i64 s.f, .int .i64 s.n] 36))) (by simp [Value.oneCell']) (by omega) (by unfold maxLen; omega) (by omega) (by simp; omega) (X7.heap.size + 1) (by simp) ?_; intro g5 c5 w5 hown5 hgrow5 hge5 hlt5; have HO5 := Lib.hid hown5; have HB5 := Lib.hid (Below.grown (B := (base + 2)) (Below.alloc (B := (base + 2)) (Below.refl _ X7) (by omega) (.cells #[.int .i64 3, .int .i64 pv.x, .int .i64 pv.y, .int .i64 s.z, .int .i64 s.f, .int .i64 s.n] 36)) hgrow5 (by simp; omega) (fun b hb => ((HO7.out).lt b hb).1)); have HG5 := Lib.hid hgrow5; clear hown5 hgrow5 hge5; have hH5 : w5.heap[pA]? = some (.cells #[.slice ao L.length co] 26 (0, 0)) := (HB5.out.block pA (by omega)).trans HHA7.out; have q5 : w5.cell? ⟨pA, 0, none⟩ = some (.slice ao L.length co) := cell_of hH5 (i := 0) rfl; have f5 := frozen_of (i := 0) hH5; have HH5 := Lib.hid hH5; clear hH5)
    have HB2 := Lib.hid ((Mut.refl (· = pA) w5).setCell (p := ⟨pA, 0, none⟩) (fun _ => rfl) (.slice (some ⟨g5, 0, none⟩) (L.length + 1) c5))
    have HH6 := Lib.hid (cells_set (i := 0) HH5.out (.slice (some ⟨g5, 0, none⟩) (L.length + 1) c5))
    have hl4 : (toldL plA m S (i + 1)).length = L.length + 1 := by rw [HM.out, List.length_append]; rfl
    have hm5 : Mut (fun b => b < w0.heap.size ∧ (b = pA ∨ base + 2 ≤ b)) w w5 := by
      refine ⟨HG5.out.os.trans B7.out.os, HG5.out.tape.trans B7.out.tape, HG5.out.output.trans B7.out.output, ?_, fun x hx1 hn => ?_⟩
      · have h1 := HG5.out.size
        have h3 : (X7.alloc (.cells #[.int .i64 3, .int .i64 pv.x, .int .i64 pv.y, .int .i64 s.z, .int .i64 s.f, .int .i64 s.n] 36)).heap.size = X7.heap.size + 1 := by simp
        omega
      · rw [HG5.out.block x (by rw [show (X7.alloc (.cells #[.int .i64 3, .int .i64 pv.x, .int .i64 pv.y, .int .i64 s.z, .int .i64 s.f, .int .i64 s.n] 36)).heap.size = X7.heap.size + 1 by simp]; omega) (fun e => hn (by have := HLT.out x e.symm; omega)), Below.heap_alloc _ _ _ (by omega), B7.out.block x hx1]
    have hs5 : StepsR w5 (some ⟨b, off, none⟩) n S := by
      rcases HSR7.out with h | ⟨b', off', he, h1, h2⟩
      · exact .inl h
      · cases he
        have hbr : b < base + 2 := by omega
        exact .inr ⟨b, off, rfl, by have := HB5.out.size; omega, fun j hj => by
          obtain ⟨p0, p1, p2, p3, p4, p5⟩ := h2 j hj
          exact ⟨(HB5.out.cell (p := ⟨b, _, none⟩) hbr).trans p0, (HB5.out.cell (p := ⟨b, _, none⟩) hbr).trans p1, (HB5.out.cell (p := ⟨b, _, none⟩) hbr).trans p2, (HB5.out.cell (p := ⟨b, _, none⟩) hbr).trans p3, (HB5.out.cell (p := ⟨b, _, none⟩) hbr).trans p4, (HB5.out.cell (p := ⟨b, _, none⟩) hbr).trans p5⟩⟩
    have hq5 := (HB5.out.block pS (by omega)).trans HHS7.out
    have hr5 := (HB5.out.block pF (by omega)).trans HHF7.out
    go_end0
    refine ⟨rfl, ⟨some ⟨g5, 0, none⟩, c5, ?_, heap_mut hq5 HB2.out (by omega), heap_mut hr5 HB2.out (by omega), ?_, hs5.mutC HB2.out (fun _ x hx e => by cases hx; have e' : b = pA := e; omega)⟩, hm5.after HB2.out (fun x hx h => by subst h; exact ⟨by omega, .inl rfl⟩)⟩
    · rw [hl4]; exact HH6.out
    · rw [hl4, HM.out, rowS_app]
      exact own_mut HO5.out HB2.out (fun x hx e => by have := (HO5.out.lt x hx).1; omega)
  by_cases hk4 : s.k = 4
  · have HM := Lib.hid (show toldL plA m S (i + 1) = L ++ [⟨4, pv.x, pv.y, s.z, s.f, s.n⟩] by rw [toldL, if_neg (by rw [RS.out]; omega), RS.out, HMA.out, HMB.out, HPV.out, HL.out]; unfold toldS; rw [if_pos (by omega), hk4])
    rw [hk4] at HS5
    have s0 : X2.cell? ⟨g8, 0, none⟩ = some (.int .i64 4) := cell_of HS5.out (i := 0) rfl
    have s1 : X2.cell? ⟨g8, 1, none⟩ = some (.int .i64 s.x) := cell_of HS5.out (i := 1) rfl
    have s2 : X2.cell? ⟨g8, 2, none⟩ = some (.int .i64 s.y) := cell_of HS5.out (i := 2) rfl
    have s3 : X2.cell? ⟨g8, 3, none⟩ = some (.int .i64 s.z) := cell_of HS5.out (i := 3) rfl
    have s4 : X2.cell? ⟨g8, 4, none⟩ = some (.int .i64 s.f) := cell_of HS5.out (i := 4) rfl
    have s5 : X2.cell? ⟨g8, 5, none⟩ = some (.int .i64 s.n) := cell_of HS5.out (i := 5) rfl
    have d0 : X2.cell? ⟨g9, 0, none⟩ = some (.int .i64 pv.x) := cell_of HV5.out (i := 0) rfl
    have d1 : X2.cell? ⟨g9, 1, none⟩ = some (.int .i64 pv.y) := cell_of HV5.out (i := 1) rfl
    have d2 : X2.cell? ⟨g9, 2, none⟩ = some (.int .i64 pv.z) := cell_of HV5.out (i := 2) rfl
    have fq := fun i => frozen_of (i := i) HS5.out
    go_upto_region 7 with (fail)
    go_region
    go_upto_region 10 with (fail)
    have hm6 : Mut (· = g8) X2 ((X2.setCell ⟨g8, 1, none⟩ (.int .i64 pv.x)).setCell ⟨g8, 2, none⟩ (.int .i64 pv.y)).drew := (Mut.setCell (p := ⟨g8, 2, none⟩) (Mut.setCell (p := ⟨g8, 1, none⟩) (Mut.refl (· = g8) X2) (fun _ => rfl) _) (fun _ => rfl) _).drew
    have hs6 : ((X2.setCell ⟨g8, 1, none⟩ (.int .i64 pv.x)).setCell ⟨g8, 2, none⟩ (.int .i64 pv.y)).drew.heap[g8]? = some (.cells #[.int .i64 4, .int .i64 pv.x, .int .i64 pv.y, .int .i64 s.z, .int .i64 s.f, .int .i64 s.n] 36 (0, 0)) := (cells_set (i := 2) (cells_set (i := 1) HS5.out (.int .i64 pv.x)) (.int .i64 pv.y)).trans (by simp only [List.setIfInBounds_toArray, List.set_cons_zero, List.set_cons_succ])
    have HS7 := Lib.hid hs6
    have HHA7 := Lib.hid (heap_mut HHA.out hm6 (by omega))
    have HHS7 := Lib.hid (heap_mut HHS.out hm6 (by omega))
    have HHF7 := Lib.hid (heap_mut HHF.out hm6 (by omega))
    have HO7 := Lib.hid (own_mut HOW.out hm6 (fun x hx e => by have := HLT.out x hx; omega))
    have HSR7 := Lib.hid (HSR.out.mutC hm6 (fun _ x hx e => by cases hx; have e' : b = g8 := e; omega))
    have B7 := Lib.hid (B5.out.trans (hm6.toBelow w.heap.size (by omega) (fun x hx h => by have := HR0.out; omega)))
    clear hs6 hm6 s0 s1 s2 s3 s4 s5 d0 d1 d2 fq
    generalize ((X2.setCell ⟨g8, 1, none⟩ (.int .i64 pv.x)).setCell ⟨g8, 2, none⟩ (.int .i64 pv.y)).drew = X7 at *
    have s0 : X7.cell? ⟨g8, 0, none⟩ = some (.int .i64 (4)) := cell_of HS7.out (i := 0) rfl
    have s1 : X7.cell? ⟨g8, 1, none⟩ = some (.int .i64 (pv.x)) := cell_of HS7.out (i := 1) rfl
    have s2 : X7.cell? ⟨g8, 2, none⟩ = some (.int .i64 (pv.y)) := cell_of HS7.out (i := 2) rfl
    have s3 : X7.cell? ⟨g8, 3, none⟩ = some (.int .i64 (s.z)) := cell_of HS7.out (i := 3) rfl
    have s4 : X7.cell? ⟨g8, 4, none⟩ = some (.int .i64 (s.f)) := cell_of HS7.out (i := 4) rfl
    have s5 : X7.cell? ⟨g8, 5, none⟩ = some (.int .i64 (s.n)) := cell_of HS7.out (i := 5) rfl
    have p0 : X7.cell? ⟨pA, 0, none⟩ = some (.slice ao L.length co) := cell_of HHA7.out (i := 0) rfl
    have hpA7 := lt_of_heap HHA7.out
    have hs7 := B7.out.size
    go_wp2_with (at_builtin; refine wpList_append_lies _ rfl _ _ 26 rfl (base + 2) 36 i0 (.agg #[.int .i64 0, .int .i64 0, .int .i64 0, .int .i64 0, .int .i64 0, .int .i64 0]) 6 48 Try.underlying26 hi0 hz0 hz1 hz2 rfl (by decide) _ _ _ rfl (ownsRow_below (HO7.out) ((Below.refl _ X7).alloc (Nat.le_refl _) _)) ⟨X7.heap.size, 0, none⟩ 1 1 [.int .i64 4, .int .i64 pv.x, .int .i64 pv.y, .int .i64 s.z, .int .i64 s.f, .int .i64 s.n] rfl rfl (World.news_of_block (cs := #[.int .i64 4, .int .i64 pv.x, .int .i64 pv.y, .int .i64 s.z, .int .i64 s.f, .int .i64 s.n]) (t := 36) (fr := (0, 0)) (heap_alloc_new X7 (.cells #[.int .i64 4, .int .i64 pv.x, .int .i64 pv.y, .int .i64 s.z, .int .i64 s.f, .int .i64 s.n] 36))) (by simp [Value.oneCell']) (by omega) (by unfold maxLen; omega) (by omega) (by simp; omega) (X7.heap.size + 1) (by simp) ?_; intro g5 c5 w5 hown5 hgrow5 hge5 hlt5; have HO5 := Lib.hid hown5; have HB5 := Lib.hid (Below.grown (B := (base + 2)) (Below.alloc (B := (base + 2)) (Below.refl _ X7) (by omega) (.cells #[.int .i64 4, .int .i64 pv.x, .int .i64 pv.y, .int .i64 s.z, .int .i64 s.f, .int .i64 s.n] 36)) hgrow5 (by simp; omega) (fun b hb => ((HO7.out).lt b hb).1)); have HG5 := Lib.hid hgrow5; clear hown5 hgrow5 hge5; have hH5 : w5.heap[pA]? = some (.cells #[.slice ao L.length co] 26 (0, 0)) := (HB5.out.block pA (by omega)).trans HHA7.out; have q5 : w5.cell? ⟨pA, 0, none⟩ = some (.slice ao L.length co) := cell_of hH5 (i := 0) rfl; have f5 := frozen_of (i := 0) hH5; have HH5 := Lib.hid hH5; clear hH5)
    have HB2 := Lib.hid ((Mut.refl (· = pA) w5).setCell (p := ⟨pA, 0, none⟩) (fun _ => rfl) (.slice (some ⟨g5, 0, none⟩) (L.length + 1) c5))
    have HH6 := Lib.hid (cells_set (i := 0) HH5.out (.slice (some ⟨g5, 0, none⟩) (L.length + 1) c5))
    have hl4 : (toldL plA m S (i + 1)).length = L.length + 1 := by rw [HM.out, List.length_append]; rfl
    have hm5 : Mut (fun b => b < w0.heap.size ∧ (b = pA ∨ base + 2 ≤ b)) w w5 := by
      refine ⟨HG5.out.os.trans B7.out.os, HG5.out.tape.trans B7.out.tape, HG5.out.output.trans B7.out.output, ?_, fun x hx1 hn => ?_⟩
      · have h1 := HG5.out.size
        have h3 : (X7.alloc (.cells #[.int .i64 4, .int .i64 pv.x, .int .i64 pv.y, .int .i64 s.z, .int .i64 s.f, .int .i64 s.n] 36)).heap.size = X7.heap.size + 1 := by simp
        omega
      · rw [HG5.out.block x (by rw [show (X7.alloc (.cells #[.int .i64 4, .int .i64 pv.x, .int .i64 pv.y, .int .i64 s.z, .int .i64 s.f, .int .i64 s.n] 36)).heap.size = X7.heap.size + 1 by simp]; omega) (fun e => hn (by have := HLT.out x e.symm; omega)), Below.heap_alloc _ _ _ (by omega), B7.out.block x hx1]
    have hs5 : StepsR w5 (some ⟨b, off, none⟩) n S := by
      rcases HSR7.out with h | ⟨b', off', he, h1, h2⟩
      · exact .inl h
      · cases he
        have hbr : b < base + 2 := by omega
        exact .inr ⟨b, off, rfl, by have := HB5.out.size; omega, fun j hj => by
          obtain ⟨p0, p1, p2, p3, p4, p5⟩ := h2 j hj
          exact ⟨(HB5.out.cell (p := ⟨b, _, none⟩) hbr).trans p0, (HB5.out.cell (p := ⟨b, _, none⟩) hbr).trans p1, (HB5.out.cell (p := ⟨b, _, none⟩) hbr).trans p2, (HB5.out.cell (p := ⟨b, _, none⟩) hbr).trans p3, (HB5.out.cell (p := ⟨b, _, none⟩) hbr).trans p4, (HB5.out.cell (p := ⟨b, _, none⟩) hbr).trans p5⟩⟩
    have hq5 := (HB5.out.block pS (by omega)).trans HHS7.out
    have hr5 := (HB5.out.block pF (by omega)).trans HHF7.out
    go_end0
    refine ⟨rfl, ⟨some ⟨g5, 0, none⟩, c5, ?_, heap_mut hq5 HB2.out (by omega), heap_mut hr5 HB2.out (by omega), ?_, hs5.mutC HB2.out (fun _ x hx e => by cases hx; have e' : b = pA := e; omega)⟩, hm5.after HB2.out (fun x hx h => by subst h; exact ⟨by omega, .inl rfl⟩)⟩
    · rw [hl4]; exact HH6.out
    · rw [hl4, HM.out, rowS_app]
      exact own_mut HO5.out HB2.out (fun x hx e => by have := (HO5.out.lt x hx).1; omega)
  by_cases hk5 : s.k = 5
  · have HM := Lib.hid (show toldL plA m S (i + 1) = L ++ [⟨5, s.x, s.y, pv.z, s.f, s.n⟩] by rw [toldL, if_neg (by rw [RS.out]; omega), RS.out, HMA.out, HMB.out, HPV.out, HL.out]; unfold toldS; rw [if_neg (by omega), if_pos (by omega), hk5])
    rw [hk5] at HS5
    have s0 : X2.cell? ⟨g8, 0, none⟩ = some (.int .i64 5) := cell_of HS5.out (i := 0) rfl
    have s1 : X2.cell? ⟨g8, 1, none⟩ = some (.int .i64 s.x) := cell_of HS5.out (i := 1) rfl
    have s2 : X2.cell? ⟨g8, 2, none⟩ = some (.int .i64 s.y) := cell_of HS5.out (i := 2) rfl
    have s3 : X2.cell? ⟨g8, 3, none⟩ = some (.int .i64 s.z) := cell_of HS5.out (i := 3) rfl
    have s4 : X2.cell? ⟨g8, 4, none⟩ = some (.int .i64 s.f) := cell_of HS5.out (i := 4) rfl
    have s5 : X2.cell? ⟨g8, 5, none⟩ = some (.int .i64 s.n) := cell_of HS5.out (i := 5) rfl
    have d0 : X2.cell? ⟨g9, 0, none⟩ = some (.int .i64 pv.x) := cell_of HV5.out (i := 0) rfl
    have d1 : X2.cell? ⟨g9, 1, none⟩ = some (.int .i64 pv.y) := cell_of HV5.out (i := 1) rfl
    have d2 : X2.cell? ⟨g9, 2, none⟩ = some (.int .i64 pv.z) := cell_of HV5.out (i := 2) rfl
    have fq := fun i => frozen_of (i := i) HS5.out
    go_upto_region 10 with (fail)
    have hm6 : Mut (· = g8) X2 (X2.setCell ⟨g8, 3, none⟩ (.int .i64 pv.z)) := Mut.setCell (p := ⟨g8, 3, none⟩) (Mut.refl (· = g8) X2) (fun _ => rfl) _
    have hs6 : (X2.setCell ⟨g8, 3, none⟩ (.int .i64 pv.z)).heap[g8]? = some (.cells #[.int .i64 5, .int .i64 s.x, .int .i64 s.y, .int .i64 pv.z, .int .i64 s.f, .int .i64 s.n] 36 (0, 0)) := (cells_set (i := 3) HS5.out (.int .i64 pv.z)).trans (by simp only [List.setIfInBounds_toArray, List.set_cons_zero, List.set_cons_succ])
    have HS7 := Lib.hid hs6
    have HHA7 := Lib.hid (heap_mut HHA.out hm6 (by omega))
    have HHS7 := Lib.hid (heap_mut HHS.out hm6 (by omega))
    have HHF7 := Lib.hid (heap_mut HHF.out hm6 (by omega))
    have HO7 := Lib.hid (own_mut HOW.out hm6 (fun x hx e => by have := HLT.out x hx; omega))
    have HSR7 := Lib.hid (HSR.out.mutC hm6 (fun _ x hx e => by cases hx; have e' : b = g8 := e; omega))
    have B7 := Lib.hid (B5.out.trans (hm6.toBelow w.heap.size (by omega) (fun x hx h => by have := HR0.out; omega)))
    clear hs6 hm6 s0 s1 s2 s3 s4 s5 d0 d1 d2 fq
    generalize (X2.setCell ⟨g8, 3, none⟩ (.int .i64 pv.z)) = X7 at *
    have s0 : X7.cell? ⟨g8, 0, none⟩ = some (.int .i64 (5)) := cell_of HS7.out (i := 0) rfl
    have s1 : X7.cell? ⟨g8, 1, none⟩ = some (.int .i64 (s.x)) := cell_of HS7.out (i := 1) rfl
    have s2 : X7.cell? ⟨g8, 2, none⟩ = some (.int .i64 (s.y)) := cell_of HS7.out (i := 2) rfl
    have s3 : X7.cell? ⟨g8, 3, none⟩ = some (.int .i64 (pv.z)) := cell_of HS7.out (i := 3) rfl
    have s4 : X7.cell? ⟨g8, 4, none⟩ = some (.int .i64 (s.f)) := cell_of HS7.out (i := 4) rfl
    have s5 : X7.cell? ⟨g8, 5, none⟩ = some (.int .i64 (s.n)) := cell_of HS7.out (i := 5) rfl
    have p0 : X7.cell? ⟨pA, 0, none⟩ = some (.slice ao L.length co) := cell_of HHA7.out (i := 0) rfl
    have hpA7 := lt_of_heap HHA7.out
    have hs7 := B7.out.size
    go_wp2_with (at_builtin; refine wpList_append_lies _ rfl _ _ 26 rfl (base + 2) 36 i0 (.agg #[.int .i64 0, .int .i64 0, .int .i64 0, .int .i64 0, .int .i64 0, .int .i64 0]) 6 48 Try.underlying26 hi0 hz0 hz1 hz2 rfl (by decide) _ _ _ rfl (ownsRow_below (HO7.out) ((Below.refl _ X7).alloc (Nat.le_refl _) _)) ⟨X7.heap.size, 0, none⟩ 1 1 [.int .i64 5, .int .i64 s.x, .int .i64 s.y, .int .i64 pv.z, .int .i64 s.f, .int .i64 s.n] rfl rfl (World.news_of_block (cs := #[.int .i64 5, .int .i64 s.x, .int .i64 s.y, .int .i64 pv.z, .int .i64 s.f, .int .i64 s.n]) (t := 36) (fr := (0, 0)) (heap_alloc_new X7 (.cells #[.int .i64 5, .int .i64 s.x, .int .i64 s.y, .int .i64 pv.z, .int .i64 s.f, .int .i64 s.n] 36))) (by simp [Value.oneCell']) (by omega) (by unfold maxLen; omega) (by omega) (by simp; omega) (X7.heap.size + 1) (by simp) ?_; intro g5 c5 w5 hown5 hgrow5 hge5 hlt5; have HO5 := Lib.hid hown5; have HB5 := Lib.hid (Below.grown (B := (base + 2)) (Below.alloc (B := (base + 2)) (Below.refl _ X7) (by omega) (.cells #[.int .i64 5, .int .i64 s.x, .int .i64 s.y, .int .i64 pv.z, .int .i64 s.f, .int .i64 s.n] 36)) hgrow5 (by simp; omega) (fun b hb => ((HO7.out).lt b hb).1)); have HG5 := Lib.hid hgrow5; clear hown5 hgrow5 hge5; have hH5 : w5.heap[pA]? = some (.cells #[.slice ao L.length co] 26 (0, 0)) := (HB5.out.block pA (by omega)).trans HHA7.out; have q5 : w5.cell? ⟨pA, 0, none⟩ = some (.slice ao L.length co) := cell_of hH5 (i := 0) rfl; have f5 := frozen_of (i := 0) hH5; have HH5 := Lib.hid hH5; clear hH5)
    have HB2 := Lib.hid ((Mut.refl (· = pA) w5).setCell (p := ⟨pA, 0, none⟩) (fun _ => rfl) (.slice (some ⟨g5, 0, none⟩) (L.length + 1) c5))
    have HH6 := Lib.hid (cells_set (i := 0) HH5.out (.slice (some ⟨g5, 0, none⟩) (L.length + 1) c5))
    have hl4 : (toldL plA m S (i + 1)).length = L.length + 1 := by rw [HM.out, List.length_append]; rfl
    have hm5 : Mut (fun b => b < w0.heap.size ∧ (b = pA ∨ base + 2 ≤ b)) w w5 := by
      refine ⟨HG5.out.os.trans B7.out.os, HG5.out.tape.trans B7.out.tape, HG5.out.output.trans B7.out.output, ?_, fun x hx1 hn => ?_⟩
      · have h1 := HG5.out.size
        have h3 : (X7.alloc (.cells #[.int .i64 5, .int .i64 s.x, .int .i64 s.y, .int .i64 pv.z, .int .i64 s.f, .int .i64 s.n] 36)).heap.size = X7.heap.size + 1 := by simp
        omega
      · rw [HG5.out.block x (by rw [show (X7.alloc (.cells #[.int .i64 5, .int .i64 s.x, .int .i64 s.y, .int .i64 pv.z, .int .i64 s.f, .int .i64 s.n] 36)).heap.size = X7.heap.size + 1 by simp]; omega) (fun e => hn (by have := HLT.out x e.symm; omega)), Below.heap_alloc _ _ _ (by omega), B7.out.block x hx1]
    have hs5 : StepsR w5 (some ⟨b, off, none⟩) n S := by
      rcases HSR7.out with h | ⟨b', off', he, h1, h2⟩
      · exact .inl h
      · cases he
        have hbr : b < base + 2 := by omega
        exact .inr ⟨b, off, rfl, by have := HB5.out.size; omega, fun j hj => by
          obtain ⟨p0, p1, p2, p3, p4, p5⟩ := h2 j hj
          exact ⟨(HB5.out.cell (p := ⟨b, _, none⟩) hbr).trans p0, (HB5.out.cell (p := ⟨b, _, none⟩) hbr).trans p1, (HB5.out.cell (p := ⟨b, _, none⟩) hbr).trans p2, (HB5.out.cell (p := ⟨b, _, none⟩) hbr).trans p3, (HB5.out.cell (p := ⟨b, _, none⟩) hbr).trans p4, (HB5.out.cell (p := ⟨b, _, none⟩) hbr).trans p5⟩⟩
    have hq5 := (HB5.out.block pS (by omega)).trans HHS7.out
    have hr5 := (HB5.out.block pF (by omega)).trans HHF7.out
    go_end0
    refine ⟨rfl, ⟨some ⟨g5, 0, none⟩, c5, ?_, heap_mut hq5 HB2.out (by omega), heap_mut hr5 HB2.out (by omega), ?_, hs5.mutC HB2.out (fun _ x hx e => by cases hx; have e' : b = pA := e; omega)⟩, hm5.after HB2.out (fun x hx h => by subst h; exact ⟨by omega, .inl rfl⟩)⟩
    · rw [hl4]; exact HH6.out
    · rw [hl4, HM.out, rowS_app]
      exact own_mut HO5.out HB2.out (fun x hx e => by have := (HO5.out.lt x hx).1; omega)
  have HM := Lib.hid (show toldL plA m S (i + 1) = L ++ [⟨s.k, s.x, s.y, s.z, s.f, s.n⟩] by rw [toldL, if_neg (by rw [RS.out]; omega), RS.out, HMA.out, HMB.out, HPV.out, HL.out]; unfold toldS; rw [if_neg (by omega), if_neg (by omega)])
  have s0 : X2.cell? ⟨g8, 0, none⟩ = some (.int .i64 s.k) := cell_of HS5.out (i := 0) rfl
  have s1 : X2.cell? ⟨g8, 1, none⟩ = some (.int .i64 s.x) := cell_of HS5.out (i := 1) rfl
  have s2 : X2.cell? ⟨g8, 2, none⟩ = some (.int .i64 s.y) := cell_of HS5.out (i := 2) rfl
  have s3 : X2.cell? ⟨g8, 3, none⟩ = some (.int .i64 s.z) := cell_of HS5.out (i := 3) rfl
  have s4 : X2.cell? ⟨g8, 4, none⟩ = some (.int .i64 s.f) := cell_of HS5.out (i := 4) rfl
  have s5 : X2.cell? ⟨g8, 5, none⟩ = some (.int .i64 s.n) := cell_of HS5.out (i := 5) rfl
  go_upto_region 10 with (fail)
  have hm6 : Mut (· = g8) X2 X2 := Mut.refl _ _
  have hs6 := HS5.out
  have HS7 := Lib.hid hs6
  have HHA7 := Lib.hid (heap_mut HHA.out hm6 (by omega))
  have HHS7 := Lib.hid (heap_mut HHS.out hm6 (by omega))
  have HHF7 := Lib.hid (heap_mut HHF.out hm6 (by omega))
  have HO7 := Lib.hid (own_mut HOW.out hm6 (fun x hx e => by have := HLT.out x hx; omega))
  have HSR7 := Lib.hid (HSR.out.mutC hm6 (fun _ x hx e => by cases hx; have e' : b = g8 := e; omega))
  have B7 := Lib.hid (B5.out.trans (hm6.toBelow w.heap.size (by omega) (fun x hx h => by have := HR0.out; omega)))
  clear hs6 hm6 s0 s1 s2 s3 s4 s5
  generalize X2 = X7 at *
  have s0 : X7.cell? ⟨g8, 0, none⟩ = some (.int .i64 (s.k)) := cell_of HS7.out (i := 0) rfl
  have s1 : X7.cell? ⟨g8, 1, none⟩ = some (.int .i64 (s.x)) := cell_of HS7.out (i := 1) rfl
  have s2 : X7.cell? ⟨g8, 2, none⟩ = some (.int .i64 (s.y)) := cell_of HS7.out (i := 2) rfl
  have s3 : X7.cell? ⟨g8, 3, none⟩ = some (.int .i64 (s.z)) := cell_of HS7.out (i := 3) rfl
  have s4 : X7.cell? ⟨g8, 4, none⟩ = some (.int .i64 (s.f)) := cell_of HS7.out (i := 4) rfl
  have s5 : X7.cell? ⟨g8, 5, none⟩ = some (.int .i64 (s.n)) := cell_of HS7.out (i := 5) rfl
  have p0 : X7.cell? ⟨pA, 0, none⟩ = some (.slice ao L.length co) := cell_of HHA7.out (i := 0) rfl
  have hpA7 := lt_of_heap HHA7.out
  have hs7 := B7.out.size
  go_wp2_with (at_builtin; refine wpList_append_lies _ rfl _ _ 26 rfl (base + 2) 36 i0 (.agg #[.int .i64 0, .int .i64 0, .int .i64 0, .int .i64 0, .int .i64 0, .int .i64 0]) 6 48 Try.underlying26 hi0 hz0 hz1 hz2 rfl (by decide) _ _ _ rfl (ownsRow_below (HO7.out) ((Below.refl _ X7).alloc (Nat.le_refl _) _)) ⟨X7.heap.size, 0, none⟩ 1 1 [.int .i64 s.k, .int .i64 s.x, .int .i64 s.y, .int .i64 s.z, .int .i64 s.f, .int .i64 s.n] rfl rfl (World.news_of_block (cs := #[.int .i64 s.k, .int .i64 s.x, .int .i64 s.y, .int .i64 s.z, .int .i64 s.f, .int .i64 s.n]) (t := 36) (fr := (0, 0)) (heap_alloc_new X7 (.cells #[.int .i64 s.k, .int .i64 s.x, .int .i64 s.y, .int .i64 s.z, .int .i64 s.f, .int .i64 s.n] 36))) (by simp [Value.oneCell']) (by omega) (by unfold maxLen; omega) (by omega) (by simp; omega) (X7.heap.size + 1) (by simp) ?_; intro g5 c5 w5 hown5 hgrow5 hge5 hlt5; have HO5 := Lib.hid hown5; have HB5 := Lib.hid (Below.grown (B := (base + 2)) (Below.alloc (B := (base + 2)) (Below.refl _ X7) (by omega) (.cells #[.int .i64 s.k, .int .i64 s.x, .int .i64 s.y, .int .i64 s.z, .int .i64 s.f, .int .i64 s.n] 36)) hgrow5 (by simp; omega) (fun b hb => ((HO7.out).lt b hb).1)); have HG5 := Lib.hid hgrow5; clear hown5 hgrow5 hge5; have hH5 : w5.heap[pA]? = some (.cells #[.slice ao L.length co] 26 (0, 0)) := (HB5.out.block pA (by omega)).trans HHA7.out; have q5 : w5.cell? ⟨pA, 0, none⟩ = some (.slice ao L.length co) := cell_of hH5 (i := 0) rfl; have f5 := frozen_of (i := 0) hH5; have HH5 := Lib.hid hH5; clear hH5)
  have HB2 := Lib.hid ((Mut.refl (· = pA) w5).setCell (p := ⟨pA, 0, none⟩) (fun _ => rfl) (.slice (some ⟨g5, 0, none⟩) (L.length + 1) c5))
  have HH6 := Lib.hid (cells_set (i := 0) HH5.out (.slice (some ⟨g5, 0, none⟩) (L.length + 1) c5))
  have hl4 : (toldL plA m S (i + 1)).length = L.length + 1 := by rw [HM.out, List.length_append]; rfl
  have hm5 : Mut (fun b => b < w0.heap.size ∧ (b = pA ∨ base + 2 ≤ b)) w w5 := by
    refine ⟨HG5.out.os.trans B7.out.os, HG5.out.tape.trans B7.out.tape, HG5.out.output.trans B7.out.output, ?_, fun x hx1 hn => ?_⟩
    · have h1 := HG5.out.size
      have h3 : (X7.alloc (.cells #[.int .i64 s.k, .int .i64 s.x, .int .i64 s.y, .int .i64 s.z, .int .i64 s.f, .int .i64 s.n] 36)).heap.size = X7.heap.size + 1 := by simp
      omega
    · rw [HG5.out.block x (by rw [show (X7.alloc (.cells #[.int .i64 s.k, .int .i64 s.x, .int .i64 s.y, .int .i64 s.z, .int .i64 s.f, .int .i64 s.n] 36)).heap.size = X7.heap.size + 1 by simp]; omega) (fun e => hn (by have := HLT.out x e.symm; omega)), Below.heap_alloc _ _ _ (by omega), B7.out.block x hx1]
  have hs5 : StepsR w5 (some ⟨b, off, none⟩) n S := by
    rcases HSR7.out with h | ⟨b', off', he, h1, h2⟩
    · exact .inl h
    · cases he
      have hbr : b < base + 2 := by omega
      exact .inr ⟨b, off, rfl, by have := HB5.out.size; omega, fun j hj => by
        obtain ⟨p0, p1, p2, p3, p4, p5⟩ := h2 j hj
        exact ⟨(HB5.out.cell (p := ⟨b, _, none⟩) hbr).trans p0, (HB5.out.cell (p := ⟨b, _, none⟩) hbr).trans p1, (HB5.out.cell (p := ⟨b, _, none⟩) hbr).trans p2, (HB5.out.cell (p := ⟨b, _, none⟩) hbr).trans p3, (HB5.out.cell (p := ⟨b, _, none⟩) hbr).trans p4, (HB5.out.cell (p := ⟨b, _, none⟩) hbr).trans p5⟩⟩
  have hq5 := (HB5.out.block pS (by omega)).trans HHS7.out
  have hr5 := (HB5.out.block pF (by omega)).trans HHF7.out
  go_end0
  refine ⟨rfl, ⟨some ⟨g5, 0, none⟩, c5, ?_, heap_mut hq5 HB2.out (by omega), heap_mut hr5 HB2.out (by omega), ?_, hs5.mutC HB2.out (fun _ x hx e => by cases hx; have e' : b = pA := e; omega)⟩, hm5.after HB2.out (fun x hx h => by subst h; exact ⟨by omega, .inl rfl⟩)⟩
  · rw [hl4]; exact HH6.out
  · rw [hl4, HM.out, rowS_app]
    exact own_mut HO5.out HB2.out (fun x hx e => by have := (HO5.out.lt x hx).1; omega)
set_option maxRecDepth 100000 in
set_option maxHeartbeats 16000000 in
theorem retR_any (m : Ma) (j pS pF pA base i : Nat) (a : Option Addr) (n c : Nat) (S : Nat → St) (w0 w : World) (hi : i < n) (hn : n ≤ 5000) (hj : j ≤ 5000) (hm : MB j m) (hok : ∀ i, i < n → SOk (S i)) (hI : TInv 24 plR m pS pF pA base a n c S i w0) (hpA : pA < base) (hpS : pS < pA) (hpF : pF < pA) (hab : 0 < n → ∀ x, a = some x → x.block < pA) (hb2 : base + 2 ≤ w0.heap.size) (hb : Below w0.heap.size w0 w) :
    Calls Try.prog 44 #[.int .i64 i, (.agg #[.int .i64 (runF m S i).x, .int .i64 (runF m S i).y, .int .i64 (runF m S i).z, .int .i64 (runF m S i).s, .int .i64 (runF m S i).h, .int .i64 (runF m S i).t, .int .i64 (runF m S i).f, .bool (runF m S i).r]), (.agg #[.int .i64 (runF m S (i + 1)).x, .int .i64 (runF m S (i + 1)).y, .int .i64 (runF m S (i + 1)).z, .int .i64 (runF m S (i + 1)).s, .int .i64 (runF m S (i + 1)).h, .int .i64 (runF m S (i + 1)).t, .int .i64 (runF m S (i + 1)).f, .bool (runF m S (i + 1)).r]), .pointer (some ⟨pS, 0, none⟩), .pointer (some ⟨pF, 0, none⟩), .pointer (some ⟨pA, 0, none⟩)] w fun e w' => e = .returned (.tuple #[]) ∧ TInv 24 plR m pS pF pA base a n c S (i + 1) w' ∧ Mut (fun b => b < w0.heap.size ∧ (b = pA ∨ base + 2 ≤ b)) w w' := by
  obtain ⟨i0, hi0, hz0, hz1, hz2⟩ := info_parts2 info_st
  obtain ⟨ao, co, hhA, hhS, hhF, hown, hsr⟩ := hI
  have HBA := runF_mb (n := i) hm (fun i hi => hok i (by omega))
  have HBB := runF_mb (n := i + 1) hm (fun i hi => hok i (by omega))
  have hLlen := toldL_len plR m S i
  obtain ⟨L, hL⟩ : ∃ L, toldL plR m S i = L := ⟨_, rfl⟩
  have HL := Lib.hid hL
  rw [hL] at hhA hown hLlen
  obtain ⟨ma, hma⟩ : ∃ x, runF m S i = x := ⟨_, rfl⟩
  obtain ⟨mb, hmb⟩ : ∃ x, runF m S (i + 1) = x := ⟨_, rfl⟩
  have HMA := Lib.hid hma
  have HMB := Lib.hid hmb
  rw [hma] at HBA ⊢
  rw [hmb] at HBB ⊢
  have hR : Hid ((-9000000000000000000 ≤ mb.x - ma.x ∧ mb.x - ma.x ≤ 9000000000000000000) ∧ (-9000000000000000000 ≤ mb.y - ma.y ∧ mb.y - ma.y ≤ 9000000000000000000) ∧ (-9000000000000000000 ≤ mb.z - ma.z ∧ mb.z - ma.z ≤ 9000000000000000000)) := Lib.hid (by
    have h1 := HBA.x
    have h2 := HBA.y
    have h3 := HBA.z
    have h4 := HBB.x
    have h5 := HBB.y
    have h6 := HBB.z
    refine ⟨⟨?_, ?_⟩, ⟨?_, ?_⟩, ⟨?_, ?_⟩⟩ <;> omega)
  obtain ⟨pv, hpv⟩ : ∃ x, plR ma mb = x := ⟨_, rfl⟩
  have HPV := Lib.hid hpv
  obtain ⟨s, hs⟩ : ∃ s, S i = s := ⟨_, rfl⟩
  have RS := Lib.hid hs
  have hsz := hb.size
  rcases hsr with h0 | ⟨b, off, rfl, hbl, hd⟩
  · omega
  have hbA : b < pA := hab (by omega) _ rfl
  have HSR : Hid (StepsR w0 (some ⟨b, off, none⟩) n S) := Lib.hid (.inr ⟨b, off, rfl, hbl, hd⟩)
  obtain ⟨s0, s1, s2, s3, s4, s5⟩ := hd i hi
  rw [hs] at s0 s1 s2 s3 s4 s5
  have hb1 : Below w.heap.size w ((w.alloc (.cells #[.int .i64 ma.x, .int .i64 ma.y, .int .i64 ma.z, .int .i64 ma.s, .int .i64 ma.h, .int .i64 ma.t, .int .i64 ma.f, .bool ma.r] 44)).alloc (.cells #[.int .i64 mb.x, .int .i64 mb.y, .int .i64 mb.z, .int .i64 mb.s, .int .i64 mb.h, .int .i64 mb.t, .int .i64 mb.f, .bool mb.r] 44)) := (by repeat (first | exact Below.refl _ _ | assumption | refine Below.drew ?_ | refine bdrewN ?_ _ | refine Below.setCell ?_ (by first | omega | (simp <;> omega)) _ | refine Below.alloc ?_ (by first | omega | (simp <;> omega)) _))
  have hbw : Below w0.heap.size w0 ((w.alloc (.cells #[.int .i64 ma.x, .int .i64 ma.y, .int .i64 ma.z, .int .i64 ma.s, .int .i64 ma.h, .int .i64 ma.t, .int .i64 ma.f, .bool ma.r] 44)).alloc (.cells #[.int .i64 mb.x, .int .i64 mb.y, .int .i64 mb.z, .int .i64 mb.s, .int .i64 mb.h, .int .i64 mb.t, .int .i64 mb.f, .bool mb.r] 44)) := hb.trans (hb1.mono hsz)
  have HN0 : Hid (((w.alloc (.cells #[.int .i64 ma.x, .int .i64 ma.y, .int .i64 ma.z, .int .i64 ma.s, .int .i64 ma.h, .int .i64 ma.t, .int .i64 ma.f, .bool ma.r] 44)).alloc (.cells #[.int .i64 mb.x, .int .i64 mb.y, .int .i64 mb.z, .int .i64 mb.s, .int .i64 mb.h, .int .i64 mb.t, .int .i64 mb.f, .bool mb.r] 44)).heap[w.heap.size]? = some (.cells #[.int .i64 ma.x, .int .i64 ma.y, .int .i64 ma.z, .int .i64 ma.s, .int .i64 ma.h, .int .i64 ma.t, .int .i64 ma.f, .bool ma.r] 44 (0, 0))) := Lib.hid ((Below.heap_alloc _ _ _ (by simp)).trans (heap_new rfl))
  have HN1 : Hid (((w.alloc (.cells #[.int .i64 ma.x, .int .i64 ma.y, .int .i64 ma.z, .int .i64 ma.s, .int .i64 ma.h, .int .i64 ma.t, .int .i64 ma.f, .bool ma.r] 44)).alloc (.cells #[.int .i64 mb.x, .int .i64 mb.y, .int .i64 mb.z, .int .i64 mb.s, .int .i64 mb.h, .int .i64 mb.t, .int .i64 mb.f, .bool mb.r] 44)).heap[w.heap.size + 1]? = some (.cells #[.int .i64 mb.x, .int .i64 mb.y, .int .i64 mb.z, .int .i64 mb.s, .int .i64 mb.h, .int .i64 mb.t, .int .i64 mb.f, .bool mb.r] 44 (0, 0))) := Lib.hid (heap_new (by simp))
  have HHA := Lib.hid (heap_keep hbw hhA)
  have HHS := Lib.hid (heap_keep hbw hhS)
  have HHF := Lib.hid (heap_keep hbw hhF)
  have HOW := Lib.hid (ownsRow_below hown hbw)
  have HLT := Lib.hid hown.lt
  have HB1 := Lib.hid hb1
  replace HSR := Lib.hid (HSR.out.kept hbw)
  have H6 : Hid (((w.alloc (.cells #[.int .i64 ma.x, .int .i64 ma.y, .int .i64 ma.z, .int .i64 ma.s, .int .i64 ma.h, .int .i64 ma.t, .int .i64 ma.f, .bool ma.r] 44)).alloc (.cells #[.int .i64 mb.x, .int .i64 mb.y, .int .i64 mb.z, .int .i64 mb.s, .int .i64 mb.h, .int .i64 mb.t, .int .i64 mb.f, .bool mb.r] 44)).cell? ⟨b, off + i * 6, none⟩ = some (.int .i64 s.k) ∧ ((w.alloc (.cells #[.int .i64 ma.x, .int .i64 ma.y, .int .i64 ma.z, .int .i64 ma.s, .int .i64 ma.h, .int .i64 ma.t, .int .i64 ma.f, .bool ma.r] 44)).alloc (.cells #[.int .i64 mb.x, .int .i64 mb.y, .int .i64 mb.z, .int .i64 mb.s, .int .i64 mb.h, .int .i64 mb.t, .int .i64 mb.f, .bool mb.r] 44)).cell? ⟨b, off + i * 6 + 1, none⟩ = some (.int .i64 s.x) ∧ ((w.alloc (.cells #[.int .i64 ma.x, .int .i64 ma.y, .int .i64 ma.z, .int .i64 ma.s, .int .i64 ma.h, .int .i64 ma.t, .int .i64 ma.f, .bool ma.r] 44)).alloc (.cells #[.int .i64 mb.x, .int .i64 mb.y, .int .i64 mb.z, .int .i64 mb.s, .int .i64 mb.h, .int .i64 mb.t, .int .i64 mb.f, .bool mb.r] 44)).cell? ⟨b, off + i * 6 + 2, none⟩ = some (.int .i64 s.y) ∧ ((w.alloc (.cells #[.int .i64 ma.x, .int .i64 ma.y, .int .i64 ma.z, .int .i64 ma.s, .int .i64 ma.h, .int .i64 ma.t, .int .i64 ma.f, .bool ma.r] 44)).alloc (.cells #[.int .i64 mb.x, .int .i64 mb.y, .int .i64 mb.z, .int .i64 mb.s, .int .i64 mb.h, .int .i64 mb.t, .int .i64 mb.f, .bool mb.r] 44)).cell? ⟨b, off + i * 6 + 3, none⟩ = some (.int .i64 s.z) ∧ ((w.alloc (.cells #[.int .i64 ma.x, .int .i64 ma.y, .int .i64 ma.z, .int .i64 ma.s, .int .i64 ma.h, .int .i64 ma.t, .int .i64 ma.f, .bool ma.r] 44)).alloc (.cells #[.int .i64 mb.x, .int .i64 mb.y, .int .i64 mb.z, .int .i64 mb.s, .int .i64 mb.h, .int .i64 mb.t, .int .i64 mb.f, .bool mb.r] 44)).cell? ⟨b, off + i * 6 + 4, none⟩ = some (.int .i64 s.f) ∧ ((w.alloc (.cells #[.int .i64 ma.x, .int .i64 ma.y, .int .i64 ma.z, .int .i64 ma.s, .int .i64 ma.h, .int .i64 ma.t, .int .i64 ma.f, .bool ma.r] 44)).alloc (.cells #[.int .i64 mb.x, .int .i64 mb.y, .int .i64 mb.z, .int .i64 mb.s, .int .i64 mb.h, .int .i64 mb.t, .int .i64 mb.f, .bool mb.r] 44)).cell? ⟨b, off + i * 6 + 5, none⟩ = some (.int .i64 s.n)) := Lib.hid ⟨cellk hbw hbl s0, cellk hbw hbl s1, cellk hbw hbl s2, cellk hbw hbl s3, cellk hbw hbl s4, cellk hbw hbl s5⟩
  have hpl := lt_of_heap hhA
  have hkb : b < ((w.alloc (.cells #[.int .i64 ma.x, .int .i64 ma.y, .int .i64 ma.z, .int .i64 ma.s, .int .i64 ma.h, .int .i64 ma.t, .int .i64 ma.f, .bool ma.r] 44)).alloc (.cells #[.int .i64 mb.x, .int .i64 mb.y, .int .i64 mb.z, .int .i64 mb.s, .int .i64 mb.h, .int .i64 mb.t, .int .i64 mb.f, .bool mb.r] 44)).heap.size := Nat.lt_of_lt_of_le hbl hbw.size
  have HSOK := Lib.hid (hok i hi)
  have hs1 : ((w.alloc (.cells #[.int .i64 ma.x, .int .i64 ma.y, .int .i64 ma.z, .int .i64 ma.s, .int .i64 ma.h, .int .i64 ma.t, .int .i64 ma.f, .bool ma.r] 44)).alloc (.cells #[.int .i64 mb.x, .int .i64 mb.y, .int .i64 mb.z, .int .i64 mb.s, .int .i64 mb.h, .int .i64 mb.t, .int .i64 mb.f, .bool mb.r] 44)).heap.size = w.heap.size + 1 + 1 := by simp
  clear hma hmb HBA HBB hpv hs hd s0 s1 s2 s3 s4 s5 hb1 hhA hhS hhF hown hL hok hm
  go_enter Try.func44, Try.ntmps44
  go_wp2_with (fail)
  generalize ((w.alloc (.cells #[.int .i64 ma.x, .int .i64 ma.y, .int .i64 ma.z, .int .i64 ma.s, .int .i64 ma.h, .int .i64 ma.t, .int .i64 ma.f, .bool ma.r] 44)).alloc (.cells #[.int .i64 mb.x, .int .i64 mb.y, .int .i64 mb.z, .int .i64 mb.s, .int .i64 mb.h, .int .i64 mb.t, .int .i64 mb.f, .bool mb.r] 44)) = W0 at *
  obtain ⟨r0, hr0⟩ : ∃ r, w.heap.size = r := ⟨_, rfl⟩
  have HR0 := Lib.hid hr0
  rw [hr0] at HN0 HN1 hs1
  try rw [hr0]
  clear hr0
  have hn0 : (0 : Int) ≤ (i : Int) := by omega
  have hn1 : (i : Int) < (n : Int) := by omega
  have HSK : Hid (∀ W, Below W0.heap.size W0 W → (fun w' => w'.cell? ⟨pS, 0, none⟩ = some (.slice (some ⟨b, off, none⟩) n c) ∧ (w'.cell? ⟨b, off + i * 6, none⟩ = some (.int .i64 s.k) ∧ w'.cell? ⟨b, off + i * 6 + 1, none⟩ = some (.int .i64 s.x) ∧ w'.cell? ⟨b, off + i * 6 + 2, none⟩ = some (.int .i64 s.y) ∧ w'.cell? ⟨b, off + i * 6 + 3, none⟩ = some (.int .i64 s.z) ∧ w'.cell? ⟨b, off + i * 6 + 4, none⟩ = some (.int .i64 s.f) ∧ w'.cell? ⟨b, off + i * 6 + 5, none⟩ = some (.int .i64 s.n)) ∧ w'.cell? ⟨pF, 0, none⟩ = some (.func (.func 24) #[] #[]) ∧ (w'.cell? ⟨r0, 0, none⟩ = some (.int .i64 ma.x) ∧ w'.cell? ⟨r0, 1, none⟩ = some (.int .i64 ma.y) ∧ w'.cell? ⟨r0, 2, none⟩ = some (.int .i64 ma.z) ∧ w'.cell? ⟨r0, 3, none⟩ = some (.int .i64 ma.s) ∧ w'.cell? ⟨r0, 4, none⟩ = some (.int .i64 ma.h) ∧ w'.cell? ⟨r0, 5, none⟩ = some (.int .i64 ma.t) ∧ w'.cell? ⟨r0, 6, none⟩ = some (.int .i64 ma.f) ∧ w'.cell? ⟨r0, 7, none⟩ = some (.bool ma.r)) ∧ (w'.cell? ⟨r0 + 1, 0, none⟩ = some (.int .i64 mb.x) ∧ w'.cell? ⟨r0 + 1, 1, none⟩ = some (.int .i64 mb.y) ∧ w'.cell? ⟨r0 + 1, 2, none⟩ = some (.int .i64 mb.z) ∧ w'.cell? ⟨r0 + 1, 3, none⟩ = some (.int .i64 mb.s) ∧ w'.cell? ⟨r0 + 1, 4, none⟩ = some (.int .i64 mb.h) ∧ w'.cell? ⟨r0 + 1, 5, none⟩ = some (.int .i64 mb.t) ∧ w'.cell? ⟨r0 + 1, 6, none⟩ = some (.int .i64 mb.f) ∧ w'.cell? ⟨r0 + 1, 7, none⟩ = some (.bool mb.r))) W) := Lib.hid (fun W hB => by
    have k1 := lt_of_heap HHS.out
    have k2 := lt_of_heap HHF.out
    obtain ⟨q0, q1, q2, q3, q4, q5⟩ := H6.out
    have kb : b < W0.heap.size := hkb
    exact ⟨cell_of (heap_keep hB HHS.out) (i := 0) rfl, ⟨cellk hB kb q0, cellk hB kb q1, cellk hB kb q2, cellk hB kb q3, cellk hB kb q4, cellk hB kb q5⟩, cell_of (heap_keep hB HHF.out) (i := 0) rfl, ⟨cell_of (heap_keep hB HN0.out) (i := 0) rfl, cell_of (heap_keep hB HN0.out) (i := 1) rfl, cell_of (heap_keep hB HN0.out) (i := 2) rfl, cell_of (heap_keep hB HN0.out) (i := 3) rfl, cell_of (heap_keep hB HN0.out) (i := 4) rfl, cell_of (heap_keep hB HN0.out) (i := 5) rfl, cell_of (heap_keep hB HN0.out) (i := 6) rfl, cell_of (heap_keep hB HN0.out) (i := 7) rfl⟩, ⟨cell_of (heap_keep hB HN1.out) (i := 0) rfl, cell_of (heap_keep hB HN1.out) (i := 1) rfl, cell_of (heap_keep hB HN1.out) (i := 2) rfl, cell_of (heap_keep hB HN1.out) (i := 3) rfl, cell_of (heap_keep hB HN1.out) (i := 4) rfl, cell_of (heap_keep hB HN1.out) (i := 5) rfl, cell_of (heap_keep hB HN1.out) (i := 6) rfl, cell_of (heap_keep hB HN1.out) (i := 7) rfl⟩⟩)
  refine wp_region_held_drew (S := (fun w' => w'.cell? ⟨pS, 0, none⟩ = some (.slice (some ⟨b, off, none⟩) n c) ∧ (w'.cell? ⟨b, off + i * 6, none⟩ = some (.int .i64 s.k) ∧ w'.cell? ⟨b, off + i * 6 + 1, none⟩ = some (.int .i64 s.x) ∧ w'.cell? ⟨b, off + i * 6 + 2, none⟩ = some (.int .i64 s.y) ∧ w'.cell? ⟨b, off + i * 6 + 3, none⟩ = some (.int .i64 s.z) ∧ w'.cell? ⟨b, off + i * 6 + 4, none⟩ = some (.int .i64 s.f) ∧ w'.cell? ⟨b, off + i * 6 + 5, none⟩ = some (.int .i64 s.n)) ∧ w'.cell? ⟨pF, 0, none⟩ = some (.func (.func 24) #[] #[]) ∧ (w'.cell? ⟨r0, 0, none⟩ = some (.int .i64 ma.x) ∧ w'.cell? ⟨r0, 1, none⟩ = some (.int .i64 ma.y) ∧ w'.cell? ⟨r0, 2, none⟩ = some (.int .i64 ma.z) ∧ w'.cell? ⟨r0, 3, none⟩ = some (.int .i64 ma.s) ∧ w'.cell? ⟨r0, 4, none⟩ = some (.int .i64 ma.h) ∧ w'.cell? ⟨r0, 5, none⟩ = some (.int .i64 ma.t) ∧ w'.cell? ⟨r0, 6, none⟩ = some (.int .i64 ma.f) ∧ w'.cell? ⟨r0, 7, none⟩ = some (.bool ma.r)) ∧ (w'.cell? ⟨r0 + 1, 0, none⟩ = some (.int .i64 mb.x) ∧ w'.cell? ⟨r0 + 1, 1, none⟩ = some (.int .i64 mb.y) ∧ w'.cell? ⟨r0 + 1, 2, none⟩ = some (.int .i64 mb.z) ∧ w'.cell? ⟨r0 + 1, 3, none⟩ = some (.int .i64 mb.s) ∧ w'.cell? ⟨r0 + 1, 4, none⟩ = some (.int .i64 mb.h) ∧ w'.cell? ⟨r0 + 1, 5, none⟩ = some (.int .i64 mb.t) ∧ w'.cell? ⟨r0 + 1, 6, none⟩ = some (.int .i64 mb.f) ∧ w'.cell? ⟨r0 + 1, 7, none⟩ = some (.bool mb.r)))) (by kernel_rfl) (HSK.out _ (bdrewN (Below.refl _ _) 1)) (fun hHeld => ?_)
  refine tkH (by assumption) 0 (oi := ?_) (v := ?_) ?_ ?_ ?_ ?_ ?_ ?_ ?_ ?_; rotate_left 2; (simp only [gA, gB, gC]; exact rfl); kernel_rfl; kernel_rfl; kernel_rfl; exact fun _ _ _ h => h; rfl; (intro w' hSw; (try dsimp only at hSw); go_simp; with_reducible rfl); simp only [Act.put, pB, pC, pD]
  refine tkH (by assumption) 1 (oi := ?_) (v := ?_) ?_ ?_ ?_ ?_ ?_ ?_ ?_ ?_; rotate_left 2; (simp only [gA, gB, gC]; exact rfl); kernel_rfl; kernel_rfl; kernel_rfl; exact fun _ _ _ h => h; rfl; (intro w' hSw; (try dsimp only at hSw); go_simp; with_reducible rfl); simp only [Act.put, pB, pC, pD]
  refine tkH (by assumption) 2 (oi := ?_) (v := ?_) ?_ ?_ ?_ ?_ ?_ ?_ ?_ ?_; rotate_left 2; (simp only [gA, gB, gC]; exact rfl); kernel_rfl; kernel_rfl; kernel_rfl; exact fun _ _ _ h => h; rfl; (intro w' hSw; (try dsimp only at hSw); go_simp; with_reducible rfl); simp only [Act.put, pB, pC, pD]
  refine tkH (by assumption) 3 (oi := ?_) (v := ?_) ?_ ?_ ?_ ?_ ?_ ?_ ?_ ?_; rotate_left 2; (simp only [gA, gB, gC]; exact rfl); kernel_rfl; kernel_rfl; kernel_rfl; exact fun _ _ _ h => h; rfl; (intro w' hSw; (try dsimp only at hSw); go_simp; with_reducible rfl); simp only [Act.put, pB, pC, pD]
  refine tkH (by assumption) 4 (oi := ?_) (v := ?_) ?_ ?_ ?_ ?_ ?_ ?_ ?_ ?_; rotate_left 2; (simp only [gA, gB, gC]; exact rfl); kernel_rfl; kernel_rfl; kernel_rfl; exact fun _ _ _ h => h; rfl; (intro w' hSw; (try dsimp only at hSw); go_simp; with_reducible rfl); simp only [Act.put, pB, pC, pD]
  refine tkH (by assumption) 5 (oi := ?_) (v := ?_) ?_ ?_ ?_ ?_ ?_ ?_ ?_ ?_; rotate_left 2; (simp only [gA, gB, gC]; exact rfl); kernel_rfl; kernel_rfl; kernel_rfl; exact fun _ _ _ h => h; rfl; (intro w' hSw; (try dsimp only at hSw); go_simp; with_reducible rfl); simp only [Act.put, pB, pC, pD]
  refine tkH (by assumption) 6 (oi := ?_) (v := ?_) ?_ ?_ ?_ ?_ ?_ ?_ ?_ ?_; rotate_left 2; (simp only [gA, gB, gC]; exact rfl); kernel_rfl; kernel_rfl; kernel_rfl; exact fun _ _ _ h => h; rfl; (intro w' hSw; (try dsimp only at hSw); go_simp; with_reducible rfl); simp only [Act.put, pB, pC, pD]
  refine absH (fun G A hG hA => ?_)
  suffices h_7_8_9 : ∀ (g8 : Nat) (g9 : Nat) (W : World), Hid (Below W0.heap.size W0 W) → Hid (W.heap[g8]? = some (.cells #[.int .i64 0, .int .i64 0, .int .i64 0, .int .i64 0, .int .i64 0, .int .i64 0] 36 (0, 0))) → Hid (W.heap[g9]? = some (.cells #[.int .i64 0, .int .i64 0, .int .i64 0] 47 (0, 0))) → W0.heap.size ≤ g8 ∧ g8 < W.heap.size → W0.heap.size ≤ g9 ∧ g9 < W.heap.size → g8 ≠ g9 → G 2 #[true, true, true, true, true, true, true, true, true, true, false, false] (((A.put (some 18) (.agg #[.int .i64 pv.x, .int .i64 pv.y, .int .i64 pv.z])).put (some 9) (.pointer (some ⟨g8, 0, none⟩))).put (some 10) (.pointer (some ⟨g9, 0, none⟩))) W by
    have h_7_8 : ∀ (g8 : Nat) (W : World), Hid (Below W0.heap.size W0 W) → Hid (W.heap[g8]? = some (.cells #[.int .i64 0, .int .i64 0, .int .i64 0, .int .i64 0, .int .i64 0, .int .i64 0] 36 (0, 0))) → W0.heap.size ≤ g8 ∧ g8 < W.heap.size → G 3 #[true, true, true, true, true, true, true, true, true, false, false, false] ((A.put (some 18) (.agg #[.int .i64 pv.x, .int .i64 pv.y, .int .i64 pv.z])).put (some 9) (.pointer (some ⟨g8, 0, none⟩))) W := by
      intro g8 W HB0 HG8 hl8
      subst hA
      rw [hG]
      simp only [Act.put, pB, pC, pD]
      have hWW := HB0.out.size
      refine wpAnyH_ready (rs := [9]) (by kernel_rfl) (by simp) ?_
      refine coH 9 (oi := ?_) ?_ ?_ (fun K hK => ?_) ?_; rotate_left; (simp only [gA, gB, gC]; exact rfl); rfl
      · go_wp2_with (fail)
        have hb : Below W.heap.size W (W.alloc (.cells #[.int .i64 0, .int .i64 0, .int .i64 0] 47)) := (Below.refl _ _).alloc (Nat.le_refl _) _
        have hgs : (W.alloc (.cells #[.int .i64 0, .int .i64 0, .int .i64 0] 47)).heap.size = W.heap.size + 1 := by simp
        have K_HG9 := Lib.hid (heap_alloc_new W (.cells #[.int .i64 0, .int .i64 0, .int .i64 0] 47))
        refine hK.out _ _ (HSK.out _ (HB0.out.trans (hb.mono HB0.out.size))) (fun hHeldN => ?_)
        clear hK K
        try simp only [Act.put, pB, pC, pD]
        refine listedEq (l' := #[true, true, true, true, true, true, true, true, true, true, false, false]) (by kernel_rfl) ?_
        have h := h_7_8_9 g8 W.heap.size (W.alloc (.cells #[.int .i64 0, .int .i64 0, .int .i64 0] 47)) (Lib.hid (HB0.out.trans (hb.mono HB0.out.size))) (Lib.hid (heap_keep hb HG8.out)) K_HG9 ⟨hl8.1, by have := hl8.2; omega⟩ ⟨hWW, by omega⟩ (by have := hl8.2; omega)
        rw [hG] at h
        simp only [Act.put, pB, pC, pD] at h
        exact h
      exact AllReadyH.nil
    have h_7_9 : ∀ (g9 : Nat) (W : World), Hid (Below W0.heap.size W0 W) → Hid (W.heap[g9]? = some (.cells #[.int .i64 0, .int .i64 0, .int .i64 0] 47 (0, 0))) → W0.heap.size ≤ g9 ∧ g9 < W.heap.size → G 3 #[true, true, true, true, true, true, true, true, false, true, false, false] ((A.put (some 18) (.agg #[.int .i64 pv.x, .int .i64 pv.y, .int .i64 pv.z])).put (some 10) (.pointer (some ⟨g9, 0, none⟩))) W := by
      intro g9 W HB0 HG9 hl9
      subst hA
      rw [hG]
      simp only [Act.put, pB, pC, pD]
      have hWW := HB0.out.size
      refine wpAnyH_ready (rs := [8]) (by kernel_rfl) (by simp) ?_
      refine coH 8 (oi := ?_) ?_ ?_ (fun K hK => ?_) ?_; rotate_left; (simp only [gA, gB, gC]; exact rfl); rfl
      · go_wp2_with (fail)
        have hb : Below W.heap.size W (W.alloc (.cells #[.int .i64 0, .int .i64 0, .int .i64 0, .int .i64 0, .int .i64 0, .int .i64 0] 36)) := (Below.refl _ _).alloc (Nat.le_refl _) _
        have hgs : (W.alloc (.cells #[.int .i64 0, .int .i64 0, .int .i64 0, .int .i64 0, .int .i64 0, .int .i64 0] 36)).heap.size = W.heap.size + 1 := by simp
        have K_HG8 := Lib.hid (heap_alloc_new W (.cells #[.int .i64 0, .int .i64 0, .int .i64 0, .int .i64 0, .int .i64 0, .int .i64 0] 36))
        refine hK.out _ _ (HSK.out _ (HB0.out.trans (hb.mono HB0.out.size))) (fun hHeldN => ?_)
        clear hK K
        try simp only [Act.put, pB, pC, pD]
        refine listedEq (l' := #[true, true, true, true, true, true, true, true, true, true, false, false]) (by kernel_rfl) ?_
        have h := h_7_8_9 W.heap.size g9 (W.alloc (.cells #[.int .i64 0, .int .i64 0, .int .i64 0, .int .i64 0, .int .i64 0, .int .i64 0] 36)) (Lib.hid (HB0.out.trans (hb.mono HB0.out.size))) K_HG8 (Lib.hid (heap_keep hb HG9.out)) ⟨hWW, by omega⟩ ⟨hl9.1, by have := hl9.2; omega⟩ (by have := hl9.2; omega)
        rw [hG] at h
        simp only [Act.put, pB, pC, pD] at h
        exact h
      exact AllReadyH.nil
    have h_8_9 : ∀ (g8 : Nat) (g9 : Nat) (W : World), Hid (Below W0.heap.size W0 W) → Hid (W.heap[g8]? = some (.cells #[.int .i64 0, .int .i64 0, .int .i64 0, .int .i64 0, .int .i64 0, .int .i64 0] 36 (0, 0))) → Hid (W.heap[g9]? = some (.cells #[.int .i64 0, .int .i64 0, .int .i64 0] 47 (0, 0))) → W0.heap.size ≤ g8 ∧ g8 < W.heap.size → W0.heap.size ≤ g9 ∧ g9 < W.heap.size → g8 ≠ g9 → G 3 #[true, true, true, true, true, true, true, false, true, true, false, false] ((A.put (some 9) (.pointer (some ⟨g8, 0, none⟩))).put (some 10) (.pointer (some ⟨g9, 0, none⟩))) W := by
      intro g8 g9 W HB0 HG8 HG9 hl8 hl9 ne8_9
      subst hA
      rw [hG]
      simp only [Act.put, pB, pC, pD]
      have hWW := HB0.out.size
      refine wpAnyH_ready (rs := [7]) (by kernel_rfl) (by simp) ?_
      refine coH 7 (oi := ?_) ?_ ?_ (fun K hK => ?_) ?_; rotate_left; (simp only [gA, gB, gC]; exact rfl); rfl
      · go_wp2_with (fail)
        refine (relPl_any ma mb W hR.out.1 hR.out.2.1 hR.out.2.2).mono ?_
        rintro e Wn ⟨rfl, hb⟩
        have hgs := hb.size
        rw [HPV.out]
        refine hK.out _ _ (HSK.out _ (HB0.out.trans (hb.mono HB0.out.size))) (fun hHeldN => ?_)
        clear hK K
        try simp only [Act.put, pB, pC, pD]
        refine listedEq (l' := #[true, true, true, true, true, true, true, true, true, true, false, false]) (by kernel_rfl) ?_
        have h := h_7_8_9 g8 g9 Wn (Lib.hid (HB0.out.trans (hb.mono HB0.out.size))) (Lib.hid (heap_keep hb HG8.out)) (Lib.hid (heap_keep hb HG9.out)) ⟨hl8.1, by have := hl8.2; omega⟩ ⟨hl9.1, by have := hl9.2; omega⟩ ne8_9
        rw [hG] at h
        simp only [Act.put, pB, pC, pD] at h
        exact h
      exact AllReadyH.nil
    have h_7 : ∀  (W : World), Hid (Below W0.heap.size W0 W) → G 4 #[true, true, true, true, true, true, true, true, false, false, false, false] (A.put (some 18) (.agg #[.int .i64 pv.x, .int .i64 pv.y, .int .i64 pv.z])) W := by
      intro W HB0
      subst hA
      rw [hG]
      simp only [Act.put, pB, pC, pD]
      have hWW := HB0.out.size
      refine wpAnyH_ready (rs := [8, 9]) (by kernel_rfl) (by simp) ?_
      refine coH 8 (oi := ?_) ?_ ?_ (fun K hK => ?_) ?_; rotate_left; (simp only [gA, gB, gC]; exact rfl); rfl
      · go_wp2_with (fail)
        have hb : Below W.heap.size W (W.alloc (.cells #[.int .i64 0, .int .i64 0, .int .i64 0, .int .i64 0, .int .i64 0, .int .i64 0] 36)) := (Below.refl _ _).alloc (Nat.le_refl _) _
        have hgs : (W.alloc (.cells #[.int .i64 0, .int .i64 0, .int .i64 0, .int .i64 0, .int .i64 0, .int .i64 0] 36)).heap.size = W.heap.size + 1 := by simp
        have K_HG8 := Lib.hid (heap_alloc_new W (.cells #[.int .i64 0, .int .i64 0, .int .i64 0, .int .i64 0, .int .i64 0, .int .i64 0] 36))
        refine hK.out _ _ (HSK.out _ (HB0.out.trans (hb.mono HB0.out.size))) (fun hHeldN => ?_)
        clear hK K
        try simp only [Act.put, pB, pC, pD]
        refine listedEq (l' := #[true, true, true, true, true, true, true, true, true, false, false, false]) (by kernel_rfl) ?_
        have h := h_7_8 W.heap.size (W.alloc (.cells #[.int .i64 0, .int .i64 0, .int .i64 0, .int .i64 0, .int .i64 0, .int .i64 0] 36)) (Lib.hid (HB0.out.trans (hb.mono HB0.out.size))) K_HG8 ⟨hWW, by omega⟩
        rw [hG] at h
        simp only [Act.put, pB, pC, pD] at h
        exact h
      refine coH 9 (oi := ?_) ?_ ?_ (fun K hK => ?_) ?_; rotate_left; (simp only [gA, gB, gC]; exact rfl); rfl
      · go_wp2_with (fail)
        have hb : Below W.heap.size W (W.alloc (.cells #[.int .i64 0, .int .i64 0, .int .i64 0] 47)) := (Below.refl _ _).alloc (Nat.le_refl _) _
        have hgs : (W.alloc (.cells #[.int .i64 0, .int .i64 0, .int .i64 0] 47)).heap.size = W.heap.size + 1 := by simp
        have K_HG9 := Lib.hid (heap_alloc_new W (.cells #[.int .i64 0, .int .i64 0, .int .i64 0] 47))
        refine hK.out _ _ (HSK.out _ (HB0.out.trans (hb.mono HB0.out.size))) (fun hHeldN => ?_)
        clear hK K
        try simp only [Act.put, pB, pC, pD]
        refine listedEq (l' := #[true, true, true, true, true, true, true, true, false, true, false, false]) (by kernel_rfl) ?_
        have h := h_7_9 W.heap.size (W.alloc (.cells #[.int .i64 0, .int .i64 0, .int .i64 0] 47)) (Lib.hid (HB0.out.trans (hb.mono HB0.out.size))) K_HG9 ⟨hWW, by omega⟩
        rw [hG] at h
        simp only [Act.put, pB, pC, pD] at h
        exact h
      exact AllReadyH.nil
    have h_8 : ∀ (g8 : Nat) (W : World), Hid (Below W0.heap.size W0 W) → Hid (W.heap[g8]? = some (.cells #[.int .i64 0, .int .i64 0, .int .i64 0, .int .i64 0, .int .i64 0, .int .i64 0] 36 (0, 0))) → W0.heap.size ≤ g8 ∧ g8 < W.heap.size → G 4 #[true, true, true, true, true, true, true, false, true, false, false, false] (A.put (some 9) (.pointer (some ⟨g8, 0, none⟩))) W := by
      intro g8 W HB0 HG8 hl8
      subst hA
      rw [hG]
      simp only [Act.put, pB, pC, pD]
      have hWW := HB0.out.size
      refine wpAnyH_ready (rs := [7, 9]) (by kernel_rfl) (by simp) ?_
      refine coH 7 (oi := ?_) ?_ ?_ (fun K hK => ?_) ?_; rotate_left; (simp only [gA, gB, gC]; exact rfl); rfl
      · go_wp2_with (fail)
        refine (relPl_any ma mb W hR.out.1 hR.out.2.1 hR.out.2.2).mono ?_
        rintro e Wn ⟨rfl, hb⟩
        have hgs := hb.size
        rw [HPV.out]
        refine hK.out _ _ (HSK.out _ (HB0.out.trans (hb.mono HB0.out.size))) (fun hHeldN => ?_)
        clear hK K
        try simp only [Act.put, pB, pC, pD]
        refine listedEq (l' := #[true, true, true, true, true, true, true, true, true, false, false, false]) (by kernel_rfl) ?_
        have h := h_7_8 g8 Wn (Lib.hid (HB0.out.trans (hb.mono HB0.out.size))) (Lib.hid (heap_keep hb HG8.out)) ⟨hl8.1, by have := hl8.2; omega⟩
        rw [hG] at h
        simp only [Act.put, pB, pC, pD] at h
        exact h
      refine coH 9 (oi := ?_) ?_ ?_ (fun K hK => ?_) ?_; rotate_left; (simp only [gA, gB, gC]; exact rfl); rfl
      · go_wp2_with (fail)
        have hb : Below W.heap.size W (W.alloc (.cells #[.int .i64 0, .int .i64 0, .int .i64 0] 47)) := (Below.refl _ _).alloc (Nat.le_refl _) _
        have hgs : (W.alloc (.cells #[.int .i64 0, .int .i64 0, .int .i64 0] 47)).heap.size = W.heap.size + 1 := by simp
        have K_HG9 := Lib.hid (heap_alloc_new W (.cells #[.int .i64 0, .int .i64 0, .int .i64 0] 47))
        refine hK.out _ _ (HSK.out _ (HB0.out.trans (hb.mono HB0.out.size))) (fun hHeldN => ?_)
        clear hK K
        try simp only [Act.put, pB, pC, pD]
        refine listedEq (l' := #[true, true, true, true, true, true, true, false, true, true, false, false]) (by kernel_rfl) ?_
        have h := h_8_9 g8 W.heap.size (W.alloc (.cells #[.int .i64 0, .int .i64 0, .int .i64 0] 47)) (Lib.hid (HB0.out.trans (hb.mono HB0.out.size))) (Lib.hid (heap_keep hb HG8.out)) K_HG9 ⟨hl8.1, by have := hl8.2; omega⟩ ⟨hWW, by omega⟩ (by have := hl8.2; omega)
        rw [hG] at h
        simp only [Act.put, pB, pC, pD] at h
        exact h
      exact AllReadyH.nil
    have h_9 : ∀ (g9 : Nat) (W : World), Hid (Below W0.heap.size W0 W) → Hid (W.heap[g9]? = some (.cells #[.int .i64 0, .int .i64 0, .int .i64 0] 47 (0, 0))) → W0.heap.size ≤ g9 ∧ g9 < W.heap.size → G 4 #[true, true, true, true, true, true, true, false, false, true, false, false] (A.put (some 10) (.pointer (some ⟨g9, 0, none⟩))) W := by
      intro g9 W HB0 HG9 hl9
      subst hA
      rw [hG]
      simp only [Act.put, pB, pC, pD]
      have hWW := HB0.out.size
      refine wpAnyH_ready (rs := [7, 8]) (by kernel_rfl) (by simp) ?_
      refine coH 7 (oi := ?_) ?_ ?_ (fun K hK => ?_) ?_; rotate_left; (simp only [gA, gB, gC]; exact rfl); rfl
      · go_wp2_with (fail)
        refine (relPl_any ma mb W hR.out.1 hR.out.2.1 hR.out.2.2).mono ?_
        rintro e Wn ⟨rfl, hb⟩
        have hgs := hb.size
        rw [HPV.out]
        refine hK.out _ _ (HSK.out _ (HB0.out.trans (hb.mono HB0.out.size))) (fun hHeldN => ?_)
        clear hK K
        try simp only [Act.put, pB, pC, pD]
        refine listedEq (l' := #[true, true, true, true, true, true, true, true, false, true, false, false]) (by kernel_rfl) ?_
        have h := h_7_9 g9 Wn (Lib.hid (HB0.out.trans (hb.mono HB0.out.size))) (Lib.hid (heap_keep hb HG9.out)) ⟨hl9.1, by have := hl9.2; omega⟩
        rw [hG] at h
        simp only [Act.put, pB, pC, pD] at h
        exact h
      refine coH 8 (oi := ?_) ?_ ?_ (fun K hK => ?_) ?_; rotate_left; (simp only [gA, gB, gC]; exact rfl); rfl
      · go_wp2_with (fail)
        have hb : Below W.heap.size W (W.alloc (.cells #[.int .i64 0, .int .i64 0, .int .i64 0, .int .i64 0, .int .i64 0, .int .i64 0] 36)) := (Below.refl _ _).alloc (Nat.le_refl _) _
        have hgs : (W.alloc (.cells #[.int .i64 0, .int .i64 0, .int .i64 0, .int .i64 0, .int .i64 0, .int .i64 0] 36)).heap.size = W.heap.size + 1 := by simp
        have K_HG8 := Lib.hid (heap_alloc_new W (.cells #[.int .i64 0, .int .i64 0, .int .i64 0, .int .i64 0, .int .i64 0, .int .i64 0] 36))
        refine hK.out _ _ (HSK.out _ (HB0.out.trans (hb.mono HB0.out.size))) (fun hHeldN => ?_)
        clear hK K
        try simp only [Act.put, pB, pC, pD]
        refine listedEq (l' := #[true, true, true, true, true, true, true, false, true, true, false, false]) (by kernel_rfl) ?_
        have h := h_8_9 W.heap.size g9 (W.alloc (.cells #[.int .i64 0, .int .i64 0, .int .i64 0, .int .i64 0, .int .i64 0, .int .i64 0] 36)) (Lib.hid (HB0.out.trans (hb.mono HB0.out.size))) K_HG8 (Lib.hid (heap_keep hb HG9.out)) ⟨hWW, by omega⟩ ⟨hl9.1, by have := hl9.2; omega⟩ (by have := hl9.2; omega)
        rw [hG] at h
        simp only [Act.put, pB, pC, pD] at h
        exact h
      exact AllReadyH.nil
    have h_0 : ∀  (W : World), Hid (Below W0.heap.size W0 W) → G 5 #[true, true, true, true, true, true, true, false, false, false, false, false] A W := by
      intro W HB0
      subst hA
      rw [hG]
      have hWW := HB0.out.size
      refine wpAnyH_ready (rs := [7, 8, 9]) (by kernel_rfl) (by simp) ?_
      refine coH 7 (oi := ?_) ?_ ?_ (fun K hK => ?_) ?_; rotate_left; (simp only [gA, gB, gC]; exact rfl); rfl
      · go_wp2_with (fail)
        refine (relPl_any ma mb W hR.out.1 hR.out.2.1 hR.out.2.2).mono ?_
        rintro e Wn ⟨rfl, hb⟩
        have hgs := hb.size
        rw [HPV.out]
        refine hK.out _ _ (HSK.out _ (HB0.out.trans (hb.mono HB0.out.size))) (fun hHeldN => ?_)
        clear hK K
        try simp only [Act.put, pB, pC, pD]
        refine listedEq (l' := #[true, true, true, true, true, true, true, true, false, false, false, false]) (by kernel_rfl) ?_
        have h := h_7  Wn (Lib.hid (HB0.out.trans (hb.mono HB0.out.size)))
        rw [hG] at h
        simp only [Act.put, pB, pC, pD] at h
        exact h
      refine coH 8 (oi := ?_) ?_ ?_ (fun K hK => ?_) ?_; rotate_left; (simp only [gA, gB, gC]; exact rfl); rfl
      · go_wp2_with (fail)
        have hb : Below W.heap.size W (W.alloc (.cells #[.int .i64 0, .int .i64 0, .int .i64 0, .int .i64 0, .int .i64 0, .int .i64 0] 36)) := (Below.refl _ _).alloc (Nat.le_refl _) _
        have hgs : (W.alloc (.cells #[.int .i64 0, .int .i64 0, .int .i64 0, .int .i64 0, .int .i64 0, .int .i64 0] 36)).heap.size = W.heap.size + 1 := by simp
        have K_HG8 := Lib.hid (heap_alloc_new W (.cells #[.int .i64 0, .int .i64 0, .int .i64 0, .int .i64 0, .int .i64 0, .int .i64 0] 36))
        refine hK.out _ _ (HSK.out _ (HB0.out.trans (hb.mono HB0.out.size))) (fun hHeldN => ?_)
        clear hK K
        try simp only [Act.put, pB, pC, pD]
        refine listedEq (l' := #[true, true, true, true, true, true, true, false, true, false, false, false]) (by kernel_rfl) ?_
        have h := h_8 W.heap.size (W.alloc (.cells #[.int .i64 0, .int .i64 0, .int .i64 0, .int .i64 0, .int .i64 0, .int .i64 0] 36)) (Lib.hid (HB0.out.trans (hb.mono HB0.out.size))) K_HG8 ⟨hWW, by omega⟩
        rw [hG] at h
        simp only [Act.put, pB, pC, pD] at h
        exact h
      refine coH 9 (oi := ?_) ?_ ?_ (fun K hK => ?_) ?_; rotate_left; (simp only [gA, gB, gC]; exact rfl); rfl
      · go_wp2_with (fail)
        have hb : Below W.heap.size W (W.alloc (.cells #[.int .i64 0, .int .i64 0, .int .i64 0] 47)) := (Below.refl _ _).alloc (Nat.le_refl _) _
        have hgs : (W.alloc (.cells #[.int .i64 0, .int .i64 0, .int .i64 0] 47)).heap.size = W.heap.size + 1 := by simp
        have K_HG9 := Lib.hid (heap_alloc_new W (.cells #[.int .i64 0, .int .i64 0, .int .i64 0] 47))
        refine hK.out _ _ (HSK.out _ (HB0.out.trans (hb.mono HB0.out.size))) (fun hHeldN => ?_)
        clear hK K
        try simp only [Act.put, pB, pC, pD]
        refine listedEq (l' := #[true, true, true, true, true, true, true, false, false, true, false, false]) (by kernel_rfl) ?_
        have h := h_9 W.heap.size (W.alloc (.cells #[.int .i64 0, .int .i64 0, .int .i64 0] 47)) (Lib.hid (HB0.out.trans (hb.mono HB0.out.size))) K_HG9 ⟨hWW, by omega⟩
        rw [hG] at h
        simp only [Act.put, pB, pC, pD] at h
        exact h
      exact AllReadyH.nil
    exact h_0 W0.drew (Lib.hid (bdrewN (Below.refl _ _) 1))
  intro g8 g9 W HB0 HG8 HG9 hl8 hl9 ne8_9
  subst hA
  rw [hG]
  simp only [Act.put, pB, pC, pD]
  have hWW := HB0.out.size
  have y0 : W.cell? ⟨g8, 0, none⟩ = some (.int .i64 0) := cell_of HG8.out (i := 0) rfl
  have y1 : W.cell? ⟨g8, 1, none⟩ = some (.int .i64 0) := cell_of HG8.out (i := 1) rfl
  have y2 : W.cell? ⟨g8, 2, none⟩ = some (.int .i64 0) := cell_of HG8.out (i := 2) rfl
  have y3 : W.cell? ⟨g8, 3, none⟩ = some (.int .i64 0) := cell_of HG8.out (i := 3) rfl
  have y4 : W.cell? ⟨g8, 4, none⟩ = some (.int .i64 0) := cell_of HG8.out (i := 4) rfl
  have y5 : W.cell? ⟨g8, 5, none⟩ = some (.int .i64 0) := cell_of HG8.out (i := 5) rfl
  have fz8 := fun i => frozen_of (i := i) HG8.out
  refine onH 10 (oi := ?_) (by kernel_rfl) ?_ ?_ (fun K hK => ?_); rotate_left; (simp only [gA, gB, gC]; exact rfl); rfl
  go_wp2_with (fail)
  obtain ⟨hh1, hm1⟩ := storeSt (s := s) HG8.out rfl
  refine hK.out _ _ (HSK.out _ (HB0.out.trans (hm1.toBelow W0.heap.size hWW (fun x hx h => by have := hl8.1; omega)))) (fun hHeldN => ?_)
  clear hK K hHeldN
  try simp only [Act.put, pB, pC, pD]
  generalize ((((((W.setCell ⟨g8, 0, none⟩ (.int .i64 s.k)).setCell ⟨g8, 1, none⟩ (.int .i64 s.x)).setCell ⟨g8, 2, none⟩ (.int .i64 s.y)).setCell ⟨g8, 3, none⟩ (.int .i64 s.z)).setCell ⟨g8, 4, none⟩ (.int .i64 s.f)).setCell ⟨g8, 5, none⟩ (.int .i64 s.n)) = X1 at *
  have hrw1 : w.heap.size ≤ r0 := Nat.le_of_eq HR0.out
  have hrw2 : r0 ≤ w.heap.size := Nat.le_of_eq HR0.out.symm
  have HB1X := Lib.hid (HB0.out.trans (hm1.toBelow W0.heap.size hWW (fun x hx h => by have := hl8.1; omega)))
  have HG9X := Lib.hid (heap_mut HG9.out hm1 (by omega))
  have HG8X := Lib.hid hh1
  have hWX := HB1X.out.size
  have hX9 := lt_of_heap HG9X.out
  clear hh1 hm1 y0 y1 y2 y3 y4 y5 fz8
  have z0 : X1.cell? ⟨g9, 0, none⟩ = some (.int .i64 0) := cell_of HG9X.out (i := 0) rfl
  have z1 : X1.cell? ⟨g9, 1, none⟩ = some (.int .i64 0) := cell_of HG9X.out (i := 1) rfl
  have z2 : X1.cell? ⟨g9, 2, none⟩ = some (.int .i64 0) := cell_of HG9X.out (i := 2) rfl
  have fz9 := fun i => frozen_of (i := i) HG9X.out
  refine onH 11 (oi := ?_) (by kernel_rfl) ?_ ?_ (fun K hK => ?_); rotate_left; (simp only [gA, gB, gC]; exact rfl); rfl
  go_wp2_with (fail)
  obtain ⟨hh1, hm1⟩ := storeVec (v0 := .int .i64 pv.x) (v1 := .int .i64 pv.y) (v2 := .int .i64 pv.z) HG9X.out rfl
  refine hK.out _ _ (HSK.out _ (HB1X.out.trans (hm1.toBelow W0.heap.size hWX (fun x hx h => by have := hl9.1; omega)))) (fun hHeldN => ?_)
  clear hK K hHeldN
  try simp only [Act.put, pB, pC, pD]
  generalize (((X1.setCell ⟨g9, 0, none⟩ (.int .i64 pv.x)).setCell ⟨g9, 1, none⟩ (.int .i64 pv.y)).setCell ⟨g9, 2, none⟩ (.int .i64 pv.z)) = X2 at *
  have HBX := Lib.hid (HB1X.out.trans (hm1.toBelow W0.heap.size hWX (fun x hx h => by have := hl9.1; omega)))
  have HS5 := Lib.hid (heap_mut HG8X.out hm1 (by omega))
  have HV5 := Lib.hid hh1
  clear hh1 hm1 z0 z1 z2 fz9 HG8X HG9X HB1X HG8 HG9
  refine wpAnyH_done (by kernel_rfl) ?_ _
  have hb3 := HBX.out
  replace HHA := Lib.hid (heap_keep hb3 HHA.out)
  replace HHS := Lib.hid (heap_keep hb3 HHS.out)
  replace HHF := Lib.hid (heap_keep hb3 HHF.out)
  replace HOW := Lib.hid (ownsRow_below HOW.out hb3)
  replace HSR := Lib.hid (HSR.out.kept hb3)
  have B5 := Lib.hid (HB1.out.trans (hb3.mono (by omega)))
  have hsX := hb3.size
  clear hb3 HBX HB0 HSK HN0 HN1 H6
  have hq8 := lt_of_heap HS5.out
  have hq9 := lt_of_heap HV5.out
  have hg8 := hl8.1
  have hg9 := hl9.1
  by_cases hk1 : s.k = 1
  · have HM := Lib.hid (show toldL plR m S (i + 1) = L by rw [toldL, if_pos (by rw [RS.out]; exact .inl hk1), HL.out])
    rw [hk1] at HS5
    have s0 : X2.cell? ⟨g8, 0, none⟩ = some (.int .i64 1) := cell_of HS5.out (i := 0) rfl
    have s1 : X2.cell? ⟨g8, 1, none⟩ = some (.int .i64 s.x) := cell_of HS5.out (i := 1) rfl
    have s2 : X2.cell? ⟨g8, 2, none⟩ = some (.int .i64 s.y) := cell_of HS5.out (i := 2) rfl
    have s3 : X2.cell? ⟨g8, 3, none⟩ = some (.int .i64 s.z) := cell_of HS5.out (i := 3) rfl
    have s4 : X2.cell? ⟨g8, 4, none⟩ = some (.int .i64 s.f) := cell_of HS5.out (i := 4) rfl
    have s5 : X2.cell? ⟨g8, 5, none⟩ = some (.int .i64 s.n) := cell_of HS5.out (i := 5) rfl
    go_wp2_with (fail)
    first | go_end0 | go_ret2 | (refine bodyPost_ret (v := .tuple #[]) (results_none rfl _ _ _) rfl ?_)
    exact ⟨rfl, ⟨ao, co, by rw [HM.out]; exact HHA.out, HHS.out, HHF.out, by rw [HM.out]; exact HOW.out, HSR.out⟩, (Mut.refl _ w).below B5.out⟩
  by_cases hk2 : s.k = 2
  · have HM := Lib.hid (show toldL plR m S (i + 1) = L by rw [toldL, if_pos (by rw [RS.out]; exact .inr hk2), HL.out])
    rw [hk2] at HS5
    have s0 : X2.cell? ⟨g8, 0, none⟩ = some (.int .i64 2) := cell_of HS5.out (i := 0) rfl
    have s1 : X2.cell? ⟨g8, 1, none⟩ = some (.int .i64 s.x) := cell_of HS5.out (i := 1) rfl
    have s2 : X2.cell? ⟨g8, 2, none⟩ = some (.int .i64 s.y) := cell_of HS5.out (i := 2) rfl
    have s3 : X2.cell? ⟨g8, 3, none⟩ = some (.int .i64 s.z) := cell_of HS5.out (i := 3) rfl
    have s4 : X2.cell? ⟨g8, 4, none⟩ = some (.int .i64 s.f) := cell_of HS5.out (i := 4) rfl
    have s5 : X2.cell? ⟨g8, 5, none⟩ = some (.int .i64 s.n) := cell_of HS5.out (i := 5) rfl
    go_wp2_with (fail)
    first | go_end0 | go_ret2 | (refine bodyPost_ret (v := .tuple #[]) (results_none rfl _ _ _) rfl ?_)
    exact ⟨rfl, ⟨ao, co, by rw [HM.out]; exact HHA.out, HHS.out, HHF.out, by rw [HM.out]; exact HOW.out, HSR.out⟩, (Mut.refl _ w).below B5.out⟩
  by_cases hk3 : s.k = 3
  · have HM := Lib.hid (show toldL plR m S (i + 1) = L ++ [⟨3, pv.x, pv.y, s.z, s.f, s.n⟩] by rw [toldL, if_neg (by rw [RS.out]; omega), RS.out, HMA.out, HMB.out, HPV.out, HL.out]; unfold toldS; rw [if_pos (by omega), hk3])
    rw [hk3] at HS5
    have s0 : X2.cell? ⟨g8, 0, none⟩ = some (.int .i64 3) := cell_of HS5.out (i := 0) rfl
    have s1 : X2.cell? ⟨g8, 1, none⟩ = some (.int .i64 s.x) := cell_of HS5.out (i := 1) rfl
    have s2 : X2.cell? ⟨g8, 2, none⟩ = some (.int .i64 s.y) := cell_of HS5.out (i := 2) rfl
    have s3 : X2.cell? ⟨g8, 3, none⟩ = some (.int .i64 s.z) := cell_of HS5.out (i := 3) rfl
    have s4 : X2.cell? ⟨g8, 4, none⟩ = some (.int .i64 s.f) := cell_of HS5.out (i := 4) rfl
    have s5 : X2.cell? ⟨g8, 5, none⟩ = some (.int .i64 s.n) := cell_of HS5.out (i := 5) rfl
    have d0 : X2.cell? ⟨g9, 0, none⟩ = some (.int .i64 pv.x) := cell_of HV5.out (i := 0) rfl
    have d1 : X2.cell? ⟨g9, 1, none⟩ = some (.int .i64 pv.y) := cell_of HV5.out (i := 1) rfl
    have d2 : X2.cell? ⟨g9, 2, none⟩ = some (.int .i64 pv.z) := cell_of HV5.out (i := 2) rfl
    have fq := fun i => frozen_of (i := i) HS5.out
    go_upto_region 7 with (fail)
    go_region
    go_upto_region 10 with (fail)
    have hm6 : Mut (· = g8) X2 ((X2.setCell ⟨g8, 1, none⟩ (.int .i64 pv.x)).setCell ⟨g8, 2, none⟩ (.int .i64 pv.y)).drew := (Mut.setCell (p := ⟨g8, 2, none⟩) (Mut.setCell (p := ⟨g8, 1, none⟩) (Mut.refl (· = g8) X2) (fun _ => rfl) _) (fun _ => rfl) _).drew
    have hs6 : ((X2.setCell ⟨g8, 1, none⟩ (.int .i64 pv.x)).setCell ⟨g8, 2, none⟩ (.int .i64 pv.y)).drew.heap[g8]? = some (.cells #[.int .i64 3, .int .i64 pv.x, .int .i64 pv.y, .int .i64 s.z, .int .i64 s.f, .int .i64 s.n] 36 (0, 0)) := (cells_set (i := 2) (cells_set (i := 1) HS5.out (.int .i64 pv.x)) (.int .i64 pv.y)).trans (by simp only [List.setIfInBounds_toArray, List.set_cons_zero, List.set_cons_succ])
    have HS7 := Lib.hid hs6
    have HHA7 := Lib.hid (heap_mut HHA.out hm6 (by omega))
    have HHS7 := Lib.hid (heap_mut HHS.out hm6 (by omega))
    have HHF7 := Lib.hid (heap_mut HHF.out hm6 (by omega))
    have HO7 := Lib.hid (own_mut HOW.out hm6 (fun x hx e => by have := HLT.out x hx; omega))
    have HSR7 := Lib.hid (HSR.out.mutC hm6 (fun _ x hx e => by cases hx; have e' : b = g8 := e; omega))
    have B7 := Lib.hid (B5.out.trans (hm6.toBelow w.heap.size (by omega) (fun x hx h => by have := HR0.out; omega)))
    clear hs6 hm6 s0 s1 s2 s3 s4 s5 d0 d1 d2 fq
    generalize ((X2.setCell ⟨g8, 1, none⟩ (.int .i64 pv.x)).setCell ⟨g8, 2, none⟩ (.int .i64 pv.y)).drew = X7 at *
    have s0 : X7.cell? ⟨g8, 0, none⟩ = some (.int .i64 (3)) := cell_of HS7.out (i := 0) rfl
    have s1 : X7.cell? ⟨g8, 1, none⟩ = some (.int .i64 (pv.x)) := cell_of HS7.out (i := 1) rfl
    have s2 : X7.cell? ⟨g8, 2, none⟩ = some (.int .i64 (pv.y)) := cell_of HS7.out (i := 2) rfl
    have s3 : X7.cell? ⟨g8, 3, none⟩ = some (.int .i64 (s.z)) := cell_of HS7.out (i := 3) rfl
    have s4 : X7.cell? ⟨g8, 4, none⟩ = some (.int .i64 (s.f)) := cell_of HS7.out (i := 4) rfl
    have s5 : X7.cell? ⟨g8, 5, none⟩ = some (.int .i64 (s.n)) := cell_of HS7.out (i := 5) rfl
    have p0 : X7.cell? ⟨pA, 0, none⟩ = some (.slice ao L.length co) := cell_of HHA7.out (i := 0) rfl
    have hpA7 := lt_of_heap HHA7.out
    have hs7 := B7.out.size
    go_wp2_with (at_builtin; refine wpList_append_lies _ rfl _ _ 26 rfl (base + 2) 36 i0 (.agg #[.int .i64 0, .int .i64 0, .int .i64 0, .int .i64 0, .int .i64 0, .int .i64 0]) 6 48 Try.underlying26 hi0 hz0 hz1 hz2 rfl (by decide) _ _ _ rfl (ownsRow_below (HO7.out) ((Below.refl _ X7).alloc (Nat.le_refl _) _)) ⟨X7.heap.size, 0, none⟩ 1 1 [.int .i64 3, .int .i64 pv.x, .int .i64 pv.y, .int .i64 s.z, .int .i64 s.f, .int .i64 s.n] rfl rfl (World.news_of_block (cs := #[.int .i64 3, .int .i64 pv.x, .int .i64 pv.y, .int .i64 s.z, .int .i64 s.f, .int .i64 s.n]) (t := 36) (fr := (0, 0)) (heap_alloc_new X7 (.cells #[.int .i64 3, .int .i64 pv.x, .int .i64 pv.y, .int .i64 s.z, .int .i64 s.f, .int .i64 s.n] 36))) (by simp [Value.oneCell']) (by omega) (by unfold maxLen; omega) (by omega) (by simp; omega) (X7.heap.size + 1) (by simp) ?_; intro g5 c5 w5 hown5 hgrow5 hge5 hlt5; have HO5 := Lib.hid hown5; have HB5 := Lib.hid (Below.grown (B := (base + 2)) (Below.alloc (B := (base + 2)) (Below.refl _ X7) (by omega) (.cells #[.int .i64 3, .int .i64 pv.x, .int .i64 pv.y, .int .i64 s.z, .int .i64 s.f, .int .i64 s.n] 36)) hgrow5 (by simp; omega) (fun b hb => ((HO7.out).lt b hb).1)); have HG5 := Lib.hid hgrow5; clear hown5 hgrow5 hge5; have hH5 : w5.heap[pA]? = some (.cells #[.slice ao L.length co] 26 (0, 0)) := (HB5.out.block pA (by omega)).trans HHA7.out; have q5 : w5.cell? ⟨pA, 0, none⟩ = some (.slice ao L.length co) := cell_of hH5 (i := 0) rfl; have f5 := frozen_of (i := 0) hH5; have HH5 := Lib.hid hH5; clear hH5)
    have HB2 := Lib.hid ((Mut.refl (· = pA) w5).setCell (p := ⟨pA, 0, none⟩) (fun _ => rfl) (.slice (some ⟨g5, 0, none⟩) (L.length + 1) c5))
    have HH6 := Lib.hid (cells_set (i := 0) HH5.out (.slice (some ⟨g5, 0, none⟩) (L.length + 1) c5))
    have hl4 : (toldL plR m S (i + 1)).length = L.length + 1 := by rw [HM.out, List.length_append]; rfl
    have hm5 : Mut (fun b => b < w0.heap.size ∧ (b = pA ∨ base + 2 ≤ b)) w w5 := by
      refine ⟨HG5.out.os.trans B7.out.os, HG5.out.tape.trans B7.out.tape, HG5.out.output.trans B7.out.output, ?_, fun x hx1 hn => ?_⟩
      · have h1 := HG5.out.size
        have h3 : (X7.alloc (.cells #[.int .i64 3, .int .i64 pv.x, .int .i64 pv.y, .int .i64 s.z, .int .i64 s.f, .int .i64 s.n] 36)).heap.size = X7.heap.size + 1 := by simp
        omega
      · rw [HG5.out.block x (by rw [show (X7.alloc (.cells #[.int .i64 3, .int .i64 pv.x, .int .i64 pv.y, .int .i64 s.z, .int .i64 s.f, .int .i64 s.n] 36)).heap.size = X7.heap.size + 1 by simp]; omega) (fun e => hn (by have := HLT.out x e.symm; omega)), Below.heap_alloc _ _ _ (by omega), B7.out.block x hx1]
    have hs5 : StepsR w5 (some ⟨b, off, none⟩) n S := by
      rcases HSR7.out with h | ⟨b', off', he, h1, h2⟩
      · exact .inl h
      · cases he
        have hbr : b < base + 2 := by omega
        exact .inr ⟨b, off, rfl, by have := HB5.out.size; omega, fun j hj => by
          obtain ⟨p0, p1, p2, p3, p4, p5⟩ := h2 j hj
          exact ⟨(HB5.out.cell (p := ⟨b, _, none⟩) hbr).trans p0, (HB5.out.cell (p := ⟨b, _, none⟩) hbr).trans p1, (HB5.out.cell (p := ⟨b, _, none⟩) hbr).trans p2, (HB5.out.cell (p := ⟨b, _, none⟩) hbr).trans p3, (HB5.out.cell (p := ⟨b, _, none⟩) hbr).trans p4, (HB5.out.cell (p := ⟨b, _, none⟩) hbr).trans p5⟩⟩
    have hq5 := (HB5.out.block pS (by omega)).trans HHS7.out
    have hr5 := (HB5.out.block pF (by omega)).trans HHF7.out
    go_end0
    refine ⟨rfl, ⟨some ⟨g5, 0, none⟩, c5, ?_, heap_mut hq5 HB2.out (by omega), heap_mut hr5 HB2.out (by omega), ?_, hs5.mutC HB2.out (fun _ x hx e => by cases hx; have e' : b = pA := e; omega)⟩, hm5.after HB2.out (fun x hx h => by subst h; exact ⟨by omega, .inl rfl⟩)⟩
    · rw [hl4]; exact HH6.out
    · rw [hl4, HM.out, rowS_app]
      exact own_mut HO5.out HB2.out (fun x hx e => by have := (HO5.out.lt x hx).1; omega)
  by_cases hk4 : s.k = 4
  · have HM := Lib.hid (show toldL plR m S (i + 1) = L ++ [⟨4, pv.x, pv.y, s.z, s.f, s.n⟩] by rw [toldL, if_neg (by rw [RS.out]; omega), RS.out, HMA.out, HMB.out, HPV.out, HL.out]; unfold toldS; rw [if_pos (by omega), hk4])
    rw [hk4] at HS5
    have s0 : X2.cell? ⟨g8, 0, none⟩ = some (.int .i64 4) := cell_of HS5.out (i := 0) rfl
    have s1 : X2.cell? ⟨g8, 1, none⟩ = some (.int .i64 s.x) := cell_of HS5.out (i := 1) rfl
    have s2 : X2.cell? ⟨g8, 2, none⟩ = some (.int .i64 s.y) := cell_of HS5.out (i := 2) rfl
    have s3 : X2.cell? ⟨g8, 3, none⟩ = some (.int .i64 s.z) := cell_of HS5.out (i := 3) rfl
    have s4 : X2.cell? ⟨g8, 4, none⟩ = some (.int .i64 s.f) := cell_of HS5.out (i := 4) rfl
    have s5 : X2.cell? ⟨g8, 5, none⟩ = some (.int .i64 s.n) := cell_of HS5.out (i := 5) rfl
    have d0 : X2.cell? ⟨g9, 0, none⟩ = some (.int .i64 pv.x) := cell_of HV5.out (i := 0) rfl
    have d1 : X2.cell? ⟨g9, 1, none⟩ = some (.int .i64 pv.y) := cell_of HV5.out (i := 1) rfl
    have d2 : X2.cell? ⟨g9, 2, none⟩ = some (.int .i64 pv.z) := cell_of HV5.out (i := 2) rfl
    have fq := fun i => frozen_of (i := i) HS5.out
    go_upto_region 7 with (fail)
    go_region
    go_upto_region 10 with (fail)
    have hm6 : Mut (· = g8) X2 ((X2.setCell ⟨g8, 1, none⟩ (.int .i64 pv.x)).setCell ⟨g8, 2, none⟩ (.int .i64 pv.y)).drew := (Mut.setCell (p := ⟨g8, 2, none⟩) (Mut.setCell (p := ⟨g8, 1, none⟩) (Mut.refl (· = g8) X2) (fun _ => rfl) _) (fun _ => rfl) _).drew
    have hs6 : ((X2.setCell ⟨g8, 1, none⟩ (.int .i64 pv.x)).setCell ⟨g8, 2, none⟩ (.int .i64 pv.y)).drew.heap[g8]? = some (.cells #[.int .i64 4, .int .i64 pv.x, .int .i64 pv.y, .int .i64 s.z, .int .i64 s.f, .int .i64 s.n] 36 (0, 0)) := (cells_set (i := 2) (cells_set (i := 1) HS5.out (.int .i64 pv.x)) (.int .i64 pv.y)).trans (by simp only [List.setIfInBounds_toArray, List.set_cons_zero, List.set_cons_succ])
    have HS7 := Lib.hid hs6
    have HHA7 := Lib.hid (heap_mut HHA.out hm6 (by omega))
    have HHS7 := Lib.hid (heap_mut HHS.out hm6 (by omega))
    have HHF7 := Lib.hid (heap_mut HHF.out hm6 (by omega))
    have HO7 := Lib.hid (own_mut HOW.out hm6 (fun x hx e => by have := HLT.out x hx; omega))
    have HSR7 := Lib.hid (HSR.out.mutC hm6 (fun _ x hx e => by cases hx; have e' : b = g8 := e; omega))
    have B7 := Lib.hid (B5.out.trans (hm6.toBelow w.heap.size (by omega) (fun x hx h => by have := HR0.out; omega)))
    clear hs6 hm6 s0 s1 s2 s3 s4 s5 d0 d1 d2 fq
    generalize ((X2.setCell ⟨g8, 1, none⟩ (.int .i64 pv.x)).setCell ⟨g8, 2, none⟩ (.int .i64 pv.y)).drew = X7 at *
    have s0 : X7.cell? ⟨g8, 0, none⟩ = some (.int .i64 (4)) := cell_of HS7.out (i := 0) rfl
    have s1 : X7.cell? ⟨g8, 1, none⟩ = some (.int .i64 (pv.x)) := cell_of HS7.out (i := 1) rfl
    have s2 : X7.cell? ⟨g8, 2, none⟩ = some (.int .i64 (pv.y)) := cell_of HS7.out (i := 2) rfl
    have s3 : X7.cell? ⟨g8, 3, none⟩ = some (.int .i64 (s.z)) := cell_of HS7.out (i := 3) rfl
    have s4 : X7.cell? ⟨g8, 4, none⟩ = some (.int .i64 (s.f)) := cell_of HS7.out (i := 4) rfl
    have s5 : X7.cell? ⟨g8, 5, none⟩ = some (.int .i64 (s.n)) := cell_of HS7.out (i := 5) rfl
    have p0 : X7.cell? ⟨pA, 0, none⟩ = some (.slice ao L.length co) := cell_of HHA7.out (i := 0) rfl
    have hpA7 := lt_of_heap HHA7.out
    have hs7 := B7.out.size
    go_wp2_with (at_builtin; refine wpList_append_lies _ rfl _ _ 26 rfl (base + 2) 36 i0 (.agg #[.int .i64 0, .int .i64 0, .int .i64 0, .int .i64 0, .int .i64 0, .int .i64 0]) 6 48 Try.underlying26 hi0 hz0 hz1 hz2 rfl (by decide) _ _ _ rfl (ownsRow_below (HO7.out) ((Below.refl _ X7).alloc (Nat.le_refl _) _)) ⟨X7.heap.size, 0, none⟩ 1 1 [.int .i64 4, .int .i64 pv.x, .int .i64 pv.y, .int .i64 s.z, .int .i64 s.f, .int .i64 s.n] rfl rfl (World.news_of_block (cs := #[.int .i64 4, .int .i64 pv.x, .int .i64 pv.y, .int .i64 s.z, .int .i64 s.f, .int .i64 s.n]) (t := 36) (fr := (0, 0)) (heap_alloc_new X7 (.cells #[.int .i64 4, .int .i64 pv.x, .int .i64 pv.y, .int .i64 s.z, .int .i64 s.f, .int .i64 s.n] 36))) (by simp [Value.oneCell']) (by omega) (by unfold maxLen; omega) (by omega) (by simp; omega) (X7.heap.size + 1) (by simp) ?_; intro g5 c5 w5 hown5 hgrow5 hge5 hlt5; have HO5 := Lib.hid hown5; have HB5 := Lib.hid (Below.grown (B := (base + 2)) (Below.alloc (B := (base + 2)) (Below.refl _ X7) (by omega) (.cells #[.int .i64 4, .int .i64 pv.x, .int .i64 pv.y, .int .i64 s.z, .int .i64 s.f, .int .i64 s.n] 36)) hgrow5 (by simp; omega) (fun b hb => ((HO7.out).lt b hb).1)); have HG5 := Lib.hid hgrow5; clear hown5 hgrow5 hge5; have hH5 : w5.heap[pA]? = some (.cells #[.slice ao L.length co] 26 (0, 0)) := (HB5.out.block pA (by omega)).trans HHA7.out; have q5 : w5.cell? ⟨pA, 0, none⟩ = some (.slice ao L.length co) := cell_of hH5 (i := 0) rfl; have f5 := frozen_of (i := 0) hH5; have HH5 := Lib.hid hH5; clear hH5)
    have HB2 := Lib.hid ((Mut.refl (· = pA) w5).setCell (p := ⟨pA, 0, none⟩) (fun _ => rfl) (.slice (some ⟨g5, 0, none⟩) (L.length + 1) c5))
    have HH6 := Lib.hid (cells_set (i := 0) HH5.out (.slice (some ⟨g5, 0, none⟩) (L.length + 1) c5))
    have hl4 : (toldL plR m S (i + 1)).length = L.length + 1 := by rw [HM.out, List.length_append]; rfl
    have hm5 : Mut (fun b => b < w0.heap.size ∧ (b = pA ∨ base + 2 ≤ b)) w w5 := by
      refine ⟨HG5.out.os.trans B7.out.os, HG5.out.tape.trans B7.out.tape, HG5.out.output.trans B7.out.output, ?_, fun x hx1 hn => ?_⟩
      · have h1 := HG5.out.size
        have h3 : (X7.alloc (.cells #[.int .i64 4, .int .i64 pv.x, .int .i64 pv.y, .int .i64 s.z, .int .i64 s.f, .int .i64 s.n] 36)).heap.size = X7.heap.size + 1 := by simp
        omega
      · rw [HG5.out.block x (by rw [show (X7.alloc (.cells #[.int .i64 4, .int .i64 pv.x, .int .i64 pv.y, .int .i64 s.z, .int .i64 s.f, .int .i64 s.n] 36)).heap.size = X7.heap.size + 1 by simp]; omega) (fun e => hn (by have := HLT.out x e.symm; omega)), Below.heap_alloc _ _ _ (by omega), B7.out.block x hx1]
    have hs5 : StepsR w5 (some ⟨b, off, none⟩) n S := by
      rcases HSR7.out with h | ⟨b', off', he, h1, h2⟩
      · exact .inl h
      · cases he
        have hbr : b < base + 2 := by omega
        exact .inr ⟨b, off, rfl, by have := HB5.out.size; omega, fun j hj => by
          obtain ⟨p0, p1, p2, p3, p4, p5⟩ := h2 j hj
          exact ⟨(HB5.out.cell (p := ⟨b, _, none⟩) hbr).trans p0, (HB5.out.cell (p := ⟨b, _, none⟩) hbr).trans p1, (HB5.out.cell (p := ⟨b, _, none⟩) hbr).trans p2, (HB5.out.cell (p := ⟨b, _, none⟩) hbr).trans p3, (HB5.out.cell (p := ⟨b, _, none⟩) hbr).trans p4, (HB5.out.cell (p := ⟨b, _, none⟩) hbr).trans p5⟩⟩
    have hq5 := (HB5.out.block pS (by omega)).trans HHS7.out
    have hr5 := (HB5.out.block pF (by omega)).trans HHF7.out
    go_end0
    refine ⟨rfl, ⟨some ⟨g5, 0, none⟩, c5, ?_, heap_mut hq5 HB2.out (by omega), heap_mut hr5 HB2.out (by omega), ?_, hs5.mutC HB2.out (fun _ x hx e => by cases hx; have e' : b = pA := e; omega)⟩, hm5.after HB2.out (fun x hx h => by subst h; exact ⟨by omega, .inl rfl⟩)⟩
    · rw [hl4]; exact HH6.out
    · rw [hl4, HM.out, rowS_app]
      exact own_mut HO5.out HB2.out (fun x hx e => by have := (HO5.out.lt x hx).1; omega)
  by_cases hk5 : s.k = 5
  · have HM := Lib.hid (show toldL plR m S (i + 1) = L ++ [⟨5, s.x, s.y, pv.z, s.f, s.n⟩] by rw [toldL, if_neg (by rw [RS.out]; omega), RS.out, HMA.out, HMB.out, HPV.out, HL.out]; unfold toldS; rw [if_neg (by omega), if_pos (by omega), hk5])
    rw [hk5] at HS5
    have s0 : X2.cell? ⟨g8, 0, none⟩ = some (.int .i64 5) := cell_of HS5.out (i := 0) rfl
    have s1 : X2.cell? ⟨g8, 1, none⟩ = some (.int .i64 s.x) := cell_of HS5.out (i := 1) rfl
    have s2 : X2.cell? ⟨g8, 2, none⟩ = some (.int .i64 s.y) := cell_of HS5.out (i := 2) rfl
    have s3 : X2.cell? ⟨g8, 3, none⟩ = some (.int .i64 s.z) := cell_of HS5.out (i := 3) rfl
    have s4 : X2.cell? ⟨g8, 4, none⟩ = some (.int .i64 s.f) := cell_of HS5.out (i := 4) rfl
    have s5 : X2.cell? ⟨g8, 5, none⟩ = some (.int .i64 s.n) := cell_of HS5.out (i := 5) rfl
    have d0 : X2.cell? ⟨g9, 0, none⟩ = some (.int .i64 pv.x) := cell_of HV5.out (i := 0) rfl
    have d1 : X2.cell? ⟨g9, 1, none⟩ = some (.int .i64 pv.y) := cell_of HV5.out (i := 1) rfl
    have d2 : X2.cell? ⟨g9, 2, none⟩ = some (.int .i64 pv.z) := cell_of HV5.out (i := 2) rfl
    have fq := fun i => frozen_of (i := i) HS5.out
    go_upto_region 10 with (fail)
    have hm6 : Mut (· = g8) X2 (X2.setCell ⟨g8, 3, none⟩ (.int .i64 pv.z)) := Mut.setCell (p := ⟨g8, 3, none⟩) (Mut.refl (· = g8) X2) (fun _ => rfl) _
    have hs6 : (X2.setCell ⟨g8, 3, none⟩ (.int .i64 pv.z)).heap[g8]? = some (.cells #[.int .i64 5, .int .i64 s.x, .int .i64 s.y, .int .i64 pv.z, .int .i64 s.f, .int .i64 s.n] 36 (0, 0)) := (cells_set (i := 3) HS5.out (.int .i64 pv.z)).trans (by simp only [List.setIfInBounds_toArray, List.set_cons_zero, List.set_cons_succ])
    have HS7 := Lib.hid hs6
    have HHA7 := Lib.hid (heap_mut HHA.out hm6 (by omega))
    have HHS7 := Lib.hid (heap_mut HHS.out hm6 (by omega))
    have HHF7 := Lib.hid (heap_mut HHF.out hm6 (by omega))
    have HO7 := Lib.hid (own_mut HOW.out hm6 (fun x hx e => by have := HLT.out x hx; omega))
    have HSR7 := Lib.hid (HSR.out.mutC hm6 (fun _ x hx e => by cases hx; have e' : b = g8 := e; omega))
    have B7 := Lib.hid (B5.out.trans (hm6.toBelow w.heap.size (by omega) (fun x hx h => by have := HR0.out; omega)))
    clear hs6 hm6 s0 s1 s2 s3 s4 s5 d0 d1 d2 fq
    generalize (X2.setCell ⟨g8, 3, none⟩ (.int .i64 pv.z)) = X7 at *
    have s0 : X7.cell? ⟨g8, 0, none⟩ = some (.int .i64 (5)) := cell_of HS7.out (i := 0) rfl
    have s1 : X7.cell? ⟨g8, 1, none⟩ = some (.int .i64 (s.x)) := cell_of HS7.out (i := 1) rfl
    have s2 : X7.cell? ⟨g8, 2, none⟩ = some (.int .i64 (s.y)) := cell_of HS7.out (i := 2) rfl
    have s3 : X7.cell? ⟨g8, 3, none⟩ = some (.int .i64 (pv.z)) := cell_of HS7.out (i := 3) rfl
    have s4 : X7.cell? ⟨g8, 4, none⟩ = some (.int .i64 (s.f)) := cell_of HS7.out (i := 4) rfl
    have s5 : X7.cell? ⟨g8, 5, none⟩ = some (.int .i64 (s.n)) := cell_of HS7.out (i := 5) rfl
    have p0 : X7.cell? ⟨pA, 0, none⟩ = some (.slice ao L.length co) := cell_of HHA7.out (i := 0) rfl
    have hpA7 := lt_of_heap HHA7.out
    have hs7 := B7.out.size
    go_wp2_with (at_builtin; refine wpList_append_lies _ rfl _ _ 26 rfl (base + 2) 36 i0 (.agg #[.int .i64 0, .int .i64 0, .int .i64 0, .int .i64 0, .int .i64 0, .int .i64 0]) 6 48 Try.underlying26 hi0 hz0 hz1 hz2 rfl (by decide) _ _ _ rfl (ownsRow_below (HO7.out) ((Below.refl _ X7).alloc (Nat.le_refl _) _)) ⟨X7.heap.size, 0, none⟩ 1 1 [.int .i64 5, .int .i64 s.x, .int .i64 s.y, .int .i64 pv.z, .int .i64 s.f, .int .i64 s.n] rfl rfl (World.news_of_block (cs := #[.int .i64 5, .int .i64 s.x, .int .i64 s.y, .int .i64 pv.z, .int .i64 s.f, .int .i64 s.n]) (t := 36) (fr := (0, 0)) (heap_alloc_new X7 (.cells #[.int .i64 5, .int .i64 s.x, .int .i64 s.y, .int .i64 pv.z, .int .i64 s.f, .int .i64 s.n] 36))) (by simp [Value.oneCell']) (by omega) (by unfold maxLen; omega) (by omega) (by simp; omega) (X7.heap.size + 1) (by simp) ?_; intro g5 c5 w5 hown5 hgrow5 hge5 hlt5; have HO5 := Lib.hid hown5; have HB5 := Lib.hid (Below.grown (B := (base + 2)) (Below.alloc (B := (base + 2)) (Below.refl _ X7) (by omega) (.cells #[.int .i64 5, .int .i64 s.x, .int .i64 s.y, .int .i64 pv.z, .int .i64 s.f, .int .i64 s.n] 36)) hgrow5 (by simp; omega) (fun b hb => ((HO7.out).lt b hb).1)); have HG5 := Lib.hid hgrow5; clear hown5 hgrow5 hge5; have hH5 : w5.heap[pA]? = some (.cells #[.slice ao L.length co] 26 (0, 0)) := (HB5.out.block pA (by omega)).trans HHA7.out; have q5 : w5.cell? ⟨pA, 0, none⟩ = some (.slice ao L.length co) := cell_of hH5 (i := 0) rfl; have f5 := frozen_of (i := 0) hH5; have HH5 := Lib.hid hH5; clear hH5)
    have HB2 := Lib.hid ((Mut.refl (· = pA) w5).setCell (p := ⟨pA, 0, none⟩) (fun _ => rfl) (.slice (some ⟨g5, 0, none⟩) (L.length + 1) c5))
    have HH6 := Lib.hid (cells_set (i := 0) HH5.out (.slice (some ⟨g5, 0, none⟩) (L.length + 1) c5))
    have hl4 : (toldL plR m S (i + 1)).length = L.length + 1 := by rw [HM.out, List.length_append]; rfl
    have hm5 : Mut (fun b => b < w0.heap.size ∧ (b = pA ∨ base + 2 ≤ b)) w w5 := by
      refine ⟨HG5.out.os.trans B7.out.os, HG5.out.tape.trans B7.out.tape, HG5.out.output.trans B7.out.output, ?_, fun x hx1 hn => ?_⟩
      · have h1 := HG5.out.size
        have h3 : (X7.alloc (.cells #[.int .i64 5, .int .i64 s.x, .int .i64 s.y, .int .i64 pv.z, .int .i64 s.f, .int .i64 s.n] 36)).heap.size = X7.heap.size + 1 := by simp
        omega
      · rw [HG5.out.block x (by rw [show (X7.alloc (.cells #[.int .i64 5, .int .i64 s.x, .int .i64 s.y, .int .i64 pv.z, .int .i64 s.f, .int .i64 s.n] 36)).heap.size = X7.heap.size + 1 by simp]; omega) (fun e => hn (by have := HLT.out x e.symm; omega)), Below.heap_alloc _ _ _ (by omega), B7.out.block x hx1]
    have hs5 : StepsR w5 (some ⟨b, off, none⟩) n S := by
      rcases HSR7.out with h | ⟨b', off', he, h1, h2⟩
      · exact .inl h
      · cases he
        have hbr : b < base + 2 := by omega
        exact .inr ⟨b, off, rfl, by have := HB5.out.size; omega, fun j hj => by
          obtain ⟨p0, p1, p2, p3, p4, p5⟩ := h2 j hj
          exact ⟨(HB5.out.cell (p := ⟨b, _, none⟩) hbr).trans p0, (HB5.out.cell (p := ⟨b, _, none⟩) hbr).trans p1, (HB5.out.cell (p := ⟨b, _, none⟩) hbr).trans p2, (HB5.out.cell (p := ⟨b, _, none⟩) hbr).trans p3, (HB5.out.cell (p := ⟨b, _, none⟩) hbr).trans p4, (HB5.out.cell (p := ⟨b, _, none⟩) hbr).trans p5⟩⟩
    have hq5 := (HB5.out.block pS (by omega)).trans HHS7.out
    have hr5 := (HB5.out.block pF (by omega)).trans HHF7.out
    go_end0
    refine ⟨rfl, ⟨some ⟨g5, 0, none⟩, c5, ?_, heap_mut hq5 HB2.out (by omega), heap_mut hr5 HB2.out (by omega), ?_, hs5.mutC HB2.out (fun _ x hx e => by cases hx; have e' : b = pA := e; omega)⟩, hm5.after HB2.out (fun x hx h => by subst h; exact ⟨by omega, .inl rfl⟩)⟩
    · rw [hl4]; exact HH6.out
    · rw [hl4, HM.out, rowS_app]
      exact own_mut HO5.out HB2.out (fun x hx e => by have := (HO5.out.lt x hx).1; omega)
  have HM := Lib.hid (show toldL plR m S (i + 1) = L ++ [⟨s.k, s.x, s.y, s.z, s.f, s.n⟩] by rw [toldL, if_neg (by rw [RS.out]; omega), RS.out, HMA.out, HMB.out, HPV.out, HL.out]; unfold toldS; rw [if_neg (by omega), if_neg (by omega)])
  have s0 : X2.cell? ⟨g8, 0, none⟩ = some (.int .i64 s.k) := cell_of HS5.out (i := 0) rfl
  have s1 : X2.cell? ⟨g8, 1, none⟩ = some (.int .i64 s.x) := cell_of HS5.out (i := 1) rfl
  have s2 : X2.cell? ⟨g8, 2, none⟩ = some (.int .i64 s.y) := cell_of HS5.out (i := 2) rfl
  have s3 : X2.cell? ⟨g8, 3, none⟩ = some (.int .i64 s.z) := cell_of HS5.out (i := 3) rfl
  have s4 : X2.cell? ⟨g8, 4, none⟩ = some (.int .i64 s.f) := cell_of HS5.out (i := 4) rfl
  have s5 : X2.cell? ⟨g8, 5, none⟩ = some (.int .i64 s.n) := cell_of HS5.out (i := 5) rfl
  go_upto_region 10 with (fail)
  have hm6 : Mut (· = g8) X2 X2 := Mut.refl _ _
  have hs6 := HS5.out
  have HS7 := Lib.hid hs6
  have HHA7 := Lib.hid (heap_mut HHA.out hm6 (by omega))
  have HHS7 := Lib.hid (heap_mut HHS.out hm6 (by omega))
  have HHF7 := Lib.hid (heap_mut HHF.out hm6 (by omega))
  have HO7 := Lib.hid (own_mut HOW.out hm6 (fun x hx e => by have := HLT.out x hx; omega))
  have HSR7 := Lib.hid (HSR.out.mutC hm6 (fun _ x hx e => by cases hx; have e' : b = g8 := e; omega))
  have B7 := Lib.hid (B5.out.trans (hm6.toBelow w.heap.size (by omega) (fun x hx h => by have := HR0.out; omega)))
  clear hs6 hm6 s0 s1 s2 s3 s4 s5
  generalize X2 = X7 at *
  have s0 : X7.cell? ⟨g8, 0, none⟩ = some (.int .i64 (s.k)) := cell_of HS7.out (i := 0) rfl
  have s1 : X7.cell? ⟨g8, 1, none⟩ = some (.int .i64 (s.x)) := cell_of HS7.out (i := 1) rfl
  have s2 : X7.cell? ⟨g8, 2, none⟩ = some (.int .i64 (s.y)) := cell_of HS7.out (i := 2) rfl
  have s3 : X7.cell? ⟨g8, 3, none⟩ = some (.int .i64 (s.z)) := cell_of HS7.out (i := 3) rfl
  have s4 : X7.cell? ⟨g8, 4, none⟩ = some (.int .i64 (s.f)) := cell_of HS7.out (i := 4) rfl
  have s5 : X7.cell? ⟨g8, 5, none⟩ = some (.int .i64 (s.n)) := cell_of HS7.out (i := 5) rfl
  have p0 : X7.cell? ⟨pA, 0, none⟩ = some (.slice ao L.length co) := cell_of HHA7.out (i := 0) rfl
  have hpA7 := lt_of_heap HHA7.out
  have hs7 := B7.out.size
  go_wp2_with (at_builtin; refine wpList_append_lies _ rfl _ _ 26 rfl (base + 2) 36 i0 (.agg #[.int .i64 0, .int .i64 0, .int .i64 0, .int .i64 0, .int .i64 0, .int .i64 0]) 6 48 Try.underlying26 hi0 hz0 hz1 hz2 rfl (by decide) _ _ _ rfl (ownsRow_below (HO7.out) ((Below.refl _ X7).alloc (Nat.le_refl _) _)) ⟨X7.heap.size, 0, none⟩ 1 1 [.int .i64 s.k, .int .i64 s.x, .int .i64 s.y, .int .i64 s.z, .int .i64 s.f, .int .i64 s.n] rfl rfl (World.news_of_block (cs := #[.int .i64 s.k, .int .i64 s.x, .int .i64 s.y, .int .i64 s.z, .int .i64 s.f, .int .i64 s.n]) (t := 36) (fr := (0, 0)) (heap_alloc_new X7 (.cells #[.int .i64 s.k, .int .i64 s.x, .int .i64 s.y, .int .i64 s.z, .int .i64 s.f, .int .i64 s.n] 36))) (by simp [Value.oneCell']) (by omega) (by unfold maxLen; omega) (by omega) (by simp; omega) (X7.heap.size + 1) (by simp) ?_; intro g5 c5 w5 hown5 hgrow5 hge5 hlt5; have HO5 := Lib.hid hown5; have HB5 := Lib.hid (Below.grown (B := (base + 2)) (Below.alloc (B := (base + 2)) (Below.refl _ X7) (by omega) (.cells #[.int .i64 s.k, .int .i64 s.x, .int .i64 s.y, .int .i64 s.z, .int .i64 s.f, .int .i64 s.n] 36)) hgrow5 (by simp; omega) (fun b hb => ((HO7.out).lt b hb).1)); have HG5 := Lib.hid hgrow5; clear hown5 hgrow5 hge5; have hH5 : w5.heap[pA]? = some (.cells #[.slice ao L.length co] 26 (0, 0)) := (HB5.out.block pA (by omega)).trans HHA7.out; have q5 : w5.cell? ⟨pA, 0, none⟩ = some (.slice ao L.length co) := cell_of hH5 (i := 0) rfl; have f5 := frozen_of (i := 0) hH5; have HH5 := Lib.hid hH5; clear hH5)
  have HB2 := Lib.hid ((Mut.refl (· = pA) w5).setCell (p := ⟨pA, 0, none⟩) (fun _ => rfl) (.slice (some ⟨g5, 0, none⟩) (L.length + 1) c5))
  have HH6 := Lib.hid (cells_set (i := 0) HH5.out (.slice (some ⟨g5, 0, none⟩) (L.length + 1) c5))
  have hl4 : (toldL plR m S (i + 1)).length = L.length + 1 := by rw [HM.out, List.length_append]; rfl
  have hm5 : Mut (fun b => b < w0.heap.size ∧ (b = pA ∨ base + 2 ≤ b)) w w5 := by
    refine ⟨HG5.out.os.trans B7.out.os, HG5.out.tape.trans B7.out.tape, HG5.out.output.trans B7.out.output, ?_, fun x hx1 hn => ?_⟩
    · have h1 := HG5.out.size
      have h3 : (X7.alloc (.cells #[.int .i64 s.k, .int .i64 s.x, .int .i64 s.y, .int .i64 s.z, .int .i64 s.f, .int .i64 s.n] 36)).heap.size = X7.heap.size + 1 := by simp
      omega
    · rw [HG5.out.block x (by rw [show (X7.alloc (.cells #[.int .i64 s.k, .int .i64 s.x, .int .i64 s.y, .int .i64 s.z, .int .i64 s.f, .int .i64 s.n] 36)).heap.size = X7.heap.size + 1 by simp]; omega) (fun e => hn (by have := HLT.out x e.symm; omega)), Below.heap_alloc _ _ _ (by omega), B7.out.block x hx1]
  have hs5 : StepsR w5 (some ⟨b, off, none⟩) n S := by
    rcases HSR7.out with h | ⟨b', off', he, h1, h2⟩
    · exact .inl h
    · cases he
      have hbr : b < base + 2 := by omega
      exact .inr ⟨b, off, rfl, by have := HB5.out.size; omega, fun j hj => by
        obtain ⟨p0, p1, p2, p3, p4, p5⟩ := h2 j hj
        exact ⟨(HB5.out.cell (p := ⟨b, _, none⟩) hbr).trans p0, (HB5.out.cell (p := ⟨b, _, none⟩) hbr).trans p1, (HB5.out.cell (p := ⟨b, _, none⟩) hbr).trans p2, (HB5.out.cell (p := ⟨b, _, none⟩) hbr).trans p3, (HB5.out.cell (p := ⟨b, _, none⟩) hbr).trans p4, (HB5.out.cell (p := ⟨b, _, none⟩) hbr).trans p5⟩⟩
  have hq5 := (HB5.out.block pS (by omega)).trans HHS7.out
  have hr5 := (HB5.out.block pF (by omega)).trans HHF7.out
  go_end0
  refine ⟨rfl, ⟨some ⟨g5, 0, none⟩, c5, ?_, heap_mut hq5 HB2.out (by omega), heap_mut hr5 HB2.out (by omega), ?_, hs5.mutC HB2.out (fun _ x hx e => by cases hx; have e' : b = pA := e; omega)⟩, hm5.after HB2.out (fun x hx h => by subst h; exact ⟨by omega, .inl rfl⟩)⟩
  · rw [hl4]; exact HH6.out
  · rw [hl4, HM.out, rowS_app]
    exact own_mut HO5.out HB2.out (fun x hx e => by have := (HO5.out.lt x hx).1; omega)
end Go.Proofs.Ythmplflmjjccfaa

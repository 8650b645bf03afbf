/- Walk of the program: what is told of each step, by the contract of what is told to. -/
import Derived.Test.YtgmpmaiddombeaaGe
import Derived.Test.YtgmpmaiddombeaaGf
set_option linter.unusedSimpArgs false
set_option linter.unusedVariables false
namespace Go.Proofs.Ytgmpmaiddombeaa
open Go.RowKit
theorem Mut.after {C S : Nat → Prop} {w w3 w4 : World} (h : Mut C w w3) (k : Mut S w3 w4) (hs : ∀ b, b < w.heap.size → S b → C b) : Mut C w w4 :=
  ⟨k.os.trans h.os, k.tape.trans h.tape, k.output.trans h.output, Nat.le_trans h.size k.size, fun b hb hn => (k.block b (Nat.lt_of_lt_of_le hb h.size) (fun s => hn (hs b hb s))).trans (h.block b hb hn)⟩
theorem cells_set {w : World} {g i : Nat} {c : Array Value} {t : TypeId} {fr : Nat × Nat} (h : w.heap[g]? = some (.cells c t fr)) (v : Value) : (w.setCell ⟨g, i, none⟩ v).heap[g]? = some (.cells (c.setIfInBounds i v) t fr) := by
  simp [World.setCell, Array.getElem?_modify, h]
/-- A status is stored into a block. -/
theorem storeMa {w W : World} {g : Nat} {m1 m2 : Ma} (h : w.heap[g]? = some (.cells #[.int .i64 m1.x, .int .i64 m1.y, .int .i64 m1.z, .int .i64 m1.s, .int .i64 m1.h, .int .i64 m1.t, .int .i64 m1.f, .bool m1.r] 42 (0, 0))) (hW : ((((((((w.setCell ⟨g, 0, none⟩ (.int .i64 m2.x)).setCell ⟨g, 1, none⟩ (.int .i64 m2.y)).setCell ⟨g, 2, none⟩ (.int .i64 m2.z)).setCell ⟨g, 3, none⟩ (.int .i64 m2.s)).setCell ⟨g, 4, none⟩ (.int .i64 m2.h)).setCell ⟨g, 5, none⟩ (.int .i64 m2.t)).setCell ⟨g, 6, none⟩ (.int .i64 m2.f)).setCell ⟨g, 7, none⟩ (.bool m2.r)) = W) : W.heap[g]? = some (.cells #[.int .i64 m2.x, .int .i64 m2.y, .int .i64 m2.z, .int .i64 m2.s, .int .i64 m2.h, .int .i64 m2.t, .int .i64 m2.f, .bool m2.r] 42 (0, 0)) ∧ Mut (· = g) w W := by
  subst hW
  refine ⟨?_, ?_⟩
  · have h1 := cells_set (i := 7) (cells_set (i := 6) (cells_set (i := 5) (cells_set (i := 4) (cells_set (i := 3) (cells_set (i := 2) (cells_set (i := 1) (cells_set (i := 0) h (.int .i64 m2.x)) (.int .i64 m2.y)) (.int .i64 m2.z)) (.int .i64 m2.s)) (.int .i64 m2.h)) (.int .i64 m2.t)) (.int .i64 m2.f)) (.bool m2.r)
    refine h1.trans ?_
    simp only [List.setIfInBounds_toArray, List.set_cons_zero, List.set_cons_succ]
  · exact Mut.setCell (p := ⟨g, 7, none⟩) (Mut.setCell (p := ⟨g, 6, none⟩) (Mut.setCell (p := ⟨g, 5, none⟩) (Mut.setCell (p := ⟨g, 4, none⟩) (Mut.setCell (p := ⟨g, 3, none⟩) (Mut.setCell (p := ⟨g, 2, none⟩) (Mut.setCell (p := ⟨g, 1, none⟩) (Mut.setCell (p := ⟨g, 0, none⟩) (Mut.refl (· = g) w) (fun _ => rfl) _) (fun _ => rfl) _) (fun _ => rfl) _) (fun _ => rfl) _) (fun _ => rfl) _) (fun _ => rfl) _) (fun _ => rfl) _) (fun _ => rfl) _
/-- Steps that are kept while others turn. -/
theorem StepsR.mutC {w w' : World} {C : Nat → Prop} {n : Nat} {a : Option Addr} {S : Nat → St} (h : StepsR w a n S) (hm : Mut C w w') (hb : 0 < n → ∀ x, a = some x → ¬ C x.block) : StepsR w' a n S := by
  rcases Nat.eq_zero_or_pos n with h0 | h0
  · exact .inl h0
  replace hb := hb h0
  rcases h with h | ⟨b, off, rfl, h1, h2⟩
  · exact .inl h
  · have hne := hb _ rfl
    exact .inr ⟨b, off, rfl, Nat.lt_of_lt_of_le h1 hm.size, fun i hi => by
      obtain ⟨p0, p1, p2, p3, p4, p5⟩ := h2 i hi
      exact ⟨(hm.cell (p := ⟨b, off + i * 6, none⟩) h1 hne).trans p0, (hm.cell (p := ⟨b, off + i * 6 + 1, none⟩) h1 hne).trans p1, (hm.cell (p := ⟨b, off + i * 6 + 2, none⟩) h1 hne).trans p2, (hm.cell (p := ⟨b, off + i * 6 + 3, none⟩) h1 hne).trans p3, (hm.cell (p := ⟨b, off + i * 6 + 4, none⟩) h1 hne).trans p4, (hm.cell (p := ⟨b, off + i * 6 + 5, none⟩) h1 hne).trans p5⟩⟩
/-- What a closure does, and what it leaves as it was: base is where walk's own blocks begin, C what it has captured. -/
structure Tells (F : FuncId) (caps : Array Value) (m : Ma) (S : Nat → St) (n base : Nat) (C : Nat → Prop) (Inv : Nat → World → Prop) : Prop where
  enter : ∀ args w, (callFunc F args).run Try.prog w = Result.ok (.enter F args) w
  call : ∀ i w w1, i < n → Inv i w → base + 2 ≤ w.heap.size → Below w.heap.size w w1 → Calls Try.prog F (#[.int .i64 i, (.agg #[.int .i64 (runF m S i).x, .int .i64 (runF m S i).y, .int .i64 (runF m S i).z, .int .i64 (runF m S i).s, .int .i64 (runF m S i).h, .int .i64 (runF m S i).t, .int .i64 (runF m S i).f, .bool (runF m S i).r]), (.agg #[.int .i64 (runF m S (i + 1)).x, .int .i64 (runF m S (i + 1)).y, .int .i64 (runF m S (i + 1)).z, .int .i64 (runF m S (i + 1)).s, .int .i64 (runF m S (i + 1)).h, .int .i64 (runF m S (i + 1)).t, .int .i64 (runF m S (i + 1)).f, .bool (runF m S (i + 1)).r])] ++ caps) w1 fun e w' => e = .returned (.tuple #[]) ∧ Inv (i + 1) w' ∧ Mut (fun b => b < w.heap.size ∧ (C b ∨ base + 2 ≤ b)) w1 w'
  kept : ∀ i w w', Inv i w → Mut (fun b => b = base ∨ b = base + 1) w w' → Inv i w'
  below : ∀ x, C x → x < base
theorem StepsR.blk {w : World} {n : Nat} {a : Option Addr} {S : Nat → St} (h : StepsR w a n S) (h0 : 0 < n) : ∀ x, a = some x → x.block < w.heap.size := by
  rcases h with h | ⟨b, off, rfl, h1, _⟩
  · omega
  · intro x hx; cases hx; exact h1
theorem heap_mut {C : Nat → Prop} {w w' : World} {b : Nat} {ob : Obj} (h : w.heap[b]? = some ob) (hm : Mut C w w') (hc : ¬ C b) : w'.heap[b]? = some ob := (hm.block b (lt_of_heap h) hc).trans h
set_option maxRecDepth 100000 in
set_option maxHeartbeats 8000000 in
theorem walk_any (F : FuncId) (caps : Array Value) (m : Ma) (j : Nat) (a : Option Addr) (n c : Nat) (S : Nat → St) (C : Nat → Prop) (Inv : Nat → World → Prop) (w : World) (hn : n ≤ 5000) (hj : j ≤ 5000) (hm : MB j m) (hok : ∀ i, i < n → SOk (S i))
    (hT : Tells F caps m S n w.heap.size C Inv) (hI : Inv 0 w) (hsr : 0 < n → ∀ x, a = some x → ¬ C x.block) (hp : StepsR w a n S) :
    Calls Try.prog 26 #[(.agg #[.int .i64 m.x, .int .i64 m.y, .int .i64 m.z, .int .i64 m.s, .int .i64 m.h, .int .i64 m.t, .int .i64 m.f, .bool m.r]), .slice a n c, .func (.func F) #[] caps] w fun e w' => e = .returned (.agg #[.int .i64 (runF m S n).x, .int .i64 (runF m S n).y, .int .i64 (runF m S n).z, .int .i64 (runF m S n).s, .int .i64 (runF m S n).h, .int .i64 (runF m S n).t, .int .i64 (runF m S n).f, .bool (runF m S n).r]) ∧ Inv n w' ∧ Mut C w w' := by
  have HT := Lib.hid hT
  have HI := Lib.hid hI
  have HSR := Lib.hid hsr
  have HP := Lib.hid hp
  have HOK := Lib.hid hok
  have HMB := Lib.hid hm
  clear hT hI hsr hp hok hm
  have HM0 : Hid (Mut C w ((w.alloc (.cells #[.int .i64 m.x, .int .i64 m.y, .int .i64 m.z, .int .i64 m.s, .int .i64 m.h, .int .i64 m.t, .int .i64 m.f, .bool m.r] 42)).alloc (.cells #[.int .i64 0, .int .i64 0, .int .i64 0, .int .i64 0, .int .i64 0, .int .i64 0, .int .i64 0, .bool false] 42))) := Lib.hid (((Mut.refl C w).alloc _).alloc _)
  have hx : ((w.alloc (.cells #[.int .i64 m.x, .int .i64 m.y, .int .i64 m.z, .int .i64 m.s, .int .i64 m.h, .int .i64 m.t, .int .i64 m.f, .bool m.r] 42)).alloc (.cells #[.int .i64 0, .int .i64 0, .int .i64 0, .int .i64 0, .int .i64 0, .int .i64 0, .int .i64 0, .bool false] 42)).heap[w.heap.size]? = some (.cells #[.int .i64 m.x, .int .i64 m.y, .int .i64 m.z, .int .i64 m.s, .int .i64 m.h, .int .i64 m.t, .int .i64 m.f, .bool m.r] 42 (0, 0)) := (Below.heap_alloc _ _ _ (by simp)).trans (heap_new rfl)
  have hz : ((w.alloc (.cells #[.int .i64 m.x, .int .i64 m.y, .int .i64 m.z, .int .i64 m.s, .int .i64 m.h, .int .i64 m.t, .int .i64 m.f, .bool m.r] 42)).alloc (.cells #[.int .i64 0, .int .i64 0, .int .i64 0, .int .i64 0, .int .i64 0, .int .i64 0, .int .i64 0, .bool false] 42)).heap[w.heap.size + 1]? = some (.cells #[.int .i64 0, .int .i64 0, .int .i64 0, .int .i64 0, .int .i64 0, .int .i64 0, .int .i64 0, .bool false] 42 (0, 0)) := heap_new (by simp)
  have HX := Lib.hid hx
  have HZ := Lib.hid hz
  have HI0 := Lib.hid (HT.out.kept 0 w ((w.alloc (.cells #[.int .i64 m.x, .int .i64 m.y, .int .i64 m.z, .int .i64 m.s, .int .i64 m.h, .int .i64 m.t, .int .i64 m.f, .bool m.r] 42)).alloc (.cells #[.int .i64 0, .int .i64 0, .int .i64 0, .int .i64 0, .int .i64 0, .int .i64 0, .int .i64 0, .bool false] 42)) HI.out (((Mut.refl _ w).alloc _).alloc _))
  clear hx hz HI
  obtain ⟨g, hg⟩ : ∃ g, g = w.heap.size := ⟨_, rfl⟩
  go_enter Try.func26, Try.ntmps26
  go_wp2_with (fail)
  generalize ((w.alloc (.cells #[.int .i64 m.x, .int .i64 m.y, .int .i64 m.z, .int .i64 m.s, .int .i64 m.h, .int .i64 m.t, .int .i64 m.f, .bool m.r] 42)).alloc (.cells #[.int .i64 0, .int .i64 0, .int .i64 0, .int .i64 0, .int .i64 0, .int .i64 0, .int .i64 0, .bool false] 42)) = w0 at *
  rw [← hg] at HT HX HZ ⊢
  have HG := Lib.hid hg
  clear hg
  go_loopw [12] (fun i wr => ∃ k : Nat, k ≤ n ∧ i = .int .i64 k ∧ wr.heap[g]? = some (.cells #[.int .i64 (runF m S k).x, .int .i64 (runF m S k).y, .int .i64 (runF m S k).z, .int .i64 (runF m S k).s, .int .i64 (runF m S k).h, .int .i64 (runF m S k).t, .int .i64 (runF m S k).f, .bool (runF m S k).r] 42 (0, 0)) ∧ wr.heap[g + 1]? = some (.cells #[.int .i64 0, .int .i64 0, .int .i64 0, .int .i64 0, .int .i64 0, .int .i64 0, .int .i64 0, .bool false] 42 (0, 0)) ∧ Inv k wr ∧ Mut C w wr) (fun i _ => n - (intOf i).toNat)
  case atStart => exact ⟨0, by omega, rfl, HX.out, HZ.out, HI0.out, HM0.out⟩
  case round =>
    clear HX HZ HI0 HM0
    obtain ⟨k, hk, rfl, hx, hz, hi, hmt⟩ := hrel
    have HX := Lib.hid hx
    have HZ := Lib.hid hz
    have HI := Lib.hid hi
    have HM := Lib.hid hmt
    have hgw := lt_of_heap hz
    have hgw0 : g < wr.heap.size := by omega
    clear hx hz hi hmt
    by_cases hlt : k < n
    · have HPk := Lib.hid (HP.out.mutC HM.out HSR.out)
      rcases HPk.out with h0 | ⟨b, off, rfl, hb, hd⟩
      · omega
      obtain ⟨c0, c1, c2, c3, c4, c5⟩ := hd k hlt
      have hbw : b < wr.heap.size := hb
      have HOKk := Lib.hid (HOK.out k hlt)
      have HMBk := Lib.hid (runF_mb (n := k) HMB.out (fun i hi => HOK.out i (by omega)))
      clear hd
      obtain ⟨s, hs⟩ : ∃ s, S k = s := ⟨_, rfl⟩
      obtain ⟨m1, hm1⟩ : ∃ m1, runF m S k = m1 := ⟨_, rfl⟩
      have hm2 : runF m S (k + 1) = aft m1 s := by rw [runF, hs, hm1]
      have HC := HT.out.call k wr
      rw [hm1, hm2] at HC
      have HC := Lib.hid HC
      rw [hs] at c0 c1 c2 c3 c4 c5 HOKk
      rw [hm1] at HX HMBk
      have RM2 := Lib.hid hm2
      clear hs hm1 hm2
      have d0 := cell_of HX.out (i := 0) rfl
      have d1 := cell_of HX.out (i := 1) rfl
      have d2 := cell_of HX.out (i := 2) rfl
      have d3 := cell_of HX.out (i := 3) rfl
      have d4 := cell_of HX.out (i := 4) rfl
      have d5 := cell_of HX.out (i := 5) rfl
      have d6 := cell_of HX.out (i := 6) rfl
      have d7 := cell_of HX.out (i := 7) rfl
      go_wp2_with (fail)
      have hb1 : Below wr.heap.size wr (wr.alloc (.cells #[.int .i64 s.k, .int .i64 s.x, .int .i64 s.y, .int .i64 s.z, .int .i64 s.f, .int .i64 s.n] 36)) := (Below.refl _ _).alloc (Nat.le_refl _) _
      have B1 := Lib.hid hb1
      clear hb1 c0 c1 c2 c3 c4 c5 d0 d1 d2 d3 d4 d5 d6 d7
      generalize (wr.alloc (.cells #[.int .i64 s.k, .int .i64 s.x, .int .i64 s.y, .int .i64 s.z, .int .i64 s.f, .int .i64 s.n] 36)) = w1 at *
      refine (done_any (j + k) m1 s _ HOKk.out HMBk.out (by omega)).mono ?_
      rintro e w2 ⟨rfl, hb2⟩
      replace B1 := Lib.hid (B1.out.trans (hb2.mono B1.out.size))
      clear hb2
      obtain ⟨m2, hm2⟩ : ∃ m2, aft m1 s = m2 := ⟨_, rfl⟩
      rw [hm2] at HC RM2 ⊢
      clear hm2
      have HXk := Lib.hid (heap_keep B1.out HX.out)
      have d0 := cell_of HXk.out (i := 0) rfl
      have d1 := cell_of HXk.out (i := 1) rfl
      have d2 := cell_of HXk.out (i := 2) rfl
      have d3 := cell_of HXk.out (i := 3) rfl
      have d4 := cell_of HXk.out (i := 4) rfl
      have d5 := cell_of HXk.out (i := 5) rfl
      have d6 := cell_of HXk.out (i := 6) rfl
      have d7 := cell_of HXk.out (i := 7) rfl
      have hgl := lt_of_heap HXk.out
      go_wp2_with (fail)
      rw [HT.out.enter, Oper.upon_enter]
      have hb3 : Below w2.heap.size w2 (w2.alloc (.cells #[.int .i64 m2.x, .int .i64 m2.y, .int .i64 m2.z, .int .i64 m2.s, .int .i64 m2.h, .int .i64 m2.t, .int .i64 m2.f, .bool m2.r] 42)) := (Below.refl _ _).alloc (Nat.le_refl _) _
      have HN := Lib.hid (heap_alloc_new w2 (.cells #[.int .i64 m2.x, .int .i64 m2.y, .int .i64 m2.z, .int .i64 m2.s, .int .i64 m2.h, .int .i64 m2.t, .int .i64 m2.f, .bool m2.r] 42))
      have B3 := Lib.hid (B1.out.trans (hb3.mono B1.out.size))
      have hsz2 := B1.out.size
      clear hb3 d0 d1 d2 d3 d4 d5 d6 d7 HXk hgl
      generalize (w2.alloc (.cells #[.int .i64 m2.x, .int .i64 m2.y, .int .i64 m2.z, .int .i64 m2.s, .int .i64 m2.h, .int .i64 m2.t, .int .i64 m2.f, .bool m2.r] 42)) = w3 at *
      obtain ⟨q, hq⟩ : ∃ q, w2.heap.size = q := ⟨_, rfl⟩
      rw [hq] at HN hsz2 ⊢
      clear hq
      refine (HC.out w3 hlt HI.out (by omega) B3.out).mono ?_
      rintro e w4 ⟨rfl, hi4, hm4⟩
      have HI4 := Lib.hid hi4
      have HX4 := Lib.hid (heap_mut (heap_keep B3.out HX.out) hm4 (fun h => by
        rcases h.2 with h | h
        · have := HT.out.below _ h; omega
        · omega))
      have HZ4 := Lib.hid (heap_mut (heap_keep B3.out HZ.out) hm4 (fun h => by
        rcases h.2 with h | h
        · have := HT.out.below _ h; omega
        · omega))
      have HN4 := Lib.hid (heap_mut HN.out hm4 (fun h => by have := h.1; omega))
      have HM4 : Hid (Mut C w w4) := Lib.hid ((HM.out.below B3.out).after hm4 (fun b hb h => h.2.elim id (fun h2 => by have := HG.out; omega)))
      clear hi4 hm4 HX HZ HN HM B3 B1 HC HI
      have d0 := cell_of HN4.out (i := 0) rfl
      have d1 := cell_of HN4.out (i := 1) rfl
      have d2 := cell_of HN4.out (i := 2) rfl
      have d3 := cell_of HN4.out (i := 3) rfl
      have d4 := cell_of HN4.out (i := 4) rfl
      have d5 := cell_of HN4.out (i := 5) rfl
      have d6 := cell_of HN4.out (i := 6) rfl
      have d7 := cell_of HN4.out (i := 7) rfl
      have e0 := cell_of HX4.out (i := 0) rfl
      have e1 := cell_of HX4.out (i := 1) rfl
      have e2 := cell_of HX4.out (i := 2) rfl
      have e3 := cell_of HX4.out (i := 3) rfl
      have e4 := cell_of HX4.out (i := 4) rfl
      have e5 := cell_of HX4.out (i := 5) rfl
      have e6 := cell_of HX4.out (i := 6) rfl
      have e7 := cell_of HX4.out (i := 7) rfl
      have g0 := fun i => frozen_of (i := i) HX4.out
      go_wp2_with (fail)
      obtain ⟨hx5, hm5⟩ := storeMa HX4.out (m2 := m2) rfl
      generalize ((((((((w4.setCell ⟨g, 0, none⟩ (.int .i64 m2.x)).setCell ⟨g, 1, none⟩ (.int .i64 m2.y)).setCell ⟨g, 2, none⟩ (.int .i64 m2.z)).setCell ⟨g, 3, none⟩ (.int .i64 m2.s)).setCell ⟨g, 4, none⟩ (.int .i64 m2.h)).setCell ⟨g, 5, none⟩ (.int .i64 m2.t)).setCell ⟨g, 6, none⟩ (.int .i64 m2.f)).setCell ⟨g, 7, none⟩ (.bool m2.r)) = w5 at *
      have HX5 := Lib.hid hx5
      have HZ5 := Lib.hid (heap_mut HZ4.out hm5 (by omega))
      have HI5 := Lib.hid (HT.out.kept _ _ _ HI4.out (hm5.mono (fun b _ h => .inl h)))
      have HM5 := Lib.hid (HM4.out.after hm5 (fun b hb h => by have := HG.out; omega))
      clear hx5 hm5 HX4 HZ4 HI4 HM4
      go_roundw
      case rel => exact ⟨k + 1, by omega, by go_num, by rw [RM2.out]; exact HX5.out, HZ5.out, HI5.out, HM5.out⟩
      case measure => simp [intOf]; omega
    · obtain rfl : n = k := by omega
      have d0 := cell_of HX.out (i := 0) rfl
      have d1 := cell_of HX.out (i := 1) rfl
      have d2 := cell_of HX.out (i := 2) rfl
      have d3 := cell_of HX.out (i := 3) rfl
      have d4 := cell_of HX.out (i := 4) rfl
      have d5 := cell_of HX.out (i := 5) rfl
      have d6 := cell_of HX.out (i := 6) rfl
      have d7 := cell_of HX.out (i := 7) rfl
      have e0 := cell_of HZ.out (i := 0) rfl
      have e1 := cell_of HZ.out (i := 1) rfl
      have e2 := cell_of HZ.out (i := 2) rfl
      have e3 := cell_of HZ.out (i := 3) rfl
      have e4 := cell_of HZ.out (i := 4) rfl
      have e5 := cell_of HZ.out (i := 5) rfl
      have e6 := cell_of HZ.out (i := 6) rfl
      have e7 := cell_of HZ.out (i := 7) rfl
      have g0 := fun i => frozen_of (i := i) HZ.out
      obtain ⟨mz, hmz⟩ : ∃ mz : Ma, m00 = mz := ⟨_, rfl⟩
      go_wp2_with (fail)
      have hzz : wr.heap[g + 1]? = some (.cells #[.int .i64 m00.x, .int .i64 m00.y, .int .i64 m00.z, .int .i64 m00.s, .int .i64 m00.h, .int .i64 m00.t, .int .i64 m00.f, .bool m00.r] 42 (0, 0)) := HZ.out
      obtain ⟨hx5, hm5⟩ := storeMa hzz (m2 := runF m S n) rfl
      generalize ((((((((wr.setCell ⟨(g + 1), 0, none⟩ (.int .i64 (runF m S n).x)).setCell ⟨(g + 1), 1, none⟩ (.int .i64 (runF m S n).y)).setCell ⟨(g + 1), 2, none⟩ (.int .i64 (runF m S n).z)).setCell ⟨(g + 1), 3, none⟩ (.int .i64 (runF m S n).s)).setCell ⟨(g + 1), 4, none⟩ (.int .i64 (runF m S n).h)).setCell ⟨(g + 1), 5, none⟩ (.int .i64 (runF m S n).t)).setCell ⟨(g + 1), 6, none⟩ (.int .i64 (runF m S n).f)).setCell ⟨(g + 1), 7, none⟩ (.bool (runF m S n).r)) = w5 at *
      have HI5 := Lib.hid (HT.out.kept _ _ _ HI.out (hm5.mono (fun b _ h => .inr h)))
      have HM5 := Lib.hid (HM.out.after hm5 (fun b hb h => by have := HG.out; omega))
      have d0 := cell_of hx5 (i := 0) rfl
      have d1 := cell_of hx5 (i := 1) rfl
      have d2 := cell_of hx5 (i := 2) rfl
      have d3 := cell_of hx5 (i := 3) rfl
      have d4 := cell_of hx5 (i := 4) rfl
      have d5 := cell_of hx5 (i := 5) rfl
      have d6 := cell_of hx5 (i := 6) rfl
      have d7 := cell_of hx5 (i := 7) rfl
      exact bodyPost_ret (v := (.agg #[.int .i64 (runF m S n).x, .int .i64 (runF m S n).y, .int .i64 (runF m S n).z, .int .i64 (runF m S n).s, .int .i64 (runF m S n).h, .int .i64 (runF m S n).t, .int .i64 (runF m S n).f, .bool (runF m S n).r])) (by simp [results, Try.results26, go_sem, d0, d1, d2, d3, d4, d5, d6, d7]) rfl ⟨rfl, HI5.out, HM5.out⟩
end Go.Proofs.Ytgmpmaiddombeaa

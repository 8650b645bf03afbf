/- Drawn cells, the draw. -/
import Derived.Test.YtllagjncibfcmaaGreatDoorKu
set_option linter.unusedSimpArgs false
set_option linter.unusedVariables false
namespace Go.Proofs.YtllagjncibfcmaaGreatDoor
open Go.RowKit

theorem lin_mul {st q : Int} (h1 : 2 ≤ st) (h2 : st ≤ 10000) (h3 : -3 ≤ q) (h4 : q ≤ 3) : -30000 ≤ st * q ∧ st * q ≤ 30000 := by
  have : q = -3 ∨ q = -2 ∨ q = -1 ∨ q = 0 ∨ q = 1 ∨ q = 2 ∨ q = 3 := by omega
  rcases this with rfl | rfl | rfl | rfl | rfl | rfl | rfl <;> omega
/-- Cells that were drawn. -/
def ACellsE (B k : Nat) (w : World) (e : Ending) (w' : World) : Prop :=
  ∃ z x y a n c R, e = .returned (.agg #[.int .i64 z, .int .i64 x, .int .i64 y, .slice a n c]) ∧ RowS w' a n R ∧ (∀ i, i < n → (R i).length ≤ 1000) ∧ n ≤ 1000000 ∧ Strm w' B k ∧ Mut (· = B) w w'
theorem own_mutr {w w' : World} {base B : Nat} {e : TypeId} {size : Nat} {v : Value} {n : Nat} {xs : List Value} (h : w.ownsRow base e size v n xs) (hm : Mut (· = B) w w') (hB : B < base) : w'.ownsRow base e size v n xs := by
  obtain ⟨h1, h2⟩ := h
  refine ⟨h1, ?_⟩
  rcases h2 with h2 | ⟨g, cap, cur, hv, hg, hh, r⟩
  · exact .inl h2
  · refine .inr ⟨g, cap, cur, hv, hg, ?_, r⟩
    rw [hm.block g (lt_of_heap hh) (by omega)]; exact hh
theorem okR_app {S T : List UInt8} (h1 : okR S = true) (h2 : okR T = true) : okR (S ++ T) = true := by
  unfold okR at *; rw [List.all_append, h1, h2]; rfl
theorem str_app (S T : List UInt8) : (⟨S.toArray⟩ : ByteArray) ++ ⟨T.toArray⟩ = ⟨(S ++ T).toArray⟩ := by
  apply ByteArray.ext
  rw [ByteArray.data_append]
  simp
def svs (l : List (List UInt8)) : List Value := l.map fun T => .string ⟨T.toArray⟩
/-- The cells under way. -/
structure AC (w W : World) (B b0 kk : Nat) (st X Y : Int) (v : Value) (t : Nat) (Ts : List (List UInt8)) : Prop where
  r : W.heap[w.heap.size]? = some (.cells #[.int .i64 0, .int .i64 0, .int .i64 0, .slice none 0 0] 28 (0, 0))
  m : W.heap[b0]? = some (.cells #[.int .i64 st, .int .i64 X, .int .i64 Y, v] 28 (0, 0))
  o : W.ownsRow (b0 + 1) 9 1 v t (svs Ts)
  l : Ts.length = t
  g : ∀ T ∈ Ts, okR T = true ∧ T.length ≤ 7
  s : Strm W B kk
  u : Mut (· = B) w W
  z : w.heap.size < b0
  y : b0 < W.heap.size
theorem AC.mut {w W W' : World} {B b0 kk kk' : Nat} {st X Y : Int} {v : Value} {t : Nat} {Ts : List (List UInt8)} (h : AC w W B b0 kk st X Y v t Ts) (hB : B < w.heap.size) (hm : Mut (· = B) W W') (hs : Strm W' B kk') : AC w W' B b0 kk' st X Y v t Ts := by
  have hz := h.z
  have hy := h.y
  exact ⟨(hm.block _ (by omega) (by omega)).trans h.r, (hm.block _ (by omega) (by omega)).trans h.m, own_mutr h.o hm (by omega), h.l, h.g, hs, h.u.trans (hm.mono fun _ _ h => h), h.z, by have := hm.size; omega⟩
theorem AC.app {w W W2 : World} {B b0 kk t : Nat} {st X Y : Int} {v v2 : Value} {Ts : List (List UInt8)} {o : Obj} {T : List UInt8} (h : AC w W B b0 kk st X Y v t Ts) (hB : B < w.heap.size) (hg : (W.alloc o).grownBy W2 v.ownBlock)
    (ho : W2.ownsRow (b0 + 1) 9 1 v2 (t + 1) (svs Ts ++ [.string ⟨T.toArray⟩])) (hT : okR T = true) (hl : T.length ≤ 7) : AC w (W2.setCell ⟨b0, 3, none⟩ v2) B b0 kk st X Y v2 (t + 1) (Ts ++ [T]) := by
  have hz := h.z
  have hy := h.y
  have B1 : Below (b0 + 1) W W2 := Below.grown (Below.alloc (Below.refl _ W) (by omega) _) hg (by simp; omega) (fun b hb => (h.o.lt b hb).1)
  have M2 : Mut (· = b0) W2 (W2.setCell ⟨b0, 3, none⟩ v2) := Mut.setCell (S := (· = b0)) (p := ⟨b0, 3, none⟩) (Mut.refl _ W2) (fun _ => rfl) _
  have hm := (B1.block b0 (by omega)).trans h.m
  have hu := h.u
  have hs1 := B1.size
  refine ⟨(M2.block _ (by omega) (by omega)).trans ((B1.block _ (by omega)).trans h.r), ?_, own_mutr (by unfold svs at *; rw [List.map_append]; exact ho) M2 (by omega), by simp [h.l], fun x hx => ?_, (h.s.kept (S := (b0 + 1 ≤ ·)) ⟨B1.os, B1.tape, B1.output, B1.size, fun k _ hn => B1.block k (Nat.lt_of_not_le hn)⟩ (fun x hx e => ?_)).kept M2 (fun x hx e => ?_), ?_, hz, by have := M2.size; omega⟩
  · simp [World.setCell, Array.getElem?_modify, hm]
  · rcases List.mem_append.1 hx with hx | hx
    · exact h.g x hx
    · simp only [List.mem_singleton] at hx
      subst hx
      exact ⟨hT, hl⟩
  · have e' : b0 + 1 ≤ x := e; omega
  · have e' : x = b0 := e; omega
  · exact ⟨M2.os.trans (B1.os.trans hu.os), M2.tape.trans (B1.tape.trans hu.tape), M2.output.trans (B1.output.trans hu.output), Nat.le_trans hu.size (Nat.le_trans hs1 M2.size), fun k hk hn => (M2.block k (by have := hu.size; omega) (by omega)).trans ((B1.block k (by omega)).trans (hu.block k hk hn))⟩
theorem AC.more {w W : World} {B b0 kk kk' t : Nat} {st X Y : Int} {v : Value} {Ts : List (List UInt8)} (h : AC w W B b0 kk st X Y v t Ts) (hk : kk ≤ kk') (h2 : kk' ≤ 1000000) : AC w W B b0 kk' st X Y v t Ts := ⟨h.r, h.m, h.o, h.l, h.g, h.s.more hk h2, h.u, h.z, h.y⟩
theorem svs_strV (Ts : List (List UInt8)) : svs Ts = strV (fun i => Ts.getD i []) Ts.length := by
  apply List.ext_getElem?
  intro i
  by_cases h : i < Ts.length
  · rw [strV_at _ _ _ h]
    simp [svs, h]
  · rw [List.getElem?_eq_none (by simp [svs]; omega), List.getElem?_eq_none (by rw [strV_len]; omega)]
theorem rows_svs {w : World} {base n c : Nat} {a : Option Addr} {Ts : List (List UInt8)} (h : w.ownsRow base 9 1 (.slice a n c) n (svs Ts)) (hl : Ts.length = n) : RowS w a n (fun i => Ts.getD i []) := by
  subst hl
  rw [svs_strV] at h
  exact (rows_of_own h).1
theorem getD_of {P : List UInt8 → Prop} {Ts : List (List UInt8)} (h : ∀ T ∈ Ts, P T) (i : Nat) (hi : i < Ts.length) : P (Ts.getD i []) := by
  rw [List.getD_eq_getElem?_getD, List.getElem?_eq_getElem hi]
  exact h _ (List.getElem_mem hi)
theorem ac_fin {w W W4 : World} {B kk K n : Nat} {x0 x1 x2 x3 : Value} {a : Option Addr} {R : Nat → List UInt8} (hz : W.heap[w.heap.size]? = some (.cells #[.int .i64 0, .int .i64 0, .int .i64 0, .slice none 0 0] 28 (0, 0))) (hr : RowS W a n R) (hs : Strm W B kk) (hkk : kk ≤ K) (hK : K ≤ 1000000) (hu : Mut (· = B) w W) (hB : B < w.heap.size)
    (hW : ((((W.setCell ⟨w.heap.size, 0, none⟩ x0).setCell ⟨w.heap.size, 1, none⟩ x1).setCell ⟨w.heap.size, 2, none⟩ x2).setCell ⟨w.heap.size, 3, none⟩ x3) = W4) :
    (W4.cell? ⟨w.heap.size, 0, none⟩ = some x0 ∧ W4.cell? ⟨w.heap.size, 1, none⟩ = some x1 ∧ W4.cell? ⟨w.heap.size, 2, none⟩ = some x2 ∧ W4.cell? ⟨w.heap.size, 3, none⟩ = some x3) ∧ RowS W4 a n R ∧ Strm W4 B K ∧ Mut (· = B) w W4 := by
  have M4 : Mut (· = w.heap.size) W W4 := by
    rw [← hW]
    exact Mut.setCell (p := ⟨w.heap.size, 3, none⟩) (Mut.setCell (p := ⟨w.heap.size, 2, none⟩) (Mut.setCell (p := ⟨w.heap.size, 1, none⟩) (Mut.setCell (p := ⟨w.heap.size, 0, none⟩) (Mut.refl (· = w.heap.size) W) (fun _ => rfl) _) (fun _ => rfl) _) (fun _ => rfl) _) (fun _ => rfl) _
  refine ⟨set4 (is4 (is_some (cell_of hz rfl)) (is_some (cell_of hz rfl)) (is_some (cell_of hz rfl)) (is_some (cell_of hz rfl))) hW, ?_, (hs.kept M4 (fun x hx e => by have e' : x = w.heap.size := e; omega)).more hkk hK,
    ⟨M4.os.trans hu.os, M4.tape.trans hu.tape, M4.output.trans hu.output, Nat.le_trans hu.size M4.size, fun k hk hn => (M4.block k (by have := hu.size; omega) (by omega)).trans (hu.block k hk hn)⟩⟩
  rcases Nat.eq_zero_or_pos n with h0 | h0
  · exact .inl h0
  rcases hr with h | ⟨b, off, rfl, h1, h2⟩
  · exact .inl h
  have hb : b ≠ w.heap.size := by
    rintro rfl
    have h3 := h2 0 h0
    simp only [World.cell?, hz, Nat.add_zero] at h3
    match off, h3 with
    | 0, h3 => simp at h3
    | 1, h3 => simp at h3
    | 2, h3 => simp at h3
    | 3, h3 => simp at h3
    | k + 4, h3 => simp at h3
  rw [← hW]
  have hr : RowS W (some ⟨b, off, none⟩) n R := .inr ⟨b, off, rfl, h1, h2⟩
  have hp : ∀ b' off', some (⟨b, off, none⟩ : Addr) = some ⟨b', off', none⟩ → b' ≠ w.heap.size := by
    intro b' off' e; cases e; exact hb
  exact (((hr.set ⟨_, 0, none⟩ x0 hp).set ⟨_, 1, none⟩ x1 hp).set ⟨_, 2, none⟩ x2 hp).set ⟨_, 3, none⟩ x3 hp
theorem AC.put {w W : World} {B b0 kk t c : Nat} {a : Option Addr} {st X Y : Int} {Ts : List (List UInt8)} (h : AC w W B b0 kk st X Y (.slice a t c) t Ts) (hB : B < w.heap.size) (o : Nat) (u : Value) :
    (W.setCell ⟨b0, o, none⟩ u).heap[w.heap.size]? = some (.cells #[.int .i64 0, .int .i64 0, .int .i64 0, .slice none 0 0] 28 (0, 0)) ∧ RowS (W.setCell ⟨b0, o, none⟩ u) a t (fun i => Ts.getD i []) ∧ Strm (W.setCell ⟨b0, o, none⟩ u) B kk ∧ Mut (· = B) w (W.setCell ⟨b0, o, none⟩ u) := by
  have hz := h.z
  have hu := h.u
  have M2 : Mut (· = b0) W (W.setCell ⟨b0, o, none⟩ u) := Mut.setCell (S := (· = b0)) (p := ⟨b0, o, none⟩) (Mut.refl _ W) (fun _ => rfl) _
  exact ⟨(M2.block _ (by have := h.y; omega) (by omega)).trans h.r, rows_svs (own_mutr h.o M2 (by omega)) h.l, h.s.kept M2 (fun x hx e => by have e' : x = b0 := e; omega),
    ⟨M2.os.trans hu.os, M2.tape.trans hu.tape, M2.output.trans hu.output, Nat.le_trans hu.size M2.size, fun k hk hn => (M2.block k (by have := hu.size; omega) (by omega)).trans (hu.block k hk hn)⟩⟩
theorem AC.row {w W : World} {B b0 kk t c g rn : Nat} {st X Y : Int} {Ts : List (List UInt8)} (h : AC w W B b0 kk st X Y (.slice (some ⟨g, 0, none⟩) t c) t Ts) (hB : B < w.heap.size) (hr : rn < t) (T : List UInt8) :
    (W.setCell ⟨g, rn, none⟩ (.string ⟨T.toArray⟩)).heap[w.heap.size]? = some (.cells #[.int .i64 0, .int .i64 0, .int .i64 0, .slice none 0 0] 28 (0, 0)) ∧ RowS (W.setCell ⟨g, rn, none⟩ (.string ⟨T.toArray⟩)) (some ⟨g, 0, none⟩) t (fun i => if i = rn then T else Ts.getD i []) ∧ Strm (W.setCell ⟨g, rn, none⟩ (.string ⟨T.toArray⟩)) B kk ∧ Mut (· = B) w (W.setCell ⟨g, rn, none⟩ (.string ⟨T.toArray⟩)) ∧
    (W.setCell ⟨g, rn, none⟩ (.string ⟨T.toArray⟩)).heap[b0]? = some (.cells #[.int .i64 st, .int .i64 X, .int .i64 Y, .slice (some ⟨g, 0, none⟩) t c] 28 (0, 0)) := by
  have hz := h.z
  have hy := h.y
  have hu := h.u
  obtain ⟨hg1, hg2⟩ := h.o.lt g rfl
  have M2 : Mut (· = g) W (W.setCell ⟨g, rn, none⟩ (.string ⟨T.toArray⟩)) := Mut.setCell (S := (· = g)) (p := ⟨g, rn, none⟩) (Mut.refl _ W) (fun _ => rfl) _
  refine ⟨(M2.block _ (by omega) (by omega)).trans h.r, ?_, h.s.kept M2 (fun x hx e => by have e' : x = g := e; omega),
    ⟨M2.os.trans hu.os, M2.tape.trans hu.tape, M2.output.trans hu.output, Nat.le_trans hu.size M2.size, fun k hk hn => (M2.block k (by have := hu.size; omega) (by omega)).trans (hu.block k hk hn)⟩, (M2.block _ (by omega) (by omega)).trans h.m⟩
  rcases rows_svs h.o h.l with h0 | ⟨b, off, e, h1, h2⟩
  · omega
  · cases e
    refine .inr ⟨g, 0, rfl, by have := M2.size; omega, fun i hi => ?_⟩
    have h3 := h2 i hi
    rw [Nat.zero_add] at h3 ⊢
    by_cases e : i = rn
    · subst e
      simp only [if_true]
      first | exact World.cell?_setCell_same W ⟨g, i, none⟩ (.string ⟨T.toArray⟩) h3 | exact World.cell?_setCell_same _ _ _ h3
    · simp only [if_neg e]
      rw [World.cell?_setCell_other W ⟨g, rn, none⟩ ⟨g, i, none⟩ _ (fun q => by first | (injection q with q1 q2 q3; omega) | (apply e; simpa using q) | (apply e; simpa using q.symm))]
      exact h3
set_option maxRecDepth 100000 in
set_option maxHeartbeats 16000000 in
theorem aCells_any (B k : Nat) (st : Int) (w : World) (hs : Strm w B k) (hk : k + 60 ≤ 1000000) (hst : st = 2 ∨ st = 4 ∨ st = 10) :
    Calls Tryz.prog 4 #[.pointer (some ⟨B, 0, none⟩), .int .i64 st] w (ACellsE B (k + 60) w) := by
  have hBl := hs.lt
  obtain ⟨i0, hi0, hz0, hz1, hz2⟩ := info_parts info_str
  have hs2 : 2 ≤ st ∧ st ≤ 10000 := by omega
  have HS0 := Lib.hid hs
  clear hs
  go_enter Tryz.func4, Tryz.ntmps4
  go_wp2_with (fail)
  have HSa := Lib.hid (HS0.out.alloc (.cells #[.int .i64 0, .int .i64 0, .int .i64 0, .slice none 0 0] 28))
  have HZ : Hid ((w.alloc (.cells #[.int .i64 0, .int .i64 0, .int .i64 0, .slice none 0 0] 28)).heap[w.heap.size]? = some (.cells #[.int .i64 0, .int .i64 0, .int .i64 0, .slice none 0 0] 28 (0, 0))) := Lib.hid (heap_new rfl)
  have HM0 : Hid (Mut (· = B) w (w.alloc (.cells #[.int .i64 0, .int .i64 0, .int .i64 0, .slice none 0 0] 28))) := Lib.hid ((Mut.refl _ _).alloc _)
  have hlz : w.heap.size < (w.alloc (.cells #[.int .i64 0, .int .i64 0, .int .i64 0, .slice none 0 0] 28)).heap.size := by simp
  generalize (w.alloc (.cells #[.int .i64 0, .int .i64 0, .int .i64 0, .slice none 0 0] 28)) = w0 at *
  refine (range_any B k 1 7 _ HSa.out (by omega) (by omega) (by omega) (by omega)).mono ?_
  rintro e w1 ⟨⟨wd, rfl, hw1, hw2⟩, hs1, hm1⟩
  have HS1 := Lib.hid hs1
  have HM1 := Lib.hid (HM0.out.trans (hm1.mono fun _ _ h => h))
  have HZ1 := Lib.hid ((hm1.block w.heap.size hlz (by omega)).trans HZ.out)
  have hl1 := hm1.size
  clear hs1 hm1
  go_wp2_with (fail)
  refine (range_any B (k + 1) (-3) 3 _ HS1.out (by omega) (by omega) (by omega) (by omega)).mono ?_
  rintro e w2 ⟨⟨q1, rfl, hq1, hq2⟩, hs2', hm2⟩
  have HS2 := Lib.hid hs2'
  have HM2 := Lib.hid (HM1.out.trans (hm2.mono fun _ _ h => h))
  have HZ2 := Lib.hid ((hm2.block w.heap.size (by omega) (by omega)).trans HZ1.out)
  have hl2 := hm2.size
  clear hs2' hm2
  have F1 := lin_mul (st := st) (q := q1) hs2.1 hs2.2 hq1 hq2
  go_wp2_with (fail)
  refine (range_any B (k + 1 + 1) (-3) 3 _ HS2.out (by omega) (by omega) (by omega) (by omega)).mono ?_
  rintro e w3 ⟨⟨q2, rfl, hq3, hq4⟩, hs3', hm3⟩
  have HS3 := Lib.hid hs3'
  have HM3 := Lib.hid (HM2.out.trans (hm3.mono fun _ _ h => h))
  have HZ3 := Lib.hid ((hm3.block w.heap.size (by omega) (by omega)).trans HZ2.out)
  have hl3 := hm3.size
  clear hs3' hm3
  have F2 := lin_mul (st := st) (q := q2) hs2.1 hs2.2 hq3 hq4
  go_wp2_with (fail)
  have hl4 : (w3.alloc (.cells #[.int .i64 st, .int .i64 (st * q1), .int .i64 (st * q2), .slice none 0 0] 28)).heap.size = w3.heap.size + 1 := by simp
  have HA0 : Hid (AC w (w3.alloc (.cells #[.int .i64 st, .int .i64 (st * q1), .int .i64 (st * q2), .slice none 0 0] 28)) B w3.heap.size (k + 1 + 1 + 1) st (st * q1) (st * q2) (.slice none 0 0) 0 []) :=
    Lib.hid ⟨(Below.heap_alloc _ _ _ (by omega)).trans HZ3.out, heap_new (by simp), World.ownsRow_nil _ _ _ _, rfl, by simp, HS3.out.alloc _, HM3.out.alloc _, by omega, by omega⟩
  generalize (w3.alloc (.cells #[.int .i64 st, .int .i64 (st * q1), .int .i64 (st * q2), .slice none 0 0] 28)) = w4 at *
  refine (range_any B _ 1 6 _ HA0.out.s (by omega) (by omega) (by omega) (by omega)).mono ?_
  rintro e w5 ⟨⟨mm, rfl, hmm1, hmm2⟩, hs5, hm5⟩
  have HA5 := Lib.hid (HA0.out.mut hBl hm5 hs5)
  clear HA0 hs5 hm5 HZ3 HZ2 HZ1 HZ HS3 HS2 HS1 HM0 HM1 HM2 HM3
  obtain ⟨m, rfl⟩ := Int.eq_ofNat_of_zero_le (show 0 ≤ mm by omega)
  obtain ⟨wi, rfl⟩ := Int.eq_ofNat_of_zero_le (show 0 ≤ wd by omega)
  generalize st * q1 = X at *
  generalize st * q2 = Y at *
  generalize w3.heap.size = b0 at *
  go_wp2_with (fail)
  go_loopw [22] (fun i wr => ∃ t : Nat, t ≤ m ∧ i = .int .i64 t ∧ ∃ a c Ts, AC w wr B b0 (k + 4 + 7 * t) st X Y (.slice a t c) t Ts) (fun i _ => m - (intOf i).toNat)
  case atStart => exact ⟨0, by omega, rfl, none, 0, [], HA5.out⟩
  case round =>
    obtain ⟨t, ht, rfl, a, c, Ts, hac⟩ := hrel
    have HAT := Lib.hid hac
    clear hac HA5
    by_cases htl : t < m
    · go_wp2_with (fail)
      go_loopw [7, 25] (fun v i wr => ∃ j : Nat, j ≤ wi ∧ i = .int .i64 j ∧ ∃ T : List UInt8, v = .string ⟨T.toArray⟩ ∧ okR T = true ∧ T.length ≤ j ∧ AC w wr B b0 (k + 4 + 7 * t + j) st X Y (.slice a t c) t Ts) (fun _ i _ => wi - (intOf i).toNat)
      case atStart => exact ⟨0, by omega, rfl, [], rfl, rfl, by simp, HAT.out⟩
      case round =>
        obtain ⟨j, hj, rfl, T, rfl, hokT, hlT, hac⟩ := hrel
        have HAJ := Lib.hid hac
        have HTO := Lib.hid hokT
        clear hac HAT hokT
        by_cases hjl : j < wi
        · go_wp2_with (fail)
          refine (some_new B _ [[35], [35], [35], [46]] 4 (fun z => okR z = true ∧ z.length ≤ 1) wr HAJ.out.s (by omega) rfl (by omega) (by omega) (by decide)).mono ?_
          rintro e w6 ⟨⟨T6, rfl, h61, h62⟩, hs6, hm6⟩
          have HA6 := Lib.hid (HAJ.out.mut hBl hm6 hs6)
          have HT6 := Lib.hid (okR_app HTO.out h61)
          have hst6 := str_app T T6
          clear hs6 hm6 h61
          go_wp2_with (fail)
          go_roundw
          case rel => exact ⟨j + 1, by omega, by go_num, T ++ T6, rfl, HT6.out, by simp; omega, HA6.out⟩
          case measure => simp [intOf]; omega
        · have hac := HAJ.out.m
          have hlt := HAJ.out.y
          have mc0 : wr.cell? ⟨b0, 0, none⟩ = some (.int .i64 st) := (by simp [World.cell?, hac]); have mf0 : wr.frozen? ⟨b0, 0, none⟩ = false := (by simp [World.frozen?, hac]); have mc1 : wr.cell? ⟨b0, 1, none⟩ = some (.int .i64 X) := (by simp [World.cell?, hac]); have mf1 : wr.frozen? ⟨b0, 1, none⟩ = false := (by simp [World.frozen?, hac]); have mc2 : wr.cell? ⟨b0, 2, none⟩ = some (.int .i64 Y) := (by simp [World.cell?, hac]); have mf2 : wr.frozen? ⟨b0, 2, none⟩ = false := (by simp [World.frozen?, hac]); have mc3 : wr.cell? ⟨b0, 3, none⟩ = some (.slice a t c) := (by simp [World.cell?, hac]); have mf3 : wr.frozen? ⟨b0, 3, none⟩ = false := (by simp [World.frozen?, hac])
          clear hac
          go_wp2_with (at_builtin; refine wpList_append_own _ rfl _ _ 26 rfl (b0 + 1) 9 i0 (.string ⟨#[]⟩) 1 16 Tryz.underlying26 hi0 hz0 hz1 hz2 rfl (by decide) _ _ _ rfl (HAJ.out.o.alloc _) ⟨wr.heap.size, 0, none⟩ 1 1 [.string ⟨T.toArray⟩] rfl rfl ?c1 ?c2 ?c3 ?c4 ?c5 ?_)
          case c1 =>
            intro j u hj
            match j, hj with
            | 0, hj => simp at hj; subst hj; simp [Addr.add]
          case c2 => intro u hu; simp at hu; subst hu; rfl
          case c3 => unfold maxLen; omega
          case c4 => omega
          case c5 => simp; omega
          intro v' w7 hown' hgrow _
          have HA7 := Lib.hid ((HAJ.out.app hBl hgrow hown' HTO.out (by omega)).more (kk' := k + 4 + 7 * (t + 1)) (by omega) (by omega))
          obtain ⟨a7, c7, rfl⟩ : ∃ a7 c7, v' = .slice a7 (t + 1) c7 := by
            rcases hown'.2 with ⟨_, h0⟩ | ⟨g, cap, cur, hv, _⟩
            · omega
            · exact ⟨_, _, hv⟩
          have hm7 := (Below.grown (Below.alloc (Below.refl (b0 + 1) wr) (by omega) (.cells #[.string ⟨T.toArray⟩] 9)) hgrow (by simp; omega) (fun b hb => (HAJ.out.o.lt b hb).1)).block b0 (by omega)
          have hac := hm7.trans HAJ.out.m
          clear hgrow hown' hm7 mc0 mf0 mc1 mf1 mc2 mf2 mc3 mf3
          have mc0 : w7.cell? ⟨b0, 0, none⟩ = some (.int .i64 st) := (by simp [World.cell?, hac]); have mf0 : w7.frozen? ⟨b0, 0, none⟩ = false := (by simp [World.frozen?, hac]); have mc1 : w7.cell? ⟨b0, 1, none⟩ = some (.int .i64 X) := (by simp [World.cell?, hac]); have mf1 : w7.frozen? ⟨b0, 1, none⟩ = false := (by simp [World.frozen?, hac]); have mc2 : w7.cell? ⟨b0, 2, none⟩ = some (.int .i64 Y) := (by simp [World.cell?, hac]); have mf2 : w7.frozen? ⟨b0, 2, none⟩ = false := (by simp [World.frozen?, hac]); have mc3 : w7.cell? ⟨b0, 3, none⟩ = some (.slice a t c) := (by simp [World.cell?, hac]); have mf3 : w7.frozen? ⟨b0, 3, none⟩ = false := (by simp [World.frozen?, hac])
          clear hac
          go_wp2_with (fail)
          go_roundw
          case rel => exact ⟨t + 1, by omega, by go_num, a7, c7, Ts ++ [T], HA7.out⟩
          case measure => simp [intOf]; omega
    · obtain rfl : t = m := by omega
      go_wp2_with (fail)
      refine (flip_any B _ 12 wr HAT.out.s (by omega) (by omega) (by omega)).mono ?_
      rintro e w8 ⟨⟨b, rfl⟩, hs8, hm8⟩
      have HA8 := Lib.hid (HAT.out.mut hBl hm8 hs8)
      have hlen := HAT.out.l
      clear HAT hs8 hm8
      have hz8 := HA8.out.r
      have hac := HA8.out.m
      have hy8 := HA8.out.y
      have hzz8 := HA8.out.z
      have mc0 : w8.cell? ⟨b0, 0, none⟩ = some (.int .i64 st) := (by simp [World.cell?, hac]); have mf0 : w8.frozen? ⟨b0, 0, none⟩ = false := (by simp [World.frozen?, hac]); have mc1 : w8.cell? ⟨b0, 1, none⟩ = some (.int .i64 X) := (by simp [World.cell?, hac]); have mf1 : w8.frozen? ⟨b0, 1, none⟩ = false := (by simp [World.frozen?, hac]); have mc2 : w8.cell? ⟨b0, 2, none⟩ = some (.int .i64 Y) := (by simp [World.cell?, hac]); have mf2 : w8.frozen? ⟨b0, 2, none⟩ = false := (by simp [World.frozen?, hac]); have mc3 : w8.cell? ⟨b0, 3, none⟩ = some (.slice a t c) := (by simp [World.cell?, hac]); have mf3 : w8.frozen? ⟨b0, 3, none⟩ = false := (by simp [World.frozen?, hac]); have zc0 : w8.cell? ⟨w.heap.size, 0, none⟩ = some (.int .i64 0) := (by simp [World.cell?, hz8]); have zf0 : w8.frozen? ⟨w.heap.size, 0, none⟩ = false := (by simp [World.frozen?, hz8]); have zc1 : w8.cell? ⟨w.heap.size, 1, none⟩ = some (.int .i64 0) := (by simp [World.cell?, hz8]); have zf1 : w8.frozen? ⟨w.heap.size, 1, none⟩ = false := (by simp [World.frozen?, hz8]); have zc2 : w8.cell? ⟨w.heap.size, 2, none⟩ = some (.int .i64 0) := (by simp [World.cell?, hz8]); have zf2 : w8.frozen? ⟨w.heap.size, 2, none⟩ = false := (by simp [World.frozen?, hz8]); have zc3 : w8.cell? ⟨w.heap.size, 3, none⟩ = some (.slice none 0 0) := (by simp [World.cell?, hz8]); have zf3 : w8.frozen? ⟨w.heap.size, 3, none⟩ = false := (by simp [World.frozen?, hz8])
      clear hac hz8
      cases b
      · go_wp2_with (fail)
        refine (trimmedRef_any st X Y a t c (fun i => Ts.getD i []) w8 _ _ (rows_svs HA8.out.o hlen) (fun i hi => (getD_of HA8.out.g i (by omega)).1) (fun i hi => by have := (getD_of HA8.out.g i (by omega)).2; omega) (by omega) hs2 (by omega) (by omega) rfl rfl).mono ?_
        rintro e w9 ⟨z, x, y, a9, n9, c9, R9, rfl, hr9, hl9, hn9, hb9⟩
        have hz9 := (hb9.block w.heap.size (by omega)).trans HA8.out.r
        clear mc0 mf0 mc1 mf1 mc2 mf2 mc3 mf3 zc0 zf0 zc1 zf1 zc2 zf2 zc3 zf3
        have HZ9 := Lib.hid hz9
        have zc0 : w9.cell? ⟨w.heap.size, 0, none⟩ = some (.int .i64 0) := (by simp [World.cell?, hz9]); have zf0 : w9.frozen? ⟨w.heap.size, 0, none⟩ = false := (by simp [World.frozen?, hz9]); have zc1 : w9.cell? ⟨w.heap.size, 1, none⟩ = some (.int .i64 0) := (by simp [World.cell?, hz9]); have zf1 : w9.frozen? ⟨w.heap.size, 1, none⟩ = false := (by simp [World.frozen?, hz9]); have zc2 : w9.cell? ⟨w.heap.size, 2, none⟩ = some (.int .i64 0) := (by simp [World.cell?, hz9]); have zf2 : w9.frozen? ⟨w.heap.size, 2, none⟩ = false := (by simp [World.frozen?, hz9]); have zc3 : w9.cell? ⟨w.heap.size, 3, none⟩ = some (.slice none 0 0) := (by simp [World.cell?, hz9]); have zf3 : w9.frozen? ⟨w.heap.size, 3, none⟩ = false := (by simp [World.frozen?, hz9])
        clear hz9
        have HR9 := Lib.hid hr9
        have HL9 := Lib.hid hl9
        have HS9 := Lib.hid (HA8.out.s.kept (S := (w8.heap.size ≤ ·)) ⟨hb9.os, hb9.tape, hb9.output, hb9.size, fun k _ hn => hb9.block k (Nat.lt_of_not_le hn)⟩ (fun q hq e => by have e' : w8.heap.size ≤ q := e; omega))
        have HM9 := Lib.hid (HA8.out.u.below hb9)
        clear hr9 hl9 hb9
        go_wp2_with (fail)
        obtain ⟨⟨r0, r1, r2, r3⟩, hrF, hsF, hmF⟩ := ac_fin HZ9.out HR9.out HS9.out (K := k + 60) (by omega) (by omega) HM9.out hBl rfl (x0 := .int .i64 z) (x1 := .int .i64 x) (x2 := .int .i64 y) (x3 := .slice a9 n9 c9)
        exact bodyPost_ret (v := .agg #[.int .i64 z, .int .i64 x, .int .i64 y, .slice a9 n9 c9]) (by simp [results, Tryz.results4, go_sem, r0, r1, r2, r3]) rfl ⟨z, x, y, a9, n9, c9, R9, rfl, hrF, HL9.out, hn9, hsF, hmF⟩
      · go_wp2_with (fail)
        refine (next_any B _ 4 w8 HA8.out.s (by omega) (by omega) (by omega)).mono ?_
        rintro e w9 ⟨⟨r, rfl, hr1, hr2⟩, hs9, hm9⟩
        have HAX := Lib.hid (HA8.out.mut hBl hm9 hs9)
        have hl9 := hm9.size
        clear HA8 hs9 hm9 mc0 mf0 mc1 mf1 mc2 mf2 mc3 mf3 zc0 zf0 zc1 zf1 zc2 zf2 zc3 zf3
        have hz9 := HAX.out.r
        have hac := HAX.out.m
        have mc0 : w9.cell? ⟨b0, 0, none⟩ = some (.int .i64 st) := (by simp [World.cell?, hac]); have mf0 : w9.frozen? ⟨b0, 0, none⟩ = false := (by simp [World.frozen?, hac]); have mc1 : w9.cell? ⟨b0, 1, none⟩ = some (.int .i64 X) := (by simp [World.cell?, hac]); have mf1 : w9.frozen? ⟨b0, 1, none⟩ = false := (by simp [World.frozen?, hac]); have mc2 : w9.cell? ⟨b0, 2, none⟩ = some (.int .i64 Y) := (by simp [World.cell?, hac]); have mf2 : w9.frozen? ⟨b0, 2, none⟩ = false := (by simp [World.frozen?, hac]); have mc3 : w9.cell? ⟨b0, 3, none⟩ = some (.slice a t c) := (by simp [World.cell?, hac]); have mf3 : w9.frozen? ⟨b0, 3, none⟩ = false := (by simp [World.frozen?, hac]); have zc0 : w9.cell? ⟨w.heap.size, 0, none⟩ = some (.int .i64 0) := (by simp [World.cell?, hz9]); have zf0 : w9.frozen? ⟨w.heap.size, 0, none⟩ = false := (by simp [World.frozen?, hz9]); have zc1 : w9.cell? ⟨w.heap.size, 1, none⟩ = some (.int .i64 0) := (by simp [World.cell?, hz9]); have zf1 : w9.frozen? ⟨w.heap.size, 1, none⟩ = false := (by simp [World.frozen?, hz9]); have zc2 : w9.cell? ⟨w.heap.size, 2, none⟩ = some (.int .i64 0) := (by simp [World.cell?, hz9]); have zf2 : w9.frozen? ⟨w.heap.size, 2, none⟩ = false := (by simp [World.frozen?, hz9]); have zc3 : w9.cell? ⟨w.heap.size, 3, none⟩ = some (.slice none 0 0) := (by simp [World.cell?, hz9]); have zf3 : w9.frozen? ⟨w.heap.size, 3, none⟩ = false := (by simp [World.frozen?, hz9])
        clear hac hz9
        have hrr : r = 0 ∨ r = 1 ∨ r = 2 ∨ r = 3 := by omega
        clear hr1 hr2
        rcases hrr with rfl | rfl | rfl | rfl
        · go_wp2_with (fail)
          · obtain ⟨hzP, hrP, hsP, hmP⟩ := HAX.out.put hBl 1 (.int .i64 (X + 1))
            obtain ⟨⟨r0, r1, r2, r3⟩, hrF, hsF, hmF⟩ := ac_fin hzP hrP hsP (K := k + 60) (by omega) (by omega) hmP hBl rfl (x0 := .int .i64 st) (x1 := .int .i64 (X + 1)) (x2 := .int .i64 Y) (x3 := .slice a t c)
            exact bodyPost_ret (v := .agg #[.int .i64 st, .int .i64 (X + 1), .int .i64 Y, .slice a t c]) (by simp [results, Tryz.results4, go_sem, r0, r1, r2, r3]) rfl ⟨_, _, _, _, _, _, (fun i => Ts.getD i []), rfl, hrF, fun i hi => Nat.le_trans (getD_of HAX.out.g i (by omega)).2 (show 7 ≤ 1000 by omega), by omega, hsF, hmF⟩
        · go_upto_region 18 with (fail)
          obtain ⟨g, rfl⟩ : ∃ g, a = some ⟨g, 0, none⟩ := by
            rcases HAX.out.o.2 with ⟨_, h0⟩ | ⟨g, cap, cur, hv, _⟩
            · omega
            · cases hv; exact ⟨g, rfl⟩
          refine wp_region_held_drew (S := (fun w' : World => w'.cell? ⟨b0, 3, none⟩ = some (.slice (some ⟨g, 0, none⟩) t c))) (by kernel_rfl) mc3 (fun hHeld => ?_)
          replace HAX : Hid (AC w w9.drew B b0 _ st X Y _ t Ts) := Lib.hid (HAX.out.mut hBl ⟨rfl, rfl, rfl, Nat.le_refl _, fun _ _ _ => rfl⟩ (HAX.out.s.kept (S := fun _ => False) ⟨rfl, rfl, rfl, Nat.le_refl _, fun _ _ _ => rfl⟩ (fun _ _ h => h)))
          clear mc0 mf0 mc1 mf1 mc2 mf2 mc3 mf3 zc0 zf0 zc1 zf1 zc2 zf2 zc3 zf3
          generalize w9.drew = d0 at *
          refine tkH hHeld 0 (oi := ?_) (v := ?_) ?_ ?_ ?_ ?_ ?_ ?_ ?_ ?_; rotate_left 2; (simp only [gA, gB, gC]; exact rfl); kernel_rfl; kernel_rfl; kernel_rfl; exact fun _ _ _ h => h; rfl; (intro w' hSw; (try dsimp only at hSw); go_simp; with_reducible rfl); simp only [Act.put, pB, pC, pD]
          refine tkH hHeld 1 (oi := ?_) (v := ?_) ?_ ?_ ?_ ?_ ?_ ?_ ?_ ?_; rotate_left 2; (simp only [gA, gB, gC]; exact rfl); kernel_rfl; kernel_rfl; kernel_rfl; exact fun _ _ _ h => h; rfl; (intro w' hSw; (try dsimp only at hSw); go_simp; with_reducible rfl); simp only [Act.put, pB, pC, pD]
          refine tkH hHeld 2 (oi := ?_) (v := ?_) ?_ ?_ ?_ ?_ ?_ ?_ ?_ ?_; rotate_left 2; (simp only [gA, gB, gC]; exact rfl); kernel_rfl; kernel_rfl; kernel_rfl; exact fun _ _ _ h => h; rfl; (intro w' hSw; (try dsimp only at hSw); go_simp; with_reducible rfl); simp only [Act.put, pB, pC, pD]
          refine tkH hHeld 3 (oi := ?_) (v := ?_) ?_ ?_ ?_ ?_ ?_ ?_ ?_ ?_; rotate_left 2; (simp only [gA, gB, gC]; exact rfl); kernel_rfl; kernel_rfl; kernel_rfl; exact fun _ _ _ h => h; rfl; (intro w' hSw; (try dsimp only at hSw); go_simp; with_reducible rfl); simp only [Act.put, pB, pC, pD]
          refine tkH hHeld 4 (oi := ?_) (v := ?_) ?_ ?_ ?_ ?_ ?_ ?_ ?_ ?_; rotate_left 2; (simp only [gA, gB, gC]; exact rfl); kernel_rfl; kernel_rfl; kernel_rfl; exact fun _ _ _ h => h; rfl; (intro w' hSw; (try dsimp only at hSw); go_simp; with_reducible rfl); simp only [Act.put, pB, pC, pD]
          refine tkH hHeld 5 (oi := ?_) (v := ?_) ?_ ?_ ?_ ?_ ?_ ?_ ?_ ?_; rotate_left 2; (simp only [gA, gB, gC]; exact rfl); kernel_rfl; kernel_rfl; kernel_rfl; exact fun _ _ _ h => h; rfl; (intro w' hSw; (try dsimp only at hSw); go_simp; with_reducible rfl); simp only [Act.put, pB, pC, pD]
          refine tkH hHeld 7 (oi := ?_) (v := ?_) ?_ ?_ ?_ ?_ ?_ ?_ ?_ ?_; rotate_left 2; (simp only [gA, gB, gC]; exact rfl); kernel_rfl; kernel_rfl; kernel_rfl; exact fun _ _ _ h => h; rfl; (intro w' hSw; (try dsimp only at hSw); go_simp; with_reducible rfl); simp only [Act.put, pB, pC, pD]
          clear hHeld
          refine wpAnyH_ready (rs := [6, 8]) (by kernel_rfl) (by simp) ?_
          refine coH 6 (oi := ?_) ?_ ?_ (fun K hK => ?_) ?_; rotate_left; (simp only [gA, gB, gC]; exact rfl); rfl
          ·
           go_wp2_with (fail)
           refine (next_any B _ _ d0 HAX.out.s (by omega) (by omega) (by omega)).mono ?_
           rintro e d1 ⟨⟨r6, rfl, h61, h62⟩, hsn, hmn⟩
           obtain ⟨rn, rfl⟩ := Int.eq_ofNat_of_zero_le h61
           have hrn : rn < t := by omega
           replace HAX := Lib.hid (HAX.out.mut hBl hmn hsn)
           clear hsn hmn h61 h62
           go_wp2_with (fail)
           refine hK.out _ _ (cell_of HAX.out.m rfl) (fun hHeld => ?_)
           clear hK K hHeld
           try simp only [Act.put, pB, pC, pD]
           refine wpAnyH_ready (rs := [8]) (by kernel_rfl) (by simp) ?_
           refine coH 8 (oi := ?_) ?_ ?_ (fun K hK => ?_) ?_; rotate_left; (simp only [gA, gB, gC]; exact rfl); rfl
           ·
            go_wp2_with (fail)
            have HSL : Hid ((d1.alloc (.cells #[.string ⟨#[]⟩, .string ⟨#[120]⟩, .string ⟨#[46]⟩] 9)).heap[d1.heap.size]? = some (.cells #[.string ⟨#[]⟩, .string ⟨#[120]⟩, .string ⟨#[46]⟩] 9 (0, 0))) := Lib.hid (heap_new rfl)
            have hbs : B < d1.heap.size := by have := HAX.out.y; have := HAX.out.z; omega
            replace HAX := Lib.hid (HAX.out.mut hBl ((Mut.refl (· = B) d1).alloc _) (HAX.out.s.alloc (.cells #[.string ⟨#[]⟩, .string ⟨#[120]⟩, .string ⟨#[46]⟩] 9)))
            generalize (d1.alloc (.cells #[.string ⟨#[]⟩, .string ⟨#[120]⟩, .string ⟨#[46]⟩] 9)) = d2 at *
            generalize d1.heap.size = bs at *
            refine hK.out _ _ (cell_of HAX.out.m rfl) (fun hHeld => ?_)
            clear hK K hHeld
            try simp only [Act.put, pB, pC, pD]
            refine wpAnyH_ready (rs := [9]) (by kernel_rfl) (by simp) ?_
            refine coH 9 (oi := ?_) ?_ ?_ (fun K hK => ?_) ?_; rotate_left; (simp only [gA, gB, gC]; exact rfl); rfl
            ·
             go_wp2_with (fail)
             refine (some_any B _ bs 3 3 (fun z => z.length ≤ 1) d2 HAX.out.s (by omega) (by omega) (by omega) (by omega) (lt_of_heap HSL.out) (fun i hi => ?_)).mono ?_
             · match i, hi with
               | 0, _ => exact ⟨[], cell_of HSL.out rfl, by simp⟩
               | 1, _ => exact ⟨[120], cell_of HSL.out rfl, by simp⟩
               | 2, _ => exact ⟨[46], cell_of HSL.out rfl, by simp⟩
             rintro e d3 ⟨⟨T8, rfl, hT8⟩, hsn, hmn⟩
             clear HSL
             replace HAX := Lib.hid (HAX.out.mut hBl hmn hsn)
             clear hsn hmn
             go_wp2_with (fail)
             refine hK.out _ _ (cell_of HAX.out.m rfl) (fun hHeld => ?_)
             clear hK K hHeld
             try simp only [Act.put, pB, pC, pD]
             have hcl := (rows_svs HAX.out.o HAX.out.l)
             obtain ⟨hg1, hg2⟩ := HAX.out.o.lt g rfl
             have gc : d3.cell? ⟨g, rn, none⟩ = some (.string ⟨(Ts.getD rn []).toArray⟩) := by
               rcases hcl with h0 | ⟨b, off, e, h1, h2⟩
               · omega
               · cases e
                 have := h2 rn hrn
                 rwa [Nat.zero_add] at this
             have gf : d3.frozen? ⟨g, rn, none⟩ = false := by
               rcases HAX.out.o.2 with ⟨_, h0⟩ | ⟨g', cap, cur, hv, hg, hh, _⟩
               · omega
               · cases hv; exact frozen_of hh
             clear hcl
             refine onH 10 (oi := ?_) (by kernel_rfl) ?_ ?_ (fun K hK => ?_); rotate_left; (simp only [gA, gB, gC]; exact rfl); rfl
             go_wp2_with (fail)
             refine hK.out _ _ (cell_of HAX.out.m rfl) (fun hHeld => ?_)
             clear hK K
             try simp only [Act.put, pB, pC, pD]
             refine onH 11 (oi := ?_) (by kernel_rfl) ?_ ?_ (fun K hK => ?_); rotate_left; (simp only [gA, gB, gC]; exact rfl); rfl
             go_wp2_with (fail)
             obtain ⟨hzP, hrP, hsP, hmP, hcP⟩ := HAX.out.row hBl hrn T8
             refine hK.out _ _ (cell_of hcP rfl) (fun hHeld2 => ?_)
             clear hK K hHeld hHeld2 gc gf
             try simp only [Act.put, pB, pC, pD]
             refine wpAnyH_done (by kernel_rfl) ?_ _
             have HZP := Lib.hid hzP
             have HRP := Lib.hid hrP
             have HSP := Lib.hid hsP
             have HMP := Lib.hid hmP
             generalize (d3.setCell ⟨g, rn, none⟩ (.string ⟨T8.toArray⟩)) = wB at *
             have mc0 : wB.cell? ⟨b0, 0, none⟩ = some (.int .i64 st) := (by simp [World.cell?, hcP]); have mf0 : wB.frozen? ⟨b0, 0, none⟩ = false := (by simp [World.frozen?, hcP]); have mc1 : wB.cell? ⟨b0, 1, none⟩ = some (.int .i64 X) := (by simp [World.cell?, hcP]); have mf1 : wB.frozen? ⟨b0, 1, none⟩ = false := (by simp [World.frozen?, hcP]); have mc2 : wB.cell? ⟨b0, 2, none⟩ = some (.int .i64 Y) := (by simp [World.cell?, hcP]); have mf2 : wB.frozen? ⟨b0, 2, none⟩ = false := (by simp [World.frozen?, hcP]); have mc3 : wB.cell? ⟨b0, 3, none⟩ = some (.slice (some ⟨g, 0, none⟩) t c) := (by simp [World.cell?, hcP]); have mf3 : wB.frozen? ⟨b0, 3, none⟩ = false := (by simp [World.frozen?, hcP])
             have zc0 : wB.cell? ⟨w.heap.size, 0, none⟩ = some (.int .i64 0) := (by simp [World.cell?, hzP]); have zf0 : wB.frozen? ⟨w.heap.size, 0, none⟩ = false := (by simp [World.frozen?, hzP]); have zc1 : wB.cell? ⟨w.heap.size, 1, none⟩ = some (.int .i64 0) := (by simp [World.cell?, hzP]); have zf1 : wB.frozen? ⟨w.heap.size, 1, none⟩ = false := (by simp [World.frozen?, hzP]); have zc2 : wB.cell? ⟨w.heap.size, 2, none⟩ = some (.int .i64 0) := (by simp [World.cell?, hzP]); have zf2 : wB.frozen? ⟨w.heap.size, 2, none⟩ = false := (by simp [World.frozen?, hzP]); have zc3 : wB.cell? ⟨w.heap.size, 3, none⟩ = some (.slice none 0 0) := (by simp [World.cell?, hzP]); have zf3 : wB.frozen? ⟨w.heap.size, 3, none⟩ = false := (by simp [World.frozen?, hzP])
             clear hzP hrP hsP hmP hcP
             go_wp2_with (fail)
             obtain ⟨⟨r0, r1, r2, r3⟩, hrF, hsF, hmF⟩ := ac_fin HZP.out HRP.out HSP.out (K := k + 60) (by omega) (by omega) HMP.out hBl rfl (x0 := .int .i64 st) (x1 := .int .i64 X) (x2 := .int .i64 Y) (x3 := .slice (some ⟨g, 0, none⟩) t c)
             refine bodyPost_ret (v := .agg #[.int .i64 st, .int .i64 X, .int .i64 Y, .slice (some ⟨g, 0, none⟩) t c]) (by simp [results, Tryz.results4, go_sem, r0, r1, r2, r3]) rfl ⟨_, _, _, _, _, _, _, rfl, hrF, fun i hi => ?_, by omega, hsF, hmF⟩
             show (if i = rn then T8 else Ts.getD i []).length ≤ 1000
             split
             · exact Nat.le_trans hT8 (by omega)
             · exact Nat.le_trans (getD_of HAX.out.g i (by omega)).2 (show 7 ≤ 1000 by omega)
            exact AllReadyH.nil
           exact AllReadyH.nil
          refine coH 8 (oi := ?_) ?_ ?_ (fun K hK => ?_) ?_; rotate_left; (simp only [gA, gB, gC]; exact rfl); rfl
          ·
           go_wp2_with (fail)
           have HSL : Hid ((d0.alloc (.cells #[.string ⟨#[]⟩, .string ⟨#[120]⟩, .string ⟨#[46]⟩] 9)).heap[d0.heap.size]? = some (.cells #[.string ⟨#[]⟩, .string ⟨#[120]⟩, .string ⟨#[46]⟩] 9 (0, 0))) := Lib.hid (heap_new rfl)
           have hbs : B < d0.heap.size := by have := HAX.out.y; have := HAX.out.z; omega
           replace HAX := Lib.hid (HAX.out.mut hBl ((Mut.refl (· = B) d0).alloc _) (HAX.out.s.alloc (.cells #[.string ⟨#[]⟩, .string ⟨#[120]⟩, .string ⟨#[46]⟩] 9)))
           generalize (d0.alloc (.cells #[.string ⟨#[]⟩, .string ⟨#[120]⟩, .string ⟨#[46]⟩] 9)) = d4 at *
           generalize d0.heap.size = bs at *
           refine hK.out _ _ (cell_of HAX.out.m rfl) (fun hHeld => ?_)
           clear hK K hHeld
           try simp only [Act.put, pB, pC, pD]
           refine wpAnyH_ready (rs := [6]) (by kernel_rfl) (by simp) ?_
           refine coH 6 (oi := ?_) ?_ ?_ (fun K hK => ?_) ?_; rotate_left; (simp only [gA, gB, gC]; exact rfl); rfl
           ·
            go_wp2_with (fail)
            refine (next_any B _ _ d4 HAX.out.s (by omega) (by omega) (by omega)).mono ?_
            rintro e d5 ⟨⟨r6, rfl, h61, h62⟩, hsn, hmn⟩
            obtain ⟨rn, rfl⟩ := Int.eq_ofNat_of_zero_le h61
            have hrn : rn < t := by omega
            replace HSL := Lib.hid ((hmn.block bs (lt_of_heap HSL.out) (by omega)).trans HSL.out)
            replace HAX := Lib.hid (HAX.out.mut hBl hmn hsn)
            clear hsn hmn h61 h62
            go_wp2_with (fail)
            refine hK.out _ _ (cell_of HAX.out.m rfl) (fun hHeld => ?_)
            clear hK K hHeld
            try simp only [Act.put, pB, pC, pD]
            refine wpAnyH_ready (rs := [9]) (by kernel_rfl) (by simp) ?_
            refine coH 9 (oi := ?_) ?_ ?_ (fun K hK => ?_) ?_; rotate_left; (simp only [gA, gB, gC]; exact rfl); rfl
            ·
             go_wp2_with (fail)
             refine (some_any B _ bs 3 3 (fun z => z.length ≤ 1) d5 HAX.out.s (by omega) (by omega) (by omega) (by omega) (lt_of_heap HSL.out) (fun i hi => ?_)).mono ?_
             · match i, hi with
               | 0, _ => exact ⟨[], cell_of HSL.out rfl, by simp⟩
               | 1, _ => exact ⟨[120], cell_of HSL.out rfl, by simp⟩
               | 2, _ => exact ⟨[46], cell_of HSL.out rfl, by simp⟩
             rintro e d6 ⟨⟨T8, rfl, hT8⟩, hsn, hmn⟩
             clear HSL
             replace HAX := Lib.hid (HAX.out.mut hBl hmn hsn)
             clear hsn hmn
             go_wp2_with (fail)
             refine hK.out _ _ (cell_of HAX.out.m rfl) (fun hHeld => ?_)
             clear hK K hHeld
             try simp only [Act.put, pB, pC, pD]
             have hcl := (rows_svs HAX.out.o HAX.out.l)
             obtain ⟨hg1, hg2⟩ := HAX.out.o.lt g rfl
             have gc : d6.cell? ⟨g, rn, none⟩ = some (.string ⟨(Ts.getD rn []).toArray⟩) := by
               rcases hcl with h0 | ⟨b, off, e, h1, h2⟩
               · omega
               · cases e
                 have := h2 rn hrn
                 rwa [Nat.zero_add] at this
             have gf : d6.frozen? ⟨g, rn, none⟩ = false := by
               rcases HAX.out.o.2 with ⟨_, h0⟩ | ⟨g', cap, cur, hv, hg, hh, _⟩
               · omega
               · cases hv; exact frozen_of hh
             clear hcl
             refine onH 10 (oi := ?_) (by kernel_rfl) ?_ ?_ (fun K hK => ?_); rotate_left; (simp only [gA, gB, gC]; exact rfl); rfl
             go_wp2_with (fail)
             refine hK.out _ _ (cell_of HAX.out.m rfl) (fun hHeld => ?_)
             clear hK K
             try simp only [Act.put, pB, pC, pD]
             refine onH 11 (oi := ?_) (by kernel_rfl) ?_ ?_ (fun K hK => ?_); rotate_left; (simp only [gA, gB, gC]; exact rfl); rfl
             go_wp2_with (fail)
             obtain ⟨hzP, hrP, hsP, hmP, hcP⟩ := HAX.out.row hBl hrn T8
             refine hK.out _ _ (cell_of hcP rfl) (fun hHeld2 => ?_)
             clear hK K hHeld hHeld2 gc gf
             try simp only [Act.put, pB, pC, pD]
             refine wpAnyH_done (by kernel_rfl) ?_ _
             have HZP := Lib.hid hzP
             have HRP := Lib.hid hrP
             have HSP := Lib.hid hsP
             have HMP := Lib.hid hmP
             generalize (d6.setCell ⟨g, rn, none⟩ (.string ⟨T8.toArray⟩)) = wB at *
             have mc0 : wB.cell? ⟨b0, 0, none⟩ = some (.int .i64 st) := (by simp [World.cell?, hcP]); have mf0 : wB.frozen? ⟨b0, 0, none⟩ = false := (by simp [World.frozen?, hcP]); have mc1 : wB.cell? ⟨b0, 1, none⟩ = some (.int .i64 X) := (by simp [World.cell?, hcP]); have mf1 : wB.frozen? ⟨b0, 1, none⟩ = false := (by simp [World.frozen?, hcP]); have mc2 : wB.cell? ⟨b0, 2, none⟩ = some (.int .i64 Y) := (by simp [World.cell?, hcP]); have mf2 : wB.frozen? ⟨b0, 2, none⟩ = false := (by simp [World.frozen?, hcP]); have mc3 : wB.cell? ⟨b0, 3, none⟩ = some (.slice (some ⟨g, 0, none⟩) t c) := (by simp [World.cell?, hcP]); have mf3 : wB.frozen? ⟨b0, 3, none⟩ = false := (by simp [World.frozen?, hcP])
             have zc0 : wB.cell? ⟨w.heap.size, 0, none⟩ = some (.int .i64 0) := (by simp [World.cell?, hzP]); have zf0 : wB.frozen? ⟨w.heap.size, 0, none⟩ = false := (by simp [World.frozen?, hzP]); have zc1 : wB.cell? ⟨w.heap.size, 1, none⟩ = some (.int .i64 0) := (by simp [World.cell?, hzP]); have zf1 : wB.frozen? ⟨w.heap.size, 1, none⟩ = false := (by simp [World.frozen?, hzP]); have zc2 : wB.cell? ⟨w.heap.size, 2, none⟩ = some (.int .i64 0) := (by simp [World.cell?, hzP]); have zf2 : wB.frozen? ⟨w.heap.size, 2, none⟩ = false := (by simp [World.frozen?, hzP]); have zc3 : wB.cell? ⟨w.heap.size, 3, none⟩ = some (.slice none 0 0) := (by simp [World.cell?, hzP]); have zf3 : wB.frozen? ⟨w.heap.size, 3, none⟩ = false := (by simp [World.frozen?, hzP])
             clear hzP hrP hsP hmP hcP
             go_wp2_with (fail)
             obtain ⟨⟨r0, r1, r2, r3⟩, hrF, hsF, hmF⟩ := ac_fin HZP.out HRP.out HSP.out (K := k + 60) (by omega) (by omega) HMP.out hBl rfl (x0 := .int .i64 st) (x1 := .int .i64 X) (x2 := .int .i64 Y) (x3 := .slice (some ⟨g, 0, none⟩) t c)
             refine bodyPost_ret (v := .agg #[.int .i64 st, .int .i64 X, .int .i64 Y, .slice (some ⟨g, 0, none⟩) t c]) (by simp [results, Tryz.results4, go_sem, r0, r1, r2, r3]) rfl ⟨_, _, _, _, _, _, _, rfl, hrF, fun i hi => ?_, by omega, hsF, hmF⟩
             show (if i = rn then T8 else Ts.getD i []).length ≤ 1000
             split
             · exact Nat.le_trans hT8 (by omega)
             · exact Nat.le_trans (getD_of HAX.out.g i (by omega)).2 (show 7 ≤ 1000 by omega)
            exact AllReadyH.nil
           exact AllReadyH.nil
          exact AllReadyH.nil
        · go_wp2_with (fail)
          refine (pick_new B _ [1, 3, 0, -2, 10002] 5 (fun _ => True) w9 HAX.out.s (by omega) rfl (by omega) (by omega) (by simp)).mono ?_
          rintro e wA ⟨⟨z, rfl, _⟩, hsA, hmA⟩
          have HAY := Lib.hid (HAX.out.mut hBl hmA hsA)
          clear HAX hsA hmA mc0 mf0 mc1 mf1 mc2 mf2 mc3 mf3 zc0 zf0 zc1 zf1 zc2 zf2 zc3 zf3
          have hz9 := HAY.out.r
          have hac := HAY.out.m
          have hyA := HAY.out.y
          have mc0 : wA.cell? ⟨b0, 0, none⟩ = some (.int .i64 st) := (by simp [World.cell?, hac]); have mf0 : wA.frozen? ⟨b0, 0, none⟩ = false := (by simp [World.frozen?, hac]); have mc1 : wA.cell? ⟨b0, 1, none⟩ = some (.int .i64 X) := (by simp [World.cell?, hac]); have mf1 : wA.frozen? ⟨b0, 1, none⟩ = false := (by simp [World.frozen?, hac]); have mc2 : wA.cell? ⟨b0, 2, none⟩ = some (.int .i64 Y) := (by simp [World.cell?, hac]); have mf2 : wA.frozen? ⟨b0, 2, none⟩ = false := (by simp [World.frozen?, hac]); have mc3 : wA.cell? ⟨b0, 3, none⟩ = some (.slice a t c) := (by simp [World.cell?, hac]); have mf3 : wA.frozen? ⟨b0, 3, none⟩ = false := (by simp [World.frozen?, hac]); have zc0 : wA.cell? ⟨w.heap.size, 0, none⟩ = some (.int .i64 0) := (by simp [World.cell?, hz9]); have zf0 : wA.frozen? ⟨w.heap.size, 0, none⟩ = false := (by simp [World.frozen?, hz9]); have zc1 : wA.cell? ⟨w.heap.size, 1, none⟩ = some (.int .i64 0) := (by simp [World.cell?, hz9]); have zf1 : wA.frozen? ⟨w.heap.size, 1, none⟩ = false := (by simp [World.frozen?, hz9]); have zc2 : wA.cell? ⟨w.heap.size, 2, none⟩ = some (.int .i64 0) := (by simp [World.cell?, hz9]); have zf2 : wA.frozen? ⟨w.heap.size, 2, none⟩ = false := (by simp [World.frozen?, hz9]); have zc3 : wA.cell? ⟨w.heap.size, 3, none⟩ = some (.slice none 0 0) := (by simp [World.cell?, hz9]); have zf3 : wA.frozen? ⟨w.heap.size, 3, none⟩ = false := (by simp [World.frozen?, hz9])
          clear hac hz9
          go_wp2_with (fail)
          · obtain ⟨hzP, hrP, hsP, hmP⟩ := HAY.out.put hBl 0 (.int .i64 z)
            obtain ⟨⟨r0, r1, r2, r3⟩, hrF, hsF, hmF⟩ := ac_fin hzP hrP hsP (K := k + 60) (by omega) (by omega) hmP hBl rfl (x0 := .int .i64 z) (x1 := .int .i64 X) (x2 := .int .i64 Y) (x3 := .slice a t c)
            exact bodyPost_ret (v := .agg #[.int .i64 z, .int .i64 X, .int .i64 Y, .slice a t c]) (by simp [results, Tryz.results4, go_sem, r0, r1, r2, r3]) rfl ⟨_, _, _, _, _, _, (fun i => Ts.getD i []), rfl, hrF, fun i hi => Nat.le_trans (getD_of HAY.out.g i (by omega)).2 (show 7 ≤ 1000 by omega), by omega, hsF, hmF⟩
        · go_wp2_with (fail)
          · obtain ⟨hzP, hrP, hsP, hmP⟩ := HAX.out.put hBl 3 (.slice none 0 0)
            obtain ⟨⟨r0, r1, r2, r3⟩, hrF, hsF, hmF⟩ := ac_fin hzP (.inl rfl : RowS _ none 0 (fun _ => [])) hsP (K := k + 60) (by omega) (by omega) hmP hBl rfl (x0 := .int .i64 st) (x1 := .int .i64 X) (x2 := .int .i64 Y) (x3 := .slice none 0 0)
            exact bodyPost_ret (v := .agg #[.int .i64 st, .int .i64 X, .int .i64 Y, .slice none 0 0]) (by simp [results, Tryz.results4, go_sem, r0, r1, r2, r3]) rfl ⟨_, _, _, _, _, _, (fun _ => []), rfl, hrF, fun i hi => absurd hi (by omega), by omega, hsF, hmF⟩
end Go.Proofs.YtllagjncibfcmaaGreatDoor

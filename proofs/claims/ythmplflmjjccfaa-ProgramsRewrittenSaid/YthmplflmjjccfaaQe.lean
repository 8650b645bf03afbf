/- The relative form of a program: by the reference. -/
import Derived.Test.YthmplflmjjccfaaQd
import Derived.BigRegion
import Derived.Deep.Cut
import Derived.Deep.CutRange
set_option linter.unusedSimpArgs false
set_option linter.unusedVariables false
namespace Go.Proofs.Ythmplflmjjccfaa
open Go.RowKit
theorem after_fit (m : Ma) (s : St) (w : World) (g0 : 1 ≤ s.k ∧ s.k ≤ 9) (hF : Fit m.x m.y m.z m.f s.x s.y s.z s.f) : Calls Try.prog 33 #[(.agg #[.int .i64 m.x, .int .i64 m.y, .int .i64 m.z, .int .i64 m.s, .int .i64 m.h, .int .i64 m.t, .int .i64 m.f, .bool m.r]), (.agg #[.int .i64 s.k, .int .i64 s.x, .int .i64 s.y, .int .i64 s.z, .int .i64 s.f, .int .i64 s.n])] w fun e w' => e = .returned (.agg #[.int .i64 (aft m s).x, .int .i64 (aft m s).y, .int .i64 (aft m s).z, .int .i64 (aft m s).s, .int .i64 (aft m s).h, .int .i64 (aft m s).t, .int .i64 (aft m s).f, .bool (aft m s).r]) ∧ Below w.heap.size w w' := by
  rcases s with ⟨k, x, y, z, f, n⟩
  rcases m with ⟨mx, my, mz, ms, mh, mt, mf, mr⟩
  dsimp only at hF g0 ⊢
  have h' : k = 1 ∨ k = 2 ∨ k = 3 ∨ k = 4 ∨ k = 5 ∨ k = 6 ∨ k = 7 ∨ k = 8 ∨ k = 9 := by omega
  rcases h' with rfl | rfl | rfl | rfl | rfl | rfl | rfl | rfl | rfl
  · exact after1_any mx my mz ms mh mt mf mr x y z f n w hF
  · exact after2_any mx my mz ms mh mt mf mr x y z f n w hF
  · exact after3_any mx my mz ms mh mt mf mr x y z f n w hF
  · exact after4_any mx my mz ms mh mt mf mr x y z f n w hF
  · exact after5_any mx my mz ms mh mt mf mr x y z f n w hF
  · exact after6_any mx my mz ms mh mt mf mr x y z f n w hF
  · exact after7_any mx my mz ms mh mt mf mr x y z f n w hF
  · exact after8_any mx my mz ms mh mt mf mr x y z f n w hF
  · exact after9_any mx my mz ms mh mt mf mr x y z f n w hF
/-- A step of an absolute program, bounded. -/
structure AB (s : St) : Prop where
  a : AOk s
  k : 1 ≤ s.k ∧ s.k ≤ 9
  x : -2000000000 ≤ s.x ∧ s.x ≤ 2000000000
  y : -2000000000 ≤ s.y ∧ s.y ≤ 2000000000
  z : -10000000000 ≤ s.z ∧ s.z ≤ 10000000000
  f : 0 ≤ s.f ∧ s.f ≤ 100000000
structure ABm (j : Nat) (m : Ma) : Prop where
  r : m.r = false
  x : -2000000000 ≤ m.x ∧ m.x ≤ 2000000000
  y : -2000000000 ≤ m.y ∧ m.y ≤ 2000000000
  z : -10000000000 ≤ m.z ∧ m.z ≤ 10000000000
  f : 0 ≤ m.f ∧ m.f ≤ 100000000 * (j : Int)
theorem abm0 : ABm 0 m00 := ⟨rfl, by simp [m00], by simp [m00], by simp [m00], by simp [m00]⟩
theorem ABm.aft {j : Nat} {m : Ma} {s : St} (h : ABm j m) (hs : AB s) : ABm (j + 1) (aft m s) := by
  refine ⟨aft_r hs.a h.r, ?_, ?_, ?_, ?_⟩ <;> (
    have h1 := h.x; have h2 := h.y; have h3 := h.z; have h4 := h.f; have hr := h.r
    have g1 := hs.x; have g2 := hs.y; have g3 := hs.z; have g4 := hs.f
    unfold Go.Proofs.Ythmplflmjjccfaa.aft rch
    rw [hr]
    (repeat' split) <;> (try dsimp only) <;> simp_all <;> omega)
theorem abm_run {T : Nat → St} {n : Nat} (h : ∀ i, i < n → AB (T i)) : ABm n (runF m00 T n) := by
  induction n with
  | zero => exact abm0
  | succ n ih => exact (ih (fun i hi => h i (by omega))).aft (h n (by omega))
theorem ABm.fit {j : Nat} {m : Ma} {s : St} (h : ABm j m) (hs : AB s) (hj : j ≤ 5000) : Fit m.x m.y m.z m.f s.x s.y s.z s.f := by
  obtain ⟨_, h1, h2, h3, h4⟩ := h
  obtain ⟨_, _, g1, g2, g3, g4⟩ := hs
  exact ⟨by omega, by omega, by omega, by omega, by omega, by omega, by omega⟩
theorem absL_ab {S : Nat → St} {n : Nat} (hn : n ≤ 5000) (hok : ∀ i, i < n → SOk (S i)) : ∀ s ∈ absL S n, AB s := by
  suffices ∀ m, m ≤ n → ∀ s ∈ absL S m, AB s from this n (Nat.le_refl _)
  intro m
  induction m with
  | zero => intro _ s hs; cases hs
  | succ m ih =>
    intro hm s hs
    have hall := absL_ok (n := m + 1) (fun i hi => hok i (by omega)) s hs
    rw [absL] at hs
    split at hs
    · exact ih (by omega) s hs
    · rcases List.mem_append.1 hs with h | h
      · exact ih (by omega) s h
      · simp only [List.mem_cons, List.not_mem_nil, or_false] at h
        have hb := run_mb (n := m + 1) (fun i hi => hok i (by omega))
        have ho := hok m (by omega)
        obtain ⟨t, ht⟩ : ∃ t, S m = t := ⟨_, rfl⟩
        obtain ⟨u, hu⟩ : ∃ u, run S (m + 1) = u := ⟨_, rfl⟩
        rw [ht, hu] at h
        rw [ht] at ho
        rw [hu] at hb
        have b1 := hb.x; have b2 := hb.y; have b3 := hb.z
        have c0 := ho.k; have c1 := ho.x; have c2 := ho.y; have c3 := ho.z; have c4 := ho.f
        refine ⟨hall, ?_, ?_, ?_, ?_, ?_⟩ <;> rw [h] <;> unfold absS <;> (repeat' split) <;> (try dsimp only) <;> omega
/-- The relative steps, one after the other. -/
def relF (T : Nat → St) : Nat → List St
  | 0 => []
  | k + 1 => relF T k ++ [relS (T k) (runF m00 T k) (runF m00 T (k + 1))]
theorem relF_len (T : Nat → St) (k : Nat) : (relF T k).length = k := by
  induction k with
  | zero => rfl
  | succ k ih => rw [relF, List.length_append, ih]; rfl
theorem runF_take (l : List St) (k : Nat) (hk : k ≤ l.length) : runF m00 (lf l) k = (l.take k).foldl aft m00 := by
  induction k with
  | zero => simp [runF]
  | succ k ih =>
    have hl : k < l.length := by omega
    have e : l.take (k + 1) = l.take k ++ [l[k]] := by rw [List.take_add_one, List.getElem?_eq_getElem hl]; rfl
    have e2 : lf l k = l[k] := by unfold lf; rw [List.getD_eq_getElem?_getD, List.getElem?_eq_getElem hl]; rfl
    rw [runF, ih (by omega), e, List.foldl_append, e2]
    rfl
theorem relF_take (l : List St) (k : Nat) (hk : k ≤ l.length) : relF (lf l) k = relL m00 (l.take k) := by
  induction k with
  | zero => simp [relF, relL]
  | succ k ih =>
    have hl : k < l.length := by omega
    have e : l.take (k + 1) = l.take k ++ [l[k]] := by rw [List.take_add_one, List.getElem?_eq_getElem hl]; rfl
    have e2 : lf l k = l[k] := by unfold lf; rw [List.getD_eq_getElem?_getD, List.getElem?_eq_getElem hl]; rfl
    rw [relF, ih (by omega), runF, runF_take l k (by omega), e, relL_snoc, e2]
theorem relF_all {S : Nat → St} {n : Nat} (hok : ∀ i, i < n → SOk (S i)) : relF (lf (absL S n)) (absL S n).length = toldL plR m00 S n := by
  rw [relF_take _ _ (Nat.le_refl _), List.take_length, rel_same hok]
def relOut (l : List St) : List St := if l.length = 0 then [] else ⟨2, 0, 0, 0, 0, 0⟩ :: l
theorem relOut_len (l : List St) : (relOut l).length = if l.length = 0 then 0 else l.length + 1 := by unfold relOut; split <;> simp
theorem relOut_len_le (l : List St) : (relOut l).length ≤ l.length + 1 := by rw [relOut_len]; split <;> omega
theorem relOut_snoc0 (s : St) : relOut ([] ++ [s]) = [⟨2, 0, 0, 0, 0, 0⟩] ++ [s] := rfl
theorem relOut_snoc (l : List St) (s : St) (h : l.length ≠ 0) : relOut (l ++ [s]) = relOut l ++ [s] := by
  unfold relOut; rw [if_neg h, if_neg (by simp)]; rfl
def relE (n : Nat) (S : Nat → St) : Int := stepsE (relOut (toldL plR m00 S n)).length (lf (relOut (toldL plR m00 S n)))
set_option maxRecDepth 100000 in
set_option maxHeartbeats 8000000 in
theorem relativeOf_any (a : Option Addr) (n c : Nat) (S : Nat → St) (w : World) (hn : n ≤ 4000) (hok : ∀ i, i < n → SOk (S i)) (hp : StepsR w a n S) :
    Calls Try.prog 12 #[.slice a n c] w (MadeS w (relE n S) (relOut (toldL plR m00 S n))) := by
  obtain ⟨i0, hi0, hz0, hz1, hz2⟩ := info_parts2 info_st
  have HOK := Lib.hid hok
  have hb0 : Below w.heap.size w (w.alloc (.cells #[.int .i64 0, .int .i64 0, .int .i64 0, .int .i64 0, .int .i64 0, .int .i64 0, .int .i64 0, .bool false] 44)) := (by repeat (first | exact Below.refl _ _ | assumption | refine Below.drew ?_ | refine bdrewN ?_ _ | refine Below.setCell ?_ (by first | omega | (simp <;> omega)) _ | refine Below.alloc ?_ (by first | omega | (simp <;> omega)) _))
  have HX00 := Lib.hid (show (w.alloc (.cells #[.int .i64 0, .int .i64 0, .int .i64 0, .int .i64 0, .int .i64 0, .int .i64 0, .int .i64 0, .bool false] 44)).heap[w.heap.size]? = some (.cells #[.int .i64 (runF m00 (lf (absL S n)) 0).x, .int .i64 (runF m00 (lf (absL S n)) 0).y, .int .i64 (runF m00 (lf (absL S n)) 0).z, .int .i64 (runF m00 (lf (absL S n)) 0).s, .int .i64 (runF m00 (lf (absL S n)) 0).h, .int .i64 (runF m00 (lf (absL S n)) 0).t, .int .i64 (runF m00 (lf (absL S n)) 0).f, .bool (runF m00 (lf (absL S n)) 0).r] 44 (0, 0)) from heap_new rfl)
  have B00 := Lib.hid hb0
  have HP := Lib.hid (hp.kept hb0)
  have hs00 : (w.alloc (.cells #[.int .i64 0, .int .i64 0, .int .i64 0, .int .i64 0, .int .i64 0, .int .i64 0, .int .i64 0, .bool false] 44)).heap.size = w.heap.size + 1 := by simp
  clear hb0 hp hok
  go_enter Try.func12, Try.ntmps12
  go_wp2_with (fail)
  generalize (w.alloc (.cells #[.int .i64 0, .int .i64 0, .int .i64 0, .int .i64 0, .int .i64 0, .int .i64 0, .int .i64 0, .bool false] 44)) = w00 at *
  obtain ⟨g, hg⟩ : ∃ g, w.heap.size = g := ⟨_, rfl⟩
  have HG := Lib.hid hg
  rw [hg] at HX00 hs00
  try rw [hg]
  clear hg
  refine (absolute_any a n c S w00 (by omega) HOK.out HP.out).mono ?_
  rintro e w0 ⟨al, cl, rfl, hown, hb⟩
  have HAB := Lib.hid (absL_ab (by omega) HOK.out)
  have HAL := Lib.hid (relF_all HOK.out)
  have hN := absL_len S n
  have HX0 := Lib.hid (heap_keep hb HX00.out)
  have B0 := Lib.hid (B00.out.trans (hb.mono B00.out.size))
  have hs0 : g + 1 ≤ w0.heap.size := by have := hb.size; omega
  have HOL := Lib.hid hown
  have hw0 := B0.out.size
  clear hown hb HX00 HP
  obtain ⟨la, hla⟩ : ∃ l, absL S n = l := ⟨_, rfl⟩
  rw [hla] at HX0 HAB HAL HOL hN ⊢
  clear hla
  obtain ⟨N, hNN⟩ : ∃ N, la.length = N := ⟨_, rfl⟩
  have HNN := Lib.hid hNN
  have HPL := Lib.hid (own_rowS HOL.out rfl)
  have HBG : Hid (∀ x, al = some x → ¬ x.block = g) := Lib.hid (fun x hx e => by have := (HOL.out.lt x.block (by rw [hx]; rfl)).1; omega)
  have HT : Hid (∀ i, i < N → AB (lf la i)) := Lib.hid (fun i hi => HAB.out _ (by
    unfold lf
    rw [List.getD_eq_getElem?_getD, List.getElem?_eq_getElem (by omega)]
    exact List.getElem_mem _))
  rw [hNN] at HPL HAL hN ⊢
  clear hNN HOL HAB
  obtain ⟨T, hT⟩ : ∃ T, lf la = T := ⟨_, rfl⟩
  rw [hT] at HX0 HPL HT HAL
  clear hT
  go_wp2_with (fail)
  go_loopw [4, 13] (fun v i wr => ∃ (k : Nat) (ao : Option Addr) (co : Nat), k ≤ N ∧ i = .int .i64 k ∧ v = .slice ao (relOut (relF T k)).length co ∧ wr.heap[g]? = some (.cells #[.int .i64 (runF m00 T k).x, .int .i64 (runF m00 T k).y, .int .i64 (runF m00 T k).z, .int .i64 (runF m00 T k).s, .int .i64 (runF m00 T k).h, .int .i64 (runF m00 T k).t, .int .i64 (runF m00 T k).f, .bool (runF m00 T k).r] 44 (0, 0)) ∧ wr.ownsRow w0.heap.size 36 6 (.slice ao (relOut (relF T k)).length co) (relOut (relF T k)).length (rowS (relOut (relF T k))) ∧ g + 1 ≤ wr.heap.size ∧ Mut (· = g) w0 wr ∧ Below w.heap.size w wr) (fun _ i _ => N - (intOf i).toNat)
  case atStart => exact ⟨0, none, 0, by omega, rfl, rfl, HX0.out, World.ownsRow_nil _ _ _ _, hs0, Mut.refl _ _, B0.out⟩
  case round =>
    clear HX0 B0
    obtain ⟨k, ao, co, hk, rfl, rfl, hx, hown, hgs, hbl0, hbel⟩ := hrel
    have HX := Lib.hid hx
    have HO := Lib.hid hown
    have HB := Lib.hid hbel
    have HBL := Lib.hid hbl0
    have hgw := lt_of_heap hx
    have hsz := hbel.size
    have hszl := hbl0.size
    have hrk := relF_len T k
    have hrl := relOut_len (relF T k)
    rw [hrk] at hrl
    clear hx hown hbel hbl0
    by_cases hlt : k < N
    · rcases HPL.out with h0 | ⟨b, off, rfl, hb, hd⟩
      · omega
      have hbg : ¬ b = g := HBG.out _ rfl
      obtain ⟨c0, c1, c2, c3, c4, c5⟩ := hd k hlt
      replace c0 := (HBL.out.cell (p := ⟨b, off + k * 6, none⟩) hb hbg).trans c0
      replace c1 := (HBL.out.cell (p := ⟨b, off + k * 6 + 1, none⟩) hb hbg).trans c1
      replace c2 := (HBL.out.cell (p := ⟨b, off + k * 6 + 2, none⟩) hb hbg).trans c2
      replace c3 := (HBL.out.cell (p := ⟨b, off + k * 6 + 3, none⟩) hb hbg).trans c3
      replace c4 := (HBL.out.cell (p := ⟨b, off + k * 6 + 4, none⟩) hb hbg).trans c4
      replace c5 := (HBL.out.cell (p := ⟨b, off + k * 6 + 5, none⟩) hb hbg).trans c5
      have hbw : b < wr.heap.size := Nat.lt_of_lt_of_le hb hszl
      have HTk := Lib.hid (HT.out k hlt)
      have HMk := Lib.hid (abm_run (T := T) (n := k) (fun i hi => HT.out i (by omega)))
      have HMk2 := Lib.hid (abm_run (T := T) (n := k + 1) (fun i hi => HT.out i (by omega)))
      clear hd
      obtain ⟨s, hs⟩ : ∃ s, T k = s := ⟨_, rfl⟩
      have RS := Lib.hid hs
      obtain ⟨m1, hm1⟩ : ∃ m1, runF m00 T k = m1 := ⟨_, rfl⟩
      have RM1 := Lib.hid hm1
      have hm2 : runF m00 T (k + 1) = aft m1 s := by rw [runF, hs, hm1]
      rw [hs] at c0 c1 c2 c3 c4 c5 HTk
      rw [hm1] at HX HMk
      rw [hm2] at HMk2
      have RM2 := Lib.hid hm2
      obtain ⟨rl, hrlv⟩ : ∃ r, relOut (relF T k) = r := ⟨_, rfl⟩
      have RL := Lib.hid hrlv
      rw [hrlv] at HO hrl ⊢
      have HRL := Lib.hid hrl
      have HRK := Lib.hid hrk
      clear hs hm1 hm2 hrlv hrl hrk
      have d0 := cell_of HX.out (i := 0) rfl
      have d1 := cell_of HX.out (i := 1) rfl
      have d2 := cell_of HX.out (i := 2) rfl
      have d3 := cell_of HX.out (i := 3) rfl
      have d4 := cell_of HX.out (i := 4) rfl
      have d5 := cell_of HX.out (i := 5) rfl
      have d6 := cell_of HX.out (i := 6) rfl
      have d7 := cell_of HX.out (i := 7) rfl
      go_wp2_with (fail)
      have hb1 : Below wr.heap.size wr ((wr.alloc (.cells #[.int .i64 s.k, .int .i64 s.x, .int .i64 s.y, .int .i64 s.z, .int .i64 s.f, .int .i64 s.n] 36)).alloc (.cells #[.int .i64 m1.x, .int .i64 m1.y, .int .i64 m1.z, .int .i64 m1.s, .int .i64 m1.h, .int .i64 m1.t, .int .i64 m1.f, .bool m1.r] 44)) := ((Below.refl _ _).alloc (Nat.le_refl _) _).alloc (by simp) _
      have B1 := Lib.hid hb1
      have HS1 : Hid (((wr.alloc (.cells #[.int .i64 s.k, .int .i64 s.x, .int .i64 s.y, .int .i64 s.z, .int .i64 s.f, .int .i64 s.n] 36)).alloc (.cells #[.int .i64 m1.x, .int .i64 m1.y, .int .i64 m1.z, .int .i64 m1.s, .int .i64 m1.h, .int .i64 m1.t, .int .i64 m1.f, .bool m1.r] 44)).heap[wr.heap.size]? = some (.cells #[.int .i64 s.k, .int .i64 s.x, .int .i64 s.y, .int .i64 s.z, .int .i64 s.f, .int .i64 s.n] 36 (0, 0))) := Lib.hid ((Below.heap_alloc _ _ _ (by simp)).trans (heap_new rfl))
      have HR1 : Hid (((wr.alloc (.cells #[.int .i64 s.k, .int .i64 s.x, .int .i64 s.y, .int .i64 s.z, .int .i64 s.f, .int .i64 s.n] 36)).alloc (.cells #[.int .i64 m1.x, .int .i64 m1.y, .int .i64 m1.z, .int .i64 m1.s, .int .i64 m1.h, .int .i64 m1.t, .int .i64 m1.f, .bool m1.r] 44)).heap[wr.heap.size + 1]? = some (.cells #[.int .i64 m1.x, .int .i64 m1.y, .int .i64 m1.z, .int .i64 m1.s, .int .i64 m1.h, .int .i64 m1.t, .int .i64 m1.f, .bool m1.r] 44 (0, 0))) := Lib.hid (heap_new (by simp))
      clear hb1 c0 c1 c2 c3 c4 c5 d0 d1 d2 d3 d4 d5 d6 d7
      generalize ((wr.alloc (.cells #[.int .i64 s.k, .int .i64 s.x, .int .i64 s.y, .int .i64 s.z, .int .i64 s.f, .int .i64 s.n] 36)).alloc (.cells #[.int .i64 m1.x, .int .i64 m1.y, .int .i64 m1.z, .int .i64 m1.s, .int .i64 m1.h, .int .i64 m1.t, .int .i64 m1.f, .bool m1.r] 44)) = w1 at *
      obtain ⟨q, hq⟩ : ∃ q, wr.heap.size = q := ⟨_, rfl⟩
      have HQ := Lib.hid hq
      rw [hq] at HS1 HR1
      try rw [hq]
      clear hq
      refine (after_fit m1 s _ HTk.out.k (HMk.out.fit HTk.out (by omega))).mono ?_
      rintro e w2 ⟨rfl, hb2⟩
      have HS2 := Lib.hid (heap_keep hb2 HS1.out)
      have HR2 := Lib.hid (heap_keep hb2 HR1.out)
      replace B1 := Lib.hid (B1.out.trans (hb2.mono B1.out.size))
      clear hb2 HS1 HR1
      have hAx := HMk.out
      have hBx := HMk2.out
      obtain ⟨m2, hm2⟩ : ∃ m2, aft m1 s = m2 := ⟨_, rfl⟩
      rw [hm2] at RM2 hBx ⊢
      clear hm2
      have hx1 := hAx.x
      have hy1 := hAx.y
      have hz1 := hAx.z
      have hx2 := hBx.x
      have hy2 := hBx.y
      have hz2' := hBx.z
      have ex : IntKind.i64.wrap (m2.x - m1.x) = m2.x - m1.x := i64w (by omega)
      have ey : IntKind.i64.wrap (m2.y - m1.y) = m2.y - m1.y := i64w (by omega)
      have ez : IntKind.i64.wrap (m2.z - m1.z) = m2.z - m1.z := i64w (by omega)
      clear hx1 hy1 hz1 hx2 hy2 hz2' hAx hBx
      have HX2 := Lib.hid (heap_keep B1.out HX.out)
      have HO2 := Lib.hid (ownsRow_below HO.out B1.out)
      have HOQ := Lib.hid (fun (b : Nat) (hb : (Value.slice ao rl.length co).ownBlock = some b) => (show b < q by have := HO.out.lt b hb; have := HQ.out; omega))
      have B2 := Lib.hid (HB.out.trans (B1.out.mono hsz))
      have BL2 := Lib.hid (HBL.out.below B1.out)
      have d0 := cell_of HX2.out (i := 0) rfl
      have d1 := cell_of HX2.out (i := 1) rfl
      have d2 := cell_of HX2.out (i := 2) rfl
      have d3 := cell_of HX2.out (i := 3) rfl
      have d4 := cell_of HX2.out (i := 4) rfl
      have d5 := cell_of HX2.out (i := 5) rfl
      have d6 := cell_of HX2.out (i := 6) rfl
      have d7 := cell_of HX2.out (i := 7) rfl
      have g0 := fun i => frozen_of (i := i) HX2.out
      go_upto_region 8 with (fail)
      obtain ⟨hx5, hm5⟩ := storeMa (W := ((((((((w2.setCell ⟨g, 0, none⟩ (.int .i64 m2.x)).setCell ⟨g, 1, none⟩ (.int .i64 m2.y)).setCell ⟨g, 2, none⟩ (.int .i64 m2.z)).setCell ⟨g, 3, none⟩ (.int .i64 m2.s)).setCell ⟨g, 4, none⟩ (.int .i64 m2.h)).setCell ⟨g, 5, none⟩ (.int .i64 m2.t)).setCell ⟨g, 6, none⟩ (.int .i64 m2.f)).setCell ⟨g, 7, none⟩ (.bool m2.r))) HX2.out (m2 := m2) rfl
      generalize ((((((((w2.setCell ⟨g, 0, none⟩ (.int .i64 m2.x)).setCell ⟨g, 1, none⟩ (.int .i64 m2.y)).setCell ⟨g, 2, none⟩ (.int .i64 m2.z)).setCell ⟨g, 3, none⟩ (.int .i64 m2.s)).setCell ⟨g, 4, none⟩ (.int .i64 m2.h)).setCell ⟨g, 5, none⟩ (.int .i64 m2.t)).setCell ⟨g, 6, none⟩ (.int .i64 m2.f)).setCell ⟨g, 7, none⟩ (.bool m2.r)) = w5 at *
      have hqg : q ≠ g := by have := HQ.out; omega
      have hqg1 : q + 1 ≠ g := by have := HQ.out; omega
      have hgq : g < q := by have := HQ.out; omega
      have HX5 := Lib.hid hx5
      have HS5 := Lib.hid (heap_mut HS2.out hm5 hqg)
      have HR5 := Lib.hid (heap_mut HR2.out hm5 hqg1)
      have HO5 := Lib.hid (own_mut HO2.out hm5 (fun b hb e => by have := (HO2.out.lt b hb).1; omega))
      have B5 := Lib.hid (B2.out.trans (hm5.toBelow w.heap.size B2.out.size (fun b hb h => by have := HG.out; omega)))
      have BL5 := Lib.hid (show Mut (· = g) w0 w5 from BL2.out.trans hm5)
      have hs5 := lt_of_heap HS5.out
      clear hx5 hm5 d0 d1 d2 d3 d4 d5 d6 d7 g0 HX2 HO2 B2 HS2 HX HO HB B1 HR2 BL2
      have hkA := HTk.out.a.k
      by_cases hk3 : s.k = 3
      · have HM0 := Lib.hid (show relF T (k + 1) = relF T k ++ [⟨3, (m2.x - m1.x), (m2.y - m1.y), s.z, s.f, s.n⟩] by rw [relF, RS.out, RM1.out, RM2.out]; unfold relS toldS; rw [if_pos (by omega), hk3] <;> rfl)
        rw [hk3] at HS5
        have s0 : w5.cell? ⟨q, 0, none⟩ = some (.int .i64 3) := cell_of HS5.out (i := 0) rfl
        have s1 : w5.cell? ⟨q, 1, none⟩ = some (.int .i64 s.x) := cell_of HS5.out (i := 1) rfl
        have s2 : w5.cell? ⟨q, 2, none⟩ = some (.int .i64 s.y) := cell_of HS5.out (i := 2) rfl
        have s3 : w5.cell? ⟨q, 3, none⟩ = some (.int .i64 s.z) := cell_of HS5.out (i := 3) rfl
        have s4 : w5.cell? ⟨q, 4, none⟩ = some (.int .i64 s.f) := cell_of HS5.out (i := 4) rfl
        have s5 : w5.cell? ⟨q, 5, none⟩ = some (.int .i64 s.n) := cell_of HS5.out (i := 5) rfl
        have d0 : w5.cell? ⟨g, 0, none⟩ = some (.int .i64 m2.x) := cell_of HX5.out (i := 0) rfl
        have d1 : w5.cell? ⟨g, 1, none⟩ = some (.int .i64 m2.y) := cell_of HX5.out (i := 1) rfl
        have d2 : w5.cell? ⟨g, 2, none⟩ = some (.int .i64 m2.z) := cell_of HX5.out (i := 2) rfl
        have d3 : w5.cell? ⟨g, 3, none⟩ = some (.int .i64 m2.s) := cell_of HX5.out (i := 3) rfl
        have d4 : w5.cell? ⟨g, 4, none⟩ = some (.int .i64 m2.h) := cell_of HX5.out (i := 4) rfl
        have d5 : w5.cell? ⟨g, 5, none⟩ = some (.int .i64 m2.t) := cell_of HX5.out (i := 5) rfl
        have d6 : w5.cell? ⟨g, 6, none⟩ = some (.int .i64 m2.f) := cell_of HX5.out (i := 6) rfl
        have d7 : w5.cell? ⟨g, 7, none⟩ = some (.bool m2.r) := cell_of HX5.out (i := 7) rfl
        have e0 : w5.cell? ⟨q + 1, 0, none⟩ = some (.int .i64 m1.x) := cell_of HR5.out (i := 0) rfl
        have e1 : w5.cell? ⟨q + 1, 1, none⟩ = some (.int .i64 m1.y) := cell_of HR5.out (i := 1) rfl
        have e2 : w5.cell? ⟨q + 1, 2, none⟩ = some (.int .i64 m1.z) := cell_of HR5.out (i := 2) rfl
        have e3 : w5.cell? ⟨q + 1, 3, none⟩ = some (.int .i64 m1.s) := cell_of HR5.out (i := 3) rfl
        have e4 : w5.cell? ⟨q + 1, 4, none⟩ = some (.int .i64 m1.h) := cell_of HR5.out (i := 4) rfl
        have e5 : w5.cell? ⟨q + 1, 5, none⟩ = some (.int .i64 m1.t) := cell_of HR5.out (i := 5) rfl
        have e6 : w5.cell? ⟨q + 1, 6, none⟩ = some (.int .i64 m1.f) := cell_of HR5.out (i := 6) rfl
        have e7 : w5.cell? ⟨q + 1, 7, none⟩ = some (.bool m1.r) := cell_of HR5.out (i := 7) rfl
        have fq := fun i => frozen_of (i := i) HS5.out
        go_upto_region 11 with (fail)
        go_region
        go_upto_region 14 with (fail)
        have hm6 : Mut (· = q) w5 ((w5.setCell ⟨q, 1, none⟩ (.int .i64 (m2.x - m1.x))).setCell ⟨q, 2, none⟩ (.int .i64 (m2.y - m1.y))).drew := (Mut.setCell (p := ⟨q, 2, none⟩) (Mut.setCell (p := ⟨q, 1, none⟩) (Mut.refl (· = q) w5) (fun _ => rfl) _) (fun _ => rfl) _).drew
        have hs6 : ((w5.setCell ⟨q, 1, none⟩ (.int .i64 (m2.x - m1.x))).setCell ⟨q, 2, none⟩ (.int .i64 (m2.y - m1.y))).drew.heap[q]? = some (.cells #[.int .i64 3, .int .i64 (m2.x - m1.x), .int .i64 (m2.y - m1.y), .int .i64 s.z, .int .i64 s.f, .int .i64 s.n] 36 (0, 0)) := (cells_set (i := 2) (cells_set (i := 1) HS5.out (.int .i64 (m2.x - m1.x))) (.int .i64 (m2.y - m1.y))).trans (by simp only [List.setIfInBounds_toArray, List.set_cons_zero, List.set_cons_succ])
        have HS7 := Lib.hid hs6
        have HX7 := Lib.hid (heap_mut HX5.out hm6 (by omega))
        have HO7 := Lib.hid (own_mut HO5.out hm6 (fun b hb e => by have := HOQ.out b hb; omega))
        have B7 := Lib.hid (B5.out.trans (hm6.toBelow w.heap.size B5.out.size (fun b hb h => by have := HQ.out; omega)))
        have BL7 := Lib.hid (BL5.out.after hm6 (fun b hb h => by have := HQ.out; omega))
        clear hs6 hm6 s0 s1 s2 s3 s4 s5 d0 d1 d2 d3 d4 d5 d6 d7 e0 e1 e2 e3 e4 e5 e6 e7 fq
        generalize ((w5.setCell ⟨q, 1, none⟩ (.int .i64 (m2.x - m1.x))).setCell ⟨q, 2, none⟩ (.int .i64 (m2.y - m1.y))).drew = w7 at *
        have s0 : w7.cell? ⟨q, 0, none⟩ = some (.int .i64 3) := cell_of HS7.out (i := 0) rfl
        have s1 : w7.cell? ⟨q, 1, none⟩ = some (.int .i64 (m2.x - m1.x)) := cell_of HS7.out (i := 1) rfl
        have s2 : w7.cell? ⟨q, 2, none⟩ = some (.int .i64 (m2.y - m1.y)) := cell_of HS7.out (i := 2) rfl
        have s3 : w7.cell? ⟨q, 3, none⟩ = some (.int .i64 s.z) := cell_of HS7.out (i := 3) rfl
        have s4 : w7.cell? ⟨q, 4, none⟩ = some (.int .i64 s.f) := cell_of HS7.out (i := 4) rfl
        have s5 : w7.cell? ⟨q, 5, none⟩ = some (.int .i64 s.n) := cell_of HS7.out (i := 5) rfl
        have hs7 := lt_of_heap HX7.out
        have hw7 := BL7.out.size
        have hq7 := lt_of_heap HS7.out
        by_cases hk0 : k = 0
        · have hr0 : rl = [] := List.eq_nil_of_length_eq_zero (by rw [HRL.out, if_pos hk0])
          have HM : Hid (relOut (relF T (k + 1)) = [⟨2, 0, 0, 0, 0, 0⟩] ++ [⟨3, (m2.x - m1.x), (m2.y - m1.y), s.z, s.f, s.n⟩]) := Lib.hid (by rw [HM0.out]; subst hk0; rfl)
          subst hr0
          have hbz : Below w7.heap.size w7 (w7.alloc (.cells #[.int .i64 2, .int .i64 0, .int .i64 0, .int .i64 0, .int .i64 0, .int .i64 0] 36)) := (Below.refl _ _).alloc (Nat.le_refl _) _
          have HOZ : Hid ((w7.alloc (.cells #[.int .i64 2, .int .i64 0, .int .i64 0, .int .i64 0, .int .i64 0, .int .i64 0] 36)).ownsRow w0.heap.size 36 6 (.slice (some ⟨w7.heap.size, 0, none⟩) 1 1) 1 (rowS [⟨2, 0, 0, 0, 0, 0⟩])) := Lib.hid ⟨rfl, .inr ⟨w7.heap.size, 1, #[.int .i64 2, .int .i64 0, .int .i64 0, .int .i64 0, .int .i64 0, .int .i64 0], rfl, by omega, heap_alloc_new w7 _, Nat.le_refl _, by unfold maxLen; decide, rfl, rfl⟩⟩
          have BZ := Lib.hid (B7.out.trans (hbz.mono B7.out.size))
          have HXZ := Lib.hid (heap_keep hbz HX7.out)
          have BLZ := Lib.hid (BL7.out.below hbz)
          have hsz7 : (w7.alloc (.cells #[.int .i64 2, .int .i64 0, .int .i64 0, .int .i64 0, .int .i64 0, .int .i64 0] 36)).heap.size = w7.heap.size + 1 := by simp
          clear hbz
          go_wp2_with (at_builtin; refine wpList_append_lies _ rfl _ _ 26 rfl w0.heap.size 36 i0 (.agg #[.int .i64 0, .int .i64 0, .int .i64 0, .int .i64 0, .int .i64 0, .int .i64 0]) 6 48 Try.underlying26 hi0 hz0 hz1 hz2 rfl (by decide) _ _ _ rfl (ownsRow_below (HOZ.out) ((Below.refl _ (w7.alloc (.cells #[.int .i64 2, .int .i64 0, .int .i64 0, .int .i64 0, .int .i64 0, .int .i64 0] 36))).alloc (Nat.le_refl _) _)) ⟨(w7.heap.size + 1), 0, none⟩ 1 1 [.int .i64 3, .int .i64 (m2.x - m1.x), .int .i64 (m2.y - m1.y), .int .i64 s.z, .int .i64 s.f, .int .i64 s.n] rfl rfl (World.news_of_block (cs := #[.int .i64 3, .int .i64 (m2.x - m1.x), .int .i64 (m2.y - m1.y), .int .i64 s.z, .int .i64 s.f, .int .i64 s.n]) (t := 36) (fr := (0, 0)) (show ((w7.alloc (.cells #[.int .i64 2, .int .i64 0, .int .i64 0, .int .i64 0, .int .i64 0, .int .i64 0] 36)).alloc (.cells #[.int .i64 3, .int .i64 (m2.x - m1.x), .int .i64 (m2.y - m1.y), .int .i64 s.z, .int .i64 s.f, .int .i64 s.n] 36)).heap[(w7.heap.size + 1)]? = some (.cells #[.int .i64 3, .int .i64 (m2.x - m1.x), .int .i64 (m2.y - m1.y), .int .i64 s.z, .int .i64 s.f, .int .i64 s.n] 36) from heap_new (by simp))) (by simp [Value.oneCell']) (by omega) (by unfold maxLen; omega) (by omega) (by simp; omega) ((w7.heap.size + 1) + 1) (by simp) ?_; intro g8 c8 w8 hown8 hgrow8 hge8 hlt8; have HO8 := Lib.hid hown8; have HB8 := Lib.hid (Below.grown (B := w0.heap.size) (Below.alloc (B := w0.heap.size) (Below.refl _ (w7.alloc (.cells #[.int .i64 2, .int .i64 0, .int .i64 0, .int .i64 0, .int .i64 0, .int .i64 0] 36))) (by omega) (.cells #[.int .i64 3, .int .i64 (m2.x - m1.x), .int .i64 (m2.y - m1.y), .int .i64 s.z, .int .i64 s.f, .int .i64 s.n] 36)) hgrow8 (by simp; omega) (fun b hb => ((HOZ.out).lt b hb).1)); clear hown8 hgrow8 hge8)
          have B8 := Lib.hid (BZ.out.trans (HB8.out.mono hw0))
          have HX8 := Lib.hid ((HB8.out.block g (by omega)).trans HXZ.out)
          have BL8 := Lib.hid (BLZ.out.after (S := fun b => w0.heap.size ≤ b) ⟨HB8.out.os, HB8.out.tape, HB8.out.output, HB8.out.size, fun b _ hn => HB8.out.block b (by omega)⟩ (fun b hb h => by omega))
          have hs8 : g + 1 ≤ w8.heap.size := by have := lt_of_heap HX8.out; omega
          go_roundw
          case rel => exact ⟨k + 1, some ⟨g8, 0, none⟩, c8, by omega, by go_num, by rw [HM.out]; rfl, by rw [RM2.out]; exact HX8.out, by rw [HM.out, rowS_app]; exact HO8.out, hs8, BL8.out, B8.out⟩
          case measure => simp [intOf] <;> omega
        · have hne : ¬ (rl.length : Int) = 0 := by have h := HRL.out; rw [if_neg hk0] at h; omega
          have HM : Hid (relOut (relF T (k + 1)) = rl ++ [⟨3, (m2.x - m1.x), (m2.y - m1.y), s.z, s.f, s.n⟩]) := Lib.hid (by rw [HM0.out, relOut_snoc _ _ (by rw [HRK.out]; exact hk0), RL.out])
          have BZ := B7
          have HXZ := HX7
          have BLZ := BL7
          have hlrl : rl.length ≤ 6000 := by have h := HRL.out; rw [if_neg hk0] at h; omega
          go_wp2_with (at_builtin; refine wpList_append_lies _ rfl _ _ 26 rfl w0.heap.size 36 i0 (.agg #[.int .i64 0, .int .i64 0, .int .i64 0, .int .i64 0, .int .i64 0, .int .i64 0]) 6 48 Try.underlying26 hi0 hz0 hz1 hz2 rfl (by decide) _ _ _ rfl (ownsRow_below (HO7.out) ((Below.refl _ w7).alloc (Nat.le_refl _) _)) ⟨w7.heap.size, 0, none⟩ 1 1 [.int .i64 3, .int .i64 (m2.x - m1.x), .int .i64 (m2.y - m1.y), .int .i64 s.z, .int .i64 s.f, .int .i64 s.n] rfl rfl (World.news_of_block (cs := #[.int .i64 3, .int .i64 (m2.x - m1.x), .int .i64 (m2.y - m1.y), .int .i64 s.z, .int .i64 s.f, .int .i64 s.n]) (t := 36) (fr := (0, 0)) (heap_alloc_new w7 (.cells #[.int .i64 3, .int .i64 (m2.x - m1.x), .int .i64 (m2.y - m1.y), .int .i64 s.z, .int .i64 s.f, .int .i64 s.n] 36))) (by simp [Value.oneCell']) (by omega) (by unfold maxLen; omega) (by omega) (by simp; omega) (w7.heap.size + 1) (by simp) ?_; intro g8 c8 w8 hown8 hgrow8 hge8 hlt8; have HO8 := Lib.hid hown8; have HB8 := Lib.hid (Below.grown (B := w0.heap.size) (Below.alloc (B := w0.heap.size) (Below.refl _ w7) (by omega) (.cells #[.int .i64 3, .int .i64 (m2.x - m1.x), .int .i64 (m2.y - m1.y), .int .i64 s.z, .int .i64 s.f, .int .i64 s.n] 36)) hgrow8 (by simp; omega) (fun b hb => ((HO7.out).lt b hb).1)); clear hown8 hgrow8 hge8)
          have B8 := Lib.hid (BZ.out.trans (HB8.out.mono hw0))
          have HX8 := Lib.hid ((HB8.out.block g (by omega)).trans HXZ.out)
          have BL8 := Lib.hid (BLZ.out.after (S := fun b => w0.heap.size ≤ b) ⟨HB8.out.os, HB8.out.tape, HB8.out.output, HB8.out.size, fun b _ hn => HB8.out.block b (by omega)⟩ (fun b hb h => by omega))
          have hs8 : g + 1 ≤ w8.heap.size := by have := lt_of_heap HX8.out; omega
          go_roundw
          case rel => exact ⟨k + 1, some ⟨g8, 0, none⟩, c8, by omega, by go_num, by rw [HM.out, List.length_append]; rfl, by rw [RM2.out]; exact HX8.out, by rw [HM.out, List.length_append, rowS_app]; exact HO8.out, hs8, BL8.out, B8.out⟩
          case measure => simp [intOf] <;> omega
      by_cases hk4 : s.k = 4
      · have HM0 := Lib.hid (show relF T (k + 1) = relF T k ++ [⟨4, (m2.x - m1.x), (m2.y - m1.y), s.z, s.f, s.n⟩] by rw [relF, RS.out, RM1.out, RM2.out]; unfold relS toldS; rw [if_pos (by omega), hk4] <;> rfl)
        rw [hk4] at HS5
        have s0 : w5.cell? ⟨q, 0, none⟩ = some (.int .i64 4) := cell_of HS5.out (i := 0) rfl
        have s1 : w5.cell? ⟨q, 1, none⟩ = some (.int .i64 s.x) := cell_of HS5.out (i := 1) rfl
        have s2 : w5.cell? ⟨q, 2, none⟩ = some (.int .i64 s.y) := cell_of HS5.out (i := 2) rfl
        have s3 : w5.cell? ⟨q, 3, none⟩ = some (.int .i64 s.z) := cell_of HS5.out (i := 3) rfl
        have s4 : w5.cell? ⟨q, 4, none⟩ = some (.int .i64 s.f) := cell_of HS5.out (i := 4) rfl
        have s5 : w5.cell? ⟨q, 5, none⟩ = some (.int .i64 s.n) := cell_of HS5.out (i := 5) rfl
        have d0 : w5.cell? ⟨g, 0, none⟩ = some (.int .i64 m2.x) := cell_of HX5.out (i := 0) rfl
        have d1 : w5.cell? ⟨g, 1, none⟩ = some (.int .i64 m2.y) := cell_of HX5.out (i := 1) rfl
        have d2 : w5.cell? ⟨g, 2, none⟩ = some (.int .i64 m2.z) := cell_of HX5.out (i := 2) rfl
        have d3 : w5.cell? ⟨g, 3, none⟩ = some (.int .i64 m2.s) := cell_of HX5.out (i := 3) rfl
        have d4 : w5.cell? ⟨g, 4, none⟩ = some (.int .i64 m2.h) := cell_of HX5.out (i := 4) rfl
        have d5 : w5.cell? ⟨g, 5, none⟩ = some (.int .i64 m2.t) := cell_of HX5.out (i := 5) rfl
        have d6 : w5.cell? ⟨g, 6, none⟩ = some (.int .i64 m2.f) := cell_of HX5.out (i := 6) rfl
        have d7 : w5.cell? ⟨g, 7, none⟩ = some (.bool m2.r) := cell_of HX5.out (i := 7) rfl
        have e0 : w5.cell? ⟨q + 1, 0, none⟩ = some (.int .i64 m1.x) := cell_of HR5.out (i := 0) rfl
        have e1 : w5.cell? ⟨q + 1, 1, none⟩ = some (.int .i64 m1.y) := cell_of HR5.out (i := 1) rfl
        have e2 : w5.cell? ⟨q + 1, 2, none⟩ = some (.int .i64 m1.z) := cell_of HR5.out (i := 2) rfl
        have e3 : w5.cell? ⟨q + 1, 3, none⟩ = some (.int .i64 m1.s) := cell_of HR5.out (i := 3) rfl
        have e4 : w5.cell? ⟨q + 1, 4, none⟩ = some (.int .i64 m1.h) := cell_of HR5.out (i := 4) rfl
        have e5 : w5.cell? ⟨q + 1, 5, none⟩ = some (.int .i64 m1.t) := cell_of HR5.out (i := 5) rfl
        have e6 : w5.cell? ⟨q + 1, 6, none⟩ = some (.int .i64 m1.f) := cell_of HR5.out (i := 6) rfl
        have e7 : w5.cell? ⟨q + 1, 7, none⟩ = some (.bool m1.r) := cell_of HR5.out (i := 7) rfl
        have fq := fun i => frozen_of (i := i) HS5.out
        go_upto_region 11 with (fail)
        go_region
        go_upto_region 14 with (fail)
        have hm6 : Mut (· = q) w5 ((w5.setCell ⟨q, 1, none⟩ (.int .i64 (m2.x - m1.x))).setCell ⟨q, 2, none⟩ (.int .i64 (m2.y - m1.y))).drew := (Mut.setCell (p := ⟨q, 2, none⟩) (Mut.setCell (p := ⟨q, 1, none⟩) (Mut.refl (· = q) w5) (fun _ => rfl) _) (fun _ => rfl) _).drew
        have hs6 : ((w5.setCell ⟨q, 1, none⟩ (.int .i64 (m2.x - m1.x))).setCell ⟨q, 2, none⟩ (.int .i64 (m2.y - m1.y))).drew.heap[q]? = some (.cells #[.int .i64 4, .int .i64 (m2.x - m1.x), .int .i64 (m2.y - m1.y), .int .i64 s.z, .int .i64 s.f, .int .i64 s.n] 36 (0, 0)) := (cells_set (i := 2) (cells_set (i := 1) HS5.out (.int .i64 (m2.x - m1.x))) (.int .i64 (m2.y - m1.y))).trans (by simp only [List.setIfInBounds_toArray, List.set_cons_zero, List.set_cons_succ])
        have HS7 := Lib.hid hs6
        have HX7 := Lib.hid (heap_mut HX5.out hm6 (by omega))
        have HO7 := Lib.hid (own_mut HO5.out hm6 (fun b hb e => by have := HOQ.out b hb; omega))
        have B7 := Lib.hid (B5.out.trans (hm6.toBelow w.heap.size B5.out.size (fun b hb h => by have := HQ.out; omega)))
        have BL7 := Lib.hid (BL5.out.after hm6 (fun b hb h => by have := HQ.out; omega))
        clear hs6 hm6 s0 s1 s2 s3 s4 s5 d0 d1 d2 d3 d4 d5 d6 d7 e0 e1 e2 e3 e4 e5 e6 e7 fq
        generalize ((w5.setCell ⟨q, 1, none⟩ (.int .i64 (m2.x - m1.x))).setCell ⟨q, 2, none⟩ (.int .i64 (m2.y - m1.y))).drew = w7 at *
        have s0 : w7.cell? ⟨q, 0, none⟩ = some (.int .i64 4) := cell_of HS7.out (i := 0) rfl
        have s1 : w7.cell? ⟨q, 1, none⟩ = some (.int .i64 (m2.x - m1.x)) := cell_of HS7.out (i := 1) rfl
        have s2 : w7.cell? ⟨q, 2, none⟩ = some (.int .i64 (m2.y - m1.y)) := cell_of HS7.out (i := 2) rfl
        have s3 : w7.cell? ⟨q, 3, none⟩ = some (.int .i64 s.z) := cell_of HS7.out (i := 3) rfl
        have s4 : w7.cell? ⟨q, 4, none⟩ = some (.int .i64 s.f) := cell_of HS7.out (i := 4) rfl
        have s5 : w7.cell? ⟨q, 5, none⟩ = some (.int .i64 s.n) := cell_of HS7.out (i := 5) rfl
        have hs7 := lt_of_heap HX7.out
        have hw7 := BL7.out.size
        have hq7 := lt_of_heap HS7.out
        by_cases hk0 : k = 0
        · have hr0 : rl = [] := List.eq_nil_of_length_eq_zero (by rw [HRL.out, if_pos hk0])
          have HM : Hid (relOut (relF T (k + 1)) = [⟨2, 0, 0, 0, 0, 0⟩] ++ [⟨4, (m2.x - m1.x), (m2.y - m1.y), s.z, s.f, s.n⟩]) := Lib.hid (by rw [HM0.out]; subst hk0; rfl)
          subst hr0
          have hbz : Below w7.heap.size w7 (w7.alloc (.cells #[.int .i64 2, .int .i64 0, .int .i64 0, .int .i64 0, .int .i64 0, .int .i64 0] 36)) := (Below.refl _ _).alloc (Nat.le_refl _) _
          have HOZ : Hid ((w7.alloc (.cells #[.int .i64 2, .int .i64 0, .int .i64 0, .int .i64 0, .int .i64 0, .int .i64 0] 36)).ownsRow w0.heap.size 36 6 (.slice (some ⟨w7.heap.size, 0, none⟩) 1 1) 1 (rowS [⟨2, 0, 0, 0, 0, 0⟩])) := Lib.hid ⟨rfl, .inr ⟨w7.heap.size, 1, #[.int .i64 2, .int .i64 0, .int .i64 0, .int .i64 0, .int .i64 0, .int .i64 0], rfl, by omega, heap_alloc_new w7 _, Nat.le_refl _, by unfold maxLen; decide, rfl, rfl⟩⟩
          have BZ := Lib.hid (B7.out.trans (hbz.mono B7.out.size))
          have HXZ := Lib.hid (heap_keep hbz HX7.out)
          have BLZ := Lib.hid (BL7.out.below hbz)
          have hsz7 : (w7.alloc (.cells #[.int .i64 2, .int .i64 0, .int .i64 0, .int .i64 0, .int .i64 0, .int .i64 0] 36)).heap.size = w7.heap.size + 1 := by simp
          clear hbz
          go_wp2_with (at_builtin; refine wpList_append_lies _ rfl _ _ 26 rfl w0.heap.size 36 i0 (.agg #[.int .i64 0, .int .i64 0, .int .i64 0, .int .i64 0, .int .i64 0, .int .i64 0]) 6 48 Try.underlying26 hi0 hz0 hz1 hz2 rfl (by decide) _ _ _ rfl (ownsRow_below (HOZ.out) ((Below.refl _ (w7.alloc (.cells #[.int .i64 2, .int .i64 0, .int .i64 0, .int .i64 0, .int .i64 0, .int .i64 0] 36))).alloc (Nat.le_refl _) _)) ⟨(w7.heap.size + 1), 0, none⟩ 1 1 [.int .i64 4, .int .i64 (m2.x - m1.x), .int .i64 (m2.y - m1.y), .int .i64 s.z, .int .i64 s.f, .int .i64 s.n] rfl rfl (World.news_of_block (cs := #[.int .i64 4, .int .i64 (m2.x - m1.x), .int .i64 (m2.y - m1.y), .int .i64 s.z, .int .i64 s.f, .int .i64 s.n]) (t := 36) (fr := (0, 0)) (show ((w7.alloc (.cells #[.int .i64 2, .int .i64 0, .int .i64 0, .int .i64 0, .int .i64 0, .int .i64 0] 36)).alloc (.cells #[.int .i64 4, .int .i64 (m2.x - m1.x), .int .i64 (m2.y - m1.y), .int .i64 s.z, .int .i64 s.f, .int .i64 s.n] 36)).heap[(w7.heap.size + 1)]? = some (.cells #[.int .i64 4, .int .i64 (m2.x - m1.x), .int .i64 (m2.y - m1.y), .int .i64 s.z, .int .i64 s.f, .int .i64 s.n] 36) from heap_new (by simp))) (by simp [Value.oneCell']) (by omega) (by unfold maxLen; omega) (by omega) (by simp; omega) ((w7.heap.size + 1) + 1) (by simp) ?_; intro g8 c8 w8 hown8 hgrow8 hge8 hlt8; have HO8 := Lib.hid hown8; have HB8 := Lib.hid (Below.grown (B := w0.heap.size) (Below.alloc (B := w0.heap.size) (Below.refl _ (w7.alloc (.cells #[.int .i64 2, .int .i64 0, .int .i64 0, .int .i64 0, .int .i64 0, .int .i64 0] 36))) (by omega) (.cells #[.int .i64 4, .int .i64 (m2.x - m1.x), .int .i64 (m2.y - m1.y), .int .i64 s.z, .int .i64 s.f, .int .i64 s.n] 36)) hgrow8 (by simp; omega) (fun b hb => ((HOZ.out).lt b hb).1)); clear hown8 hgrow8 hge8)
          have B8 := Lib.hid (BZ.out.trans (HB8.out.mono hw0))
          have HX8 := Lib.hid ((HB8.out.block g (by omega)).trans HXZ.out)
          have BL8 := Lib.hid (BLZ.out.after (S := fun b => w0.heap.size ≤ b) ⟨HB8.out.os, HB8.out.tape, HB8.out.output, HB8.out.size, fun b _ hn => HB8.out.block b (by omega)⟩ (fun b hb h => by omega))
          have hs8 : g + 1 ≤ w8.heap.size := by have := lt_of_heap HX8.out; omega
          go_roundw
          case rel => exact ⟨k + 1, some ⟨g8, 0, none⟩, c8, by omega, by go_num, by rw [HM.out]; rfl, by rw [RM2.out]; exact HX8.out, by rw [HM.out, rowS_app]; exact HO8.out, hs8, BL8.out, B8.out⟩
          case measure => simp [intOf] <;> omega
        · have hne : ¬ (rl.length : Int) = 0 := by have h := HRL.out; rw [if_neg hk0] at h; omega
          have HM : Hid (relOut (relF T (k + 1)) = rl ++ [⟨4, (m2.x - m1.x), (m2.y - m1.y), s.z, s.f, s.n⟩]) := Lib.hid (by rw [HM0.out, relOut_snoc _ _ (by rw [HRK.out]; exact hk0), RL.out])
          have BZ := B7
          have HXZ := HX7
          have BLZ := BL7
          have hlrl : rl.length ≤ 6000 := by have h := HRL.out; rw [if_neg hk0] at h; omega
          go_wp2_with (at_builtin; refine wpList_append_lies _ rfl _ _ 26 rfl w0.heap.size 36 i0 (.agg #[.int .i64 0, .int .i64 0, .int .i64 0, .int .i64 0, .int .i64 0, .int .i64 0]) 6 48 Try.underlying26 hi0 hz0 hz1 hz2 rfl (by decide) _ _ _ rfl (ownsRow_below (HO7.out) ((Below.refl _ w7).alloc (Nat.le_refl _) _)) ⟨w7.heap.size, 0, none⟩ 1 1 [.int .i64 4, .int .i64 (m2.x - m1.x), .int .i64 (m2.y - m1.y), .int .i64 s.z, .int .i64 s.f, .int .i64 s.n] rfl rfl (World.news_of_block (cs := #[.int .i64 4, .int .i64 (m2.x - m1.x), .int .i64 (m2.y - m1.y), .int .i64 s.z, .int .i64 s.f, .int .i64 s.n]) (t := 36) (fr := (0, 0)) (heap_alloc_new w7 (.cells #[.int .i64 4, .int .i64 (m2.x - m1.x), .int .i64 (m2.y - m1.y), .int .i64 s.z, .int .i64 s.f, .int .i64 s.n] 36))) (by simp [Value.oneCell']) (by omega) (by unfold maxLen; omega) (by omega) (by simp; omega) (w7.heap.size + 1) (by simp) ?_; intro g8 c8 w8 hown8 hgrow8 hge8 hlt8; have HO8 := Lib.hid hown8; have HB8 := Lib.hid (Below.grown (B := w0.heap.size) (Below.alloc (B := w0.heap.size) (Below.refl _ w7) (by omega) (.cells #[.int .i64 4, .int .i64 (m2.x - m1.x), .int .i64 (m2.y - m1.y), .int .i64 s.z, .int .i64 s.f, .int .i64 s.n] 36)) hgrow8 (by simp; omega) (fun b hb => ((HO7.out).lt b hb).1)); clear hown8 hgrow8 hge8)
          have B8 := Lib.hid (BZ.out.trans (HB8.out.mono hw0))
          have HX8 := Lib.hid ((HB8.out.block g (by omega)).trans HXZ.out)
          have BL8 := Lib.hid (BLZ.out.after (S := fun b => w0.heap.size ≤ b) ⟨HB8.out.os, HB8.out.tape, HB8.out.output, HB8.out.size, fun b _ hn => HB8.out.block b (by omega)⟩ (fun b hb h => by omega))
          have hs8 : g + 1 ≤ w8.heap.size := by have := lt_of_heap HX8.out; omega
          go_roundw
          case rel => exact ⟨k + 1, some ⟨g8, 0, none⟩, c8, by omega, by go_num, by rw [HM.out, List.length_append]; rfl, by rw [RM2.out]; exact HX8.out, by rw [HM.out, List.length_append, rowS_app]; exact HO8.out, hs8, BL8.out, B8.out⟩
          case measure => simp [intOf] <;> omega
      by_cases hk5 : s.k = 5
      · have HM0 := Lib.hid (show relF T (k + 1) = relF T k ++ [⟨5, s.x, s.y, (m2.z - m1.z), s.f, s.n⟩] by rw [relF, RS.out, RM1.out, RM2.out]; unfold relS toldS; rw [if_neg (by omega), if_pos (by omega), hk5] <;> rfl)
        rw [hk5] at HS5
        have s0 : w5.cell? ⟨q, 0, none⟩ = some (.int .i64 5) := cell_of HS5.out (i := 0) rfl
        have s1 : w5.cell? ⟨q, 1, none⟩ = some (.int .i64 s.x) := cell_of HS5.out (i := 1) rfl
        have s2 : w5.cell? ⟨q, 2, none⟩ = some (.int .i64 s.y) := cell_of HS5.out (i := 2) rfl
        have s3 : w5.cell? ⟨q, 3, none⟩ = some (.int .i64 s.z) := cell_of HS5.out (i := 3) rfl
        have s4 : w5.cell? ⟨q, 4, none⟩ = some (.int .i64 s.f) := cell_of HS5.out (i := 4) rfl
        have s5 : w5.cell? ⟨q, 5, none⟩ = some (.int .i64 s.n) := cell_of HS5.out (i := 5) rfl
        have d0 : w5.cell? ⟨g, 0, none⟩ = some (.int .i64 m2.x) := cell_of HX5.out (i := 0) rfl
        have d1 : w5.cell? ⟨g, 1, none⟩ = some (.int .i64 m2.y) := cell_of HX5.out (i := 1) rfl
        have d2 : w5.cell? ⟨g, 2, none⟩ = some (.int .i64 m2.z) := cell_of HX5.out (i := 2) rfl
        have d3 : w5.cell? ⟨g, 3, none⟩ = some (.int .i64 m2.s) := cell_of HX5.out (i := 3) rfl
        have d4 : w5.cell? ⟨g, 4, none⟩ = some (.int .i64 m2.h) := cell_of HX5.out (i := 4) rfl
        have d5 : w5.cell? ⟨g, 5, none⟩ = some (.int .i64 m2.t) := cell_of HX5.out (i := 5) rfl
        have d6 : w5.cell? ⟨g, 6, none⟩ = some (.int .i64 m2.f) := cell_of HX5.out (i := 6) rfl
        have d7 : w5.cell? ⟨g, 7, none⟩ = some (.bool m2.r) := cell_of HX5.out (i := 7) rfl
        have e0 : w5.cell? ⟨q + 1, 0, none⟩ = some (.int .i64 m1.x) := cell_of HR5.out (i := 0) rfl
        have e1 : w5.cell? ⟨q + 1, 1, none⟩ = some (.int .i64 m1.y) := cell_of HR5.out (i := 1) rfl
        have e2 : w5.cell? ⟨q + 1, 2, none⟩ = some (.int .i64 m1.z) := cell_of HR5.out (i := 2) rfl
        have e3 : w5.cell? ⟨q + 1, 3, none⟩ = some (.int .i64 m1.s) := cell_of HR5.out (i := 3) rfl
        have e4 : w5.cell? ⟨q + 1, 4, none⟩ = some (.int .i64 m1.h) := cell_of HR5.out (i := 4) rfl
        have e5 : w5.cell? ⟨q + 1, 5, none⟩ = some (.int .i64 m1.t) := cell_of HR5.out (i := 5) rfl
        have e6 : w5.cell? ⟨q + 1, 6, none⟩ = some (.int .i64 m1.f) := cell_of HR5.out (i := 6) rfl
        have e7 : w5.cell? ⟨q + 1, 7, none⟩ = some (.bool m1.r) := cell_of HR5.out (i := 7) rfl
        have fq := fun i => frozen_of (i := i) HS5.out
        go_upto_region 14 with (fail)
        have hm6 : Mut (· = q) w5 (w5.setCell ⟨q, 3, none⟩ (.int .i64 (m2.z - m1.z))) := Mut.setCell (p := ⟨q, 3, none⟩) (Mut.refl (· = q) w5) (fun _ => rfl) _
        have hs6 : (w5.setCell ⟨q, 3, none⟩ (.int .i64 (m2.z - m1.z))).heap[q]? = some (.cells #[.int .i64 5, .int .i64 s.x, .int .i64 s.y, .int .i64 (m2.z - m1.z), .int .i64 s.f, .int .i64 s.n] 36 (0, 0)) := (cells_set (i := 3) HS5.out (.int .i64 (m2.z - m1.z))).trans (by simp only [List.setIfInBounds_toArray, List.set_cons_zero, List.set_cons_succ])
        have HS7 := Lib.hid hs6
        have HX7 := Lib.hid (heap_mut HX5.out hm6 (by omega))
        have HO7 := Lib.hid (own_mut HO5.out hm6 (fun b hb e => by have := HOQ.out b hb; omega))
        have B7 := Lib.hid (B5.out.trans (hm6.toBelow w.heap.size B5.out.size (fun b hb h => by have := HQ.out; omega)))
        have BL7 := Lib.hid (BL5.out.after hm6 (fun b hb h => by have := HQ.out; omega))
        clear hs6 hm6 s0 s1 s2 s3 s4 s5 d0 d1 d2 d3 d4 d5 d6 d7 e0 e1 e2 e3 e4 e5 e6 e7 fq
        generalize (w5.setCell ⟨q, 3, none⟩ (.int .i64 (m2.z - m1.z))) = w7 at *
        have s0 : w7.cell? ⟨q, 0, none⟩ = some (.int .i64 5) := cell_of HS7.out (i := 0) rfl
        have s1 : w7.cell? ⟨q, 1, none⟩ = some (.int .i64 s.x) := cell_of HS7.out (i := 1) rfl
        have s2 : w7.cell? ⟨q, 2, none⟩ = some (.int .i64 s.y) := cell_of HS7.out (i := 2) rfl
        have s3 : w7.cell? ⟨q, 3, none⟩ = some (.int .i64 (m2.z - m1.z)) := cell_of HS7.out (i := 3) rfl
        have s4 : w7.cell? ⟨q, 4, none⟩ = some (.int .i64 s.f) := cell_of HS7.out (i := 4) rfl
        have s5 : w7.cell? ⟨q, 5, none⟩ = some (.int .i64 s.n) := cell_of HS7.out (i := 5) rfl
        have hs7 := lt_of_heap HX7.out
        have hw7 := BL7.out.size
        have hq7 := lt_of_heap HS7.out
        by_cases hk0 : k = 0
        · have hr0 : rl = [] := List.eq_nil_of_length_eq_zero (by rw [HRL.out, if_pos hk0])
          have HM : Hid (relOut (relF T (k + 1)) = [⟨2, 0, 0, 0, 0, 0⟩] ++ [⟨5, s.x, s.y, (m2.z - m1.z), s.f, s.n⟩]) := Lib.hid (by rw [HM0.out]; subst hk0; rfl)
          subst hr0
          have hbz : Below w7.heap.size w7 (w7.alloc (.cells #[.int .i64 2, .int .i64 0, .int .i64 0, .int .i64 0, .int .i64 0, .int .i64 0] 36)) := (Below.refl _ _).alloc (Nat.le_refl _) _
          have HOZ : Hid ((w7.alloc (.cells #[.int .i64 2, .int .i64 0, .int .i64 0, .int .i64 0, .int .i64 0, .int .i64 0] 36)).ownsRow w0.heap.size 36 6 (.slice (some ⟨w7.heap.size, 0, none⟩) 1 1) 1 (rowS [⟨2, 0, 0, 0, 0, 0⟩])) := Lib.hid ⟨rfl, .inr ⟨w7.heap.size, 1, #[.int .i64 2, .int .i64 0, .int .i64 0, .int .i64 0, .int .i64 0, .int .i64 0], rfl, by omega, heap_alloc_new w7 _, Nat.le_refl _, by unfold maxLen; decide, rfl, rfl⟩⟩
          have BZ := Lib.hid (B7.out.trans (hbz.mono B7.out.size))
          have HXZ := Lib.hid (heap_keep hbz HX7.out)
          have BLZ := Lib.hid (BL7.out.below hbz)
          have hsz7 : (w7.alloc (.cells #[.int .i64 2, .int .i64 0, .int .i64 0, .int .i64 0, .int .i64 0, .int .i64 0] 36)).heap.size = w7.heap.size + 1 := by simp
          clear hbz
          go_wp2_with (at_builtin; refine wpList_append_lies _ rfl _ _ 26 rfl w0.heap.size 36 i0 (.agg #[.int .i64 0, .int .i64 0, .int .i64 0, .int .i64 0, .int .i64 0, .int .i64 0]) 6 48 Try.underlying26 hi0 hz0 hz1 hz2 rfl (by decide) _ _ _ rfl (ownsRow_below (HOZ.out) ((Below.refl _ (w7.alloc (.cells #[.int .i64 2, .int .i64 0, .int .i64 0, .int .i64 0, .int .i64 0, .int .i64 0] 36))).alloc (Nat.le_refl _) _)) ⟨(w7.heap.size + 1), 0, none⟩ 1 1 [.int .i64 5, .int .i64 s.x, .int .i64 s.y, .int .i64 (m2.z - m1.z), .int .i64 s.f, .int .i64 s.n] rfl rfl (World.news_of_block (cs := #[.int .i64 5, .int .i64 s.x, .int .i64 s.y, .int .i64 (m2.z - m1.z), .int .i64 s.f, .int .i64 s.n]) (t := 36) (fr := (0, 0)) (show ((w7.alloc (.cells #[.int .i64 2, .int .i64 0, .int .i64 0, .int .i64 0, .int .i64 0, .int .i64 0] 36)).alloc (.cells #[.int .i64 5, .int .i64 s.x, .int .i64 s.y, .int .i64 (m2.z - m1.z), .int .i64 s.f, .int .i64 s.n] 36)).heap[(w7.heap.size + 1)]? = some (.cells #[.int .i64 5, .int .i64 s.x, .int .i64 s.y, .int .i64 (m2.z - m1.z), .int .i64 s.f, .int .i64 s.n] 36) from heap_new (by simp))) (by simp [Value.oneCell']) (by omega) (by unfold maxLen; omega) (by omega) (by simp; omega) ((w7.heap.size + 1) + 1) (by simp) ?_; intro g8 c8 w8 hown8 hgrow8 hge8 hlt8; have HO8 := Lib.hid hown8; have HB8 := Lib.hid (Below.grown (B := w0.heap.size) (Below.alloc (B := w0.heap.size) (Below.refl _ (w7.alloc (.cells #[.int .i64 2, .int .i64 0, .int .i64 0, .int .i64 0, .int .i64 0, .int .i64 0] 36))) (by omega) (.cells #[.int .i64 5, .int .i64 s.x, .int .i64 s.y, .int .i64 (m2.z - m1.z), .int .i64 s.f, .int .i64 s.n] 36)) hgrow8 (by simp; omega) (fun b hb => ((HOZ.out).lt b hb).1)); clear hown8 hgrow8 hge8)
          have B8 := Lib.hid (BZ.out.trans (HB8.out.mono hw0))
          have HX8 := Lib.hid ((HB8.out.block g (by omega)).trans HXZ.out)
          have BL8 := Lib.hid (BLZ.out.after (S := fun b => w0.heap.size ≤ b) ⟨HB8.out.os, HB8.out.tape, HB8.out.output, HB8.out.size, fun b _ hn => HB8.out.block b (by omega)⟩ (fun b hb h => by omega))
          have hs8 : g + 1 ≤ w8.heap.size := by have := lt_of_heap HX8.out; omega
          go_roundw
          case rel => exact ⟨k + 1, some ⟨g8, 0, none⟩, c8, by omega, by go_num, by rw [HM.out]; rfl, by rw [RM2.out]; exact HX8.out, by rw [HM.out, rowS_app]; exact HO8.out, hs8, BL8.out, B8.out⟩
          case measure => simp [intOf] <;> omega
        · have hne : ¬ (rl.length : Int) = 0 := by have h := HRL.out; rw [if_neg hk0] at h; omega
          have HM : Hid (relOut (relF T (k + 1)) = rl ++ [⟨5, s.x, s.y, (m2.z - m1.z), s.f, s.n⟩]) := Lib.hid (by rw [HM0.out, relOut_snoc _ _ (by rw [HRK.out]; exact hk0), RL.out])
          have BZ := B7
          have HXZ := HX7
          have BLZ := BL7
          have hlrl : rl.length ≤ 6000 := by have h := HRL.out; rw [if_neg hk0] at h; omega
          go_wp2_with (at_builtin; refine wpList_append_lies _ rfl _ _ 26 rfl w0.heap.size 36 i0 (.agg #[.int .i64 0, .int .i64 0, .int .i64 0, .int .i64 0, .int .i64 0, .int .i64 0]) 6 48 Try.underlying26 hi0 hz0 hz1 hz2 rfl (by decide) _ _ _ rfl (ownsRow_below (HO7.out) ((Below.refl _ w7).alloc (Nat.le_refl _) _)) ⟨w7.heap.size, 0, none⟩ 1 1 [.int .i64 5, .int .i64 s.x, .int .i64 s.y, .int .i64 (m2.z - m1.z), .int .i64 s.f, .int .i64 s.n] rfl rfl (World.news_of_block (cs := #[.int .i64 5, .int .i64 s.x, .int .i64 s.y, .int .i64 (m2.z - m1.z), .int .i64 s.f, .int .i64 s.n]) (t := 36) (fr := (0, 0)) (heap_alloc_new w7 (.cells #[.int .i64 5, .int .i64 s.x, .int .i64 s.y, .int .i64 (m2.z - m1.z), .int .i64 s.f, .int .i64 s.n] 36))) (by simp [Value.oneCell']) (by omega) (by unfold maxLen; omega) (by omega) (by simp; omega) (w7.heap.size + 1) (by simp) ?_; intro g8 c8 w8 hown8 hgrow8 hge8 hlt8; have HO8 := Lib.hid hown8; have HB8 := Lib.hid (Below.grown (B := w0.heap.size) (Below.alloc (B := w0.heap.size) (Below.refl _ w7) (by omega) (.cells #[.int .i64 5, .int .i64 s.x, .int .i64 s.y, .int .i64 (m2.z - m1.z), .int .i64 s.f, .int .i64 s.n] 36)) hgrow8 (by simp; omega) (fun b hb => ((HO7.out).lt b hb).1)); clear hown8 hgrow8 hge8)
          have B8 := Lib.hid (BZ.out.trans (HB8.out.mono hw0))
          have HX8 := Lib.hid ((HB8.out.block g (by omega)).trans HXZ.out)
          have BL8 := Lib.hid (BLZ.out.after (S := fun b => w0.heap.size ≤ b) ⟨HB8.out.os, HB8.out.tape, HB8.out.output, HB8.out.size, fun b _ hn => HB8.out.block b (by omega)⟩ (fun b hb h => by omega))
          have hs8 : g + 1 ≤ w8.heap.size := by have := lt_of_heap HX8.out; omega
          go_roundw
          case rel => exact ⟨k + 1, some ⟨g8, 0, none⟩, c8, by omega, by go_num, by rw [HM.out, List.length_append]; rfl, by rw [RM2.out]; exact HX8.out, by rw [HM.out, List.length_append, rowS_app]; exact HO8.out, hs8, BL8.out, B8.out⟩
          case measure => simp [intOf] <;> omega
      have HM0 := Lib.hid (show relF T (k + 1) = relF T k ++ [⟨s.k, s.x, s.y, s.z, s.f, s.n⟩] by rw [relF, RS.out, RM1.out, RM2.out]; unfold relS toldS; rw [if_neg (by omega), if_neg (by omega)] <;> rfl)
      have s0 : w5.cell? ⟨q, 0, none⟩ = some (.int .i64 s.k) := cell_of HS5.out (i := 0) rfl
      have s1 : w5.cell? ⟨q, 1, none⟩ = some (.int .i64 s.x) := cell_of HS5.out (i := 1) rfl
      have s2 : w5.cell? ⟨q, 2, none⟩ = some (.int .i64 s.y) := cell_of HS5.out (i := 2) rfl
      have s3 : w5.cell? ⟨q, 3, none⟩ = some (.int .i64 s.z) := cell_of HS5.out (i := 3) rfl
      have s4 : w5.cell? ⟨q, 4, none⟩ = some (.int .i64 s.f) := cell_of HS5.out (i := 4) rfl
      have s5 : w5.cell? ⟨q, 5, none⟩ = some (.int .i64 s.n) := cell_of HS5.out (i := 5) rfl
      go_upto_region 14 with (fail)
      have hm6 : Mut (· = q) w5 w5 := Mut.refl _ _
      have hs6 := HS5.out
      have HS7 := Lib.hid hs6
      have HX7 := Lib.hid (heap_mut HX5.out hm6 (by omega))
      have HO7 := Lib.hid (own_mut HO5.out hm6 (fun b hb e => by have := HOQ.out b hb; omega))
      have B7 := Lib.hid (B5.out.trans (hm6.toBelow w.heap.size B5.out.size (fun b hb h => by have := HQ.out; omega)))
      have BL7 := Lib.hid (BL5.out.after hm6 (fun b hb h => by have := HQ.out; omega))
      clear hs6 hm6 s0 s1 s2 s3 s4 s5
      generalize w5 = w7 at *
      have s0 : w7.cell? ⟨q, 0, none⟩ = some (.int .i64 s.k) := cell_of HS7.out (i := 0) rfl
      have s1 : w7.cell? ⟨q, 1, none⟩ = some (.int .i64 s.x) := cell_of HS7.out (i := 1) rfl
      have s2 : w7.cell? ⟨q, 2, none⟩ = some (.int .i64 s.y) := cell_of HS7.out (i := 2) rfl
      have s3 : w7.cell? ⟨q, 3, none⟩ = some (.int .i64 s.z) := cell_of HS7.out (i := 3) rfl
      have s4 : w7.cell? ⟨q, 4, none⟩ = some (.int .i64 s.f) := cell_of HS7.out (i := 4) rfl
      have s5 : w7.cell? ⟨q, 5, none⟩ = some (.int .i64 s.n) := cell_of HS7.out (i := 5) rfl
      have hs7 := lt_of_heap HX7.out
      have hw7 := BL7.out.size
      have hq7 := lt_of_heap HS7.out
      by_cases hk0 : k = 0
      · have hr0 : rl = [] := List.eq_nil_of_length_eq_zero (by rw [HRL.out, if_pos hk0])
        have HM : Hid (relOut (relF T (k + 1)) = [⟨2, 0, 0, 0, 0, 0⟩] ++ [⟨s.k, s.x, s.y, s.z, s.f, s.n⟩]) := Lib.hid (by rw [HM0.out]; subst hk0; rfl)
        subst hr0
        have hbz : Below w7.heap.size w7 (w7.alloc (.cells #[.int .i64 2, .int .i64 0, .int .i64 0, .int .i64 0, .int .i64 0, .int .i64 0] 36)) := (Below.refl _ _).alloc (Nat.le_refl _) _
        have HOZ : Hid ((w7.alloc (.cells #[.int .i64 2, .int .i64 0, .int .i64 0, .int .i64 0, .int .i64 0, .int .i64 0] 36)).ownsRow w0.heap.size 36 6 (.slice (some ⟨w7.heap.size, 0, none⟩) 1 1) 1 (rowS [⟨2, 0, 0, 0, 0, 0⟩])) := Lib.hid ⟨rfl, .inr ⟨w7.heap.size, 1, #[.int .i64 2, .int .i64 0, .int .i64 0, .int .i64 0, .int .i64 0, .int .i64 0], rfl, by omega, heap_alloc_new w7 _, Nat.le_refl _, by unfold maxLen; decide, rfl, rfl⟩⟩
        have BZ := Lib.hid (B7.out.trans (hbz.mono B7.out.size))
        have HXZ := Lib.hid (heap_keep hbz HX7.out)
        have BLZ := Lib.hid (BL7.out.below hbz)
        have hsz7 : (w7.alloc (.cells #[.int .i64 2, .int .i64 0, .int .i64 0, .int .i64 0, .int .i64 0, .int .i64 0] 36)).heap.size = w7.heap.size + 1 := by simp
        clear hbz
        go_wp2_with (at_builtin; refine wpList_append_lies _ rfl _ _ 26 rfl w0.heap.size 36 i0 (.agg #[.int .i64 0, .int .i64 0, .int .i64 0, .int .i64 0, .int .i64 0, .int .i64 0]) 6 48 Try.underlying26 hi0 hz0 hz1 hz2 rfl (by decide) _ _ _ rfl (ownsRow_below (HOZ.out) ((Below.refl _ (w7.alloc (.cells #[.int .i64 2, .int .i64 0, .int .i64 0, .int .i64 0, .int .i64 0, .int .i64 0] 36))).alloc (Nat.le_refl _) _)) ⟨(w7.heap.size + 1), 0, none⟩ 1 1 [.int .i64 s.k, .int .i64 s.x, .int .i64 s.y, .int .i64 s.z, .int .i64 s.f, .int .i64 s.n] rfl rfl (World.news_of_block (cs := #[.int .i64 s.k, .int .i64 s.x, .int .i64 s.y, .int .i64 s.z, .int .i64 s.f, .int .i64 s.n]) (t := 36) (fr := (0, 0)) (show ((w7.alloc (.cells #[.int .i64 2, .int .i64 0, .int .i64 0, .int .i64 0, .int .i64 0, .int .i64 0] 36)).alloc (.cells #[.int .i64 s.k, .int .i64 s.x, .int .i64 s.y, .int .i64 s.z, .int .i64 s.f, .int .i64 s.n] 36)).heap[(w7.heap.size + 1)]? = some (.cells #[.int .i64 s.k, .int .i64 s.x, .int .i64 s.y, .int .i64 s.z, .int .i64 s.f, .int .i64 s.n] 36) from heap_new (by simp))) (by simp [Value.oneCell']) (by omega) (by unfold maxLen; omega) (by omega) (by simp; omega) ((w7.heap.size + 1) + 1) (by simp) ?_; intro g8 c8 w8 hown8 hgrow8 hge8 hlt8; have HO8 := Lib.hid hown8; have HB8 := Lib.hid (Below.grown (B := w0.heap.size) (Below.alloc (B := w0.heap.size) (Below.refl _ (w7.alloc (.cells #[.int .i64 2, .int .i64 0, .int .i64 0, .int .i64 0, .int .i64 0, .int .i64 0] 36))) (by omega) (.cells #[.int .i64 s.k, .int .i64 s.x, .int .i64 s.y, .int .i64 s.z, .int .i64 s.f, .int .i64 s.n] 36)) hgrow8 (by simp; omega) (fun b hb => ((HOZ.out).lt b hb).1)); clear hown8 hgrow8 hge8)
        have B8 := Lib.hid (BZ.out.trans (HB8.out.mono hw0))
        have HX8 := Lib.hid ((HB8.out.block g (by omega)).trans HXZ.out)
        have BL8 := Lib.hid (BLZ.out.after (S := fun b => w0.heap.size ≤ b) ⟨HB8.out.os, HB8.out.tape, HB8.out.output, HB8.out.size, fun b _ hn => HB8.out.block b (by omega)⟩ (fun b hb h => by omega))
        have hs8 : g + 1 ≤ w8.heap.size := by have := lt_of_heap HX8.out; omega
        go_roundw
        case rel => exact ⟨k + 1, some ⟨g8, 0, none⟩, c8, by omega, by go_num, by rw [HM.out]; rfl, by rw [RM2.out]; exact HX8.out, by rw [HM.out, rowS_app]; exact HO8.out, hs8, BL8.out, B8.out⟩
        case measure => simp [intOf] <;> omega
      · have hne : ¬ (rl.length : Int) = 0 := by have h := HRL.out; rw [if_neg hk0] at h; omega
        have HM : Hid (relOut (relF T (k + 1)) = rl ++ [⟨s.k, s.x, s.y, s.z, s.f, s.n⟩]) := Lib.hid (by rw [HM0.out, relOut_snoc _ _ (by rw [HRK.out]; exact hk0), RL.out])
        have BZ := B7
        have HXZ := HX7
        have BLZ := BL7
        have hlrl : rl.length ≤ 6000 := by have h := HRL.out; rw [if_neg hk0] at h; omega
        go_wp2_with (at_builtin; refine wpList_append_lies _ rfl _ _ 26 rfl w0.heap.size 36 i0 (.agg #[.int .i64 0, .int .i64 0, .int .i64 0, .int .i64 0, .int .i64 0, .int .i64 0]) 6 48 Try.underlying26 hi0 hz0 hz1 hz2 rfl (by decide) _ _ _ rfl (ownsRow_below (HO7.out) ((Below.refl _ w7).alloc (Nat.le_refl _) _)) ⟨w7.heap.size, 0, none⟩ 1 1 [.int .i64 s.k, .int .i64 s.x, .int .i64 s.y, .int .i64 s.z, .int .i64 s.f, .int .i64 s.n] rfl rfl (World.news_of_block (cs := #[.int .i64 s.k, .int .i64 s.x, .int .i64 s.y, .int .i64 s.z, .int .i64 s.f, .int .i64 s.n]) (t := 36) (fr := (0, 0)) (heap_alloc_new w7 (.cells #[.int .i64 s.k, .int .i64 s.x, .int .i64 s.y, .int .i64 s.z, .int .i64 s.f, .int .i64 s.n] 36))) (by simp [Value.oneCell']) (by omega) (by unfold maxLen; omega) (by omega) (by simp; omega) (w7.heap.size + 1) (by simp) ?_; intro g8 c8 w8 hown8 hgrow8 hge8 hlt8; have HO8 := Lib.hid hown8; have HB8 := Lib.hid (Below.grown (B := w0.heap.size) (Below.alloc (B := w0.heap.size) (Below.refl _ w7) (by omega) (.cells #[.int .i64 s.k, .int .i64 s.x, .int .i64 s.y, .int .i64 s.z, .int .i64 s.f, .int .i64 s.n] 36)) hgrow8 (by simp; omega) (fun b hb => ((HO7.out).lt b hb).1)); clear hown8 hgrow8 hge8)
        have B8 := Lib.hid (BZ.out.trans (HB8.out.mono hw0))
        have HX8 := Lib.hid ((HB8.out.block g (by omega)).trans HXZ.out)
        have BL8 := Lib.hid (BLZ.out.after (S := fun b => w0.heap.size ≤ b) ⟨HB8.out.os, HB8.out.tape, HB8.out.output, HB8.out.size, fun b _ hn => HB8.out.block b (by omega)⟩ (fun b hb h => by omega))
        have hs8 : g + 1 ≤ w8.heap.size := by have := lt_of_heap HX8.out; omega
        go_roundw
        case rel => exact ⟨k + 1, some ⟨g8, 0, none⟩, c8, by omega, by go_num, by rw [HM.out, List.length_append]; rfl, by rw [RM2.out]; exact HX8.out, by rw [HM.out, List.length_append, rowS_app]; exact HO8.out, hs8, BL8.out, B8.out⟩
        case measure => simp [intOf] <;> omega
    · obtain rfl : N = k := by omega
      have hlen := relOut_len_le (relF T N)
      rw [hrk] at hlen
      rw [HAL.out] at HO hlen ⊢
      obtain ⟨R, hR⟩ : ∃ R, relOut (toldL plR m00 S n) = R := ⟨_, rfl⟩
      have HRR := Lib.hid hR
      have HEE := Lib.hid (show stepsE R.length (lf R) = relE n S by unfold relE; rw [hR])
      rw [hR] at HO hlen ⊢
      clear hR hrl hrk
      go_wp2_with (fail)
      refine (stepsFault_any ao R.length co (lf R) wr (by omega) (own_rowS HO.out rfl)).mono ?_
      rintro e w2 ⟨rfl, hb⟩
      replace HO := Lib.hid (ownsRow_below HO.out hb)
      have B2 := Lib.hid (HB.out.trans (hb.mono hsz))
      clear hb
      rw [HEE.out]
      by_cases hz : relE n S = 0
      · have HZ := Lib.hid hz
        have hz' : (relE n S != 0) = false := by simp [hz]
        clear hz
        go_wp2_with (fail)
        exact bodyPost_ret (v := .tuple #[.slice ao R.length co, .int .i64 0]) (by simp [results, Try.results12, go_sem]) rfl ⟨ao, R.length, co, _, by rw [HZ.out], by rw [HRR.out]; exact Nat.le_refl _, own_cap HO.out, own_rowS HO.out rfl, fun _ => ⟨by rw [HRR.out], by rw [HRR.out]⟩, fun h => absurd HZ.out h, B2.out⟩
      · have HZ := Lib.hid hz
        have hz' : (relE n S != 0) = true := by simpa using hz
        clear hz
        go_wp2_with (fail)
        exact bodyPost_ret (v := .tuple #[.slice none 0 0, .int .i64 (relE n S)]) (by simp [results, Try.results12, go_sem]) rfl ⟨none, 0, 0, fun _ => s00, rfl, Nat.zero_le _, Nat.le_refl _, .inl rfl, fun h => absurd h HZ.out, fun _ => rfl, B2.out⟩
end Go.Proofs.Ythmplflmjjccfaa

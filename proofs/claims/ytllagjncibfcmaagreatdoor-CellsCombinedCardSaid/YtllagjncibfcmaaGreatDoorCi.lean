/- The least and the greatest column and row of a set. -/
import Derived.Test.YtllagjncibfcmaaGreatDoorCh
import Derived.Deep.CutRange
import Derived.Test.YtllagjncibfcmaaGreatDoorKi
import Derived.Test.YtllagjncibfcmaaGreatDoorTk
set_option linter.unusedSimpArgs false
set_option linter.unusedVariables false
namespace Go.Proofs.YtllagjncibfcmaaGreatDoor
open Go.RowKit Go.Maps

def S4 (B : Nat) (lc lr hc hr : Int) (w : World) : Prop := w.cell? ⟨B, 0, none⟩ = some (.int .i64 lc) ∧ w.cell? ⟨B, 1, none⟩ = some (.int .i64 lr) ∧ w.cell? ⟨B + 1, 0, none⟩ = some (.int .i64 hc) ∧ w.cell? ⟨B + 1, 1, none⟩ = some (.int .i64 hr)
theorem S4.drew {B : Nat} {lc lr hc hr : Int} {w : World} (h : S4 B lc lr hc hr w) : S4 B lc lr hc hr w.drew := h
theorem S4.s0 {B : Nat} {lc lr hc hr : Int} {w : World} (h : S4 B lc lr hc hr w) : S4 B lc lr hc hr (w.setCell ⟨B, 0, none⟩ (.int .i64 lc)) := ⟨sc_same h.1, (sc_other (ne_off (by decide))).trans h.2.1, (sc_other (ne_block (by omega))).trans h.2.2.1, (sc_other (ne_block (by omega))).trans h.2.2.2⟩
theorem S4.s1 {B : Nat} {lc lr hc hr : Int} {w : World} (h : S4 B lc lr hc hr w) : S4 B lc lr hc hr (w.setCell ⟨B, 1, none⟩ (.int .i64 lr)) := ⟨(sc_other (ne_off (by decide))).trans h.1, sc_same h.2.1, (sc_other (ne_block (by omega))).trans h.2.2.1, (sc_other (ne_block (by omega))).trans h.2.2.2⟩
theorem S4.t0 {B : Nat} {lc lr hc hr : Int} {w : World} (h : S4 B lc lr hc hr w) : S4 B lc lr hc hr (w.setCell ⟨B + 1, 0, none⟩ (.int .i64 hc)) := ⟨(sc_other (ne_block (by omega))).trans h.1, (sc_other (ne_block (by omega))).trans h.2.1, sc_same h.2.2.1, (sc_other (ne_off (by decide))).trans h.2.2.2⟩
theorem S4.t1 {B : Nat} {lc lr hc hr : Int} {w : World} (h : S4 B lc lr hc hr w) : S4 B lc lr hc hr (w.setCell ⟨B + 1, 1, none⟩ (.int .i64 hr)) := ⟨(sc_other (ne_block (by omega))).trans h.1, (sc_other (ne_block (by omega))).trans h.2.1, (sc_other (ne_off (by decide))).trans h.2.2.1, sc_same h.2.2.2⟩
theorem dcell {w : World} {a : Addr} {x : Option Value} (h : w.cell? a = x) : w.drew.cell? a = x := h
theorem grown_set {w : World} {p : Addr} {v : Value} {b : Nat} (hb : p.block = b) : w.grownBy (w.setCell p v) (some b) :=
  ⟨rfl, rfl, rfl, by simp [World.setCell], fun i _ hi => by simp [World.setCell, Array.getElem?_modify]; intro e; exact absurd (by rw [← hb, e]) hi⟩
theorem boolS_inv {e : TypeId} (he : Tryz.prog.underlying e = some .bool) {v : Value} {z : DataW Unit × List MemPlace} (h : plainElem Tryz.prog e v = some z) : ∃ x : Bool, v = .bool x ∧ z = (.lit (.bool x), []) := by
  unfold plainElem at h
  rw [he] at h
  cases v <;> simp at h
  exact ⟨_, rfl, h.symm⟩
/-- The bounds of some cells. -/
structure Bnd (l : List (Int × Int)) (left : Lit → Bool) (b : Bool) (lc lr hc hr : Int) : Prop where
  all : ∀ p ∈ l, left (SPK p.1 p.2) = true ∨ (b = true ∧ lc ≤ p.1 ∧ p.1 ≤ hc ∧ lr ≤ p.2 ∧ p.2 ≤ hr)
  got : b = true → (∃ p ∈ l, p.1 = lc) ∧ (∃ p ∈ l, p.2 = lr) ∧ (∃ p ∈ l, p.1 = hc) ∧ ∃ p ∈ l, p.2 = hr
  no : b = false → lc = 0 ∧ lr = 0 ∧ hc = 0 ∧ hr = 0
def SpanE (w : World) (l : List (Int × Int)) (e : Ending) (w' : World) : Prop :=
  ∃ b lc lr hc hr, e = .returned (.tuple #[.agg #[.int .i64 lc, .int .i64 lr], .agg #[.int .i64 hc, .int .i64 hr], .bool b]) ∧ Bnd l (fun _ => false) b lc lr hc hr ∧ Below w.heap.size w w'
theorem set22 {w : World} {b : Nat} {u0 u1 u2 u3 v0 v1 v2 v3 : Value} {t : TypeId} (h : w.heap[b]? = some (.cells #[u0, u1] t (0, 0))) (k : w.heap[b + 1]? = some (.cells #[u2, u3] t (0, 0))) :
    ((((w.setCell ⟨b, 0, none⟩ v0).setCell ⟨b, 1, none⟩ v1).setCell ⟨b + 1, 0, none⟩ v2).setCell ⟨b + 1, 1, none⟩ v3).heap[b]? = some (.cells #[v0, v1] t (0, 0)) ∧ ((((w.setCell ⟨b, 0, none⟩ v0).setCell ⟨b, 1, none⟩ v1).setCell ⟨b + 1, 0, none⟩ v2).setCell ⟨b + 1, 1, none⟩ v3).heap[b + 1]? = some (.cells #[v2, v3] t (0, 0)) := by
  constructor
  · rw [Below.heap_setCell _ _ _ _ (by show b ≠ b + 1; omega), Below.heap_setCell _ _ _ _ (by show b ≠ b + 1; omega)]
    simp [World.setCell, Array.getElem?_modify, h]
  · have : ((w.setCell ⟨b, 0, none⟩ v0).setCell ⟨b, 1, none⟩ v1).heap[b + 1]? = some (.cells #[u2, u3] t (0, 0)) := by
      rw [Below.heap_setCell _ _ _ _ (by show b + 1 ≠ b; omega), Below.heap_setCell _ _ _ _ (by show b + 1 ≠ b; omega)]
      exact k
    generalize ((w.setCell ⟨b, 0, none⟩ v0).setCell ⟨b, 1, none⟩ v1) = w2 at *
    simp [World.setCell, Array.getElem?_modify, this]
theorem grown22 {w w' : World} {B : Nat} {v0 v1 v2 v3 : Value} (h : w' = ((((w.setCell ⟨B, 0, none⟩ v0).setCell ⟨B, 1, none⟩ v1).setCell ⟨B + 1, 0, none⟩ v2).setCell ⟨B + 1, 1, none⟩ v3)) : w'.os = w.os ∧ w'.tape = w.tape ∧ w'.output = w.output ∧ w'.heap.size = w.heap.size ∧ ∀ k, k ≠ B → k ≠ B + 1 → w'.heap[k]? = w.heap[k]? := by
  subst h
  refine ⟨rfl, rfl, rfl, by simp [World.setCell], fun k h1 h2 => ?_⟩
  rw [Below.heap_setCell _ _ _ _ h2, Below.heap_setCell _ _ _ _ h2, Below.heap_setCell _ _ _ _ h1, Below.heap_setCell _ _ _ _ h1]
theorem set2_same {w : World} {b : Nat} {u0 u1 v0 v1 : Value} {t : TypeId} (h : w.heap[b]? = some (.cells #[u0, u1] t (0, 0))) : ((w.setCell ⟨b, 0, none⟩ v0).setCell ⟨b, 1, none⟩ v1).heap[b]? = some (.cells #[v0, v1] t (0, 0)) := by
  simp [World.setCell, Array.getElem?_modify, h]
theorem set2_other {w : World} {b k : Nat} {v0 v1 : Value} (h : k ≠ b) : ((w.setCell ⟨b, 0, none⟩ v0).setCell ⟨b, 1, none⟩ v1).heap[k]? = w.heap[k]? := by
  rw [Below.heap_setCell _ _ _ _ h, Below.heap_setCell _ _ _ _ h]
theorem ranges_drew {w : World} {k : TypeId} {S : Value → Option (DataW Unit × List MemPlace)} {b r n : Nat} {D : DataW Unit} {left : Lit → Bool} {cnt : Nat} (h : w.ranges Tryz.prog k S b r n D left cnt) : w.drew.ranges Tryz.prog k S b r n D left cnt :=
  h.kept (row := none) ⟨rfl, rfl, rfl, Nat.le_refl _, fun _ _ _ => rfl⟩ (by simp) (by simp)
theorem ranges_set {w : World} {k : TypeId} {S : Value → Option (DataW Unit × List MemPlace)} {b r n : Nat} {D : DataW Unit} {left : Lit → Bool} {cnt : Nat} (h : w.ranges Tryz.prog k S b r n D left cnt) {p : Addr} {v : Value} (hb : p.block ≠ b) (hr : p.block ≠ r) : (w.setCell p v).ranges Tryz.prog k S b r n D left cnt :=
  h.kept (row := some p.block) (grown_set rfl) (by simpa using fun e => hb e.symm) (by simpa using fun e => hr e.symm)
theorem Bnd.hit0 {l : List (Int × Int)} {left : Lit → Bool} {lc lr hc hr : Int} {p : Int × Int} {kl : Lit} (h : Bnd l left false lc lr hc hr) (hp : p ∈ l) (hk : kl = SPK p.1 p.2) (hl : ∀ p ∈ l, smx p.1 ∧ smx p.2) : Bnd l (fun z => left z && !z.sameKey kl) true (min p.1 p.1) (min p.2 p.2) (max p.1 p.1) (max p.2 p.2) := by
  rw [Int.min_self, Int.min_self, Int.max_self, Int.max_self]
  refine ⟨fun q hq => ?_, fun _ => ⟨⟨p, hp, rfl⟩, ⟨p, hp, rfl⟩, ⟨p, hp, rfl⟩, p, hp, rfl⟩, fun h => by cases h⟩
  by_cases e : (SPK q.1 q.2).sameKey kl = true
  · have e2 := (WideAt.sameKey_eq e).trans hk
    have s1 := hl q hq
    have s2 := hl p hp
    obtain ⟨f1, f2⟩ := spk_inj (smx_wf s1.1) (smx_wf s1.2) (smx_wf s2.1) (smx_wf s2.2) e2
    right; exact ⟨rfl, by omega, by omega, by omega, by omega⟩
  · rcases h.all q hq with h1 | h1
    · left; simp [h1, e]
    · exact absurd h1.1 (by simp)
theorem Bnd.hit1 {l : List (Int × Int)} {left : Lit → Bool} {lc lr hc hr : Int} {p : Int × Int} {kl : Lit} (h : Bnd l left true lc lr hc hr) (hp : p ∈ l) (hk : kl = SPK p.1 p.2) (hl : ∀ p ∈ l, smx p.1 ∧ smx p.2) : Bnd l (fun z => left z && !z.sameKey kl) true (min lc p.1) (min lr p.2) (max hc p.1) (max hr p.2) := by
  obtain ⟨⟨q1, m1, g1⟩, ⟨q2, m2, g2⟩, ⟨q3, m3, g3⟩, ⟨q4, m4, g4⟩⟩ := h.got rfl
  refine ⟨fun q hq => ?_, fun _ => ⟨?_, ?_, ?_, ?_⟩, fun h => by cases h⟩
  · by_cases e : (SPK q.1 q.2).sameKey kl = true
    · have e2 := (WideAt.sameKey_eq e).trans hk
      have s1 := hl q hq
      have s2 := hl p hp
      obtain ⟨f1, f2⟩ := spk_inj (smx_wf s1.1) (smx_wf s1.2) (smx_wf s2.1) (smx_wf s2.2) e2
      right; exact ⟨rfl, by omega, by omega, by omega, by omega⟩
    · rcases h.all q hq with h1 | h1
      · left; simp [h1, e]
      · right; obtain ⟨_, a1, a2, a3, a4⟩ := h1; exact ⟨rfl, by omega, by omega, by omega, by omega⟩
  · by_cases e : lc ≤ p.1
    · exact ⟨q1, m1, by rw [Int.min_eq_left e]; exact g1⟩
    · exact ⟨p, hp, by rw [Int.min_eq_right (by omega)]⟩
  · by_cases e : lr ≤ p.2
    · exact ⟨q2, m2, by rw [Int.min_eq_left e]; exact g2⟩
    · exact ⟨p, hp, by rw [Int.min_eq_right (by omega)]⟩
  · by_cases e : p.1 ≤ hc
    · exact ⟨q3, m3, by rw [Int.max_eq_left e]; exact g3⟩
    · exact ⟨p, hp, by rw [Int.max_eq_right (by omega)]⟩
  · by_cases e : p.2 ≤ hr
    · exact ⟨q4, m4, by rw [Int.max_eq_left e]; exact g4⟩
    · exact ⟨p, hp, by rw [Int.max_eq_right (by omega)]⟩
theorem entry_mem {p : Int × Int} {kl : Lit} {l : List (Int × Int)} {y : DataW Unit} (hkey : keyOf Tryz.prog 72 (.agg #[.int .i64 p.1, .int .i64 p.2]) = some kl) (hat : ∀ zd, (DS l).atKey kl zd = y) (hl : ∀ p ∈ l, smx p.1 ∧ smx p.2) : p ∈ l ∧ kl = SPK p.1 p.2 := by
  obtain ⟨q, hq, e⟩ := ds_mem (has_true_of_atKey hat)
  obtain ⟨p', e1, e2, e3, e4⟩ := key_spot_inv hkey
  have hp : p' = p := by
    simp at e1
    exact Prod.ext e1.1.symm e1.2.symm
  subst hp
  have hs := hl q hq
  obtain ⟨f1, f2⟩ := spk_inj e3 e4 (smx_wf hs.1) (smx_wf hs.2) (e2.symm.trans e)
  exact ⟨by rw [show p' = q from Prod.ext f1 f2]; exact hq, e2⟩
theorem set2_all {w0 w : World} {b k1 k2 bm nn cnt r : Nat} {B : Nat} {k : TypeId} {S : Value → Option (DataW Unit × List MemPlace)} {D : DataW Unit} {left : Lit → Bool} {u0 u1 : Value} {t : TypeId} {o1 o2 : Obj} (v0 v1 : Value) (h : w.heap[b]? = some (.cells #[u0, u1] t (0, 0))) (h1 : w.heap[k1]? = some o1) (h2 : w.heap[k2]? = some o2) (hr : w.ranges Tryz.prog k S bm r nn D left cnt) (hb : Below B w0 w) (e1 : k1 ≠ b) (e2 : k2 ≠ b) (e3 : b ≠ bm) (e4 : b ≠ r) (e5 : B ≤ b) :
    ((w.setCell ⟨b, 0, none⟩ v0).setCell ⟨b, 1, none⟩ v1).heap[b]? = some (.cells #[v0, v1] t (0, 0)) ∧ ((w.setCell ⟨b, 0, none⟩ v0).setCell ⟨b, 1, none⟩ v1).heap[k1]? = some o1 ∧ ((w.setCell ⟨b, 0, none⟩ v0).setCell ⟨b, 1, none⟩ v1).heap[k2]? = some o2 ∧ ((w.setCell ⟨b, 0, none⟩ v0).setCell ⟨b, 1, none⟩ v1).ranges Tryz.prog k S bm r nn D left cnt ∧ Below B w0 ((w.setCell ⟨b, 0, none⟩ v0).setCell ⟨b, 1, none⟩ v1) :=
  ⟨set2_same h, (set2_other e1).trans h1, (set2_other e2).trans h2, ranges_set (ranges_set hr (p := ⟨b, 0, none⟩) e3 e4) (p := ⟨b, 1, none⟩) e3 e4, (hb.setCell e5 _).setCell e5 _⟩
set_option maxRecDepth 100000 in
set_option maxHeartbeats 80000000 in
theorem span_any (bm nn : Nat) (l : List (Int × Int)) (w : World) (hown : w.ownsMap Tryz.prog 72 (plainElem Tryz.prog 4) bm nn (DS l)) (hl : ∀ p ∈ l, smx p.1 ∧ smx p.2) :
    Calls Tryz.prog 40 #[.map (some bm)] w (SpanE w l) := by
  have HO := Lib.hid hown
  have HL := Lib.hid hl
  have hbm := hown.lt
  clear hown hl
  go_enter Tryz.func40, Tryz.ntmps40
  have hzz : ((w.alloc (.cells #[.int .i64 0, .int .i64 0] 72)).alloc (.cells #[.int .i64 0, .int .i64 0] 72)).heap.size = w.heap.size + 1 + 1 := by simp
  go_wp2_with (at_range; refine wpList_range_own _ rfl _ 65 rfl 72 4 spotKeyed Tryz.underlying65 (plainElem Tryz.prog 4) bm nn (DS l) rfl ((HO.out.alloc _).alloc _) ?_; intro w0 hrg hg0 hs0; simp only [hzz] at hrg ⊢)
  have zlo : w0.heap[w.heap.size]? = some (.cells #[.int .i64 0, .int .i64 0] 72 (0, 0)) := (hg0.block w.heap.size (by simp; omega) (by simp)).trans (by repeat (first | (refine heap_new ?_; first | rfl | (simp; done)) | rw [Below.heap_alloc _ _ _ (by simp <;> omega)]))
  have zhi : w0.heap[w.heap.size + 1]? = some (.cells #[.int .i64 0, .int .i64 0] 72 (0, 0)) := (hg0.block (w.heap.size + 1) (by simp) (by simp)).trans (by repeat (first | (refine heap_new ?_; first | rfl | (simp; done)) | rw [Below.heap_alloc _ _ _ (by simp <;> omega)]))
  have HB0 : Hid (Below w.heap.size w w0) := Lib.hid ((((Below.refl _ w).alloc (Nat.le_refl _) _).alloc (by simp) _).grown hg0 (by simp; omega) (fun q hq => by cases hq))
  have HRG := Lib.hid hrg
  have hw0 := hrg.lt
  clear hrg hg0 hs0 hzz
  go_frame
  go_loopw [4] (fun v wr => ∃ (b : Bool) (lc lr hc hr : Int) (left : Lit → Bool) (cnt : Nat), v = .bool b ∧ wr.heap[w.heap.size]? = some (.cells #[.int .i64 lc, .int .i64 lr] 72 (0, 0)) ∧ wr.heap[w.heap.size + 1]? = some (.cells #[.int .i64 hc, .int .i64 hr] 72 (0, 0)) ∧ wr.ranges Tryz.prog 72 (plainElem Tryz.prog 4) bm (w.heap.size + 1 + 1) nn (DS l) left cnt ∧ Bnd l left b lc lr hc hr ∧ Below w.heap.size w wr) (fun _ wr => wr.rangeLeft bm (w.heap.size + 1 + 1))
  case atStart =>
    refine ⟨false, 0, 0, 0, 0, _, _, rfl, zlo, zhi, HRG.out, ⟨fun p hp => ?_, (fun h => by cases h), fun _ => ⟨rfl, rfl, rfl, rfl⟩⟩, HB0.out⟩
    left
    have := HL.out p hp
    rw [ds_has this.1 this.2 l HL.out]
    simpa using hp
  case round =>
    obtain ⟨b, lc, lr, hc, hr, left, cnt, rfl, hlo, hhi, hrg, hbd, hbel⟩ := hrel
    have HBD := Lib.hid hbd
    have HB := Lib.hid hbel
    have HRG1 := Lib.hid hrg
    have HLO := Lib.hid hlo
    have HHI := Lib.hid hhi
    have hwr := hrg.lt
    clear hrg hbd hbel hlo hhi
    go_upto_if 13 with (at_next; refine wpList_next_ranges _ rfl _ rfl 72 spotKeyed (plainElem Tryz.prog 4) (fun p : Int × Int => .agg #[.int .i64 p.1, .int .i64 p.2]) (fun b : Bool => .bool b) (fun key kl h => by obtain ⟨p, e, _⟩ := key_spot_inv h; exact ⟨p, e⟩) (fun v y h => by obtain ⟨x, e, _⟩ := boolS_inv Tryz.underlying4 h; exact ⟨x, e⟩) bm (w.heap.size + 1 + 1) nn (DS l) left cnt rfl HRG1.out ?_ ?_; all_goals (first | (intro p c kl y w5 cnt5 hkey hlk hv hat hrg5 hlt5 hg5 hs5 hen; try dsimp only at hkey hen) | (intro hc0 hl0)))
    · have DL := Lib.hid hl0
      have hL := HLO.out
      have hH := HHI.out
      have HBX := HB.out
      clear hl0 hc0
      go_wp2_with (fail)
      refine wp_region_held_drew (S := (fun w' : World => w'.heap[w.heap.size]? = some (.cells #[.int .i64 lc, .int .i64 lr] 72 (0, 0)) ∧ w'.heap[w.heap.size + 1]? = some (.cells #[.int .i64 hc, .int .i64 hr] 72 (0, 0)))) (by kernel_rfl) ⟨hL, hH⟩ (fun hHeld => ?_)
      refine tkH hHeld 0 (oi := ?_) (v := ?_) ?_ ?_ ?_ ?_ ?_ ?_ ?_ ?_; rotate_left 2; (simp only [gA, gB, gC]; exact rfl); kernel_rfl; kernel_rfl; kernel_rfl; exact fun _ _ _ h => h; rfl; (intro w' hSw; obtain ⟨s1, s2⟩ := hSw; have k0 := cell_of (i := 0) s1 rfl; have k1 := cell_of (i := 1) s1 rfl; clear s1 s2; go_simp; with_reducible rfl); simp only [Act.put, pB, pC, pD]
      refine tkH hHeld 1 (oi := ?_) (v := ?_) ?_ ?_ ?_ ?_ ?_ ?_ ?_ ?_; rotate_left 2; (simp only [gA, gB, gC]; exact rfl); kernel_rfl; kernel_rfl; kernel_rfl; exact fun _ _ _ h => h; rfl; (intro w' hSw; obtain ⟨s1, s2⟩ := hSw; have k0 := cell_of (i := 0) s2 rfl; have k1 := cell_of (i := 1) s2 rfl; clear s1 s2; go_simp; with_reducible rfl); simp only [Act.put, pB, pC, pD]
      refine tkH hHeld 2 (oi := ?_) (v := ?_) ?_ ?_ ?_ ?_ ?_ ?_ ?_ ?_; rotate_left 2; (simp only [gA, gB, gC]; exact rfl); kernel_rfl; kernel_rfl; kernel_rfl; exact fun _ _ _ h => h; rfl; (intro w' hSw; go_simp; with_reducible rfl); simp only [Act.put, pB, pC, pD]
      have hBn2 := HBX.drew
      replace hL : wr.drew.heap[w.heap.size]? = some (.cells #[.int .i64 lc, .int .i64 lr] 72 (0, 0)) := hL
      replace hH : wr.drew.heap[w.heap.size + 1]? = some (.cells #[.int .i64 hc, .int .i64 hr] 72 (0, 0)) := hH
      clear hHeld HBX
      generalize wr.drew = d0 at *
      have c0 : d0.cell? ⟨w.heap.size, 0, none⟩ = some (.int .i64 lc) := cell_of hL rfl
      have c1 : d0.cell? ⟨w.heap.size, 1, none⟩ = some (.int .i64 lr) := cell_of hL rfl
      have f0 : d0.frozen? ⟨w.heap.size, 0, none⟩ = false := frozen_of hL
      have f1 : d0.frozen? ⟨w.heap.size, 1, none⟩ = false := frozen_of hL
      have HN1 := Lib.hid (set2_same (v0 := .int .i64 lc) (v1 := .int .i64 lr) hL)
      have HN2 := Lib.hid ((set2_other (w := d0) (b := w.heap.size) (v0 := .int .i64 lc) (v1 := .int .i64 lr) (k := w.heap.size + 1) (by omega)).trans hH)
      have HBX2 : Hid (Below w.heap.size w ((d0.setCell ⟨w.heap.size, 0, none⟩ (.int .i64 lc)).setCell ⟨w.heap.size, 1, none⟩ (.int .i64 lr))) := Lib.hid ((hBn2.setCell (by show w.heap.size ≤ w.heap.size; omega) _).setCell (by show w.heap.size ≤ w.heap.size; omega) _)
      clear hBn2
      refine onH 3 (oi := ?_) (by kernel_rfl) ?_ ?_ (fun K hK' => ?_); rotate_left; (simp only [gA, gB, gC]; exact rfl); rfl
      go_wp2_with (fail)
      refine hK'.out _ _ ⟨HN1.out, HN2.out⟩ (fun hHeld => ?_)
      clear hK' K c0 c1 f0 f1 hL hH
      try simp only [Act.put, pB, pC, pD]
      generalize ((d0.setCell ⟨w.heap.size, 0, none⟩ (.int .i64 lc)).setCell ⟨w.heap.size, 1, none⟩ (.int .i64 lr)) = d1 at *
      have hBn2 := HBX2.out
      obtain ⟨hL, hH⟩ := hHeld
      clear HBX2 HN1 HN2
      have c0 : d1.cell? ⟨w.heap.size + 1, 0, none⟩ = some (.int .i64 hc) := cell_of hH rfl
      have c1 : d1.cell? ⟨w.heap.size + 1, 1, none⟩ = some (.int .i64 hr) := cell_of hH rfl
      have f0 : d1.frozen? ⟨w.heap.size + 1, 0, none⟩ = false := frozen_of hH
      have f1 : d1.frozen? ⟨w.heap.size + 1, 1, none⟩ = false := frozen_of hH
      have HN1 := Lib.hid (set2_same (v0 := .int .i64 hc) (v1 := .int .i64 hr) hH)
      have HN2 := Lib.hid ((set2_other (w := d1) (b := w.heap.size + 1) (v0 := .int .i64 hc) (v1 := .int .i64 hr) (k := w.heap.size) (by omega)).trans hL)
      have HBX2 : Hid (Below w.heap.size w ((d1.setCell ⟨w.heap.size + 1, 0, none⟩ (.int .i64 hc)).setCell ⟨w.heap.size + 1, 1, none⟩ (.int .i64 hr))) := Lib.hid ((hBn2.setCell (by show w.heap.size ≤ w.heap.size + 1; omega) _).setCell (by show w.heap.size ≤ w.heap.size + 1; omega) _)
      clear hBn2
      refine onH 4 (oi := ?_) (by kernel_rfl) ?_ ?_ (fun K hK' => ?_); rotate_left; (simp only [gA, gB, gC]; exact rfl); rfl
      go_wp2_with (fail)
      refine hK'.out _ _ ⟨HN2.out, HN1.out⟩ (fun hHeld => ?_)
      clear hK' K c0 c1 f0 f1 hL hH
      try simp only [Act.put, pB, pC, pD]
      generalize ((d1.setCell ⟨w.heap.size + 1, 0, none⟩ (.int .i64 hc)).setCell ⟨w.heap.size + 1, 1, none⟩ (.int .i64 hr)) = d2 at *
      have hBn2 := HBX2.out
      obtain ⟨hL, hH⟩ := hHeld
      clear HBX2 HN1 HN2
      refine tkH ⟨hL, hH⟩ 5 (oi := ?_) (v := ?_) ?_ ?_ ?_ ?_ ?_ ?_ ?_ ?_; rotate_left 2; (simp only [gA, gB, gC]; exact rfl); kernel_rfl; kernel_rfl; kernel_rfl; exact fun _ _ _ h => h; rfl; (intro w' hSw; go_simp; with_reducible rfl); simp only [Act.put, pB, pC, pD]
      refine wpAnyH_done (by kernel_rfl) ?_ _
      
      go_wp2_with (fail)
      have HX1 := Lib.hid hL
      have HX2 := Lib.hid hH
      have r0 : d2.cell? ⟨w.heap.size, 0, none⟩ = some (.int .i64 lc) := cell_of hL rfl
      have r1 : d2.cell? ⟨w.heap.size, 1, none⟩ = some (.int .i64 lr) := cell_of hL rfl
      have r2 : d2.cell? ⟨w.heap.size + 1, 0, none⟩ = some (.int .i64 hc) := cell_of hH rfl
      have r3 : d2.cell? ⟨w.heap.size + 1, 1, none⟩ = some (.int .i64 hr) := cell_of hH rfl
      exact bodyPost_ret (v := .tuple #[.agg #[.int .i64 lc, .int .i64 lr], .agg #[.int .i64 hc, .int .i64 hr], .bool b]) (by simp [results, Tryz.results40, go_sem, r0, r1, r2, r3]) rfl ⟨b, lc, lr, hc, hr, rfl, ⟨fun p hp => .inr (by rcases HBD.out.all p hp with h | h; exact absurd h (by rw [DL.out]; simp); exact h), HBD.out.got, HBD.out.no⟩, hBn2⟩
    · obtain ⟨hpm, hkk⟩ := entry_mem hkey hat HL.out
      have hp := HL.out p hpm
      have hkbn : wr.heap.size = w5.heap.size := hs5.symm
      have hw5 : w.heap.size + 1 + 1 < w5.heap.size := by omega
      have hwr5 : w.heap.size + 1 + 1 < wr.heap.size := by omega
      have hL0 : w5.heap[w.heap.size]? = some (.cells #[.int .i64 lc, .int .i64 lr] 72 (0, 0)) := (hg5.block w.heap.size (by omega) (by simp; omega)).trans HLO.out
      have hH0 : w5.heap[w.heap.size + 1]? = some (.cells #[.int .i64 hc, .int .i64 hr] 72 (0, 0)) := (hg5.block (w.heap.size + 1) (by omega) (by simp)).trans HHI.out
      have hL : (w5.alloc (.cells #[.int .i64 p.1, .int .i64 p.2] 72)).heap[w.heap.size]? = some (.cells #[.int .i64 lc, .int .i64 lr] 72 (0, 0)) := (Below.heap_alloc _ _ _ (by omega)).trans hL0
      have hH : (w5.alloc (.cells #[.int .i64 p.1, .int .i64 p.2] 72)).heap[w.heap.size + 1]? = some (.cells #[.int .i64 hc, .int .i64 hr] 72 (0, 0)) := (Below.heap_alloc _ _ _ (by omega)).trans hH0
      have hK : (w5.alloc (.cells #[.int .i64 p.1, .int .i64 p.2] 72)).heap[wr.heap.size]? = some (.cells #[.int .i64 p.1, .int .i64 p.2] 72 (0, 0)) := heap_new hkbn
      have hrgn := hrg5.alloc (.cells #[.int .i64 p.1, .int .i64 p.2] 72)
      have HBn : Hid (Below w.heap.size w (w5.alloc (.cells #[.int .i64 p.1, .int .i64 p.2] 72))) := Lib.hid ((HB.out.grown hg5 (by omega) (fun q hq => by cases hq; omega)).alloc (by have := HB.out.size; omega) _)
      have HKK := Lib.hid hkk
      have HPM := Lib.hid hpm
      have hmeas : cnt5 < cnt := hlt5
      clear hL0 hH0 hat hrg5 hg5 hs5 hkey hkk hv hpm hp hkbn hw5 hen
      generalize (w5.alloc (.cells #[.int .i64 p.1, .int .i64 p.2] 72)) = e5 at *
      go_cut [4] from 14 to 16 (fun s4 wx => s4 = .bool true ∧ ∃ a1 a2 c1 c2, wx.heap[w.heap.size]? = some (.cells #[.int .i64 a1, .int .i64 a2] 72 (0, 0)) ∧ wx.heap[w.heap.size + 1]? = some (.cells #[.int .i64 c1, .int .i64 c2] 72 (0, 0)) ∧ wx.heap[wr.heap.size]? = some (.cells #[.int .i64 p.1, .int .i64 p.2] 72 (0, 0)) ∧ wx.ranges Tryz.prog 72 (plainElem Tryz.prog 4) bm (w.heap.size + 1 + 1) nn (DS l) (fun z => left z && !z.sameKey kl) cnt5 ∧ Bnd l (fun z => left z && !z.sameKey kl) true (min a1 p.1) (min a2 p.2) (max c1 p.1) (max c2 p.2) ∧ Below w.heap.size w wx)
      case first =>
        rcases b with _ | _
        · have HBDX := Lib.hid (HBD.out.hit0 HPM.out HKK.out HL.out)
          have hKe := hK
          simp only [Bool.not_true, Bool.not_false]
          go_wp2_with (fail)
          refine wp_region_held_drew (S := (fun w' : World => w'.heap[wr.heap.size]? = some (.cells #[.int .i64 p.1, .int .i64 p.2] 72 (0, 0)))) (by kernel_rfl) hK (fun hHeld => ?_)
          refine tkH hHeld 0 (oi := ?_) (v := ?_) ?_ ?_ ?_ ?_ ?_ ?_ ?_ ?_; rotate_left 2; (simp only [gA, gB, gC]; exact rfl); kernel_rfl; kernel_rfl; kernel_rfl; exact fun _ _ _ h => h; rfl; (intro w' hSw; have k0 := cell_of (i := 0) hSw rfl; have k1 := cell_of (i := 1) hSw rfl; clear hSw; go_simp; with_reducible rfl); simp only [Act.put, pB, pC, pD]
          refine tkH hHeld 1 (oi := ?_) (v := ?_) ?_ ?_ ?_ ?_ ?_ ?_ ?_ ?_; rotate_left 2; (simp only [gA, gB, gC]; exact rfl); kernel_rfl; kernel_rfl; kernel_rfl; exact fun _ _ _ h => h; rfl; (intro w' hSw; have k0 := cell_of (i := 0) hSw rfl; have k1 := cell_of (i := 1) hSw rfl; clear hSw; go_simp; with_reducible rfl); simp only [Act.put, pB, pC, pD]
          have hBn2 := HBn.out.drew
          replace hrgn := ranges_drew hrgn
          replace hL : e5.drew.heap[w.heap.size]? = some (.cells #[.int .i64 lc, .int .i64 lr] 72 (0, 0)) := hL
          replace hH : e5.drew.heap[w.heap.size + 1]? = some (.cells #[.int .i64 hc, .int .i64 hr] 72 (0, 0)) := hH
          clear hHeld HBn hK
          have hK : e5.drew.heap[wr.heap.size]? = some (.cells #[.int .i64 p.1, .int .i64 p.2] 72 (0, 0)) := hKe
          generalize e5.drew = d0 at *
          have c0 : d0.cell? ⟨w.heap.size, 0, none⟩ = some (.int .i64 lc) := cell_of hL rfl
          have c1 : d0.cell? ⟨w.heap.size, 1, none⟩ = some (.int .i64 lr) := cell_of hL rfl
          have f0 : d0.frozen? ⟨w.heap.size, 0, none⟩ = false := frozen_of hL
          have f1 : d0.frozen? ⟨w.heap.size, 1, none⟩ = false := frozen_of hL
          have HN1 := Lib.hid (set2_same (v0 := .int .i64 p.1) (v1 := .int .i64 p.2) hL)
          have HN2 := Lib.hid ((set2_other (w := d0) (b := w.heap.size) (v0 := .int .i64 p.1) (v1 := .int .i64 p.2) (k := wr.heap.size) (by omega)).trans hK)
          have HN3 := Lib.hid (fun k hk => set2_other (w := d0) (b := w.heap.size) (v0 := .int .i64 p.1) (v1 := .int .i64 p.2) (k := k) hk)
          have HRN := Lib.hid (ranges_set (ranges_set hrgn (p := ⟨w.heap.size, 0, none⟩) (v := .int .i64 p.1) (by show w.heap.size ≠ bm; omega) (by show w.heap.size ≠ w.heap.size + 1 + 1; omega)) (p := ⟨w.heap.size, 1, none⟩) (v := .int .i64 p.2) (by show w.heap.size ≠ bm; omega) (by show w.heap.size ≠ w.heap.size + 1 + 1; omega))
          have HBX : Hid (Below w.heap.size w ((d0.setCell ⟨w.heap.size, 0, none⟩ (.int .i64 p.1)).setCell ⟨w.heap.size, 1, none⟩ (.int .i64 p.2))) := Lib.hid ((hBn2.setCell (by show w.heap.size ≤ w.heap.size; omega) _).setCell (by show w.heap.size ≤ w.heap.size; omega) _)
          clear hrgn hBn2
          refine onH 2 (oi := ?_) (by kernel_rfl) ?_ ?_ (fun K hK' => ?_); rotate_left; (simp only [gA, gB, gC]; exact rfl); rfl
          go_wp2_with (fail)
          refine hK'.out _ _ HN2.out (fun hHeld => ?_)
          clear hK' K c0 c1 f0 f1
          try simp only [Act.put, pB, pC, pD]
          generalize ((d0.setCell ⟨w.heap.size, 0, none⟩ (.int .i64 p.1)).setCell ⟨w.heap.size, 1, none⟩ (.int .i64 p.2)) = d1 at *
          have hrgn := HRN.out
          have hBn2 := HBX.out
          clear HRN HBX hK
          have hK := HN2.out
          replace hL := HN1.out
          replace hH := (HN3.out (w.heap.size + 1) (by omega)).trans hH
          clear HN1 HN2 HN3 hHeld
          have c0 : d1.cell? ⟨w.heap.size + 1, 0, none⟩ = some (.int .i64 hc) := cell_of hH rfl
          have c1 : d1.cell? ⟨w.heap.size + 1, 1, none⟩ = some (.int .i64 hr) := cell_of hH rfl
          have f0 : d1.frozen? ⟨w.heap.size + 1, 0, none⟩ = false := frozen_of hH
          have f1 : d1.frozen? ⟨w.heap.size + 1, 1, none⟩ = false := frozen_of hH
          have HN1 := Lib.hid (set2_same (v0 := .int .i64 p.1) (v1 := .int .i64 p.2) hH)
          have HN2 := Lib.hid ((set2_other (w := d1) (b := w.heap.size + 1) (v0 := .int .i64 p.1) (v1 := .int .i64 p.2) (k := wr.heap.size) (by omega)).trans hK)
          have HN3 := Lib.hid (fun k hk => set2_other (w := d1) (b := w.heap.size + 1) (v0 := .int .i64 p.1) (v1 := .int .i64 p.2) (k := k) hk)
          have HRN := Lib.hid (ranges_set (ranges_set hrgn (p := ⟨w.heap.size + 1, 0, none⟩) (v := .int .i64 p.1) (by show w.heap.size + 1 ≠ bm; omega) (by show w.heap.size + 1 ≠ w.heap.size + 1 + 1; omega)) (p := ⟨w.heap.size + 1, 1, none⟩) (v := .int .i64 p.2) (by show w.heap.size + 1 ≠ bm; omega) (by show w.heap.size + 1 ≠ w.heap.size + 1 + 1; omega))
          have HBX : Hid (Below w.heap.size w ((d1.setCell ⟨w.heap.size + 1, 0, none⟩ (.int .i64 p.1)).setCell ⟨w.heap.size + 1, 1, none⟩ (.int .i64 p.2))) := Lib.hid ((hBn2.setCell (by show w.heap.size ≤ w.heap.size + 1; omega) _).setCell (by show w.heap.size ≤ w.heap.size + 1; omega) _)
          clear hrgn hBn2
          refine onH 3 (oi := ?_) (by kernel_rfl) ?_ ?_ (fun K hK' => ?_); rotate_left; (simp only [gA, gB, gC]; exact rfl); rfl
          go_wp2_with (fail)
          refine hK'.out _ _ HN2.out (fun hHeld => ?_)
          clear hK' K c0 c1 f0 f1
          try simp only [Act.put, pB, pC, pD]
          generalize ((d1.setCell ⟨w.heap.size + 1, 0, none⟩ (.int .i64 p.1)).setCell ⟨w.heap.size + 1, 1, none⟩ (.int .i64 p.2)) = d2 at *
          have hrgn := HRN.out
          have hBn2 := HBX.out
          clear HRN HBX hK
          have hK := HN2.out
          replace hH := HN1.out
          replace hL := (HN3.out (w.heap.size) (by omega)).trans hL
          clear HN1 HN2 HN3
          refine tkH hHeld 4 (oi := ?_) (v := ?_) ?_ ?_ ?_ ?_ ?_ ?_ ?_ ?_; rotate_left 2; (simp only [gA, gB, gC]; exact rfl); kernel_rfl; kernel_rfl; kernel_rfl; exact fun _ _ _ h => h; rfl; (intro w' hSw; go_simp; with_reducible rfl); simp only [Act.put, pB, pC, pD]
          clear hHeld
          refine wpAnyH_done (by kernel_rfl) ?_ _
          
          go_wp2_with (fail)
          go_meet
          exact ⟨rfl, p.1, p.2, p.1, p.2, hL, hH, hK, hrgn, HBDX.out, hBn2⟩
        · have HBDX := Lib.hid (HBD.out.hit1 HPM.out HKK.out HL.out)
          have HX1 := Lib.hid hL
          have HX2 := Lib.hid hH
          have HX3 := Lib.hid hK
          have HX4 := Lib.hid hrgn
          clear hL hH hK hrgn
          simp only [Bool.not_true, Bool.not_false]
          go_wp2_with (fail)
          go_meet
          exact ⟨rfl, lc, lr, hc, hr, HX1.out, HX2.out, HX3.out, HX4.out, HBDX.out, HBn.out⟩
      case rest =>
        obtain ⟨rfl, a1, a2, c1, c2, hL, hH, hK, hrgn, hbd, hbl⟩ := hcut
        have HBD2 := Lib.hid hbd
        have HBL := Lib.hid hbl
        clear hbd hbl HBD
        go_wp2_with (fail)
        refine wp_region_held_drew (S := (fun w' : World => w'.heap[wr.heap.size]? = some (.cells #[.int .i64 p.1, .int .i64 p.2] 72 (0, 0)))) (by kernel_rfl) hK (fun hHeld => ?_)
        refine tkH hHeld 0 (oi := ?_) (v := ?_) ?_ ?_ ?_ ?_ ?_ ?_ ?_ ?_; rotate_left 2; (simp only [gA, gB, gC]; exact rfl); kernel_rfl; kernel_rfl; kernel_rfl; exact fun _ _ _ h => h; rfl; (intro w' hSw; go_simp; with_reducible rfl); simp only [Act.put, pB, pC, pD]
        refine tkH hHeld 2 (oi := ?_) (v := ?_) ?_ ?_ ?_ ?_ ?_ ?_ ?_ ?_; rotate_left 2; (simp only [gA, gB, gC]; exact rfl); kernel_rfl; kernel_rfl; kernel_rfl; exact fun _ _ _ h => h; rfl; (intro w' hSw; go_simp; with_reducible rfl); simp only [Act.put, pB, pC, pD]
        refine tkH hHeld 5 (oi := ?_) (v := ?_) ?_ ?_ ?_ ?_ ?_ ?_ ?_ ?_; rotate_left 2; (simp only [gA, gB, gC]; exact rfl); kernel_rfl; kernel_rfl; kernel_rfl; exact fun _ _ _ h => h; rfl; (intro w' hSw; go_simp; with_reducible rfl); simp only [Act.put, pB, pC, pD]
        refine tkH hHeld 7 (oi := ?_) (v := ?_) ?_ ?_ ?_ ?_ ?_ ?_ ?_ ?_; rotate_left 2; (simp only [gA, gB, gC]; exact rfl); kernel_rfl; kernel_rfl; kernel_rfl; exact fun _ _ _ h => h; rfl; (intro w' hSw; go_simp; with_reducible rfl); simp only [Act.put, pB, pC, pD]
        refine tkH hHeld 11 (oi := ?_) (v := ?_) ?_ ?_ ?_ ?_ ?_ ?_ ?_ ?_; rotate_left 2; (simp only [gA, gB, gC]; exact rfl); kernel_rfl; kernel_rfl; kernel_rfl; exact fun _ _ _ h => h; rfl; (intro w' hSw; go_simp; with_reducible rfl); simp only [Act.put, pB, pC, pD]
        refine tkH hHeld 13 (oi := ?_) (v := ?_) ?_ ?_ ?_ ?_ ?_ ?_ ?_ ?_; rotate_left 2; (simp only [gA, gB, gC]; exact rfl); kernel_rfl; kernel_rfl; kernel_rfl; exact fun _ _ _ h => h; rfl; (intro w' hSw; go_simp; with_reducible rfl); simp only [Act.put, pB, pC, pD]
        refine tkH hHeld 16 (oi := ?_) (v := ?_) ?_ ?_ ?_ ?_ ?_ ?_ ?_ ?_; rotate_left 2; (simp only [gA, gB, gC]; exact rfl); kernel_rfl; kernel_rfl; kernel_rfl; exact fun _ _ _ h => h; rfl; (intro w' hSw; go_simp; with_reducible rfl); simp only [Act.put, pB, pC, pD]
        refine tkH hHeld 18 (oi := ?_) (v := ?_) ?_ ?_ ?_ ?_ ?_ ?_ ?_ ?_; rotate_left 2; (simp only [gA, gB, gC]; exact rfl); kernel_rfl; kernel_rfl; kernel_rfl; exact fun _ _ _ h => h; rfl; (intro w' hSw; go_simp; with_reducible rfl); simp only [Act.put, pB, pC, pD]
        refine tkH hHeld 3 (oi := ?_) (v := ?_) ?_ ?_ ?_ ?_ ?_ ?_ ?_ ?_; rotate_left 2; (simp only [gA, gB, gC]; exact rfl); kernel_rfl; kernel_rfl; kernel_rfl; exact fun _ _ _ h => h; rfl; (intro w' hSw; have k0 := cell_of (i := 0) hSw rfl; have k1 := cell_of (i := 1) hSw rfl; clear hSw; go_simp; with_reducible rfl); simp only [Act.put, pB, pC, pD]
        refine tkH hHeld 8 (oi := ?_) (v := ?_) ?_ ?_ ?_ ?_ ?_ ?_ ?_ ?_; rotate_left 2; (simp only [gA, gB, gC]; exact rfl); kernel_rfl; kernel_rfl; kernel_rfl; exact fun _ _ _ h => h; rfl; (intro w' hSw; have k0 := cell_of (i := 0) hSw rfl; have k1 := cell_of (i := 1) hSw rfl; clear hSw; go_simp; with_reducible rfl); simp only [Act.put, pB, pC, pD]
        refine tkH hHeld 14 (oi := ?_) (v := ?_) ?_ ?_ ?_ ?_ ?_ ?_ ?_ ?_; rotate_left 2; (simp only [gA, gB, gC]; exact rfl); kernel_rfl; kernel_rfl; kernel_rfl; exact fun _ _ _ h => h; rfl; (intro w' hSw; have k0 := cell_of (i := 0) hSw rfl; have k1 := cell_of (i := 1) hSw rfl; clear hSw; go_simp; with_reducible rfl); simp only [Act.put, pB, pC, pD]
        refine tkH hHeld 19 (oi := ?_) (v := ?_) ?_ ?_ ?_ ?_ ?_ ?_ ?_ ?_; rotate_left 2; (simp only [gA, gB, gC]; exact rfl); kernel_rfl; kernel_rfl; kernel_rfl; exact fun _ _ _ h => h; rfl; (intro w' hSw; have k0 := cell_of (i := 0) hSw rfl; have k1 := cell_of (i := 1) hSw rfl; clear hSw; go_simp; with_reducible rfl); simp only [Act.put, pB, pC, pD]
        have hBn2 := HBL.out.drew
        replace hrgn := ranges_drew hrgn
        replace hL : wc.drew.heap[w.heap.size]? = some (.cells #[.int .i64 a1, .int .i64 a2] 72 (0, 0)) := hL
        replace hH : wc.drew.heap[w.heap.size + 1]? = some (.cells #[.int .i64 c1, .int .i64 c2] 72 (0, 0)) := hH
        replace hK := hHeld
        clear hHeld HBL
        generalize wc.drew = d0 at *
        have a0 : d0.cell? ⟨w.heap.size, 0, none⟩ = some (.int .i64 a1) := cell_of hL rfl
        have a1_ : d0.cell? ⟨w.heap.size, 1, none⟩ = some (.int .i64 a2) := cell_of hL rfl
        have af0 : d0.frozen? ⟨w.heap.size, 0, none⟩ = false := frozen_of hL
        have af1 : d0.frozen? ⟨w.heap.size, 1, none⟩ = false := frozen_of hL
        have b0 : d0.cell? ⟨w.heap.size + 1, 0, none⟩ = some (.int .i64 c1) := cell_of hH rfl
        have b1_ : d0.cell? ⟨w.heap.size + 1, 1, none⟩ = some (.int .i64 c2) := cell_of hH rfl
        have bf0 : d0.frozen? ⟨w.heap.size + 1, 0, none⟩ = false := frozen_of hH
        have bf1 : d0.frozen? ⟨w.heap.size + 1, 1, none⟩ = false := frozen_of hH
        refine wpAnyH_ready (rs := [1, 6, 12, 17]) (by kernel_rfl) (by simp) ?_
        refine coH 1 (oi := ?_) ?_ ?_ (fun K hK' => ?_) ?_; rotate_left; (simp only [gA, gB, gC]; exact rfl); rfl
        ·
         go_wp2_with (fail)
         refine hK'.out _ _ hK (fun hHeld => ?_)
         clear hK' K hHeld
         try simp only [Act.put, pB, pC, pD]
         refine tkH hK 4 (oi := ?_) (v := ?_) ?_ ?_ ?_ ?_ ?_ ?_ ?_ ?_; rotate_left 2; (simp only [gA, gB, gC]; exact rfl); kernel_rfl; kernel_rfl; kernel_rfl; exact fun _ _ _ h => h; rfl; (intro w' hSw; go_simp; with_reducible rfl); simp only [Act.put, pB, pC, pD]
         refine wpAnyH_ready (rs := [6, 12, 17]) (by kernel_rfl) (by simp) ?_
         refine coH 6 (oi := ?_) ?_ ?_ (fun K hK' => ?_) ?_; rotate_left; (simp only [gA, gB, gC]; exact rfl); rfl
         ·
          go_wp2_with (fail)
          refine hK'.out _ _ hK (fun hHeld => ?_)
          clear hK' K hHeld
          try simp only [Act.put, pB, pC, pD]
          refine tkH hK 9 (oi := ?_) (v := ?_) ?_ ?_ ?_ ?_ ?_ ?_ ?_ ?_; rotate_left 2; (simp only [gA, gB, gC]; exact rfl); kernel_rfl; kernel_rfl; kernel_rfl; exact fun _ _ _ h => h; rfl; (intro w' hSw; go_simp; with_reducible rfl); simp only [Act.put, pB, pC, pD]
          refine tkH hK 10 (oi := ?_) (v := ?_) ?_ ?_ ?_ ?_ ?_ ?_ ?_ ?_; rotate_left 2; (simp only [gA, gB, gC]; exact rfl); kernel_rfl; kernel_rfl; kernel_rfl; exact fun _ _ _ h => h; rfl; (intro w' hSw; go_simp; with_reducible rfl); simp only [Act.put, pB, pC, pD]
          refine wpAnyH_ready (rs := [12, 17, 22]) (by kernel_rfl) (by simp) ?_
          refine coH 12 (oi := ?_) ?_ ?_ (fun K hK' => ?_) ?_; rotate_left; (simp only [gA, gB, gC]; exact rfl); rfl
          ·
           go_wp2_with (fail)
           refine hK'.out _ _ hK (fun hHeld => ?_)
           clear hK' K hHeld
           try simp only [Act.put, pB, pC, pD]
           refine tkH hK 15 (oi := ?_) (v := ?_) ?_ ?_ ?_ ?_ ?_ ?_ ?_ ?_; rotate_left 2; (simp only [gA, gB, gC]; exact rfl); kernel_rfl; kernel_rfl; kernel_rfl; exact fun _ _ _ h => h; rfl; (intro w' hSw; go_simp; with_reducible rfl); simp only [Act.put, pB, pC, pD]
           refine wpAnyH_ready (rs := [17, 22]) (by kernel_rfl) (by simp) ?_
           refine coH 17 (oi := ?_) ?_ ?_ (fun K hK' => ?_) ?_; rotate_left; (simp only [gA, gB, gC]; exact rfl); rfl
           ·
            go_wp2_with (fail)
            refine hK'.out _ _ hK (fun hHeld => ?_)
            clear hK' K hHeld
            try simp only [Act.put, pB, pC, pD]
            refine tkH hK 20 (oi := ?_) (v := ?_) ?_ ?_ ?_ ?_ ?_ ?_ ?_ ?_; rotate_left 2; (simp only [gA, gB, gC]; exact rfl); kernel_rfl; kernel_rfl; kernel_rfl; exact fun _ _ _ h => h; rfl; (intro w' hSw; go_simp; with_reducible rfl); simp only [Act.put, pB, pC, pD]
            refine tkH hK 21 (oi := ?_) (v := ?_) ?_ ?_ ?_ ?_ ?_ ?_ ?_ ?_; rotate_left 2; (simp only [gA, gB, gC]; exact rfl); kernel_rfl; kernel_rfl; kernel_rfl; exact fun _ _ _ h => h; rfl; (intro w' hSw; go_simp; with_reducible rfl); simp only [Act.put, pB, pC, pD]
            refine wpAnyH_ready (rs := [22]) (by kernel_rfl) (by simp) ?_
            refine coH 22 (oi := ?_) ?_ ?_ (fun K hK' => ?_) ?_; rotate_left; (simp only [gA, gB, gC]; exact rfl); rfl
            ·
             have HX := Lib.hid (set2_all (b := w.heap.size) (k1 := wr.heap.size) (k2 := w.heap.size + 1) (.int .i64 (min a1 p.1)) (.int .i64 (min a2 p.2)) hL hK hH hrgn hBn2 (by omega) (by omega) (by omega) (by omega) (by omega))
             clear hrgn hBn2
             go_wp2_with (fail)
             refine hK'.out _ _ HX.out.2.1 (fun hHeld => ?_)
             clear hK' K hHeld hL hH hK a0 a1_ af0 af1
             try simp only [Act.put, pB, pC, pD]
             generalize ((d0.setCell ⟨w.heap.size, 0, none⟩ (.int .i64 (min a1 p.1))).setCell ⟨w.heap.size, 1, none⟩ (.int .i64 (min a2 p.2))) = x9y22 at *
             obtain ⟨hL, hK, hH, hrgn, hBn2⟩ := HX.out
             clear HX
             replace b0 : x9y22.cell? ⟨w.heap.size + 1, 0, none⟩ = some (.int .i64 c1) := cell_of hH rfl
             replace b1_ : x9y22.cell? ⟨w.heap.size + 1, 1, none⟩ = some (.int .i64 c2) := cell_of hH rfl
             replace bf0 : x9y22.frozen? ⟨w.heap.size + 1, 0, none⟩ = false := frozen_of hH
             replace bf1 : x9y22.frozen? ⟨w.heap.size + 1, 1, none⟩ = false := frozen_of hH
             refine wpAnyH_ready (rs := [23]) (by kernel_rfl) (by simp) ?_
             refine coH 23 (oi := ?_) ?_ ?_ (fun K hK' => ?_) ?_; rotate_left; (simp only [gA, gB, gC]; exact rfl); rfl
             ·
              have HX := Lib.hid (set2_all (b := w.heap.size + 1) (k1 := wr.heap.size) (k2 := w.heap.size) (.int .i64 (max c1 p.1)) (.int .i64 (max c2 p.2)) hH hK hL hrgn hBn2 (by omega) (by omega) (by omega) (by omega) (by omega))
              clear hrgn hBn2
              go_wp2_with (fail)
              refine hK'.out _ _ HX.out.2.1 (fun hHeld => ?_)
              clear hK' K hHeld hL hH hK b0 b1_ bf0 bf1
              try simp only [Act.put, pB, pC, pD]
              generalize ((x9y22.setCell ⟨w.heap.size + 1, 0, none⟩ (.int .i64 (max c1 p.1))).setCell ⟨w.heap.size + 1, 1, none⟩ (.int .i64 (max c2 p.2))) = x10y23 at *
              obtain ⟨hH, hK, hL, hrgn, hBn2⟩ := HX.out
              clear HX
              refine wpAnyH_done (by kernel_rfl) ?_ _
              have HL7 := Lib.hid hL
              have HH7 := Lib.hid hH
              have HRF := Lib.hid hrgn
              have HBN := Lib.hid hBn2
              clear hL hH hK hrgn hBn2
              go_wp2_with (fail)
              go_roundw
              case rel => exact ⟨true, _, _, _, _, _, _, rfl, HL7.out, HH7.out, HRF.out, HBD2.out, HBN.out⟩
              case measure => (have hq := HRF.out; rw [hq.left_eq, HRG1.out.left_eq]; exact hmeas)
             exact AllReadyH.nil
            exact AllReadyH.nil
           refine coH 22 (oi := ?_) ?_ ?_ (fun K hK' => ?_) ?_; rotate_left; (simp only [gA, gB, gC]; exact rfl); rfl
           ·
            have HX := Lib.hid (set2_all (b := w.heap.size) (k1 := wr.heap.size) (k2 := w.heap.size + 1) (.int .i64 (min a1 p.1)) (.int .i64 (min a2 p.2)) hL hK hH hrgn hBn2 (by omega) (by omega) (by omega) (by omega) (by omega))
            clear hrgn hBn2
            go_wp2_with (fail)
            refine hK'.out _ _ HX.out.2.1 (fun hHeld => ?_)
            clear hK' K hHeld hL hH hK a0 a1_ af0 af1
            try simp only [Act.put, pB, pC, pD]
            generalize ((d0.setCell ⟨w.heap.size, 0, none⟩ (.int .i64 (min a1 p.1))).setCell ⟨w.heap.size, 1, none⟩ (.int .i64 (min a2 p.2))) = x8y22 at *
            obtain ⟨hL, hK, hH, hrgn, hBn2⟩ := HX.out
            clear HX
            replace b0 : x8y22.cell? ⟨w.heap.size + 1, 0, none⟩ = some (.int .i64 c1) := cell_of hH rfl
            replace b1_ : x8y22.cell? ⟨w.heap.size + 1, 1, none⟩ = some (.int .i64 c2) := cell_of hH rfl
            replace bf0 : x8y22.frozen? ⟨w.heap.size + 1, 0, none⟩ = false := frozen_of hH
            replace bf1 : x8y22.frozen? ⟨w.heap.size + 1, 1, none⟩ = false := frozen_of hH
            refine wpAnyH_ready (rs := [17]) (by kernel_rfl) (by simp) ?_
            refine coH 17 (oi := ?_) ?_ ?_ (fun K hK' => ?_) ?_; rotate_left; (simp only [gA, gB, gC]; exact rfl); rfl
            ·
             go_wp2_with (fail)
             refine hK'.out _ _ hK (fun hHeld => ?_)
             clear hK' K hHeld
             try simp only [Act.put, pB, pC, pD]
             refine tkH hK 20 (oi := ?_) (v := ?_) ?_ ?_ ?_ ?_ ?_ ?_ ?_ ?_; rotate_left 2; (simp only [gA, gB, gC]; exact rfl); kernel_rfl; kernel_rfl; kernel_rfl; exact fun _ _ _ h => h; rfl; (intro w' hSw; go_simp; with_reducible rfl); simp only [Act.put, pB, pC, pD]
             refine tkH hK 21 (oi := ?_) (v := ?_) ?_ ?_ ?_ ?_ ?_ ?_ ?_ ?_; rotate_left 2; (simp only [gA, gB, gC]; exact rfl); kernel_rfl; kernel_rfl; kernel_rfl; exact fun _ _ _ h => h; rfl; (intro w' hSw; go_simp; with_reducible rfl); simp only [Act.put, pB, pC, pD]
             refine wpAnyH_ready (rs := [23]) (by kernel_rfl) (by simp) ?_
             refine coH 23 (oi := ?_) ?_ ?_ (fun K hK' => ?_) ?_; rotate_left; (simp only [gA, gB, gC]; exact rfl); rfl
             ·
              have HX := Lib.hid (set2_all (b := w.heap.size + 1) (k1 := wr.heap.size) (k2 := w.heap.size) (.int .i64 (max c1 p.1)) (.int .i64 (max c2 p.2)) hH hK hL hrgn hBn2 (by omega) (by omega) (by omega) (by omega) (by omega))
              clear hrgn hBn2
              go_wp2_with (fail)
              refine hK'.out _ _ HX.out.2.1 (fun hHeld => ?_)
              clear hK' K hHeld hL hH hK b0 b1_ bf0 bf1
              try simp only [Act.put, pB, pC, pD]
              generalize ((x8y22.setCell ⟨w.heap.size + 1, 0, none⟩ (.int .i64 (max c1 p.1))).setCell ⟨w.heap.size + 1, 1, none⟩ (.int .i64 (max c2 p.2))) = x12y23 at *
              obtain ⟨hH, hK, hL, hrgn, hBn2⟩ := HX.out
              clear HX
              refine wpAnyH_done (by kernel_rfl) ?_ _
              have HL7 := Lib.hid hL
              have HH7 := Lib.hid hH
              have HRF := Lib.hid hrgn
              have HBN := Lib.hid hBn2
              clear hL hH hK hrgn hBn2
              go_wp2_with (fail)
              go_roundw
              case rel => exact ⟨true, _, _, _, _, _, _, rfl, HL7.out, HH7.out, HRF.out, HBD2.out, HBN.out⟩
              case measure => (have hq := HRF.out; rw [hq.left_eq, HRG1.out.left_eq]; exact hmeas)
             exact AllReadyH.nil
            exact AllReadyH.nil
           exact AllReadyH.nil
          refine coH 17 (oi := ?_) ?_ ?_ (fun K hK' => ?_) ?_; rotate_left; (simp only [gA, gB, gC]; exact rfl); rfl
          ·
           go_wp2_with (fail)
           refine hK'.out _ _ hK (fun hHeld => ?_)
           clear hK' K hHeld
           try simp only [Act.put, pB, pC, pD]
           refine tkH hK 20 (oi := ?_) (v := ?_) ?_ ?_ ?_ ?_ ?_ ?_ ?_ ?_; rotate_left 2; (simp only [gA, gB, gC]; exact rfl); kernel_rfl; kernel_rfl; kernel_rfl; exact fun _ _ _ h => h; rfl; (intro w' hSw; go_simp; with_reducible rfl); simp only [Act.put, pB, pC, pD]
           refine wpAnyH_ready (rs := [12, 22]) (by kernel_rfl) (by simp) ?_
           refine coH 12 (oi := ?_) ?_ ?_ (fun K hK' => ?_) ?_; rotate_left; (simp only [gA, gB, gC]; exact rfl); rfl
           ·
            go_wp2_with (fail)
            refine hK'.out _ _ hK (fun hHeld => ?_)
            clear hK' K hHeld
            try simp only [Act.put, pB, pC, pD]
            refine tkH hK 15 (oi := ?_) (v := ?_) ?_ ?_ ?_ ?_ ?_ ?_ ?_ ?_; rotate_left 2; (simp only [gA, gB, gC]; exact rfl); kernel_rfl; kernel_rfl; kernel_rfl; exact fun _ _ _ h => h; rfl; (intro w' hSw; go_simp; with_reducible rfl); simp only [Act.put, pB, pC, pD]
            refine tkH hK 21 (oi := ?_) (v := ?_) ?_ ?_ ?_ ?_ ?_ ?_ ?_ ?_; rotate_left 2; (simp only [gA, gB, gC]; exact rfl); kernel_rfl; kernel_rfl; kernel_rfl; exact fun _ _ _ h => h; rfl; (intro w' hSw; go_simp; with_reducible rfl); simp only [Act.put, pB, pC, pD]
            refine wpAnyH_ready (rs := [22]) (by kernel_rfl) (by simp) ?_
            refine coH 22 (oi := ?_) ?_ ?_ (fun K hK' => ?_) ?_; rotate_left; (simp only [gA, gB, gC]; exact rfl); rfl
            ·
             have HX := Lib.hid (set2_all (b := w.heap.size) (k1 := wr.heap.size) (k2 := w.heap.size + 1) (.int .i64 (min a1 p.1)) (.int .i64 (min a2 p.2)) hL hK hH hrgn hBn2 (by omega) (by omega) (by omega) (by omega) (by omega))
             clear hrgn hBn2
             go_wp2_with (fail)
             refine hK'.out _ _ HX.out.2.1 (fun hHeld => ?_)
             clear hK' K hHeld hL hH hK a0 a1_ af0 af1
             try simp only [Act.put, pB, pC, pD]
             generalize ((d0.setCell ⟨w.heap.size, 0, none⟩ (.int .i64 (min a1 p.1))).setCell ⟨w.heap.size, 1, none⟩ (.int .i64 (min a2 p.2))) = x14y22 at *
             obtain ⟨hL, hK, hH, hrgn, hBn2⟩ := HX.out
             clear HX
             replace b0 : x14y22.cell? ⟨w.heap.size + 1, 0, none⟩ = some (.int .i64 c1) := cell_of hH rfl
             replace b1_ : x14y22.cell? ⟨w.heap.size + 1, 1, none⟩ = some (.int .i64 c2) := cell_of hH rfl
             replace bf0 : x14y22.frozen? ⟨w.heap.size + 1, 0, none⟩ = false := frozen_of hH
             replace bf1 : x14y22.frozen? ⟨w.heap.size + 1, 1, none⟩ = false := frozen_of hH
             refine wpAnyH_ready (rs := [23]) (by kernel_rfl) (by simp) ?_
             refine coH 23 (oi := ?_) ?_ ?_ (fun K hK' => ?_) ?_; rotate_left; (simp only [gA, gB, gC]; exact rfl); rfl
             ·
              have HX := Lib.hid (set2_all (b := w.heap.size + 1) (k1 := wr.heap.size) (k2 := w.heap.size) (.int .i64 (max c1 p.1)) (.int .i64 (max c2 p.2)) hH hK hL hrgn hBn2 (by omega) (by omega) (by omega) (by omega) (by omega))
              clear hrgn hBn2
              go_wp2_with (fail)
              refine hK'.out _ _ HX.out.2.1 (fun hHeld => ?_)
              clear hK' K hHeld hL hH hK b0 b1_ bf0 bf1
              try simp only [Act.put, pB, pC, pD]
              generalize ((x14y22.setCell ⟨w.heap.size + 1, 0, none⟩ (.int .i64 (max c1 p.1))).setCell ⟨w.heap.size + 1, 1, none⟩ (.int .i64 (max c2 p.2))) = x15y23 at *
              obtain ⟨hH, hK, hL, hrgn, hBn2⟩ := HX.out
              clear HX
              refine wpAnyH_done (by kernel_rfl) ?_ _
              have HL7 := Lib.hid hL
              have HH7 := Lib.hid hH
              have HRF := Lib.hid hrgn
              have HBN := Lib.hid hBn2
              clear hL hH hK hrgn hBn2
              go_wp2_with (fail)
              go_roundw
              case rel => exact ⟨true, _, _, _, _, _, _, rfl, HL7.out, HH7.out, HRF.out, HBD2.out, HBN.out⟩
              case measure => (have hq := HRF.out; rw [hq.left_eq, HRG1.out.left_eq]; exact hmeas)
             exact AllReadyH.nil
            exact AllReadyH.nil
           refine coH 22 (oi := ?_) ?_ ?_ (fun K hK' => ?_) ?_; rotate_left; (simp only [gA, gB, gC]; exact rfl); rfl
           ·
            have HX := Lib.hid (set2_all (b := w.heap.size) (k1 := wr.heap.size) (k2 := w.heap.size + 1) (.int .i64 (min a1 p.1)) (.int .i64 (min a2 p.2)) hL hK hH hrgn hBn2 (by omega) (by omega) (by omega) (by omega) (by omega))
            clear hrgn hBn2
            go_wp2_with (fail)
            refine hK'.out _ _ HX.out.2.1 (fun hHeld => ?_)
            clear hK' K hHeld hL hH hK a0 a1_ af0 af1
            try simp only [Act.put, pB, pC, pD]
            generalize ((d0.setCell ⟨w.heap.size, 0, none⟩ (.int .i64 (min a1 p.1))).setCell ⟨w.heap.size, 1, none⟩ (.int .i64 (min a2 p.2))) = x13y22 at *
            obtain ⟨hL, hK, hH, hrgn, hBn2⟩ := HX.out
            clear HX
            replace b0 : x13y22.cell? ⟨w.heap.size + 1, 0, none⟩ = some (.int .i64 c1) := cell_of hH rfl
            replace b1_ : x13y22.cell? ⟨w.heap.size + 1, 1, none⟩ = some (.int .i64 c2) := cell_of hH rfl
            replace bf0 : x13y22.frozen? ⟨w.heap.size + 1, 0, none⟩ = false := frozen_of hH
            replace bf1 : x13y22.frozen? ⟨w.heap.size + 1, 1, none⟩ = false := frozen_of hH
            refine wpAnyH_ready (rs := [12]) (by kernel_rfl) (by simp) ?_
            refine coH 12 (oi := ?_) ?_ ?_ (fun K hK' => ?_) ?_; rotate_left; (simp only [gA, gB, gC]; exact rfl); rfl
            ·
             go_wp2_with (fail)
             refine hK'.out _ _ hK (fun hHeld => ?_)
             clear hK' K hHeld
             try simp only [Act.put, pB, pC, pD]
             refine tkH hK 15 (oi := ?_) (v := ?_) ?_ ?_ ?_ ?_ ?_ ?_ ?_ ?_; rotate_left 2; (simp only [gA, gB, gC]; exact rfl); kernel_rfl; kernel_rfl; kernel_rfl; exact fun _ _ _ h => h; rfl; (intro w' hSw; go_simp; with_reducible rfl); simp only [Act.put, pB, pC, pD]
             refine tkH hK 21 (oi := ?_) (v := ?_) ?_ ?_ ?_ ?_ ?_ ?_ ?_ ?_; rotate_left 2; (simp only [gA, gB, gC]; exact rfl); kernel_rfl; kernel_rfl; kernel_rfl; exact fun _ _ _ h => h; rfl; (intro w' hSw; go_simp; with_reducible rfl); simp only [Act.put, pB, pC, pD]
             refine wpAnyH_ready (rs := [23]) (by kernel_rfl) (by simp) ?_
             refine coH 23 (oi := ?_) ?_ ?_ (fun K hK' => ?_) ?_; rotate_left; (simp only [gA, gB, gC]; exact rfl); rfl
             ·
              have HX := Lib.hid (set2_all (b := w.heap.size + 1) (k1 := wr.heap.size) (k2 := w.heap.size) (.int .i64 (max c1 p.1)) (.int .i64 (max c2 p.2)) hH hK hL hrgn hBn2 (by omega) (by omega) (by omega) (by omega) (by omega))
              clear hrgn hBn2
              go_wp2_with (fail)
              refine hK'.out _ _ HX.out.2.1 (fun hHeld => ?_)
              clear hK' K hHeld hL hH hK b0 b1_ bf0 bf1
              try simp only [Act.put, pB, pC, pD]
              generalize ((x13y22.setCell ⟨w.heap.size + 1, 0, none⟩ (.int .i64 (max c1 p.1))).setCell ⟨w.heap.size + 1, 1, none⟩ (.int .i64 (max c2 p.2))) = x17y23 at *
              obtain ⟨hH, hK, hL, hrgn, hBn2⟩ := HX.out
              clear HX
              refine wpAnyH_done (by kernel_rfl) ?_ _
              have HL7 := Lib.hid hL
              have HH7 := Lib.hid hH
              have HRF := Lib.hid hrgn
              have HBN := Lib.hid hBn2
              clear hL hH hK hrgn hBn2
              go_wp2_with (fail)
              go_roundw
              case rel => exact ⟨true, _, _, _, _, _, _, rfl, HL7.out, HH7.out, HRF.out, HBD2.out, HBN.out⟩
              case measure => (have hq := HRF.out; rw [hq.left_eq, HRG1.out.left_eq]; exact hmeas)
             exact AllReadyH.nil
            exact AllReadyH.nil
           exact AllReadyH.nil
          refine coH 22 (oi := ?_) ?_ ?_ (fun K hK' => ?_) ?_; rotate_left; (simp only [gA, gB, gC]; exact rfl); rfl
          ·
           have HX := Lib.hid (set2_all (b := w.heap.size) (k1 := wr.heap.size) (k2 := w.heap.size + 1) (.int .i64 (min a1 p.1)) (.int .i64 (min a2 p.2)) hL hK hH hrgn hBn2 (by omega) (by omega) (by omega) (by omega) (by omega))
           clear hrgn hBn2
           go_wp2_with (fail)
           refine hK'.out _ _ HX.out.2.1 (fun hHeld => ?_)
           clear hK' K hHeld hL hH hK a0 a1_ af0 af1
           try simp only [Act.put, pB, pC, pD]
           generalize ((d0.setCell ⟨w.heap.size, 0, none⟩ (.int .i64 (min a1 p.1))).setCell ⟨w.heap.size, 1, none⟩ (.int .i64 (min a2 p.2))) = x7y22 at *
           obtain ⟨hL, hK, hH, hrgn, hBn2⟩ := HX.out
           clear HX
           replace b0 : x7y22.cell? ⟨w.heap.size + 1, 0, none⟩ = some (.int .i64 c1) := cell_of hH rfl
           replace b1_ : x7y22.cell? ⟨w.heap.size + 1, 1, none⟩ = some (.int .i64 c2) := cell_of hH rfl
           replace bf0 : x7y22.frozen? ⟨w.heap.size + 1, 0, none⟩ = false := frozen_of hH
           replace bf1 : x7y22.frozen? ⟨w.heap.size + 1, 1, none⟩ = false := frozen_of hH
           refine wpAnyH_ready (rs := [12, 17]) (by kernel_rfl) (by simp) ?_
           refine coH 12 (oi := ?_) ?_ ?_ (fun K hK' => ?_) ?_; rotate_left; (simp only [gA, gB, gC]; exact rfl); rfl
           ·
            go_wp2_with (fail)
            refine hK'.out _ _ hK (fun hHeld => ?_)
            clear hK' K hHeld
            try simp only [Act.put, pB, pC, pD]
            refine tkH hK 15 (oi := ?_) (v := ?_) ?_ ?_ ?_ ?_ ?_ ?_ ?_ ?_; rotate_left 2; (simp only [gA, gB, gC]; exact rfl); kernel_rfl; kernel_rfl; kernel_rfl; exact fun _ _ _ h => h; rfl; (intro w' hSw; go_simp; with_reducible rfl); simp only [Act.put, pB, pC, pD]
            refine wpAnyH_ready (rs := [17]) (by kernel_rfl) (by simp) ?_
            refine coH 17 (oi := ?_) ?_ ?_ (fun K hK' => ?_) ?_; rotate_left; (simp only [gA, gB, gC]; exact rfl); rfl
            ·
             go_wp2_with (fail)
             refine hK'.out _ _ hK (fun hHeld => ?_)
             clear hK' K hHeld
             try simp only [Act.put, pB, pC, pD]
             refine tkH hK 20 (oi := ?_) (v := ?_) ?_ ?_ ?_ ?_ ?_ ?_ ?_ ?_; rotate_left 2; (simp only [gA, gB, gC]; exact rfl); kernel_rfl; kernel_rfl; kernel_rfl; exact fun _ _ _ h => h; rfl; (intro w' hSw; go_simp; with_reducible rfl); simp only [Act.put, pB, pC, pD]
             refine tkH hK 21 (oi := ?_) (v := ?_) ?_ ?_ ?_ ?_ ?_ ?_ ?_ ?_; rotate_left 2; (simp only [gA, gB, gC]; exact rfl); kernel_rfl; kernel_rfl; kernel_rfl; exact fun _ _ _ h => h; rfl; (intro w' hSw; go_simp; with_reducible rfl); simp only [Act.put, pB, pC, pD]
             refine wpAnyH_ready (rs := [23]) (by kernel_rfl) (by simp) ?_
             refine coH 23 (oi := ?_) ?_ ?_ (fun K hK' => ?_) ?_; rotate_left; (simp only [gA, gB, gC]; exact rfl); rfl
             ·
              have HX := Lib.hid (set2_all (b := w.heap.size + 1) (k1 := wr.heap.size) (k2 := w.heap.size) (.int .i64 (max c1 p.1)) (.int .i64 (max c2 p.2)) hH hK hL hrgn hBn2 (by omega) (by omega) (by omega) (by omega) (by omega))
              clear hrgn hBn2
              go_wp2_with (fail)
              refine hK'.out _ _ HX.out.2.1 (fun hHeld => ?_)
              clear hK' K hHeld hL hH hK b0 b1_ bf0 bf1
              try simp only [Act.put, pB, pC, pD]
              generalize ((x7y22.setCell ⟨w.heap.size + 1, 0, none⟩ (.int .i64 (max c1 p.1))).setCell ⟨w.heap.size + 1, 1, none⟩ (.int .i64 (max c2 p.2))) = x20y23 at *
              obtain ⟨hH, hK, hL, hrgn, hBn2⟩ := HX.out
              clear HX
              refine wpAnyH_done (by kernel_rfl) ?_ _
              have HL7 := Lib.hid hL
              have HH7 := Lib.hid hH
              have HRF := Lib.hid hrgn
              have HBN := Lib.hid hBn2
              clear hL hH hK hrgn hBn2
              go_wp2_with (fail)
              go_roundw
              case rel => exact ⟨true, _, _, _, _, _, _, rfl, HL7.out, HH7.out, HRF.out, HBD2.out, HBN.out⟩
              case measure => (have hq := HRF.out; rw [hq.left_eq, HRG1.out.left_eq]; exact hmeas)
             exact AllReadyH.nil
            exact AllReadyH.nil
           refine coH 17 (oi := ?_) ?_ ?_ (fun K hK' => ?_) ?_; rotate_left; (simp only [gA, gB, gC]; exact rfl); rfl
           ·
            go_wp2_with (fail)
            refine hK'.out _ _ hK (fun hHeld => ?_)
            clear hK' K hHeld
            try simp only [Act.put, pB, pC, pD]
            refine tkH hK 20 (oi := ?_) (v := ?_) ?_ ?_ ?_ ?_ ?_ ?_ ?_ ?_; rotate_left 2; (simp only [gA, gB, gC]; exact rfl); kernel_rfl; kernel_rfl; kernel_rfl; exact fun _ _ _ h => h; rfl; (intro w' hSw; go_simp; with_reducible rfl); simp only [Act.put, pB, pC, pD]
            refine wpAnyH_ready (rs := [12]) (by kernel_rfl) (by simp) ?_
            refine coH 12 (oi := ?_) ?_ ?_ (fun K hK' => ?_) ?_; rotate_left; (simp only [gA, gB, gC]; exact rfl); rfl
            ·
             go_wp2_with (fail)
             refine hK'.out _ _ hK (fun hHeld => ?_)
             clear hK' K hHeld
             try simp only [Act.put, pB, pC, pD]
             refine tkH hK 15 (oi := ?_) (v := ?_) ?_ ?_ ?_ ?_ ?_ ?_ ?_ ?_; rotate_left 2; (simp only [gA, gB, gC]; exact rfl); kernel_rfl; kernel_rfl; kernel_rfl; exact fun _ _ _ h => h; rfl; (intro w' hSw; go_simp; with_reducible rfl); simp only [Act.put, pB, pC, pD]
             refine tkH hK 21 (oi := ?_) (v := ?_) ?_ ?_ ?_ ?_ ?_ ?_ ?_ ?_; rotate_left 2; (simp only [gA, gB, gC]; exact rfl); kernel_rfl; kernel_rfl; kernel_rfl; exact fun _ _ _ h => h; rfl; (intro w' hSw; go_simp; with_reducible rfl); simp only [Act.put, pB, pC, pD]
             refine wpAnyH_ready (rs := [23]) (by kernel_rfl) (by simp) ?_
             refine coH 23 (oi := ?_) ?_ ?_ (fun K hK' => ?_) ?_; rotate_left; (simp only [gA, gB, gC]; exact rfl); rfl
             ·
              have HX := Lib.hid (set2_all (b := w.heap.size + 1) (k1 := wr.heap.size) (k2 := w.heap.size) (.int .i64 (max c1 p.1)) (.int .i64 (max c2 p.2)) hH hK hL hrgn hBn2 (by omega) (by omega) (by omega) (by omega) (by omega))
              clear hrgn hBn2
              go_wp2_with (fail)
              refine hK'.out _ _ HX.out.2.1 (fun hHeld => ?_)
              clear hK' K hHeld hL hH hK b0 b1_ bf0 bf1
              try simp only [Act.put, pB, pC, pD]
              generalize ((x7y22.setCell ⟨w.heap.size + 1, 0, none⟩ (.int .i64 (max c1 p.1))).setCell ⟨w.heap.size + 1, 1, none⟩ (.int .i64 (max c2 p.2))) = x22y23 at *
              obtain ⟨hH, hK, hL, hrgn, hBn2⟩ := HX.out
              clear HX
              refine wpAnyH_done (by kernel_rfl) ?_ _
              have HL7 := Lib.hid hL
              have HH7 := Lib.hid hH
              have HRF := Lib.hid hrgn
              have HBN := Lib.hid hBn2
              clear hL hH hK hrgn hBn2
              go_wp2_with (fail)
              go_roundw
              case rel => exact ⟨true, _, _, _, _, _, _, rfl, HL7.out, HH7.out, HRF.out, HBD2.out, HBN.out⟩
              case measure => (have hq := HRF.out; rw [hq.left_eq, HRG1.out.left_eq]; exact hmeas)
             exact AllReadyH.nil
            exact AllReadyH.nil
           exact AllReadyH.nil
          exact AllReadyH.nil
         refine coH 12 (oi := ?_) ?_ ?_ (fun K hK' => ?_) ?_; rotate_left; (simp only [gA, gB, gC]; exact rfl); rfl
         ·
          go_wp2_with (fail)
          refine hK'.out _ _ hK (fun hHeld => ?_)
          clear hK' K hHeld
          try simp only [Act.put, pB, pC, pD]
          refine tkH hK 15 (oi := ?_) (v := ?_) ?_ ?_ ?_ ?_ ?_ ?_ ?_ ?_; rotate_left 2; (simp only [gA, gB, gC]; exact rfl); kernel_rfl; kernel_rfl; kernel_rfl; exact fun _ _ _ h => h; rfl; (intro w' hSw; go_simp; with_reducible rfl); simp only [Act.put, pB, pC, pD]
          refine wpAnyH_ready (rs := [6, 17]) (by kernel_rfl) (by simp) ?_
          refine coH 6 (oi := ?_) ?_ ?_ (fun K hK' => ?_) ?_; rotate_left; (simp only [gA, gB, gC]; exact rfl); rfl
          ·
           go_wp2_with (fail)
           refine hK'.out _ _ hK (fun hHeld => ?_)
           clear hK' K hHeld
           try simp only [Act.put, pB, pC, pD]
           refine tkH hK 9 (oi := ?_) (v := ?_) ?_ ?_ ?_ ?_ ?_ ?_ ?_ ?_; rotate_left 2; (simp only [gA, gB, gC]; exact rfl); kernel_rfl; kernel_rfl; kernel_rfl; exact fun _ _ _ h => h; rfl; (intro w' hSw; go_simp; with_reducible rfl); simp only [Act.put, pB, pC, pD]
           refine tkH hK 10 (oi := ?_) (v := ?_) ?_ ?_ ?_ ?_ ?_ ?_ ?_ ?_; rotate_left 2; (simp only [gA, gB, gC]; exact rfl); kernel_rfl; kernel_rfl; kernel_rfl; exact fun _ _ _ h => h; rfl; (intro w' hSw; go_simp; with_reducible rfl); simp only [Act.put, pB, pC, pD]
           refine wpAnyH_ready (rs := [17, 22]) (by kernel_rfl) (by simp) ?_
           refine coH 17 (oi := ?_) ?_ ?_ (fun K hK' => ?_) ?_; rotate_left; (simp only [gA, gB, gC]; exact rfl); rfl
           ·
            go_wp2_with (fail)
            refine hK'.out _ _ hK (fun hHeld => ?_)
            clear hK' K hHeld
            try simp only [Act.put, pB, pC, pD]
            refine tkH hK 20 (oi := ?_) (v := ?_) ?_ ?_ ?_ ?_ ?_ ?_ ?_ ?_; rotate_left 2; (simp only [gA, gB, gC]; exact rfl); kernel_rfl; kernel_rfl; kernel_rfl; exact fun _ _ _ h => h; rfl; (intro w' hSw; go_simp; with_reducible rfl); simp only [Act.put, pB, pC, pD]
            refine tkH hK 21 (oi := ?_) (v := ?_) ?_ ?_ ?_ ?_ ?_ ?_ ?_ ?_; rotate_left 2; (simp only [gA, gB, gC]; exact rfl); kernel_rfl; kernel_rfl; kernel_rfl; exact fun _ _ _ h => h; rfl; (intro w' hSw; go_simp; with_reducible rfl); simp only [Act.put, pB, pC, pD]
            refine wpAnyH_ready (rs := [22]) (by kernel_rfl) (by simp) ?_
            refine coH 22 (oi := ?_) ?_ ?_ (fun K hK' => ?_) ?_; rotate_left; (simp only [gA, gB, gC]; exact rfl); rfl
            ·
             have HX := Lib.hid (set2_all (b := w.heap.size) (k1 := wr.heap.size) (k2 := w.heap.size + 1) (.int .i64 (min a1 p.1)) (.int .i64 (min a2 p.2)) hL hK hH hrgn hBn2 (by omega) (by omega) (by omega) (by omega) (by omega))
             clear hrgn hBn2
             go_wp2_with (fail)
             refine hK'.out _ _ HX.out.2.1 (fun hHeld => ?_)
             clear hK' K hHeld hL hH hK a0 a1_ af0 af1
             try simp only [Act.put, pB, pC, pD]
             generalize ((d0.setCell ⟨w.heap.size, 0, none⟩ (.int .i64 (min a1 p.1))).setCell ⟨w.heap.size, 1, none⟩ (.int .i64 (min a2 p.2))) = x25y22 at *
             obtain ⟨hL, hK, hH, hrgn, hBn2⟩ := HX.out
             clear HX
             replace b0 : x25y22.cell? ⟨w.heap.size + 1, 0, none⟩ = some (.int .i64 c1) := cell_of hH rfl
             replace b1_ : x25y22.cell? ⟨w.heap.size + 1, 1, none⟩ = some (.int .i64 c2) := cell_of hH rfl
             replace bf0 : x25y22.frozen? ⟨w.heap.size + 1, 0, none⟩ = false := frozen_of hH
             replace bf1 : x25y22.frozen? ⟨w.heap.size + 1, 1, none⟩ = false := frozen_of hH
             refine wpAnyH_ready (rs := [23]) (by kernel_rfl) (by simp) ?_
             refine coH 23 (oi := ?_) ?_ ?_ (fun K hK' => ?_) ?_; rotate_left; (simp only [gA, gB, gC]; exact rfl); rfl
             ·
              have HX := Lib.hid (set2_all (b := w.heap.size + 1) (k1 := wr.heap.size) (k2 := w.heap.size) (.int .i64 (max c1 p.1)) (.int .i64 (max c2 p.2)) hH hK hL hrgn hBn2 (by omega) (by omega) (by omega) (by omega) (by omega))
              clear hrgn hBn2
              go_wp2_with (fail)
              refine hK'.out _ _ HX.out.2.1 (fun hHeld => ?_)
              clear hK' K hHeld hL hH hK b0 b1_ bf0 bf1
              try simp only [Act.put, pB, pC, pD]
              generalize ((x25y22.setCell ⟨w.heap.size + 1, 0, none⟩ (.int .i64 (max c1 p.1))).setCell ⟨w.heap.size + 1, 1, none⟩ (.int .i64 (max c2 p.2))) = x26y23 at *
              obtain ⟨hH, hK, hL, hrgn, hBn2⟩ := HX.out
              clear HX
              refine wpAnyH_done (by kernel_rfl) ?_ _
              have HL7 := Lib.hid hL
              have HH7 := Lib.hid hH
              have HRF := Lib.hid hrgn
              have HBN := Lib.hid hBn2
              clear hL hH hK hrgn hBn2
              go_wp2_with (fail)
              go_roundw
              case rel => exact ⟨true, _, _, _, _, _, _, rfl, HL7.out, HH7.out, HRF.out, HBD2.out, HBN.out⟩
              case measure => (have hq := HRF.out; rw [hq.left_eq, HRG1.out.left_eq]; exact hmeas)
             exact AllReadyH.nil
            exact AllReadyH.nil
           refine coH 22 (oi := ?_) ?_ ?_ (fun K hK' => ?_) ?_; rotate_left; (simp only [gA, gB, gC]; exact rfl); rfl
           ·
            have HX := Lib.hid (set2_all (b := w.heap.size) (k1 := wr.heap.size) (k2 := w.heap.size + 1) (.int .i64 (min a1 p.1)) (.int .i64 (min a2 p.2)) hL hK hH hrgn hBn2 (by omega) (by omega) (by omega) (by omega) (by omega))
            clear hrgn hBn2
            go_wp2_with (fail)
            refine hK'.out _ _ HX.out.2.1 (fun hHeld => ?_)
            clear hK' K hHeld hL hH hK a0 a1_ af0 af1
            try simp only [Act.put, pB, pC, pD]
            generalize ((d0.setCell ⟨w.heap.size, 0, none⟩ (.int .i64 (min a1 p.1))).setCell ⟨w.heap.size, 1, none⟩ (.int .i64 (min a2 p.2))) = x24y22 at *
            obtain ⟨hL, hK, hH, hrgn, hBn2⟩ := HX.out
            clear HX
            replace b0 : x24y22.cell? ⟨w.heap.size + 1, 0, none⟩ = some (.int .i64 c1) := cell_of hH rfl
            replace b1_ : x24y22.cell? ⟨w.heap.size + 1, 1, none⟩ = some (.int .i64 c2) := cell_of hH rfl
            replace bf0 : x24y22.frozen? ⟨w.heap.size + 1, 0, none⟩ = false := frozen_of hH
            replace bf1 : x24y22.frozen? ⟨w.heap.size + 1, 1, none⟩ = false := frozen_of hH
            refine wpAnyH_ready (rs := [17]) (by kernel_rfl) (by simp) ?_
            refine coH 17 (oi := ?_) ?_ ?_ (fun K hK' => ?_) ?_; rotate_left; (simp only [gA, gB, gC]; exact rfl); rfl
            ·
             go_wp2_with (fail)
             refine hK'.out _ _ hK (fun hHeld => ?_)
             clear hK' K hHeld
             try simp only [Act.put, pB, pC, pD]
             refine tkH hK 20 (oi := ?_) (v := ?_) ?_ ?_ ?_ ?_ ?_ ?_ ?_ ?_; rotate_left 2; (simp only [gA, gB, gC]; exact rfl); kernel_rfl; kernel_rfl; kernel_rfl; exact fun _ _ _ h => h; rfl; (intro w' hSw; go_simp; with_reducible rfl); simp only [Act.put, pB, pC, pD]
             refine tkH hK 21 (oi := ?_) (v := ?_) ?_ ?_ ?_ ?_ ?_ ?_ ?_ ?_; rotate_left 2; (simp only [gA, gB, gC]; exact rfl); kernel_rfl; kernel_rfl; kernel_rfl; exact fun _ _ _ h => h; rfl; (intro w' hSw; go_simp; with_reducible rfl); simp only [Act.put, pB, pC, pD]
             refine wpAnyH_ready (rs := [23]) (by kernel_rfl) (by simp) ?_
             refine coH 23 (oi := ?_) ?_ ?_ (fun K hK' => ?_) ?_; rotate_left; (simp only [gA, gB, gC]; exact rfl); rfl
             ·
              have HX := Lib.hid (set2_all (b := w.heap.size + 1) (k1 := wr.heap.size) (k2 := w.heap.size) (.int .i64 (max c1 p.1)) (.int .i64 (max c2 p.2)) hH hK hL hrgn hBn2 (by omega) (by omega) (by omega) (by omega) (by omega))
              clear hrgn hBn2
              go_wp2_with (fail)
              refine hK'.out _ _ HX.out.2.1 (fun hHeld => ?_)
              clear hK' K hHeld hL hH hK b0 b1_ bf0 bf1
              try simp only [Act.put, pB, pC, pD]
              generalize ((x24y22.setCell ⟨w.heap.size + 1, 0, none⟩ (.int .i64 (max c1 p.1))).setCell ⟨w.heap.size + 1, 1, none⟩ (.int .i64 (max c2 p.2))) = x28y23 at *
              obtain ⟨hH, hK, hL, hrgn, hBn2⟩ := HX.out
              clear HX
              refine wpAnyH_done (by kernel_rfl) ?_ _
              have HL7 := Lib.hid hL
              have HH7 := Lib.hid hH
              have HRF := Lib.hid hrgn
              have HBN := Lib.hid hBn2
              clear hL hH hK hrgn hBn2
              go_wp2_with (fail)
              go_roundw
              case rel => exact ⟨true, _, _, _, _, _, _, rfl, HL7.out, HH7.out, HRF.out, HBD2.out, HBN.out⟩
              case measure => (have hq := HRF.out; rw [hq.left_eq, HRG1.out.left_eq]; exact hmeas)
             exact AllReadyH.nil
            exact AllReadyH.nil
           exact AllReadyH.nil
          refine coH 17 (oi := ?_) ?_ ?_ (fun K hK' => ?_) ?_; rotate_left; (simp only [gA, gB, gC]; exact rfl); rfl
          ·
           go_wp2_with (fail)
           refine hK'.out _ _ hK (fun hHeld => ?_)
           clear hK' K hHeld
           try simp only [Act.put, pB, pC, pD]
           refine tkH hK 20 (oi := ?_) (v := ?_) ?_ ?_ ?_ ?_ ?_ ?_ ?_ ?_; rotate_left 2; (simp only [gA, gB, gC]; exact rfl); kernel_rfl; kernel_rfl; kernel_rfl; exact fun _ _ _ h => h; rfl; (intro w' hSw; go_simp; with_reducible rfl); simp only [Act.put, pB, pC, pD]
           refine tkH hK 21 (oi := ?_) (v := ?_) ?_ ?_ ?_ ?_ ?_ ?_ ?_ ?_; rotate_left 2; (simp only [gA, gB, gC]; exact rfl); kernel_rfl; kernel_rfl; kernel_rfl; exact fun _ _ _ h => h; rfl; (intro w' hSw; go_simp; with_reducible rfl); simp only [Act.put, pB, pC, pD]
           refine wpAnyH_ready (rs := [6]) (by kernel_rfl) (by simp) ?_
           refine coH 6 (oi := ?_) ?_ ?_ (fun K hK' => ?_) ?_; rotate_left; (simp only [gA, gB, gC]; exact rfl); rfl
           ·
            go_wp2_with (fail)
            refine hK'.out _ _ hK (fun hHeld => ?_)
            clear hK' K hHeld
            try simp only [Act.put, pB, pC, pD]
            refine tkH hK 9 (oi := ?_) (v := ?_) ?_ ?_ ?_ ?_ ?_ ?_ ?_ ?_; rotate_left 2; (simp only [gA, gB, gC]; exact rfl); kernel_rfl; kernel_rfl; kernel_rfl; exact fun _ _ _ h => h; rfl; (intro w' hSw; go_simp; with_reducible rfl); simp only [Act.put, pB, pC, pD]
            refine tkH hK 10 (oi := ?_) (v := ?_) ?_ ?_ ?_ ?_ ?_ ?_ ?_ ?_; rotate_left 2; (simp only [gA, gB, gC]; exact rfl); kernel_rfl; kernel_rfl; kernel_rfl; exact fun _ _ _ h => h; rfl; (intro w' hSw; go_simp; with_reducible rfl); simp only [Act.put, pB, pC, pD]
            refine wpAnyH_ready (rs := [22]) (by kernel_rfl) (by simp) ?_
            refine coH 22 (oi := ?_) ?_ ?_ (fun K hK' => ?_) ?_; rotate_left; (simp only [gA, gB, gC]; exact rfl); rfl
            ·
             have HX := Lib.hid (set2_all (b := w.heap.size) (k1 := wr.heap.size) (k2 := w.heap.size + 1) (.int .i64 (min a1 p.1)) (.int .i64 (min a2 p.2)) hL hK hH hrgn hBn2 (by omega) (by omega) (by omega) (by omega) (by omega))
             clear hrgn hBn2
             go_wp2_with (fail)
             refine hK'.out _ _ HX.out.2.1 (fun hHeld => ?_)
             clear hK' K hHeld hL hH hK a0 a1_ af0 af1
             try simp only [Act.put, pB, pC, pD]
             generalize ((d0.setCell ⟨w.heap.size, 0, none⟩ (.int .i64 (min a1 p.1))).setCell ⟨w.heap.size, 1, none⟩ (.int .i64 (min a2 p.2))) = x30y22 at *
             obtain ⟨hL, hK, hH, hrgn, hBn2⟩ := HX.out
             clear HX
             replace b0 : x30y22.cell? ⟨w.heap.size + 1, 0, none⟩ = some (.int .i64 c1) := cell_of hH rfl
             replace b1_ : x30y22.cell? ⟨w.heap.size + 1, 1, none⟩ = some (.int .i64 c2) := cell_of hH rfl
             replace bf0 : x30y22.frozen? ⟨w.heap.size + 1, 0, none⟩ = false := frozen_of hH
             replace bf1 : x30y22.frozen? ⟨w.heap.size + 1, 1, none⟩ = false := frozen_of hH
             refine wpAnyH_ready (rs := [23]) (by kernel_rfl) (by simp) ?_
             refine coH 23 (oi := ?_) ?_ ?_ (fun K hK' => ?_) ?_; rotate_left; (simp only [gA, gB, gC]; exact rfl); rfl
             ·
              have HX := Lib.hid (set2_all (b := w.heap.size + 1) (k1 := wr.heap.size) (k2 := w.heap.size) (.int .i64 (max c1 p.1)) (.int .i64 (max c2 p.2)) hH hK hL hrgn hBn2 (by omega) (by omega) (by omega) (by omega) (by omega))
              clear hrgn hBn2
              go_wp2_with (fail)
              refine hK'.out _ _ HX.out.2.1 (fun hHeld => ?_)
              clear hK' K hHeld hL hH hK b0 b1_ bf0 bf1
              try simp only [Act.put, pB, pC, pD]
              generalize ((x30y22.setCell ⟨w.heap.size + 1, 0, none⟩ (.int .i64 (max c1 p.1))).setCell ⟨w.heap.size + 1, 1, none⟩ (.int .i64 (max c2 p.2))) = x31y23 at *
              obtain ⟨hH, hK, hL, hrgn, hBn2⟩ := HX.out
              clear HX
              refine wpAnyH_done (by kernel_rfl) ?_ _
              have HL7 := Lib.hid hL
              have HH7 := Lib.hid hH
              have HRF := Lib.hid hrgn
              have HBN := Lib.hid hBn2
              clear hL hH hK hrgn hBn2
              go_wp2_with (fail)
              go_roundw
              case rel => exact ⟨true, _, _, _, _, _, _, rfl, HL7.out, HH7.out, HRF.out, HBD2.out, HBN.out⟩
              case measure => (have hq := HRF.out; rw [hq.left_eq, HRG1.out.left_eq]; exact hmeas)
             exact AllReadyH.nil
            exact AllReadyH.nil
           exact AllReadyH.nil
          exact AllReadyH.nil
         refine coH 17 (oi := ?_) ?_ ?_ (fun K hK' => ?_) ?_; rotate_left; (simp only [gA, gB, gC]; exact rfl); rfl
         ·
          go_wp2_with (fail)
          refine hK'.out _ _ hK (fun hHeld => ?_)
          clear hK' K hHeld
          try simp only [Act.put, pB, pC, pD]
          refine tkH hK 20 (oi := ?_) (v := ?_) ?_ ?_ ?_ ?_ ?_ ?_ ?_ ?_; rotate_left 2; (simp only [gA, gB, gC]; exact rfl); kernel_rfl; kernel_rfl; kernel_rfl; exact fun _ _ _ h => h; rfl; (intro w' hSw; go_simp; with_reducible rfl); simp only [Act.put, pB, pC, pD]
          refine wpAnyH_ready (rs := [6, 12]) (by kernel_rfl) (by simp) ?_
          refine coH 6 (oi := ?_) ?_ ?_ (fun K hK' => ?_) ?_; rotate_left; (simp only [gA, gB, gC]; exact rfl); rfl
          ·
           go_wp2_with (fail)
           refine hK'.out _ _ hK (fun hHeld => ?_)
           clear hK' K hHeld
           try simp only [Act.put, pB, pC, pD]
           refine tkH hK 9 (oi := ?_) (v := ?_) ?_ ?_ ?_ ?_ ?_ ?_ ?_ ?_; rotate_left 2; (simp only [gA, gB, gC]; exact rfl); kernel_rfl; kernel_rfl; kernel_rfl; exact fun _ _ _ h => h; rfl; (intro w' hSw; go_simp; with_reducible rfl); simp only [Act.put, pB, pC, pD]
           refine tkH hK 10 (oi := ?_) (v := ?_) ?_ ?_ ?_ ?_ ?_ ?_ ?_ ?_; rotate_left 2; (simp only [gA, gB, gC]; exact rfl); kernel_rfl; kernel_rfl; kernel_rfl; exact fun _ _ _ h => h; rfl; (intro w' hSw; go_simp; with_reducible rfl); simp only [Act.put, pB, pC, pD]
           refine wpAnyH_ready (rs := [12, 22]) (by kernel_rfl) (by simp) ?_
           refine coH 12 (oi := ?_) ?_ ?_ (fun K hK' => ?_) ?_; rotate_left; (simp only [gA, gB, gC]; exact rfl); rfl
           ·
            go_wp2_with (fail)
            refine hK'.out _ _ hK (fun hHeld => ?_)
            clear hK' K hHeld
            try simp only [Act.put, pB, pC, pD]
            refine tkH hK 15 (oi := ?_) (v := ?_) ?_ ?_ ?_ ?_ ?_ ?_ ?_ ?_; rotate_left 2; (simp only [gA, gB, gC]; exact rfl); kernel_rfl; kernel_rfl; kernel_rfl; exact fun _ _ _ h => h; rfl; (intro w' hSw; go_simp; with_reducible rfl); simp only [Act.put, pB, pC, pD]
            refine tkH hK 21 (oi := ?_) (v := ?_) ?_ ?_ ?_ ?_ ?_ ?_ ?_ ?_; rotate_left 2; (simp only [gA, gB, gC]; exact rfl); kernel_rfl; kernel_rfl; kernel_rfl; exact fun _ _ _ h => h; rfl; (intro w' hSw; go_simp; with_reducible rfl); simp only [Act.put, pB, pC, pD]
            refine wpAnyH_ready (rs := [22]) (by kernel_rfl) (by simp) ?_
            refine coH 22 (oi := ?_) ?_ ?_ (fun K hK' => ?_) ?_; rotate_left; (simp only [gA, gB, gC]; exact rfl); rfl
            ·
             have HX := Lib.hid (set2_all (b := w.heap.size) (k1 := wr.heap.size) (k2 := w.heap.size + 1) (.int .i64 (min a1 p.1)) (.int .i64 (min a2 p.2)) hL hK hH hrgn hBn2 (by omega) (by omega) (by omega) (by omega) (by omega))
             clear hrgn hBn2
             go_wp2_with (fail)
             refine hK'.out _ _ HX.out.2.1 (fun hHeld => ?_)
             clear hK' K hHeld hL hH hK a0 a1_ af0 af1
             try simp only [Act.put, pB, pC, pD]
             generalize ((d0.setCell ⟨w.heap.size, 0, none⟩ (.int .i64 (min a1 p.1))).setCell ⟨w.heap.size, 1, none⟩ (.int .i64 (min a2 p.2))) = x34y22 at *
             obtain ⟨hL, hK, hH, hrgn, hBn2⟩ := HX.out
             clear HX
             replace b0 : x34y22.cell? ⟨w.heap.size + 1, 0, none⟩ = some (.int .i64 c1) := cell_of hH rfl
             replace b1_ : x34y22.cell? ⟨w.heap.size + 1, 1, none⟩ = some (.int .i64 c2) := cell_of hH rfl
             replace bf0 : x34y22.frozen? ⟨w.heap.size + 1, 0, none⟩ = false := frozen_of hH
             replace bf1 : x34y22.frozen? ⟨w.heap.size + 1, 1, none⟩ = false := frozen_of hH
             refine wpAnyH_ready (rs := [23]) (by kernel_rfl) (by simp) ?_
             refine coH 23 (oi := ?_) ?_ ?_ (fun K hK' => ?_) ?_; rotate_left; (simp only [gA, gB, gC]; exact rfl); rfl
             ·
              have HX := Lib.hid (set2_all (b := w.heap.size + 1) (k1 := wr.heap.size) (k2 := w.heap.size) (.int .i64 (max c1 p.1)) (.int .i64 (max c2 p.2)) hH hK hL hrgn hBn2 (by omega) (by omega) (by omega) (by omega) (by omega))
              clear hrgn hBn2
              go_wp2_with (fail)
              refine hK'.out _ _ HX.out.2.1 (fun hHeld => ?_)
              clear hK' K hHeld hL hH hK b0 b1_ bf0 bf1
              try simp only [Act.put, pB, pC, pD]
              generalize ((x34y22.setCell ⟨w.heap.size + 1, 0, none⟩ (.int .i64 (max c1 p.1))).setCell ⟨w.heap.size + 1, 1, none⟩ (.int .i64 (max c2 p.2))) = x35y23 at *
              obtain ⟨hH, hK, hL, hrgn, hBn2⟩ := HX.out
              clear HX
              refine wpAnyH_done (by kernel_rfl) ?_ _
              have HL7 := Lib.hid hL
              have HH7 := Lib.hid hH
              have HRF := Lib.hid hrgn
              have HBN := Lib.hid hBn2
              clear hL hH hK hrgn hBn2
              go_wp2_with (fail)
              go_roundw
              case rel => exact ⟨true, _, _, _, _, _, _, rfl, HL7.out, HH7.out, HRF.out, HBD2.out, HBN.out⟩
              case measure => (have hq := HRF.out; rw [hq.left_eq, HRG1.out.left_eq]; exact hmeas)
             exact AllReadyH.nil
            exact AllReadyH.nil
           refine coH 22 (oi := ?_) ?_ ?_ (fun K hK' => ?_) ?_; rotate_left; (simp only [gA, gB, gC]; exact rfl); rfl
           ·
            have HX := Lib.hid (set2_all (b := w.heap.size) (k1 := wr.heap.size) (k2 := w.heap.size + 1) (.int .i64 (min a1 p.1)) (.int .i64 (min a2 p.2)) hL hK hH hrgn hBn2 (by omega) (by omega) (by omega) (by omega) (by omega))
            clear hrgn hBn2
            go_wp2_with (fail)
            refine hK'.out _ _ HX.out.2.1 (fun hHeld => ?_)
            clear hK' K hHeld hL hH hK a0 a1_ af0 af1
            try simp only [Act.put, pB, pC, pD]
            generalize ((d0.setCell ⟨w.heap.size, 0, none⟩ (.int .i64 (min a1 p.1))).setCell ⟨w.heap.size, 1, none⟩ (.int .i64 (min a2 p.2))) = x33y22 at *
            obtain ⟨hL, hK, hH, hrgn, hBn2⟩ := HX.out
            clear HX
            replace b0 : x33y22.cell? ⟨w.heap.size + 1, 0, none⟩ = some (.int .i64 c1) := cell_of hH rfl
            replace b1_ : x33y22.cell? ⟨w.heap.size + 1, 1, none⟩ = some (.int .i64 c2) := cell_of hH rfl
            replace bf0 : x33y22.frozen? ⟨w.heap.size + 1, 0, none⟩ = false := frozen_of hH
            replace bf1 : x33y22.frozen? ⟨w.heap.size + 1, 1, none⟩ = false := frozen_of hH
            refine wpAnyH_ready (rs := [12]) (by kernel_rfl) (by simp) ?_
            refine coH 12 (oi := ?_) ?_ ?_ (fun K hK' => ?_) ?_; rotate_left; (simp only [gA, gB, gC]; exact rfl); rfl
            ·
             go_wp2_with (fail)
             refine hK'.out _ _ hK (fun hHeld => ?_)
             clear hK' K hHeld
             try simp only [Act.put, pB, pC, pD]
             refine tkH hK 15 (oi := ?_) (v := ?_) ?_ ?_ ?_ ?_ ?_ ?_ ?_ ?_; rotate_left 2; (simp only [gA, gB, gC]; exact rfl); kernel_rfl; kernel_rfl; kernel_rfl; exact fun _ _ _ h => h; rfl; (intro w' hSw; go_simp; with_reducible rfl); simp only [Act.put, pB, pC, pD]
             refine tkH hK 21 (oi := ?_) (v := ?_) ?_ ?_ ?_ ?_ ?_ ?_ ?_ ?_; rotate_left 2; (simp only [gA, gB, gC]; exact rfl); kernel_rfl; kernel_rfl; kernel_rfl; exact fun _ _ _ h => h; rfl; (intro w' hSw; go_simp; with_reducible rfl); simp only [Act.put, pB, pC, pD]
             refine wpAnyH_ready (rs := [23]) (by kernel_rfl) (by simp) ?_
             refine coH 23 (oi := ?_) ?_ ?_ (fun K hK' => ?_) ?_; rotate_left; (simp only [gA, gB, gC]; exact rfl); rfl
             ·
              have HX := Lib.hid (set2_all (b := w.heap.size + 1) (k1 := wr.heap.size) (k2 := w.heap.size) (.int .i64 (max c1 p.1)) (.int .i64 (max c2 p.2)) hH hK hL hrgn hBn2 (by omega) (by omega) (by omega) (by omega) (by omega))
              clear hrgn hBn2
              go_wp2_with (fail)
              refine hK'.out _ _ HX.out.2.1 (fun hHeld => ?_)
              clear hK' K hHeld hL hH hK b0 b1_ bf0 bf1
              try simp only [Act.put, pB, pC, pD]
              generalize ((x33y22.setCell ⟨w.heap.size + 1, 0, none⟩ (.int .i64 (max c1 p.1))).setCell ⟨w.heap.size + 1, 1, none⟩ (.int .i64 (max c2 p.2))) = x37y23 at *
              obtain ⟨hH, hK, hL, hrgn, hBn2⟩ := HX.out
              clear HX
              refine wpAnyH_done (by kernel_rfl) ?_ _
              have HL7 := Lib.hid hL
              have HH7 := Lib.hid hH
              have HRF := Lib.hid hrgn
              have HBN := Lib.hid hBn2
              clear hL hH hK hrgn hBn2
              go_wp2_with (fail)
              go_roundw
              case rel => exact ⟨true, _, _, _, _, _, _, rfl, HL7.out, HH7.out, HRF.out, HBD2.out, HBN.out⟩
              case measure => (have hq := HRF.out; rw [hq.left_eq, HRG1.out.left_eq]; exact hmeas)
             exact AllReadyH.nil
            exact AllReadyH.nil
           exact AllReadyH.nil
          refine coH 12 (oi := ?_) ?_ ?_ (fun K hK' => ?_) ?_; rotate_left; (simp only [gA, gB, gC]; exact rfl); rfl
          ·
           go_wp2_with (fail)
           refine hK'.out _ _ hK (fun hHeld => ?_)
           clear hK' K hHeld
           try simp only [Act.put, pB, pC, pD]
           refine tkH hK 15 (oi := ?_) (v := ?_) ?_ ?_ ?_ ?_ ?_ ?_ ?_ ?_; rotate_left 2; (simp only [gA, gB, gC]; exact rfl); kernel_rfl; kernel_rfl; kernel_rfl; exact fun _ _ _ h => h; rfl; (intro w' hSw; go_simp; with_reducible rfl); simp only [Act.put, pB, pC, pD]
           refine tkH hK 21 (oi := ?_) (v := ?_) ?_ ?_ ?_ ?_ ?_ ?_ ?_ ?_; rotate_left 2; (simp only [gA, gB, gC]; exact rfl); kernel_rfl; kernel_rfl; kernel_rfl; exact fun _ _ _ h => h; rfl; (intro w' hSw; go_simp; with_reducible rfl); simp only [Act.put, pB, pC, pD]
           refine wpAnyH_ready (rs := [6]) (by kernel_rfl) (by simp) ?_
           refine coH 6 (oi := ?_) ?_ ?_ (fun K hK' => ?_) ?_; rotate_left; (simp only [gA, gB, gC]; exact rfl); rfl
           ·
            go_wp2_with (fail)
            refine hK'.out _ _ hK (fun hHeld => ?_)
            clear hK' K hHeld
            try simp only [Act.put, pB, pC, pD]
            refine tkH hK 9 (oi := ?_) (v := ?_) ?_ ?_ ?_ ?_ ?_ ?_ ?_ ?_; rotate_left 2; (simp only [gA, gB, gC]; exact rfl); kernel_rfl; kernel_rfl; kernel_rfl; exact fun _ _ _ h => h; rfl; (intro w' hSw; go_simp; with_reducible rfl); simp only [Act.put, pB, pC, pD]
            refine tkH hK 10 (oi := ?_) (v := ?_) ?_ ?_ ?_ ?_ ?_ ?_ ?_ ?_; rotate_left 2; (simp only [gA, gB, gC]; exact rfl); kernel_rfl; kernel_rfl; kernel_rfl; exact fun _ _ _ h => h; rfl; (intro w' hSw; go_simp; with_reducible rfl); simp only [Act.put, pB, pC, pD]
            refine wpAnyH_ready (rs := [22]) (by kernel_rfl) (by simp) ?_
            refine coH 22 (oi := ?_) ?_ ?_ (fun K hK' => ?_) ?_; rotate_left; (simp only [gA, gB, gC]; exact rfl); rfl
            ·
             have HX := Lib.hid (set2_all (b := w.heap.size) (k1 := wr.heap.size) (k2 := w.heap.size + 1) (.int .i64 (min a1 p.1)) (.int .i64 (min a2 p.2)) hL hK hH hrgn hBn2 (by omega) (by omega) (by omega) (by omega) (by omega))
             clear hrgn hBn2
             go_wp2_with (fail)
             refine hK'.out _ _ HX.out.2.1 (fun hHeld => ?_)
             clear hK' K hHeld hL hH hK a0 a1_ af0 af1
             try simp only [Act.put, pB, pC, pD]
             generalize ((d0.setCell ⟨w.heap.size, 0, none⟩ (.int .i64 (min a1 p.1))).setCell ⟨w.heap.size, 1, none⟩ (.int .i64 (min a2 p.2))) = x39y22 at *
             obtain ⟨hL, hK, hH, hrgn, hBn2⟩ := HX.out
             clear HX
             replace b0 : x39y22.cell? ⟨w.heap.size + 1, 0, none⟩ = some (.int .i64 c1) := cell_of hH rfl
             replace b1_ : x39y22.cell? ⟨w.heap.size + 1, 1, none⟩ = some (.int .i64 c2) := cell_of hH rfl
             replace bf0 : x39y22.frozen? ⟨w.heap.size + 1, 0, none⟩ = false := frozen_of hH
             replace bf1 : x39y22.frozen? ⟨w.heap.size + 1, 1, none⟩ = false := frozen_of hH
             refine wpAnyH_ready (rs := [23]) (by kernel_rfl) (by simp) ?_
             refine coH 23 (oi := ?_) ?_ ?_ (fun K hK' => ?_) ?_; rotate_left; (simp only [gA, gB, gC]; exact rfl); rfl
             ·
              have HX := Lib.hid (set2_all (b := w.heap.size + 1) (k1 := wr.heap.size) (k2 := w.heap.size) (.int .i64 (max c1 p.1)) (.int .i64 (max c2 p.2)) hH hK hL hrgn hBn2 (by omega) (by omega) (by omega) (by omega) (by omega))
              clear hrgn hBn2
              go_wp2_with (fail)
              refine hK'.out _ _ HX.out.2.1 (fun hHeld => ?_)
              clear hK' K hHeld hL hH hK b0 b1_ bf0 bf1
              try simp only [Act.put, pB, pC, pD]
              generalize ((x39y22.setCell ⟨w.heap.size + 1, 0, none⟩ (.int .i64 (max c1 p.1))).setCell ⟨w.heap.size + 1, 1, none⟩ (.int .i64 (max c2 p.2))) = x40y23 at *
              obtain ⟨hH, hK, hL, hrgn, hBn2⟩ := HX.out
              clear HX
              refine wpAnyH_done (by kernel_rfl) ?_ _
              have HL7 := Lib.hid hL
              have HH7 := Lib.hid hH
              have HRF := Lib.hid hrgn
              have HBN := Lib.hid hBn2
              clear hL hH hK hrgn hBn2
              go_wp2_with (fail)
              go_roundw
              case rel => exact ⟨true, _, _, _, _, _, _, rfl, HL7.out, HH7.out, HRF.out, HBD2.out, HBN.out⟩
              case measure => (have hq := HRF.out; rw [hq.left_eq, HRG1.out.left_eq]; exact hmeas)
             exact AllReadyH.nil
            exact AllReadyH.nil
           exact AllReadyH.nil
          exact AllReadyH.nil
         exact AllReadyH.nil
        refine coH 6 (oi := ?_) ?_ ?_ (fun K hK' => ?_) ?_; rotate_left; (simp only [gA, gB, gC]; exact rfl); rfl
        ·
         go_wp2_with (fail)
         refine hK'.out _ _ hK (fun hHeld => ?_)
         clear hK' K hHeld
         try simp only [Act.put, pB, pC, pD]
         refine tkH hK 9 (oi := ?_) (v := ?_) ?_ ?_ ?_ ?_ ?_ ?_ ?_ ?_; rotate_left 2; (simp only [gA, gB, gC]; exact rfl); kernel_rfl; kernel_rfl; kernel_rfl; exact fun _ _ _ h => h; rfl; (intro w' hSw; go_simp; with_reducible rfl); simp only [Act.put, pB, pC, pD]
         refine wpAnyH_ready (rs := [1, 12, 17]) (by kernel_rfl) (by simp) ?_
         refine coH 1 (oi := ?_) ?_ ?_ (fun K hK' => ?_) ?_; rotate_left; (simp only [gA, gB, gC]; exact rfl); rfl
         ·
          go_wp2_with (fail)
          refine hK'.out _ _ hK (fun hHeld => ?_)
          clear hK' K hHeld
          try simp only [Act.put, pB, pC, pD]
          refine tkH hK 4 (oi := ?_) (v := ?_) ?_ ?_ ?_ ?_ ?_ ?_ ?_ ?_; rotate_left 2; (simp only [gA, gB, gC]; exact rfl); kernel_rfl; kernel_rfl; kernel_rfl; exact fun _ _ _ h => h; rfl; (intro w' hSw; go_simp; with_reducible rfl); simp only [Act.put, pB, pC, pD]
          refine tkH hK 10 (oi := ?_) (v := ?_) ?_ ?_ ?_ ?_ ?_ ?_ ?_ ?_; rotate_left 2; (simp only [gA, gB, gC]; exact rfl); kernel_rfl; kernel_rfl; kernel_rfl; exact fun _ _ _ h => h; rfl; (intro w' hSw; go_simp; with_reducible rfl); simp only [Act.put, pB, pC, pD]
          refine wpAnyH_ready (rs := [12, 17, 22]) (by kernel_rfl) (by simp) ?_
          refine coH 12 (oi := ?_) ?_ ?_ (fun K hK' => ?_) ?_; rotate_left; (simp only [gA, gB, gC]; exact rfl); rfl
          ·
           go_wp2_with (fail)
           refine hK'.out _ _ hK (fun hHeld => ?_)
           clear hK' K hHeld
           try simp only [Act.put, pB, pC, pD]
           refine tkH hK 15 (oi := ?_) (v := ?_) ?_ ?_ ?_ ?_ ?_ ?_ ?_ ?_; rotate_left 2; (simp only [gA, gB, gC]; exact rfl); kernel_rfl; kernel_rfl; kernel_rfl; exact fun _ _ _ h => h; rfl; (intro w' hSw; go_simp; with_reducible rfl); simp only [Act.put, pB, pC, pD]
           refine wpAnyH_ready (rs := [17, 22]) (by kernel_rfl) (by simp) ?_
           refine coH 17 (oi := ?_) ?_ ?_ (fun K hK' => ?_) ?_; rotate_left; (simp only [gA, gB, gC]; exact rfl); rfl
           ·
            go_wp2_with (fail)
            refine hK'.out _ _ hK (fun hHeld => ?_)
            clear hK' K hHeld
            try simp only [Act.put, pB, pC, pD]
            refine tkH hK 20 (oi := ?_) (v := ?_) ?_ ?_ ?_ ?_ ?_ ?_ ?_ ?_; rotate_left 2; (simp only [gA, gB, gC]; exact rfl); kernel_rfl; kernel_rfl; kernel_rfl; exact fun _ _ _ h => h; rfl; (intro w' hSw; go_simp; with_reducible rfl); simp only [Act.put, pB, pC, pD]
            refine tkH hK 21 (oi := ?_) (v := ?_) ?_ ?_ ?_ ?_ ?_ ?_ ?_ ?_; rotate_left 2; (simp only [gA, gB, gC]; exact rfl); kernel_rfl; kernel_rfl; kernel_rfl; exact fun _ _ _ h => h; rfl; (intro w' hSw; go_simp; with_reducible rfl); simp only [Act.put, pB, pC, pD]
            refine wpAnyH_ready (rs := [22]) (by kernel_rfl) (by simp) ?_
            refine coH 22 (oi := ?_) ?_ ?_ (fun K hK' => ?_) ?_; rotate_left; (simp only [gA, gB, gC]; exact rfl); rfl
            ·
             have HX := Lib.hid (set2_all (b := w.heap.size) (k1 := wr.heap.size) (k2 := w.heap.size + 1) (.int .i64 (min a1 p.1)) (.int .i64 (min a2 p.2)) hL hK hH hrgn hBn2 (by omega) (by omega) (by omega) (by omega) (by omega))
             clear hrgn hBn2
             go_wp2_with (fail)
             refine hK'.out _ _ HX.out.2.1 (fun hHeld => ?_)
             clear hK' K hHeld hL hH hK a0 a1_ af0 af1
             try simp only [Act.put, pB, pC, pD]
             generalize ((d0.setCell ⟨w.heap.size, 0, none⟩ (.int .i64 (min a1 p.1))).setCell ⟨w.heap.size, 1, none⟩ (.int .i64 (min a2 p.2))) = x44y22 at *
             obtain ⟨hL, hK, hH, hrgn, hBn2⟩ := HX.out
             clear HX
             replace b0 : x44y22.cell? ⟨w.heap.size + 1, 0, none⟩ = some (.int .i64 c1) := cell_of hH rfl
             replace b1_ : x44y22.cell? ⟨w.heap.size + 1, 1, none⟩ = some (.int .i64 c2) := cell_of hH rfl
             replace bf0 : x44y22.frozen? ⟨w.heap.size + 1, 0, none⟩ = false := frozen_of hH
             replace bf1 : x44y22.frozen? ⟨w.heap.size + 1, 1, none⟩ = false := frozen_of hH
             refine wpAnyH_ready (rs := [23]) (by kernel_rfl) (by simp) ?_
             refine coH 23 (oi := ?_) ?_ ?_ (fun K hK' => ?_) ?_; rotate_left; (simp only [gA, gB, gC]; exact rfl); rfl
             ·
              have HX := Lib.hid (set2_all (b := w.heap.size + 1) (k1 := wr.heap.size) (k2 := w.heap.size) (.int .i64 (max c1 p.1)) (.int .i64 (max c2 p.2)) hH hK hL hrgn hBn2 (by omega) (by omega) (by omega) (by omega) (by omega))
              clear hrgn hBn2
              go_wp2_with (fail)
              refine hK'.out _ _ HX.out.2.1 (fun hHeld => ?_)
              clear hK' K hHeld hL hH hK b0 b1_ bf0 bf1
              try simp only [Act.put, pB, pC, pD]
              generalize ((x44y22.setCell ⟨w.heap.size + 1, 0, none⟩ (.int .i64 (max c1 p.1))).setCell ⟨w.heap.size + 1, 1, none⟩ (.int .i64 (max c2 p.2))) = x45y23 at *
              obtain ⟨hH, hK, hL, hrgn, hBn2⟩ := HX.out
              clear HX
              refine wpAnyH_done (by kernel_rfl) ?_ _
              have HL7 := Lib.hid hL
              have HH7 := Lib.hid hH
              have HRF := Lib.hid hrgn
              have HBN := Lib.hid hBn2
              clear hL hH hK hrgn hBn2
              go_wp2_with (fail)
              go_roundw
              case rel => exact ⟨true, _, _, _, _, _, _, rfl, HL7.out, HH7.out, HRF.out, HBD2.out, HBN.out⟩
              case measure => (have hq := HRF.out; rw [hq.left_eq, HRG1.out.left_eq]; exact hmeas)
             exact AllReadyH.nil
            exact AllReadyH.nil
           refine coH 22 (oi := ?_) ?_ ?_ (fun K hK' => ?_) ?_; rotate_left; (simp only [gA, gB, gC]; exact rfl); rfl
           ·
            have HX := Lib.hid (set2_all (b := w.heap.size) (k1 := wr.heap.size) (k2 := w.heap.size + 1) (.int .i64 (min a1 p.1)) (.int .i64 (min a2 p.2)) hL hK hH hrgn hBn2 (by omega) (by omega) (by omega) (by omega) (by omega))
            clear hrgn hBn2
            go_wp2_with (fail)
            refine hK'.out _ _ HX.out.2.1 (fun hHeld => ?_)
            clear hK' K hHeld hL hH hK a0 a1_ af0 af1
            try simp only [Act.put, pB, pC, pD]
            generalize ((d0.setCell ⟨w.heap.size, 0, none⟩ (.int .i64 (min a1 p.1))).setCell ⟨w.heap.size, 1, none⟩ (.int .i64 (min a2 p.2))) = x43y22 at *
            obtain ⟨hL, hK, hH, hrgn, hBn2⟩ := HX.out
            clear HX
            replace b0 : x43y22.cell? ⟨w.heap.size + 1, 0, none⟩ = some (.int .i64 c1) := cell_of hH rfl
            replace b1_ : x43y22.cell? ⟨w.heap.size + 1, 1, none⟩ = some (.int .i64 c2) := cell_of hH rfl
            replace bf0 : x43y22.frozen? ⟨w.heap.size + 1, 0, none⟩ = false := frozen_of hH
            replace bf1 : x43y22.frozen? ⟨w.heap.size + 1, 1, none⟩ = false := frozen_of hH
            refine wpAnyH_ready (rs := [17]) (by kernel_rfl) (by simp) ?_
            refine coH 17 (oi := ?_) ?_ ?_ (fun K hK' => ?_) ?_; rotate_left; (simp only [gA, gB, gC]; exact rfl); rfl
            ·
             go_wp2_with (fail)
             refine hK'.out _ _ hK (fun hHeld => ?_)
             clear hK' K hHeld
             try simp only [Act.put, pB, pC, pD]
             refine tkH hK 20 (oi := ?_) (v := ?_) ?_ ?_ ?_ ?_ ?_ ?_ ?_ ?_; rotate_left 2; (simp only [gA, gB, gC]; exact rfl); kernel_rfl; kernel_rfl; kernel_rfl; exact fun _ _ _ h => h; rfl; (intro w' hSw; go_simp; with_reducible rfl); simp only [Act.put, pB, pC, pD]
             refine tkH hK 21 (oi := ?_) (v := ?_) ?_ ?_ ?_ ?_ ?_ ?_ ?_ ?_; rotate_left 2; (simp only [gA, gB, gC]; exact rfl); kernel_rfl; kernel_rfl; kernel_rfl; exact fun _ _ _ h => h; rfl; (intro w' hSw; go_simp; with_reducible rfl); simp only [Act.put, pB, pC, pD]
             refine wpAnyH_ready (rs := [23]) (by kernel_rfl) (by simp) ?_
             refine coH 23 (oi := ?_) ?_ ?_ (fun K hK' => ?_) ?_; rotate_left; (simp only [gA, gB, gC]; exact rfl); rfl
             ·
              have HX := Lib.hid (set2_all (b := w.heap.size + 1) (k1 := wr.heap.size) (k2 := w.heap.size) (.int .i64 (max c1 p.1)) (.int .i64 (max c2 p.2)) hH hK hL hrgn hBn2 (by omega) (by omega) (by omega) (by omega) (by omega))
              clear hrgn hBn2
              go_wp2_with (fail)
              refine hK'.out _ _ HX.out.2.1 (fun hHeld => ?_)
              clear hK' K hHeld hL hH hK b0 b1_ bf0 bf1
              try simp only [Act.put, pB, pC, pD]
              generalize ((x43y22.setCell ⟨w.heap.size + 1, 0, none⟩ (.int .i64 (max c1 p.1))).setCell ⟨w.heap.size + 1, 1, none⟩ (.int .i64 (max c2 p.2))) = x47y23 at *
              obtain ⟨hH, hK, hL, hrgn, hBn2⟩ := HX.out
              clear HX
              refine wpAnyH_done (by kernel_rfl) ?_ _
              have HL7 := Lib.hid hL
              have HH7 := Lib.hid hH
              have HRF := Lib.hid hrgn
              have HBN := Lib.hid hBn2
              clear hL hH hK hrgn hBn2
              go_wp2_with (fail)
              go_roundw
              case rel => exact ⟨true, _, _, _, _, _, _, rfl, HL7.out, HH7.out, HRF.out, HBD2.out, HBN.out⟩
              case measure => (have hq := HRF.out; rw [hq.left_eq, HRG1.out.left_eq]; exact hmeas)
             exact AllReadyH.nil
            exact AllReadyH.nil
           exact AllReadyH.nil
          refine coH 17 (oi := ?_) ?_ ?_ (fun K hK' => ?_) ?_; rotate_left; (simp only [gA, gB, gC]; exact rfl); rfl
          ·
           go_wp2_with (fail)
           refine hK'.out _ _ hK (fun hHeld => ?_)
           clear hK' K hHeld
           try simp only [Act.put, pB, pC, pD]
           refine tkH hK 20 (oi := ?_) (v := ?_) ?_ ?_ ?_ ?_ ?_ ?_ ?_ ?_; rotate_left 2; (simp only [gA, gB, gC]; exact rfl); kernel_rfl; kernel_rfl; kernel_rfl; exact fun _ _ _ h => h; rfl; (intro w' hSw; go_simp; with_reducible rfl); simp only [Act.put, pB, pC, pD]
           refine wpAnyH_ready (rs := [12, 22]) (by kernel_rfl) (by simp) ?_
           refine coH 12 (oi := ?_) ?_ ?_ (fun K hK' => ?_) ?_; rotate_left; (simp only [gA, gB, gC]; exact rfl); rfl
           ·
            go_wp2_with (fail)
            refine hK'.out _ _ hK (fun hHeld => ?_)
            clear hK' K hHeld
            try simp only [Act.put, pB, pC, pD]
            refine tkH hK 15 (oi := ?_) (v := ?_) ?_ ?_ ?_ ?_ ?_ ?_ ?_ ?_; rotate_left 2; (simp only [gA, gB, gC]; exact rfl); kernel_rfl; kernel_rfl; kernel_rfl; exact fun _ _ _ h => h; rfl; (intro w' hSw; go_simp; with_reducible rfl); simp only [Act.put, pB, pC, pD]
            refine tkH hK 21 (oi := ?_) (v := ?_) ?_ ?_ ?_ ?_ ?_ ?_ ?_ ?_; rotate_left 2; (simp only [gA, gB, gC]; exact rfl); kernel_rfl; kernel_rfl; kernel_rfl; exact fun _ _ _ h => h; rfl; (intro w' hSw; go_simp; with_reducible rfl); simp only [Act.put, pB, pC, pD]
            refine wpAnyH_ready (rs := [22]) (by kernel_rfl) (by simp) ?_
            refine coH 22 (oi := ?_) ?_ ?_ (fun K hK' => ?_) ?_; rotate_left; (simp only [gA, gB, gC]; exact rfl); rfl
            ·
             have HX := Lib.hid (set2_all (b := w.heap.size) (k1 := wr.heap.size) (k2 := w.heap.size + 1) (.int .i64 (min a1 p.1)) (.int .i64 (min a2 p.2)) hL hK hH hrgn hBn2 (by omega) (by omega) (by omega) (by omega) (by omega))
             clear hrgn hBn2
             go_wp2_with (fail)
             refine hK'.out _ _ HX.out.2.1 (fun hHeld => ?_)
             clear hK' K hHeld hL hH hK a0 a1_ af0 af1
             try simp only [Act.put, pB, pC, pD]
             generalize ((d0.setCell ⟨w.heap.size, 0, none⟩ (.int .i64 (min a1 p.1))).setCell ⟨w.heap.size, 1, none⟩ (.int .i64 (min a2 p.2))) = x49y22 at *
             obtain ⟨hL, hK, hH, hrgn, hBn2⟩ := HX.out
             clear HX
             replace b0 : x49y22.cell? ⟨w.heap.size + 1, 0, none⟩ = some (.int .i64 c1) := cell_of hH rfl
             replace b1_ : x49y22.cell? ⟨w.heap.size + 1, 1, none⟩ = some (.int .i64 c2) := cell_of hH rfl
             replace bf0 : x49y22.frozen? ⟨w.heap.size + 1, 0, none⟩ = false := frozen_of hH
             replace bf1 : x49y22.frozen? ⟨w.heap.size + 1, 1, none⟩ = false := frozen_of hH
             refine wpAnyH_ready (rs := [23]) (by kernel_rfl) (by simp) ?_
             refine coH 23 (oi := ?_) ?_ ?_ (fun K hK' => ?_) ?_; rotate_left; (simp only [gA, gB, gC]; exact rfl); rfl
             ·
              have HX := Lib.hid (set2_all (b := w.heap.size + 1) (k1 := wr.heap.size) (k2 := w.heap.size) (.int .i64 (max c1 p.1)) (.int .i64 (max c2 p.2)) hH hK hL hrgn hBn2 (by omega) (by omega) (by omega) (by omega) (by omega))
              clear hrgn hBn2
              go_wp2_with (fail)
              refine hK'.out _ _ HX.out.2.1 (fun hHeld => ?_)
              clear hK' K hHeld hL hH hK b0 b1_ bf0 bf1
              try simp only [Act.put, pB, pC, pD]
              generalize ((x49y22.setCell ⟨w.heap.size + 1, 0, none⟩ (.int .i64 (max c1 p.1))).setCell ⟨w.heap.size + 1, 1, none⟩ (.int .i64 (max c2 p.2))) = x50y23 at *
              obtain ⟨hH, hK, hL, hrgn, hBn2⟩ := HX.out
              clear HX
              refine wpAnyH_done (by kernel_rfl) ?_ _
              have HL7 := Lib.hid hL
              have HH7 := Lib.hid hH
              have HRF := Lib.hid hrgn
              have HBN := Lib.hid hBn2
              clear hL hH hK hrgn hBn2
              go_wp2_with (fail)
              go_roundw
              case rel => exact ⟨true, _, _, _, _, _, _, rfl, HL7.out, HH7.out, HRF.out, HBD2.out, HBN.out⟩
              case measure => (have hq := HRF.out; rw [hq.left_eq, HRG1.out.left_eq]; exact hmeas)
             exact AllReadyH.nil
            exact AllReadyH.nil
           refine coH 22 (oi := ?_) ?_ ?_ (fun K hK' => ?_) ?_; rotate_left; (simp only [gA, gB, gC]; exact rfl); rfl
           ·
            have HX := Lib.hid (set2_all (b := w.heap.size) (k1 := wr.heap.size) (k2 := w.heap.size + 1) (.int .i64 (min a1 p.1)) (.int .i64 (min a2 p.2)) hL hK hH hrgn hBn2 (by omega) (by omega) (by omega) (by omega) (by omega))
            clear hrgn hBn2
            go_wp2_with (fail)
            refine hK'.out _ _ HX.out.2.1 (fun hHeld => ?_)
            clear hK' K hHeld hL hH hK a0 a1_ af0 af1
            try simp only [Act.put, pB, pC, pD]
            generalize ((d0.setCell ⟨w.heap.size, 0, none⟩ (.int .i64 (min a1 p.1))).setCell ⟨w.heap.size, 1, none⟩ (.int .i64 (min a2 p.2))) = x48y22 at *
            obtain ⟨hL, hK, hH, hrgn, hBn2⟩ := HX.out
            clear HX
            replace b0 : x48y22.cell? ⟨w.heap.size + 1, 0, none⟩ = some (.int .i64 c1) := cell_of hH rfl
            replace b1_ : x48y22.cell? ⟨w.heap.size + 1, 1, none⟩ = some (.int .i64 c2) := cell_of hH rfl
            replace bf0 : x48y22.frozen? ⟨w.heap.size + 1, 0, none⟩ = false := frozen_of hH
            replace bf1 : x48y22.frozen? ⟨w.heap.size + 1, 1, none⟩ = false := frozen_of hH
            refine wpAnyH_ready (rs := [12]) (by kernel_rfl) (by simp) ?_
            refine coH 12 (oi := ?_) ?_ ?_ (fun K hK' => ?_) ?_; rotate_left; (simp only [gA, gB, gC]; exact rfl); rfl
            ·
             go_wp2_with (fail)
             refine hK'.out _ _ hK (fun hHeld => ?_)
             clear hK' K hHeld
             try simp only [Act.put, pB, pC, pD]
             refine tkH hK 15 (oi := ?_) (v := ?_) ?_ ?_ ?_ ?_ ?_ ?_ ?_ ?_; rotate_left 2; (simp only [gA, gB, gC]; exact rfl); kernel_rfl; kernel_rfl; kernel_rfl; exact fun _ _ _ h => h; rfl; (intro w' hSw; go_simp; with_reducible rfl); simp only [Act.put, pB, pC, pD]
             refine tkH hK 21 (oi := ?_) (v := ?_) ?_ ?_ ?_ ?_ ?_ ?_ ?_ ?_; rotate_left 2; (simp only [gA, gB, gC]; exact rfl); kernel_rfl; kernel_rfl; kernel_rfl; exact fun _ _ _ h => h; rfl; (intro w' hSw; go_simp; with_reducible rfl); simp only [Act.put, pB, pC, pD]
             refine wpAnyH_ready (rs := [23]) (by kernel_rfl) (by simp) ?_
             refine coH 23 (oi := ?_) ?_ ?_ (fun K hK' => ?_) ?_; rotate_left; (simp only [gA, gB, gC]; exact rfl); rfl
             ·
              have HX := Lib.hid (set2_all (b := w.heap.size + 1) (k1 := wr.heap.size) (k2 := w.heap.size) (.int .i64 (max c1 p.1)) (.int .i64 (max c2 p.2)) hH hK hL hrgn hBn2 (by omega) (by omega) (by omega) (by omega) (by omega))
              clear hrgn hBn2
              go_wp2_with (fail)
              refine hK'.out _ _ HX.out.2.1 (fun hHeld => ?_)
              clear hK' K hHeld hL hH hK b0 b1_ bf0 bf1
              try simp only [Act.put, pB, pC, pD]
              generalize ((x48y22.setCell ⟨w.heap.size + 1, 0, none⟩ (.int .i64 (max c1 p.1))).setCell ⟨w.heap.size + 1, 1, none⟩ (.int .i64 (max c2 p.2))) = x52y23 at *
              obtain ⟨hH, hK, hL, hrgn, hBn2⟩ := HX.out
              clear HX
              refine wpAnyH_done (by kernel_rfl) ?_ _
              have HL7 := Lib.hid hL
              have HH7 := Lib.hid hH
              have HRF := Lib.hid hrgn
              have HBN := Lib.hid hBn2
              clear hL hH hK hrgn hBn2
              go_wp2_with (fail)
              go_roundw
              case rel => exact ⟨true, _, _, _, _, _, _, rfl, HL7.out, HH7.out, HRF.out, HBD2.out, HBN.out⟩
              case measure => (have hq := HRF.out; rw [hq.left_eq, HRG1.out.left_eq]; exact hmeas)
             exact AllReadyH.nil
            exact AllReadyH.nil
           exact AllReadyH.nil
          refine coH 22 (oi := ?_) ?_ ?_ (fun K hK' => ?_) ?_; rotate_left; (simp only [gA, gB, gC]; exact rfl); rfl
          ·
           have HX := Lib.hid (set2_all (b := w.heap.size) (k1 := wr.heap.size) (k2 := w.heap.size + 1) (.int .i64 (min a1 p.1)) (.int .i64 (min a2 p.2)) hL hK hH hrgn hBn2 (by omega) (by omega) (by omega) (by omega) (by omega))
           clear hrgn hBn2
           go_wp2_with (fail)
           refine hK'.out _ _ HX.out.2.1 (fun hHeld => ?_)
           clear hK' K hHeld hL hH hK a0 a1_ af0 af1
           try simp only [Act.put, pB, pC, pD]
           generalize ((d0.setCell ⟨w.heap.size, 0, none⟩ (.int .i64 (min a1 p.1))).setCell ⟨w.heap.size, 1, none⟩ (.int .i64 (min a2 p.2))) = x42y22 at *
           obtain ⟨hL, hK, hH, hrgn, hBn2⟩ := HX.out
           clear HX
           replace b0 : x42y22.cell? ⟨w.heap.size + 1, 0, none⟩ = some (.int .i64 c1) := cell_of hH rfl
           replace b1_ : x42y22.cell? ⟨w.heap.size + 1, 1, none⟩ = some (.int .i64 c2) := cell_of hH rfl
           replace bf0 : x42y22.frozen? ⟨w.heap.size + 1, 0, none⟩ = false := frozen_of hH
           replace bf1 : x42y22.frozen? ⟨w.heap.size + 1, 1, none⟩ = false := frozen_of hH
           refine wpAnyH_ready (rs := [12, 17]) (by kernel_rfl) (by simp) ?_
           refine coH 12 (oi := ?_) ?_ ?_ (fun K hK' => ?_) ?_; rotate_left; (simp only [gA, gB, gC]; exact rfl); rfl
           ·
            go_wp2_with (fail)
            refine hK'.out _ _ hK (fun hHeld => ?_)
            clear hK' K hHeld
            try simp only [Act.put, pB, pC, pD]
            refine tkH hK 15 (oi := ?_) (v := ?_) ?_ ?_ ?_ ?_ ?_ ?_ ?_ ?_; rotate_left 2; (simp only [gA, gB, gC]; exact rfl); kernel_rfl; kernel_rfl; kernel_rfl; exact fun _ _ _ h => h; rfl; (intro w' hSw; go_simp; with_reducible rfl); simp only [Act.put, pB, pC, pD]
            refine wpAnyH_ready (rs := [17]) (by kernel_rfl) (by simp) ?_
            refine coH 17 (oi := ?_) ?_ ?_ (fun K hK' => ?_) ?_; rotate_left; (simp only [gA, gB, gC]; exact rfl); rfl
            ·
             go_wp2_with (fail)
             refine hK'.out _ _ hK (fun hHeld => ?_)
             clear hK' K hHeld
             try simp only [Act.put, pB, pC, pD]
             refine tkH hK 20 (oi := ?_) (v := ?_) ?_ ?_ ?_ ?_ ?_ ?_ ?_ ?_; rotate_left 2; (simp only [gA, gB, gC]; exact rfl); kernel_rfl; kernel_rfl; kernel_rfl; exact fun _ _ _ h => h; rfl; (intro w' hSw; go_simp; with_reducible rfl); simp only [Act.put, pB, pC, pD]
             refine tkH hK 21 (oi := ?_) (v := ?_) ?_ ?_ ?_ ?_ ?_ ?_ ?_ ?_; rotate_left 2; (simp only [gA, gB, gC]; exact rfl); kernel_rfl; kernel_rfl; kernel_rfl; exact fun _ _ _ h => h; rfl; (intro w' hSw; go_simp; with_reducible rfl); simp only [Act.put, pB, pC, pD]
             refine wpAnyH_ready (rs := [23]) (by kernel_rfl) (by simp) ?_
             refine coH 23 (oi := ?_) ?_ ?_ (fun K hK' => ?_) ?_; rotate_left; (simp only [gA, gB, gC]; exact rfl); rfl
             ·
              have HX := Lib.hid (set2_all (b := w.heap.size + 1) (k1 := wr.heap.size) (k2 := w.heap.size) (.int .i64 (max c1 p.1)) (.int .i64 (max c2 p.2)) hH hK hL hrgn hBn2 (by omega) (by omega) (by omega) (by omega) (by omega))
              clear hrgn hBn2
              go_wp2_with (fail)
              refine hK'.out _ _ HX.out.2.1 (fun hHeld => ?_)
              clear hK' K hHeld hL hH hK b0 b1_ bf0 bf1
              try simp only [Act.put, pB, pC, pD]
              generalize ((x42y22.setCell ⟨w.heap.size + 1, 0, none⟩ (.int .i64 (max c1 p.1))).setCell ⟨w.heap.size + 1, 1, none⟩ (.int .i64 (max c2 p.2))) = x55y23 at *
              obtain ⟨hH, hK, hL, hrgn, hBn2⟩ := HX.out
              clear HX
              refine wpAnyH_done (by kernel_rfl) ?_ _
              have HL7 := Lib.hid hL
              have HH7 := Lib.hid hH
              have HRF := Lib.hid hrgn
              have HBN := Lib.hid hBn2
              clear hL hH hK hrgn hBn2
              go_wp2_with (fail)
              go_roundw
              case rel => exact ⟨true, _, _, _, _, _, _, rfl, HL7.out, HH7.out, HRF.out, HBD2.out, HBN.out⟩
              case measure => (have hq := HRF.out; rw [hq.left_eq, HRG1.out.left_eq]; exact hmeas)
             exact AllReadyH.nil
            exact AllReadyH.nil
           refine coH 17 (oi := ?_) ?_ ?_ (fun K hK' => ?_) ?_; rotate_left; (simp only [gA, gB, gC]; exact rfl); rfl
           ·
            go_wp2_with (fail)
            refine hK'.out _ _ hK (fun hHeld => ?_)
            clear hK' K hHeld
            try simp only [Act.put, pB, pC, pD]
            refine tkH hK 20 (oi := ?_) (v := ?_) ?_ ?_ ?_ ?_ ?_ ?_ ?_ ?_; rotate_left 2; (simp only [gA, gB, gC]; exact rfl); kernel_rfl; kernel_rfl; kernel_rfl; exact fun _ _ _ h => h; rfl; (intro w' hSw; go_simp; with_reducible rfl); simp only [Act.put, pB, pC, pD]
            refine wpAnyH_ready (rs := [12]) (by kernel_rfl) (by simp) ?_
            refine coH 12 (oi := ?_) ?_ ?_ (fun K hK' => ?_) ?_; rotate_left; (simp only [gA, gB, gC]; exact rfl); rfl
            ·
             go_wp2_with (fail)
             refine hK'.out _ _ hK (fun hHeld => ?_)
             clear hK' K hHeld
             try simp only [Act.put, pB, pC, pD]
             refine tkH hK 15 (oi := ?_) (v := ?_) ?_ ?_ ?_ ?_ ?_ ?_ ?_ ?_; rotate_left 2; (simp only [gA, gB, gC]; exact rfl); kernel_rfl; kernel_rfl; kernel_rfl; exact fun _ _ _ h => h; rfl; (intro w' hSw; go_simp; with_reducible rfl); simp only [Act.put, pB, pC, pD]
             refine tkH hK 21 (oi := ?_) (v := ?_) ?_ ?_ ?_ ?_ ?_ ?_ ?_ ?_; rotate_left 2; (simp only [gA, gB, gC]; exact rfl); kernel_rfl; kernel_rfl; kernel_rfl; exact fun _ _ _ h => h; rfl; (intro w' hSw; go_simp; with_reducible rfl); simp only [Act.put, pB, pC, pD]
             refine wpAnyH_ready (rs := [23]) (by kernel_rfl) (by simp) ?_
             refine coH 23 (oi := ?_) ?_ ?_ (fun K hK' => ?_) ?_; rotate_left; (simp only [gA, gB, gC]; exact rfl); rfl
             ·
              have HX := Lib.hid (set2_all (b := w.heap.size + 1) (k1 := wr.heap.size) (k2 := w.heap.size) (.int .i64 (max c1 p.1)) (.int .i64 (max c2 p.2)) hH hK hL hrgn hBn2 (by omega) (by omega) (by omega) (by omega) (by omega))
              clear hrgn hBn2
              go_wp2_with (fail)
              refine hK'.out _ _ HX.out.2.1 (fun hHeld => ?_)
              clear hK' K hHeld hL hH hK b0 b1_ bf0 bf1
              try simp only [Act.put, pB, pC, pD]
              generalize ((x42y22.setCell ⟨w.heap.size + 1, 0, none⟩ (.int .i64 (max c1 p.1))).setCell ⟨w.heap.size + 1, 1, none⟩ (.int .i64 (max c2 p.2))) = x57y23 at *
              obtain ⟨hH, hK, hL, hrgn, hBn2⟩ := HX.out
              clear HX
              refine wpAnyH_done (by kernel_rfl) ?_ _
              have HL7 := Lib.hid hL
              have HH7 := Lib.hid hH
              have HRF := Lib.hid hrgn
              have HBN := Lib.hid hBn2
              clear hL hH hK hrgn hBn2
              go_wp2_with (fail)
              go_roundw
              case rel => exact ⟨true, _, _, _, _, _, _, rfl, HL7.out, HH7.out, HRF.out, HBD2.out, HBN.out⟩
              case measure => (have hq := HRF.out; rw [hq.left_eq, HRG1.out.left_eq]; exact hmeas)
             exact AllReadyH.nil
            exact AllReadyH.nil
           exact AllReadyH.nil
          exact AllReadyH.nil
         refine coH 12 (oi := ?_) ?_ ?_ (fun K hK' => ?_) ?_; rotate_left; (simp only [gA, gB, gC]; exact rfl); rfl
         ·
          go_wp2_with (fail)
          refine hK'.out _ _ hK (fun hHeld => ?_)
          clear hK' K hHeld
          try simp only [Act.put, pB, pC, pD]
          refine tkH hK 15 (oi := ?_) (v := ?_) ?_ ?_ ?_ ?_ ?_ ?_ ?_ ?_; rotate_left 2; (simp only [gA, gB, gC]; exact rfl); kernel_rfl; kernel_rfl; kernel_rfl; exact fun _ _ _ h => h; rfl; (intro w' hSw; go_simp; with_reducible rfl); simp only [Act.put, pB, pC, pD]
          refine wpAnyH_ready (rs := [1, 17]) (by kernel_rfl) (by simp) ?_
          refine coH 1 (oi := ?_) ?_ ?_ (fun K hK' => ?_) ?_; rotate_left; (simp only [gA, gB, gC]; exact rfl); rfl
          ·
           go_wp2_with (fail)
           refine hK'.out _ _ hK (fun hHeld => ?_)
           clear hK' K hHeld
           try simp only [Act.put, pB, pC, pD]
           refine tkH hK 4 (oi := ?_) (v := ?_) ?_ ?_ ?_ ?_ ?_ ?_ ?_ ?_; rotate_left 2; (simp only [gA, gB, gC]; exact rfl); kernel_rfl; kernel_rfl; kernel_rfl; exact fun _ _ _ h => h; rfl; (intro w' hSw; go_simp; with_reducible rfl); simp only [Act.put, pB, pC, pD]
           refine tkH hK 10 (oi := ?_) (v := ?_) ?_ ?_ ?_ ?_ ?_ ?_ ?_ ?_; rotate_left 2; (simp only [gA, gB, gC]; exact rfl); kernel_rfl; kernel_rfl; kernel_rfl; exact fun _ _ _ h => h; rfl; (intro w' hSw; go_simp; with_reducible rfl); simp only [Act.put, pB, pC, pD]
           refine wpAnyH_ready (rs := [17, 22]) (by kernel_rfl) (by simp) ?_
           refine coH 17 (oi := ?_) ?_ ?_ (fun K hK' => ?_) ?_; rotate_left; (simp only [gA, gB, gC]; exact rfl); rfl
           ·
            go_wp2_with (fail)
            refine hK'.out _ _ hK (fun hHeld => ?_)
            clear hK' K hHeld
            try simp only [Act.put, pB, pC, pD]
            refine tkH hK 20 (oi := ?_) (v := ?_) ?_ ?_ ?_ ?_ ?_ ?_ ?_ ?_; rotate_left 2; (simp only [gA, gB, gC]; exact rfl); kernel_rfl; kernel_rfl; kernel_rfl; exact fun _ _ _ h => h; rfl; (intro w' hSw; go_simp; with_reducible rfl); simp only [Act.put, pB, pC, pD]
            refine tkH hK 21 (oi := ?_) (v := ?_) ?_ ?_ ?_ ?_ ?_ ?_ ?_ ?_; rotate_left 2; (simp only [gA, gB, gC]; exact rfl); kernel_rfl; kernel_rfl; kernel_rfl; exact fun _ _ _ h => h; rfl; (intro w' hSw; go_simp; with_reducible rfl); simp only [Act.put, pB, pC, pD]
            refine wpAnyH_ready (rs := [22]) (by kernel_rfl) (by simp) ?_
            refine coH 22 (oi := ?_) ?_ ?_ (fun K hK' => ?_) ?_; rotate_left; (simp only [gA, gB, gC]; exact rfl); rfl
            ·
             have HX := Lib.hid (set2_all (b := w.heap.size) (k1 := wr.heap.size) (k2 := w.heap.size + 1) (.int .i64 (min a1 p.1)) (.int .i64 (min a2 p.2)) hL hK hH hrgn hBn2 (by omega) (by omega) (by omega) (by omega) (by omega))
             clear hrgn hBn2
             go_wp2_with (fail)
             refine hK'.out _ _ HX.out.2.1 (fun hHeld => ?_)
             clear hK' K hHeld hL hH hK a0 a1_ af0 af1
             try simp only [Act.put, pB, pC, pD]
             generalize ((d0.setCell ⟨w.heap.size, 0, none⟩ (.int .i64 (min a1 p.1))).setCell ⟨w.heap.size, 1, none⟩ (.int .i64 (min a2 p.2))) = x60y22 at *
             obtain ⟨hL, hK, hH, hrgn, hBn2⟩ := HX.out
             clear HX
             replace b0 : x60y22.cell? ⟨w.heap.size + 1, 0, none⟩ = some (.int .i64 c1) := cell_of hH rfl
             replace b1_ : x60y22.cell? ⟨w.heap.size + 1, 1, none⟩ = some (.int .i64 c2) := cell_of hH rfl
             replace bf0 : x60y22.frozen? ⟨w.heap.size + 1, 0, none⟩ = false := frozen_of hH
             replace bf1 : x60y22.frozen? ⟨w.heap.size + 1, 1, none⟩ = false := frozen_of hH
             refine wpAnyH_ready (rs := [23]) (by kernel_rfl) (by simp) ?_
             refine coH 23 (oi := ?_) ?_ ?_ (fun K hK' => ?_) ?_; rotate_left; (simp only [gA, gB, gC]; exact rfl); rfl
             ·
              have HX := Lib.hid (set2_all (b := w.heap.size + 1) (k1 := wr.heap.size) (k2 := w.heap.size) (.int .i64 (max c1 p.1)) (.int .i64 (max c2 p.2)) hH hK hL hrgn hBn2 (by omega) (by omega) (by omega) (by omega) (by omega))
              clear hrgn hBn2
              go_wp2_with (fail)
              refine hK'.out _ _ HX.out.2.1 (fun hHeld => ?_)
              clear hK' K hHeld hL hH hK b0 b1_ bf0 bf1
              try simp only [Act.put, pB, pC, pD]
              generalize ((x60y22.setCell ⟨w.heap.size + 1, 0, none⟩ (.int .i64 (max c1 p.1))).setCell ⟨w.heap.size + 1, 1, none⟩ (.int .i64 (max c2 p.2))) = x61y23 at *
              obtain ⟨hH, hK, hL, hrgn, hBn2⟩ := HX.out
              clear HX
              refine wpAnyH_done (by kernel_rfl) ?_ _
              have HL7 := Lib.hid hL
              have HH7 := Lib.hid hH
              have HRF := Lib.hid hrgn
              have HBN := Lib.hid hBn2
              clear hL hH hK hrgn hBn2
              go_wp2_with (fail)
              go_roundw
              case rel => exact ⟨true, _, _, _, _, _, _, rfl, HL7.out, HH7.out, HRF.out, HBD2.out, HBN.out⟩
              case measure => (have hq := HRF.out; rw [hq.left_eq, HRG1.out.left_eq]; exact hmeas)
             exact AllReadyH.nil
            exact AllReadyH.nil
           refine coH 22 (oi := ?_) ?_ ?_ (fun K hK' => ?_) ?_; rotate_left; (simp only [gA, gB, gC]; exact rfl); rfl
           ·
            have HX := Lib.hid (set2_all (b := w.heap.size) (k1 := wr.heap.size) (k2 := w.heap.size + 1) (.int .i64 (min a1 p.1)) (.int .i64 (min a2 p.2)) hL hK hH hrgn hBn2 (by omega) (by omega) (by omega) (by omega) (by omega))
            clear hrgn hBn2
            go_wp2_with (fail)
            refine hK'.out _ _ HX.out.2.1 (fun hHeld => ?_)
            clear hK' K hHeld hL hH hK a0 a1_ af0 af1
            try simp only [Act.put, pB, pC, pD]
            generalize ((d0.setCell ⟨w.heap.size, 0, none⟩ (.int .i64 (min a1 p.1))).setCell ⟨w.heap.size, 1, none⟩ (.int .i64 (min a2 p.2))) = x59y22 at *
            obtain ⟨hL, hK, hH, hrgn, hBn2⟩ := HX.out
            clear HX
            replace b0 : x59y22.cell? ⟨w.heap.size + 1, 0, none⟩ = some (.int .i64 c1) := cell_of hH rfl
            replace b1_ : x59y22.cell? ⟨w.heap.size + 1, 1, none⟩ = some (.int .i64 c2) := cell_of hH rfl
            replace bf0 : x59y22.frozen? ⟨w.heap.size + 1, 0, none⟩ = false := frozen_of hH
            replace bf1 : x59y22.frozen? ⟨w.heap.size + 1, 1, none⟩ = false := frozen_of hH
            refine wpAnyH_ready (rs := [17]) (by kernel_rfl) (by simp) ?_
            refine coH 17 (oi := ?_) ?_ ?_ (fun K hK' => ?_) ?_; rotate_left; (simp only [gA, gB, gC]; exact rfl); rfl
            ·
             go_wp2_with (fail)
             refine hK'.out _ _ hK (fun hHeld => ?_)
             clear hK' K hHeld
             try simp only [Act.put, pB, pC, pD]
             refine tkH hK 20 (oi := ?_) (v := ?_) ?_ ?_ ?_ ?_ ?_ ?_ ?_ ?_; rotate_left 2; (simp only [gA, gB, gC]; exact rfl); kernel_rfl; kernel_rfl; kernel_rfl; exact fun _ _ _ h => h; rfl; (intro w' hSw; go_simp; with_reducible rfl); simp only [Act.put, pB, pC, pD]
             refine tkH hK 21 (oi := ?_) (v := ?_) ?_ ?_ ?_ ?_ ?_ ?_ ?_ ?_; rotate_left 2; (simp only [gA, gB, gC]; exact rfl); kernel_rfl; kernel_rfl; kernel_rfl; exact fun _ _ _ h => h; rfl; (intro w' hSw; go_simp; with_reducible rfl); simp only [Act.put, pB, pC, pD]
             refine wpAnyH_ready (rs := [23]) (by kernel_rfl) (by simp) ?_
             refine coH 23 (oi := ?_) ?_ ?_ (fun K hK' => ?_) ?_; rotate_left; (simp only [gA, gB, gC]; exact rfl); rfl
             ·
              have HX := Lib.hid (set2_all (b := w.heap.size + 1) (k1 := wr.heap.size) (k2 := w.heap.size) (.int .i64 (max c1 p.1)) (.int .i64 (max c2 p.2)) hH hK hL hrgn hBn2 (by omega) (by omega) (by omega) (by omega) (by omega))
              clear hrgn hBn2
              go_wp2_with (fail)
              refine hK'.out _ _ HX.out.2.1 (fun hHeld => ?_)
              clear hK' K hHeld hL hH hK b0 b1_ bf0 bf1
              try simp only [Act.put, pB, pC, pD]
              generalize ((x59y22.setCell ⟨w.heap.size + 1, 0, none⟩ (.int .i64 (max c1 p.1))).setCell ⟨w.heap.size + 1, 1, none⟩ (.int .i64 (max c2 p.2))) = x63y23 at *
              obtain ⟨hH, hK, hL, hrgn, hBn2⟩ := HX.out
              clear HX
              refine wpAnyH_done (by kernel_rfl) ?_ _
              have HL7 := Lib.hid hL
              have HH7 := Lib.hid hH
              have HRF := Lib.hid hrgn
              have HBN := Lib.hid hBn2
              clear hL hH hK hrgn hBn2
              go_wp2_with (fail)
              go_roundw
              case rel => exact ⟨true, _, _, _, _, _, _, rfl, HL7.out, HH7.out, HRF.out, HBD2.out, HBN.out⟩
              case measure => (have hq := HRF.out; rw [hq.left_eq, HRG1.out.left_eq]; exact hmeas)
             exact AllReadyH.nil
            exact AllReadyH.nil
           exact AllReadyH.nil
          refine coH 17 (oi := ?_) ?_ ?_ (fun K hK' => ?_) ?_; rotate_left; (simp only [gA, gB, gC]; exact rfl); rfl
          ·
           go_wp2_with (fail)
           refine hK'.out _ _ hK (fun hHeld => ?_)
           clear hK' K hHeld
           try simp only [Act.put, pB, pC, pD]
           refine tkH hK 20 (oi := ?_) (v := ?_) ?_ ?_ ?_ ?_ ?_ ?_ ?_ ?_; rotate_left 2; (simp only [gA, gB, gC]; exact rfl); kernel_rfl; kernel_rfl; kernel_rfl; exact fun _ _ _ h => h; rfl; (intro w' hSw; go_simp; with_reducible rfl); simp only [Act.put, pB, pC, pD]
           refine tkH hK 21 (oi := ?_) (v := ?_) ?_ ?_ ?_ ?_ ?_ ?_ ?_ ?_; rotate_left 2; (simp only [gA, gB, gC]; exact rfl); kernel_rfl; kernel_rfl; kernel_rfl; exact fun _ _ _ h => h; rfl; (intro w' hSw; go_simp; with_reducible rfl); simp only [Act.put, pB, pC, pD]
           refine wpAnyH_ready (rs := [1]) (by kernel_rfl) (by simp) ?_
           refine coH 1 (oi := ?_) ?_ ?_ (fun K hK' => ?_) ?_; rotate_left; (simp only [gA, gB, gC]; exact rfl); rfl
           ·
            go_wp2_with (fail)
            refine hK'.out _ _ hK (fun hHeld => ?_)
            clear hK' K hHeld
            try simp only [Act.put, pB, pC, pD]
            refine tkH hK 4 (oi := ?_) (v := ?_) ?_ ?_ ?_ ?_ ?_ ?_ ?_ ?_; rotate_left 2; (simp only [gA, gB, gC]; exact rfl); kernel_rfl; kernel_rfl; kernel_rfl; exact fun _ _ _ h => h; rfl; (intro w' hSw; go_simp; with_reducible rfl); simp only [Act.put, pB, pC, pD]
            refine tkH hK 10 (oi := ?_) (v := ?_) ?_ ?_ ?_ ?_ ?_ ?_ ?_ ?_; rotate_left 2; (simp only [gA, gB, gC]; exact rfl); kernel_rfl; kernel_rfl; kernel_rfl; exact fun _ _ _ h => h; rfl; (intro w' hSw; go_simp; with_reducible rfl); simp only [Act.put, pB, pC, pD]
            refine wpAnyH_ready (rs := [22]) (by kernel_rfl) (by simp) ?_
            refine coH 22 (oi := ?_) ?_ ?_ (fun K hK' => ?_) ?_; rotate_left; (simp only [gA, gB, gC]; exact rfl); rfl
            ·
             have HX := Lib.hid (set2_all (b := w.heap.size) (k1 := wr.heap.size) (k2 := w.heap.size + 1) (.int .i64 (min a1 p.1)) (.int .i64 (min a2 p.2)) hL hK hH hrgn hBn2 (by omega) (by omega) (by omega) (by omega) (by omega))
             clear hrgn hBn2
             go_wp2_with (fail)
             refine hK'.out _ _ HX.out.2.1 (fun hHeld => ?_)
             clear hK' K hHeld hL hH hK a0 a1_ af0 af1
             try simp only [Act.put, pB, pC, pD]
             generalize ((d0.setCell ⟨w.heap.size, 0, none⟩ (.int .i64 (min a1 p.1))).setCell ⟨w.heap.size, 1, none⟩ (.int .i64 (min a2 p.2))) = x65y22 at *
             obtain ⟨hL, hK, hH, hrgn, hBn2⟩ := HX.out
             clear HX
             replace b0 : x65y22.cell? ⟨w.heap.size + 1, 0, none⟩ = some (.int .i64 c1) := cell_of hH rfl
             replace b1_ : x65y22.cell? ⟨w.heap.size + 1, 1, none⟩ = some (.int .i64 c2) := cell_of hH rfl
             replace bf0 : x65y22.frozen? ⟨w.heap.size + 1, 0, none⟩ = false := frozen_of hH
             replace bf1 : x65y22.frozen? ⟨w.heap.size + 1, 1, none⟩ = false := frozen_of hH
             refine wpAnyH_ready (rs := [23]) (by kernel_rfl) (by simp) ?_
             refine coH 23 (oi := ?_) ?_ ?_ (fun K hK' => ?_) ?_; rotate_left; (simp only [gA, gB, gC]; exact rfl); rfl
             ·
              have HX := Lib.hid (set2_all (b := w.heap.size + 1) (k1 := wr.heap.size) (k2 := w.heap.size) (.int .i64 (max c1 p.1)) (.int .i64 (max c2 p.2)) hH hK hL hrgn hBn2 (by omega) (by omega) (by omega) (by omega) (by omega))
              clear hrgn hBn2
              go_wp2_with (fail)
              refine hK'.out _ _ HX.out.2.1 (fun hHeld => ?_)
              clear hK' K hHeld hL hH hK b0 b1_ bf0 bf1
              try simp only [Act.put, pB, pC, pD]
              generalize ((x65y22.setCell ⟨w.heap.size + 1, 0, none⟩ (.int .i64 (max c1 p.1))).setCell ⟨w.heap.size + 1, 1, none⟩ (.int .i64 (max c2 p.2))) = x66y23 at *
              obtain ⟨hH, hK, hL, hrgn, hBn2⟩ := HX.out
              clear HX
              refine wpAnyH_done (by kernel_rfl) ?_ _
              have HL7 := Lib.hid hL
              have HH7 := Lib.hid hH
              have HRF := Lib.hid hrgn
              have HBN := Lib.hid hBn2
              clear hL hH hK hrgn hBn2
              go_wp2_with (fail)
              go_roundw
              case rel => exact ⟨true, _, _, _, _, _, _, rfl, HL7.out, HH7.out, HRF.out, HBD2.out, HBN.out⟩
              case measure => (have hq := HRF.out; rw [hq.left_eq, HRG1.out.left_eq]; exact hmeas)
             exact AllReadyH.nil
            exact AllReadyH.nil
           exact AllReadyH.nil
          exact AllReadyH.nil
         refine coH 17 (oi := ?_) ?_ ?_ (fun K hK' => ?_) ?_; rotate_left; (simp only [gA, gB, gC]; exact rfl); rfl
         ·
          go_wp2_with (fail)
          refine hK'.out _ _ hK (fun hHeld => ?_)
          clear hK' K hHeld
          try simp only [Act.put, pB, pC, pD]
          refine tkH hK 20 (oi := ?_) (v := ?_) ?_ ?_ ?_ ?_ ?_ ?_ ?_ ?_; rotate_left 2; (simp only [gA, gB, gC]; exact rfl); kernel_rfl; kernel_rfl; kernel_rfl; exact fun _ _ _ h => h; rfl; (intro w' hSw; go_simp; with_reducible rfl); simp only [Act.put, pB, pC, pD]
          refine wpAnyH_ready (rs := [1, 12]) (by kernel_rfl) (by simp) ?_
          refine coH 1 (oi := ?_) ?_ ?_ (fun K hK' => ?_) ?_; rotate_left; (simp only [gA, gB, gC]; exact rfl); rfl
          ·
           go_wp2_with (fail)
           refine hK'.out _ _ hK (fun hHeld => ?_)
           clear hK' K hHeld
           try simp only [Act.put, pB, pC, pD]
           refine tkH hK 4 (oi := ?_) (v := ?_) ?_ ?_ ?_ ?_ ?_ ?_ ?_ ?_; rotate_left 2; (simp only [gA, gB, gC]; exact rfl); kernel_rfl; kernel_rfl; kernel_rfl; exact fun _ _ _ h => h; rfl; (intro w' hSw; go_simp; with_reducible rfl); simp only [Act.put, pB, pC, pD]
           refine tkH hK 10 (oi := ?_) (v := ?_) ?_ ?_ ?_ ?_ ?_ ?_ ?_ ?_; rotate_left 2; (simp only [gA, gB, gC]; exact rfl); kernel_rfl; kernel_rfl; kernel_rfl; exact fun _ _ _ h => h; rfl; (intro w' hSw; go_simp; with_reducible rfl); simp only [Act.put, pB, pC, pD]
           refine wpAnyH_ready (rs := [12, 22]) (by kernel_rfl) (by simp) ?_
           refine coH 12 (oi := ?_) ?_ ?_ (fun K hK' => ?_) ?_; rotate_left; (simp only [gA, gB, gC]; exact rfl); rfl
           ·
            go_wp2_with (fail)
            refine hK'.out _ _ hK (fun hHeld => ?_)
            clear hK' K hHeld
            try simp only [Act.put, pB, pC, pD]
            refine tkH hK 15 (oi := ?_) (v := ?_) ?_ ?_ ?_ ?_ ?_ ?_ ?_ ?_; rotate_left 2; (simp only [gA, gB, gC]; exact rfl); kernel_rfl; kernel_rfl; kernel_rfl; exact fun _ _ _ h => h; rfl; (intro w' hSw; go_simp; with_reducible rfl); simp only [Act.put, pB, pC, pD]
            refine tkH hK 21 (oi := ?_) (v := ?_) ?_ ?_ ?_ ?_ ?_ ?_ ?_ ?_; rotate_left 2; (simp only [gA, gB, gC]; exact rfl); kernel_rfl; kernel_rfl; kernel_rfl; exact fun _ _ _ h => h; rfl; (intro w' hSw; go_simp; with_reducible rfl); simp only [Act.put, pB, pC, pD]
            refine wpAnyH_ready (rs := [22]) (by kernel_rfl) (by simp) ?_
            refine coH 22 (oi := ?_) ?_ ?_ (fun K hK' => ?_) ?_; rotate_left; (simp only [gA, gB, gC]; exact rfl); rfl
            ·
             have HX := Lib.hid (set2_all (b := w.heap.size) (k1 := wr.heap.size) (k2 := w.heap.size + 1) (.int .i64 (min a1 p.1)) (.int .i64 (min a2 p.2)) hL hK hH hrgn hBn2 (by omega) (by omega) (by omega) (by omega) (by omega))
             clear hrgn hBn2
             go_wp2_with (fail)
             refine hK'.out _ _ HX.out.2.1 (fun hHeld => ?_)
             clear hK' K hHeld hL hH hK a0 a1_ af0 af1
             try simp only [Act.put, pB, pC, pD]
             generalize ((d0.setCell ⟨w.heap.size, 0, none⟩ (.int .i64 (min a1 p.1))).setCell ⟨w.heap.size, 1, none⟩ (.int .i64 (min a2 p.2))) = x69y22 at *
             obtain ⟨hL, hK, hH, hrgn, hBn2⟩ := HX.out
             clear HX
             replace b0 : x69y22.cell? ⟨w.heap.size + 1, 0, none⟩ = some (.int .i64 c1) := cell_of hH rfl
             replace b1_ : x69y22.cell? ⟨w.heap.size + 1, 1, none⟩ = some (.int .i64 c2) := cell_of hH rfl
             replace bf0 : x69y22.frozen? ⟨w.heap.size + 1, 0, none⟩ = false := frozen_of hH
             replace bf1 : x69y22.frozen? ⟨w.heap.size + 1, 1, none⟩ = false := frozen_of hH
             refine wpAnyH_ready (rs := [23]) (by kernel_rfl) (by simp) ?_
             refine coH 23 (oi := ?_) ?_ ?_ (fun K hK' => ?_) ?_; rotate_left; (simp only [gA, gB, gC]; exact rfl); rfl
             ·
              have HX := Lib.hid (set2_all (b := w.heap.size + 1) (k1 := wr.heap.size) (k2 := w.heap.size) (.int .i64 (max c1 p.1)) (.int .i64 (max c2 p.2)) hH hK hL hrgn hBn2 (by omega) (by omega) (by omega) (by omega) (by omega))
              clear hrgn hBn2
              go_wp2_with (fail)
              refine hK'.out _ _ HX.out.2.1 (fun hHeld => ?_)
              clear hK' K hHeld hL hH hK b0 b1_ bf0 bf1
              try simp only [Act.put, pB, pC, pD]
              generalize ((x69y22.setCell ⟨w.heap.size + 1, 0, none⟩ (.int .i64 (max c1 p.1))).setCell ⟨w.heap.size + 1, 1, none⟩ (.int .i64 (max c2 p.2))) = x70y23 at *
              obtain ⟨hH, hK, hL, hrgn, hBn2⟩ := HX.out
              clear HX
              refine wpAnyH_done (by kernel_rfl) ?_ _
              have HL7 := Lib.hid hL
              have HH7 := Lib.hid hH
              have HRF := Lib.hid hrgn
              have HBN := Lib.hid hBn2
              clear hL hH hK hrgn hBn2
              go_wp2_with (fail)
              go_roundw
              case rel => exact ⟨true, _, _, _, _, _, _, rfl, HL7.out, HH7.out, HRF.out, HBD2.out, HBN.out⟩
              case measure => (have hq := HRF.out; rw [hq.left_eq, HRG1.out.left_eq]; exact hmeas)
             exact AllReadyH.nil
            exact AllReadyH.nil
           refine coH 22 (oi := ?_) ?_ ?_ (fun K hK' => ?_) ?_; rotate_left; (simp only [gA, gB, gC]; exact rfl); rfl
           ·
            have HX := Lib.hid (set2_all (b := w.heap.size) (k1 := wr.heap.size) (k2 := w.heap.size + 1) (.int .i64 (min a1 p.1)) (.int .i64 (min a2 p.2)) hL hK hH hrgn hBn2 (by omega) (by omega) (by omega) (by omega) (by omega))
            clear hrgn hBn2
            go_wp2_with (fail)
            refine hK'.out _ _ HX.out.2.1 (fun hHeld => ?_)
            clear hK' K hHeld hL hH hK a0 a1_ af0 af1
            try simp only [Act.put, pB, pC, pD]
            generalize ((d0.setCell ⟨w.heap.size, 0, none⟩ (.int .i64 (min a1 p.1))).setCell ⟨w.heap.size, 1, none⟩ (.int .i64 (min a2 p.2))) = x68y22 at *
            obtain ⟨hL, hK, hH, hrgn, hBn2⟩ := HX.out
            clear HX
            replace b0 : x68y22.cell? ⟨w.heap.size + 1, 0, none⟩ = some (.int .i64 c1) := cell_of hH rfl
            replace b1_ : x68y22.cell? ⟨w.heap.size + 1, 1, none⟩ = some (.int .i64 c2) := cell_of hH rfl
            replace bf0 : x68y22.frozen? ⟨w.heap.size + 1, 0, none⟩ = false := frozen_of hH
            replace bf1 : x68y22.frozen? ⟨w.heap.size + 1, 1, none⟩ = false := frozen_of hH
            refine wpAnyH_ready (rs := [12]) (by kernel_rfl) (by simp) ?_
            refine coH 12 (oi := ?_) ?_ ?_ (fun K hK' => ?_) ?_; rotate_left; (simp only [gA, gB, gC]; exact rfl); rfl
            ·
             go_wp2_with (fail)
             refine hK'.out _ _ hK (fun hHeld => ?_)
             clear hK' K hHeld
             try simp only [Act.put, pB, pC, pD]
             refine tkH hK 15 (oi := ?_) (v := ?_) ?_ ?_ ?_ ?_ ?_ ?_ ?_ ?_; rotate_left 2; (simp only [gA, gB, gC]; exact rfl); kernel_rfl; kernel_rfl; kernel_rfl; exact fun _ _ _ h => h; rfl; (intro w' hSw; go_simp; with_reducible rfl); simp only [Act.put, pB, pC, pD]
             refine tkH hK 21 (oi := ?_) (v := ?_) ?_ ?_ ?_ ?_ ?_ ?_ ?_ ?_; rotate_left 2; (simp only [gA, gB, gC]; exact rfl); kernel_rfl; kernel_rfl; kernel_rfl; exact fun _ _ _ h => h; rfl; (intro w' hSw; go_simp; with_reducible rfl); simp only [Act.put, pB, pC, pD]
             refine wpAnyH_ready (rs := [23]) (by kernel_rfl) (by simp) ?_
             refine coH 23 (oi := ?_) ?_ ?_ (fun K hK' => ?_) ?_; rotate_left; (simp only [gA, gB, gC]; exact rfl); rfl
             ·
              have HX := Lib.hid (set2_all (b := w.heap.size + 1) (k1 := wr.heap.size) (k2 := w.heap.size) (.int .i64 (max c1 p.1)) (.int .i64 (max c2 p.2)) hH hK hL hrgn hBn2 (by omega) (by omega) (by omega) (by omega) (by omega))
              clear hrgn hBn2
              go_wp2_with (fail)
              refine hK'.out _ _ HX.out.2.1 (fun hHeld => ?_)
              clear hK' K hHeld hL hH hK b0 b1_ bf0 bf1
              try simp only [Act.put, pB, pC, pD]
              generalize ((x68y22.setCell ⟨w.heap.size + 1, 0, none⟩ (.int .i64 (max c1 p.1))).setCell ⟨w.heap.size + 1, 1, none⟩ (.int .i64 (max c2 p.2))) = x72y23 at *
              obtain ⟨hH, hK, hL, hrgn, hBn2⟩ := HX.out
              clear HX
              refine wpAnyH_done (by kernel_rfl) ?_ _
              have HL7 := Lib.hid hL
              have HH7 := Lib.hid hH
              have HRF := Lib.hid hrgn
              have HBN := Lib.hid hBn2
              clear hL hH hK hrgn hBn2
              go_wp2_with (fail)
              go_roundw
              case rel => exact ⟨true, _, _, _, _, _, _, rfl, HL7.out, HH7.out, HRF.out, HBD2.out, HBN.out⟩
              case measure => (have hq := HRF.out; rw [hq.left_eq, HRG1.out.left_eq]; exact hmeas)
             exact AllReadyH.nil
            exact AllReadyH.nil
           exact AllReadyH.nil
          refine coH 12 (oi := ?_) ?_ ?_ (fun K hK' => ?_) ?_; rotate_left; (simp only [gA, gB, gC]; exact rfl); rfl
          ·
           go_wp2_with (fail)
           refine hK'.out _ _ hK (fun hHeld => ?_)
           clear hK' K hHeld
           try simp only [Act.put, pB, pC, pD]
           refine tkH hK 15 (oi := ?_) (v := ?_) ?_ ?_ ?_ ?_ ?_ ?_ ?_ ?_; rotate_left 2; (simp only [gA, gB, gC]; exact rfl); kernel_rfl; kernel_rfl; kernel_rfl; exact fun _ _ _ h => h; rfl; (intro w' hSw; go_simp; with_reducible rfl); simp only [Act.put, pB, pC, pD]
           refine tkH hK 21 (oi := ?_) (v := ?_) ?_ ?_ ?_ ?_ ?_ ?_ ?_ ?_; rotate_left 2; (simp only [gA, gB, gC]; exact rfl); kernel_rfl; kernel_rfl; kernel_rfl; exact fun _ _ _ h => h; rfl; (intro w' hSw; go_simp; with_reducible rfl); simp only [Act.put, pB, pC, pD]
           refine wpAnyH_ready (rs := [1]) (by kernel_rfl) (by simp) ?_
           refine coH 1 (oi := ?_) ?_ ?_ (fun K hK' => ?_) ?_; rotate_left; (simp only [gA, gB, gC]; exact rfl); rfl
           ·
            go_wp2_with (fail)
            refine hK'.out _ _ hK (fun hHeld => ?_)
            clear hK' K hHeld
            try simp only [Act.put, pB, pC, pD]
            refine tkH hK 4 (oi := ?_) (v := ?_) ?_ ?_ ?_ ?_ ?_ ?_ ?_ ?_; rotate_left 2; (simp only [gA, gB, gC]; exact rfl); kernel_rfl; kernel_rfl; kernel_rfl; exact fun _ _ _ h => h; rfl; (intro w' hSw; go_simp; with_reducible rfl); simp only [Act.put, pB, pC, pD]
            refine tkH hK 10 (oi := ?_) (v := ?_) ?_ ?_ ?_ ?_ ?_ ?_ ?_ ?_; rotate_left 2; (simp only [gA, gB, gC]; exact rfl); kernel_rfl; kernel_rfl; kernel_rfl; exact fun _ _ _ h => h; rfl; (intro w' hSw; go_simp; with_reducible rfl); simp only [Act.put, pB, pC, pD]
            refine wpAnyH_ready (rs := [22]) (by kernel_rfl) (by simp) ?_
            refine coH 22 (oi := ?_) ?_ ?_ (fun K hK' => ?_) ?_; rotate_left; (simp only [gA, gB, gC]; exact rfl); rfl
            ·
             have HX := Lib.hid (set2_all (b := w.heap.size) (k1 := wr.heap.size) (k2 := w.heap.size + 1) (.int .i64 (min a1 p.1)) (.int .i64 (min a2 p.2)) hL hK hH hrgn hBn2 (by omega) (by omega) (by omega) (by omega) (by omega))
             clear hrgn hBn2
             go_wp2_with (fail)
             refine hK'.out _ _ HX.out.2.1 (fun hHeld => ?_)
             clear hK' K hHeld hL hH hK a0 a1_ af0 af1
             try simp only [Act.put, pB, pC, pD]
             generalize ((d0.setCell ⟨w.heap.size, 0, none⟩ (.int .i64 (min a1 p.1))).setCell ⟨w.heap.size, 1, none⟩ (.int .i64 (min a2 p.2))) = x74y22 at *
             obtain ⟨hL, hK, hH, hrgn, hBn2⟩ := HX.out
             clear HX
             replace b0 : x74y22.cell? ⟨w.heap.size + 1, 0, none⟩ = some (.int .i64 c1) := cell_of hH rfl
             replace b1_ : x74y22.cell? ⟨w.heap.size + 1, 1, none⟩ = some (.int .i64 c2) := cell_of hH rfl
             replace bf0 : x74y22.frozen? ⟨w.heap.size + 1, 0, none⟩ = false := frozen_of hH
             replace bf1 : x74y22.frozen? ⟨w.heap.size + 1, 1, none⟩ = false := frozen_of hH
             refine wpAnyH_ready (rs := [23]) (by kernel_rfl) (by simp) ?_
             refine coH 23 (oi := ?_) ?_ ?_ (fun K hK' => ?_) ?_; rotate_left; (simp only [gA, gB, gC]; exact rfl); rfl
             ·
              have HX := Lib.hid (set2_all (b := w.heap.size + 1) (k1 := wr.heap.size) (k2 := w.heap.size) (.int .i64 (max c1 p.1)) (.int .i64 (max c2 p.2)) hH hK hL hrgn hBn2 (by omega) (by omega) (by omega) (by omega) (by omega))
              clear hrgn hBn2
              go_wp2_with (fail)
              refine hK'.out _ _ HX.out.2.1 (fun hHeld => ?_)
              clear hK' K hHeld hL hH hK b0 b1_ bf0 bf1
              try simp only [Act.put, pB, pC, pD]
              generalize ((x74y22.setCell ⟨w.heap.size + 1, 0, none⟩ (.int .i64 (max c1 p.1))).setCell ⟨w.heap.size + 1, 1, none⟩ (.int .i64 (max c2 p.2))) = x75y23 at *
              obtain ⟨hH, hK, hL, hrgn, hBn2⟩ := HX.out
              clear HX
              refine wpAnyH_done (by kernel_rfl) ?_ _
              have HL7 := Lib.hid hL
              have HH7 := Lib.hid hH
              have HRF := Lib.hid hrgn
              have HBN := Lib.hid hBn2
              clear hL hH hK hrgn hBn2
              go_wp2_with (fail)
              go_roundw
              case rel => exact ⟨true, _, _, _, _, _, _, rfl, HL7.out, HH7.out, HRF.out, HBD2.out, HBN.out⟩
              case measure => (have hq := HRF.out; rw [hq.left_eq, HRG1.out.left_eq]; exact hmeas)
             exact AllReadyH.nil
            exact AllReadyH.nil
           exact AllReadyH.nil
          exact AllReadyH.nil
         exact AllReadyH.nil
        refine coH 12 (oi := ?_) ?_ ?_ (fun K hK' => ?_) ?_; rotate_left; (simp only [gA, gB, gC]; exact rfl); rfl
        ·
         go_wp2_with (fail)
         refine hK'.out _ _ hK (fun hHeld => ?_)
         clear hK' K hHeld
         try simp only [Act.put, pB, pC, pD]
         refine tkH hK 15 (oi := ?_) (v := ?_) ?_ ?_ ?_ ?_ ?_ ?_ ?_ ?_; rotate_left 2; (simp only [gA, gB, gC]; exact rfl); kernel_rfl; kernel_rfl; kernel_rfl; exact fun _ _ _ h => h; rfl; (intro w' hSw; go_simp; with_reducible rfl); simp only [Act.put, pB, pC, pD]
         refine wpAnyH_ready (rs := [1, 6, 17]) (by kernel_rfl) (by simp) ?_
         refine coH 1 (oi := ?_) ?_ ?_ (fun K hK' => ?_) ?_; rotate_left; (simp only [gA, gB, gC]; exact rfl); rfl
         ·
          go_wp2_with (fail)
          refine hK'.out _ _ hK (fun hHeld => ?_)
          clear hK' K hHeld
          try simp only [Act.put, pB, pC, pD]
          refine tkH hK 4 (oi := ?_) (v := ?_) ?_ ?_ ?_ ?_ ?_ ?_ ?_ ?_; rotate_left 2; (simp only [gA, gB, gC]; exact rfl); kernel_rfl; kernel_rfl; kernel_rfl; exact fun _ _ _ h => h; rfl; (intro w' hSw; go_simp; with_reducible rfl); simp only [Act.put, pB, pC, pD]
          refine wpAnyH_ready (rs := [6, 17]) (by kernel_rfl) (by simp) ?_
          refine coH 6 (oi := ?_) ?_ ?_ (fun K hK' => ?_) ?_; rotate_left; (simp only [gA, gB, gC]; exact rfl); rfl
          ·
           go_wp2_with (fail)
           refine hK'.out _ _ hK (fun hHeld => ?_)
           clear hK' K hHeld
           try simp only [Act.put, pB, pC, pD]
           refine tkH hK 9 (oi := ?_) (v := ?_) ?_ ?_ ?_ ?_ ?_ ?_ ?_ ?_; rotate_left 2; (simp only [gA, gB, gC]; exact rfl); kernel_rfl; kernel_rfl; kernel_rfl; exact fun _ _ _ h => h; rfl; (intro w' hSw; go_simp; with_reducible rfl); simp only [Act.put, pB, pC, pD]
           refine tkH hK 10 (oi := ?_) (v := ?_) ?_ ?_ ?_ ?_ ?_ ?_ ?_ ?_; rotate_left 2; (simp only [gA, gB, gC]; exact rfl); kernel_rfl; kernel_rfl; kernel_rfl; exact fun _ _ _ h => h; rfl; (intro w' hSw; go_simp; with_reducible rfl); simp only [Act.put, pB, pC, pD]
           refine wpAnyH_ready (rs := [17, 22]) (by kernel_rfl) (by simp) ?_
           refine coH 17 (oi := ?_) ?_ ?_ (fun K hK' => ?_) ?_; rotate_left; (simp only [gA, gB, gC]; exact rfl); rfl
           ·
            go_wp2_with (fail)
            refine hK'.out _ _ hK (fun hHeld => ?_)
            clear hK' K hHeld
            try simp only [Act.put, pB, pC, pD]
            refine tkH hK 20 (oi := ?_) (v := ?_) ?_ ?_ ?_ ?_ ?_ ?_ ?_ ?_; rotate_left 2; (simp only [gA, gB, gC]; exact rfl); kernel_rfl; kernel_rfl; kernel_rfl; exact fun _ _ _ h => h; rfl; (intro w' hSw; go_simp; with_reducible rfl); simp only [Act.put, pB, pC, pD]
            refine tkH hK 21 (oi := ?_) (v := ?_) ?_ ?_ ?_ ?_ ?_ ?_ ?_ ?_; rotate_left 2; (simp only [gA, gB, gC]; exact rfl); kernel_rfl; kernel_rfl; kernel_rfl; exact fun _ _ _ h => h; rfl; (intro w' hSw; go_simp; with_reducible rfl); simp only [Act.put, pB, pC, pD]
            refine wpAnyH_ready (rs := [22]) (by kernel_rfl) (by simp) ?_
            refine coH 22 (oi := ?_) ?_ ?_ (fun K hK' => ?_) ?_; rotate_left; (simp only [gA, gB, gC]; exact rfl); rfl
            ·
             have HX := Lib.hid (set2_all (b := w.heap.size) (k1 := wr.heap.size) (k2 := w.heap.size + 1) (.int .i64 (min a1 p.1)) (.int .i64 (min a2 p.2)) hL hK hH hrgn hBn2 (by omega) (by omega) (by omega) (by omega) (by omega))
             clear hrgn hBn2
             go_wp2_with (fail)
             refine hK'.out _ _ HX.out.2.1 (fun hHeld => ?_)
             clear hK' K hHeld hL hH hK a0 a1_ af0 af1
             try simp only [Act.put, pB, pC, pD]
             generalize ((d0.setCell ⟨w.heap.size, 0, none⟩ (.int .i64 (min a1 p.1))).setCell ⟨w.heap.size, 1, none⟩ (.int .i64 (min a2 p.2))) = x79y22 at *
             obtain ⟨hL, hK, hH, hrgn, hBn2⟩ := HX.out
             clear HX
             replace b0 : x79y22.cell? ⟨w.heap.size + 1, 0, none⟩ = some (.int .i64 c1) := cell_of hH rfl
             replace b1_ : x79y22.cell? ⟨w.heap.size + 1, 1, none⟩ = some (.int .i64 c2) := cell_of hH rfl
             replace bf0 : x79y22.frozen? ⟨w.heap.size + 1, 0, none⟩ = false := frozen_of hH
             replace bf1 : x79y22.frozen? ⟨w.heap.size + 1, 1, none⟩ = false := frozen_of hH
             refine wpAnyH_ready (rs := [23]) (by kernel_rfl) (by simp) ?_
             refine coH 23 (oi := ?_) ?_ ?_ (fun K hK' => ?_) ?_; rotate_left; (simp only [gA, gB, gC]; exact rfl); rfl
             ·
              have HX := Lib.hid (set2_all (b := w.heap.size + 1) (k1 := wr.heap.size) (k2 := w.heap.size) (.int .i64 (max c1 p.1)) (.int .i64 (max c2 p.2)) hH hK hL hrgn hBn2 (by omega) (by omega) (by omega) (by omega) (by omega))
              clear hrgn hBn2
              go_wp2_with (fail)
              refine hK'.out _ _ HX.out.2.1 (fun hHeld => ?_)
              clear hK' K hHeld hL hH hK b0 b1_ bf0 bf1
              try simp only [Act.put, pB, pC, pD]
              generalize ((x79y22.setCell ⟨w.heap.size + 1, 0, none⟩ (.int .i64 (max c1 p.1))).setCell ⟨w.heap.size + 1, 1, none⟩ (.int .i64 (max c2 p.2))) = x80y23 at *
              obtain ⟨hH, hK, hL, hrgn, hBn2⟩ := HX.out
              clear HX
              refine wpAnyH_done (by kernel_rfl) ?_ _
              have HL7 := Lib.hid hL
              have HH7 := Lib.hid hH
              have HRF := Lib.hid hrgn
              have HBN := Lib.hid hBn2
              clear hL hH hK hrgn hBn2
              go_wp2_with (fail)
              go_roundw
              case rel => exact ⟨true, _, _, _, _, _, _, rfl, HL7.out, HH7.out, HRF.out, HBD2.out, HBN.out⟩
              case measure => (have hq := HRF.out; rw [hq.left_eq, HRG1.out.left_eq]; exact hmeas)
             exact AllReadyH.nil
            exact AllReadyH.nil
           refine coH 22 (oi := ?_) ?_ ?_ (fun K hK' => ?_) ?_; rotate_left; (simp only [gA, gB, gC]; exact rfl); rfl
           ·
            have HX := Lib.hid (set2_all (b := w.heap.size) (k1 := wr.heap.size) (k2 := w.heap.size + 1) (.int .i64 (min a1 p.1)) (.int .i64 (min a2 p.2)) hL hK hH hrgn hBn2 (by omega) (by omega) (by omega) (by omega) (by omega))
            clear hrgn hBn2
            go_wp2_with (fail)
            refine hK'.out _ _ HX.out.2.1 (fun hHeld => ?_)
            clear hK' K hHeld hL hH hK a0 a1_ af0 af1
            try simp only [Act.put, pB, pC, pD]
            generalize ((d0.setCell ⟨w.heap.size, 0, none⟩ (.int .i64 (min a1 p.1))).setCell ⟨w.heap.size, 1, none⟩ (.int .i64 (min a2 p.2))) = x78y22 at *
            obtain ⟨hL, hK, hH, hrgn, hBn2⟩ := HX.out
            clear HX
            replace b0 : x78y22.cell? ⟨w.heap.size + 1, 0, none⟩ = some (.int .i64 c1) := cell_of hH rfl
            replace b1_ : x78y22.cell? ⟨w.heap.size + 1, 1, none⟩ = some (.int .i64 c2) := cell_of hH rfl
            replace bf0 : x78y22.frozen? ⟨w.heap.size + 1, 0, none⟩ = false := frozen_of hH
            replace bf1 : x78y22.frozen? ⟨w.heap.size + 1, 1, none⟩ = false := frozen_of hH
            refine wpAnyH_ready (rs := [17]) (by kernel_rfl) (by simp) ?_
            refine coH 17 (oi := ?_) ?_ ?_ (fun K hK' => ?_) ?_; rotate_left; (simp only [gA, gB, gC]; exact rfl); rfl
            ·
             go_wp2_with (fail)
             refine hK'.out _ _ hK (fun hHeld => ?_)
             clear hK' K hHeld
             try simp only [Act.put, pB, pC, pD]
             refine tkH hK 20 (oi := ?_) (v := ?_) ?_ ?_ ?_ ?_ ?_ ?_ ?_ ?_; rotate_left 2; (simp only [gA, gB, gC]; exact rfl); kernel_rfl; kernel_rfl; kernel_rfl; exact fun _ _ _ h => h; rfl; (intro w' hSw; go_simp; with_reducible rfl); simp only [Act.put, pB, pC, pD]
             refine tkH hK 21 (oi := ?_) (v := ?_) ?_ ?_ ?_ ?_ ?_ ?_ ?_ ?_; rotate_left 2; (simp only [gA, gB, gC]; exact rfl); kernel_rfl; kernel_rfl; kernel_rfl; exact fun _ _ _ h => h; rfl; (intro w' hSw; go_simp; with_reducible rfl); simp only [Act.put, pB, pC, pD]
             refine wpAnyH_ready (rs := [23]) (by kernel_rfl) (by simp) ?_
             refine coH 23 (oi := ?_) ?_ ?_ (fun K hK' => ?_) ?_; rotate_left; (simp only [gA, gB, gC]; exact rfl); rfl
             ·
              have HX := Lib.hid (set2_all (b := w.heap.size + 1) (k1 := wr.heap.size) (k2 := w.heap.size) (.int .i64 (max c1 p.1)) (.int .i64 (max c2 p.2)) hH hK hL hrgn hBn2 (by omega) (by omega) (by omega) (by omega) (by omega))
              clear hrgn hBn2
              go_wp2_with (fail)
              refine hK'.out _ _ HX.out.2.1 (fun hHeld => ?_)
              clear hK' K hHeld hL hH hK b0 b1_ bf0 bf1
              try simp only [Act.put, pB, pC, pD]
              generalize ((x78y22.setCell ⟨w.heap.size + 1, 0, none⟩ (.int .i64 (max c1 p.1))).setCell ⟨w.heap.size + 1, 1, none⟩ (.int .i64 (max c2 p.2))) = x82y23 at *
              obtain ⟨hH, hK, hL, hrgn, hBn2⟩ := HX.out
              clear HX
              refine wpAnyH_done (by kernel_rfl) ?_ _
              have HL7 := Lib.hid hL
              have HH7 := Lib.hid hH
              have HRF := Lib.hid hrgn
              have HBN := Lib.hid hBn2
              clear hL hH hK hrgn hBn2
              go_wp2_with (fail)
              go_roundw
              case rel => exact ⟨true, _, _, _, _, _, _, rfl, HL7.out, HH7.out, HRF.out, HBD2.out, HBN.out⟩
              case measure => (have hq := HRF.out; rw [hq.left_eq, HRG1.out.left_eq]; exact hmeas)
             exact AllReadyH.nil
            exact AllReadyH.nil
           exact AllReadyH.nil
          refine coH 17 (oi := ?_) ?_ ?_ (fun K hK' => ?_) ?_; rotate_left; (simp only [gA, gB, gC]; exact rfl); rfl
          ·
           go_wp2_with (fail)
           refine hK'.out _ _ hK (fun hHeld => ?_)
           clear hK' K hHeld
           try simp only [Act.put, pB, pC, pD]
           refine tkH hK 20 (oi := ?_) (v := ?_) ?_ ?_ ?_ ?_ ?_ ?_ ?_ ?_; rotate_left 2; (simp only [gA, gB, gC]; exact rfl); kernel_rfl; kernel_rfl; kernel_rfl; exact fun _ _ _ h => h; rfl; (intro w' hSw; go_simp; with_reducible rfl); simp only [Act.put, pB, pC, pD]
           refine tkH hK 21 (oi := ?_) (v := ?_) ?_ ?_ ?_ ?_ ?_ ?_ ?_ ?_; rotate_left 2; (simp only [gA, gB, gC]; exact rfl); kernel_rfl; kernel_rfl; kernel_rfl; exact fun _ _ _ h => h; rfl; (intro w' hSw; go_simp; with_reducible rfl); simp only [Act.put, pB, pC, pD]
           refine wpAnyH_ready (rs := [6]) (by kernel_rfl) (by simp) ?_
           refine coH 6 (oi := ?_) ?_ ?_ (fun K hK' => ?_) ?_; rotate_left; (simp only [gA, gB, gC]; exact rfl); rfl
           ·
            go_wp2_with (fail)
            refine hK'.out _ _ hK (fun hHeld => ?_)
            clear hK' K hHeld
            try simp only [Act.put, pB, pC, pD]
            refine tkH hK 9 (oi := ?_) (v := ?_) ?_ ?_ ?_ ?_ ?_ ?_ ?_ ?_; rotate_left 2; (simp only [gA, gB, gC]; exact rfl); kernel_rfl; kernel_rfl; kernel_rfl; exact fun _ _ _ h => h; rfl; (intro w' hSw; go_simp; with_reducible rfl); simp only [Act.put, pB, pC, pD]
            refine tkH hK 10 (oi := ?_) (v := ?_) ?_ ?_ ?_ ?_ ?_ ?_ ?_ ?_; rotate_left 2; (simp only [gA, gB, gC]; exact rfl); kernel_rfl; kernel_rfl; kernel_rfl; exact fun _ _ _ h => h; rfl; (intro w' hSw; go_simp; with_reducible rfl); simp only [Act.put, pB, pC, pD]
            refine wpAnyH_ready (rs := [22]) (by kernel_rfl) (by simp) ?_
            refine coH 22 (oi := ?_) ?_ ?_ (fun K hK' => ?_) ?_; rotate_left; (simp only [gA, gB, gC]; exact rfl); rfl
            ·
             have HX := Lib.hid (set2_all (b := w.heap.size) (k1 := wr.heap.size) (k2 := w.heap.size + 1) (.int .i64 (min a1 p.1)) (.int .i64 (min a2 p.2)) hL hK hH hrgn hBn2 (by omega) (by omega) (by omega) (by omega) (by omega))
             clear hrgn hBn2
             go_wp2_with (fail)
             refine hK'.out _ _ HX.out.2.1 (fun hHeld => ?_)
             clear hK' K hHeld hL hH hK a0 a1_ af0 af1
             try simp only [Act.put, pB, pC, pD]
             generalize ((d0.setCell ⟨w.heap.size, 0, none⟩ (.int .i64 (min a1 p.1))).setCell ⟨w.heap.size, 1, none⟩ (.int .i64 (min a2 p.2))) = x84y22 at *
             obtain ⟨hL, hK, hH, hrgn, hBn2⟩ := HX.out
             clear HX
             replace b0 : x84y22.cell? ⟨w.heap.size + 1, 0, none⟩ = some (.int .i64 c1) := cell_of hH rfl
             replace b1_ : x84y22.cell? ⟨w.heap.size + 1, 1, none⟩ = some (.int .i64 c2) := cell_of hH rfl
             replace bf0 : x84y22.frozen? ⟨w.heap.size + 1, 0, none⟩ = false := frozen_of hH
             replace bf1 : x84y22.frozen? ⟨w.heap.size + 1, 1, none⟩ = false := frozen_of hH
             refine wpAnyH_ready (rs := [23]) (by kernel_rfl) (by simp) ?_
             refine coH 23 (oi := ?_) ?_ ?_ (fun K hK' => ?_) ?_; rotate_left; (simp only [gA, gB, gC]; exact rfl); rfl
             ·
              have HX := Lib.hid (set2_all (b := w.heap.size + 1) (k1 := wr.heap.size) (k2 := w.heap.size) (.int .i64 (max c1 p.1)) (.int .i64 (max c2 p.2)) hH hK hL hrgn hBn2 (by omega) (by omega) (by omega) (by omega) (by omega))
              clear hrgn hBn2
              go_wp2_with (fail)
              refine hK'.out _ _ HX.out.2.1 (fun hHeld => ?_)
              clear hK' K hHeld hL hH hK b0 b1_ bf0 bf1
              try simp only [Act.put, pB, pC, pD]
              generalize ((x84y22.setCell ⟨w.heap.size + 1, 0, none⟩ (.int .i64 (max c1 p.1))).setCell ⟨w.heap.size + 1, 1, none⟩ (.int .i64 (max c2 p.2))) = x85y23 at *
              obtain ⟨hH, hK, hL, hrgn, hBn2⟩ := HX.out
              clear HX
              refine wpAnyH_done (by kernel_rfl) ?_ _
              have HL7 := Lib.hid hL
              have HH7 := Lib.hid hH
              have HRF := Lib.hid hrgn
              have HBN := Lib.hid hBn2
              clear hL hH hK hrgn hBn2
              go_wp2_with (fail)
              go_roundw
              case rel => exact ⟨true, _, _, _, _, _, _, rfl, HL7.out, HH7.out, HRF.out, HBD2.out, HBN.out⟩
              case measure => (have hq := HRF.out; rw [hq.left_eq, HRG1.out.left_eq]; exact hmeas)
             exact AllReadyH.nil
            exact AllReadyH.nil
           exact AllReadyH.nil
          exact AllReadyH.nil
         refine coH 6 (oi := ?_) ?_ ?_ (fun K hK' => ?_) ?_; rotate_left; (simp only [gA, gB, gC]; exact rfl); rfl
         ·
          go_wp2_with (fail)
          refine hK'.out _ _ hK (fun hHeld => ?_)
          clear hK' K hHeld
          try simp only [Act.put, pB, pC, pD]
          refine tkH hK 9 (oi := ?_) (v := ?_) ?_ ?_ ?_ ?_ ?_ ?_ ?_ ?_; rotate_left 2; (simp only [gA, gB, gC]; exact rfl); kernel_rfl; kernel_rfl; kernel_rfl; exact fun _ _ _ h => h; rfl; (intro w' hSw; go_simp; with_reducible rfl); simp only [Act.put, pB, pC, pD]
          refine wpAnyH_ready (rs := [1, 17]) (by kernel_rfl) (by simp) ?_
          refine coH 1 (oi := ?_) ?_ ?_ (fun K hK' => ?_) ?_; rotate_left; (simp only [gA, gB, gC]; exact rfl); rfl
          ·
           go_wp2_with (fail)
           refine hK'.out _ _ hK (fun hHeld => ?_)
           clear hK' K hHeld
           try simp only [Act.put, pB, pC, pD]
           refine tkH hK 4 (oi := ?_) (v := ?_) ?_ ?_ ?_ ?_ ?_ ?_ ?_ ?_; rotate_left 2; (simp only [gA, gB, gC]; exact rfl); kernel_rfl; kernel_rfl; kernel_rfl; exact fun _ _ _ h => h; rfl; (intro w' hSw; go_simp; with_reducible rfl); simp only [Act.put, pB, pC, pD]
           refine tkH hK 10 (oi := ?_) (v := ?_) ?_ ?_ ?_ ?_ ?_ ?_ ?_ ?_; rotate_left 2; (simp only [gA, gB, gC]; exact rfl); kernel_rfl; kernel_rfl; kernel_rfl; exact fun _ _ _ h => h; rfl; (intro w' hSw; go_simp; with_reducible rfl); simp only [Act.put, pB, pC, pD]
           refine wpAnyH_ready (rs := [17, 22]) (by kernel_rfl) (by simp) ?_
           refine coH 17 (oi := ?_) ?_ ?_ (fun K hK' => ?_) ?_; rotate_left; (simp only [gA, gB, gC]; exact rfl); rfl
           ·
            go_wp2_with (fail)
            refine hK'.out _ _ hK (fun hHeld => ?_)
            clear hK' K hHeld
            try simp only [Act.put, pB, pC, pD]
            refine tkH hK 20 (oi := ?_) (v := ?_) ?_ ?_ ?_ ?_ ?_ ?_ ?_ ?_; rotate_left 2; (simp only [gA, gB, gC]; exact rfl); kernel_rfl; kernel_rfl; kernel_rfl; exact fun _ _ _ h => h; rfl; (intro w' hSw; go_simp; with_reducible rfl); simp only [Act.put, pB, pC, pD]
            refine tkH hK 21 (oi := ?_) (v := ?_) ?_ ?_ ?_ ?_ ?_ ?_ ?_ ?_; rotate_left 2; (simp only [gA, gB, gC]; exact rfl); kernel_rfl; kernel_rfl; kernel_rfl; exact fun _ _ _ h => h; rfl; (intro w' hSw; go_simp; with_reducible rfl); simp only [Act.put, pB, pC, pD]
            refine wpAnyH_ready (rs := [22]) (by kernel_rfl) (by simp) ?_
            refine coH 22 (oi := ?_) ?_ ?_ (fun K hK' => ?_) ?_; rotate_left; (simp only [gA, gB, gC]; exact rfl); rfl
            ·
             have HX := Lib.hid (set2_all (b := w.heap.size) (k1 := wr.heap.size) (k2 := w.heap.size + 1) (.int .i64 (min a1 p.1)) (.int .i64 (min a2 p.2)) hL hK hH hrgn hBn2 (by omega) (by omega) (by omega) (by omega) (by omega))
             clear hrgn hBn2
             go_wp2_with (fail)
             refine hK'.out _ _ HX.out.2.1 (fun hHeld => ?_)
             clear hK' K hHeld hL hH hK a0 a1_ af0 af1
             try simp only [Act.put, pB, pC, pD]
             generalize ((d0.setCell ⟨w.heap.size, 0, none⟩ (.int .i64 (min a1 p.1))).setCell ⟨w.heap.size, 1, none⟩ (.int .i64 (min a2 p.2))) = x88y22 at *
             obtain ⟨hL, hK, hH, hrgn, hBn2⟩ := HX.out
             clear HX
             replace b0 : x88y22.cell? ⟨w.heap.size + 1, 0, none⟩ = some (.int .i64 c1) := cell_of hH rfl
             replace b1_ : x88y22.cell? ⟨w.heap.size + 1, 1, none⟩ = some (.int .i64 c2) := cell_of hH rfl
             replace bf0 : x88y22.frozen? ⟨w.heap.size + 1, 0, none⟩ = false := frozen_of hH
             replace bf1 : x88y22.frozen? ⟨w.heap.size + 1, 1, none⟩ = false := frozen_of hH
             refine wpAnyH_ready (rs := [23]) (by kernel_rfl) (by simp) ?_
             refine coH 23 (oi := ?_) ?_ ?_ (fun K hK' => ?_) ?_; rotate_left; (simp only [gA, gB, gC]; exact rfl); rfl
             ·
              have HX := Lib.hid (set2_all (b := w.heap.size + 1) (k1 := wr.heap.size) (k2 := w.heap.size) (.int .i64 (max c1 p.1)) (.int .i64 (max c2 p.2)) hH hK hL hrgn hBn2 (by omega) (by omega) (by omega) (by omega) (by omega))
              clear hrgn hBn2
              go_wp2_with (fail)
              refine hK'.out _ _ HX.out.2.1 (fun hHeld => ?_)
              clear hK' K hHeld hL hH hK b0 b1_ bf0 bf1
              try simp only [Act.put, pB, pC, pD]
              generalize ((x88y22.setCell ⟨w.heap.size + 1, 0, none⟩ (.int .i64 (max c1 p.1))).setCell ⟨w.heap.size + 1, 1, none⟩ (.int .i64 (max c2 p.2))) = x89y23 at *
              obtain ⟨hH, hK, hL, hrgn, hBn2⟩ := HX.out
              clear HX
              refine wpAnyH_done (by kernel_rfl) ?_ _
              have HL7 := Lib.hid hL
              have HH7 := Lib.hid hH
              have HRF := Lib.hid hrgn
              have HBN := Lib.hid hBn2
              clear hL hH hK hrgn hBn2
              go_wp2_with (fail)
              go_roundw
              case rel => exact ⟨true, _, _, _, _, _, _, rfl, HL7.out, HH7.out, HRF.out, HBD2.out, HBN.out⟩
              case measure => (have hq := HRF.out; rw [hq.left_eq, HRG1.out.left_eq]; exact hmeas)
             exact AllReadyH.nil
            exact AllReadyH.nil
           refine coH 22 (oi := ?_) ?_ ?_ (fun K hK' => ?_) ?_; rotate_left; (simp only [gA, gB, gC]; exact rfl); rfl
           ·
            have HX := Lib.hid (set2_all (b := w.heap.size) (k1 := wr.heap.size) (k2 := w.heap.size + 1) (.int .i64 (min a1 p.1)) (.int .i64 (min a2 p.2)) hL hK hH hrgn hBn2 (by omega) (by omega) (by omega) (by omega) (by omega))
            clear hrgn hBn2
            go_wp2_with (fail)
            refine hK'.out _ _ HX.out.2.1 (fun hHeld => ?_)
            clear hK' K hHeld hL hH hK a0 a1_ af0 af1
            try simp only [Act.put, pB, pC, pD]
            generalize ((d0.setCell ⟨w.heap.size, 0, none⟩ (.int .i64 (min a1 p.1))).setCell ⟨w.heap.size, 1, none⟩ (.int .i64 (min a2 p.2))) = x87y22 at *
            obtain ⟨hL, hK, hH, hrgn, hBn2⟩ := HX.out
            clear HX
            replace b0 : x87y22.cell? ⟨w.heap.size + 1, 0, none⟩ = some (.int .i64 c1) := cell_of hH rfl
            replace b1_ : x87y22.cell? ⟨w.heap.size + 1, 1, none⟩ = some (.int .i64 c2) := cell_of hH rfl
            replace bf0 : x87y22.frozen? ⟨w.heap.size + 1, 0, none⟩ = false := frozen_of hH
            replace bf1 : x87y22.frozen? ⟨w.heap.size + 1, 1, none⟩ = false := frozen_of hH
            refine wpAnyH_ready (rs := [17]) (by kernel_rfl) (by simp) ?_
            refine coH 17 (oi := ?_) ?_ ?_ (fun K hK' => ?_) ?_; rotate_left; (simp only [gA, gB, gC]; exact rfl); rfl
            ·
             go_wp2_with (fail)
             refine hK'.out _ _ hK (fun hHeld => ?_)
             clear hK' K hHeld
             try simp only [Act.put, pB, pC, pD]
             refine tkH hK 20 (oi := ?_) (v := ?_) ?_ ?_ ?_ ?_ ?_ ?_ ?_ ?_; rotate_left 2; (simp only [gA, gB, gC]; exact rfl); kernel_rfl; kernel_rfl; kernel_rfl; exact fun _ _ _ h => h; rfl; (intro w' hSw; go_simp; with_reducible rfl); simp only [Act.put, pB, pC, pD]
             refine tkH hK 21 (oi := ?_) (v := ?_) ?_ ?_ ?_ ?_ ?_ ?_ ?_ ?_; rotate_left 2; (simp only [gA, gB, gC]; exact rfl); kernel_rfl; kernel_rfl; kernel_rfl; exact fun _ _ _ h => h; rfl; (intro w' hSw; go_simp; with_reducible rfl); simp only [Act.put, pB, pC, pD]
             refine wpAnyH_ready (rs := [23]) (by kernel_rfl) (by simp) ?_
             refine coH 23 (oi := ?_) ?_ ?_ (fun K hK' => ?_) ?_; rotate_left; (simp only [gA, gB, gC]; exact rfl); rfl
             ·
              have HX := Lib.hid (set2_all (b := w.heap.size + 1) (k1 := wr.heap.size) (k2 := w.heap.size) (.int .i64 (max c1 p.1)) (.int .i64 (max c2 p.2)) hH hK hL hrgn hBn2 (by omega) (by omega) (by omega) (by omega) (by omega))
              clear hrgn hBn2
              go_wp2_with (fail)
              refine hK'.out _ _ HX.out.2.1 (fun hHeld => ?_)
              clear hK' K hHeld hL hH hK b0 b1_ bf0 bf1
              try simp only [Act.put, pB, pC, pD]
              generalize ((x87y22.setCell ⟨w.heap.size + 1, 0, none⟩ (.int .i64 (max c1 p.1))).setCell ⟨w.heap.size + 1, 1, none⟩ (.int .i64 (max c2 p.2))) = x91y23 at *
              obtain ⟨hH, hK, hL, hrgn, hBn2⟩ := HX.out
              clear HX
              refine wpAnyH_done (by kernel_rfl) ?_ _
              have HL7 := Lib.hid hL
              have HH7 := Lib.hid hH
              have HRF := Lib.hid hrgn
              have HBN := Lib.hid hBn2
              clear hL hH hK hrgn hBn2
              go_wp2_with (fail)
              go_roundw
              case rel => exact ⟨true, _, _, _, _, _, _, rfl, HL7.out, HH7.out, HRF.out, HBD2.out, HBN.out⟩
              case measure => (have hq := HRF.out; rw [hq.left_eq, HRG1.out.left_eq]; exact hmeas)
             exact AllReadyH.nil
            exact AllReadyH.nil
           exact AllReadyH.nil
          refine coH 17 (oi := ?_) ?_ ?_ (fun K hK' => ?_) ?_; rotate_left; (simp only [gA, gB, gC]; exact rfl); rfl
          ·
           go_wp2_with (fail)
           refine hK'.out _ _ hK (fun hHeld => ?_)
           clear hK' K hHeld
           try simp only [Act.put, pB, pC, pD]
           refine tkH hK 20 (oi := ?_) (v := ?_) ?_ ?_ ?_ ?_ ?_ ?_ ?_ ?_; rotate_left 2; (simp only [gA, gB, gC]; exact rfl); kernel_rfl; kernel_rfl; kernel_rfl; exact fun _ _ _ h => h; rfl; (intro w' hSw; go_simp; with_reducible rfl); simp only [Act.put, pB, pC, pD]
           refine tkH hK 21 (oi := ?_) (v := ?_) ?_ ?_ ?_ ?_ ?_ ?_ ?_ ?_; rotate_left 2; (simp only [gA, gB, gC]; exact rfl); kernel_rfl; kernel_rfl; kernel_rfl; exact fun _ _ _ h => h; rfl; (intro w' hSw; go_simp; with_reducible rfl); simp only [Act.put, pB, pC, pD]
           refine wpAnyH_ready (rs := [1]) (by kernel_rfl) (by simp) ?_
           refine coH 1 (oi := ?_) ?_ ?_ (fun K hK' => ?_) ?_; rotate_left; (simp only [gA, gB, gC]; exact rfl); rfl
           ·
            go_wp2_with (fail)
            refine hK'.out _ _ hK (fun hHeld => ?_)
            clear hK' K hHeld
            try simp only [Act.put, pB, pC, pD]
            refine tkH hK 4 (oi := ?_) (v := ?_) ?_ ?_ ?_ ?_ ?_ ?_ ?_ ?_; rotate_left 2; (simp only [gA, gB, gC]; exact rfl); kernel_rfl; kernel_rfl; kernel_rfl; exact fun _ _ _ h => h; rfl; (intro w' hSw; go_simp; with_reducible rfl); simp only [Act.put, pB, pC, pD]
            refine tkH hK 10 (oi := ?_) (v := ?_) ?_ ?_ ?_ ?_ ?_ ?_ ?_ ?_; rotate_left 2; (simp only [gA, gB, gC]; exact rfl); kernel_rfl; kernel_rfl; kernel_rfl; exact fun _ _ _ h => h; rfl; (intro w' hSw; go_simp; with_reducible rfl); simp only [Act.put, pB, pC, pD]
            refine wpAnyH_ready (rs := [22]) (by kernel_rfl) (by simp) ?_
            refine coH 22 (oi := ?_) ?_ ?_ (fun K hK' => ?_) ?_; rotate_left; (simp only [gA, gB, gC]; exact rfl); rfl
            ·
             have HX := Lib.hid (set2_all (b := w.heap.size) (k1 := wr.heap.size) (k2 := w.heap.size + 1) (.int .i64 (min a1 p.1)) (.int .i64 (min a2 p.2)) hL hK hH hrgn hBn2 (by omega) (by omega) (by omega) (by omega) (by omega))
             clear hrgn hBn2
             go_wp2_with (fail)
             refine hK'.out _ _ HX.out.2.1 (fun hHeld => ?_)
             clear hK' K hHeld hL hH hK a0 a1_ af0 af1
             try simp only [Act.put, pB, pC, pD]
             generalize ((d0.setCell ⟨w.heap.size, 0, none⟩ (.int .i64 (min a1 p.1))).setCell ⟨w.heap.size, 1, none⟩ (.int .i64 (min a2 p.2))) = x93y22 at *
             obtain ⟨hL, hK, hH, hrgn, hBn2⟩ := HX.out
             clear HX
             replace b0 : x93y22.cell? ⟨w.heap.size + 1, 0, none⟩ = some (.int .i64 c1) := cell_of hH rfl
             replace b1_ : x93y22.cell? ⟨w.heap.size + 1, 1, none⟩ = some (.int .i64 c2) := cell_of hH rfl
             replace bf0 : x93y22.frozen? ⟨w.heap.size + 1, 0, none⟩ = false := frozen_of hH
             replace bf1 : x93y22.frozen? ⟨w.heap.size + 1, 1, none⟩ = false := frozen_of hH
             refine wpAnyH_ready (rs := [23]) (by kernel_rfl) (by simp) ?_
             refine coH 23 (oi := ?_) ?_ ?_ (fun K hK' => ?_) ?_; rotate_left; (simp only [gA, gB, gC]; exact rfl); rfl
             ·
              have HX := Lib.hid (set2_all (b := w.heap.size + 1) (k1 := wr.heap.size) (k2 := w.heap.size) (.int .i64 (max c1 p.1)) (.int .i64 (max c2 p.2)) hH hK hL hrgn hBn2 (by omega) (by omega) (by omega) (by omega) (by omega))
              clear hrgn hBn2
              go_wp2_with (fail)
              refine hK'.out _ _ HX.out.2.1 (fun hHeld => ?_)
              clear hK' K hHeld hL hH hK b0 b1_ bf0 bf1
              try simp only [Act.put, pB, pC, pD]
              generalize ((x93y22.setCell ⟨w.heap.size + 1, 0, none⟩ (.int .i64 (max c1 p.1))).setCell ⟨w.heap.size + 1, 1, none⟩ (.int .i64 (max c2 p.2))) = x94y23 at *
              obtain ⟨hH, hK, hL, hrgn, hBn2⟩ := HX.out
              clear HX
              refine wpAnyH_done (by kernel_rfl) ?_ _
              have HL7 := Lib.hid hL
              have HH7 := Lib.hid hH
              have HRF := Lib.hid hrgn
              have HBN := Lib.hid hBn2
              clear hL hH hK hrgn hBn2
              go_wp2_with (fail)
              go_roundw
              case rel => exact ⟨true, _, _, _, _, _, _, rfl, HL7.out, HH7.out, HRF.out, HBD2.out, HBN.out⟩
              case measure => (have hq := HRF.out; rw [hq.left_eq, HRG1.out.left_eq]; exact hmeas)
             exact AllReadyH.nil
            exact AllReadyH.nil
           exact AllReadyH.nil
          exact AllReadyH.nil
         refine coH 17 (oi := ?_) ?_ ?_ (fun K hK' => ?_) ?_; rotate_left; (simp only [gA, gB, gC]; exact rfl); rfl
         ·
          go_wp2_with (fail)
          refine hK'.out _ _ hK (fun hHeld => ?_)
          clear hK' K hHeld
          try simp only [Act.put, pB, pC, pD]
          refine tkH hK 20 (oi := ?_) (v := ?_) ?_ ?_ ?_ ?_ ?_ ?_ ?_ ?_; rotate_left 2; (simp only [gA, gB, gC]; exact rfl); kernel_rfl; kernel_rfl; kernel_rfl; exact fun _ _ _ h => h; rfl; (intro w' hSw; go_simp; with_reducible rfl); simp only [Act.put, pB, pC, pD]
          refine tkH hK 21 (oi := ?_) (v := ?_) ?_ ?_ ?_ ?_ ?_ ?_ ?_ ?_; rotate_left 2; (simp only [gA, gB, gC]; exact rfl); kernel_rfl; kernel_rfl; kernel_rfl; exact fun _ _ _ h => h; rfl; (intro w' hSw; go_simp; with_reducible rfl); simp only [Act.put, pB, pC, pD]
          refine wpAnyH_ready (rs := [1, 6]) (by kernel_rfl) (by simp) ?_
          refine coH 1 (oi := ?_) ?_ ?_ (fun K hK' => ?_) ?_; rotate_left; (simp only [gA, gB, gC]; exact rfl); rfl
          ·
           go_wp2_with (fail)
           refine hK'.out _ _ hK (fun hHeld => ?_)
           clear hK' K hHeld
           try simp only [Act.put, pB, pC, pD]
           refine tkH hK 4 (oi := ?_) (v := ?_) ?_ ?_ ?_ ?_ ?_ ?_ ?_ ?_; rotate_left 2; (simp only [gA, gB, gC]; exact rfl); kernel_rfl; kernel_rfl; kernel_rfl; exact fun _ _ _ h => h; rfl; (intro w' hSw; go_simp; with_reducible rfl); simp only [Act.put, pB, pC, pD]
           refine wpAnyH_ready (rs := [6]) (by kernel_rfl) (by simp) ?_
           refine coH 6 (oi := ?_) ?_ ?_ (fun K hK' => ?_) ?_; rotate_left; (simp only [gA, gB, gC]; exact rfl); rfl
           ·
            go_wp2_with (fail)
            refine hK'.out _ _ hK (fun hHeld => ?_)
            clear hK' K hHeld
            try simp only [Act.put, pB, pC, pD]
            refine tkH hK 9 (oi := ?_) (v := ?_) ?_ ?_ ?_ ?_ ?_ ?_ ?_ ?_; rotate_left 2; (simp only [gA, gB, gC]; exact rfl); kernel_rfl; kernel_rfl; kernel_rfl; exact fun _ _ _ h => h; rfl; (intro w' hSw; go_simp; with_reducible rfl); simp only [Act.put, pB, pC, pD]
            refine tkH hK 10 (oi := ?_) (v := ?_) ?_ ?_ ?_ ?_ ?_ ?_ ?_ ?_; rotate_left 2; (simp only [gA, gB, gC]; exact rfl); kernel_rfl; kernel_rfl; kernel_rfl; exact fun _ _ _ h => h; rfl; (intro w' hSw; go_simp; with_reducible rfl); simp only [Act.put, pB, pC, pD]
            refine wpAnyH_ready (rs := [22]) (by kernel_rfl) (by simp) ?_
            refine coH 22 (oi := ?_) ?_ ?_ (fun K hK' => ?_) ?_; rotate_left; (simp only [gA, gB, gC]; exact rfl); rfl
            ·
             have HX := Lib.hid (set2_all (b := w.heap.size) (k1 := wr.heap.size) (k2 := w.heap.size + 1) (.int .i64 (min a1 p.1)) (.int .i64 (min a2 p.2)) hL hK hH hrgn hBn2 (by omega) (by omega) (by omega) (by omega) (by omega))
             clear hrgn hBn2
             go_wp2_with (fail)
             refine hK'.out _ _ HX.out.2.1 (fun hHeld => ?_)
             clear hK' K hHeld hL hH hK a0 a1_ af0 af1
             try simp only [Act.put, pB, pC, pD]
             generalize ((d0.setCell ⟨w.heap.size, 0, none⟩ (.int .i64 (min a1 p.1))).setCell ⟨w.heap.size, 1, none⟩ (.int .i64 (min a2 p.2))) = x97y22 at *
             obtain ⟨hL, hK, hH, hrgn, hBn2⟩ := HX.out
             clear HX
             replace b0 : x97y22.cell? ⟨w.heap.size + 1, 0, none⟩ = some (.int .i64 c1) := cell_of hH rfl
             replace b1_ : x97y22.cell? ⟨w.heap.size + 1, 1, none⟩ = some (.int .i64 c2) := cell_of hH rfl
             replace bf0 : x97y22.frozen? ⟨w.heap.size + 1, 0, none⟩ = false := frozen_of hH
             replace bf1 : x97y22.frozen? ⟨w.heap.size + 1, 1, none⟩ = false := frozen_of hH
             refine wpAnyH_ready (rs := [23]) (by kernel_rfl) (by simp) ?_
             refine coH 23 (oi := ?_) ?_ ?_ (fun K hK' => ?_) ?_; rotate_left; (simp only [gA, gB, gC]; exact rfl); rfl
             ·
              have HX := Lib.hid (set2_all (b := w.heap.size + 1) (k1 := wr.heap.size) (k2 := w.heap.size) (.int .i64 (max c1 p.1)) (.int .i64 (max c2 p.2)) hH hK hL hrgn hBn2 (by omega) (by omega) (by omega) (by omega) (by omega))
              clear hrgn hBn2
              go_wp2_with (fail)
              refine hK'.out _ _ HX.out.2.1 (fun hHeld => ?_)
              clear hK' K hHeld hL hH hK b0 b1_ bf0 bf1
              try simp only [Act.put, pB, pC, pD]
              generalize ((x97y22.setCell ⟨w.heap.size + 1, 0, none⟩ (.int .i64 (max c1 p.1))).setCell ⟨w.heap.size + 1, 1, none⟩ (.int .i64 (max c2 p.2))) = x98y23 at *
              obtain ⟨hH, hK, hL, hrgn, hBn2⟩ := HX.out
              clear HX
              refine wpAnyH_done (by kernel_rfl) ?_ _
              have HL7 := Lib.hid hL
              have HH7 := Lib.hid hH
              have HRF := Lib.hid hrgn
              have HBN := Lib.hid hBn2
              clear hL hH hK hrgn hBn2
              go_wp2_with (fail)
              go_roundw
              case rel => exact ⟨true, _, _, _, _, _, _, rfl, HL7.out, HH7.out, HRF.out, HBD2.out, HBN.out⟩
              case measure => (have hq := HRF.out; rw [hq.left_eq, HRG1.out.left_eq]; exact hmeas)
             exact AllReadyH.nil
            exact AllReadyH.nil
           exact AllReadyH.nil
          refine coH 6 (oi := ?_) ?_ ?_ (fun K hK' => ?_) ?_; rotate_left; (simp only [gA, gB, gC]; exact rfl); rfl
          ·
           go_wp2_with (fail)
           refine hK'.out _ _ hK (fun hHeld => ?_)
           clear hK' K hHeld
           try simp only [Act.put, pB, pC, pD]
           refine tkH hK 9 (oi := ?_) (v := ?_) ?_ ?_ ?_ ?_ ?_ ?_ ?_ ?_; rotate_left 2; (simp only [gA, gB, gC]; exact rfl); kernel_rfl; kernel_rfl; kernel_rfl; exact fun _ _ _ h => h; rfl; (intro w' hSw; go_simp; with_reducible rfl); simp only [Act.put, pB, pC, pD]
           refine wpAnyH_ready (rs := [1]) (by kernel_rfl) (by simp) ?_
           refine coH 1 (oi := ?_) ?_ ?_ (fun K hK' => ?_) ?_; rotate_left; (simp only [gA, gB, gC]; exact rfl); rfl
           ·
            go_wp2_with (fail)
            refine hK'.out _ _ hK (fun hHeld => ?_)
            clear hK' K hHeld
            try simp only [Act.put, pB, pC, pD]
            refine tkH hK 4 (oi := ?_) (v := ?_) ?_ ?_ ?_ ?_ ?_ ?_ ?_ ?_; rotate_left 2; (simp only [gA, gB, gC]; exact rfl); kernel_rfl; kernel_rfl; kernel_rfl; exact fun _ _ _ h => h; rfl; (intro w' hSw; go_simp; with_reducible rfl); simp only [Act.put, pB, pC, pD]
            refine tkH hK 10 (oi := ?_) (v := ?_) ?_ ?_ ?_ ?_ ?_ ?_ ?_ ?_; rotate_left 2; (simp only [gA, gB, gC]; exact rfl); kernel_rfl; kernel_rfl; kernel_rfl; exact fun _ _ _ h => h; rfl; (intro w' hSw; go_simp; with_reducible rfl); simp only [Act.put, pB, pC, pD]
            refine wpAnyH_ready (rs := [22]) (by kernel_rfl) (by simp) ?_
            refine coH 22 (oi := ?_) ?_ ?_ (fun K hK' => ?_) ?_; rotate_left; (simp only [gA, gB, gC]; exact rfl); rfl
            ·
             have HX := Lib.hid (set2_all (b := w.heap.size) (k1 := wr.heap.size) (k2 := w.heap.size + 1) (.int .i64 (min a1 p.1)) (.int .i64 (min a2 p.2)) hL hK hH hrgn hBn2 (by omega) (by omega) (by omega) (by omega) (by omega))
             clear hrgn hBn2
             go_wp2_with (fail)
             refine hK'.out _ _ HX.out.2.1 (fun hHeld => ?_)
             clear hK' K hHeld hL hH hK a0 a1_ af0 af1
             try simp only [Act.put, pB, pC, pD]
             generalize ((d0.setCell ⟨w.heap.size, 0, none⟩ (.int .i64 (min a1 p.1))).setCell ⟨w.heap.size, 1, none⟩ (.int .i64 (min a2 p.2))) = x100y22 at *
             obtain ⟨hL, hK, hH, hrgn, hBn2⟩ := HX.out
             clear HX
             replace b0 : x100y22.cell? ⟨w.heap.size + 1, 0, none⟩ = some (.int .i64 c1) := cell_of hH rfl
             replace b1_ : x100y22.cell? ⟨w.heap.size + 1, 1, none⟩ = some (.int .i64 c2) := cell_of hH rfl
             replace bf0 : x100y22.frozen? ⟨w.heap.size + 1, 0, none⟩ = false := frozen_of hH
             replace bf1 : x100y22.frozen? ⟨w.heap.size + 1, 1, none⟩ = false := frozen_of hH
             refine wpAnyH_ready (rs := [23]) (by kernel_rfl) (by simp) ?_
             refine coH 23 (oi := ?_) ?_ ?_ (fun K hK' => ?_) ?_; rotate_left; (simp only [gA, gB, gC]; exact rfl); rfl
             ·
              have HX := Lib.hid (set2_all (b := w.heap.size + 1) (k1 := wr.heap.size) (k2 := w.heap.size) (.int .i64 (max c1 p.1)) (.int .i64 (max c2 p.2)) hH hK hL hrgn hBn2 (by omega) (by omega) (by omega) (by omega) (by omega))
              clear hrgn hBn2
              go_wp2_with (fail)
              refine hK'.out _ _ HX.out.2.1 (fun hHeld => ?_)
              clear hK' K hHeld hL hH hK b0 b1_ bf0 bf1
              try simp only [Act.put, pB, pC, pD]
              generalize ((x100y22.setCell ⟨w.heap.size + 1, 0, none⟩ (.int .i64 (max c1 p.1))).setCell ⟨w.heap.size + 1, 1, none⟩ (.int .i64 (max c2 p.2))) = x101y23 at *
              obtain ⟨hH, hK, hL, hrgn, hBn2⟩ := HX.out
              clear HX
              refine wpAnyH_done (by kernel_rfl) ?_ _
              have HL7 := Lib.hid hL
              have HH7 := Lib.hid hH
              have HRF := Lib.hid hrgn
              have HBN := Lib.hid hBn2
              clear hL hH hK hrgn hBn2
              go_wp2_with (fail)
              go_roundw
              case rel => exact ⟨true, _, _, _, _, _, _, rfl, HL7.out, HH7.out, HRF.out, HBD2.out, HBN.out⟩
              case measure => (have hq := HRF.out; rw [hq.left_eq, HRG1.out.left_eq]; exact hmeas)
             exact AllReadyH.nil
            exact AllReadyH.nil
           exact AllReadyH.nil
          exact AllReadyH.nil
         exact AllReadyH.nil
        refine coH 17 (oi := ?_) ?_ ?_ (fun K hK' => ?_) ?_; rotate_left; (simp only [gA, gB, gC]; exact rfl); rfl
        ·
         go_wp2_with (fail)
         refine hK'.out _ _ hK (fun hHeld => ?_)
         clear hK' K hHeld
         try simp only [Act.put, pB, pC, pD]
         refine tkH hK 20 (oi := ?_) (v := ?_) ?_ ?_ ?_ ?_ ?_ ?_ ?_ ?_; rotate_left 2; (simp only [gA, gB, gC]; exact rfl); kernel_rfl; kernel_rfl; kernel_rfl; exact fun _ _ _ h => h; rfl; (intro w' hSw; go_simp; with_reducible rfl); simp only [Act.put, pB, pC, pD]
         refine wpAnyH_ready (rs := [1, 6, 12]) (by kernel_rfl) (by simp) ?_
         refine coH 1 (oi := ?_) ?_ ?_ (fun K hK' => ?_) ?_; rotate_left; (simp only [gA, gB, gC]; exact rfl); rfl
         ·
          go_wp2_with (fail)
          refine hK'.out _ _ hK (fun hHeld => ?_)
          clear hK' K hHeld
          try simp only [Act.put, pB, pC, pD]
          refine tkH hK 4 (oi := ?_) (v := ?_) ?_ ?_ ?_ ?_ ?_ ?_ ?_ ?_; rotate_left 2; (simp only [gA, gB, gC]; exact rfl); kernel_rfl; kernel_rfl; kernel_rfl; exact fun _ _ _ h => h; rfl; (intro w' hSw; go_simp; with_reducible rfl); simp only [Act.put, pB, pC, pD]
          refine wpAnyH_ready (rs := [6, 12]) (by kernel_rfl) (by simp) ?_
          refine coH 6 (oi := ?_) ?_ ?_ (fun K hK' => ?_) ?_; rotate_left; (simp only [gA, gB, gC]; exact rfl); rfl
          ·
           go_wp2_with (fail)
           refine hK'.out _ _ hK (fun hHeld => ?_)
           clear hK' K hHeld
           try simp only [Act.put, pB, pC, pD]
           refine tkH hK 9 (oi := ?_) (v := ?_) ?_ ?_ ?_ ?_ ?_ ?_ ?_ ?_; rotate_left 2; (simp only [gA, gB, gC]; exact rfl); kernel_rfl; kernel_rfl; kernel_rfl; exact fun _ _ _ h => h; rfl; (intro w' hSw; go_simp; with_reducible rfl); simp only [Act.put, pB, pC, pD]
           refine tkH hK 10 (oi := ?_) (v := ?_) ?_ ?_ ?_ ?_ ?_ ?_ ?_ ?_; rotate_left 2; (simp only [gA, gB, gC]; exact rfl); kernel_rfl; kernel_rfl; kernel_rfl; exact fun _ _ _ h => h; rfl; (intro w' hSw; go_simp; with_reducible rfl); simp only [Act.put, pB, pC, pD]
           refine wpAnyH_ready (rs := [12, 22]) (by kernel_rfl) (by simp) ?_
           refine coH 12 (oi := ?_) ?_ ?_ (fun K hK' => ?_) ?_; rotate_left; (simp only [gA, gB, gC]; exact rfl); rfl
           ·
            go_wp2_with (fail)
            refine hK'.out _ _ hK (fun hHeld => ?_)
            clear hK' K hHeld
            try simp only [Act.put, pB, pC, pD]
            refine tkH hK 15 (oi := ?_) (v := ?_) ?_ ?_ ?_ ?_ ?_ ?_ ?_ ?_; rotate_left 2; (simp only [gA, gB, gC]; exact rfl); kernel_rfl; kernel_rfl; kernel_rfl; exact fun _ _ _ h => h; rfl; (intro w' hSw; go_simp; with_reducible rfl); simp only [Act.put, pB, pC, pD]
            refine tkH hK 21 (oi := ?_) (v := ?_) ?_ ?_ ?_ ?_ ?_ ?_ ?_ ?_; rotate_left 2; (simp only [gA, gB, gC]; exact rfl); kernel_rfl; kernel_rfl; kernel_rfl; exact fun _ _ _ h => h; rfl; (intro w' hSw; go_simp; with_reducible rfl); simp only [Act.put, pB, pC, pD]
            refine wpAnyH_ready (rs := [22]) (by kernel_rfl) (by simp) ?_
            refine coH 22 (oi := ?_) ?_ ?_ (fun K hK' => ?_) ?_; rotate_left; (simp only [gA, gB, gC]; exact rfl); rfl
            ·
             have HX := Lib.hid (set2_all (b := w.heap.size) (k1 := wr.heap.size) (k2 := w.heap.size + 1) (.int .i64 (min a1 p.1)) (.int .i64 (min a2 p.2)) hL hK hH hrgn hBn2 (by omega) (by omega) (by omega) (by omega) (by omega))
             clear hrgn hBn2
             go_wp2_with (fail)
             refine hK'.out _ _ HX.out.2.1 (fun hHeld => ?_)
             clear hK' K hHeld hL hH hK a0 a1_ af0 af1
             try simp only [Act.put, pB, pC, pD]
             generalize ((d0.setCell ⟨w.heap.size, 0, none⟩ (.int .i64 (min a1 p.1))).setCell ⟨w.heap.size, 1, none⟩ (.int .i64 (min a2 p.2))) = x105y22 at *
             obtain ⟨hL, hK, hH, hrgn, hBn2⟩ := HX.out
             clear HX
             replace b0 : x105y22.cell? ⟨w.heap.size + 1, 0, none⟩ = some (.int .i64 c1) := cell_of hH rfl
             replace b1_ : x105y22.cell? ⟨w.heap.size + 1, 1, none⟩ = some (.int .i64 c2) := cell_of hH rfl
             replace bf0 : x105y22.frozen? ⟨w.heap.size + 1, 0, none⟩ = false := frozen_of hH
             replace bf1 : x105y22.frozen? ⟨w.heap.size + 1, 1, none⟩ = false := frozen_of hH
             refine wpAnyH_ready (rs := [23]) (by kernel_rfl) (by simp) ?_
             refine coH 23 (oi := ?_) ?_ ?_ (fun K hK' => ?_) ?_; rotate_left; (simp only [gA, gB, gC]; exact rfl); rfl
             ·
              have HX := Lib.hid (set2_all (b := w.heap.size + 1) (k1 := wr.heap.size) (k2 := w.heap.size) (.int .i64 (max c1 p.1)) (.int .i64 (max c2 p.2)) hH hK hL hrgn hBn2 (by omega) (by omega) (by omega) (by omega) (by omega))
              clear hrgn hBn2
              go_wp2_with (fail)
              refine hK'.out _ _ HX.out.2.1 (fun hHeld => ?_)
              clear hK' K hHeld hL hH hK b0 b1_ bf0 bf1
              try simp only [Act.put, pB, pC, pD]
              generalize ((x105y22.setCell ⟨w.heap.size + 1, 0, none⟩ (.int .i64 (max c1 p.1))).setCell ⟨w.heap.size + 1, 1, none⟩ (.int .i64 (max c2 p.2))) = x106y23 at *
              obtain ⟨hH, hK, hL, hrgn, hBn2⟩ := HX.out
              clear HX
              refine wpAnyH_done (by kernel_rfl) ?_ _
              have HL7 := Lib.hid hL
              have HH7 := Lib.hid hH
              have HRF := Lib.hid hrgn
              have HBN := Lib.hid hBn2
              clear hL hH hK hrgn hBn2
              go_wp2_with (fail)
              go_roundw
              case rel => exact ⟨true, _, _, _, _, _, _, rfl, HL7.out, HH7.out, HRF.out, HBD2.out, HBN.out⟩
              case measure => (have hq := HRF.out; rw [hq.left_eq, HRG1.out.left_eq]; exact hmeas)
             exact AllReadyH.nil
            exact AllReadyH.nil
           refine coH 22 (oi := ?_) ?_ ?_ (fun K hK' => ?_) ?_; rotate_left; (simp only [gA, gB, gC]; exact rfl); rfl
           ·
            have HX := Lib.hid (set2_all (b := w.heap.size) (k1 := wr.heap.size) (k2 := w.heap.size + 1) (.int .i64 (min a1 p.1)) (.int .i64 (min a2 p.2)) hL hK hH hrgn hBn2 (by omega) (by omega) (by omega) (by omega) (by omega))
            clear hrgn hBn2
            go_wp2_with (fail)
            refine hK'.out _ _ HX.out.2.1 (fun hHeld => ?_)
            clear hK' K hHeld hL hH hK a0 a1_ af0 af1
            try simp only [Act.put, pB, pC, pD]
            generalize ((d0.setCell ⟨w.heap.size, 0, none⟩ (.int .i64 (min a1 p.1))).setCell ⟨w.heap.size, 1, none⟩ (.int .i64 (min a2 p.2))) = x104y22 at *
            obtain ⟨hL, hK, hH, hrgn, hBn2⟩ := HX.out
            clear HX
            replace b0 : x104y22.cell? ⟨w.heap.size + 1, 0, none⟩ = some (.int .i64 c1) := cell_of hH rfl
            replace b1_ : x104y22.cell? ⟨w.heap.size + 1, 1, none⟩ = some (.int .i64 c2) := cell_of hH rfl
            replace bf0 : x104y22.frozen? ⟨w.heap.size + 1, 0, none⟩ = false := frozen_of hH
            replace bf1 : x104y22.frozen? ⟨w.heap.size + 1, 1, none⟩ = false := frozen_of hH
            refine wpAnyH_ready (rs := [12]) (by kernel_rfl) (by simp) ?_
            refine coH 12 (oi := ?_) ?_ ?_ (fun K hK' => ?_) ?_; rotate_left; (simp only [gA, gB, gC]; exact rfl); rfl
            ·
             go_wp2_with (fail)
             refine hK'.out _ _ hK (fun hHeld => ?_)
             clear hK' K hHeld
             try simp only [Act.put, pB, pC, pD]
             refine tkH hK 15 (oi := ?_) (v := ?_) ?_ ?_ ?_ ?_ ?_ ?_ ?_ ?_; rotate_left 2; (simp only [gA, gB, gC]; exact rfl); kernel_rfl; kernel_rfl; kernel_rfl; exact fun _ _ _ h => h; rfl; (intro w' hSw; go_simp; with_reducible rfl); simp only [Act.put, pB, pC, pD]
             refine tkH hK 21 (oi := ?_) (v := ?_) ?_ ?_ ?_ ?_ ?_ ?_ ?_ ?_; rotate_left 2; (simp only [gA, gB, gC]; exact rfl); kernel_rfl; kernel_rfl; kernel_rfl; exact fun _ _ _ h => h; rfl; (intro w' hSw; go_simp; with_reducible rfl); simp only [Act.put, pB, pC, pD]
             refine wpAnyH_ready (rs := [23]) (by kernel_rfl) (by simp) ?_
             refine coH 23 (oi := ?_) ?_ ?_ (fun K hK' => ?_) ?_; rotate_left; (simp only [gA, gB, gC]; exact rfl); rfl
             ·
              have HX := Lib.hid (set2_all (b := w.heap.size + 1) (k1 := wr.heap.size) (k2 := w.heap.size) (.int .i64 (max c1 p.1)) (.int .i64 (max c2 p.2)) hH hK hL hrgn hBn2 (by omega) (by omega) (by omega) (by omega) (by omega))
              clear hrgn hBn2
              go_wp2_with (fail)
              refine hK'.out _ _ HX.out.2.1 (fun hHeld => ?_)
              clear hK' K hHeld hL hH hK b0 b1_ bf0 bf1
              try simp only [Act.put, pB, pC, pD]
              generalize ((x104y22.setCell ⟨w.heap.size + 1, 0, none⟩ (.int .i64 (max c1 p.1))).setCell ⟨w.heap.size + 1, 1, none⟩ (.int .i64 (max c2 p.2))) = x108y23 at *
              obtain ⟨hH, hK, hL, hrgn, hBn2⟩ := HX.out
              clear HX
              refine wpAnyH_done (by kernel_rfl) ?_ _
              have HL7 := Lib.hid hL
              have HH7 := Lib.hid hH
              have HRF := Lib.hid hrgn
              have HBN := Lib.hid hBn2
              clear hL hH hK hrgn hBn2
              go_wp2_with (fail)
              go_roundw
              case rel => exact ⟨true, _, _, _, _, _, _, rfl, HL7.out, HH7.out, HRF.out, HBD2.out, HBN.out⟩
              case measure => (have hq := HRF.out; rw [hq.left_eq, HRG1.out.left_eq]; exact hmeas)
             exact AllReadyH.nil
            exact AllReadyH.nil
           exact AllReadyH.nil
          refine coH 12 (oi := ?_) ?_ ?_ (fun K hK' => ?_) ?_; rotate_left; (simp only [gA, gB, gC]; exact rfl); rfl
          ·
           go_wp2_with (fail)
           refine hK'.out _ _ hK (fun hHeld => ?_)
           clear hK' K hHeld
           try simp only [Act.put, pB, pC, pD]
           refine tkH hK 15 (oi := ?_) (v := ?_) ?_ ?_ ?_ ?_ ?_ ?_ ?_ ?_; rotate_left 2; (simp only [gA, gB, gC]; exact rfl); kernel_rfl; kernel_rfl; kernel_rfl; exact fun _ _ _ h => h; rfl; (intro w' hSw; go_simp; with_reducible rfl); simp only [Act.put, pB, pC, pD]
           refine tkH hK 21 (oi := ?_) (v := ?_) ?_ ?_ ?_ ?_ ?_ ?_ ?_ ?_; rotate_left 2; (simp only [gA, gB, gC]; exact rfl); kernel_rfl; kernel_rfl; kernel_rfl; exact fun _ _ _ h => h; rfl; (intro w' hSw; go_simp; with_reducible rfl); simp only [Act.put, pB, pC, pD]
           refine wpAnyH_ready (rs := [6]) (by kernel_rfl) (by simp) ?_
           refine coH 6 (oi := ?_) ?_ ?_ (fun K hK' => ?_) ?_; rotate_left; (simp only [gA, gB, gC]; exact rfl); rfl
           ·
            go_wp2_with (fail)
            refine hK'.out _ _ hK (fun hHeld => ?_)
            clear hK' K hHeld
            try simp only [Act.put, pB, pC, pD]
            refine tkH hK 9 (oi := ?_) (v := ?_) ?_ ?_ ?_ ?_ ?_ ?_ ?_ ?_; rotate_left 2; (simp only [gA, gB, gC]; exact rfl); kernel_rfl; kernel_rfl; kernel_rfl; exact fun _ _ _ h => h; rfl; (intro w' hSw; go_simp; with_reducible rfl); simp only [Act.put, pB, pC, pD]
            refine tkH hK 10 (oi := ?_) (v := ?_) ?_ ?_ ?_ ?_ ?_ ?_ ?_ ?_; rotate_left 2; (simp only [gA, gB, gC]; exact rfl); kernel_rfl; kernel_rfl; kernel_rfl; exact fun _ _ _ h => h; rfl; (intro w' hSw; go_simp; with_reducible rfl); simp only [Act.put, pB, pC, pD]
            refine wpAnyH_ready (rs := [22]) (by kernel_rfl) (by simp) ?_
            refine coH 22 (oi := ?_) ?_ ?_ (fun K hK' => ?_) ?_; rotate_left; (simp only [gA, gB, gC]; exact rfl); rfl
            ·
             have HX := Lib.hid (set2_all (b := w.heap.size) (k1 := wr.heap.size) (k2 := w.heap.size + 1) (.int .i64 (min a1 p.1)) (.int .i64 (min a2 p.2)) hL hK hH hrgn hBn2 (by omega) (by omega) (by omega) (by omega) (by omega))
             clear hrgn hBn2
             go_wp2_with (fail)
             refine hK'.out _ _ HX.out.2.1 (fun hHeld => ?_)
             clear hK' K hHeld hL hH hK a0 a1_ af0 af1
             try simp only [Act.put, pB, pC, pD]
             generalize ((d0.setCell ⟨w.heap.size, 0, none⟩ (.int .i64 (min a1 p.1))).setCell ⟨w.heap.size, 1, none⟩ (.int .i64 (min a2 p.2))) = x110y22 at *
             obtain ⟨hL, hK, hH, hrgn, hBn2⟩ := HX.out
             clear HX
             replace b0 : x110y22.cell? ⟨w.heap.size + 1, 0, none⟩ = some (.int .i64 c1) := cell_of hH rfl
             replace b1_ : x110y22.cell? ⟨w.heap.size + 1, 1, none⟩ = some (.int .i64 c2) := cell_of hH rfl
             replace bf0 : x110y22.frozen? ⟨w.heap.size + 1, 0, none⟩ = false := frozen_of hH
             replace bf1 : x110y22.frozen? ⟨w.heap.size + 1, 1, none⟩ = false := frozen_of hH
             refine wpAnyH_ready (rs := [23]) (by kernel_rfl) (by simp) ?_
             refine coH 23 (oi := ?_) ?_ ?_ (fun K hK' => ?_) ?_; rotate_left; (simp only [gA, gB, gC]; exact rfl); rfl
             ·
              have HX := Lib.hid (set2_all (b := w.heap.size + 1) (k1 := wr.heap.size) (k2 := w.heap.size) (.int .i64 (max c1 p.1)) (.int .i64 (max c2 p.2)) hH hK hL hrgn hBn2 (by omega) (by omega) (by omega) (by omega) (by omega))
              clear hrgn hBn2
              go_wp2_with (fail)
              refine hK'.out _ _ HX.out.2.1 (fun hHeld => ?_)
              clear hK' K hHeld hL hH hK b0 b1_ bf0 bf1
              try simp only [Act.put, pB, pC, pD]
              generalize ((x110y22.setCell ⟨w.heap.size + 1, 0, none⟩ (.int .i64 (max c1 p.1))).setCell ⟨w.heap.size + 1, 1, none⟩ (.int .i64 (max c2 p.2))) = x111y23 at *
              obtain ⟨hH, hK, hL, hrgn, hBn2⟩ := HX.out
              clear HX
              refine wpAnyH_done (by kernel_rfl) ?_ _
              have HL7 := Lib.hid hL
              have HH7 := Lib.hid hH
              have HRF := Lib.hid hrgn
              have HBN := Lib.hid hBn2
              clear hL hH hK hrgn hBn2
              go_wp2_with (fail)
              go_roundw
              case rel => exact ⟨true, _, _, _, _, _, _, rfl, HL7.out, HH7.out, HRF.out, HBD2.out, HBN.out⟩
              case measure => (have hq := HRF.out; rw [hq.left_eq, HRG1.out.left_eq]; exact hmeas)
             exact AllReadyH.nil
            exact AllReadyH.nil
           exact AllReadyH.nil
          exact AllReadyH.nil
         refine coH 6 (oi := ?_) ?_ ?_ (fun K hK' => ?_) ?_; rotate_left; (simp only [gA, gB, gC]; exact rfl); rfl
         ·
          go_wp2_with (fail)
          refine hK'.out _ _ hK (fun hHeld => ?_)
          clear hK' K hHeld
          try simp only [Act.put, pB, pC, pD]
          refine tkH hK 9 (oi := ?_) (v := ?_) ?_ ?_ ?_ ?_ ?_ ?_ ?_ ?_; rotate_left 2; (simp only [gA, gB, gC]; exact rfl); kernel_rfl; kernel_rfl; kernel_rfl; exact fun _ _ _ h => h; rfl; (intro w' hSw; go_simp; with_reducible rfl); simp only [Act.put, pB, pC, pD]
          refine wpAnyH_ready (rs := [1, 12]) (by kernel_rfl) (by simp) ?_
          refine coH 1 (oi := ?_) ?_ ?_ (fun K hK' => ?_) ?_; rotate_left; (simp only [gA, gB, gC]; exact rfl); rfl
          ·
           go_wp2_with (fail)
           refine hK'.out _ _ hK (fun hHeld => ?_)
           clear hK' K hHeld
           try simp only [Act.put, pB, pC, pD]
           refine tkH hK 4 (oi := ?_) (v := ?_) ?_ ?_ ?_ ?_ ?_ ?_ ?_ ?_; rotate_left 2; (simp only [gA, gB, gC]; exact rfl); kernel_rfl; kernel_rfl; kernel_rfl; exact fun _ _ _ h => h; rfl; (intro w' hSw; go_simp; with_reducible rfl); simp only [Act.put, pB, pC, pD]
           refine tkH hK 10 (oi := ?_) (v := ?_) ?_ ?_ ?_ ?_ ?_ ?_ ?_ ?_; rotate_left 2; (simp only [gA, gB, gC]; exact rfl); kernel_rfl; kernel_rfl; kernel_rfl; exact fun _ _ _ h => h; rfl; (intro w' hSw; go_simp; with_reducible rfl); simp only [Act.put, pB, pC, pD]
           refine wpAnyH_ready (rs := [12, 22]) (by kernel_rfl) (by simp) ?_
           refine coH 12 (oi := ?_) ?_ ?_ (fun K hK' => ?_) ?_; rotate_left; (simp only [gA, gB, gC]; exact rfl); rfl
           ·
            go_wp2_with (fail)
            refine hK'.out _ _ hK (fun hHeld => ?_)
            clear hK' K hHeld
            try simp only [Act.put, pB, pC, pD]
            refine tkH hK 15 (oi := ?_) (v := ?_) ?_ ?_ ?_ ?_ ?_ ?_ ?_ ?_; rotate_left 2; (simp only [gA, gB, gC]; exact rfl); kernel_rfl; kernel_rfl; kernel_rfl; exact fun _ _ _ h => h; rfl; (intro w' hSw; go_simp; with_reducible rfl); simp only [Act.put, pB, pC, pD]
            refine tkH hK 21 (oi := ?_) (v := ?_) ?_ ?_ ?_ ?_ ?_ ?_ ?_ ?_; rotate_left 2; (simp only [gA, gB, gC]; exact rfl); kernel_rfl; kernel_rfl; kernel_rfl; exact fun _ _ _ h => h; rfl; (intro w' hSw; go_simp; with_reducible rfl); simp only [Act.put, pB, pC, pD]
            refine wpAnyH_ready (rs := [22]) (by kernel_rfl) (by simp) ?_
            refine coH 22 (oi := ?_) ?_ ?_ (fun K hK' => ?_) ?_; rotate_left; (simp only [gA, gB, gC]; exact rfl); rfl
            ·
             have HX := Lib.hid (set2_all (b := w.heap.size) (k1 := wr.heap.size) (k2 := w.heap.size + 1) (.int .i64 (min a1 p.1)) (.int .i64 (min a2 p.2)) hL hK hH hrgn hBn2 (by omega) (by omega) (by omega) (by omega) (by omega))
             clear hrgn hBn2
             go_wp2_with (fail)
             refine hK'.out _ _ HX.out.2.1 (fun hHeld => ?_)
             clear hK' K hHeld hL hH hK a0 a1_ af0 af1
             try simp only [Act.put, pB, pC, pD]
             generalize ((d0.setCell ⟨w.heap.size, 0, none⟩ (.int .i64 (min a1 p.1))).setCell ⟨w.heap.size, 1, none⟩ (.int .i64 (min a2 p.2))) = x114y22 at *
             obtain ⟨hL, hK, hH, hrgn, hBn2⟩ := HX.out
             clear HX
             replace b0 : x114y22.cell? ⟨w.heap.size + 1, 0, none⟩ = some (.int .i64 c1) := cell_of hH rfl
             replace b1_ : x114y22.cell? ⟨w.heap.size + 1, 1, none⟩ = some (.int .i64 c2) := cell_of hH rfl
             replace bf0 : x114y22.frozen? ⟨w.heap.size + 1, 0, none⟩ = false := frozen_of hH
             replace bf1 : x114y22.frozen? ⟨w.heap.size + 1, 1, none⟩ = false := frozen_of hH
             refine wpAnyH_ready (rs := [23]) (by kernel_rfl) (by simp) ?_
             refine coH 23 (oi := ?_) ?_ ?_ (fun K hK' => ?_) ?_; rotate_left; (simp only [gA, gB, gC]; exact rfl); rfl
             ·
              have HX := Lib.hid (set2_all (b := w.heap.size + 1) (k1 := wr.heap.size) (k2 := w.heap.size) (.int .i64 (max c1 p.1)) (.int .i64 (max c2 p.2)) hH hK hL hrgn hBn2 (by omega) (by omega) (by omega) (by omega) (by omega))
              clear hrgn hBn2
              go_wp2_with (fail)
              refine hK'.out _ _ HX.out.2.1 (fun hHeld => ?_)
              clear hK' K hHeld hL hH hK b0 b1_ bf0 bf1
              try simp only [Act.put, pB, pC, pD]
              generalize ((x114y22.setCell ⟨w.heap.size + 1, 0, none⟩ (.int .i64 (max c1 p.1))).setCell ⟨w.heap.size + 1, 1, none⟩ (.int .i64 (max c2 p.2))) = x115y23 at *
              obtain ⟨hH, hK, hL, hrgn, hBn2⟩ := HX.out
              clear HX
              refine wpAnyH_done (by kernel_rfl) ?_ _
              have HL7 := Lib.hid hL
              have HH7 := Lib.hid hH
              have HRF := Lib.hid hrgn
              have HBN := Lib.hid hBn2
              clear hL hH hK hrgn hBn2
              go_wp2_with (fail)
              go_roundw
              case rel => exact ⟨true, _, _, _, _, _, _, rfl, HL7.out, HH7.out, HRF.out, HBD2.out, HBN.out⟩
              case measure => (have hq := HRF.out; rw [hq.left_eq, HRG1.out.left_eq]; exact hmeas)
             exact AllReadyH.nil
            exact AllReadyH.nil
           refine coH 22 (oi := ?_) ?_ ?_ (fun K hK' => ?_) ?_; rotate_left; (simp only [gA, gB, gC]; exact rfl); rfl
           ·
            have HX := Lib.hid (set2_all (b := w.heap.size) (k1 := wr.heap.size) (k2 := w.heap.size + 1) (.int .i64 (min a1 p.1)) (.int .i64 (min a2 p.2)) hL hK hH hrgn hBn2 (by omega) (by omega) (by omega) (by omega) (by omega))
            clear hrgn hBn2
            go_wp2_with (fail)
            refine hK'.out _ _ HX.out.2.1 (fun hHeld => ?_)
            clear hK' K hHeld hL hH hK a0 a1_ af0 af1
            try simp only [Act.put, pB, pC, pD]
            generalize ((d0.setCell ⟨w.heap.size, 0, none⟩ (.int .i64 (min a1 p.1))).setCell ⟨w.heap.size, 1, none⟩ (.int .i64 (min a2 p.2))) = x113y22 at *
            obtain ⟨hL, hK, hH, hrgn, hBn2⟩ := HX.out
            clear HX
            replace b0 : x113y22.cell? ⟨w.heap.size + 1, 0, none⟩ = some (.int .i64 c1) := cell_of hH rfl
            replace b1_ : x113y22.cell? ⟨w.heap.size + 1, 1, none⟩ = some (.int .i64 c2) := cell_of hH rfl
            replace bf0 : x113y22.frozen? ⟨w.heap.size + 1, 0, none⟩ = false := frozen_of hH
            replace bf1 : x113y22.frozen? ⟨w.heap.size + 1, 1, none⟩ = false := frozen_of hH
            refine wpAnyH_ready (rs := [12]) (by kernel_rfl) (by simp) ?_
            refine coH 12 (oi := ?_) ?_ ?_ (fun K hK' => ?_) ?_; rotate_left; (simp only [gA, gB, gC]; exact rfl); rfl
            ·
             go_wp2_with (fail)
             refine hK'.out _ _ hK (fun hHeld => ?_)
             clear hK' K hHeld
             try simp only [Act.put, pB, pC, pD]
             refine tkH hK 15 (oi := ?_) (v := ?_) ?_ ?_ ?_ ?_ ?_ ?_ ?_ ?_; rotate_left 2; (simp only [gA, gB, gC]; exact rfl); kernel_rfl; kernel_rfl; kernel_rfl; exact fun _ _ _ h => h; rfl; (intro w' hSw; go_simp; with_reducible rfl); simp only [Act.put, pB, pC, pD]
             refine tkH hK 21 (oi := ?_) (v := ?_) ?_ ?_ ?_ ?_ ?_ ?_ ?_ ?_; rotate_left 2; (simp only [gA, gB, gC]; exact rfl); kernel_rfl; kernel_rfl; kernel_rfl; exact fun _ _ _ h => h; rfl; (intro w' hSw; go_simp; with_reducible rfl); simp only [Act.put, pB, pC, pD]
             refine wpAnyH_ready (rs := [23]) (by kernel_rfl) (by simp) ?_
             refine coH 23 (oi := ?_) ?_ ?_ (fun K hK' => ?_) ?_; rotate_left; (simp only [gA, gB, gC]; exact rfl); rfl
             ·
              have HX := Lib.hid (set2_all (b := w.heap.size + 1) (k1 := wr.heap.size) (k2 := w.heap.size) (.int .i64 (max c1 p.1)) (.int .i64 (max c2 p.2)) hH hK hL hrgn hBn2 (by omega) (by omega) (by omega) (by omega) (by omega))
              clear hrgn hBn2
              go_wp2_with (fail)
              refine hK'.out _ _ HX.out.2.1 (fun hHeld => ?_)
              clear hK' K hHeld hL hH hK b0 b1_ bf0 bf1
              try simp only [Act.put, pB, pC, pD]
              generalize ((x113y22.setCell ⟨w.heap.size + 1, 0, none⟩ (.int .i64 (max c1 p.1))).setCell ⟨w.heap.size + 1, 1, none⟩ (.int .i64 (max c2 p.2))) = x117y23 at *
              obtain ⟨hH, hK, hL, hrgn, hBn2⟩ := HX.out
              clear HX
              refine wpAnyH_done (by kernel_rfl) ?_ _
              have HL7 := Lib.hid hL
              have HH7 := Lib.hid hH
              have HRF := Lib.hid hrgn
              have HBN := Lib.hid hBn2
              clear hL hH hK hrgn hBn2
              go_wp2_with (fail)
              go_roundw
              case rel => exact ⟨true, _, _, _, _, _, _, rfl, HL7.out, HH7.out, HRF.out, HBD2.out, HBN.out⟩
              case measure => (have hq := HRF.out; rw [hq.left_eq, HRG1.out.left_eq]; exact hmeas)
             exact AllReadyH.nil
            exact AllReadyH.nil
           exact AllReadyH.nil
          refine coH 12 (oi := ?_) ?_ ?_ (fun K hK' => ?_) ?_; rotate_left; (simp only [gA, gB, gC]; exact rfl); rfl
          ·
           go_wp2_with (fail)
           refine hK'.out _ _ hK (fun hHeld => ?_)
           clear hK' K hHeld
           try simp only [Act.put, pB, pC, pD]
           refine tkH hK 15 (oi := ?_) (v := ?_) ?_ ?_ ?_ ?_ ?_ ?_ ?_ ?_; rotate_left 2; (simp only [gA, gB, gC]; exact rfl); kernel_rfl; kernel_rfl; kernel_rfl; exact fun _ _ _ h => h; rfl; (intro w' hSw; go_simp; with_reducible rfl); simp only [Act.put, pB, pC, pD]
           refine tkH hK 21 (oi := ?_) (v := ?_) ?_ ?_ ?_ ?_ ?_ ?_ ?_ ?_; rotate_left 2; (simp only [gA, gB, gC]; exact rfl); kernel_rfl; kernel_rfl; kernel_rfl; exact fun _ _ _ h => h; rfl; (intro w' hSw; go_simp; with_reducible rfl); simp only [Act.put, pB, pC, pD]
           refine wpAnyH_ready (rs := [1]) (by kernel_rfl) (by simp) ?_
           refine coH 1 (oi := ?_) ?_ ?_ (fun K hK' => ?_) ?_; rotate_left; (simp only [gA, gB, gC]; exact rfl); rfl
           ·
            go_wp2_with (fail)
            refine hK'.out _ _ hK (fun hHeld => ?_)
            clear hK' K hHeld
            try simp only [Act.put, pB, pC, pD]
            refine tkH hK 4 (oi := ?_) (v := ?_) ?_ ?_ ?_ ?_ ?_ ?_ ?_ ?_; rotate_left 2; (simp only [gA, gB, gC]; exact rfl); kernel_rfl; kernel_rfl; kernel_rfl; exact fun _ _ _ h => h; rfl; (intro w' hSw; go_simp; with_reducible rfl); simp only [Act.put, pB, pC, pD]
            refine tkH hK 10 (oi := ?_) (v := ?_) ?_ ?_ ?_ ?_ ?_ ?_ ?_ ?_; rotate_left 2; (simp only [gA, gB, gC]; exact rfl); kernel_rfl; kernel_rfl; kernel_rfl; exact fun _ _ _ h => h; rfl; (intro w' hSw; go_simp; with_reducible rfl); simp only [Act.put, pB, pC, pD]
            refine wpAnyH_ready (rs := [22]) (by kernel_rfl) (by simp) ?_
            refine coH 22 (oi := ?_) ?_ ?_ (fun K hK' => ?_) ?_; rotate_left; (simp only [gA, gB, gC]; exact rfl); rfl
            ·
             have HX := Lib.hid (set2_all (b := w.heap.size) (k1 := wr.heap.size) (k2 := w.heap.size + 1) (.int .i64 (min a1 p.1)) (.int .i64 (min a2 p.2)) hL hK hH hrgn hBn2 (by omega) (by omega) (by omega) (by omega) (by omega))
             clear hrgn hBn2
             go_wp2_with (fail)
             refine hK'.out _ _ HX.out.2.1 (fun hHeld => ?_)
             clear hK' K hHeld hL hH hK a0 a1_ af0 af1
             try simp only [Act.put, pB, pC, pD]
             generalize ((d0.setCell ⟨w.heap.size, 0, none⟩ (.int .i64 (min a1 p.1))).setCell ⟨w.heap.size, 1, none⟩ (.int .i64 (min a2 p.2))) = x119y22 at *
             obtain ⟨hL, hK, hH, hrgn, hBn2⟩ := HX.out
             clear HX
             replace b0 : x119y22.cell? ⟨w.heap.size + 1, 0, none⟩ = some (.int .i64 c1) := cell_of hH rfl
             replace b1_ : x119y22.cell? ⟨w.heap.size + 1, 1, none⟩ = some (.int .i64 c2) := cell_of hH rfl
             replace bf0 : x119y22.frozen? ⟨w.heap.size + 1, 0, none⟩ = false := frozen_of hH
             replace bf1 : x119y22.frozen? ⟨w.heap.size + 1, 1, none⟩ = false := frozen_of hH
             refine wpAnyH_ready (rs := [23]) (by kernel_rfl) (by simp) ?_
             refine coH 23 (oi := ?_) ?_ ?_ (fun K hK' => ?_) ?_; rotate_left; (simp only [gA, gB, gC]; exact rfl); rfl
             ·
              have HX := Lib.hid (set2_all (b := w.heap.size + 1) (k1 := wr.heap.size) (k2 := w.heap.size) (.int .i64 (max c1 p.1)) (.int .i64 (max c2 p.2)) hH hK hL hrgn hBn2 (by omega) (by omega) (by omega) (by omega) (by omega))
              clear hrgn hBn2
              go_wp2_with (fail)
              refine hK'.out _ _ HX.out.2.1 (fun hHeld => ?_)
              clear hK' K hHeld hL hH hK b0 b1_ bf0 bf1
              try simp only [Act.put, pB, pC, pD]
              generalize ((x119y22.setCell ⟨w.heap.size + 1, 0, none⟩ (.int .i64 (max c1 p.1))).setCell ⟨w.heap.size + 1, 1, none⟩ (.int .i64 (max c2 p.2))) = x120y23 at *
              obtain ⟨hH, hK, hL, hrgn, hBn2⟩ := HX.out
              clear HX
              refine wpAnyH_done (by kernel_rfl) ?_ _
              have HL7 := Lib.hid hL
              have HH7 := Lib.hid hH
              have HRF := Lib.hid hrgn
              have HBN := Lib.hid hBn2
              clear hL hH hK hrgn hBn2
              go_wp2_with (fail)
              go_roundw
              case rel => exact ⟨true, _, _, _, _, _, _, rfl, HL7.out, HH7.out, HRF.out, HBD2.out, HBN.out⟩
              case measure => (have hq := HRF.out; rw [hq.left_eq, HRG1.out.left_eq]; exact hmeas)
             exact AllReadyH.nil
            exact AllReadyH.nil
           exact AllReadyH.nil
          exact AllReadyH.nil
         refine coH 12 (oi := ?_) ?_ ?_ (fun K hK' => ?_) ?_; rotate_left; (simp only [gA, gB, gC]; exact rfl); rfl
         ·
          go_wp2_with (fail)
          refine hK'.out _ _ hK (fun hHeld => ?_)
          clear hK' K hHeld
          try simp only [Act.put, pB, pC, pD]
          refine tkH hK 15 (oi := ?_) (v := ?_) ?_ ?_ ?_ ?_ ?_ ?_ ?_ ?_; rotate_left 2; (simp only [gA, gB, gC]; exact rfl); kernel_rfl; kernel_rfl; kernel_rfl; exact fun _ _ _ h => h; rfl; (intro w' hSw; go_simp; with_reducible rfl); simp only [Act.put, pB, pC, pD]
          refine tkH hK 21 (oi := ?_) (v := ?_) ?_ ?_ ?_ ?_ ?_ ?_ ?_ ?_; rotate_left 2; (simp only [gA, gB, gC]; exact rfl); kernel_rfl; kernel_rfl; kernel_rfl; exact fun _ _ _ h => h; rfl; (intro w' hSw; go_simp; with_reducible rfl); simp only [Act.put, pB, pC, pD]
          refine wpAnyH_ready (rs := [1, 6]) (by kernel_rfl) (by simp) ?_
          refine coH 1 (oi := ?_) ?_ ?_ (fun K hK' => ?_) ?_; rotate_left; (simp only [gA, gB, gC]; exact rfl); rfl
          ·
           go_wp2_with (fail)
           refine hK'.out _ _ hK (fun hHeld => ?_)
           clear hK' K hHeld
           try simp only [Act.put, pB, pC, pD]
           refine tkH hK 4 (oi := ?_) (v := ?_) ?_ ?_ ?_ ?_ ?_ ?_ ?_ ?_; rotate_left 2; (simp only [gA, gB, gC]; exact rfl); kernel_rfl; kernel_rfl; kernel_rfl; exact fun _ _ _ h => h; rfl; (intro w' hSw; go_simp; with_reducible rfl); simp only [Act.put, pB, pC, pD]
           refine wpAnyH_ready (rs := [6]) (by kernel_rfl) (by simp) ?_
           refine coH 6 (oi := ?_) ?_ ?_ (fun K hK' => ?_) ?_; rotate_left; (simp only [gA, gB, gC]; exact rfl); rfl
           ·
            go_wp2_with (fail)
            refine hK'.out _ _ hK (fun hHeld => ?_)
            clear hK' K hHeld
            try simp only [Act.put, pB, pC, pD]
            refine tkH hK 9 (oi := ?_) (v := ?_) ?_ ?_ ?_ ?_ ?_ ?_ ?_ ?_; rotate_left 2; (simp only [gA, gB, gC]; exact rfl); kernel_rfl; kernel_rfl; kernel_rfl; exact fun _ _ _ h => h; rfl; (intro w' hSw; go_simp; with_reducible rfl); simp only [Act.put, pB, pC, pD]
            refine tkH hK 10 (oi := ?_) (v := ?_) ?_ ?_ ?_ ?_ ?_ ?_ ?_ ?_; rotate_left 2; (simp only [gA, gB, gC]; exact rfl); kernel_rfl; kernel_rfl; kernel_rfl; exact fun _ _ _ h => h; rfl; (intro w' hSw; go_simp; with_reducible rfl); simp only [Act.put, pB, pC, pD]
            refine wpAnyH_ready (rs := [22]) (by kernel_rfl) (by simp) ?_
            refine coH 22 (oi := ?_) ?_ ?_ (fun K hK' => ?_) ?_; rotate_left; (simp only [gA, gB, gC]; exact rfl); rfl
            ·
             have HX := Lib.hid (set2_all (b := w.heap.size) (k1 := wr.heap.size) (k2 := w.heap.size + 1) (.int .i64 (min a1 p.1)) (.int .i64 (min a2 p.2)) hL hK hH hrgn hBn2 (by omega) (by omega) (by omega) (by omega) (by omega))
             clear hrgn hBn2
             go_wp2_with (fail)
             refine hK'.out _ _ HX.out.2.1 (fun hHeld => ?_)
             clear hK' K hHeld hL hH hK a0 a1_ af0 af1
             try simp only [Act.put, pB, pC, pD]
             generalize ((d0.setCell ⟨w.heap.size, 0, none⟩ (.int .i64 (min a1 p.1))).setCell ⟨w.heap.size, 1, none⟩ (.int .i64 (min a2 p.2))) = x123y22 at *
             obtain ⟨hL, hK, hH, hrgn, hBn2⟩ := HX.out
             clear HX
             replace b0 : x123y22.cell? ⟨w.heap.size + 1, 0, none⟩ = some (.int .i64 c1) := cell_of hH rfl
             replace b1_ : x123y22.cell? ⟨w.heap.size + 1, 1, none⟩ = some (.int .i64 c2) := cell_of hH rfl
             replace bf0 : x123y22.frozen? ⟨w.heap.size + 1, 0, none⟩ = false := frozen_of hH
             replace bf1 : x123y22.frozen? ⟨w.heap.size + 1, 1, none⟩ = false := frozen_of hH
             refine wpAnyH_ready (rs := [23]) (by kernel_rfl) (by simp) ?_
             refine coH 23 (oi := ?_) ?_ ?_ (fun K hK' => ?_) ?_; rotate_left; (simp only [gA, gB, gC]; exact rfl); rfl
             ·
              have HX := Lib.hid (set2_all (b := w.heap.size + 1) (k1 := wr.heap.size) (k2 := w.heap.size) (.int .i64 (max c1 p.1)) (.int .i64 (max c2 p.2)) hH hK hL hrgn hBn2 (by omega) (by omega) (by omega) (by omega) (by omega))
              clear hrgn hBn2
              go_wp2_with (fail)
              refine hK'.out _ _ HX.out.2.1 (fun hHeld => ?_)
              clear hK' K hHeld hL hH hK b0 b1_ bf0 bf1
              try simp only [Act.put, pB, pC, pD]
              generalize ((x123y22.setCell ⟨w.heap.size + 1, 0, none⟩ (.int .i64 (max c1 p.1))).setCell ⟨w.heap.size + 1, 1, none⟩ (.int .i64 (max c2 p.2))) = x124y23 at *
              obtain ⟨hH, hK, hL, hrgn, hBn2⟩ := HX.out
              clear HX
              refine wpAnyH_done (by kernel_rfl) ?_ _
              have HL7 := Lib.hid hL
              have HH7 := Lib.hid hH
              have HRF := Lib.hid hrgn
              have HBN := Lib.hid hBn2
              clear hL hH hK hrgn hBn2
              go_wp2_with (fail)
              go_roundw
              case rel => exact ⟨true, _, _, _, _, _, _, rfl, HL7.out, HH7.out, HRF.out, HBD2.out, HBN.out⟩
              case measure => (have hq := HRF.out; rw [hq.left_eq, HRG1.out.left_eq]; exact hmeas)
             exact AllReadyH.nil
            exact AllReadyH.nil
           exact AllReadyH.nil
          refine coH 6 (oi := ?_) ?_ ?_ (fun K hK' => ?_) ?_; rotate_left; (simp only [gA, gB, gC]; exact rfl); rfl
          ·
           go_wp2_with (fail)
           refine hK'.out _ _ hK (fun hHeld => ?_)
           clear hK' K hHeld
           try simp only [Act.put, pB, pC, pD]
           refine tkH hK 9 (oi := ?_) (v := ?_) ?_ ?_ ?_ ?_ ?_ ?_ ?_ ?_; rotate_left 2; (simp only [gA, gB, gC]; exact rfl); kernel_rfl; kernel_rfl; kernel_rfl; exact fun _ _ _ h => h; rfl; (intro w' hSw; go_simp; with_reducible rfl); simp only [Act.put, pB, pC, pD]
           refine wpAnyH_ready (rs := [1]) (by kernel_rfl) (by simp) ?_
           refine coH 1 (oi := ?_) ?_ ?_ (fun K hK' => ?_) ?_; rotate_left; (simp only [gA, gB, gC]; exact rfl); rfl
           ·
            go_wp2_with (fail)
            refine hK'.out _ _ hK (fun hHeld => ?_)
            clear hK' K hHeld
            try simp only [Act.put, pB, pC, pD]
            refine tkH hK 4 (oi := ?_) (v := ?_) ?_ ?_ ?_ ?_ ?_ ?_ ?_ ?_; rotate_left 2; (simp only [gA, gB, gC]; exact rfl); kernel_rfl; kernel_rfl; kernel_rfl; exact fun _ _ _ h => h; rfl; (intro w' hSw; go_simp; with_reducible rfl); simp only [Act.put, pB, pC, pD]
            refine tkH hK 10 (oi := ?_) (v := ?_) ?_ ?_ ?_ ?_ ?_ ?_ ?_ ?_; rotate_left 2; (simp only [gA, gB, gC]; exact rfl); kernel_rfl; kernel_rfl; kernel_rfl; exact fun _ _ _ h => h; rfl; (intro w' hSw; go_simp; with_reducible rfl); simp only [Act.put, pB, pC, pD]
            refine wpAnyH_ready (rs := [22]) (by kernel_rfl) (by simp) ?_
            refine coH 22 (oi := ?_) ?_ ?_ (fun K hK' => ?_) ?_; rotate_left; (simp only [gA, gB, gC]; exact rfl); rfl
            ·
             have HX := Lib.hid (set2_all (b := w.heap.size) (k1 := wr.heap.size) (k2 := w.heap.size + 1) (.int .i64 (min a1 p.1)) (.int .i64 (min a2 p.2)) hL hK hH hrgn hBn2 (by omega) (by omega) (by omega) (by omega) (by omega))
             clear hrgn hBn2
             go_wp2_with (fail)
             refine hK'.out _ _ HX.out.2.1 (fun hHeld => ?_)
             clear hK' K hHeld hL hH hK a0 a1_ af0 af1
             try simp only [Act.put, pB, pC, pD]
             generalize ((d0.setCell ⟨w.heap.size, 0, none⟩ (.int .i64 (min a1 p.1))).setCell ⟨w.heap.size, 1, none⟩ (.int .i64 (min a2 p.2))) = x126y22 at *
             obtain ⟨hL, hK, hH, hrgn, hBn2⟩ := HX.out
             clear HX
             replace b0 : x126y22.cell? ⟨w.heap.size + 1, 0, none⟩ = some (.int .i64 c1) := cell_of hH rfl
             replace b1_ : x126y22.cell? ⟨w.heap.size + 1, 1, none⟩ = some (.int .i64 c2) := cell_of hH rfl
             replace bf0 : x126y22.frozen? ⟨w.heap.size + 1, 0, none⟩ = false := frozen_of hH
             replace bf1 : x126y22.frozen? ⟨w.heap.size + 1, 1, none⟩ = false := frozen_of hH
             refine wpAnyH_ready (rs := [23]) (by kernel_rfl) (by simp) ?_
             refine coH 23 (oi := ?_) ?_ ?_ (fun K hK' => ?_) ?_; rotate_left; (simp only [gA, gB, gC]; exact rfl); rfl
             ·
              have HX := Lib.hid (set2_all (b := w.heap.size + 1) (k1 := wr.heap.size) (k2 := w.heap.size) (.int .i64 (max c1 p.1)) (.int .i64 (max c2 p.2)) hH hK hL hrgn hBn2 (by omega) (by omega) (by omega) (by omega) (by omega))
              clear hrgn hBn2
              go_wp2_with (fail)
              refine hK'.out _ _ HX.out.2.1 (fun hHeld => ?_)
              clear hK' K hHeld hL hH hK b0 b1_ bf0 bf1
              try simp only [Act.put, pB, pC, pD]
              generalize ((x126y22.setCell ⟨w.heap.size + 1, 0, none⟩ (.int .i64 (max c1 p.1))).setCell ⟨w.heap.size + 1, 1, none⟩ (.int .i64 (max c2 p.2))) = x127y23 at *
              obtain ⟨hH, hK, hL, hrgn, hBn2⟩ := HX.out
              clear HX
              refine wpAnyH_done (by kernel_rfl) ?_ _
              have HL7 := Lib.hid hL
              have HH7 := Lib.hid hH
              have HRF := Lib.hid hrgn
              have HBN := Lib.hid hBn2
              clear hL hH hK hrgn hBn2
              go_wp2_with (fail)
              go_roundw
              case rel => exact ⟨true, _, _, _, _, _, _, rfl, HL7.out, HH7.out, HRF.out, HBD2.out, HBN.out⟩
              case measure => (have hq := HRF.out; rw [hq.left_eq, HRG1.out.left_eq]; exact hmeas)
             exact AllReadyH.nil
            exact AllReadyH.nil
           exact AllReadyH.nil
          exact AllReadyH.nil
         exact AllReadyH.nil
        exact AllReadyH.nil
end Go.Proofs.YtllagjncibfcmaaGreatDoor

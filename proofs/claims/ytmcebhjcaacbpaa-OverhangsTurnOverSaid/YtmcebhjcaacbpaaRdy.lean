/- What stands behind every law of blkeep1: three calls on constants. -/
import Derived.Test.YtmcebhjcaacbpaaHold
import Derived.Laws.BitsLemmas
import Derived.Maps.OwnSet
import Derived.Maps.OwnOps
import Derived.Maps.Views
import Derived.Carry
import Derived.DeepKeys4
import Derived.Deep.RegionLaw
import Derived.Deep.CutRange
import Derived.StillTailTactics
import Derived.Deep.AppendLies
import Derived.Lib.AppendZerosOnto
import Derived.Deep.QuietTactic
import Derived.BigQuiet
import Derived.Test.YtmcebhjcaacbpaaTk
import Derived.OneCell
import Derived.Deep.Cut
set_option linter.unusedSimpArgs false
set_option linter.unusedVariables false
namespace Go.Proofs.Ytmcebhjcaacbpaa.rdy
open Go.RowKit

theorem mulB {a b M N : Int} (ha : -M ≤ a ∧ a ≤ M) (hb : -N ≤ b ∧ b ≤ N) : -(M * N) ≤ a * b ∧ a * b ≤ M * N := by
  have h1 : a.natAbs ≤ M.toNat := by omega
  have h2 : b.natAbs ≤ N.toNat := by omega
  have h3 := Nat.mul_le_mul h1 h2
  rw [← Int.natAbs_mul] at h3
  have h4 : ((M.toNat * N.toNat : Nat) : Int) = M * N := by
    rw [Int.natCast_mul, Int.toNat_of_nonneg (by omega), Int.toNat_of_nonneg (by omega)]
  omega
/-- Twice the area of a triangle, counterclockwise above 0. -/
def tI (ax ay bx by_ px py : Int) : Int := (bx - ax) * (py - ay) - (by_ - ay) * (px - ax)
def sgn (T : Int) : Int := if 0 < T then 1 else if T < 0 then -1 else 0
def sm (n : Int) : Prop := -1000000 ≤ n ∧ n ≤ 1000000
theorem w64 {n : Int} (h : -9000000000000000000 ≤ n ∧ n ≤ 9000000000000000000) : IntKind.i64.wrap n = n := by rw [IntKind.wrap_i64]; omega
theorem turnP_any (ax ay bx by_ px py : Int) (w : World) (h1 : sm ax) (h2 : sm ay) (h3 : sm bx) (h4 : sm by_) (h5 : sm px) (h6 : sm py) :
    Calls Try.prog 85 #[.agg #[.int .i64 ax, .int .i64 ay], .agg #[.int .i64 bx, .int .i64 by_], .agg #[.int .i64 px, .int .i64 py]] w
      fun e w' => e = .returned (.int .i64 (sgn (tI ax ay bx by_ px py))) ∧ Below w.heap.size w w' := by
  unfold sm at *
  have m1 := mulB (a := bx - ax) (b := py - ay) (M := 2000000) (N := 2000000) (by omega) (by omega)
  have m2 := mulB (a := by_ - ay) (b := px - ax) (M := 2000000) (N := 2000000) (by omega) (by omega)
  have e1 : IntKind.i64.wrap (bx - ax) = bx - ax := w64 (by omega)
  have e2 : IntKind.i64.wrap (py - ay) = py - ay := w64 (by omega)
  have e3 : IntKind.i64.wrap (by_ - ay) = by_ - ay := w64 (by omega)
  have e4 : IntKind.i64.wrap (px - ax) = px - ax := w64 (by omega)
  have e5 : IntKind.i64.wrap ((bx - ax) * (py - ay)) = (bx - ax) * (py - ay) := w64 (by omega)
  have e6 : IntKind.i64.wrap ((by_ - ay) * (px - ax)) = (by_ - ay) * (px - ax) := w64 (by omega)
  obtain ⟨T, hT⟩ : ∃ T, tI ax ay bx by_ px py = T := ⟨_, rfl⟩
  have e7 : IntKind.i64.wrap ((bx - ax) * (py - ay) - (by_ - ay) * (px - ax)) = T := by rw [← hT]; exact w64 (by omega)
  rw [hT]
  clear m1 m2 h1 h2 h3 h4 h5 h6 hT
  rcases Int.lt_trichotomy 0 T with h | h | h
  · have hs : sgn T = 1 := by simp [sgn, h]
    go_enter Try.func85, Try.ntmps85
    go_wp2
    go_ret
    exact ⟨by simp [hs], (by repeat (first | exact Below.refl _ _ | assumption | refine Below.drew ?_ | refine bdrewN ?_ _ | refine Below.setCell ?_ (by first | omega | (simp <;> omega)) _ | refine Below.alloc ?_ (by first | omega | (simp <;> omega)) _))⟩
  · subst h
    go_enter Try.func85, Try.ntmps85
    go_wp2
    go_ret
    exact ⟨rfl, (by repeat (first | exact Below.refl _ _ | assumption | refine Below.drew ?_ | refine bdrewN ?_ _ | refine Below.setCell ?_ (by first | omega | (simp <;> omega)) _ | refine Below.alloc ?_ (by first | omega | (simp <;> omega)) _))⟩
  · have hs : sgn T = -1 := by simp [sgn, h]; omega
    have h' : ¬ 0 < T := by omega
    go_enter Try.func85, Try.ntmps85
    go_wp2
    go_ret
    exact ⟨by simp [hs], (by repeat (first | exact Below.refl _ _ | assumption | refine Below.drew ?_ | refine bdrewN ?_ _ | refine Below.setCell ?_ (by first | omega | (simp <;> omega)) _ | refine Below.alloc ?_ (by first | omega | (simp <;> omega)) _))⟩

theorem ret_b {a b : Bool} (h : a = true ↔ b = true) : Ending.returned (.bool a) = .returned (.bool b) := by rw [Bool.eq_iff_iff.2 h]
def oB (a b c d : Int) : Bool := decide (min c d ≤ max a b ∧ min a b ≤ max c d)
theorem overlap_any (a b c d : Int) (w : World) :
    Calls Try.prog 102 #[.int .i64 a, .int .i64 b, .int .i64 c, .int .i64 d] w fun e w' => e = .returned (.bool (oB a b c d)) ∧ Below w.heap.size w w' := by
  go_enter Try.func102, Try.ntmps102
  go_wp2
  all_goals go_ret
  all_goals exact ⟨ret_b (by simp only [oB, decide_eq_true_eq, Bool.false_eq_true, true_iff, false_iff] <;> omega), (by repeat (first | exact Below.refl _ _ | assumption | refine Below.drew ?_ | refine bdrewN ?_ _ | refine Below.setCell ?_ (by first | omega | (simp <;> omega)) _ | refine Below.alloc ?_ (by first | omega | (simp <;> omega)) _))⟩
def rB (x y : Int) : Bool := decide (max x y ≤ 100000 ∧ -100000 ≤ min x y)
theorem turnS_any (ax ay bx by_ px py : Int) (w : World) (h1 : sm ax) (h2 : sm ay) (h3 : sm bx) (h4 : sm by_) (h5 : sm px) (h6 : sm py) :
    Calls Try.prog 103 #[.agg #[.int .i64 ax, .int .i64 ay, .int .i64 bx, .int .i64 by_], .agg #[.int .i64 px, .int .i64 py]] w
      fun e w' => e = .returned (.int .i64 (sgn (tI ax ay bx by_ px py))) ∧ Below w.heap.size w w' := by
  go_enter Try.func103, Try.ntmps103
  go_wp2_with (go_at_call 85; refine (turnP_any ax ay bx by_ px py _ h1 h2 h3 h4 h5 h6).mono ?_; rintro e w' ⟨rfl, hb⟩)
  go_ret
  exact ⟨rfl, Below.trans (by repeat (first | exact Below.refl _ _ | assumption | refine Below.drew ?_ | refine bdrewN ?_ _ | refine Below.setCell ?_ (by first | omega | (simp <;> omega)) _ | refine Below.alloc ?_ (by first | omega | (simp <;> omega)) _)) (hb.mono (by simp <;> omega))⟩

def tbB (ax ay bx by_ cx cy dx dy : Int) : Bool := decide ((bx - ax) * (dx - cx) + (by_ - ay) * (dy - cy) < 0 ∧ sgn (tI ax ay bx by_ dx dy) = 0)
theorem turnsBack_any (ax ay bx by_ cx cy dx dy : Int) (w : World) (h1 : sm ax) (h2 : sm ay) (h3 : sm bx) (h4 : sm by_) (h5 : sm cx) (h6 : sm cy) (h7 : sm dx) (h8 : sm dy) :
    Calls Try.prog 101 #[.agg #[.int .i64 ax, .int .i64 ay, .int .i64 bx, .int .i64 by_], .agg #[.int .i64 cx, .int .i64 cy, .int .i64 dx, .int .i64 dy]] w
      fun e w' => e = .returned (.bool (tbB ax ay bx by_ cx cy dx dy)) ∧ Below w.heap.size w w' := by
  have b1 := h1
  have b2 := h2
  have b3 := h3
  have b4 := h4
  have b5 := h5
  have b6 := h6
  have b7 := h7
  have b8 := h8
  unfold sm at b1 b2 b3 b4 b5 b6 b7 b8
  have m1 := mulB (a := bx - ax) (b := dx - cx) (M := 2000000) (N := 2000000) (by omega) (by omega)
  have m2 := mulB (a := by_ - ay) (b := dy - cy) (M := 2000000) (N := 2000000) (by omega) (by omega)
  have e1 : IntKind.i64.wrap (bx - ax) = bx - ax := w64 (by omega)
  have e2 : IntKind.i64.wrap (dx - cx) = dx - cx := w64 (by omega)
  have e3 : IntKind.i64.wrap (by_ - ay) = by_ - ay := w64 (by omega)
  have e4 : IntKind.i64.wrap (dy - cy) = dy - cy := w64 (by omega)
  have e5 : IntKind.i64.wrap ((bx - ax) * (dx - cx)) = (bx - ax) * (dx - cx) := w64 (by omega)
  have e6 : IntKind.i64.wrap ((by_ - ay) * (dy - cy)) = (by_ - ay) * (dy - cy) := w64 (by omega)
  obtain ⟨T, hT⟩ : ∃ T, (bx - ax) * (dx - cx) + (by_ - ay) * (dy - cy) = T := ⟨_, rfl⟩
  have e7 : IntKind.i64.wrap ((bx - ax) * (dx - cx) + (by_ - ay) * (dy - cy)) = T := by rw [← hT]; exact w64 (by omega)
  obtain ⟨Z, hZ⟩ : ∃ Z, sgn (tI ax ay bx by_ dx dy) = Z := ⟨_, rfl⟩
  have HZ := Lib.hid hZ
  have hr : tbB ax ay bx by_ cx cy dx dy = decide (T < 0 ∧ Z = 0) := by unfold tbB; rw [hT, hZ]
  rw [hr]
  clear m1 m2 hT b1 b2 b3 b4 b5 b6 b7 b8 hZ hr
  by_cases h : T < 0
  · go_enter Try.func101, Try.ntmps101
    go_wp2_with (go_at_call 103; refine (turnS_any ax ay bx by_ dx dy _ h1 h2 h3 h4 h7 h8).mono ?_; rintro e w' ⟨rfl, hb⟩; rw [HZ.out])
    go_ret
    exact ⟨ret_b (by simp [h]), Below.trans (by repeat (first | exact Below.refl _ _ | assumption | refine Below.drew ?_ | refine bdrewN ?_ _ | refine Below.setCell ?_ (by first | omega | (simp <;> omega)) _ | refine Below.alloc ?_ (by first | omega | (simp <;> omega)) _)) (hb.mono (by simp <;> omega))⟩
  · go_enter Try.func101, Try.ntmps101
    go_wp2
    go_ret
    exact ⟨ret_b (by simp; omega), (by repeat (first | exact Below.refl _ _ | assumption | refine Below.drew ?_ | refine bdrewN ?_ _ | refine Below.setCell ?_ (by first | omega | (simp <;> omega)) _ | refine Below.alloc ?_ (by first | omega | (simp <;> omega)) _))⟩
end Go.Proofs.Ytmcebhjcaacbpaa.rdy
namespace Go.Proofs.Ytmcebhjcaacbpaa.rdy
open Go.RowKit Go.Maps

/-- Pairs of numbers in a block. -/
def Du (w : World) (b off n : Nat) (X Y : Nat → Int) : Prop :=
  ∀ i, i < n → (w.cell? ⟨b, off + i * 2, none⟩ = some (.int .i64 (X i)) ∧ w.cell? ⟨b, off + i * 2 + 1, none⟩ = some (.int .i64 (Y i)))
theorem Du.kept {w w' : World} {b off n : Nat} {X Y : Nat → Int} (h : Du w b off n X Y) (hb : Below w.heap.size w w') (hl : b < w.heap.size) : Du w' b off n X Y :=
  fun i hi => ⟨cellk hb hl (h i hi).1, cellk hb hl (h i hi).2⟩

theorem laidOutP : laidOutB Try.prog = true := by kernel_rfl
theorem pointKeyed : Keyed Try.prog 67 :=
  Keyed.of_law (deep_law_laid (m := 100) laidOutP (by decide) (of_decide_eq_true (by kernel_rfl)) (by kernel_rfl) (by kernel_rfl))
def PK (p q : Int) : Lit := .string (keyBytes [.int .i64 p, .int .i64 q])
theorem key_point (p q : Int) (hp : (Lit.int .i64 p).wf = true) (hq : (Lit.int .i64 q).wf = true) : keyOf Try.prog 67 (.agg #[.int .i64 p, .int .i64 q]) = some (PK p q) := by
  have hk : Try.prog.keyType 67 = true := by kernel_rfl
  have hf : (Value.agg #[.int .i64 p, .int .i64 q]).formed Try.prog 67 = true := by kernel_rfl
  have c2 : Try.prog.cellsOf 67 = 2 := by kernel_rfl
  have c1 : Try.prog.cellsOf 3 = 1 := by kernel_rfl
  obtain ⟨d, hd⟩ : ∃ d, Try.prog.types.size + 1 = d + 2 := ⟨Try.prog.types.size - 1, by
    have : 1 ≤ Try.prog.types.size := of_decide_eq_true (by kernel_rfl)
    omega⟩
  have hcs : (Value.agg #[.int .i64 p, .int .i64 q]).cells.toList = [.int .i64 p, .int .i64 q] := rfl
  unfold keyOf
  rw [Try.underlying67, hd]
  simp only [hk, hf, Bool.and_self, if_true, hcs]
  simp [Program.keyLits, Try.underlying67, Try.underlying3, PK, hp, hq, c1, c2]
theorem pk_lit (p q : Int) : WideAt.IsKeyLit (PK p q) := by simp [PK, WideAt.IsKeyLit]
theorem pk_inj {p q p' q' : Int} (hp : (Lit.int .i64 p).wf = true) (hq : (Lit.int .i64 q).wf = true) (hp' : (Lit.int .i64 p').wf = true) (hq' : (Lit.int .i64 q').wf = true) (h : PK p q = PK p' q') : p = p' ∧ q = q' := by
  have h1 := key_point p q hp hq
  have h2 := key_point p' q' hp' hq'
  rw [← h] at h2
  have := pointKeyed.inj h1 h2
  simpa using this
theorem sm_wf {n : Int} (h : sm n) : (Lit.int .i64 n).wf = true := WalkArith.wf_i64 (by unfold sm at h; omega)
/-- The set of the first n points. -/
def PD (X Y : Nat → Int) : Nat → DataW Unit
  | 0 => .map []
  | n + 1 => (PD X Y n).put (PK (X n) (Y n)) (.lit (.bool true))
theorem pd_tidy (X Y : Nat → Int) (n : Nat) : Tidy (PD X Y n) := by
  induction n with
  | zero => exact tidy_empty
  | succ n ih => exact ih.put (pk_lit _ _) _
theorem pd_new {X Y : Nat → Int} {n : Nat} {p q : Int} (hX : ∀ i, i < n → sm (X i) ∧ sm (Y i)) (hp : sm p) (hq : sm q) (hd : ∀ i, i < n → ¬ (X i = p ∧ Y i = q)) : Maps.has (PD X Y n) (PK p q) = false := by
  induction n with
  | zero => simp [PD, has_eq]
  | succ n ih =>
    simp only [PD]
    have hne : PK p q ≠ PK (X n) (Y n) := fun e => by
      obtain ⟨rfl, rfl⟩ := pk_inj (sm_wf hp) (sm_wf hq) (sm_wf (hX n (by omega)).1) (sm_wf (hX n (by omega)).2) e
      exact hd n (by omega) ⟨rfl, rfl⟩
    rw [has_put_other hne]
    exact ih (fun i hi => hX i (by omega)) (fun i hi => hd i (by omega))

theorem bool_inv {e : TypeId} (he : Try.prog.underlying e = some .bool) {v : Value} {z : DataW Unit × List MemPlace} (h : plainElem Try.prog e v = some z) : ∃ x : Bool, v = .bool x ∧ z = (.lit (.bool x), []) := by
  unfold plainElem at h
  rw [he] at h
  cases v <;> simp at h
  exact ⟨_, rfl, h.symm⟩
def Far (n : Nat) (X Y : Nat → Int) : Prop := ∀ i j, i < j → j < n → ¬ (X i = X j ∧ Y i = Y j)
theorem zeroBool (w : World) : (zeroValue 4).run Try.prog w = .ok (.bool false) w := by kernel_rfl
set_option maxRecDepth 100000 in
set_option maxHeartbeats 2000000 in
theorem hasTwice_no (b off n c : Nat) (X Y : Nat → Int) (w : World) (hb : b < w.heap.size) (hd : Du w b off n X Y) (hn : n ≤ 1000) (hs : ∀ i, i < n → sm (X i) ∧ sm (Y i)) (hf : Far n X Y) :
    Calls Try.prog 94 #[.slice (some ⟨b, off, none⟩) n c] w fun e w' => e = .returned (.bool false) ∧ Below w.heap.size w w' := by
  have hmm := @run_makeMap Try.prog
  have HD := Lib.hid hd
  have HS := Lib.hid hs
  have HF := Lib.hid hf
  clear hd hs hf
  go_enter Try.func94, Try.ntmps94
  go_wp2
  go_loopw [9] (fun i wr => ∃ k : Nat, k ≤ n ∧ i = .int .i64 k ∧ wr.ownsMap Try.prog 67 (plainElem Try.prog 4) w.heap.size k (PD X Y k) ∧ Below w.heap.size w wr) (fun i _ => n - (intOf i).toNat)
  case atStart => exact ⟨0, by omega, rfl, World.ownsMap_made _ _ _ _, (by repeat (first | exact Below.refl _ _ | assumption | refine Below.drew ?_ | refine bdrewN ?_ _ | refine Below.setCell ?_ (by first | omega | (simp <;> omega)) _ | refine Below.alloc ?_ (by first | omega | (simp <;> omega)) _))⟩
  case round =>
    obtain ⟨k, hk, rfl, hown, hbel⟩ := hrel
    have hsz := hbel.size
    have hlt0 := hown.lt
    have HO := Lib.hid hown
    clear hown
    by_cases hlt : k < n
    · obtain ⟨c0, c1⟩ := (HD.out.kept hbel hb) k hlt
      obtain ⟨s0, s1⟩ := HS.out k hlt
      have HK := Lib.hid (key_point (X k) (Y k) (sm_wf s0) (sm_wf s1))
      have hbw : b < wr.heap.size := by omega
      have hnew := pd_new (fun i hi => HS.out i (by omega)) s0 s1 (fun i hi => HF.out i k hi hlt)
      obtain ⟨v, ps, hrun, hv⟩ := (HO.out.alloc (.cells #[.int .i64 (X k), .int .i64 (Y k)] 67)).lookup pointKeyed Try.underlying150 (zeroBool _) (plainElem_bool Try.underlying4 false) HK.out
      obtain ⟨x, rfl, hx⟩ := bool_inv Try.underlying4 hv
      have hx' : x = false := by
        rw [Maps.atKey_of_not_has hnew] at hx
        simp at hx
        exact hx.1
      subst hx'
      clear hv hx hnew s0 s1
      go_wp2_with (at_mapUpdate; refine wpList_mapUpdate_own _ rfl _ _ _ 150 rfl 67 4 pointKeyed Try.underlying150 _ w.heap.size k _ rfl (HO.out.alloc _) (by unfold maxLen; omega) _ _ _ rfl rfl HK.out _ [] (plainElem_bool Try.underlying4 true) ?_; intro w4 hown4 hgrow4)
      have R1 : Below w.heap.size w w4 := (hbel.alloc hsz _).grown hgrow4 (by simp; omega) (fun j hj => by cases hj; exact Nat.le_refl _)
      have HO4 := Lib.hid hown4
      clear hgrow4 hown4
      go_roundw
      case rel => exact ⟨k + 1, by omega, by go_num, HO4.out, R1⟩
      case measure => simp [intOf]; omega
    · obtain rfl : n = k := by omega
      go_wp2
      go_ret
      exact ⟨rfl, hbel⟩
end Go.Proofs.Ytmcebhjcaacbpaa.rdy
namespace Go.Proofs.Ytmcebhjcaacbpaa.rdy
open Go.RowKit

theorem info_partsR {f : Option TypeInfo} {z : Value} {s b : Nat} (h : f.map (fun i => (i.zero, i.size, i.bytes)) = some (some z, s, b)) : ∃ i, f = some i ∧ i.zero = some z ∧ i.size = s ∧ i.bytes = b := by
  rcases f with _ | i
  · cases h
  · simp at h; exact ⟨i, rfl, h.1, h.2.1, h.2.2⟩
theorem info_side : (Try.prog.info? 147).map (fun i => (i.zero, i.size, i.bytes)) = some (some (.agg #[.int .i64 0, .int .i64 0, .int .i64 0, .int .i64 0]), 4, 32) := by kernel_rfl
/-- The sides' numbers as cells. -/
def nx (n i : Nat) : Nat := (i + 1) % n
def cells4 (n : Nat) (X Y : Nat → Int) : Nat → List Value
  | 0 => []
  | k + 1 => cells4 n X Y k ++ [.int .i64 (X k), .int .i64 (Y k), .int .i64 (X (nx n k)), .int .i64 (Y (nx n k))]
theorem cells4_length (n : Nat) (X Y : Nat → Int) (k : Nat) : (cells4 n X Y k).length = k * 4 := by
  induction k with
  | zero => rfl
  | succ k ih => simp [cells4, ih]; omega
/-- A slice with the sides of a ring, in new memory. -/
def SidesE (w : World) (base n : Nat) (X Y : Nat → Int) (e : Ending) (w' : World) : Prop :=
  ∃ a c, e = .returned (.slice a n c) ∧ w'.ownsRow base 147 4 (.slice a n c) n (cells4 n X Y n) ∧ Below w.heap.size w w'
theorem nx_lt {n k : Nat} (h : k < n) : nx n k < n := Nat.mod_lt _ (by omega)
theorem nx_mod (n k : Nat) : ((k : Int) + 1).tmod (n : Int) = ((nx n k : Nat) : Int) := by
  have : ((k : Int) + 1) = ((k + 1 : Nat) : Int) := by omega
  rw [this, Int.tmod_eq_emod_of_nonneg (by omega)]
  rfl
theorem made_atR {w : World} {base g size cap : Nat} {e : TypeId} (cur : Array Value) (hg : w.heap.size = g) (hb : base ≤ g) (hm : cap ≤ maxLen) (hs : cur.size = cap * size) :
    (w.alloc (.cells cur e)).ownsRow base e size (.slice (some ⟨g, 0, none⟩) 0 cap) 0 [] := by
  subst hg; exact World.ownsRow_made w cur cap hb hm hs
theorem mk_sides (n : Nat) (hn : n ≤ 1000000) : ∃ MC : Array Value, MC.size = n * 4 ∧ ∀ w : World, (Instr.makeSlice 144 (.int .i64 0) (.int .i64 (n : Int))).run Try.prog w = .ok (.slice (some ⟨w.heap.size, 0, none⟩) 0 n) (w.alloc (.cells MC 147)) := by
  obtain ⟨i0, hi0, hz0, hz1, hz2⟩ := info_partsR info_side
  refine ⟨madeCells (Value.agg #[.int .i64 0, .int .i64 0, .int .i64 0, .int .i64 0]).cells (n * 4), size_madeCells _ _, fun w => ?_⟩
  have h := run_makeSlice (P := Try.prog) w 144 147 i0 (.agg #[.int .i64 0, .int .i64 0, .int .i64 0, .int .i64 0]) Try.underlying144 hi0 hz0 .i64 .i64 0 (n : Int) (by omega) (by omega) (by rw [hz1]; omega) (by rw [hz2]; omega) (by omega)
  rw [h, hz1]
  rfl
set_option maxRecDepth 100000 in
set_option maxHeartbeats 4000000 in
theorem sidesOf_any (b off n c : Nat) (X Y : Nat → Int) (w : World) (hb : b < w.heap.size) (hd : Du w b off n X Y) (hn : n ≤ 1000) :
    Calls Try.prog 96 #[.slice (some ⟨b, off, none⟩) n c] w (SidesE w w.heap.size n X Y) := by
  obtain ⟨i0, hi0, hz0, hz1, hz2⟩ := info_partsR info_side
  obtain ⟨MC, hMC, hmk⟩ := mk_sides n (by omega)
  have HD := Lib.hid hd
  clear hd
  go_enter Try.func96, Try.ntmps96
  go_wp2_with (fail)
  go_loopw [3, 11] (fun s i wr => ∃ (k : Nat) (ao : Option Addr) (co : Nat), k ≤ n ∧ s = .slice ao k co ∧ i = .int .i64 k ∧ wr.ownsRow w.heap.size 147 4 (.slice ao k co) k (cells4 n X Y k) ∧ Below w.heap.size w wr) (fun _ i _ => n - (intOf i).toNat)
  case atStart => exact ⟨0, _, _, by omega, rfl, rfl, made_atR MC rfl (Nat.le_refl _) (by unfold maxLen; omega) hMC, (by repeat (first | exact Below.refl _ _ | assumption | refine Below.drew ?_ | refine bdrewN ?_ _ | refine Below.setCell ?_ (by first | omega | (simp <;> omega)) _ | refine Below.alloc ?_ (by first | omega | (simp <;> omega)) _))⟩
  case round =>
    obtain ⟨k, ao, co, hk, rfl, rfl, hown, hbel⟩ := hrel
    have hsz := hbel.size
    have HO := Lib.hid hown
    clear hown
    by_cases hlt : k < n
    · obtain ⟨c0, c1⟩ := (HD.out.kept hbel hb) k hlt
      have hx := nx_lt hlt
      obtain ⟨d0, d1⟩ := (HD.out.kept hbel hb) (nx n k) hx
      have hmod := nx_mod n k
      have hbw : b < wr.heap.size := by omega
      have hbe : b ≠ wr.heap.size := by omega
      obtain ⟨m, hmm⟩ : ∃ m, nx n k = m := ⟨_, rfl⟩
      rw [hmm] at hx d0 d1 hmod
      have HMM := Lib.hid hmm
      clear hmm
      have hw1 : IntKind.i64.wrap ((k : Int) + 1) = (k : Int) + 1 := w64 (by omega)
      have HB := Lib.hid hbel
      clear hbel
      go_upto_region 5 with (fail)
      have e0 : (wr.alloc (.cells #[.int .i64 (X k), .int .i64 (Y k)] 67)).cell? ⟨b, off + m * 2, none⟩ = some (.int .i64 (X m)) := by rw [World.cell?_alloc_old wr _ ⟨b, off + m * 2, none⟩ hbe]; exact d0
      have e1 : (wr.alloc (.cells #[.int .i64 (X k), .int .i64 (Y k)] 67)).cell? ⟨b, off + m * 2 + 1, none⟩ = some (.int .i64 (Y m)) := by rw [World.cell?_alloc_old wr _ ⟨b, off + m * 2 + 1, none⟩ hbe]; exact d1
      have hn0 : ¬ n = 0 := by omega
      have hm0 : (0 : Int) ≤ (m : Int) := by omega
      have hm1 : (m : Int) < (n : Int) := by omega
      have p0 : (wr.alloc (.cells #[.int .i64 (X k), .int .i64 (Y k)] 67)).cell? ⟨wr.heap.size, 0, none⟩ = some (.int .i64 (X k)) := by simp [go_sem]
      have p1 : (wr.alloc (.cells #[.int .i64 (X k), .int .i64 (Y k)] 67)).cell? ⟨wr.heap.size, 1, none⟩ = some (.int .i64 (Y k)) := by simp [go_sem]
      have HO1 := Lib.hid (HO.out.alloc (.cells #[.int .i64 (X k), .int .i64 (Y k)] 67))
      have HB1 := Lib.hid (HB.out.alloc hsz (.cells #[.int .i64 (X k), .int .i64 (Y k)] 67))
      have hs1 : w.heap.size ≤ (wr.alloc (.cells #[.int .i64 (X k), .int .i64 (Y k)] 67)).heap.size := by simp; omega
      change Code.wp _ _ _ _ (wr.alloc (.cells #[.int .i64 (X k), .int .i64 (Y k)] 67))
      generalize (wr.alloc (.cells #[.int .i64 (X k), .int .i64 (Y k)] 67)) = w1 at *
      have hne : (Value.slice ao k co).ownBlock ≠ some wr.heap.size := fun e => by have := (HO.out.lt _ e).2; omega
      have hne2 : (Value.slice ao k co).ownBlock ≠ some b := fun e => by have := (HO.out.lt _ e).1; omega
      have hz2' : wr.heap.size < w1.heap.size := World.block_lt_of_cell? w1 _ p0
      have hz3' : b < w1.heap.size := by omega
      have HM : Hid (cells4 n X Y (k + 1) = cells4 n X Y k ++ [.int .i64 (X k), .int .i64 (Y k), .int .i64 (X m), .int .i64 (Y m)]) := Lib.hid (by simp only [cells4]; rw [HMM.out])
      go_region_held3 (fun w' => w'.cell? ⟨wr.heap.size, 0, none⟩ = some (.int .i64 (X k)) ∧ w'.cell? ⟨wr.heap.size, 1, none⟩ = some (.int .i64 (Y k)) ∧ w'.cell? ⟨b, off + m * 2, none⟩ = some (.int .i64 (X m)) ∧ w'.cell? ⟨b, off + m * 2 + 1, none⟩ = some (.int .i64 (Y m)))
        (first
          | exact ⟨p0, p1, e0, e1⟩
          | assumption
          | go_keep
          | (go_split_ands
             refine ⟨?_, ?_, ?_, ?_⟩
             · (rw [hgrow.cell_far _ (by simp; omega) (Ne.symm hne)]; assumption)
             · (rw [hgrow.cell_far _ (by simp; omega) (Ne.symm hne)]; assumption)
             · (rw [hgrow.cell_far _ (by simp; omega) (Ne.symm hne2)]; assumption)
             · (rw [hgrow.cell_far _ (by simp; omega) (Ne.symm hne2)]; assumption)))
        (first
          | (refine step_append_lies _ (by rfl) _ _ _ (by rfl) w.heap.size 147 i0 (.agg #[.int .i64 0, .int .i64 0, .int .i64 0, .int .i64 0]) 4 32 Try.underlying144 hi0 hz0 hz1 hz2 rfl (by decide) (.slice ao k co) k (cells4 n X Y k) (by rfl) (HO1.out.alloc _) ⟨w1.heap.size, 0, none⟩ 1 1 [.int .i64 (X k), .int .i64 (Y k), .int .i64 (X m), .int .i64 (Y m)] (by rfl) (by rfl) (World.news_of_block (cs := #[.int .i64 (X k), .int .i64 (Y k), .int .i64 (X m), .int .i64 (Y m)]) (t := 147) (fr := (0, 0)) (heap_alloc_new w1 _)) (by simp [Value.oneCell']) (by omega) (by unfold maxLen; omega) (by omega) (by simp; omega) (w1.heap.size + 1) (by simp) ?_; intro g cap' w4 hown4 hgrow hat hlt4))
      all_goals
        have HB4 := Lib.hid (Below.grown (show Below w.heap.size w _ from by repeat (first | exact HB1.out | refine Below.drew ?_ | refine bdrewN ?_ _ | refine Below.alloc ?_ (by first | exact hs1 | omega | (simp <;> omega)) _)) hgrow (by simp; omega) (fun b hb => (HO1.out.lt b hb).1))
        go_wp2
        go_roundw
        case rel => exact ⟨k + 1, _, _, by omega, rfl, by go_num, by rw [HM.out]; exact hown4, HB4.out⟩
        case measure => simp [intOf]; omega
    · obtain rfl : n = k := by omega
      go_wp2
      go_ret
      exact ⟨_, _, rfl, HO.out, hbel⟩
end Go.Proofs.Ytmcebhjcaacbpaa.rdy
namespace Go.Proofs.Ytmcebhjcaacbpaa.rdy
open Go.RowKit

theorem cell_kept {w w' : World} {b o : Nat} {v : Value} (hb : Below w.heap.size w w') (hl : b < w.heap.size) (h : w.cell? ⟨b, o, none⟩ = some v) : w'.cell? ⟨b, o, none⟩ = some v := (hb.cell (p := ⟨b, o, none⟩) hl).trans h
def mB (ax ay bx by_ cx cy dx dy : Int) : Bool := oB ax bx cx dx && (oB ay by_ cy dy && (decide (sgn (tI ax ay bx by_ cx cy) * sgn (tI ax ay bx by_ dx dy) ≤ 0) && decide (sgn (tI cx cy dx dy ax ay) * sgn (tI cx cy dx dy bx by_) ≤ 0)))
theorem sgn_b (T : Int) : -1 ≤ sgn T ∧ sgn T ≤ 1 := by unfold sgn; split <;> (try split) <;> omega
theorem sgn_mul (T U : Int) : IntKind.i64.wrap (sgn T * sgn U) = sgn T * sgn U := by
  have := mulB (M := 1) (N := 1) (sgn_b T) (sgn_b U)
  exact w64 (by omega)
set_option maxHeartbeats 4000000 in
theorem meets_far (ax ay bx by_ cx cy dx dy : Int) (w : World) (h1 : sm ax) (h2 : sm ay) (h3 : sm bx) (h4 : sm by_) (h5 : sm cx) (h6 : sm cy) (h7 : sm dx) (h8 : sm dy) (hf : (oB ax bx cx dx && oB ay by_ cy dy) = false) :
    Calls Try.prog 97 #[.agg #[.int .i64 ax, .int .i64 ay, .int .i64 bx, .int .i64 by_], .agg #[.int .i64 cx, .int .i64 cy, .int .i64 dx, .int .i64 dy]] w
      fun e w' => e = .returned (.bool false) ∧ Below w.heap.size w w' := by
  obtain ⟨O1, hO1⟩ : ∃ b, oB ax bx cx dx = b := ⟨_, rfl⟩
  obtain ⟨O2, hO2⟩ : ∃ b, oB ay by_ cy dy = b := ⟨_, rfl⟩
  rw [hO1, hO2] at hf
  have HF := Lib.hid hf
  clear hf
  have HO1 := Lib.hid hO1
  have HO2 := Lib.hid hO2
  clear hO1 hO2
  go_enter Try.func97, Try.ntmps97
  go_upto_region 1 with (fail)
  have HW : Hid (Below w.heap.size w ((w.alloc (.cells #[.int .i64 ax, .int .i64 ay, .int .i64 bx, .int .i64 by_] 147)).alloc (.cells #[.int .i64 cx, .int .i64 cy, .int .i64 dx, .int .i64 dy] 147))) := Lib.hid (by repeat (first | exact Below.refl _ _ | assumption | refine Below.drew ?_ | refine bdrewN ?_ _ | refine Below.setCell ?_ (by first | omega | (simp <;> omega)) _ | refine Below.alloc ?_ (by first | omega | (simp <;> omega)) _))
  have hA : ((w.alloc (.cells #[.int .i64 ax, .int .i64 ay, .int .i64 bx, .int .i64 by_] 147)).alloc (.cells #[.int .i64 cx, .int .i64 cy, .int .i64 dx, .int .i64 dy] 147)).heap[w.heap.size]? = some (.cells #[.int .i64 ax, .int .i64 ay, .int .i64 bx, .int .i64 by_] 147) := (by repeat (first | (refine heap_new ?_; first | rfl | (simp; done)) | rw [Below.heap_setCell _ _ _ _ (by simp <;> omega)] | rw [Below.heap_alloc _ _ _ (by simp <;> omega)]))
  have hB : ((w.alloc (.cells #[.int .i64 ax, .int .i64 ay, .int .i64 bx, .int .i64 by_] 147)).alloc (.cells #[.int .i64 cx, .int .i64 cy, .int .i64 dx, .int .i64 dy] 147)).heap[w.heap.size + 1]? = some (.cells #[.int .i64 cx, .int .i64 cy, .int .i64 dx, .int .i64 dy] 147) := (by repeat (first | (refine heap_new ?_; first | rfl | (simp; done)) | rw [Below.heap_setCell _ _ _ _ (by simp <;> omega)] | rw [Below.heap_alloc _ _ _ (by simp <;> omega)]))
  have hz : ((w.alloc (.cells #[.int .i64 ax, .int .i64 ay, .int .i64 bx, .int .i64 by_] 147)).alloc (.cells #[.int .i64 cx, .int .i64 cy, .int .i64 dx, .int .i64 dy] 147)).heap.size = w.heap.size + 1 + 1 := by simp
  change Code.wp _ _ _ _ ((w.alloc (.cells #[.int .i64 ax, .int .i64 ay, .int .i64 bx, .int .i64 by_] 147)).alloc (.cells #[.int .i64 cx, .int .i64 cy, .int .i64 dx, .int .i64 dy] 147))
  generalize ((w.alloc (.cells #[.int .i64 ax, .int .i64 ay, .int .i64 bx, .int .i64 by_] 147)).alloc (.cells #[.int .i64 cx, .int .i64 cy, .int .i64 dx, .int .i64 dy] 147)) = w0 at *
  have lg : w.heap.size < w0.heap.size := by omega
  have lk : w.heap.size + 1 < w0.heap.size := by omega
  have pa0 : w0.cell? ⟨w.heap.size, 0, none⟩ = some (.int .i64 ax) := by simp [World.cell?, hA]
  have pa1 : w0.cell? ⟨w.heap.size, 1, none⟩ = some (.int .i64 ay) := by simp [World.cell?, hA]
  have pa2 : w0.cell? ⟨w.heap.size, 2, none⟩ = some (.int .i64 bx) := by simp [World.cell?, hA]
  have pa3 : w0.cell? ⟨w.heap.size, 3, none⟩ = some (.int .i64 by_) := by simp [World.cell?, hA]
  have pb0 : w0.cell? ⟨w.heap.size + 1, 0, none⟩ = some (.int .i64 cx) := by simp [World.cell?, hB]
  have pb1 : w0.cell? ⟨w.heap.size + 1, 1, none⟩ = some (.int .i64 cy) := by simp [World.cell?, hB]
  have pb2 : w0.cell? ⟨w.heap.size + 1, 2, none⟩ = some (.int .i64 dx) := by simp [World.cell?, hB]
  have pb3 : w0.cell? ⟨w.heap.size + 1, 3, none⟩ = some (.int .i64 dy) := by simp [World.cell?, hB]
  have HZ := Lib.hid hz
  clear hA hB hz
  go_wp2_with (fail)
  refine (overlap_any ax bx cx dx _).mono ?_
  rintro e w1 ⟨rfl, hb1⟩
  rw [HO1.out]
  have qa0 := cell_kept hb1 lg pa0
  have qa1 := cell_kept hb1 lg pa1
  have qa2 := cell_kept hb1 lg pa2
  have qa3 := cell_kept hb1 lg pa3
  have qb0 := cell_kept hb1 lk pb0
  have qb1 := cell_kept hb1 lk pb1
  have qb2 := cell_kept hb1 lk pb2
  have qb3 := cell_kept hb1 lk pb3
  have s1 := hb1.size
  have B1 := Lib.hid (HW.out.trans (hb1.mono HW.out.size))
  have lg1 := Nat.lt_of_lt_of_le lg s1
  have lk1 := Nat.lt_of_lt_of_le lk s1
  clear pa0 pa1 pa2 pa3 pb0 pb1 pb2 pb3
  clear hb1 s1 lg lk
  have lg := lg1
  have lk := lk1
  clear lg1 lk1
  rcases O1 with _ | _
  · go_wp2
    go_ret
    exact ⟨rfl, B1.out⟩
  go_wp2_with (fail)
  refine (overlap_any ay by_ cy dy _).mono ?_
  rintro e w2 ⟨rfl, hb2⟩
  rw [HO2.out]
  have ra0 := cell_kept hb2 lg qa0
  have ra1 := cell_kept hb2 lg qa1
  have ra2 := cell_kept hb2 lg qa2
  have ra3 := cell_kept hb2 lg qa3
  have rb0 := cell_kept hb2 lk qb0
  have rb1 := cell_kept hb2 lk qb1
  have rb2 := cell_kept hb2 lk qb2
  have rb3 := cell_kept hb2 lk qb3
  have s2 := hb2.size
  have B2 := Lib.hid (B1.out.trans (hb2.mono B1.out.size))
  have lg1 := Nat.lt_of_lt_of_le lg s2
  have lk1 := Nat.lt_of_lt_of_le lk s2
  clear qa0 qa1 qa2 qa3 qb0 qb1 qb2 qb3
  clear hb2 s2 lg lk
  have lg := lg1
  have lk := lk1
  clear lg1 lk1
  rcases O2 with _ | _
  · go_wp2
    go_ret
    exact ⟨rfl, B2.out⟩
  · exact absurd HF.out (by simp)
end Go.Proofs.Ytmcebhjcaacbpaa.rdy
namespace Go.Proofs.Ytmcebhjcaacbpaa.rdy
open Go.RowKit

/-- Sides in a block. -/
def Qu (w : World) (g n : Nat) (X Y : Nat → Int) : Prop :=
  ∀ i, i < n → (w.cell? ⟨g, i * 4, none⟩ = some (.int .i64 (X i)) ∧ w.cell? ⟨g, i * 4 + 1, none⟩ = some (.int .i64 (Y i)) ∧ w.cell? ⟨g, i * 4 + 2, none⟩ = some (.int .i64 (X (nx n i))) ∧ w.cell? ⟨g, i * 4 + 3, none⟩ = some (.int .i64 (Y (nx n i))))
theorem Qu.kept {w w' : World} {g n : Nat} {X Y : Nat → Int} (h : Qu w g n X Y) (hb : Below w.heap.size w w') (hl : g < w.heap.size) : Qu w' g n X Y :=
  fun i hi => ⟨cellk hb hl (h i hi).1, cellk hb hl (h i hi).2.1, cellk hb hl (h i hi).2.2.1, cellk hb hl (h i hi).2.2.2⟩
theorem cells4_get (n : Nat) (X Y : Nat → Int) : ∀ m i, i < m → (cells4 n X Y m)[i * 4]? = some (.int .i64 (X i)) ∧ (cells4 n X Y m)[i * 4 + 1]? = some (.int .i64 (Y i)) ∧ (cells4 n X Y m)[i * 4 + 2]? = some (.int .i64 (X (nx n i))) ∧ (cells4 n X Y m)[i * 4 + 3]? = some (.int .i64 (Y (nx n i)))
  | 0, i, h => by omega
  | m + 1, i, h => by
    have hl := cells4_length n X Y m
    by_cases e : i = m
    · subst e
      simp only [cells4]
      refine ⟨?_, ?_, ?_, ?_⟩ <;> rw [List.getElem?_append_right (by omega)] <;> simp [hl]
    · obtain ⟨h0, h1, h2, h3⟩ := cells4_get n X Y m i (by omega)
      simp only [cells4]
      refine ⟨?_, ?_, ?_, ?_⟩ <;> rw [List.getElem?_append_left (by omega)] <;> assumption
theorem own_qu {w : World} {base n c : Nat} {a : Option Addr} {X Y : Nat → Int} (h : w.ownsRow base 147 4 (.slice a n c) n (cells4 n X Y n)) (hn : n ≠ 0) : ∃ g, a = some ⟨g, 0, none⟩ ∧ base ≤ g ∧ g < w.heap.size ∧ Qu w g n X Y := by
  obtain ⟨g, c', hv, hg, hl⟩ := h.form (by omega)
  cases hv
  have hlen := cells4_length n X Y n
  refine ⟨g, rfl, hg, hl, fun i hi => ?_⟩
  obtain ⟨h0, h1, h2, h3⟩ := cells4_get n X Y n i hi
  refine ⟨?_, ?_, ?_, ?_⟩ <;> (rw [h.cellAt _ (by omega)]; assumption)
end Go.Proofs.Ytmcebhjcaacbpaa.rdy
namespace Go.Proofs.Ytmcebhjcaacbpaa.rdy
open Go.RowKit

/-- No two sides of a ring meet where they shouldn't. -/
structure NoMeet (n : Nat) (X Y : Nat → Int) : Prop where
  turns : ∀ i, i < n → tbB (X i) (Y i) (X (nx n i)) (Y (nx n i)) (X (nx n i)) (Y (nx n i)) (X (nx n (nx n i))) (Y (nx n (nx n i))) = false
  far : ∀ i k, i + 2 ≤ k → k < n → ¬ (i = 0 ∧ k + 1 = n) → (oB (X i) (X (nx n i)) (X k) (X (nx n k)) && oB (Y i) (Y (nx n i)) (Y k) (Y (nx n k))) = false
set_option maxRecDepth 100000 in
set_option maxHeartbeats 8000000 in
theorem meetsItself_no (b off n c : Nat) (X Y : Nat → Int) (w : World) (hb : b < w.heap.size) (hd : Du w b off n X Y) (h3 : 3 ≤ n) (hn : n ≤ 1000) (hs : ∀ i, i < n → sm (X i) ∧ sm (Y i)) (hm : NoMeet n X Y) :
    Calls Try.prog 95 #[.slice (some ⟨b, off, none⟩) n c] w fun e w' => e = .returned (.bool false) ∧ Below w.heap.size w w' := by
  have HS := Lib.hid hs
  have HM := Lib.hid hm
  clear hs hm
  go_enter Try.func95, Try.ntmps95
  go_wp2_with (fail)
  refine (sidesOf_any b off n c X Y w hb hd hn).mono ?_
  rintro e w1 ⟨a, c', rfl, ho, hb1⟩
  obtain ⟨g, rfl, hg, hgl, hq⟩ := own_qu ho (by omega)
  have HQ := Lib.hid hq
  have B1 := Lib.hid hb1
  have hs1 := hb1.size
  have hw1 : IntKind.i64.wrap ((n : Int) - 1) = (n : Int) - 1 := w64 (by omega)
  clear ho hq hb1 hd
  go_wp2_with (fail)
  go_loopw [16] (fun i wr => ∃ k : Nat, k ≤ n ∧ i = .int .i64 k ∧ Below w1.heap.size w1 wr) (fun i _ => n - (intOf i).toNat)
  case atStart => exact ⟨0, by omega, rfl, Below.refl _ _⟩
  case round =>
    obtain ⟨wo, hwo⟩ : ∃ wo : World, wr = wo := ⟨_, rfl⟩
    obtain ⟨i, hi, rfl, hbel⟩ := hrel
    rw [hwo] at hbel ⊢
    clear hwo
    have hsz := hbel.size
    by_cases hlt : i < n
    · obtain ⟨q0, q1, q2, q3⟩ := (HQ.out.kept hbel hgl) i hlt
      have hx := nx_lt hlt
      obtain ⟨r0, r1, r2, r3⟩ := (HQ.out.kept hbel hgl) (nx n i) hx
      have hmod := nx_mod n i
      have T1 := Lib.hid (HM.out.turns i hlt)
      have hgw : g < wo.heap.size := by omega
      have hge : g ≠ wo.heap.size := by omega
      obtain ⟨m, hmm⟩ : ∃ m, nx n i = m := ⟨_, rfl⟩
      rw [hmm] at hx r0 r1 r2 r3 hmod q2 q3
      have HMM := Lib.hid hmm
      have hx2 := nx_lt hx
      have s0 := HS.out i hlt
      have s1 := HS.out m hx
      have s2 := HS.out (nx n m) hx2
      have T2 : Hid (tbB (X i) (Y i) (X m) (Y m) (X m) (Y m) (X (nx n m)) (Y (nx n m)) = false) := Lib.hid (by have := T1.out; rw [hmm] at this; exact this)
      clear hmm T1
      have hwi : IntKind.i64.wrap ((i : Int) + 1) = (i : Int) + 1 := w64 (by omega)
      have hwi2 : IntKind.i64.wrap ((i : Int) + 2) = (i : Int) + 2 := w64 (by omega)
      have hn0 : ¬ n = 0 := by omega
      have hm0 : (0 : Int) ≤ (m : Int) := by omega
      have hm1 : (m : Int) < (n : Int) := by omega
      have HB := Lib.hid hbel
      clear hbel
      go_upto_region 6 with (fail)
      have p0 : (wo.alloc (.cells #[.int .i64 (X i), .int .i64 (Y i), .int .i64 (X m), .int .i64 (Y m)] 147)).cell? ⟨wo.heap.size, 0, none⟩ = some (.int .i64 (X i)) := by simp [go_sem]
      have p1 : (wo.alloc (.cells #[.int .i64 (X i), .int .i64 (Y i), .int .i64 (X m), .int .i64 (Y m)] 147)).cell? ⟨wo.heap.size, 1, none⟩ = some (.int .i64 (Y i)) := by simp [go_sem]
      have p2 : (wo.alloc (.cells #[.int .i64 (X i), .int .i64 (Y i), .int .i64 (X m), .int .i64 (Y m)] 147)).cell? ⟨wo.heap.size, 2, none⟩ = some (.int .i64 (X m)) := by simp [go_sem]
      have p3 : (wo.alloc (.cells #[.int .i64 (X i), .int .i64 (Y i), .int .i64 (X m), .int .i64 (Y m)] 147)).cell? ⟨wo.heap.size, 3, none⟩ = some (.int .i64 (Y m)) := by simp [go_sem]
      have e0 : (wo.alloc (.cells #[.int .i64 (X i), .int .i64 (Y i), .int .i64 (X m), .int .i64 (Y m)] 147)).cell? ⟨g, m * 4, none⟩ = some (.int .i64 (X m)) := by rw [World.cell?_alloc_old wo _ ⟨g, m * 4, none⟩ hge]; exact r0
      have e1 : (wo.alloc (.cells #[.int .i64 (X i), .int .i64 (Y i), .int .i64 (X m), .int .i64 (Y m)] 147)).cell? ⟨g, m * 4 + 1, none⟩ = some (.int .i64 (Y m)) := by rw [World.cell?_alloc_old wo _ ⟨g, m * 4 + 1, none⟩ hge]; exact r1
      have e2 : (wo.alloc (.cells #[.int .i64 (X i), .int .i64 (Y i), .int .i64 (X m), .int .i64 (Y m)] 147)).cell? ⟨g, m * 4 + 2, none⟩ = some (.int .i64 (X (nx n m))) := by rw [World.cell?_alloc_old wo _ ⟨g, m * 4 + 2, none⟩ hge]; exact r2
      have e3 : (wo.alloc (.cells #[.int .i64 (X i), .int .i64 (Y i), .int .i64 (X m), .int .i64 (Y m)] 147)).cell? ⟨g, m * 4 + 3, none⟩ = some (.int .i64 (Y (nx n m))) := by rw [World.cell?_alloc_old wo _ ⟨g, m * 4 + 3, none⟩ hge]; exact r3
      have HB2 := Lib.hid (HB.out.alloc hsz (.cells #[.int .i64 (X i), .int .i64 (Y i), .int .i64 (X m), .int .i64 (Y m)] 147))
      have hs2 : (wo.alloc (.cells #[.int .i64 (X i), .int .i64 (Y i), .int .i64 (X m), .int .i64 (Y m)] 147)).heap.size = wo.heap.size + 1 := by simp
      change Code.wp _ _ _ _ (wo.alloc (.cells #[.int .i64 (X i), .int .i64 (Y i), .int .i64 (X m), .int .i64 (Y m)] 147))
      generalize (wo.alloc (.cells #[.int .i64 (X i), .int .i64 (Y i), .int .i64 (X m), .int .i64 (Y m)] 147)) = w2 at *
      have hz2' : wo.heap.size < w2.heap.size := by omega
      have hz3' : g < w2.heap.size := by omega
      clear hs2 q0 q1 q2 q3 r0 r1 r2 r3
      go_cut [30] from 17 to 30 (fun s30 wx => s30 = .bool false ∧ Below w2.heap.size w2 wx)
      case first =>
        go_region_held3 (fun w' => w'.cell? ⟨wo.heap.size, 0, none⟩ = some (.int .i64 (X i)) ∧ w'.cell? ⟨wo.heap.size, 1, none⟩ = some (.int .i64 (Y i)) ∧ w'.cell? ⟨wo.heap.size, 2, none⟩ = some (.int .i64 (X m)) ∧ w'.cell? ⟨wo.heap.size, 3, none⟩ = some (.int .i64 (Y m)) ∧ w'.cell? ⟨g, m * 4, none⟩ = some (.int .i64 (X m)) ∧ w'.cell? ⟨g, m * 4 + 1, none⟩ = some (.int .i64 (Y m)) ∧ w'.cell? ⟨g, m * 4 + 2, none⟩ = some (.int .i64 (X (nx n m))) ∧ w'.cell? ⟨g, m * 4 + 3, none⟩ = some (.int .i64 (Y (nx n m))))
          (first
            | with_reducible exact ⟨p0, p1, p2, p3, e0, e1, e2, e3⟩
            | with_reducible assumption
            | with_reducible exact ⟨cellk Bx hz2' p0, cellk Bx hz2' p1, cellk Bx hz2' p2, cellk Bx hz2' p3, cellk Bx hz3' e0, cellk Bx hz3' e1, cellk Bx hz3' e2, cellk Bx hz3' e3⟩
            | go_keep)
          (first
            | (go_at_call 101; refine (turnsBack_any (X i) (Y i) (X m) (Y m) (X m) (Y m) (X (nx n m)) (Y (nx n m)) _ s0.1 s0.2 s1.1 s1.2 s1.1 s1.2 s2.1 s2.2).mono ?_; rintro e wx ⟨rfl, hbx⟩; rw [T2.out]; have Bx' : Below w2.heap.size w2 wx := Below.trans (by repeat (first | with_reducible exact Bx | with_reducible exact Below.refl _ _ | with_reducible refine Below.drew ?_ | with_reducible refine bdrewN ?_ _)) (hbx.mono (Below.size (B := w2.heap.size) (by repeat (first | with_reducible exact Bx | with_reducible exact Below.refl _ _ | with_reducible refine Below.drew ?_ | with_reducible refine bdrewN ?_ _)))); have Bx := Bx'; clear hbx Bx'))
        all_goals (go_wp2_with (fail))
        all_goals go_meet
        all_goals exact ⟨rfl, Bx⟩
      case rest =>
        obtain ⟨rfl, hbc⟩ := hcut
        have hcs := hbc.size
        replace p0 := cellk hbc hz2' p0
        replace p1 := cellk hbc hz2' p1
        replace p2 := cellk hbc hz2' p2
        replace p3 := cellk hbc hz2' p3
        have HB3 := Lib.hid (HB2.out.trans (hbc.mono HB2.out.size))
        have lp : wo.heap.size < wc.heap.size := by omega
        have hs3 := HB3.out.size
        clear hbc e0 e1 e2 e3 hz2' hz3'
        go_wp2_with (fail)
        go_loopw [7] (fun s wr => ∃ k : Nat, i + 2 ≤ k ∧ k ≤ n + 1 ∧ s = .int .i64 k ∧ Below wc.heap.size wc wr) (fun s _ => n + 1 - (intOf s).toNat)
        case atStart => exact ⟨i + 2, by omega, by omega, by go_num, Below.refl _ _⟩
        case round =>
          obtain ⟨k, hk, hk2, rfl, hbk⟩ := hrel
          have hks := hbk.size
          by_cases hkn : k < n
          · have hle : (k : Int) ≤ (n : Int) - 1 := by omega
            have HBK := Lib.hid (HB3.out.trans (hbk.mono HB3.out.size))
            have u0 := cellk hbk lp p0
            have u1 := cellk hbk lp p1
            have u2 := cellk hbk lp p2
            have u3 := cellk hbk lp p3
            obtain ⟨k0, k1, k2, k3⟩ := (HQ.out.kept HBK.out hgl) k hkn
            have lpk : wo.heap.size < wr.heap.size := by omega
            have lgk : g < wr.heap.size := by omega
            have HBW := Lib.hid hbk
            have hwk : IntKind.i64.wrap ((k : Int) + 1) = (k : Int) + 1 := w64 (by omega)
            clear hbk
            by_cases su : i = 0 ∧ k + 1 = n
            · have hi0 : ((i : Int) == 0) = true := by simp; omega
              have hk1 : ((k : Int) == (n : Int) - 1) = true := by simp; omega
              go_upto_region 12 with (fail)
              go_quiet (fail)
              go_wp2_with (fail)
              go_roundw
              case rel => exact ⟨k + 1, by omega, by omega, by go_num, bdrewN HBW.out _⟩
              case measure => simp [intOf]; omega
            · go_upto_region 11 with (fail)
              go_cut [8] from 38 to 44 (fun s8 wx => s8 = .bool false ∧ wr = wx)
              case first =>
                by_cases hi : i = 0
                · have hi0 : ((i : Int) == 0) = true := by simp; omega
                  have hk1 : ((k : Int) == (n : Int) - 1) = false := by simp; omega
                  go_wp2_with (fail)
                  go_meet
                  exact ⟨rfl, rfl⟩
                · have hi0 : ((i : Int) == 0) = false := by simp; omega
                  go_wp2_with (fail)
                  go_meet
                  exact ⟨rfl, rfl⟩
              case rest =>
                obtain ⟨rfl, rfl⟩ := hcut
                have hkx := nx_lt hkn
                have a2 := HS.out k hkn
                have a3 := HS.out (nx n k) hkx
                have FR := Lib.hid (HM.out.far i k hk hkn su)
                rw [HMM.out] at FR
                go_upto_region 12 with (fail)
                go_cut [54] from 45 to 54 (fun s54 wx => s54 = .bool false ∧ Below wr.heap.size wr wx)
                case first =>
                  go_region_held3 (fun w' => w'.cell? ⟨wo.heap.size, 0, none⟩ = some (.int .i64 (X i)) ∧ w'.cell? ⟨wo.heap.size, 1, none⟩ = some (.int .i64 (Y i)) ∧ w'.cell? ⟨wo.heap.size, 2, none⟩ = some (.int .i64 (X m)) ∧ w'.cell? ⟨wo.heap.size, 3, none⟩ = some (.int .i64 (Y m)) ∧ w'.cell? ⟨g, k * 4, none⟩ = some (.int .i64 (X k)) ∧ w'.cell? ⟨g, k * 4 + 1, none⟩ = some (.int .i64 (Y k)) ∧ w'.cell? ⟨g, k * 4 + 2, none⟩ = some (.int .i64 (X (nx n k))) ∧ w'.cell? ⟨g, k * 4 + 3, none⟩ = some (.int .i64 (Y (nx n k))))
                    (first
                      | with_reducible exact ⟨u0, u1, u2, u3, k0, k1, k2, k3⟩
                      | with_reducible assumption
                      | with_reducible exact ⟨cellk Bx lpk u0, cellk Bx lpk u1, cellk Bx lpk u2, cellk Bx lpk u3, cellk Bx lgk k0, cellk Bx lgk k1, cellk Bx lgk k2, cellk Bx lgk k3⟩
                      | go_keep)
                    (first
                      | (go_at_call 97; refine (meets_far (X i) (Y i) (X m) (Y m) (X k) (Y k) (X (nx n k)) (Y (nx n k)) _ s0.1 s0.2 s1.1 s1.2 a2.1 a2.2 a3.1 a3.2 FR.out).mono ?_; rintro e wx ⟨rfl, hbx⟩; have Bx' : Below wr.heap.size wr wx := Below.trans (by repeat (first | with_reducible exact Bx | with_reducible exact Below.refl _ _ | with_reducible refine Below.drew ?_ | with_reducible refine bdrewN ?_ _)) (hbx.mono (Below.size (B := wr.heap.size) (by repeat (first | with_reducible exact Bx | with_reducible exact Below.refl _ _ | with_reducible refine Below.drew ?_ | with_reducible refine bdrewN ?_ _)))); have Bx := Bx'; clear hbx Bx'))
                  all_goals (go_wp2_with (fail))
                  all_goals go_meet
                  all_goals exact ⟨rfl, Bx⟩
                case rest =>
                  obtain ⟨rfl, hbc4⟩ := hcut
                  have HB5 := Lib.hid (HBW.out.trans (hbc4.mono HBW.out.size))
                  clear hbc4
                  go_wp2_with (fail)
                  go_roundw
                  case rel => exact ⟨k + 1, by omega, by omega, by go_num, HB5.out⟩
                  case measure => simp [intOf]; omega
          · have hle : ¬ (k : Int) ≤ (n : Int) - 1 := by omega
            have HBK := Lib.hid (HB3.out.trans (hbk.mono HB3.out.size))
            go_wp2_with (fail)
            go_roundw
            case rel => exact ⟨i + 1, by omega, by go_num, HBK.out⟩
            case measure => simp [intOf]; omega
    · obtain rfl : n = i := by omega
      have R := Lib.hid (B1.out.trans (hbel.mono hs1))
      go_wp2
      go_ret
      exact ⟨rfl, R.out⟩
end Go.Proofs.Ytmcebhjcaacbpaa.rdy
namespace Go.Proofs.Ytmcebhjcaacbpaa.rdy
open Go.RowKit

/-- The first one of n that is not within. -/
def allB (n : Nat) (X Y : Nat → Int) : Bool := decide (∀ i, i < n → rB (X i) (Y i) = true)
theorem allB_no {n k : Nat} {X Y : Nat → Int} (hk : k < n) (h : rB (X k) (Y k) = false) : allB n X Y = false := by
  unfold allB; rw [decide_eq_false_iff_not]; intro h2; rw [h2 k hk] at h; cases h
theorem allB_yes {n : Nat} {X Y : Nat → Int} (h : ∀ i, i < n → rB (X i) (Y i) = true) : allB n X Y = true := by
  unfold allB; rw [decide_eq_true_eq]; exact h
/-- Points in memory, or none. -/
def PtsR (w : World) (a : Option Addr) (n : Nat) (X Y : Nat → Int) : Prop := n = 0 ∨ ∃ b off, a = some ⟨b, off, none⟩ ∧ b < w.heap.size ∧ Du w b off n X Y
theorem PtsR.kept {w w' : World} {a : Option Addr} {n : Nat} {X Y : Nat → Int} (h : PtsR w a n X Y) (hb : Below w.heap.size w w') : PtsR w' a n X Y := by
  rcases h with h | ⟨b, off, rfl, h1, h2⟩
  · exact .inl h
  · exact .inr ⟨b, off, rfl, Nat.lt_of_lt_of_le h1 hb.size, h2.kept hb h1⟩
set_option maxRecDepth 100000 in
set_option maxHeartbeats 8000000 in
theorem inRange_any (a : Option Addr) (n c : Nat) (X Y : Nat → Int) (w : World) (hn : n ≤ 1000000000) (hp : PtsR w a n X Y) :
    Calls Try.prog 93 #[.slice a n c] w fun e w' => e = .returned (.bool (allB n X Y)) ∧ Below w.heap.size w w' := by
  have HP := Lib.hid hp
  clear hp
  go_enter Try.func93, Try.ntmps93
  go_wp2_with (fail)
  go_loopw [7] (fun i wr => ∃ k : Nat, k ≤ n ∧ i = .int .i64 k ∧ (∀ j, j < k → rB (X j) (Y j) = true) ∧ Below w.heap.size w wr) (fun i _ => n - (intOf i).toNat)
  case atStart => exact ⟨0, by omega, rfl, fun j hj => by omega, Below.refl _ _⟩
  case round =>
    obtain ⟨k, hk, rfl, hj, hbel⟩ := hrel
    have HJ := Lib.hid hj
    clear hj
    have hsz := hbel.size
    by_cases hlt : k < n
    · rcases HP.out with h0 | ⟨b, off, rfl, hb, hd⟩
      · omega
      obtain ⟨c0, c1⟩ := (hd.kept hbel hb) k hlt
      have hbw : b < wr.heap.size := by omega
      have HB := Lib.hid hbel
      clear hbel hd
      have BA := Lib.hid (HB.out.alloc hsz (.cells #[.int .i64 (X k), .int .i64 (Y k)] 67))
      obtain ⟨x, hx⟩ : ∃ x, X k = x := ⟨_, rfl⟩
      obtain ⟨y, hy⟩ : ∃ y, Y k = y := ⟨_, rfl⟩
      have RX := Lib.hid hx
      have RY := Lib.hid hy
      rw [hx] at c0
      rw [hy] at c1
      rw [hx, hy] at BA
      clear hx hy
      by_cases hin : max x y ≤ 100000 ∧ -100000 ≤ min x y
      · have RB := Lib.hid (show rB (X k) (Y k) = true by rw [RX.out, RY.out]; unfold rB; rw [decide_eq_true_eq]; exact hin)
        have HS := Lib.hid (show ∀ j, j < k + 1 → rB (X j) (Y j) = true from fun j hj => by
          rcases Nat.lt_or_ge j k with h | h
          · exact HJ.out j h
          · obtain rfl : j = k := by omega
            exact RB.out)
        go_wp2_with (fail)
        all_goals first
          | (exfalso; omega)
          | (go_roundw
             case rel => exact ⟨k + 1, by omega, by go_num, HS.out, BA.out⟩
             case measure => simp [intOf]; omega)
      · have RB := Lib.hid (allB_no (X := X) (Y := Y) hlt (show rB (X k) (Y k) = false by rw [RX.out, RY.out]; unfold rB; rw [decide_eq_false_iff_not]; exact hin))
        go_wp2_with (fail)
        all_goals first
          | (exfalso; omega)
          | (go_ret
             exact ⟨by rw [RB.out]; rfl, BA.out⟩)
    · obtain rfl : n = k := by omega
      have HB := Lib.hid hbel
      clear hbel
      go_wp2_with (fail)
      go_ret
      exact ⟨by rw [allB_yes HJ.out]; rfl, HB.out⟩
end Go.Proofs.Ytmcebhjcaacbpaa.rdy
namespace Go.Proofs.Ytmcebhjcaacbpaa.rdy
open Go.RowKit

theorem own_newsR {w : World} {base g size n c : Nat} {e : TypeId} {xs : List Value} (h : w.ownsRow base e size (.slice (some ⟨g, 0, none⟩) n c) n xs) : ∀ j u, xs[j]? = some u → w.cell? ((⟨g, 0, none⟩ : Addr).add j) = some u := by
  intro j u hu
  have hj : j < xs.length := (List.getElem?_eq_some_iff.1 hu).1
  have hadd : (⟨g, 0, none⟩ : Addr).add j = ⟨g, j, none⟩ := by unfold Addr.add; split <;> simp_all
  rw [hadd, h.cellAt j (by rw [← h.1]; exact hj)]
  exact hu
theorem cells4_one (n : Nat) (X Y : Nat → Int) : ∀ m, ∀ u ∈ cells4 n X Y m, u.oneCell' = true
  | 0 => by simp [cells4]
  | m + 1 => by
    intro u hu
    simp only [cells4, List.mem_append] at hu
    rcases hu with hu | hu
    · exact cells4_one n X Y m u hu
    · simp at hu; rcases hu with rfl | rfl | rfl | rfl <;> rfl

set_option maxRecDepth 100000 in
set_option maxHeartbeats 8000000 in
theorem checkRing_ok (b off n c : Nat) (X Y : Nat → Int) (w : World) (hb : b < w.heap.size) (hd : Du w b off n X Y) (h3 : 3 ≤ n) (hn : n ≤ 500) (hs : ∀ i, i < n → rB (X i) (Y i) = true) (hf : Far n X Y) (hm : NoMeet n X Y) :
    Calls Try.prog 88 #[.slice (some ⟨b, off, none⟩) n c] w fun e w' => e = .returned (.int .i64 0) ∧ Below w.heap.size w w' := by
  have hsm : ∀ i, i < n → sm (X i) ∧ sm (Y i) := fun i hi => by
    have := hs i hi
    unfold rB at this
    simp only [decide_eq_true_eq] at this
    unfold sm
    omega
  have HD := Lib.hid hd
  have HS := Lib.hid hs
  have HF := Lib.hid hf
  have HM := Lib.hid hm
  have HSM := Lib.hid hsm
  clear hd hs hf hm hsm
  have l3 : ¬ (n : Int) < 3 := by omega
  have l5 : ¬ (500 : Int) < (n : Int) := by omega
  go_enter Try.func88, Try.ntmps88
  have R1 := Lib.hid (allB_yes HS.out)
  go_wp2_with (fail)
  refine (inRange_any (some ⟨b, off, none⟩) n c X Y _ (by omega) (.inr ⟨b, off, rfl, by omega, HD.out⟩)).mono ?_
  rintro e w1 ⟨rfl, hb1⟩
  rw [R1.out]
  have HB := Lib.hid hb1
  have s1 := hb1.size
  clear hb1
  go_wp2_with (fail)
  refine (hasTwice_no b off n c X Y _ (by omega) (HD.out.kept HB.out hb) (by omega) HSM.out HF.out).mono ?_
  rintro e w2 ⟨rfl, hb2⟩
  have B2 := Lib.hid (HB.out.trans (hb2.mono HB.out.size))
  have s2 := hb2.size
  clear hb2
  go_wp2_with (fail)
  refine (meetsItself_no b off n c X Y _ (by omega) (HD.out.kept B2.out hb) h3 (by omega) HSM.out HM.out).mono ?_
  rintro e w3 ⟨rfl, hb3⟩
  have B3 := Lib.hid (B2.out.trans (hb3.mono B2.out.size))
  clear hb3
  go_wp2
  go_ret
  exact ⟨rfl, B3.out⟩

set_option maxRecDepth 100000 in
set_option maxHeartbeats 8000000 in
theorem meetEach_one (br or b off n c cr : Nat) (X Y : Nat → Int) (w : World) (hbr : br < w.heap.size) (hr : w.cell? ⟨br, or, none⟩ = some (.slice (some ⟨b, off, none⟩) n c)) (hb : b < w.heap.size) (hd : Du w b off n X Y) (h1 : 1 ≤ n) (hn : n ≤ 500) :
    Calls Try.prog 89 #[.slice (some ⟨br, or, none⟩) 1 cr] w fun e w' => e = .returned (.bool false) ∧ Below w.heap.size w w' := by
  obtain ⟨i0, hi0, hz0, hz1, hz2⟩ := info_partsR info_side
  go_enter Try.func89, Try.ntmps89
  go_wp2_with (fail)
  refine wp_loop_rounds 2 ?_
  rw [rounds_succ]
  go_wp2_with (fail)
  refine (sidesOf_any b off n c X Y w hb hd (by omega)).mono ?_
  rintro e w1 ⟨a, c', rfl, ho, hb1⟩
  obtain ⟨g, rfl, hg, hgl, hq⟩ := own_qu ho (by omega)
  have HO := Lib.hid ho
  have HQ := Lib.hid hq
  have B1 := Lib.hid hb1
  have hs1 := hb1.size
  clear ho hq hb1 hd hr
  go_wp2_with (fail)
  go_loopw [21] (fun i wr => ∃ k : Nat, k ≤ n ∧ i = .int .i64 k ∧ Below w1.heap.size w1 wr) (fun i _ => n - (intOf i).toNat)
  case atStart => exact ⟨0, by omega, rfl, Below.refl _ _⟩
  case round =>
    obtain ⟨k, hk, rfl, hbel⟩ := hrel
    have hsz := hbel.size
    by_cases hlt : k < n
    · obtain ⟨q0, q1, q2, q3⟩ := (HQ.out.kept hbel hgl) k hlt
      have hgw : g < wr.heap.size := by omega
      have HB := Lib.hid hbel
      clear hbel
      go_wp2_with (fail)
      refine wp_loop_rounds 1 ?_
      rw [rounds_succ]
      have R2 := Lib.hid (HB.out.alloc hsz (.cells #[.int .i64 (X k), .int .i64 (Y k), .int .i64 (X (nx n k)), .int .i64 (Y (nx n k))] 147))
      go_wp2_with (fail)
      go_roundw
      case rel => exact ⟨k + 1, by omega, by go_num, R2.out⟩
      case measure => simp [intOf]; omega
    · obtain rfl : n = k := by omega
      have HO2 := Lib.hid (ownsRow_below HO.out hbel)
      have HB := Lib.hid (B1.out.trans (hbel.mono hs1))
      have hsw := HB.out.size
      clear hbel
      go_wp2_with (at_builtin; refine wpList_append_lies _ rfl _ _ 144 rfl w.heap.size 147 i0 (.agg #[.int .i64 0, .int .i64 0, .int .i64 0, .int .i64 0]) 4 32 Try.underlying144 hi0 hz0 hz1 hz2 rfl (by decide) _ 0 [] rfl (World.ownsRow_nil _ _ _ _) ⟨g, 0, none⟩ n c' (cells4 n X Y n) rfl (cells4_length n X Y n) (own_newsR HO2.out) (cells4_one n X Y n) (by omega) (by unfold maxLen; omega) (by omega) (by omega) _ rfl ?_; intro g4 cap' w4 hown4 hgrow4 hat hlt4; have HG4 := Lib.hid hgrow4; clear hown4 hgrow4 hat)
      have R := Lib.hid (HB.out.grown HG4.out hsw (fun j hj => by cases hj))
      go_wp2_with (fail)
      rw [rounds_succ]
      go_wp2
      go_ret
      exact ⟨rfl, R.out⟩
end Go.Proofs.Ytmcebhjcaacbpaa.rdy
namespace Go.Proofs.Ytmcebhjcaacbpaa.rdy
open Go.RowKit

set_option maxRecDepth 100000 in
set_option maxHeartbeats 4000000 in
theorem checkRegion_one (br or b off n c cr : Nat) (X Y : Nat → Int) (w : World) (hbr : br < w.heap.size) (hr : w.cell? ⟨br, or, none⟩ = some (.slice (some ⟨b, off, none⟩) n c)) (hb : b < w.heap.size) (hd : Du w b off n X Y) (h3 : 3 ≤ n) (hn : n ≤ 500) (hs : ∀ i, i < n → rB (X i) (Y i) = true) (hf : Far n X Y) (hm : NoMeet n X Y) :
    Calls Try.prog 83 #[.slice (some ⟨br, or, none⟩) 1 cr] w fun e w' => e = .returned (.int .i64 0) ∧ Below w.heap.size w w' := by
  have HD := Lib.hid hd
  clear hd
  have e1 : IntKind.i64.wrap (0 + (n : Int)) = (n : Int) := by rw [Int.zero_add]; exact w64 (by omega)
  have e1' : IntKind.i64.wrap (n : Int) = (n : Int) := w64 (by omega)
  have l2 : ¬ (2000 : Int) < (n : Int) := by omega
  go_enter Try.func83, Try.ntmps83
  go_wp2_with (fail)
  refine wp_loop_rounds 2 ?_
  rw [rounds_succ]
  go_wp2_with (fail)
  rw [rounds_succ]
  go_wp2_with (fail)
  refine wp_loop_rounds 2 ?_
  rw [rounds_succ]
  go_wp2_with (fail)
  refine (checkRing_ok b off n c X Y w hb HD.out h3 hn hs hf hm).mono ?_
  rintro e w1 ⟨rfl, hb1⟩
  have B1 := Lib.hid hb1
  have hs1 := hb1.size
  have hr1 := cellk hb1 hbr hr
  clear hb1 hr
  go_wp2_with (fail)
  rw [rounds_succ]
  go_wp2_with (fail)
  refine (meetEach_one br or b off n c cr X Y w1 (by omega) hr1 (by omega) (HD.out.kept B1.out hb) (by omega) hn).mono ?_
  rintro e w2 ⟨rfl, hb2⟩
  have R := Lib.hid (B1.out.trans (hb2.mono hs1))
  clear hb2
  go_wp2
  go_ret
  exact ⟨rfl, R.out⟩

theorem checkRegionR_one (br or b off n c cr : Nat) (X Y : Nat → Int) (w : World) (hbr : br < w.heap.size) (hr : w.cell? ⟨br, or, none⟩ = some (.slice (some ⟨b, off, none⟩) n c)) (hb : b < w.heap.size) (hd : Du w b off n X Y) (h3 : 3 ≤ n) (hn : n ≤ 500) (hs : ∀ i, i < n → rB (X i) (Y i) = true) (hf : Far n X Y) (hm : NoMeet n X Y) :
    Calls Try.prog 79 #[.slice (some ⟨br, or, none⟩) 1 cr] w fun e w' => e = .returned (.int .i64 0) ∧ Below w.heap.size w w' := by
  go_enter Try.func79, Try.ntmps79
  go_wp2_with (fail)
  refine (checkRegion_one br or b off n c cr X Y w hbr hr hb hd h3 hn hs hf hm).mono ?_
  rintro e w1 ⟨rfl, hb1⟩
  go_wp2
  go_ret
  exact ⟨rfl, hb1⟩
theorem info_int1R : (Try.prog.info? 3).map (fun i => (i.zero, i.size, i.bytes)) = some (some (.int .i64 0), 1, 8) := by kernel_rfl
theorem mk_one (w : World) : (Instr.makeSlice 22 (.int .i64 1) (.int .i64 1)).run Try.prog w = .ok (.slice (some ⟨w.heap.size, 0, none⟩) 1 1) (w.alloc (.cells #[.int .i64 0] 3)) := by
  obtain ⟨i0, hi0, hz0, hz1, hz2⟩ := info_partsR info_int1R
  have h := run_makeSlice (P := Try.prog) w 22 3 i0 (.int .i64 0) Try.underlying22 hi0 hz0 .i64 .i64 1 1 (by omega) (by omega) (by rw [hz1]; omega) (by rw [hz2]; omega) (by omega)
  rw [h, hz1]
  have hm : madeCells (Value.int .i64 0).cells (Int.toNat 1 * 1) = #[.int .i64 0] := by
    apply Array.ext
    · simp [size_madeCells]
    · intro i h1 h2
      simp at h2
      subst h2
      simp [madeCells, Value.cells]
  rw [hm]
  rfl

set_option maxRecDepth 100000 in
set_option maxHeartbeats 4000000 in
theorem depths_one (br or b off n c cr : Nat) (X Y : Nat → Int) (w : World) (hbr : br < w.heap.size) (hr : w.cell? ⟨br, or, none⟩ = some (.slice (some ⟨b, off, none⟩) n c)) (hb : b < w.heap.size) (hd : Du w b off n X Y) (h3 : 3 ≤ n) (hn : n ≤ 500) (hs : ∀ i, i < n → rB (X i) (Y i) = true) (hf : Far n X Y) (hm : NoMeet n X Y) :
    Calls Try.prog 60 #[.slice (some ⟨br, or, none⟩) 1 cr] w fun e w' => ∃ g, e = .returned (.tuple #[.slice (some ⟨g, 0, none⟩) 1 1, .int .i64 0]) ∧ w'.cell? ⟨g, 0, none⟩ = some (.int .i64 0) ∧ w.heap.size ≤ g ∧ g < w'.heap.size ∧ Below w.heap.size w w' := by
  have HD := Lib.hid hd
  clear hd
  have hmk := mk_one
  go_enter Try.func60, Try.ntmps60
  go_wp2_with (fail)
  refine (checkRegionR_one br or b off n c cr X Y w hbr hr hb HD.out h3 hn hs hf hm).mono ?_
  rintro e w1 ⟨rfl, hb1⟩
  have B1 := Lib.hid hb1
  have hs1 := hb1.size
  have hr1 := cellk hb1 hbr hr
  clear hb1 hr
  have hbr1 : br < w1.heap.size := by omega
  go_wp2_with (fail)
  refine wp_loop_rounds 2 ?_
  rw [rounds_succ]
  go_wp2_with (fail)
  refine wp_loop_rounds 2 ?_
  rw [rounds_succ]
  go_wp2_with (fail)
  rw [rounds_succ]
  go_wp2_with (fail)
  rw [rounds_succ]
  go_wp2_with (fail)
  have R := Lib.hid (B1.out.alloc hs1 (.cells #[.int .i64 0] 3))
  go_wp2
  exact bodyPost_ret (v := .tuple #[.slice (some ⟨w1.heap.size, 0, none⟩) 1 1, .int .i64 0]) (by simp [results, Try.results60, go_sem]) rfl ⟨_, rfl, by simp [go_sem], hs1, by simp, R.out⟩

/-- Twice the area of a ring, by its first k sides. -/
def dbl (n : Nat) (X Y : Nat → Int) : Nat → Int
  | 0 => 0
  | k + 1 => dbl n X Y k + (X k * Y (nx n k) - Y k * X (nx n k))
theorem dbl_b {n : Nat} {X Y : Nat → Int} (hs : ∀ i, i < n → sm (X i) ∧ sm (Y i)) : ∀ k, k ≤ n → -((k : Int) * 2000000000000) ≤ dbl n X Y k ∧ dbl n X Y k ≤ (k : Int) * 2000000000000
  | 0, _ => by simp [dbl]
  | k + 1, h => by
    have := dbl_b hs k (by omega)
    have a := hs k (by omega)
    have b := hs (nx n k) (nx_lt (by omega))
    unfold sm at a b
    have m1 := mulB (a := X k) (b := Y (nx n k)) (M := 1000000) (N := 1000000) a.1 b.2
    have m2 := mulB (a := Y k) (b := X (nx n k)) (M := 1000000) (N := 1000000) a.2 b.1
    simp only [dbl]
    omega
set_option maxRecDepth 100000 in
set_option maxHeartbeats 4000000 in
theorem doubled_any (b off n c : Nat) (X Y : Nat → Int) (w : World) (hb : b < w.heap.size) (hd : Du w b off n X Y) (hn : n ≤ 1000) (hs : ∀ i, i < n → sm (X i) ∧ sm (Y i)) :
    Calls Try.prog 61 #[.slice (some ⟨b, off, none⟩) n c] w fun e w' => e = .returned (.int .i64 (dbl n X Y n)) ∧ Below w.heap.size w w' := by
  have HD := Lib.hid hd
  have HS := Lib.hid hs
  clear hd hs
  go_enter Try.func61, Try.ntmps61
  go_wp2_with (fail)
  go_loopw [3, 9] (fun s i wr => ∃ k : Nat, k ≤ n ∧ s = .int .i64 (dbl n X Y k) ∧ i = .int .i64 k ∧ Below w.heap.size w wr) (fun _ i _ => n - (intOf i).toNat)
  case atStart => exact ⟨0, by omega, rfl, rfl, Below.refl _ _⟩
  case round =>
    obtain ⟨k, hk, rfl, rfl, hbel⟩ := hrel
    have hsz := hbel.size
    by_cases hlt : k < n
    · obtain ⟨c0, c1⟩ := (HD.out.kept hbel hb) k hlt
      have hx := nx_lt hlt
      obtain ⟨d0, d1⟩ := (HD.out.kept hbel hb) (nx n k) hx
      have hmod := nx_mod n k
      have hbw : b < wr.heap.size := by omega
      have hbw1 : b < wr.heap.size + 1 := by omega
      have a := HS.out k hlt
      have a' := HS.out (nx n k) hx
      have hD := dbl_b HS.out k hk
      have hD2 := dbl_b HS.out (k + 1) hlt
      obtain ⟨T, hT⟩ : ∃ T, dbl n X Y (k + 1) = T := ⟨_, rfl⟩
      have hT2 : dbl n X Y k + (X k * Y (nx n k) - Y k * X (nx n k)) = T := hT
      rw [hT] at hD2
      have HT := Lib.hid hT
      clear hT
      generalize dbl n X Y k = D at *
      generalize nx n k = m at *
      unfold sm at a a'
      have m1 := mulB (a := X k) (b := Y m) (M := 1000000) (N := 1000000) a.1 a'.2
      have m2 := mulB (a := Y k) (b := X m) (M := 1000000) (N := 1000000) a.2 a'.1
      have w1 : IntKind.i64.wrap (X k * Y m) = X k * Y m := w64 (by omega)
      have w2 : IntKind.i64.wrap (Y k * X m) = Y k * X m := w64 (by omega)
      have w3 : IntKind.i64.wrap (X k * Y m - Y k * X m) = X k * Y m - Y k * X m := w64 (by omega)
      have w4 : IntKind.i64.wrap (D + (X k * Y m - Y k * X m)) = T := by rw [hT2]; exact w64 (by omega)
      have hw1 : IntKind.i64.wrap ((k : Int) + 1) = (k : Int) + 1 := w64 (by omega)
      have hn0 : ¬ n = 0 := by omega
      have hm0 : (0 : Int) ≤ (m : Int) := by omega
      have hm1 : (m : Int) < (n : Int) := by omega
      have HB := Lib.hid hbel
      clear hbel m1 m2 a a' hD hD2 hT2
      have R := Lib.hid ((HB.out.alloc hsz (.cells #[.int .i64 (X k), .int .i64 (Y k)] 67)).alloc (by simp; omega) (.cells #[.int .i64 (X m), .int .i64 (Y m)] 67))
      go_wp2_with (fail)
      go_roundw
      case rel => exact ⟨k + 1, by omega, by rw [HT.out], by go_num, R.out⟩
      case measure => simp [intOf]; omega
    · obtain rfl : n = k := by omega
      go_wp2
      go_ret
      exact ⟨rfl, hbel⟩

theorem isOuter_zero (w : World) : Calls Try.prog 62 #[.int .i64 0] w fun e w' => e = .returned (.bool true) ∧ w = w' := by
  go_enter Try.func62, Try.ntmps62
  go_wp2
  go_ret
  exact ⟨rfl, rfl⟩
set_option maxRecDepth 100000 in
set_option maxHeartbeats 4000000 in
theorem area_one (br or b off n c cr : Nat) (X Y : Nat → Int) (w : World) (hbr : br < w.heap.size) (hr : w.cell? ⟨br, or, none⟩ = some (.slice (some ⟨b, off, none⟩) n c)) (hb : b < w.heap.size) (hd : Du w b off n X Y) (h3 : 3 ≤ n) (hn : n ≤ 500) (hs : ∀ i, i < n → rB (X i) (Y i) = true) (hf : Far n X Y) (hm : NoMeet n X Y) (D : Int) (hD : dbl n X Y n = D) (hD0 : 0 ≤ D) :
    Calls Try.prog 27 #[.slice (some ⟨br, or, none⟩) 1 cr] w fun e w' => e = .returned (.tuple #[.int .i64 D, .int .i64 0]) ∧ Below w.heap.size w w' := by
  have hsm : ∀ i, i < n → sm (X i) ∧ sm (Y i) := fun i hi => by
    have := hs i hi
    unfold rB at this
    simp only [decide_eq_true_eq] at this
    unfold sm
    omega
  have HD := Lib.hid hd
  have HSM := Lib.hid hsm
  have HDD := Lib.hid hD
  have hDb := dbl_b hsm n (Nat.le_refl _)
  rw [hD] at hDb
  have hDn : IntKind.i64.wrap (-D) = -D := w64 (by omega)
  have hD0w : IntKind.i64.wrap (0 + D) = D := by rw [Int.zero_add]; exact w64 (by omega)
  have hDw : IntKind.i64.wrap D = D := w64 (by omega)
  have hmx : ¬ D < -D := by omega
  have hmx2 : -D ≤ D := by omega
  clear hd hsm hD hDb
  go_enter Try.func27, Try.ntmps27
  go_wp2_with (fail)
  refine (depths_one br or b off n c cr X Y w hbr hr hb HD.out h3 hn hs hf hm).mono ?_
  rintro e w1 ⟨g, rfl, hg0, hg1, hg2, hb1⟩
  have B1 := Lib.hid hb1
  have hs1 := hb1.size
  have hr1 := cellk hb1 hbr hr
  clear hb1 hr
  have hbr1 : br < w1.heap.size := by omega
  go_wp2_with (fail)
  refine wp_loop_rounds 2 ?_
  rw [rounds_succ]
  go_wp2_with (fail)
  refine (doubled_any b off n c X Y w1 (by omega) (HD.out.kept B1.out hb) (by omega) HSM.out).mono ?_
  rintro e w2 ⟨rfl, hb2⟩
  rw [HDD.out]
  have R := Lib.hid (B1.out.trans (hb2.mono hs1))
  have hg3 := cellk hb2 hg2 hg0
  clear hb2 hg0
  go_wp2_with (go_at_call 62; refine (isOuter_zero _).mono ?_; rintro e w' ⟨rfl, rfl⟩)
  rw [rounds_succ]
  go_wp2
  exact bodyPost_ret (v := .tuple #[.int .i64 D, .int .i64 0]) (by simp [results, Try.results27, go_sem]) rfl ⟨rfl, R.out⟩

/-- The corners of a square. -/
def qX (i : Nat) : Int := if i = 1 ∨ i = 2 then 4 else 0
def qY (i : Nat) : Int := if i = 2 ∨ i = 3 then 4 else 0
theorem q_far : Far 4 qX qY := fun i j h1 h2 => by
  have hj : j = 1 ∨ j = 2 ∨ j = 3 := by omega
  have hi : i = 0 ∨ i = 1 ∨ i = 2 := by omega
  rcases hj with rfl | rfl | rfl <;> rcases hi with rfl | rfl | rfl <;> first | omega | decide
theorem q_in : ∀ i, i < 4 → rB (qX i) (qY i) = true := by decide
theorem q_turns : ∀ i, i < 4 → tbB (qX i) (qY i) (qX (nx 4 i)) (qY (nx 4 i)) (qX (nx 4 i)) (qY (nx 4 i)) (qX (nx 4 (nx 4 i))) (qY (nx 4 (nx 4 i))) = false := by decide
theorem q_no : NoMeet 4 qX qY := ⟨q_turns, fun i k h1 h2 h3 => by
  have hk : k = 2 ∨ k = 3 := by omega
  have hi : i = 0 ∨ i = 1 := by omega
  rcases hk with rfl | rfl <;> rcases hi with rfl | rfl <;> first | omega | decide⟩
theorem q_area : dbl 4 qX qY 4 = 32 := by decide
theorem q_du {w : World} {b : Nat} (h : w.heap[b]? = some (.cells #[.int .i64 0, .int .i64 0, .int .i64 4, .int .i64 0, .int .i64 4, .int .i64 4, .int .i64 0, .int .i64 4] 67 (0, 0))) : Du w b 0 4 qX qY := fun i hi => by
  have : i = 0 ∨ i = 1 ∨ i = 2 ∨ i = 3 := by omega
  rcases this with rfl | rfl | rfl | rfl <;> exact ⟨cell_of h (by rfl), cell_of h (by rfl)⟩
end Go.Proofs.Ytmcebhjcaacbpaa.rdy
namespace Go.Proofs.Ytmcebhjcaacbpaa.rdy
open Go.RowKit

def QB : Obj := .cells #[.int .i64 0, .int .i64 0, .int .i64 4, .int .i64 0, .int .i64 4, .int .i64 4, .int .i64 0, .int .i64 4] 67
/-- The area of a list with this ring alone, which lies in the two last blocks. -/
theorem area_square (w : World) (g1 g2 : Nat) (h1 : g1 = w.heap.size) (h2 : g2 = w.heap.size + 1) (c : Nat) :
    Calls Try.prog 27 #[.slice (some ⟨g2, 0, none⟩) 1 c] ((w.alloc QB).alloc (.cells #[.slice (some ⟨g1, 0, none⟩) 4 4] 69)) fun e w' => e = .returned (.tuple #[.int .i64 32, .int .i64 0]) ∧ Below w.heap.size w w' := by
  subst h1 h2
  have hA : ((w.alloc QB).alloc (.cells #[.slice (some ⟨w.heap.size, 0, none⟩) 4 4] 69)).heap[w.heap.size]? = some (.cells #[.int .i64 0, .int .i64 0, .int .i64 4, .int .i64 0, .int .i64 4, .int .i64 4, .int .i64 0, .int .i64 4] 67 (0, 0)) := by
    rw [Below.heap_alloc _ _ _ (by simp)]
    exact heap_new rfl
  refine (area_one (w.heap.size + 1) 0 w.heap.size 0 4 4 c qX qY _ (by simp) (by simp [go_sem]) (by simp; omega) (q_du hA) (by omega) (by omega) q_in q_far q_no 32 q_area (by omega)).mono ?_
  rintro e w' ⟨rfl, hb⟩
  exact ⟨rfl, Below.trans (((Below.refl _ w).alloc (Nat.le_refl _) _).alloc (by simp) _) (hb.mono (by simp; omega))⟩
end Go.Proofs.Ytmcebhjcaacbpaa.rdy
namespace Go.Proofs.Ytmcebhjcaacbpaa.rdy
open Go.RowKit Go.Maps

theorem isKey_p (w : World) : Calls Try.prog 92 #[.string ⟨#[112]⟩] w fun e w' => e = .returned (.bool true) ∧ w = w' := by
  go_enter Try.func92, Try.ntmps92
  go_wp2
  refine wp_loop_rounds 2 ?_
  rw [rounds_succ]; go_wp2
  rw [rounds_succ]; go_wp2
  go_ret
  exact ⟨rfl, rfl⟩
theorem isKey_a (w : World) : Calls Try.prog 92 #[.string ⟨#[97]⟩] w fun e w' => e = .returned (.bool true) ∧ w = w' := by
  go_enter Try.func92, Try.ntmps92
  go_wp2
  refine wp_loop_rounds 2 ?_
  rw [rounds_succ]; go_wp2
  rw [rounds_succ]; go_wp2
  go_ret
  exact ⟨rfl, rfl⟩
theorem isKey_j (w : World) : Calls Try.prog 92 #[.string ⟨#[106]⟩] w fun e w' => e = .returned (.bool true) ∧ w = w' := by
  go_enter Try.func92, Try.ntmps92
  go_wp2
  refine wp_loop_rounds 2 ?_
  rw [rounds_succ]; go_wp2
  rw [rounds_succ]; go_wp2
  go_ret
  exact ⟨rfl, rfl⟩
theorem isKey_b (w : World) : Calls Try.prog 92 #[.string ⟨#[98]⟩] w fun e w' => e = .returned (.bool true) ∧ w = w' := by
  go_enter Try.func92, Try.ntmps92
  go_wp2
  refine wp_loop_rounds 2 ?_
  rw [rounds_succ]; go_wp2
  rw [rounds_succ]; go_wp2
  go_ret
  exact ⟨rfl, rfl⟩
end Go.Proofs.Ytmcebhjcaacbpaa.rdy
namespace Go.Proofs.Ytmcebhjcaacbpaa.rdy
open Go.RowKit Go.Maps
def PRo : Obj := .cells #[.string ⟨#[112]⟩, .string ⟨#[97]⟩] 74
def JBo : Obj := .cells #[.string ⟨#[106]⟩, .string ⟨#[98]⟩, .int .i64 20, .int .i64 0] 77
theorem isKey1 (s : ByteArray) (h : s = ⟨#[112]⟩ ∨ s = ⟨#[97]⟩ ∨ s = ⟨#[106]⟩ ∨ s = ⟨#[98]⟩) (w : World) : Calls Try.prog 92 #[.string s] w fun e w' => e = .returned (.bool true) ∧ w = w' := by
  rcases h with rfl | rfl | rfl | rfl
  · exact isKey_p w
  · exact isKey_a w
  · exact isKey_j w
  · exact isKey_b w
theorem withinC (n lo hi : Int) (w : World) (h1 : lo ≤ n) (h2 : n ≤ hi) : Calls Try.prog 78 #[.int .i64 n, .int .i64 lo, .int .i64 hi] w fun e w' => e = .returned (.bool true) ∧ w = w' := by
  go_enter Try.func78, Try.ntmps78
  go_wp2
  go_ret
  exact ⟨rfl, rfl⟩
set_option maxHeartbeats 4000000 in
theorem checkPrinters_one (g : Nat) (w : World) (h : w.heap[g]? = some (.cells #[.string ⟨#[112]⟩, .string ⟨#[97]⟩] 74 (0, 0))) :
    Calls Try.prog 86 #[.slice (some ⟨g, 0, none⟩) 1 1] w fun e w' => e = .returned (.int .i64 0) ∧ Below w.heap.size w w' := by
  have hg := lt_of_heap h
  have c0 : w.cell? ⟨g, 0, none⟩ = some (.string ⟨#[112]⟩) := cell_of h (i := 0) rfl
  have c1 : w.cell? ⟨g, 1, none⟩ = some (.string ⟨#[97]⟩) := cell_of h (i := 1) rfl
  have HB := Lib.hid (show Below w.heap.size w (w.alloc PRo) from (Below.refl _ _).alloc (Nat.le_refl _) _)
  unfold PRo at HB
  clear h
  go_enter Try.func86, Try.ntmps86
  go_wp2_with (fail)
  refine wp_loop_rounds 2 ?_
  rw [rounds_succ]
  go_wp2_with (go_at_call 92; refine (isKey1 _ (by first | exact .inl rfl | exact .inr (.inl rfl)) _).mono ?_; rintro e w' ⟨rfl, rfl⟩)
  go_quiet (fail)
  go_wp2
  rw [rounds_succ]
  go_wp2
  go_ret
  exact ⟨rfl, bdrewN HB.out _⟩
set_option maxHeartbeats 4000000 in
theorem checkJobs_one (g : Nat) (w : World) (h : w.heap[g]? = some (.cells #[.string ⟨#[106]⟩, .string ⟨#[98]⟩, .int .i64 20, .int .i64 0] 77 (0, 0))) :
    Calls Try.prog 87 #[.slice (some ⟨g, 0, none⟩) 1 1] w fun e w' => e = .returned (.int .i64 0) ∧ Below w.heap.size w w' := by
  have hg := lt_of_heap h
  have c0 : w.cell? ⟨g, 0, none⟩ = some (.string ⟨#[106]⟩) := cell_of h (i := 0) rfl
  have c1 : w.cell? ⟨g, 1, none⟩ = some (.string ⟨#[98]⟩) := cell_of h (i := 1) rfl
  have c2 : w.cell? ⟨g, 2, none⟩ = some (.int .i64 20) := cell_of h (i := 2) rfl
  have c3 : w.cell? ⟨g, 3, none⟩ = some (.int .i64 0) := cell_of h (i := 3) rfl
  have HB := Lib.hid (show Below w.heap.size w (w.alloc JBo) from (Below.refl _ _).alloc (Nat.le_refl _) _)
  unfold JBo at HB
  clear h
  go_enter Try.func87, Try.ntmps87
  go_wp2_with (fail)
  refine wp_loop_rounds 2 ?_
  rw [rounds_succ]
  go_wp2_with (first | (go_at_call 92; refine (isKey1 _ (by first | exact .inl rfl | exact .inr (.inl rfl) | exact .inr (.inr (.inl rfl)) | exact .inr (.inr (.inr rfl))) _).mono ?_; rintro e w' ⟨rfl, rfl⟩) | (go_at_call 78; refine (withinC _ _ _ _ (by decide) (by decide)).mono ?_; rintro e w' ⟨rfl, rfl⟩))
  go_quiet (fail)
  go_wp2
  rw [rounds_succ]
  go_wp2
  go_ret
  exact ⟨rfl, bdrewN HB.out _⟩
theorem checkBoth_one (g k : Nat) (w : World) (h : w.heap[g]? = some (.cells #[.string ⟨#[112]⟩, .string ⟨#[97]⟩] 74 (0, 0))) (h2 : w.heap[k]? = some (.cells #[.string ⟨#[106]⟩, .string ⟨#[98]⟩, .int .i64 20, .int .i64 0] 77 (0, 0))) :
    Calls Try.prog 81 #[.slice (some ⟨g, 0, none⟩) 1 1, .slice (some ⟨k, 0, none⟩) 1 1] w fun e w' => e = .returned (.int .i64 0) ∧ Below w.heap.size w w' := by
  have HJ := Lib.hid h2
  clear h2
  go_enter Try.func81, Try.ntmps81
  go_wp2_with (fail)
  refine (checkPrinters_one g w h).mono ?_
  rintro e w1 ⟨rfl, hb⟩
  replace HJ := Lib.hid (heap_keep hb HJ.out)
  have B1 := Lib.hid hb
  clear hb h
  go_wp2_with (fail)
  refine (checkJobs_one k w1 HJ.out).mono ?_
  rintro e w2 ⟨rfl, hb⟩
  have B2 := Lib.hid (B1.out.trans (hb.mono B1.out.size))
  clear hb
  go_wp2_with (fail)
  go_ret
  exact ⟨rfl, B2.out⟩
end Go.Proofs.Ytmcebhjcaacbpaa.rdy
namespace Go.Proofs.Ytmcebhjcaacbpaa.rdy
open Go.RowKit Go.Maps
theorem boolZ_inv {e : TypeId} (he : Try.prog.underlying e = some .bool) {v : Value} {z : DataW Unit × List MemPlace} (h : plainElem Try.prog e v = some z) : ∃ x : Bool, v = .bool x ∧ z = (.lit (.bool x), []) := by
  unfold plainElem at h
  rw [he] at h
  cases v <;> simp at h
  exact ⟨_, rfl, h.symm⟩
theorem zeroBoolZ (w : World) : (zeroValue 4).run Try.prog w = .ok (.bool false) w := by kernel_rfl
theorem key_zero : keyOf Try.prog 3 (.int .i64 0) = some (.int .i64 0) := keyOf_int_mk Try.underlying3 (WalkArith.wf_i64 (by omega))
theorem keyedZ : Keyed Try.prog 3 := int_keyed Try.underlying3
theorem look_empty {W : World} {base : Nat} (ho : W.ownsMap (H := Unit) Try.prog 3 (plainElem Try.prog 4) base 0 (.map [])) :
    (Instr.lookup 132 (.map (some base)) (.int .i64 0) false).run Try.prog W = .ok (.bool false) W := by
  obtain ⟨v, ps, hrun, hv⟩ := ho.lookup keyedZ Try.underlying132 (zeroBoolZ _) (plainElem_bool Try.underlying4 false) key_zero
  obtain ⟨x, rfl, hx⟩ := boolZ_inv Try.underlying4 hv
  have h0 : (DataW.map []).atKey (.int .i64 0) (.lit (.bool false)) = (DataW.lit (.bool false) : DataW Unit) := rfl
  rw [h0] at hx
  simp at hx
  obtain rfl := hx.1
  exact hrun
set_option maxRecDepth 100000 in
set_option maxHeartbeats 4000000 in
theorem checkPlan_one (g k l i : Nat) (w : World) (h : w.heap[g]? = some (.cells #[.string ⟨#[112]⟩, .string ⟨#[97]⟩] 74 (0, 0))) (h2 : w.heap[k]? = some (.cells #[.string ⟨#[106]⟩, .string ⟨#[98]⟩, .int .i64 20, .int .i64 0] 77 (0, 0)))
    (h3 : w.heap[l]? = some (.cells #[.slice (some ⟨i, 0, none⟩) 1 1] 22 (0, 0))) (h4 : w.heap[i]? = some (.cells #[.int .i64 0] 3 (0, 0))) :
    Calls Try.prog 63 #[.slice (some ⟨g, 0, none⟩) 1 1, .slice (some ⟨k, 0, none⟩) 1 1, .slice (some ⟨l, 0, none⟩) 1 1] w fun e w' => e = .returned (.int .i64 0) ∧ Below w.heap.size w w' := by
  have HL := Lib.hid h3
  have HI := Lib.hid h4
  clear h3 h4
  go_enter Try.func63, Try.ntmps63
  go_wp2_with (fail)
  refine (checkBoth_one g k w h h2).mono ?_
  rintro e w1 ⟨rfl, hb⟩
  have hl1 := heap_keep hb HL.out
  have hi1 := heap_keep hb HI.out
  have hll := lt_of_heap hl1
  have hii := lt_of_heap hi1
  have c0 : w1.cell? ⟨l, 0, none⟩ = some (.slice (some ⟨i, 0, none⟩) 1 1) := cell_of hl1 (i := 0) rfl
  have c1 : w1.cell? ⟨i, 0, none⟩ = some (.int .i64 0) := cell_of hi1 (i := 0) rfl
  have B1 := Lib.hid hb
  have hmm := @run_makeMap Try.prog
  have HM0 := Lib.hid (World.ownsMap_made (H := Unit) w1 Try.prog 3 (plainElem Try.prog 4))
  have BM := Lib.hid (show Below w1.heap.size w1 (w1.alloc (.map #[] 0)) from (Below.refl _ _).alloc (Nat.le_refl _) _)
  have hlk := look_empty HM0.out
  clear hb h h2 hl1 hi1
  go_wp2_with (fail)
  refine wp_loop_rounds 2 ?_
  rw [rounds_succ]
  go_wp2_with (fail)
  refine wp_loop_rounds 2 ?_
  rw [rounds_succ]
  go_wp2_with (at_mapUpdate; refine wpList_mapUpdate_own _ rfl _ _ _ 132 rfl 3 4 keyedZ Try.underlying132 _ w1.heap.size 0 _ rfl HM0.out (by unfold maxLen; omega) _ _ _ rfl rfl key_zero _ [] (plainElem_bool Try.underlying4 true) ?_; intro w4 hown4 hgrow4; have HO4 := Lib.hid hown4; have HG4 := Lib.hid hgrow4; clear hown4 hgrow4)
  rw [rounds_succ]
  go_wp2_with (fail)
  rw [rounds_succ]
  have hsz : Maps.size ((DataW.map [] : DataW Unit).put (.int .i64 0) (.lit (.bool true))) = 1 := by rfl
  have HZ := Lib.hid hsz
  clear hsz
  go_upto_region 20 with (fail)
  go_wp2_with (at_len; refine wpList_len_own _ rfl _ 132 rfl 3 4 Try.underlying132 (plainElem (H := Unit) Try.prog 4) w1.heap.size _ _ rfl HO4.out ?_; rw [HZ.out])
  go_ret
  exact ⟨rfl, B1.out.trans (Below.mono (BM.out.grown HG4.out (by simp) (fun b hb => by cases hb; exact Nat.le_refl _)) B1.out.size)⟩
end Go.Proofs.Ytmcebhjcaacbpaa.rdy
namespace Go.Proofs.Ytmcebhjcaacbpaa.rdy
open Go.RowKit Go.Maps
set_option maxRecDepth 100000 in
set_option maxHeartbeats 4000000 in
theorem shiftOf_one (w : World) : Calls Try.prog 65 #[.agg #[.string ⟨#[112]⟩, .string ⟨#[97]⟩]] w fun e w' => e = .returned (.agg #[.string ⟨#[97]⟩, .int .i64 0]) ∧ Below w.heap.size w w' := by
  go_enter Try.func65, Try.ntmps65
  go_wp2_with (fail)
  exact bodyPost_ret (v := .agg #[.string ⟨#[97]⟩, .int .i64 0]) (by simp [results, Try.results65, go_sem]) rfl ⟨rfl, (by repeat (first | exact Below.refl _ _ | assumption | refine Below.drew ?_ | refine bdrewN ?_ _ | refine Below.setCell ?_ (by first | omega | (simp <;> omega)) _ | refine Below.alloc ?_ (by first | omega | (simp <;> omega)) _))⟩
set_option maxRecDepth 100000 in
set_option maxHeartbeats 4000000 in
theorem after_one (w : World) : Calls Try.prog 66 #[.agg #[.string ⟨#[97]⟩, .int .i64 0], .agg #[.string ⟨#[106]⟩, .string ⟨#[98]⟩, .int .i64 20, .int .i64 0], .int .i64 5] w fun e w' => e = .returned (.agg #[.string ⟨#[98]⟩, .int .i64 25]) ∧ Below w.heap.size w w' := by
  go_enter Try.func66, Try.ntmps66
  go_wp2_with (fail)
  exact bodyPost_ret (v := .agg #[.string ⟨#[98]⟩, .int .i64 25]) (by simp [results, Try.results66, go_sem]) rfl ⟨rfl, (by repeat (first | exact Below.refl _ _ | assumption | refine Below.drew ?_ | refine bdrewN ?_ _ | refine Below.setCell ?_ (by first | omega | (simp <;> omega)) _ | refine Below.alloc ?_ (by first | omega | (simp <;> omega)) _))⟩
theorem checkChange_one (w : World) : Calls Try.prog 64 #[.int .i64 5] w fun e w' => e = .returned (.int .i64 0) ∧ w = w' := by
  go_enter Try.func64, Try.ntmps64
  go_wp2_with (go_at_call 78; refine (withinC _ _ _ _ (by decide) (by decide)).mono ?_; rintro e w' ⟨rfl, rfl⟩)
  go_ret
  exact ⟨rfl, rfl⟩
theorem setZ_0 {w : World} {b : Nat} {v0 v1 u : Value} {t : TypeId} (h : w.heap[b]? = some (.cells #[v0, v1] t (0, 0))) : (w.setCell ⟨b, 0, none⟩ u).heap[b]? = some (.cells #[u, v1] t (0, 0)) := by
  simp [World.setCell, Array.getElem?_modify, h]
theorem setZ_1 {w : World} {b : Nat} {v0 v1 u : Value} {t : TypeId} (h : w.heap[b]? = some (.cells #[v0, v1] t (0, 0))) : (w.setCell ⟨b, 1, none⟩ u).heap[b]? = some (.cells #[v0, u] t (0, 0)) := by
  simp [World.setCell, Array.getElem?_modify, h]
theorem setZ_o {w : World} {b c o : Nat} {u : Value} {q : Obj} (hne : ¬ b = c) (h : w.heap[b]? = some q) : (w.setCell ⟨c, o, none⟩ u).heap[b]? = some q := by
  rw [Below.heap_setCell _ _ _ _ hne]; exact h
set_option maxRecDepth 100000 in
set_option maxHeartbeats 4000000 in
theorem ends_one (g k l i : Nat) (w : World) (h : w.heap[g]? = some (.cells #[.string ⟨#[112]⟩, .string ⟨#[97]⟩] 74 (0, 0))) (h2 : w.heap[k]? = some (.cells #[.string ⟨#[106]⟩, .string ⟨#[98]⟩, .int .i64 20, .int .i64 0] 77 (0, 0)))
    (h3 : w.heap[l]? = some (.cells #[.slice (some ⟨i, 0, none⟩) 1 1] 22 (0, 0))) (h4 : w.heap[i]? = some (.cells #[.int .i64 0] 3 (0, 0))) :
    Calls Try.prog 28 #[.slice (some ⟨g, 0, none⟩) 1 1, .slice (some ⟨k, 0, none⟩) 1 1, .slice (some ⟨l, 0, none⟩) 1 1, .int .i64 5] w fun e w' => (∃ a c, e = .returned (.tuple #[.slice (some a) 1 c, .int .i64 25, .int .i64 0])) ∧ Below w.heap.size w w' := by
  have HP := Lib.hid h
  have HJ := Lib.hid h2
  have HL := Lib.hid h3
  have HI := Lib.hid h4
  clear h h2 h3 h4
  go_enter Try.func28, Try.ntmps28
  go_wp2_with (fail)
  refine (checkPlan_one g k l i w HP.out HJ.out HL.out HI.out).mono ?_
  rintro e w1 ⟨rfl, hb⟩
  replace HP := Lib.hid (heap_keep hb HP.out)
  replace HJ := Lib.hid (heap_keep hb HJ.out)
  replace HL := Lib.hid (heap_keep hb HL.out)
  replace HI := Lib.hid (heap_keep hb HI.out)
  have B1 := Lib.hid hb
  clear hb
  have hmk : ∀ w, (Instr.makeSlice 22 (.int .i64 1) (.int .i64 1)).run Try.prog w = .ok (.slice (some ⟨w.heap.size, 0, none⟩) 1 1) (w.alloc (.cells #[.int .i64 0] 3)) := fun _ => by kernel_rfl
  go_upto_region 8 with (go_at_call 64; refine (checkChange_one _).mono ?_; rintro e w' ⟨rfl, rfl⟩)
  have HE := Lib.hid (heap_alloc_new w1 (.cells #[.int .i64 0] 3))
  have hb : Below w1.heap.size w1 (w1.alloc (.cells #[.int .i64 0] 3)) := (Below.refl _ _).alloc (Nat.le_refl _) _
  replace HP := Lib.hid (heap_keep hb HP.out)
  replace HJ := Lib.hid (heap_keep hb HJ.out)
  replace HL := Lib.hid (heap_keep hb HL.out)
  replace HI := Lib.hid (heap_keep hb HI.out)
  have B2 := Lib.hid (B1.out.trans (hb.mono B1.out.size))
  have hew := B1.out.size
  clear hb hmk
  generalize (w1.alloc (.cells #[.int .i64 0] 3)) = w2 at *
  obtain ⟨x, hx⟩ : ∃ x, w1.heap.size = x := ⟨_, rfl⟩
  rw [hx] at HE hew
  try rw [hx]
  clear hx B1
  have p0 : w2.cell? ⟨g, 0, none⟩ = some (.string ⟨#[112]⟩) := cell_of HP.out (i := 0) rfl
  have p1 : w2.cell? ⟨g, 1, none⟩ = some (.string ⟨#[97]⟩) := cell_of HP.out (i := 1) rfl
  have l0 : w2.cell? ⟨l, 0, none⟩ = some (.slice (some ⟨i, 0, none⟩) 1 1) := cell_of HL.out (i := 0) rfl
  go_wp2_with (fail)
  refine wp_loop_rounds 2 ?_
  rw [rounds_succ]
  go_wp2_with (fail)
  refine (shiftOf_one w2).mono ?_
  rintro e w3 ⟨rfl, hb⟩
  replace HE := Lib.hid (heap_keep hb HE.out)
  replace HJ := Lib.hid (heap_keep hb HJ.out)
  replace HI := Lib.hid (heap_keep hb HI.out)
  have B3 := Lib.hid (B2.out.trans (hb.mono B2.out.size))
  clear hb HP HL p0 p1 l0 B2
  have hk3 := lt_of_heap HJ.out
  have hx3 := lt_of_heap HE.out
  go_upto_region 13 with (fail)
  have hb : Below w3.heap.size w3 (w3.alloc (.cells #[.string ⟨#[97]⟩, .int .i64 0] 116)) := (Below.refl _ _).alloc (Nat.le_refl _) _
  replace HE := Lib.hid (heap_keep hb HE.out)
  replace HJ := Lib.hid (heap_keep hb HJ.out)
  replace HI := Lib.hid (heap_keep hb HI.out)
  have B4 := Lib.hid (B3.out.trans (hb.mono B3.out.size))
  have HSH := Lib.hid (heap_alloc_new w3 (.cells #[.string ⟨#[97]⟩, .int .i64 0] 116))
  have hsw := B3.out.size
  clear hb B3
  generalize (w3.alloc (.cells #[.string ⟨#[97]⟩, .int .i64 0] 116)) = w4 at *
  obtain ⟨sb, hsb⟩ : ∃ x, w3.heap.size = x := ⟨_, rfl⟩
  rw [hsb] at HSH hsw hk3 hx3
  try rw [hsb]
  clear hsb
  have hkn : ¬ (k = sb) := by omega
  have hne : ¬ (x = sb) := by omega
  have i0 : w4.cell? ⟨i, 0, none⟩ = some (.int .i64 0) := cell_of HI.out (i := 0) rfl
  have j0 : w4.cell? ⟨k, 0, none⟩ = some (.string ⟨#[106]⟩) := cell_of HJ.out (i := 0) rfl
  have j1 : w4.cell? ⟨k, 1, none⟩ = some (.string ⟨#[98]⟩) := cell_of HJ.out (i := 1) rfl
  have j2 : w4.cell? ⟨k, 2, none⟩ = some (.int .i64 20) := cell_of HJ.out (i := 2) rfl
  have j3 : w4.cell? ⟨k, 3, none⟩ = some (.int .i64 0) := cell_of HJ.out (i := 3) rfl
  have s0 : w4.cell? ⟨sb, 0, none⟩ = some (.string ⟨#[97]⟩) := cell_of HSH.out (i := 0) rfl
  have s1 : w4.cell? ⟨sb, 1, none⟩ = some (.int .i64 0) := cell_of HSH.out (i := 1) rfl
  go_wp2_with (fail)
  refine wp_loop_rounds 2 ?_
  rw [rounds_succ]
  go_wp2_with (fail)
  have hk4 := lt_of_heap HJ.out
  have hs4 := lt_of_heap HSH.out
  have hx4 := lt_of_heap HE.out
  refine wp_region_held_drew (S := (fun w' => w'.cell? ⟨k, 0, none⟩ = some (.string ⟨#[106]⟩) ∧ w'.cell? ⟨k, 1, none⟩ = some (.string ⟨#[98]⟩) ∧ w'.cell? ⟨k, 2, none⟩ = some (.int .i64 20) ∧ w'.cell? ⟨k, 3, none⟩ = some (.int .i64 0))) (by kernel_rfl) ⟨j0, j1, j2, j3⟩ (fun hHeld => ?_)
  refine tkH (by assumption) 1 (oi := ?_) (v := ?_) ?_ ?_ ?_ ?_ ?_ ?_ ?_ ?_; rotate_left 2; (simp only [gA, gB, gC]; exact rfl); kernel_rfl; kernel_rfl; kernel_rfl; exact fun _ _ _ h => h; rfl; (intro w' hSw; (try dsimp only at hSw); go_simp; with_reducible rfl); simp only [Act.put, pB, pC, pD]
  refine tkH (by assumption) 2 (oi := ?_) (v := ?_) ?_ ?_ ?_ ?_ ?_ ?_ ?_ ?_; rotate_left 2; (simp only [gA, gB, gC]; exact rfl); kernel_rfl; kernel_rfl; kernel_rfl; exact fun _ _ _ h => h; rfl; (intro w' hSw; (try dsimp only at hSw); go_simp; with_reducible rfl); simp only [Act.put, pB, pC, pD]
  refine tkH (by assumption) 3 (oi := ?_) (v := ?_) ?_ ?_ ?_ ?_ ?_ ?_ ?_ ?_; rotate_left 2; (simp only [gA, gB, gC]; exact rfl); kernel_rfl; kernel_rfl; kernel_rfl; exact fun _ _ _ h => h; rfl; (intro w' hSw; (try dsimp only at hSw); go_simp; with_reducible rfl); simp only [Act.put, pB, pC, pD]
  refine tkH (by assumption) 4 (oi := ?_) (v := ?_) ?_ ?_ ?_ ?_ ?_ ?_ ?_ ?_; rotate_left 2; (simp only [gA, gB, gC]; exact rfl); kernel_rfl; kernel_rfl; kernel_rfl; exact fun _ _ _ h => h; rfl; (intro w' hSw; obtain ⟨q0, q1, q2, q3⟩ := hSw;go_simp; with_reducible rfl); simp only [Act.put, pB, pC, pD]
  refine tkH (by assumption) 5 (oi := ?_) (v := ?_) ?_ ?_ ?_ ?_ ?_ ?_ ?_ ?_; rotate_left 2; (simp only [gA, gB, gC]; exact rfl); kernel_rfl; kernel_rfl; kernel_rfl; exact fun _ _ _ h => h; rfl; (intro w' hSw; (try dsimp only at hSw); go_simp; with_reducible rfl); simp only [Act.put, pB, pC, pD]
  refine onH 0 (oi := ?_) (by kernel_rfl) ?_ ?_ (fun K hK => ?_); rotate_left; (simp only [gA, gB, gC]; exact rfl); rfl
  go_wp2_with (fail)
  refine hK.out _ _ ⟨j0, j1, j2, j3⟩ (fun hHeldN => ?_)
  clear hK K hHeld
  have hHeld := hHeldN
  clear hHeldN
  try simp only [Act.put, pB, pC, pD]
  refine onH 6 (oi := ?_) (by kernel_rfl) ?_ ?_ (fun K hK => ?_); rotate_left; (simp only [gA, gB, gC]; exact rfl); rfl
  go_wp2_with (fail)
  refine (after_one _).mono ?_
  rintro e w5 ⟨rfl, hb⟩
  replace hb : Below w4.heap.size w4 w5 := (Below.drew (Below.refl _ _)).trans hb
  have HE5 := Lib.hid (heap_keep hb HE.out)
  have HJ5 := Lib.hid (heap_keep hb HJ.out)
  have HS5 := Lib.hid (heap_keep hb HSH.out)
  have B5 := Lib.hid (B4.out.trans (hb.mono B4.out.size))
  clear hb
  refine hK.out _ _ ⟨cell_of HJ5.out (i := 0) rfl, cell_of HJ5.out (i := 1) rfl, cell_of HJ5.out (i := 2) rfl, cell_of HJ5.out (i := 3) rfl⟩ (fun hHeldN => ?_)
  clear hK K hHeld
  have hHeld := hHeldN
  clear hHeldN
  try simp only [Act.put, pB, pC, pD]
  refine onH 7 (oi := ?_) (by kernel_rfl) ?_ ?_ (fun K hK => ?_); rotate_left; (simp only [gA, gB, gC]; exact rfl); rfl
  have e0 : w5.cell? ⟨sb, 0, none⟩ = some (.string ⟨#[97]⟩) := cell_of HS5.out (i := 0) rfl
  have e1 : w5.cell? ⟨sb, 1, none⟩ = some (.int .i64 0) := cell_of HS5.out (i := 1) rfl
  have f0 : w5.frozen? ⟨sb, 0, none⟩ = false := frozen_of HS5.out
  have f1 : w5.frozen? ⟨sb, 1, none⟩ = false := frozen_of HS5.out
  go_wp2_with (fail)
  have HS6 := Lib.hid (setZ_1 (u := .int .i64 25) (setZ_0 (u := .string ⟨#[98]⟩) HS5.out))
  have HE6 := Lib.hid (setZ_o (u := .int .i64 25) (o := 1) hne (setZ_o (u := .string ⟨#[98]⟩) (o := 0) hne HE5.out))
  have HJ6 := Lib.hid (setZ_o (u := .int .i64 25) (o := 1) hkn (setZ_o (u := .string ⟨#[98]⟩) (o := 0) hkn HJ5.out))
  have B6 := Lib.hid (Below.setCell (Below.setCell B5.out (p := ⟨sb, 0, none⟩) hsw (.string ⟨#[98]⟩)) (p := ⟨sb, 1, none⟩) hsw (.int .i64 25))
  refine hK.out _ _ ⟨cell_of HJ6.out (i := 0) rfl, cell_of HJ6.out (i := 1) rfl, cell_of HJ6.out (i := 2) rfl, cell_of HJ6.out (i := 3) rfl⟩ (fun hHeldN => ?_)
  clear hK K hHeld
  clear hHeldN
  try simp only [Act.put, pB, pC, pD]
  refine wpAnyH_done (by kernel_rfl) ?_ _
  clear e0 e1 f0 f1 i0 j0 j1 j2 j3 s0 s1
  generalize ((w5.setCell ⟨sb, 0, none⟩ (.string ⟨#[98]⟩)).setCell ⟨sb, 1, none⟩ (.int .i64 25)) = w6 at *
  have e1 : w6.cell? ⟨sb, 1, none⟩ = some (.int .i64 25) := cell_of HS6.out (i := 1) rfl
  have e2 : w6.cell? ⟨x, 0, none⟩ = some (.int .i64 0) := cell_of HE6.out (i := 0) rfl
  have f2 : w6.frozen? ⟨x, 0, none⟩ = false := frozen_of HE6.out
  have B7 := Lib.hid (Below.setCell B6.out (p := ⟨x, 0, none⟩) hew (.int .i64 25))
  have e3 := cell_of (setZ_o (u := .int .i64 25) (o := 0) (fun e => hne e.symm) HS6.out) (i := 1) rfl
  go_wp2_with (fail)
  rw [rounds_succ]
  go_wp2_with (fail)
  rw [rounds_succ]
  go_wp2_with (fail)
  exact bodyPost_ret (v := .tuple #[.slice (some ⟨x, 0, none⟩) 1 1, .int .i64 25, .int .i64 0]) (by simp [results, Try.results28, go_sem]) rfl ⟨⟨_, _, rfl⟩, B7.out⟩
end Go.Proofs.Ytmcebhjcaacbpaa.rdy
namespace Go.Proofs.Ytmcebhjcaacbpaa.rdy
open Go.RowKit Go.Maps
set_option maxRecDepth 100000 in
set_option maxHeartbeats 4000000 in
theorem checkBeads_one (g : Nat) (w : World) (h : w.heap[g]? = some (.cells #[.int .i64 10, .int .i64 3, .int .i64 2] 63 (0, 0))) :
    Calls Try.prog 58 #[.slice (some ⟨g, 0, none⟩) 1 1] w fun e w' => e = .returned (.int .i64 0) ∧ Below w.heap.size w w' := by
  have hg := lt_of_heap h
  have c0 : w.cell? ⟨g, 0, none⟩ = some (.int .i64 10) := cell_of h (i := 0) rfl
  have c1 : w.cell? ⟨g, 1, none⟩ = some (.int .i64 3) := cell_of h (i := 1) rfl
  have c2 : w.cell? ⟨g, 2, none⟩ = some (.int .i64 2) := cell_of h (i := 2) rfl
  clear h
  go_enter Try.func58, Try.ntmps58
  go_wp2_with (fail)
  refine wp_loop_rounds 2 ?_
  rw [rounds_succ]
  go_wp2_with (go_at_call 78; refine (withinC _ _ _ _ (by decide) (by decide)).mono ?_; rintro e w' ⟨rfl, rfl⟩)
  rw [rounds_succ]
  go_wp2
  go_ret
  exact ⟨rfl, (by repeat (first | exact Below.refl _ _ | assumption | refine Below.drew ?_ | refine bdrewN ?_ _ | refine Below.setCell ?_ (by first | omega | (simp <;> omega)) _ | refine Below.alloc ?_ (by first | omega | (simp <;> omega)) _))⟩
set_option maxRecDepth 100000 in
set_option maxHeartbeats 4000000 in
theorem volume_one (g : Nat) (w : World) (h : w.heap[g]? = some (.cells #[.int .i64 10, .int .i64 3, .int .i64 2] 63 (0, 0))) :
    Calls Try.prog 26 #[.slice (some ⟨g, 0, none⟩) 1 1] w fun e w' => e = .returned (.tuple #[.int .i64 60, .int .i64 0]) ∧ Below w.heap.size w w' := by
  go_enter Try.func26, Try.ntmps26
  go_wp2_with (fail)
  refine (checkBeads_one g w h).mono ?_
  rintro e w1 ⟨rfl, hb⟩
  replace h := heap_keep hb h
  have hg := lt_of_heap h
  have c0 : w1.cell? ⟨g, 0, none⟩ = some (.int .i64 10) := cell_of h (i := 0) rfl
  have c1 : w1.cell? ⟨g, 1, none⟩ = some (.int .i64 3) := cell_of h (i := 1) rfl
  have c2 : w1.cell? ⟨g, 2, none⟩ = some (.int .i64 2) := cell_of h (i := 2) rfl
  have B1 := Lib.hid hb
  clear hb h
  go_wp2_with (fail)
  refine wp_loop_rounds 2 ?_
  rw [rounds_succ]
  go_wp2
  rw [rounds_succ]
  go_wp2
  go_ret2
  exact ⟨rfl, Below.trans B1.out (Below.mono (show Below w1.heap.size w1 _ from (by repeat (first | exact Below.refl _ _ | assumption | refine Below.drew ?_ | refine bdrewN ?_ _ | refine Below.setCell ?_ (by first | omega | (simp <;> omega)) _ | refine Below.alloc ?_ (by first | omega | (simp <;> omega)) _))) B1.out.size)⟩
def RDp : Obj := .cells #[.int .i64 10, .int .i64 3, .int .i64 2] 63
set_option maxRecDepth 100000 in
set_option maxHeartbeats 4000000 in
theorem ready_any (w : World) : Calls Try.prog 10 #[] w fun e w' => e = .returned (.bool true) ∧ Below w.heap.size w w' := by
  have HB := Lib.hid (show Below w.heap.size w (w.alloc (.cells #[.int .i64 10, .int .i64 3, .int .i64 2] 63)) from (Below.refl _ _).alloc (Nat.le_refl _) _)
  have H0 := Lib.hid (heap_alloc_new w (.cells #[.int .i64 10, .int .i64 3, .int .i64 2] 63))
  go_enter Try.func10, Try.ntmps10
  go_wp2_with (fail)
  refine (volume_one w.heap.size _ H0.out).mono ?_
  rintro e w1 ⟨rfl, hb⟩
  have B1 := Lib.hid (HB.out.trans (hb.mono HB.out.size))
  clear hb H0 HB
  go_upto_region 2 with (fail)
  go_wp2_with (fail)
  refine (area_square w1 _ _ rfl (by simp) 1).mono ?_
  rintro e w2 ⟨rfl, hb⟩
  have B2 := Lib.hid (B1.out.trans (hb.mono B1.out.size))
  clear hb B1
  go_upto_region 3 with (fail)
  have hb : Below w2.heap.size w2 ((((w2.alloc (.cells #[.string ⟨#[112]⟩, .string ⟨#[97]⟩] 74)).alloc (.cells #[.string ⟨#[106]⟩, .string ⟨#[98]⟩, .int .i64 20, .int .i64 0] 77)).alloc (.cells #[.int .i64 0] 3)).alloc (.cells #[.slice (some ⟨w2.heap.size + 1 + 1, 0, none⟩) 1 1] 22)) := (by repeat (first | exact Below.refl _ _ | assumption | refine Below.drew ?_ | refine bdrewN ?_ _ | refine Below.setCell ?_ (by first | omega | (simp <;> omega)) _ | refine Below.alloc ?_ (by first | omega | (simp <;> omega)) _))
  have B3 := Lib.hid (B2.out.trans (hb.mono B2.out.size))
  clear hb
  go_wp2_with (fail)
  refine (ends_one (w2.heap.size) (w2.heap.size + 1) (w2.heap.size + 1 + 1 + 1) (w2.heap.size + 1 + 1) _ (by repeat (first | (refine heap_new ?_; first | rfl | (simp; done)) | rw [Below.heap_setCell _ _ _ _ (by simp <;> omega)] | rw [Below.heap_alloc _ _ _ (by simp <;> omega)])) (by repeat (first | (refine heap_new ?_; first | rfl | (simp; done)) | rw [Below.heap_setCell _ _ _ _ (by simp <;> omega)] | rw [Below.heap_alloc _ _ _ (by simp <;> omega)])) (by repeat (first | (refine heap_new ?_; first | rfl | (simp; done)) | rw [Below.heap_setCell _ _ _ _ (by simp <;> omega)] | rw [Below.heap_alloc _ _ _ (by simp <;> omega)])) (by repeat (first | (refine heap_new ?_; first | rfl | (simp; done)) | rw [Below.heap_setCell _ _ _ _ (by simp <;> omega)] | rw [Below.heap_alloc _ _ _ (by simp <;> omega)]))).mono ?_
  rintro e w3 ⟨⟨a, c, rfl⟩, hb⟩
  have B4 := Lib.hid (B3.out.trans (hb.mono B3.out.size))
  clear hb
  go_wp2_with (fail)
  go_ret
  exact ⟨rfl, B4.out⟩
end Go.Proofs.Ytmcebhjcaacbpaa.rdy

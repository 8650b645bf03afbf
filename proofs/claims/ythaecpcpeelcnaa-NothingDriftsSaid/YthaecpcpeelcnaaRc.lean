/- Points as keys of a map; whether one is there twice. -/
import Derived.Test.YthaecpcpeelcnaaRa
import Derived.Maps.OwnSet
import Derived.Maps.OwnOps
import Derived.Maps.Views
import Derived.Carry
import Derived.DeepKeys4
set_option linter.unusedSimpArgs false
set_option linter.unusedVariables false
namespace Go.Proofs.Ythaecpcpeelcnaa
open Go.RowKit Go.Maps

/-- Pairs of numbers in a block. -/
def Du (w : World) (b off n : Nat) (X Y : Nat → Int) : Prop :=
  ∀ i, i < n → (w.cell? ⟨b, off + i * 2, none⟩ = some (.int .i64 (X i)) ∧ w.cell? ⟨b, off + i * 2 + 1, none⟩ = some (.int .i64 (Y i)))
theorem Du.kept {w w' : World} {b off n : Nat} {X Y : Nat → Int} (h : Du w b off n X Y) (hb : Below w.heap.size w w') (hl : b < w.heap.size) : Du w' b off n X Y :=
  fun i hi => ⟨cellk hb hl (h i hi).1, cellk hb hl (h i hi).2⟩

theorem laidOutP : laidOutB Try.prog = true := by kernel_rfl
theorem pointKeyed : Keyed Try.prog 49 :=
  Keyed.of_law (deep_law_laid (m := 100) laidOutP (by decide) (of_decide_eq_true (by kernel_rfl)) (by kernel_rfl) (by kernel_rfl))
def PK (p q : Int) : Lit := .string (keyBytes [.int .i64 p, .int .i64 q])
theorem key_point (p q : Int) (hp : (Lit.int .i64 p).wf = true) (hq : (Lit.int .i64 q).wf = true) : keyOf Try.prog 49 (.agg #[.int .i64 p, .int .i64 q]) = some (PK p q) := by
  have hk : Try.prog.keyType 49 = true := by kernel_rfl
  have hf : (Value.agg #[.int .i64 p, .int .i64 q]).formed Try.prog 49 = true := by kernel_rfl
  have c2 : Try.prog.cellsOf 49 = 2 := by kernel_rfl
  have c1 : Try.prog.cellsOf 3 = 1 := by kernel_rfl
  obtain ⟨d, hd⟩ : ∃ d, Try.prog.types.size + 1 = d + 2 := ⟨Try.prog.types.size - 1, by
    have : 1 ≤ Try.prog.types.size := of_decide_eq_true (by kernel_rfl)
    omega⟩
  have hcs : (Value.agg #[.int .i64 p, .int .i64 q]).cells.toList = [.int .i64 p, .int .i64 q] := rfl
  unfold keyOf
  rw [Try.underlying49, hd]
  simp only [hk, hf, Bool.and_self, if_true, hcs]
  simp [Program.keyLits, Try.underlying49, Try.underlying3, PK, hp, hq, c1, c2]
theorem pk_lit (p q : Int) : WideAt.IsKeyLit (PK p q) := by simp [PK, WideAt.IsKeyLit]
theorem pk_inj {p q p' q' : Int} (hp : (Lit.int .i64 p).wf = true) (hq : (Lit.int .i64 q).wf = true) (hp' : (Lit.int .i64 p').wf = true) (hq' : (Lit.int .i64 q').wf = true) (h : PK p q = PK p' q') : p = p' ∧ q = q' := by
  have h1 := key_point p q hp hq
  have h2 := key_point p' q' hp' hq'
  rw [← h] at h2
  have := pointKeyed.inj h1 h2
  simpa using this
theorem sm_wf {n : Int} (h : sm n) : (Lit.int .i64 n).wf = true := WalkArith.wf_i64 (by unfold sm at h; omega)
/-- The set of the first n points. -/
def PD (X Y : Nat → Int) : Nat → DataW Unit
  | 0 => .map []
  | n + 1 => (PD X Y n).put (PK (X n) (Y n)) (.lit (.bool true))
theorem pd_tidy (X Y : Nat → Int) (n : Nat) : Tidy (PD X Y n) := by
  induction n with
  | zero => exact tidy_empty
  | succ n ih => exact ih.put (pk_lit _ _) _
theorem pd_new {X Y : Nat → Int} {n : Nat} {p q : Int} (hX : ∀ i, i < n → sm (X i) ∧ sm (Y i)) (hp : sm p) (hq : sm q) (hd : ∀ i, i < n → ¬ (X i = p ∧ Y i = q)) : Maps.has (PD X Y n) (PK p q) = false := by
  induction n with
  | zero => simp [PD, has_eq]
  | succ n ih =>
    simp only [PD]
    have hne : PK p q ≠ PK (X n) (Y n) := fun e => by
      obtain ⟨rfl, rfl⟩ := pk_inj (sm_wf hp) (sm_wf hq) (sm_wf (hX n (by omega)).1) (sm_wf (hX n (by omega)).2) e
      exact hd n (by omega) ⟨rfl, rfl⟩
    rw [has_put_other hne]
    exact ih (fun i hi => hX i (by omega)) (fun i hi => hd i (by omega))

theorem bool_inv {e : TypeId} (he : Try.prog.underlying e = some .bool) {v : Value} {z : DataW Unit × List MemPlace} (h : plainElem Try.prog e v = some z) : ∃ x : Bool, v = .bool x ∧ z = (.lit (.bool x), []) := by
  unfold plainElem at h
  rw [he] at h
  cases v <;> simp at h
  exact ⟨_, rfl, h.symm⟩
def Far (n : Nat) (X Y : Nat → Int) : Prop := ∀ i j, i < j → j < n → ¬ (X i = X j ∧ Y i = Y j)
theorem zeroBool (w : World) : (zeroValue 4).run Try.prog w = .ok (.bool false) w := by kernel_rfl
set_option maxRecDepth 100000 in
set_option maxHeartbeats 2000000 in
theorem hasTwice_no (b off n c : Nat) (X Y : Nat → Int) (w : World) (hb : b < w.heap.size) (hd : Du w b off n X Y) (hn : n ≤ 1000) (hs : ∀ i, i < n → sm (X i) ∧ sm (Y i)) (hf : Far n X Y) :
    Calls Try.prog 53 #[.slice (some ⟨b, off, none⟩) n c] w fun e w' => e = .returned (.bool false) ∧ Below w.heap.size w w' := by
  have hmm := @run_makeMap Try.prog
  have HD := Lib.hid hd
  have HS := Lib.hid hs
  have HF := Lib.hid hf
  clear hd hs hf
  go_enter Try.func53, Try.ntmps53
  go_wp2
  go_loopw [9] (fun i wr => ∃ k : Nat, k ≤ n ∧ i = .int .i64 k ∧ wr.ownsMap Try.prog 49 (plainElem Try.prog 4) w.heap.size k (PD X Y k) ∧ Below w.heap.size w wr) (fun i _ => n - (intOf i).toNat)
  case atStart => exact ⟨0, by omega, rfl, World.ownsMap_made _ _ _ _, (by repeat (first | exact Below.refl _ _ | assumption | refine Below.drew ?_ | refine bdrewN ?_ _ | refine Below.setCell ?_ (by first | omega | (simp <;> omega)) _ | refine Below.alloc ?_ (by first | omega | (simp <;> omega)) _))⟩
  case round =>
    obtain ⟨k, hk, rfl, hown, hbel⟩ := hrel
    have hsz := hbel.size
    have hlt0 := hown.lt
    have HO := Lib.hid hown
    clear hown
    by_cases hlt : k < n
    · obtain ⟨c0, c1⟩ := (HD.out.kept hbel hb) k hlt
      obtain ⟨s0, s1⟩ := HS.out k hlt
      have HK := Lib.hid (key_point (X k) (Y k) (sm_wf s0) (sm_wf s1))
      have hbw : b < wr.heap.size := by omega
      have hnew := pd_new (fun i hi => HS.out i (by omega)) s0 s1 (fun i hi => HF.out i k hi hlt)
      obtain ⟨v, ps, hrun, hv⟩ := (HO.out.alloc (.cells #[.int .i64 (X k), .int .i64 (Y k)] 49)).lookup pointKeyed Try.underlying97 (zeroBool _) (plainElem_bool Try.underlying4 false) HK.out
      obtain ⟨x, rfl, hx⟩ := bool_inv Try.underlying4 hv
      have hx' : x = false := by
        rw [Maps.atKey_of_not_has hnew] at hx
        simp at hx
        exact hx.1
      subst hx'
      clear hv hx hnew s0 s1
      go_wp2_with (at_mapUpdate; refine wpList_mapUpdate_own _ rfl _ _ _ 97 rfl 49 4 pointKeyed Try.underlying97 _ w.heap.size k _ rfl (HO.out.alloc _) (by unfold maxLen; omega) _ _ _ rfl rfl HK.out _ [] (plainElem_bool Try.underlying4 true) ?_; intro w4 hown4 hgrow4)
      have R1 : Below w.heap.size w w4 := (hbel.alloc hsz _).grown hgrow4 (by simp; omega) (fun j hj => by cases hj; exact Nat.le_refl _)
      have HO4 := Lib.hid hown4
      clear hgrow4 hown4
      go_roundw
      case rel => exact ⟨k + 1, by omega, by go_num, HO4.out, R1⟩
      case measure => simp [intOf]; omega
    · obtain rfl : n = k := by omega
      go_wp2
      go_ret
      exact ⟨rfl, hbel⟩
end Go.Proofs.Ythaecpcpeelcnaa

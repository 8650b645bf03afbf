/- Orders are checked: the program. -/
import Derived.Test.YtapihgmokgkaaaaYd
import Derived.Maps.OwnSet
import Derived.Maps.OwnOps
import Derived.Maps.Views
import Derived.Carry
import Derived.DeepKeys4
set_option linter.unusedSimpArgs false
set_option linter.unusedVariables false
namespace Go.Proofs.Ytapihgmokgkaaaa
open Go.RowKit Go.Maps

theorem laidOutP : laidOutB Try.prog = true := by kernel_rfl
theorem intKeyed : Keyed Try.prog 3 := int_keyed Try.underlying3
def VD (V : Nat → Vis) : Nat → DataW Unit
  | 0 => .map []
  | n + 1 => (VD V n).put (.int .i64 (V n).p) (.lit (.bool true))
theorem vd_map (V : Nat → Vis) (n : Nat) : IsMap (VD V n) := by
  induction n with
  | zero => exact isMap_empty
  | succ n ih => exact ih.put _ _
theorem vd_at (V : Nat → Vis) (p : Int) : ∀ n, (VD V n).atKey (.int .i64 p) (.lit (.bool false)) = .lit (.bool (seenB V n p))
  | 0 => by simp [VD, seenB]; rfl
  | n + 1 => by
    by_cases h : (V n).p = p
    · subst h
      have : seenB V (n + 1) (V n).p = true := by unfold seenB; rw [decide_eq_true_eq]; exact ⟨n, by omega, rfl⟩
      rw [this]
      exact atKey_put_same (vd_map V n) (by simp [WideAt.IsKeyLit]) _ _
    · have hne : (Lit.int .i64 p) ≠ .int .i64 (V n).p := fun e => h (by cases e; rfl)
      show ((VD V n).put _ _).atKey _ _ = _
      rw [atKey_put_other hne, vd_at V p n]
      have : seenB V (n + 1) p = seenB V n p := by
        unfold seenB
        rw [decide_eq_decide]
        constructor
        · rintro ⟨i, h1, h2⟩
          have h3 : i ≠ n := fun e => h (by rw [← e]; exact h2)
          exact ⟨i, by omega, h2⟩
        · rintro ⟨i, h1, h2⟩
          exact ⟨i, by omega, h2⟩
      rw [this]
theorem bool_inv {e : TypeId} (he : Try.prog.underlying e = some .bool) {v : Value} {z : DataW Unit × List MemPlace} (h : plainElem Try.prog e v = some z) : ∃ x : Bool, v = .bool x ∧ z = (.lit (.bool x), []) := by
  unfold plainElem at h
  rw [he] at h
  cases v <;> simp at h
  exact ⟨_, rfl, h.symm⟩
theorem zeroBool (w : World) : (zeroValue 4).run Try.prog w = .ok (.bool false) w := by kernel_rfl
theorem key_int {p : Int} (h : sm p) : keyOf Try.prog 3 (.int .i64 p) = some (.int .i64 p) := keyOf_int_mk Try.underlying3 (WalkArith.wf_i64 (by unfold sm at h; omega))
theorem map_below {w w' : World} {b n : Nat} {D : DataW Unit} (h : w.ownsMap Try.prog 3 (plainElem Try.prog 4) b n D) (hb : Below w.heap.size w w') : w'.ownsMap Try.prog 3 (plainElem Try.prog 4) b n D :=
  h.kept (row := none) ⟨hb.os, hb.tape, hb.output, hb.size, fun i hi _ => hb.block i hi⟩ (by simp)
/-- What is told of a path among those that were visited. -/
theorem look_seen {W : World} {base k n : Nat} {V : Nat → Vis} {p : Int} (ho : W.ownsMap Try.prog 3 (plainElem Try.prog 4) base n (VD V k)) (hp : sm p) :
    (Instr.lookup 66 (.map (some base)) (.int .i64 p) false).run Try.prog W = .ok (.bool (seenB V k p)) W := by
  obtain ⟨v, ps, hrun, hv⟩ := ho.lookup intKeyed Try.underlying66 (zeroBool _) (plainElem_bool Try.underlying4 false) (key_int hp)
  obtain ⟨x, rfl, hx⟩ := bool_inv Try.underlying4 hv
  rw [vd_at] at hx
  simp at hx
  rw [hx.1]
  exact hrun
theorem look_none {W : World} {p : Int} (hp : sm p) : (Instr.lookup 66 (.map none) (.int .i64 p) false).run Try.prog W = .ok (.bool false) W :=
  Maps.look_nil false intKeyed Try.underlying66 (zeroBool _) (key_int hp)

/-- The error of one visit alone. -/
def oneF (m : Nat) (P : Nat → Pth) (v : Vis) : Int := if psF m P ≠ 0 then psF m P else vF m P false v
theorem checkVisited_any (a : Option Addr) (m c : Nat) (P : Nat → Pth) (v : Vis) (w : World) (hm : m ≤ 100) (hp : PathsR w a m P) (hn : ∀ i, i < m → (P i).n ≤ 100) (hv : sm v.p) :
    Calls Try.prog 32 #[.slice a m c, v.v] w fun e w' => e = .returned (.int .i64 (oneF m P v)) ∧ Below w.heap.size w w' := by
  have HP := Lib.hid hp
  have HN := Lib.hid hn
  clear hp hn
  obtain ⟨p, s, bk⟩ := v
  unfold Vis.v
  dsimp only at *
  go_enter Try.func32, Try.ntmps32
  go_wp2_with (fail)
  refine (checkPaths_any a m c P _ hm (HP.out.kept (by repeat (first | exact Below.refl _ _ | assumption | refine Below.drew ?_ | refine bdrewN ?_ _ | refine Below.setCell ?_ (by first | omega | (simp <;> omega)) _ | refine Below.alloc ?_ (by first | omega | (simp <;> omega)) _))) HN.out).mono ?_
  rintro e w1 ⟨rfl, hb1⟩
  have B1 := Lib.hid (Below.trans (show Below w.heap.size w (w.alloc (.cells #[.int .i64 p, .int .i64 s, .bool bk] 34)) from (by repeat (first | exact Below.refl _ _ | assumption | refine Below.drew ?_ | refine bdrewN ?_ _ | refine Below.setCell ?_ (by first | omega | (simp <;> omega)) _ | refine Below.alloc ?_ (by first | omega | (simp <;> omega)) _))) (hb1.mono (by simp <;> omega)))
  have d0 : w1.cell? ⟨w.heap.size, 0, none⟩ = some (.int .i64 p) := cellk hb1 (by simp) (by simp [go_sem])
  have d1 : w1.cell? ⟨w.heap.size, 1, none⟩ = some (.int .i64 s) := cellk hb1 (by simp) (by simp [go_sem])
  have d2 : w1.cell? ⟨w.heap.size, 2, none⟩ = some (.bool bk) := cellk hb1 (by simp) (by simp [go_sem])
  have hs1 : w.heap.size < w1.heap.size := by have := hb1.size; simp at this; omega
  clear hb1
  by_cases hz : psF m P = 0
  · have R := Lib.hid (show oneF m P ⟨p, s, bk⟩ = vF m P false ⟨p, s, bk⟩ by simp [oneF, hz])
    have hz' : (psF m P != 0) = false := by simp [hz]
    clear hz
    go_wp2_with (fail)
    refine (checkVisit_any a m c P ⟨p, s, bk⟩ (.map none) false _ hm (HP.out.kept B1.out) HN.out (fun _ _ W _ => look_none hv)).mono ?_
    rintro e w2 ⟨rfl, hb2⟩
    have B2 := Lib.hid (B1.out.trans (hb2.mono B1.out.size))
    clear hb2
    go_wp2_with (fail)
    go_ret
    exact ⟨ret_int R.out.symm, B2.out⟩
  · have R := Lib.hid (show oneF m P ⟨p, s, bk⟩ = psF m P by simp [oneF, hz])
    have hz' : (psF m P != 0) = true := by simpa using hz
    clear hz
    go_wp2_with (fail)
    go_ret
    exact ⟨ret_int R.out.symm, B1.out⟩

set_option maxRecDepth 100000 in
set_option maxHeartbeats 4000000 in
theorem checkOrder_any (a : Option Addr) (m c : Nat) (P : Nat → Pth) (ao : Option Addr) (l co : Nat) (V : Nat → Vis) (w : World) (hm : m ≤ 100) (hp : PathsR w a m P) (hn : ∀ i, i < m → (P i).n ≤ 100)
    (hl : l ≤ 100) (ho : VisR w ao l V) (hv : ∀ i, i < l → sm (V i).p) :
    Calls Try.prog 11 #[.slice a m c, .slice ao l co] w fun e w' => e = .returned (.int .i64 (oF m P l V)) ∧ Below w.heap.size w w' := by
  have hmm := @run_makeMap Try.prog
  have HP := Lib.hid hp
  have HN := Lib.hid hn
  have HO := Lib.hid ho
  have HV := Lib.hid hv
  clear hp hn ho hv
  go_enter Try.func11, Try.ntmps11
  go_wp2_with (fail)
  refine (checkPaths_any a m c P _ hm HP.out HN.out).mono ?_
  rintro e w1 ⟨rfl, hb1⟩
  have B1 := Lib.hid hb1
  clear hb1
  by_cases hz : psF m P = 0
  · have R := Lib.hid (show oF m P l V = if l ≠ m then 3 else firstE (fun j => vF m P (seenB V j (V j).p) (V j)) l by simp [oF, hz])
    have hz' : (psF m P != 0) = false := by simp [hz]
    clear hz
    by_cases hlm : l = m
    · subst hlm
      have R2 := Lib.hid (show oF l P l V = firstE (fun j => vF l P (seenB V j (V j).p) (V j)) l by rw [R.out]; simp)
      go_wp2_with (fail)
      go_loopw [23] (fun i wr => ∃ k : Nat, k ≤ l ∧ i = .int .i64 k ∧ (∀ j, j < k → vF l P (seenB V j (V j).p) (V j) = 0) ∧ wr.ownsMap Try.prog 3 (plainElem Try.prog 4) w1.heap.size k (VD V k) ∧ Below w.heap.size w wr ∧ Below w1.heap.size w1 wr) (fun i _ => l - (intOf i).toNat)
      case atStart => exact ⟨0, by omega, rfl, fun j hj => by omega, World.ownsMap_made _ _ _ _, Below.trans B1.out (Below.mono (show Below w1.heap.size w1 _ from (by repeat (first | exact Below.refl _ _ | assumption | refine Below.drew ?_ | refine bdrewN ?_ _ | refine Below.setCell ?_ (by first | omega | (simp <;> omega)) _ | refine Below.alloc ?_ (by first | omega | (simp <;> omega)) _))) B1.out.size), (by repeat (first | exact Below.refl _ _ | assumption | refine Below.drew ?_ | refine bdrewN ?_ _ | refine Below.setCell ?_ (by first | omega | (simp <;> omega)) _ | refine Below.alloc ?_ (by first | omega | (simp <;> omega)) _))⟩
      case round =>
        obtain ⟨k, hk, rfl, hj, hown, hbel, hbel1⟩ := hrel
        have HJ := Lib.hid hj
        clear hj
        have hsz := hbel.size
        have hsz1 := hbel1.size
        have hlt0 := hown.lt
        have HM := Lib.hid hown
        clear hown
        by_cases hlt : k < l
        · rcases HO.out with h0 | ⟨b, off, rfl, hb, hd⟩
          · omega
          obtain ⟨c0, c1, c2⟩ := hd k hlt
          replace c0 := cellk hbel hb c0
          replace c1 := cellk hbel hb c1
          replace c2 := cellk hbel hb c2
          have hbw : b < wr.heap.size := by omega
          have HB := Lib.hid hbel
          have HB1 := Lib.hid hbel1
          have hvk := HV.out k hlt
          have hkey := Lib.hid (key_int hvk)
          clear hbel hbel1 hd
          have BA := Lib.hid (HB.out.alloc hsz (.cells #[.int .i64 (V k).p, .int .i64 (V k).s, .bool (V k).b] 34))
          have BA1 := Lib.hid (HB1.out.alloc hsz1 (.cells #[.int .i64 (V k).p, .int .i64 (V k).s, .bool (V k).b] 34))
          have HMA := Lib.hid (HM.out.alloc (.cells #[.int .i64 (V k).p, .int .i64 (V k).s, .bool (V k).b] 34))
          go_wp2_with (fail)
          refine (checkVisit_any a l c P (V k) (.map (some w1.heap.size)) (seenB V k (V k).p) _ hm (HP.out.kept BA.out) HN.out (fun _ _ W hW => by subst hW; exact look_seen (HMA.out.alloc _) hvk)).mono ?_
          rintro e w3 ⟨rfl, hb3⟩
          have B3 := Lib.hid (BA.out.trans (hb3.mono (by simp; omega)))
          have B31 := Lib.hid (BA1.out.trans (hb3.mono (by simp; omega)))
          have HM3 := Lib.hid (map_below HMA.out hb3)
          have hb2 := hb3.block wr.heap.size (by simp)
          have d0 : w3.cell? ⟨wr.heap.size, 0, none⟩ = some (.int .i64 (V k).p) := cellk hb3 (by simp) (by simp [go_sem])
          have hs3 : wr.heap.size < w3.heap.size := by have := hb3.size; simp at this; omega
          clear hb3 hb2 c0 c1 c2
          by_cases hz : vF l P (seenB V k (V k).p) (V k) = 0
          · have HS := Lib.hid (show ∀ j, j < k + 1 → vF l P (seenB V j (V j).p) (V j) = 0 from fun j hj => by
              rcases Nat.lt_or_ge j k with h | h
              · exact HJ.out j h
              · obtain rfl : j = k := by omega
                exact hz)
            have hz' : (vF l P (seenB V k (V k).p) (V k) != 0) = false := by simp [hz]
            clear hz
            go_wp2_with (at_mapUpdate; refine wpList_mapUpdate_own _ rfl _ _ _ 66 rfl 3 4 intKeyed Try.underlying66 _ w1.heap.size k _ rfl HM3.out (by unfold maxLen; omega) _ _ _ rfl rfl hkey.out _ [] (plainElem_bool Try.underlying4 true) ?_; intro w4 hown4 hgrow4)
            have R1 : Below w.heap.size w w4 := B3.out.grown hgrow4 (by omega) (fun j hj => by cases hj; exact B1.out.size)
            have R11 : Below w1.heap.size w1 w4 := B31.out.grown hgrow4 (by omega) (fun j hj => by cases hj; exact Nat.le_refl _)
            have HO4 := Lib.hid hown4
            have HR1 := Lib.hid R1
            have HR11 := Lib.hid R11
            clear hgrow4 hown4 R1 R11
            go_roundw
            case rel => exact ⟨k + 1, by omega, by go_num, HS.out, HO4.out, HR1.out, HR11.out⟩
            case measure => simp [intOf]; omega
          · have RR := Lib.hid (firstE_at (f := fun j => vF l P (seenB V j (V j).p) (V j)) hlt HJ.out hz)
            have hz' : (vF l P (seenB V k (V k).p) (V k) != 0) = true := by simpa using hz
            clear hz
            go_wp2_with (fail)
            go_ret
            exact ⟨ret_int (R2.out.trans RR.out).symm, B3.out⟩
        · obtain rfl : l = k := by omega
          have HB := Lib.hid hbel
          clear hbel
          go_wp2_with (fail)
          go_ret
          exact ⟨ret_int (R2.out.trans (firstE_zero HJ.out)).symm, HB.out⟩
    · have R2 := Lib.hid (show oF m P l V = 3 by rw [R.out]; simp [hlm])
      have hlm' : ((l : Int) != (m : Int)) = true := by simp; omega
      go_wp2_with (fail)
      go_ret
      exact ⟨ret_int R2.out.symm, B1.out⟩
  · have R := Lib.hid (show oF m P l V = psF m P by simp [oF, hz])
    have hz' : (psF m P != 0) = true := by simpa using hz
    clear hz
    go_wp2_with (fail)
    go_ret
    exact ⟨ret_int R.out.symm, B1.out⟩
end Go.Proofs.Ytapihgmokgkaaaa

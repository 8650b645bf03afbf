/- Orders are checked: the program. -/
import Derived.Test.YtcahjkaphpeobaaYd
import Derived.Maps.OwnSet
import Derived.Maps.OwnOps
import Derived.Maps.Views
import Derived.Carry
import Derived.DeepKeys4
set_option linter.unusedSimpArgs false
set_option linter.unusedVariables false
namespace Go.Proofs.Ytcahjkaphpeobaa
open Go.RowKit Go.Maps

theorem laidOutP : laidOutB Try.prog = true := by kernel_rfl
theorem intKeyed : Keyed Try.prog 3 := int_keyed Try.underlying3
def VD (V : Nat → Vis) : Nat → DataW Unit
  | 0 => .map []
  | n + 1 => (VD V n).put (.int .i64 (V n).p) (.lit (.bool true))
theorem vd_map (V : Nat → Vis) (n : Nat) : IsMap (VD V n) := by
  induction n with
  | zero => exact isMap_empty
  | succ n ih => exact ih.put _ _
theorem vd_at (V : Nat → Vis) (p : Int) : ∀ n, (VD V n).atKey (.int .i64 p) (.lit (.bool false)) = .lit (.bool (seenB V n p))
  | 0 => by simp [VD, seenB]; rfl
  | n + 1 => by
    by_cases h : (V n).p = p
    · subst h
      have : seenB V (n + 1) (V n).p = true := by unfold seenB; rw [decide_eq_true_eq]; exact ⟨n, by omega, rfl⟩
      rw [this]
      exact atKey_put_same (vd_map V n) (by simp [WideAt.IsKeyLit]) _ _
    · have hne : (Lit.int .i64 p) ≠ .int .i64 (V n).p := fun e => h (by cases e; rfl)
      show ((VD V n).put _ _).atKey _ _ = _
      rw [atKey_put_other hne, vd_at V p n]
      have : seenB V (n + 1) p = seenB V n p := by
        unfold seenB
        rw [decide_eq_decide]
        constructor
        · rintro ⟨i, h1, h2⟩
          have h3 : i ≠ n := fun e => h (by rw [← e]; exact h2)
          exact ⟨i, by omega, h2⟩
        · rintro ⟨i, h1, h2⟩
          exact ⟨i, by omega, h2⟩
      rw [this]
theorem bool_inv {e : TypeId} (he : Try.prog.underlying e = some .bool) {v : Value} {z : DataW Unit × List MemPlace} (h : plainElem Try.prog e v = some z) : ∃ x : Bool, v = .bool x ∧ z = (.lit (.bool x), []) := by
  unfold plainElem at h
  rw [he] at h
  cases v <;> simp at h
  exact ⟨_, rfl, h.symm⟩
theorem zeroBool (w : World) : (zeroValue 4).run Try.prog w = .ok (.bool false) w := by kernel_rfl
theorem key_int {p : Int} (h : sm p) : keyOf Try.prog 3 (.int .i64 p) = some (.int .i64 p) := keyOf_int_mk Try.underlying3 (WalkArith.wf_i64 (by unfold sm at h; omega))
theorem map_below {w w' : World} {b n : Nat} {D : DataW Unit} (h : w.ownsMap Try.prog 3 (plainElem Try.prog 4) b n D) (hb : Below w.heap.size w w') : w'.ownsMap Try.prog 3 (plainElem Try.prog 4) b n D :=
  h.kept (row := none) ⟨hb.os, hb.tape, hb.output, hb.size, fun i hi _ => hb.block i hi⟩ (by simp)
/-- What is told of a path among those that were visited. -/
theorem look_seen {W : World} {base k n : Nat} {V : Nat → Vis} {p : Int} (ho : W.ownsMap Try.prog 3 (plainElem Try.prog 4) base n (VD V k)) (hp : sm p) :
    (Instr.lookup 84 (.map (some base)) (.int .i64 p) false).run Try.prog W = .ok (.bool (seenB V k p)) W := by
  obtain ⟨v, ps, hrun, hv⟩ := ho.lookup intKeyed Try.underlying84 (zeroBool _) (plainElem_bool Try.underlying4 false) (key_int hp)
  obtain ⟨x, rfl, hx⟩ := bool_inv Try.underlying4 hv
  rw [vd_at] at hx
  simp at hx
  rw [hx.1]
  exact hrun
theorem look_none {W : World} {p : Int} (hp : sm p) : (Instr.lookup 84 (.map none) (.int .i64 p) false).run Try.prog W = .ok (.bool false) W :=
  Maps.look_nil false intKeyed Try.underlying84 (zeroBool _) (key_int hp)

/-- The error of one visit alone. -/
def oneF (m : Nat) (P : Nat → Pth) (v : Vis) : Int := if psF m P ≠ 0 then psF m P else vF m P false v
theorem checkVisited_any (a : Option Addr) (m c : Nat) (P : Nat → Pth) (v : Vis) (w : World) (hm : m ≤ 100) (hp : PathsR w a m P) (hn : ∀ i, i < m → (P i).n ≤ 1000) (hv : sm v.p) :
    Calls Try.prog 13 #[.slice a m c, v.v] w fun e w' => e = .returned (.int .i64 (oneF m P v)) ∧ Below w.heap.size w w' := by
  have HP := Lib.hid hp
  have HN := Lib.hid hn
  clear hp hn
  obtain ⟨p, s, bk⟩ := v
  unfold Vis.v
  dsimp only at *
  go_enter Try.func13, Try.ntmps13
  go_wp2_with (fail)
  refine (checkPaths_any a m c P _ hm (HP.out.kept (by repeat (first | exact Below.refl _ _ | assumption | refine Below.drew ?_ | refine bdrewN ?_ _ | refine Below.setCell ?_ (by first | omega | (simp <;> omega)) _ | refine Below.alloc ?_ (by first | omega | (simp <;> omega)) _))) HN.out).mono ?_
  rintro e w1 ⟨rfl, hb1⟩
  have B1 := Lib.hid (Below.trans (show Below w.heap.size w (w.alloc (.cells #[.int .i64 p, .int .i64 s, .bool bk] 32)) from (by repeat (first | exact Below.refl _ _ | assumption | refine Below.drew ?_ | refine bdrewN ?_ _ | refine Below.setCell ?_ (by first | omega | (simp <;> omega)) _ | refine Below.alloc ?_ (by first | omega | (simp <;> omega)) _))) (hb1.mono (by simp <;> omega)))
  have d0 : w1.cell? ⟨w.heap.size, 0, none⟩ = some (.int .i64 p) := cellk hb1 (by simp) (by simp [go_sem])
  have d1 : w1.cell? ⟨w.heap.size, 1, none⟩ = some (.int .i64 s) := cellk hb1 (by simp) (by simp [go_sem])
  have d2 : w1.cell? ⟨w.heap.size, 2, none⟩ = some (.bool bk) := cellk hb1 (by simp) (by simp [go_sem])
  have hs1 : w.heap.size < w1.heap.size := by have := hb1.size; simp at this; omega
  clear hb1
  by_cases hz : psF m P = 0
  · have R := Lib.hid (show oneF m P ⟨p, s, bk⟩ = vF m P false ⟨p, s, bk⟩ by simp [oneF, hz])
    have hz' : (psF m P != 0) = false := by simp [hz]
    clear hz
    go_wp2_with (fail)
    refine (checkVisit_any a m c P ⟨p, s, bk⟩ (.map none) false _ hm (HP.out.kept B1.out) HN.out (fun _ _ W _ => look_none hv)).mono ?_
    rintro e w2 ⟨rfl, hb2⟩
    have B2 := Lib.hid (B1.out.trans (hb2.mono B1.out.size))
    clear hb2
    go_wp2_with (fail)
    go_ret
    exact ⟨ret_int R.out.symm, B2.out⟩
  · have R := Lib.hid (show oneF m P ⟨p, s, bk⟩ = psF m P by simp [oneF, hz])
    have hz' : (psF m P != 0) = true := by simpa using hz
    clear hz
    go_wp2_with (fail)
    go_ret
    exact ⟨ret_int R.out.symm, B1.out⟩

end Go.Proofs.Ytcahjkaphpeobaa

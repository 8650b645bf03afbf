/- Rings: which way one turns, whether sides meet. -/
import Derived.Test.YthaecpcpeelcnaaHold
import Derived.Laws.BitsLemmas
set_option linter.unusedSimpArgs false
set_option linter.unusedVariables false
namespace Go.Proofs.Ythaecpcpeelcnaa
open Go.RowKit

theorem mulB {a b M N : Int} (ha : -M ≤ a ∧ a ≤ M) (hb : -N ≤ b ∧ b ≤ N) : -(M * N) ≤ a * b ∧ a * b ≤ M * N := by
  have h1 : a.natAbs ≤ M.toNat := by omega
  have h2 : b.natAbs ≤ N.toNat := by omega
  have h3 := Nat.mul_le_mul h1 h2
  rw [← Int.natAbs_mul] at h3
  have h4 : ((M.toNat * N.toNat : Nat) : Int) = M * N := by
    rw [Int.natCast_mul, Int.toNat_of_nonneg (by omega), Int.toNat_of_nonneg (by omega)]
  omega
/-- Twice the area of a triangle, counterclockwise above 0. -/
def tI (ax ay bx by_ px py : Int) : Int := (bx - ax) * (py - ay) - (by_ - ay) * (px - ax)
def sgn (T : Int) : Int := if 0 < T then 1 else if T < 0 then -1 else 0
def sm (n : Int) : Prop := -1000000 ≤ n ∧ n ≤ 1000000
theorem w64 {n : Int} (h : -9000000000000000000 ≤ n ∧ n ≤ 9000000000000000000) : IntKind.i64.wrap n = n := by rw [IntKind.wrap_i64]; omega
theorem turnP_any (ax ay bx by_ px py : Int) (w : World) (h1 : sm ax) (h2 : sm ay) (h3 : sm bx) (h4 : sm by_) (h5 : sm px) (h6 : sm py) :
    Calls Try.prog 44 #[.agg #[.int .i64 ax, .int .i64 ay], .agg #[.int .i64 bx, .int .i64 by_], .agg #[.int .i64 px, .int .i64 py]] w
      fun e w' => e = .returned (.int .i64 (sgn (tI ax ay bx by_ px py))) ∧ Below w.heap.size w w' := by
  unfold sm at *
  have m1 := mulB (a := bx - ax) (b := py - ay) (M := 2000000) (N := 2000000) (by omega) (by omega)
  have m2 := mulB (a := by_ - ay) (b := px - ax) (M := 2000000) (N := 2000000) (by omega) (by omega)
  have e1 : IntKind.i64.wrap (bx - ax) = bx - ax := w64 (by omega)
  have e2 : IntKind.i64.wrap (py - ay) = py - ay := w64 (by omega)
  have e3 : IntKind.i64.wrap (by_ - ay) = by_ - ay := w64 (by omega)
  have e4 : IntKind.i64.wrap (px - ax) = px - ax := w64 (by omega)
  have e5 : IntKind.i64.wrap ((bx - ax) * (py - ay)) = (bx - ax) * (py - ay) := w64 (by omega)
  have e6 : IntKind.i64.wrap ((by_ - ay) * (px - ax)) = (by_ - ay) * (px - ax) := w64 (by omega)
  obtain ⟨T, hT⟩ : ∃ T, tI ax ay bx by_ px py = T := ⟨_, rfl⟩
  have e7 : IntKind.i64.wrap ((bx - ax) * (py - ay) - (by_ - ay) * (px - ax)) = T := by rw [← hT]; exact w64 (by omega)
  rw [hT]
  clear m1 m2 h1 h2 h3 h4 h5 h6 hT
  rcases Int.lt_trichotomy 0 T with h | h | h
  · have hs : sgn T = 1 := by simp [sgn, h]
    go_enter Try.func44, Try.ntmps44
    go_wp2
    go_ret
    exact ⟨by simp [hs], (by repeat (first | exact Below.refl _ _ | assumption | refine Below.drew ?_ | refine bdrewN ?_ _ | refine Below.setCell ?_ (by first | omega | (simp <;> omega)) _ | refine Below.alloc ?_ (by first | omega | (simp <;> omega)) _))⟩
  · subst h
    go_enter Try.func44, Try.ntmps44
    go_wp2
    go_ret
    exact ⟨rfl, (by repeat (first | exact Below.refl _ _ | assumption | refine Below.drew ?_ | refine bdrewN ?_ _ | refine Below.setCell ?_ (by first | omega | (simp <;> omega)) _ | refine Below.alloc ?_ (by first | omega | (simp <;> omega)) _))⟩
  · have hs : sgn T = -1 := by simp [sgn, h]; omega
    have h' : ¬ 0 < T := by omega
    go_enter Try.func44, Try.ntmps44
    go_wp2
    go_ret
    exact ⟨by simp [hs], (by repeat (first | exact Below.refl _ _ | assumption | refine Below.drew ?_ | refine bdrewN ?_ _ | refine Below.setCell ?_ (by first | omega | (simp <;> omega)) _ | refine Below.alloc ?_ (by first | omega | (simp <;> omega)) _))⟩

theorem ret_b {a b : Bool} (h : a = true ↔ b = true) : Ending.returned (.bool a) = .returned (.bool b) := by rw [Bool.eq_iff_iff.2 h]
def oB (a b c d : Int) : Bool := decide (min c d ≤ max a b ∧ min a b ≤ max c d)
theorem overlap_any (a b c d : Int) (w : World) :
    Calls Try.prog 61 #[.int .i64 a, .int .i64 b, .int .i64 c, .int .i64 d] w fun e w' => e = .returned (.bool (oB a b c d)) ∧ Below w.heap.size w w' := by
  go_enter Try.func61, Try.ntmps61
  go_wp2
  all_goals go_ret
  all_goals exact ⟨ret_b (by simp only [oB, decide_eq_true_eq, Bool.false_eq_true, true_iff, false_iff] <;> omega), (by repeat (first | exact Below.refl _ _ | assumption | refine Below.drew ?_ | refine bdrewN ?_ _ | refine Below.setCell ?_ (by first | omega | (simp <;> omega)) _ | refine Below.alloc ?_ (by first | omega | (simp <;> omega)) _))⟩
def rB (x y : Int) : Bool := decide (max x y ≤ 100000 ∧ -100000 ≤ min x y)
theorem turnS_any (ax ay bx by_ px py : Int) (w : World) (h1 : sm ax) (h2 : sm ay) (h3 : sm bx) (h4 : sm by_) (h5 : sm px) (h6 : sm py) :
    Calls Try.prog 62 #[.agg #[.int .i64 ax, .int .i64 ay, .int .i64 bx, .int .i64 by_], .agg #[.int .i64 px, .int .i64 py]] w
      fun e w' => e = .returned (.int .i64 (sgn (tI ax ay bx by_ px py))) ∧ Below w.heap.size w w' := by
  go_enter Try.func62, Try.ntmps62
  go_wp2_with (go_at_call 44; refine (turnP_any ax ay bx by_ px py _ h1 h2 h3 h4 h5 h6).mono ?_; rintro e w' ⟨rfl, hb⟩)
  go_ret
  exact ⟨rfl, Below.trans (by repeat (first | exact Below.refl _ _ | assumption | refine Below.drew ?_ | refine bdrewN ?_ _ | refine Below.setCell ?_ (by first | omega | (simp <;> omega)) _ | refine Below.alloc ?_ (by first | omega | (simp <;> omega)) _)) (hb.mono (by simp <;> omega))⟩

def tbB (ax ay bx by_ cx cy dx dy : Int) : Bool := decide ((bx - ax) * (dx - cx) + (by_ - ay) * (dy - cy) < 0 ∧ sgn (tI ax ay bx by_ dx dy) = 0)
theorem turnsBack_any (ax ay bx by_ cx cy dx dy : Int) (w : World) (h1 : sm ax) (h2 : sm ay) (h3 : sm bx) (h4 : sm by_) (h5 : sm cx) (h6 : sm cy) (h7 : sm dx) (h8 : sm dy) :
    Calls Try.prog 60 #[.agg #[.int .i64 ax, .int .i64 ay, .int .i64 bx, .int .i64 by_], .agg #[.int .i64 cx, .int .i64 cy, .int .i64 dx, .int .i64 dy]] w
      fun e w' => e = .returned (.bool (tbB ax ay bx by_ cx cy dx dy)) ∧ Below w.heap.size w w' := by
  have b1 := h1
  have b2 := h2
  have b3 := h3
  have b4 := h4
  have b5 := h5
  have b6 := h6
  have b7 := h7
  have b8 := h8
  unfold sm at b1 b2 b3 b4 b5 b6 b7 b8
  have m1 := mulB (a := bx - ax) (b := dx - cx) (M := 2000000) (N := 2000000) (by omega) (by omega)
  have m2 := mulB (a := by_ - ay) (b := dy - cy) (M := 2000000) (N := 2000000) (by omega) (by omega)
  have e1 : IntKind.i64.wrap (bx - ax) = bx - ax := w64 (by omega)
  have e2 : IntKind.i64.wrap (dx - cx) = dx - cx := w64 (by omega)
  have e3 : IntKind.i64.wrap (by_ - ay) = by_ - ay := w64 (by omega)
  have e4 : IntKind.i64.wrap (dy - cy) = dy - cy := w64 (by omega)
  have e5 : IntKind.i64.wrap ((bx - ax) * (dx - cx)) = (bx - ax) * (dx - cx) := w64 (by omega)
  have e6 : IntKind.i64.wrap ((by_ - ay) * (dy - cy)) = (by_ - ay) * (dy - cy) := w64 (by omega)
  obtain ⟨T, hT⟩ : ∃ T, (bx - ax) * (dx - cx) + (by_ - ay) * (dy - cy) = T := ⟨_, rfl⟩
  have e7 : IntKind.i64.wrap ((bx - ax) * (dx - cx) + (by_ - ay) * (dy - cy)) = T := by rw [← hT]; exact w64 (by omega)
  obtain ⟨Z, hZ⟩ : ∃ Z, sgn (tI ax ay bx by_ dx dy) = Z := ⟨_, rfl⟩
  have HZ := Lib.hid hZ
  have hr : tbB ax ay bx by_ cx cy dx dy = decide (T < 0 ∧ Z = 0) := by unfold tbB; rw [hT, hZ]
  rw [hr]
  clear m1 m2 hT b1 b2 b3 b4 b5 b6 b7 b8 hZ hr
  by_cases h : T < 0
  · go_enter Try.func60, Try.ntmps60
    go_wp2_with (go_at_call 62; refine (turnS_any ax ay bx by_ dx dy _ h1 h2 h3 h4 h7 h8).mono ?_; rintro e w' ⟨rfl, hb⟩; rw [HZ.out])
    go_ret
    exact ⟨ret_b (by simp [h]), Below.trans (by repeat (first | exact Below.refl _ _ | assumption | refine Below.drew ?_ | refine bdrewN ?_ _ | refine Below.setCell ?_ (by first | omega | (simp <;> omega)) _ | refine Below.alloc ?_ (by first | omega | (simp <;> omega)) _)) (hb.mono (by simp <;> omega))⟩
  · go_enter Try.func60, Try.ntmps60
    go_wp2
    go_ret
    exact ⟨ret_b (by simp; omega), (by repeat (first | exact Below.refl _ _ | assumption | refine Below.drew ?_ | refine bdrewN ?_ _ | refine Below.setCell ?_ (by first | omega | (simp <;> omega)) _ | refine Below.alloc ?_ (by first | omega | (simp <;> omega)) _))⟩
end Go.Proofs.Ythaecpcpeelcnaa

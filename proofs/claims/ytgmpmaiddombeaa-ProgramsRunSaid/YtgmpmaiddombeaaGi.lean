/- Rows of statuses and of steps; the status at the end, and after each step: by the program and by the reference. -/
import Derived.Test.YtgmpmaiddombeaaGh
import Derived.Deep.AppendLies
set_option linter.unusedSimpArgs false
set_option linter.unusedVariables false
namespace Go.Proofs.Ytgmpmaiddombeaa
open Go.RowKit
def flat (f : Nat → List Value) : Nat → List Value
  | 0 => []
  | n + 1 => flat f n ++ f n
theorem flat_len {f : Nat → List Value} {k n : Nat} (h : ∀ i, (f i).length = k) : (flat f n).length = n * k := by
  induction n with
  | zero => simp [flat]
  | succ n ih => rw [flat, List.length_append, ih, h, Nat.add_mul]; omega
theorem flat_get {f : Nat → List Value} {k n i j : Nat} (h : ∀ i, (f i).length = k) (hi : i < n) (hj : j < k) : (flat f n)[i * k + j]? = (f i)[j]? := by
  induction n with
  | zero => omega
  | succ n ih =>
    have h1 : i * k ≤ n * k := Nat.mul_le_mul_right k (by omega)
    rw [flat, List.getElem?_append, flat_len h]
    by_cases hn : i < n
    · have h2 : (i + 1) * k ≤ n * k := Nat.mul_le_mul_right k (by omega)
      have h3 : (i + 1) * k = i * k + k := by rw [Nat.add_mul]; omega
      rw [if_pos (by omega)]
      exact ih hn
    · obtain rfl : i = n := by omega
      rw [if_neg (by omega), Nat.add_sub_cancel_left]
theorem flat_ext {f g : Nat → List Value} {n : Nat} (h : ∀ i, i < n → f i = g i) : flat f n = flat g n := by
  induction n with
  | zero => rfl
  | succ n ih => rw [flat, flat, ih (fun i hi => h i (by omega)), h n (by omega)]
def mV (m : Ma) : List Value := [.int .i64 m.x, .int .i64 m.y, .int .i64 m.z, .int .i64 m.s, .int .i64 m.h, .int .i64 m.t, .int .i64 m.f, .bool m.r]
def sV (s : St) : List Value := [.int .i64 s.k, .int .i64 s.x, .int .i64 s.y, .int .i64 s.z, .int .i64 s.f, .int .i64 s.n]
theorem own_mas {w : World} {base n c : Nat} {a : Option Addr} {M : Nat → Ma} (h : w.ownsRow base 42 8 (.slice a n c) n (flat (fun i => mV (M i)) n)) : MasR w a n M := by
  by_cases hn : n = 0
  · exact .inl hn
  · obtain ⟨g, cap', hv, _, hlt⟩ := h.form (by omega)
    cases hv
    refine .inr ⟨g, 0, rfl, hlt, fun i hi => ?_⟩
    have hk : ∀ j, j < 8 → w.cell? ⟨g, i * 8 + j, none⟩ = (mV (M i))[j]? := fun j hj => by
      rw [h.cellAt (i * 8 + j) (by omega)]
      exact flat_get (f := fun i => mV (M i)) (fun _ => rfl) hi hj
    simp only [Nat.zero_add]
    exact ⟨hk 0 (by omega), hk 1 (by omega), hk 2 (by omega), hk 3 (by omega), hk 4 (by omega), hk 5 (by omega), hk 6 (by omega), hk 7 (by omega)⟩
theorem own_steps {w : World} {base n c : Nat} {a : Option Addr} {S : Nat → St} (h : w.ownsRow base 36 6 (.slice a n c) n (flat (fun i => sV (S i)) n)) : StepsR w a n S := by
  by_cases hn : n = 0
  · exact .inl hn
  · obtain ⟨g, cap', hv, _, hlt⟩ := h.form (by omega)
    cases hv
    refine .inr ⟨g, 0, rfl, hlt, fun i hi => ?_⟩
    have hk : ∀ j, j < 6 → w.cell? ⟨g, i * 6 + j, none⟩ = (sV (S i))[j]? := fun j hj => by
      rw [h.cellAt (i * 6 + j) (by omega)]
      exact flat_get (f := fun i => sV (S i)) (fun _ => rfl) hi hj
    simp only [Nat.zero_add]
    exact ⟨hk 0 (by omega), hk 1 (by omega), hk 2 (by omega), hk 3 (by omega), hk 4 (by omega), hk 5 (by omega)⟩
theorem own_mut {S : Nat → Prop} {w w' : World} {base : Nat} {e : TypeId} {size : Nat} {v : Value} {n : Nat} {xs : List Value} (h : w.ownsRow base e size v n xs) (hm : Mut S w w') (hs : ∀ b, v.ownBlock = some b → ¬ S b) : w'.ownsRow base e size v n xs := by
  obtain ⟨h1, h2⟩ := h
  refine ⟨h1, ?_⟩
  rcases h2 with h2 | ⟨g, cap, cur, hv, hg, hh, r⟩
  · exact .inl h2
  · exact .inr ⟨g, cap, cur, hv, hg, (hm.block g (lt_of_heap hh) (hs g (by rw [hv]; rfl))).trans hh, r⟩
theorem info_parts2 {p : Program} {t : TypeId} {z : Value} {s b : Nat} (h : (p.info? t).map (fun i => (i.zero, i.size, i.bytes)) = some (some z, s, b)) : ∃ i, p.info? t = some i ∧ i.zero = some z ∧ i.size = s ∧ i.bytes = b := by
  cases hi : p.info? t with
  | none => rw [hi] at h; cases h
  | some i =>
    rw [hi] at h
    simp only [Option.map_some, Option.some.injEq, Prod.mk.injEq] at h
    exact ⟨i, rfl, h.1, h.2.1, h.2.2⟩
theorem enter_of {F : FuncId} {fn : Func} (hf : Try.prog.funcs[F]? = some fn) (hn : (fn.name == "runtime.NumGoroutine") = false) (hb : fn.body.isNone = false) (args : Array Value) (w : World) : (callFunc F args).run Try.prog w = Result.ok (.enter F args) w := by
  have hn' : ¬ fn.name = "runtime.NumGoroutine" := by simpa using hn
  have hb' : ¬ fn.body = none := by
    intro h
    rw [h] at hb
    cases hb
  simp [callFunc, go_sem, hf, hn', hb']

/-! ### The status at the end -/
theorem end1_any (i : Int) (m m' : Ma) (w : World) : Calls Try.prog 39 #[.int .i64 i, (.agg #[.int .i64 m.x, .int .i64 m.y, .int .i64 m.z, .int .i64 m.s, .int .i64 m.h, .int .i64 m.t, .int .i64 m.f, .bool m.r]), (.agg #[.int .i64 m'.x, .int .i64 m'.y, .int .i64 m'.z, .int .i64 m'.s, .int .i64 m'.h, .int .i64 m'.t, .int .i64 m'.f, .bool m'.r])] w fun e w' => e = .returned (.tuple #[]) ∧ Below w.heap.size w w' := by
  go_enter Try.func39, Try.ntmps39
  go_wp2_with (fail)
  go_end0
  exact ⟨rfl, (by repeat (first | exact Below.refl _ _ | assumption | refine Below.drew ?_ | refine bdrewN ?_ _ | refine Below.setCell ?_ (by first | omega | (simp <;> omega)) _ | refine Below.alloc ?_ (by first | omega | (simp <;> omega)) _))⟩
theorem end1_tells (m : Ma) (S : Nat → St) (n base : Nat) : Tells 39 #[] m S n base (fun _ => False) (fun _ _ => True) := by
  refine ⟨enter_of Try.func39 (by kernel_rfl) (by kernel_rfl), fun i w w1 hi _ _ hb => ?_, fun _ _ _ _ _ => trivial, fun _ h => h.elim⟩
  refine (end1_any i _ _ w1).mono ?_
  rintro e w' ⟨rfl, hb⟩
  exact ⟨rfl, trivial, ⟨hb.os, hb.tape, hb.output, hb.size, fun k hk _ => hb.block k hk⟩⟩
set_option maxRecDepth 100000 in
set_option maxHeartbeats 4000000 in
theorem end_any (a : Option Addr) (n c : Nat) (S : Nat → St) (w : World) (hn : n ≤ 5000) (hok : ∀ i, i < n → SOk (S i)) (hp : StepsR w a n S) :
    Calls Try.prog 28 #[.slice a n c] w fun e w' => e = .returned (.agg #[.int .i64 (run S n).x, .int .i64 (run S n).y, .int .i64 (run S n).z, .int .i64 (run S n).s, .int .i64 (run S n).h, .int .i64 (run S n).t, .int .i64 (run S n).f, .bool (run S n).r]) ∧ Below w.heap.size w w' := by
  have HP := Lib.hid hp
  have HOK := Lib.hid hok
  clear hp hok
  have hb0 : Below w.heap.size w (w.alloc (.cells #[.int .i64 0, .int .i64 0, .int .i64 0, .int .i64 0, .int .i64 0, .int .i64 0, .int .i64 0, .bool false] 42)) := (by repeat (first | exact Below.refl _ _ | assumption | refine Below.drew ?_ | refine bdrewN ?_ _ | refine Below.setCell ?_ (by first | omega | (simp <;> omega)) _ | refine Below.alloc ?_ (by first | omega | (simp <;> omega)) _))
  have HZ := Lib.hid (heap_alloc_new w (.cells #[.int .i64 0, .int .i64 0, .int .i64 0, .int .i64 0, .int .i64 0, .int .i64 0, .int .i64 0, .bool false] 42))
  have B0 := Lib.hid hb0
  clear hb0
  go_enter Try.func28, Try.ntmps28
  go_wp2_with (fail)
  generalize (w.alloc (.cells #[.int .i64 0, .int .i64 0, .int .i64 0, .int .i64 0, .int .i64 0, .int .i64 0, .int .i64 0, .bool false] 42)) = w0 at *
  refine (walk_any 39 #[] m00 0 a n c S (fun _ => False) (fun _ _ => True) w0 hn (by omega) mb0 HOK.out (end1_tells m00 S n w0.heap.size) trivial (fun _ _ _ h => h) (HP.out.kept B0.out)).mono ?_
  rintro e w1 ⟨rfl, -, hm⟩
  have HZ1 := Lib.hid (heap_mut HZ.out hm (fun h => h))
  have B1 := Lib.hid (B0.out.trans ((hm.toBelow w0.heap.size (Nat.le_refl _) (fun _ _ h => h)).mono B0.out.size))
  clear hm
  obtain ⟨mr, hmr⟩ : ∃ mr, runF m00 S n = mr := ⟨_, rfl⟩
  have HMR := Lib.hid hmr
  rw [hmr]
  clear hmr
  have e0 := cell_of HZ1.out (i := 0) rfl
  have e1 := cell_of HZ1.out (i := 1) rfl
  have e2 := cell_of HZ1.out (i := 2) rfl
  have e3 := cell_of HZ1.out (i := 3) rfl
  have e4 := cell_of HZ1.out (i := 4) rfl
  have e5 := cell_of HZ1.out (i := 5) rfl
  have e6 := cell_of HZ1.out (i := 6) rfl
  have e7 := cell_of HZ1.out (i := 7) rfl
  have g0 := fun i => frozen_of (i := i) HZ1.out
  go_wp2_with (fail)
  have hzz : w1.heap[w.heap.size]? = some (.cells #[.int .i64 m00.x, .int .i64 m00.y, .int .i64 m00.z, .int .i64 m00.s, .int .i64 m00.h, .int .i64 m00.t, .int .i64 m00.f, .bool m00.r] 42 (0, 0)) := HZ1.out
  obtain ⟨hx5, hm5⟩ := storeMa hzz (m2 := mr) rfl
  generalize ((((((((w1.setCell ⟨w.heap.size, 0, none⟩ (.int .i64 mr.x)).setCell ⟨w.heap.size, 1, none⟩ (.int .i64 mr.y)).setCell ⟨w.heap.size, 2, none⟩ (.int .i64 mr.z)).setCell ⟨w.heap.size, 3, none⟩ (.int .i64 mr.s)).setCell ⟨w.heap.size, 4, none⟩ (.int .i64 mr.h)).setCell ⟨w.heap.size, 5, none⟩ (.int .i64 mr.t)).setCell ⟨w.heap.size, 6, none⟩ (.int .i64 mr.f)).setCell ⟨w.heap.size, 7, none⟩ (.bool mr.r)) = w5 at *
  have d0 := cell_of hx5 (i := 0) rfl
  have d1 := cell_of hx5 (i := 1) rfl
  have d2 := cell_of hx5 (i := 2) rfl
  have d3 := cell_of hx5 (i := 3) rfl
  have d4 := cell_of hx5 (i := 4) rfl
  have d5 := cell_of hx5 (i := 5) rfl
  have d6 := cell_of hx5 (i := 6) rfl
  have d7 := cell_of hx5 (i := 7) rfl
  have B5 := B1.out.trans (hm5.toBelow w.heap.size B1.out.size (fun b hb h => by omega))
  exact bodyPost_ret (v := (.agg #[.int .i64 mr.x, .int .i64 mr.y, .int .i64 mr.z, .int .i64 mr.s, .int .i64 mr.h, .int .i64 mr.t, .int .i64 mr.f, .bool mr.r])) (by simp [results, Try.results28, go_sem, d0, d1, d2, d3, d4, d5, d6, d7]) rfl ⟨by rw [run, HMR.out], B5⟩
end Go.Proofs.Ytgmpmaiddombeaa

/- Peaks; package motion plans speeds. -/
import Derived.Test.YtdanlnmdkneepaaVp
set_option linter.unusedSimpArgs false
set_option linter.unusedVariables false
namespace Go.Proofs.Ytdanlnmdkneepaa
open Go.RowKit

noncomputable def peakF (n : Nat) (L M C : Nat → Int) (c : Int) : Nat → Int := fun i => pkZ (spZ n L M C c i) (spZ n L M C c (i + 1)) (M i) (gainZ c (L i))
set_option maxRecDepth 100000 in
theorem Peaks_any (a : Option Addr) (n cl : Nat) (L M : Nat → Int) (ac : Option Addr) (m cc : Nat) (C : Nat → Int) (c : Int) (w : World) (hn : n ≤ 100) (hm : m ≤ 100) (hp : LegsR w a n L M) (hc : IntsR w ac m C) :
    Calls Try.prog 105 #[.slice a n cl, .slice ac m cc, .int .i64 c] w fun e w' =>
      (movE n L M m C c = 0 → ∃ ao co, e = .returned (.tuple #[.slice ao n co, .int .i64 0]) ∧ w'.ownsRow w.heap.size 3 1 (.slice ao n co) n (vs (peakF n L M C c) n)) ∧
      (movE n L M m C c ≠ 0 → e = .returned (.tuple #[.slice none 0 0, .int .i64 (movE n L M m C c)])) ∧ Below w.heap.size w w' := by
  have HP := Lib.hid hp
  have HC := Lib.hid hc
  clear hp hc
  go_enter Try.func105, Try.ntmps105
  go_wp2_with (fail)
  refine (eachPeak_any a n cl L M ac m cc C c _ hn hm HP.out HC.out).mono ?_
  rintro e w1 ⟨h1, h2, hb1⟩
  have B1 := Lib.hid hb1
  clear hb1
  by_cases hz : movE n L M m C c = 0
  · obtain ⟨ao, co, rfl, hown⟩ := h1 hz
    have HO := Lib.hid hown
    have HZ := Lib.hid hz
    clear h1 h2 hown hz
    go_wp2_with (fail)
    exact bodyPost_ret (v := .tuple #[.slice ao n co, .int .i64 0]) (by simp [results, Try.results105, go_sem]) rfl ⟨fun _ => ⟨ao, co, rfl, HO.out⟩, fun h => absurd HZ.out h, B1.out⟩
  · obtain rfl := h2 hz
    have HZ := Lib.hid hz
    clear h1 h2 hz
    go_wp2_with (fail)
    exact bodyPost_ret (v := .tuple #[.slice none 0 0, .int .i64 (movE n L M m C c)]) (by simp [results, Try.results105, go_sem]) rfl ⟨fun h => absurd h HZ.out, fun _ => rfl, B1.out⟩
theorem pk_one : peakF 1 (fun _ => 200) (fun _ => 100) (fun _ => 0) 50 0 = 100 := by
  have ok : MOk 1 (fun _ => 200) (fun _ => 100) 0 (fun _ => 0) 50 := ⟨by omega, fun i _ => by omega, rfl, fun i h => by omega, by omega⟩
  have h0 := ok.sp 0 (by omega)
  have h1 := ok.sp 1 (by omega)
  rw [bndZ_0] at h0
  rw [bndZ_n] at h1
  have e0 : spZ 1 (fun _ => 200) (fun _ => 100) (fun _ => 0) 50 0 = 0 := by omega
  have e1 : spZ 1 (fun _ => 200) (fun _ => 100) (fun _ => 0) 50 1 = 0 := by omega
  unfold peakF pkZ
  rw [e0, show (0 : Nat) + 1 = 1 from rfl, e1, show ((0 : Int) * 0 + 0 * 0 + gainZ 50 200) / 2 = 10000 by unfold gainZ; omega, rt_eq (r := 100) (by omega) (by omega) (by omega)]
  show min (100 : Int) 100 = 100
  omega
set_option maxRecDepth 100000 in
theorem moved_any (w : World) : Calls Try.prog 64 #[] w fun e w' => e = .returned (.bool true) ∧ Below w.heap.size w w' := by
  go_enter Try.func64, Try.ntmps64
  go_wp2_with (fail)
  have B0 : Below w.heap.size w (w.alloc (.cells #[.int .i64 200, .int .i64 100] 83)) := (by repeat (first | exact Below.refl _ _ | assumption | refine Below.drew ?_ | refine bdrewN ?_ _ | refine Below.setCell ?_ (by first | omega | (simp <;> omega)) _ | refine Below.alloc ?_ (by first | omega | (simp <;> omega)) _))
  have HL : LegsR (w.alloc (.cells #[.int .i64 200, .int .i64 100] 83)) (some ⟨w.heap.size, 0, none⟩) 1 (fun _ => 200) (fun _ => 100) := .inr ⟨_, 0, rfl, by simp, fun i hi => by
    obtain rfl : i = 0 := by omega
    exact ⟨by simp [go_sem], by simp [go_sem]⟩⟩
  have HE : movE 1 (fun _ => 200) (fun _ => 100) 0 (fun _ => 0) 50 = 0 := by
    unfold movE cornE legE
    have h1 : legsOk 1 (fun _ => 200) (fun _ => 100) = true := legsOk_yes (fun i _ => by unfold legOk; rw [decide_eq_true_eq]; omega)
    have h2 : csOk 0 (fun _ => 0) = true := csOk_yes (fun i h => by omega)
    simp [h1, h2, chE]
  generalize (w.alloc (.cells #[.int .i64 200, .int .i64 100] 83)) = w0 at *
  refine (Peaks_any (some ⟨w.heap.size, 0, none⟩) 1 1 (fun _ => 200) (fun _ => 100) none 0 0 (fun _ => 0) 50 w0 (by omega) (by omega) HL (.inl rfl)).mono ?_
  rintro e w1 ⟨h1, _, hb1⟩
  obtain ⟨ao, co, rfl, hown⟩ := h1 HE
  obtain ⟨g, cap', hv, _, hlt⟩ := hown.form (by omega)
  cases hv
  have c0 := (blk_of_own hown).cell (i := 0) (by omega)
  rw [pk_one] at c0
  have B1 := Lib.hid (B0.trans (hb1.mono B0.size))
  clear hown h1 hb1 HE B0
  go_wp2_with (fail)
  go_ret
  exact ⟨rfl, B1.out⟩
end Go.Proofs.Ytdanlnmdkneepaa

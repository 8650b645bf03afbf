/- What a program does, told by the reference. -/
import Derived.Test.YtgmpmaiddombeaaGo
set_option linter.unusedSimpArgs false
set_option linter.unusedVariables false
namespace Go.Proofs.Ytgmpmaiddombeaa
open Go.RowKit
set_option maxRecDepth 100000 in
set_option maxHeartbeats 8000000 in
theorem moments_any (a : Option Addr) (n c : Nat) (S : Nat → St) (w : World) (hn : n ≤ 5000) (hnc : n ≤ c) (hok : ∀ i, i < n → SOk (S i)) (hp : StepsR w a n S) :
    Calls Try.prog 32 #[.slice a n c] w fun e w' => ∃ ao co, e = .returned (.tuple #[.slice ao (mo S n).1.length co, .int .i64 (mo S n).2]) ∧ YsR w' ao (mo S n).1 ∧ Below w.heap.size w w' := by
  obtain ⟨i0, hi0, hz0, hz1, hz2⟩ := info_parts2 info_mom
  have HP := Lib.hid hp
  have HOK := Lib.hid hok
  clear hp hok
  have hb0 : Below w.heap.size w (w.alloc (.cells #[.int .i64 0, .int .i64 0, .int .i64 0, .int .i64 0, .int .i64 0, .int .i64 0, .int .i64 0, .bool false] 42)) := (by repeat (first | exact Below.refl _ _ | assumption | refine Below.drew ?_ | refine bdrewN ?_ _ | refine Below.setCell ?_ (by first | omega | (simp <;> omega)) _ | refine Below.alloc ?_ (by first | omega | (simp <;> omega)) _))
  have HX0 := Lib.hid (show (w.alloc (.cells #[.int .i64 0, .int .i64 0, .int .i64 0, .int .i64 0, .int .i64 0, .int .i64 0, .int .i64 0, .bool false] 42)).heap[w.heap.size]? = some (.cells #[.int .i64 (nor (run S 0)).x, .int .i64 (nor (run S 0)).y, .int .i64 (nor (run S 0)).z, .int .i64 (nor (run S 0)).s, .int .i64 (nor (run S 0)).h, .int .i64 (nor (run S 0)).t, .int .i64 (nor (run S 0)).f, .bool (nor (run S 0)).r] 42 (0, 0)) from heap_new rfl)
  have B0 := Lib.hid hb0
  have hs0 : (w.alloc (.cells #[.int .i64 0, .int .i64 0, .int .i64 0, .int .i64 0, .int .i64 0, .int .i64 0, .int .i64 0, .bool false] 42)).heap.size = w.heap.size + 1 := by simp
  clear hb0
  go_enter Try.func32, Try.ntmps32
  go_wp2_with (fail)
  generalize (w.alloc (.cells #[.int .i64 0, .int .i64 0, .int .i64 0, .int .i64 0, .int .i64 0, .int .i64 0, .int .i64 0, .bool false] 42)) = w0 at *
  obtain ⟨g, hg⟩ : ∃ g, w.heap.size = g := ⟨_, rfl⟩
  have HG := Lib.hid hg
  rw [hg] at HX0 hs0
  try rw [hg]
  clear hg
  go_loopw [4, 6, 13] (fun v t i wr => ∃ (k : Nat) (ao : Option Addr) (co : Nat), k ≤ n ∧ i = .int .i64 k ∧ v = .slice ao (mo S k).1.length co ∧ t = .int .i64 (mo S k).2 ∧ wr.heap[g]? = some (.cells #[.int .i64 (nor (run S k)).x, .int .i64 (nor (run S k)).y, .int .i64 (nor (run S k)).z, .int .i64 (nor (run S k)).s, .int .i64 (nor (run S k)).h, .int .i64 (nor (run S k)).t, .int .i64 (nor (run S k)).f, .bool (nor (run S k)).r] 42 (0, 0)) ∧ wr.ownsRow (g + 1) 71 9 (.slice ao (mo S k).1.length co) (mo S k).1.length (rowL (mo S k).1) ∧ g + 1 ≤ wr.heap.size ∧ Below w.heap.size w wr) (fun _ _ i _ => n - (intOf i).toNat)
  case atStart => exact ⟨0, none, 0, by omega, rfl, rfl, rfl, HX0.out, World.ownsRow_nil _ _ _ _, by omega, B0.out⟩
  case round =>
    clear HX0 B0
    obtain ⟨k, ao, co, hk, rfl, rfl, rfl, hx, hown, hgs, hbel⟩ := hrel
    have HX := Lib.hid hx
    have HO := Lib.hid hown
    have HB := Lib.hid hbel
    have hgw := lt_of_heap hx
    have hsz := hbel.size
    have hklen := mo_len S k
    clear hx hown hbel
    by_cases hlt : k < n
    · rcases HP.out with h0 | ⟨b, off, rfl, hb, hd⟩
      · omega
      obtain ⟨c0, c1, c2, c3, c4, c5⟩ := hd k hlt
      replace c0 := cellk HB.out hb c0
      replace c1 := cellk HB.out hb c1
      replace c2 := cellk HB.out hb c2
      replace c3 := cellk HB.out hb c3
      replace c4 := cellk HB.out hb c4
      replace c5 := cellk HB.out hb c5
      have hbw : b < wr.heap.size := by omega
      have hsn := (HOK.out k hlt).n
      have HT9 := Lib.hid (mo_bnd (n := k) (fun j hj => HOK.out j (by omega)))
      have HPk := Lib.hid ((HP.out.kept HB.out).le (m := k + 1) (by omega))
      clear hd
      obtain ⟨s, hs⟩ : ∃ s, S k = s := ⟨_, rfl⟩
      have RS := Lib.hid hs
      obtain ⟨t, ht⟩ : ∃ t, (mo S k).2 = t := ⟨_, rfl⟩
      have RT := Lib.hid ht
      obtain ⟨l, hl⟩ : ∃ l, (mo S k).1 = l := ⟨_, rfl⟩
      have RL := Lib.hid hl
      obtain ⟨m1, hm1⟩ : ∃ m1, nor (run S k) = m1 := ⟨_, rfl⟩
      have RM1 := Lib.hid hm1
      obtain ⟨m9, hm9⟩ : ∃ m9, run S (k + 1) = m9 := ⟨_, rfl⟩
      have RM9 := Lib.hid hm9
      rw [hs] at c0 c1 c2 c3 c4 c5 hsn
      rw [ht] at HT9
      rw [hl] at HO hklen
      rw [hm1] at HX
      have ht9 := HT9.out
      rw [ht, hl]
      clear hs ht hl hm1 hm9
      have e1 : IntKind.i64.wrap (t + s.n) = t + s.n := i64w (by omega)
      have hl1 : (k : Int) + 1 ≤ (c : Int) := by omega
      have hl0 : (0 : Int) ≤ (k : Int) + 1 := by omega
      have hw1 : IntKind.i64.wrap ((k : Int) + 1) = (k : Int) + 1 := i64w (by omega)
      have hb1 : Below wr.heap.size wr (wr.alloc (.cells #[.int .i64 s.k, .int .i64 s.x, .int .i64 s.y, .int .i64 s.z, .int .i64 s.f, .int .i64 s.n] 36)) := (Below.refl _ _).alloc (Nat.le_refl _) _
      have HX1 := Lib.hid (heap_keep hb1 HX.out)
      have HO1 := Lib.hid (ownsRow_below HO.out hb1)
      have HP1 := Lib.hid (HPk.out.kept hb1)
      have B1 := Lib.hid (HB.out.trans (hb1.mono hsz))
      have hs1 : (wr.alloc (.cells #[.int .i64 s.k, .int .i64 s.x, .int .i64 s.y, .int .i64 s.z, .int .i64 s.f, .int .i64 s.n] 36)).heap.size = wr.heap.size + 1 := by simp
      have HT0 := Lib.hid (show ∀ T : Int, T = (if s.k = 7 then t + s.n else t) → True from fun _ _ => trivial)
      clear hb1
      by_cases hk7 : s.k = 7
      · have HT := Lib.hid (show (if s.k = 7 then t + s.n else t) = (t + s.n) from if_pos hk7)
        go_wp2_with (fail)
        clear c0 c1 c2 c3 c4 c5
        rw [hk7] at HX1 HO1 HP1 B1 hs1
        generalize (wr.alloc (.cells #[.int .i64 7, .int .i64 s.x, .int .i64 s.y, .int .i64 s.z, .int .i64 s.f, .int .i64 s.n] 36)) = w1 at *
        refine (lastOf_any (some ⟨b, off, none⟩) (k + 1) c S w1 (by omega) (fun i hi => HOK.out i (by omega)) HP1.out).mono ?_
        rintro e w2 ⟨rfl, hb⟩
        rw [RM9.out]
        have B2 := Lib.hid (B1.out.trans (hb.mono B1.out.size))
        have HX2 := Lib.hid (heap_keep hb HX1.out)
        have HO2 := Lib.hid (ownsRow_below HO1.out hb)
        have hs2 := hb.size
        clear hb HX1 HO1 B1
        have hb3 : Below w2.heap.size w2 (w2.alloc (.cells #[.int .i64 m9.x, .int .i64 m9.y, .int .i64 m9.z, .int .i64 m9.s, .int .i64 m9.h, .int .i64 m9.t, .int .i64 m9.f, .bool false] 42)) := (Below.refl _ _).alloc (Nat.le_refl _) _
        have HX3 := Lib.hid (heap_keep hb3 HX2.out)
        have HO3 := Lib.hid (ownsRow_below HO2.out hb3)
        have HR3 : Hid ((w2.alloc (.cells #[.int .i64 m9.x, .int .i64 m9.y, .int .i64 m9.z, .int .i64 m9.s, .int .i64 m9.h, .int .i64 m9.t, .int .i64 m9.f, .bool false] 42)).heap[w2.heap.size]? = some (.cells #[.int .i64 (nor m9).x, .int .i64 (nor m9).y, .int .i64 (nor m9).z, .int .i64 (nor m9).s, .int .i64 (nor m9).h, .int .i64 (nor m9).t, .int .i64 (nor m9).f, .bool (nor m9).r] 42 (0, 0))) := Lib.hid (heap_new rfl)
        have B3 := Lib.hid (B2.out.trans (hb3.mono B2.out.size))
        have hs3 : (w2.alloc (.cells #[.int .i64 m9.x, .int .i64 m9.y, .int .i64 m9.z, .int .i64 m9.s, .int .i64 m9.h, .int .i64 m9.t, .int .i64 m9.f, .bool false] 42)).heap.size = w2.heap.size + 1 := by simp
        have hgl := lt_of_heap HX2.out
        have e0 : w2.cell? ⟨g, 0, none⟩ = some (.int .i64 m1.x) := cell_of HX2.out (i := 0) rfl
        have e1 : w2.cell? ⟨g, 1, none⟩ = some (.int .i64 m1.y) := cell_of HX2.out (i := 1) rfl
        have e2 : w2.cell? ⟨g, 2, none⟩ = some (.int .i64 m1.z) := cell_of HX2.out (i := 2) rfl
        have e3 : w2.cell? ⟨g, 3, none⟩ = some (.int .i64 m1.s) := cell_of HX2.out (i := 3) rfl
        have e4 : w2.cell? ⟨g, 4, none⟩ = some (.int .i64 m1.h) := cell_of HX2.out (i := 4) rfl
        have e5 : w2.cell? ⟨g, 5, none⟩ = some (.int .i64 m1.t) := cell_of HX2.out (i := 5) rfl
        have e6 : w2.cell? ⟨g, 6, none⟩ = some (.int .i64 m1.f) := cell_of HX2.out (i := 6) rfl
        have e7 : w2.cell? ⟨g, 7, none⟩ = some (.bool m1.r) := cell_of HX2.out (i := 7) rfl
        have hE := fun wx => neq_ma (nor m9) m1 wx
        obtain ⟨vb, hvb⟩ : ∃ vb, (!decide (nor m9 = m1)) = vb := ⟨_, rfl⟩
        rw [hvb] at hE
        have HVB := Lib.hid hvb
        clear hvb hb3
        dsimp only [nor] at hE
        have hG := gd_ma
        rcases vb with _ | _
        · have he : nor m9 = m1 := by have := HVB.out; simpa using this
          have HM : Hid (mo S (k + 1) = (l, (t + s.n))) := Lib.hid (by rw [mo, if_pos (by rw [RM9.out, RM1.out]; exact he), RL.out, RT.out, RS.out, HT.out])
          go_wp2_with (fail)
          generalize (w2.alloc (.cells #[.int .i64 m9.x, .int .i64 m9.y, .int .i64 m9.z, .int .i64 m9.s, .int .i64 m9.h, .int .i64 m9.t, .int .i64 m9.f, .bool false] 42)) = w3 at *
          go_roundw
          case rel => exact ⟨k + 1, ao, co, by omega, by go_num, by rw [HM.out], by rw [HM.out], by rw [RM9.out, he]; exact HX3.out, by rw [HM.out]; exact HO3.out, by omega, B3.out⟩
          case measure => simp [intOf] <;> omega
        · have he : nor m9 ≠ m1 := by have := HVB.out; simpa using this
          have HM : Hid (mo S (k + 1) = (l ++ [(nor m9, (t + s.n))], 0)) := Lib.hid (by rw [mo, if_neg (by rw [RM9.out, RM1.out]; exact he), RL.out, RT.out, RS.out, HT.out, RM9.out])
          have hown2 := HO2.out.lt
          have hrg : w2.heap.size ≠ g := by omega
          clear e0 e1 e2 e3 e4 e5 e6 e7
          have e0 : w2.cell? ⟨g, 0, none⟩ = some (.int .i64 m1.x) := cell_of HX2.out (i := 0) rfl
          have e1 : w2.cell? ⟨g, 1, none⟩ = some (.int .i64 m1.y) := cell_of HX2.out (i := 1) rfl
          have e2 : w2.cell? ⟨g, 2, none⟩ = some (.int .i64 m1.z) := cell_of HX2.out (i := 2) rfl
          have e3 : w2.cell? ⟨g, 3, none⟩ = some (.int .i64 m1.s) := cell_of HX2.out (i := 3) rfl
          have e4 : w2.cell? ⟨g, 4, none⟩ = some (.int .i64 m1.h) := cell_of HX2.out (i := 4) rfl
          have e5 : w2.cell? ⟨g, 5, none⟩ = some (.int .i64 m1.t) := cell_of HX2.out (i := 5) rfl
          have e6 : w2.cell? ⟨g, 6, none⟩ = some (.int .i64 m1.f) := cell_of HX2.out (i := 6) rfl
          have e7 : w2.cell? ⟨g, 7, none⟩ = some (.bool m1.r) := cell_of HX2.out (i := 7) rfl
          go_wp2_with (at_builtin; refine wpList_append_lies _ rfl _ _ 66 rfl (g + 1) 71 i0 (.agg #[.int .i64 0, .int .i64 0, .int .i64 0, .int .i64 0, .int .i64 0, .int .i64 0, .int .i64 0, .bool false, .int .i64 0]) 9 72 Try.underlying66 hi0 hz0 hz1 hz2 rfl (by decide) _ _ _ rfl (ownsRow_below (HO3.out) ((Below.refl _ (w2.alloc (.cells #[.int .i64 m9.x, .int .i64 m9.y, .int .i64 m9.z, .int .i64 m9.s, .int .i64 m9.h, .int .i64 m9.t, .int .i64 m9.f, .bool false] 42))).alloc (Nat.le_refl _) _)) ⟨(w2.heap.size + 1), 0, none⟩ 1 1 [.int .i64 m9.x, .int .i64 m9.y, .int .i64 m9.z, .int .i64 m9.s, .int .i64 m9.h, .int .i64 m9.t, .int .i64 m9.f, .bool false, .int .i64 (t + s.n)] rfl rfl (World.news_of_block (cs := #[.int .i64 m9.x, .int .i64 m9.y, .int .i64 m9.z, .int .i64 m9.s, .int .i64 m9.h, .int .i64 m9.t, .int .i64 m9.f, .bool false, .int .i64 (t + s.n)]) (t := 71) (fr := (0, 0)) (show ((w2.alloc (.cells #[.int .i64 m9.x, .int .i64 m9.y, .int .i64 m9.z, .int .i64 m9.s, .int .i64 m9.h, .int .i64 m9.t, .int .i64 m9.f, .bool false] 42)).alloc (.cells #[.int .i64 m9.x, .int .i64 m9.y, .int .i64 m9.z, .int .i64 m9.s, .int .i64 m9.h, .int .i64 m9.t, .int .i64 m9.f, .bool false, .int .i64 (t + s.n)] 71)).heap[(w2.heap.size + 1)]? = some (.cells #[.int .i64 m9.x, .int .i64 m9.y, .int .i64 m9.z, .int .i64 m9.s, .int .i64 m9.h, .int .i64 m9.t, .int .i64 m9.f, .bool false, .int .i64 (t + s.n)] 71) from heap_new (by simp))) (by simp [Value.oneCell']) (by omega) (by unfold maxLen; omega) (by omega) (by simp; omega) ((w2.heap.size + 1) + 1) (by simp) ?_; intro g5 c5 w5 hown5 hgrow5 hge5 hlt5; have HO5 := Lib.hid hown5; have HB5 := Lib.hid (Below.grown (B := (g + 1)) (Below.alloc (B := (g + 1)) (Below.refl _ (w2.alloc (.cells #[.int .i64 m9.x, .int .i64 m9.y, .int .i64 m9.z, .int .i64 m9.s, .int .i64 m9.h, .int .i64 m9.t, .int .i64 m9.f, .bool false] 42))) (by omega) (.cells #[.int .i64 m9.x, .int .i64 m9.y, .int .i64 m9.z, .int .i64 m9.s, .int .i64 m9.h, .int .i64 m9.t, .int .i64 m9.f, .bool false, .int .i64 (t + s.n)] 71)) hgrow5 (by simp; omega) (fun b hb => ((HO3.out).lt b hb).1)); have HG5 := Lib.hid hgrow5; clear hown5 hgrow5 hge5; have hX5 : w5.heap[g]? = some (.cells #[.int .i64 m1.x, .int .i64 m1.y, .int .i64 m1.z, .int .i64 m1.s, .int .i64 m1.h, .int .i64 m1.t, .int .i64 m1.f, .bool m1.r] 42 (0, 0)) := (HB5.out.block g (by omega)).trans HX3.out; have e0 : w5.cell? ⟨g, 0, none⟩ = some (.int .i64 m1.x) := cell_of hX5 (i := 0) rfl; have e1 : w5.cell? ⟨g, 1, none⟩ = some (.int .i64 m1.y) := cell_of hX5 (i := 1) rfl; have e2 : w5.cell? ⟨g, 2, none⟩ = some (.int .i64 m1.z) := cell_of hX5 (i := 2) rfl; have e3 : w5.cell? ⟨g, 3, none⟩ = some (.int .i64 m1.s) := cell_of hX5 (i := 3) rfl; have e4 : w5.cell? ⟨g, 4, none⟩ = some (.int .i64 m1.h) := cell_of hX5 (i := 4) rfl; have e5 : w5.cell? ⟨g, 5, none⟩ = some (.int .i64 m1.t) := cell_of hX5 (i := 5) rfl; have e6 : w5.cell? ⟨g, 6, none⟩ = some (.int .i64 m1.f) := cell_of hX5 (i := 6) rfl; have e7 : w5.cell? ⟨g, 7, none⟩ = some (.bool m1.r) := cell_of hX5 (i := 7) rfl; have gg0 := fun i => frozen_of (i := i) hX5; have hR5 : w5.heap[w2.heap.size]? = some (.cells #[.int .i64 (nor m9).x, .int .i64 (nor m9).y, .int .i64 (nor m9).z, .int .i64 (nor m9).s, .int .i64 (nor m9).h, .int .i64 (nor m9).t, .int .i64 (nor m9).f, .bool (nor m9).r] 42 (0, 0)) := (HG5.out.block w2.heap.size (by simp; omega) (fun e => by have := hown2 w2.heap.size e.symm; omega)).trans ((Below.heap_alloc _ _ _ (by omega)).trans HR3.out); have d0 : w5.cell? ⟨w2.heap.size, 0, none⟩ = some (.int .i64 m9.x) := cell_of hR5 (i := 0) rfl; have d1 : w5.cell? ⟨w2.heap.size, 1, none⟩ = some (.int .i64 m9.y) := cell_of hR5 (i := 1) rfl; have d2 : w5.cell? ⟨w2.heap.size, 2, none⟩ = some (.int .i64 m9.z) := cell_of hR5 (i := 2) rfl; have d3 : w5.cell? ⟨w2.heap.size, 3, none⟩ = some (.int .i64 m9.s) := cell_of hR5 (i := 3) rfl; have d4 : w5.cell? ⟨w2.heap.size, 4, none⟩ = some (.int .i64 m9.h) := cell_of hR5 (i := 4) rfl; have d5 : w5.cell? ⟨w2.heap.size, 5, none⟩ = some (.int .i64 m9.t) := cell_of hR5 (i := 5) rfl; have d6 : w5.cell? ⟨w2.heap.size, 6, none⟩ = some (.int .i64 m9.f) := cell_of hR5 (i := 6) rfl; have d7 : w5.cell? ⟨w2.heap.size, 7, none⟩ = some (.bool false) := cell_of hR5 (i := 7) rfl; have HX5 := Lib.hid hX5; clear hX5 hR5)
          obtain ⟨hx6, hm6⟩ := storeMa (W := ((((((((w5.setCell ⟨g, 0, none⟩ (.int .i64 m9.x)).setCell ⟨g, 1, none⟩ (.int .i64 m9.y)).setCell ⟨g, 2, none⟩ (.int .i64 m9.z)).setCell ⟨g, 3, none⟩ (.int .i64 m9.s)).setCell ⟨g, 4, none⟩ (.int .i64 m9.h)).setCell ⟨g, 5, none⟩ (.int .i64 m9.t)).setCell ⟨g, 6, none⟩ (.int .i64 m9.f)).setCell ⟨g, 7, none⟩ (.bool false))) HX5.out (m2 := nor m9) rfl
          generalize ((((((((w5.setCell ⟨g, 0, none⟩ (.int .i64 m9.x)).setCell ⟨g, 1, none⟩ (.int .i64 m9.y)).setCell ⟨g, 2, none⟩ (.int .i64 m9.z)).setCell ⟨g, 3, none⟩ (.int .i64 m9.s)).setCell ⟨g, 4, none⟩ (.int .i64 m9.h)).setCell ⟨g, 5, none⟩ (.int .i64 m9.t)).setCell ⟨g, 6, none⟩ (.int .i64 m9.f)).setCell ⟨g, 7, none⟩ (.bool false)) = w6 at *
          have HX6 := Lib.hid hx6
          have HO6 := Lib.hid (own_mut HO5.out hm6 (fun b hb e => by have := (HO5.out.lt b hb).1; omega))
          have B6 := Lib.hid ((B3.out.trans (HB5.out.mono (by have := HG.out; omega))).trans (hm6.toBelow w.heap.size (by have := HB5.out.size; have := B3.out.size; omega) (fun b hb h => by have := HG.out; omega)))
          have hs6 : g + 1 ≤ w6.heap.size := lt_of_heap hx6
          clear hx6 hm6
          go_roundw
          case rel => exact ⟨k + 1, some ⟨g5, 0, none⟩, c5, by omega, by go_num, by rw [HM.out, List.length_append]; rfl, by rw [HM.out], by rw [RM9.out]; exact HX6.out, by rw [HM.out, List.length_append, rowL_app]; exact HO6.out, hs6, B6.out⟩
          case measure => simp [intOf] <;> omega
      · have HT := Lib.hid (show (if s.k = 7 then t + s.n else t) = t from if_neg hk7)
        go_wp2_with (fail)
        clear c0 c1 c2 c3 c4 c5
        generalize (wr.alloc (.cells #[.int .i64 s.k, .int .i64 s.x, .int .i64 s.y, .int .i64 s.z, .int .i64 s.f, .int .i64 s.n] 36)) = w1 at *
        refine (lastOf_any (some ⟨b, off, none⟩) (k + 1) c S w1 (by omega) (fun i hi => HOK.out i (by omega)) HP1.out).mono ?_
        rintro e w2 ⟨rfl, hb⟩
        rw [RM9.out]
        have B2 := Lib.hid (B1.out.trans (hb.mono B1.out.size))
        have HX2 := Lib.hid (heap_keep hb HX1.out)
        have HO2 := Lib.hid (ownsRow_below HO1.out hb)
        have hs2 := hb.size
        clear hb HX1 HO1 B1
        have hb3 : Below w2.heap.size w2 (w2.alloc (.cells #[.int .i64 m9.x, .int .i64 m9.y, .int .i64 m9.z, .int .i64 m9.s, .int .i64 m9.h, .int .i64 m9.t, .int .i64 m9.f, .bool false] 42)) := (Below.refl _ _).alloc (Nat.le_refl _) _
        have HX3 := Lib.hid (heap_keep hb3 HX2.out)
        have HO3 := Lib.hid (ownsRow_below HO2.out hb3)
        have HR3 : Hid ((w2.alloc (.cells #[.int .i64 m9.x, .int .i64 m9.y, .int .i64 m9.z, .int .i64 m9.s, .int .i64 m9.h, .int .i64 m9.t, .int .i64 m9.f, .bool false] 42)).heap[w2.heap.size]? = some (.cells #[.int .i64 (nor m9).x, .int .i64 (nor m9).y, .int .i64 (nor m9).z, .int .i64 (nor m9).s, .int .i64 (nor m9).h, .int .i64 (nor m9).t, .int .i64 (nor m9).f, .bool (nor m9).r] 42 (0, 0))) := Lib.hid (heap_new rfl)
        have B3 := Lib.hid (B2.out.trans (hb3.mono B2.out.size))
        have hs3 : (w2.alloc (.cells #[.int .i64 m9.x, .int .i64 m9.y, .int .i64 m9.z, .int .i64 m9.s, .int .i64 m9.h, .int .i64 m9.t, .int .i64 m9.f, .bool false] 42)).heap.size = w2.heap.size + 1 := by simp
        have hgl := lt_of_heap HX2.out
        have e0 : w2.cell? ⟨g, 0, none⟩ = some (.int .i64 m1.x) := cell_of HX2.out (i := 0) rfl
        have e1 : w2.cell? ⟨g, 1, none⟩ = some (.int .i64 m1.y) := cell_of HX2.out (i := 1) rfl
        have e2 : w2.cell? ⟨g, 2, none⟩ = some (.int .i64 m1.z) := cell_of HX2.out (i := 2) rfl
        have e3 : w2.cell? ⟨g, 3, none⟩ = some (.int .i64 m1.s) := cell_of HX2.out (i := 3) rfl
        have e4 : w2.cell? ⟨g, 4, none⟩ = some (.int .i64 m1.h) := cell_of HX2.out (i := 4) rfl
        have e5 : w2.cell? ⟨g, 5, none⟩ = some (.int .i64 m1.t) := cell_of HX2.out (i := 5) rfl
        have e6 : w2.cell? ⟨g, 6, none⟩ = some (.int .i64 m1.f) := cell_of HX2.out (i := 6) rfl
        have e7 : w2.cell? ⟨g, 7, none⟩ = some (.bool m1.r) := cell_of HX2.out (i := 7) rfl
        have hE := fun wx => neq_ma (nor m9) m1 wx
        obtain ⟨vb, hvb⟩ : ∃ vb, (!decide (nor m9 = m1)) = vb := ⟨_, rfl⟩
        rw [hvb] at hE
        have HVB := Lib.hid hvb
        clear hvb hb3
        dsimp only [nor] at hE
        have hG := gd_ma
        rcases vb with _ | _
        · have he : nor m9 = m1 := by have := HVB.out; simpa using this
          have HM : Hid (mo S (k + 1) = (l, t)) := Lib.hid (by rw [mo, if_pos (by rw [RM9.out, RM1.out]; exact he), RL.out, RT.out, RS.out, HT.out])
          go_wp2_with (fail)
          generalize (w2.alloc (.cells #[.int .i64 m9.x, .int .i64 m9.y, .int .i64 m9.z, .int .i64 m9.s, .int .i64 m9.h, .int .i64 m9.t, .int .i64 m9.f, .bool false] 42)) = w3 at *
          go_roundw
          case rel => exact ⟨k + 1, ao, co, by omega, by go_num, by rw [HM.out], by rw [HM.out], by rw [RM9.out, he]; exact HX3.out, by rw [HM.out]; exact HO3.out, by omega, B3.out⟩
          case measure => simp [intOf] <;> omega
        · have he : nor m9 ≠ m1 := by have := HVB.out; simpa using this
          have HM : Hid (mo S (k + 1) = (l ++ [(nor m9, t)], 0)) := Lib.hid (by rw [mo, if_neg (by rw [RM9.out, RM1.out]; exact he), RL.out, RT.out, RS.out, HT.out, RM9.out])
          have hown2 := HO2.out.lt
          have hrg : w2.heap.size ≠ g := by omega
          clear e0 e1 e2 e3 e4 e5 e6 e7
          have e0 : w2.cell? ⟨g, 0, none⟩ = some (.int .i64 m1.x) := cell_of HX2.out (i := 0) rfl
          have e1 : w2.cell? ⟨g, 1, none⟩ = some (.int .i64 m1.y) := cell_of HX2.out (i := 1) rfl
          have e2 : w2.cell? ⟨g, 2, none⟩ = some (.int .i64 m1.z) := cell_of HX2.out (i := 2) rfl
          have e3 : w2.cell? ⟨g, 3, none⟩ = some (.int .i64 m1.s) := cell_of HX2.out (i := 3) rfl
          have e4 : w2.cell? ⟨g, 4, none⟩ = some (.int .i64 m1.h) := cell_of HX2.out (i := 4) rfl
          have e5 : w2.cell? ⟨g, 5, none⟩ = some (.int .i64 m1.t) := cell_of HX2.out (i := 5) rfl
          have e6 : w2.cell? ⟨g, 6, none⟩ = some (.int .i64 m1.f) := cell_of HX2.out (i := 6) rfl
          have e7 : w2.cell? ⟨g, 7, none⟩ = some (.bool m1.r) := cell_of HX2.out (i := 7) rfl
          go_wp2_with (at_builtin; refine wpList_append_lies _ rfl _ _ 66 rfl (g + 1) 71 i0 (.agg #[.int .i64 0, .int .i64 0, .int .i64 0, .int .i64 0, .int .i64 0, .int .i64 0, .int .i64 0, .bool false, .int .i64 0]) 9 72 Try.underlying66 hi0 hz0 hz1 hz2 rfl (by decide) _ _ _ rfl (ownsRow_below (HO3.out) ((Below.refl _ (w2.alloc (.cells #[.int .i64 m9.x, .int .i64 m9.y, .int .i64 m9.z, .int .i64 m9.s, .int .i64 m9.h, .int .i64 m9.t, .int .i64 m9.f, .bool false] 42))).alloc (Nat.le_refl _) _)) ⟨(w2.heap.size + 1), 0, none⟩ 1 1 [.int .i64 m9.x, .int .i64 m9.y, .int .i64 m9.z, .int .i64 m9.s, .int .i64 m9.h, .int .i64 m9.t, .int .i64 m9.f, .bool false, .int .i64 t] rfl rfl (World.news_of_block (cs := #[.int .i64 m9.x, .int .i64 m9.y, .int .i64 m9.z, .int .i64 m9.s, .int .i64 m9.h, .int .i64 m9.t, .int .i64 m9.f, .bool false, .int .i64 t]) (t := 71) (fr := (0, 0)) (show ((w2.alloc (.cells #[.int .i64 m9.x, .int .i64 m9.y, .int .i64 m9.z, .int .i64 m9.s, .int .i64 m9.h, .int .i64 m9.t, .int .i64 m9.f, .bool false] 42)).alloc (.cells #[.int .i64 m9.x, .int .i64 m9.y, .int .i64 m9.z, .int .i64 m9.s, .int .i64 m9.h, .int .i64 m9.t, .int .i64 m9.f, .bool false, .int .i64 t] 71)).heap[(w2.heap.size + 1)]? = some (.cells #[.int .i64 m9.x, .int .i64 m9.y, .int .i64 m9.z, .int .i64 m9.s, .int .i64 m9.h, .int .i64 m9.t, .int .i64 m9.f, .bool false, .int .i64 t] 71) from heap_new (by simp))) (by simp [Value.oneCell']) (by omega) (by unfold maxLen; omega) (by omega) (by simp; omega) ((w2.heap.size + 1) + 1) (by simp) ?_; intro g5 c5 w5 hown5 hgrow5 hge5 hlt5; have HO5 := Lib.hid hown5; have HB5 := Lib.hid (Below.grown (B := (g + 1)) (Below.alloc (B := (g + 1)) (Below.refl _ (w2.alloc (.cells #[.int .i64 m9.x, .int .i64 m9.y, .int .i64 m9.z, .int .i64 m9.s, .int .i64 m9.h, .int .i64 m9.t, .int .i64 m9.f, .bool false] 42))) (by omega) (.cells #[.int .i64 m9.x, .int .i64 m9.y, .int .i64 m9.z, .int .i64 m9.s, .int .i64 m9.h, .int .i64 m9.t, .int .i64 m9.f, .bool false, .int .i64 t] 71)) hgrow5 (by simp; omega) (fun b hb => ((HO3.out).lt b hb).1)); have HG5 := Lib.hid hgrow5; clear hown5 hgrow5 hge5; have hX5 : w5.heap[g]? = some (.cells #[.int .i64 m1.x, .int .i64 m1.y, .int .i64 m1.z, .int .i64 m1.s, .int .i64 m1.h, .int .i64 m1.t, .int .i64 m1.f, .bool m1.r] 42 (0, 0)) := (HB5.out.block g (by omega)).trans HX3.out; have e0 : w5.cell? ⟨g, 0, none⟩ = some (.int .i64 m1.x) := cell_of hX5 (i := 0) rfl; have e1 : w5.cell? ⟨g, 1, none⟩ = some (.int .i64 m1.y) := cell_of hX5 (i := 1) rfl; have e2 : w5.cell? ⟨g, 2, none⟩ = some (.int .i64 m1.z) := cell_of hX5 (i := 2) rfl; have e3 : w5.cell? ⟨g, 3, none⟩ = some (.int .i64 m1.s) := cell_of hX5 (i := 3) rfl; have e4 : w5.cell? ⟨g, 4, none⟩ = some (.int .i64 m1.h) := cell_of hX5 (i := 4) rfl; have e5 : w5.cell? ⟨g, 5, none⟩ = some (.int .i64 m1.t) := cell_of hX5 (i := 5) rfl; have e6 : w5.cell? ⟨g, 6, none⟩ = some (.int .i64 m1.f) := cell_of hX5 (i := 6) rfl; have e7 : w5.cell? ⟨g, 7, none⟩ = some (.bool m1.r) := cell_of hX5 (i := 7) rfl; have gg0 := fun i => frozen_of (i := i) hX5; have hR5 : w5.heap[w2.heap.size]? = some (.cells #[.int .i64 (nor m9).x, .int .i64 (nor m9).y, .int .i64 (nor m9).z, .int .i64 (nor m9).s, .int .i64 (nor m9).h, .int .i64 (nor m9).t, .int .i64 (nor m9).f, .bool (nor m9).r] 42 (0, 0)) := (HG5.out.block w2.heap.size (by simp; omega) (fun e => by have := hown2 w2.heap.size e.symm; omega)).trans ((Below.heap_alloc _ _ _ (by omega)).trans HR3.out); have d0 : w5.cell? ⟨w2.heap.size, 0, none⟩ = some (.int .i64 m9.x) := cell_of hR5 (i := 0) rfl; have d1 : w5.cell? ⟨w2.heap.size, 1, none⟩ = some (.int .i64 m9.y) := cell_of hR5 (i := 1) rfl; have d2 : w5.cell? ⟨w2.heap.size, 2, none⟩ = some (.int .i64 m9.z) := cell_of hR5 (i := 2) rfl; have d3 : w5.cell? ⟨w2.heap.size, 3, none⟩ = some (.int .i64 m9.s) := cell_of hR5 (i := 3) rfl; have d4 : w5.cell? ⟨w2.heap.size, 4, none⟩ = some (.int .i64 m9.h) := cell_of hR5 (i := 4) rfl; have d5 : w5.cell? ⟨w2.heap.size, 5, none⟩ = some (.int .i64 m9.t) := cell_of hR5 (i := 5) rfl; have d6 : w5.cell? ⟨w2.heap.size, 6, none⟩ = some (.int .i64 m9.f) := cell_of hR5 (i := 6) rfl; have d7 : w5.cell? ⟨w2.heap.size, 7, none⟩ = some (.bool false) := cell_of hR5 (i := 7) rfl; have HX5 := Lib.hid hX5; clear hX5 hR5)
          obtain ⟨hx6, hm6⟩ := storeMa (W := ((((((((w5.setCell ⟨g, 0, none⟩ (.int .i64 m9.x)).setCell ⟨g, 1, none⟩ (.int .i64 m9.y)).setCell ⟨g, 2, none⟩ (.int .i64 m9.z)).setCell ⟨g, 3, none⟩ (.int .i64 m9.s)).setCell ⟨g, 4, none⟩ (.int .i64 m9.h)).setCell ⟨g, 5, none⟩ (.int .i64 m9.t)).setCell ⟨g, 6, none⟩ (.int .i64 m9.f)).setCell ⟨g, 7, none⟩ (.bool false))) HX5.out (m2 := nor m9) rfl
          generalize ((((((((w5.setCell ⟨g, 0, none⟩ (.int .i64 m9.x)).setCell ⟨g, 1, none⟩ (.int .i64 m9.y)).setCell ⟨g, 2, none⟩ (.int .i64 m9.z)).setCell ⟨g, 3, none⟩ (.int .i64 m9.s)).setCell ⟨g, 4, none⟩ (.int .i64 m9.h)).setCell ⟨g, 5, none⟩ (.int .i64 m9.t)).setCell ⟨g, 6, none⟩ (.int .i64 m9.f)).setCell ⟨g, 7, none⟩ (.bool false)) = w6 at *
          have HX6 := Lib.hid hx6
          have HO6 := Lib.hid (own_mut HO5.out hm6 (fun b hb e => by have := (HO5.out.lt b hb).1; omega))
          have B6 := Lib.hid ((B3.out.trans (HB5.out.mono (by have := HG.out; omega))).trans (hm6.toBelow w.heap.size (by have := HB5.out.size; have := B3.out.size; omega) (fun b hb h => by have := HG.out; omega)))
          have hs6 : g + 1 ≤ w6.heap.size := lt_of_heap hx6
          clear hx6 hm6
          go_roundw
          case rel => exact ⟨k + 1, some ⟨g5, 0, none⟩, c5, by omega, by go_num, by rw [HM.out, List.length_append]; rfl, by rw [HM.out], by rw [RM9.out]; exact HX6.out, by rw [HM.out, List.length_append, rowL_app]; exact HO6.out, hs6, B6.out⟩
          case measure => simp [intOf] <;> omega
    · obtain rfl : n = k := by omega
      go_wp2_with (fail)
      exact bodyPost_ret (v := .tuple #[.slice ao (mo S n).1.length co, .int .i64 (mo S n).2]) (by simp [results, Try.results32, go_sem]) rfl ⟨ao, co, rfl, own_ys HO.out rfl, HB.out⟩
theorem mo_same {S T : Nat → St} {n m : Nat} : (decide ((mo S n).1 = (mo T m).1) && ((mo S n).2 == (mo T m).2)) = decide (syL S n = syL T m) := by
  rw [Bool.eq_iff_iff, Bool.and_eq_true, decide_eq_true_eq, beq_iff_eq, decide_eq_true_eq]
  exact syL_inj.symm
set_option maxRecDepth 100000 in
set_option maxHeartbeats 4000000 in
theorem sameSteps_any (a : Option Addr) (n c : Nat) (S : Nat → St) (a' : Option Addr) (n' c' : Nat) (T : Nat → St) (w : World) (hn : n ≤ 5000) (hn' : n' ≤ 5000) (hnc : n ≤ c) (hnc' : n' ≤ c') (hok : ∀ i, i < n → SOk (S i)) (hok' : ∀ i, i < n' → SOk (T i)) (hp : StepsR w a n S) (hp' : StepsR w a' n' T) :
    Calls Try.prog 17 #[.slice a n c, .slice a' n' c'] w fun e w' => e = .returned (.bool (decide (syL S n = syL T n'))) ∧ Below w.heap.size w w' := by
  have HP := Lib.hid hp
  have HP' := Lib.hid hp'
  have HOK := Lib.hid hok
  have HOK' := Lib.hid hok'
  clear hp hp' hok hok'
  go_enter Try.func17, Try.ntmps17
  go_wp2_with (fail)
  refine (moments_any a n c S w hn hnc HOK.out HP.out).mono ?_
  rintro e w1 ⟨ao, co, rfl, hy, hb⟩
  have HY := Lib.hid hy
  replace HP' := Lib.hid (HP'.out.kept hb)
  have B0 := Lib.hid hb
  have hl2 := mo_len S n
  have hl4 := mo_len T n'
  clear hb hy
  go_wp2_with (fail)
  refine (moments_any a' n' c' T w1 hn' hnc' HOK'.out HP'.out).mono ?_
  rintro e w2 ⟨ao', co', rfl, hy, hb⟩
  have HY' := Lib.hid hy
  replace HY := Lib.hid (HY.out.kept hb)
  replace B0 := Lib.hid (B0.out.trans (hb.mono B0.out.size))
  clear hb hy
  go_wp2_with (fail)
  refine (equal_mom ao ao' _ _ co co' (mo S n).1 (mo T n').1 w2 HY.out HY'.out rfl rfl (by omega) (by omega)).mono ?_
  rintro e w3 ⟨rfl, hb⟩
  replace B0 := Lib.hid (B0.out.trans (hb.mono B0.out.size))
  clear hb
  have HM := Lib.hid (mo_same (S := S) (T := T) (n := n) (m := n'))
  obtain ⟨vb, hvb⟩ : ∃ vb, decide ((mo S n).1 = (mo T n').1) = vb := ⟨_, rfl⟩
  rw [hvb] at HM ⊢
  clear hvb hl2 hl4
  obtain ⟨t1, ht1⟩ : ∃ t, (mo S n).2 = t := ⟨_, rfl⟩
  obtain ⟨t2, ht2⟩ : ∃ t, (mo T n').2 = t := ⟨_, rfl⟩
  rw [ht1, ht2] at HM ⊢
  clear ht1 ht2
  rcases vb with _ | _
  · go_wp2_with (fail)
    go_ret
    exact ⟨by rw [← HM.out]; rfl, B0.out⟩
  · go_wp2_with (fail)
    go_ret
    exact ⟨by rw [← HM.out]; rfl, B0.out⟩
end Go.Proofs.Ytgmpmaiddombeaa

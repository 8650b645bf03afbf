/- Peaks; package motion plans speeds. -/
import Derived.Test.YtdanlnmdkneepaaVj
set_option linter.unusedSimpArgs false
set_option linter.unusedVariables false
namespace Go.Proofs.Ytdanlnmdkneepaa
open Go.RowKit
set_option maxRecDepth 100000 in
set_option maxHeartbeats 8000000 in
theorem eachPeak_any (a : Option Addr) (n cl : Nat) (L M : Nat → Int) (ac : Option Addr) (m cc : Nat) (C : Nat → Int) (c : Int) (w : World) (hn : n ≤ 100) (hm : m ≤ 100) (hp : LegsR w a n L M) (hc : IntsR w ac m C) :
    Calls Try.prog 123 #[.slice a n cl, .slice ac m cc, .int .i64 c, (.func (.func 124) #[] #[])] w fun e w' =>
      (movE n L M m C c = 0 → ∃ ao co, e = .returned (.tuple #[.slice ao n co, .int .i64 0]) ∧ w'.ownsRow w.heap.size 3 1 (.slice ao n co) n (vs (fun i => pkZ (spZ n L M C c i) (spZ n L M C c (i + 1)) (M i) (gainZ c (L i))) n)) ∧
      (movE n L M m C c ≠ 0 → e = .returned (.tuple #[.slice none 0 0, .int .i64 (movE n L M m C c)])) ∧ Below w.heap.size w w' := by
  obtain ⟨i0, hi0, hz0, hz1, hz2⟩ := info_parts info_intV
  have HP := Lib.hid hp
  have HC := Lib.hid hc
  clear hp hc
  go_enter Try.func123, Try.ntmps123
  go_wp2_with (fail)
  refine (checkMoves_any a n cl L M ac m cc C c _ hn hm HP.out HC.out).mono ?_
  rintro e w1 ⟨rfl, hb1⟩
  have B1 := Lib.hid hb1
  clear hb1
  by_cases hz : movE n L M m C c = 0
  · have HZ := Lib.hid hz
    have hz' : (movE n L M m C c != 0) = false := by simp [hz]
    have OK := Lib.hid (mok hz)
    clear hz
    go_wp2_with (fail)
    refine (plan_any a n cl L M ac m cc C c _ hn (HP.out.kept B1.out) (HC.out.kept B1.out) OK.out).mono ?_
    rintro e w2 ⟨g, cap, rfl, hbl, hg0, hb2⟩
    have HBL := Lib.hid hbl
    have B2 := Lib.hid (B1.out.trans (hb2.mono B1.out.size))
    clear hb2 hbl
    obtain ⟨b, off, rfl, hb, hd⟩ : ∃ b off, a = some ⟨b, off, none⟩ ∧ b < w.heap.size ∧ ∀ i, i < n → w.cell? ⟨b, off + i * 2, none⟩ = some (.int .i64 (L i)) ∧ w.cell? ⟨b, off + i * 2 + 1, none⟩ = some (.int .i64 (M i)) := by
      rcases HP.out with h | h
      · have := OK.out.pos; omega
      · exact h
    have HD := Lib.hid hd
    clear hd
    go_wp2_with (fail)
    go_loopw [12, 28] (fun sv i wr => ∃ (t : Nat) (ao : Option Addr) (co : Nat), t ≤ n ∧ i = .int .i64 t ∧ sv = .slice ao t co ∧ wr.ownsRow w.heap.size 3 1 (.slice ao t co) t (vs (fun i => pkZ (spZ n L M C c i) (spZ n L M C c (i + 1)) (M i) (gainZ c (L i))) t) ∧ BlkI wr g (n + 1) (spZ n L M C c) ∧ Below w.heap.size w wr ∧ (∀ x, ao = some x → x.block ≠ g)) (fun _ i _ => n - (intOf i).toNat)
    case atStart => exact ⟨0, none, 0, by omega, rfl, rfl, World.ownsRow_nil _ _ _ _, HBL.out, B2.out, fun x h => by cases h⟩
    case round =>
      clear HBL B2
      obtain ⟨t, ao, co, ht, rfl, rfl, hown, hbl, hbel, hne⟩ := hrel
      have HO := Lib.hid hown
      have HBL := Lib.hid hbl
      have HB := Lib.hid hbel
      have HNE := Lib.hid hne
      have hsz := hbel.size
      clear hown hbl hbel hne
      by_cases hlt : t < n
      · have l0 := cellk HB.out hb (HD.out t hlt).1
        have l1 := cellk HB.out hb (HD.out t hlt).2
        have hbw : b < wr.heap.size := by omega
        have OL := OK.out.lg t hlt
        have s0 := OK.out.sp t (by omega)
        have s1 := OK.out.sp (t + 1) (by omega)
        have XB := Lib.hid (show (0 ≤ spZ n L M C c t ∧ spZ n L M C c t ≤ 100000) ∧ (0 ≤ spZ n L M C c (t + 1) ∧ spZ n L M C c (t + 1) ≤ 100000) by omega)
        have CH := Lib.hid OK.out.ch
        have LB := Lib.hid (show (1 ≤ L t ∧ L t ≤ 200000) ∧ (1 ≤ M t ∧ M t ≤ 100000) by omega)
        have hw1 : IntKind.i64.wrap ((t : Int) + 1) = (t : Int) + 1 := i64w (by omega)
        have ht1 : (t : Int) < (n : Int) + 1 := by omega
        have ht3 : (0 : Int) ≤ (t : Int) + 1 := by omega
        have ht4 : (t : Int) + 1 < (n : Int) + 1 := by omega
        have hb9 : Below wr.heap.size wr (wr.alloc (.cells #[.int .i64 (L t), .int .i64 (M t)] 83)) := (Below.refl _ _).alloc (Nat.le_refl _) _
        have hq9 := heap_alloc_new wr (.cells #[.int .i64 (L t), .int .i64 (M t)] 83)
        have k90 := cell_of hq9 (i := 0) rfl
        have k91 := cell_of hq9 (i := 1) rfl
        have hb3 := HBL.out.kept hb9
        have e0 := hb3.cell (i := t) (by omega)
        have e1 := hb3.cell (i := t + 1) (by omega)
        have lg := hb3.lt
        have l9 := lt_of_heap hq9
        have B3 := Lib.hid (HB.out.trans (hb9.mono hsz))
        have HO3 := Lib.hid (ownsRow_below HO.out hb9)
        have HBL3 := Lib.hid hb3
        have hgw := HBL.out.lt
        have HNQ := Lib.hid (show ∀ x, (Value.slice ao t co).ownBlock = some x → x < wr.heap.size from fun x hx => (HO.out.lt x hx).2)
        clear hb9 hq9 OL s0 s1 hb3 HO HBL HB
        go_wp2_with (fail)
        generalize (wr.alloc (.cells #[.int .i64 (L t), .int .i64 (M t)] 83)) = W0 at *
        obtain ⟨q9, hq⟩ : ∃ q, q = wr.heap.size := ⟨_, rfl⟩
        rw [← hq] at k90 k91 l9 hgw HNQ ⊢
        clear hq l0 l1
        refine wp_region_held_drew (S := (fun w' => w'.cell? ⟨g, t, none⟩ = some (.int .i64 (spZ n L M C c t)) ∧ w'.cell? ⟨g, t + 1, none⟩ = some (.int .i64 (spZ n L M C c (t + 1))) ∧ w'.cell? ⟨q9, 0, none⟩ = some (.int .i64 (L t)) ∧ w'.cell? ⟨q9, 1, none⟩ = some (.int .i64 (M t)))) (by kernel_rfl) ⟨e0, e1, k90, k91⟩ (fun hHeld => ?_)
        refine tkH (by assumption) 0 (oi := ?_) (v := ?_) ?_ ?_ ?_ ?_ ?_ ?_ ?_ ?_; rotate_left 2; (simp only [gA, gB, gC]; exact rfl); kernel_rfl; kernel_rfl; kernel_rfl; exact fun _ _ _ h => h; rfl; (intro w' hSw; (try dsimp only at hSw); go_simp; with_reducible rfl); simp only [Act.put, pB, pC, pD]
        refine tkH (by assumption) 1 (oi := ?_) (v := ?_) ?_ ?_ ?_ ?_ ?_ ?_ ?_ ?_; rotate_left 2; (simp only [gA, gB, gC]; exact rfl); kernel_rfl; kernel_rfl; kernel_rfl; exact fun _ _ _ h => h; rfl; (intro w' hSw; (try dsimp only at hSw); go_simp; with_reducible rfl); simp only [Act.put, pB, pC, pD]
        refine tkH (by assumption) 2 (oi := ?_) (v := ?_) ?_ ?_ ?_ ?_ ?_ ?_ ?_ ?_; rotate_left 2; (simp only [gA, gB, gC]; exact rfl); kernel_rfl; kernel_rfl; kernel_rfl; exact fun _ _ _ h => h; rfl; (intro w' hSw; (try dsimp only at hSw); go_simp; with_reducible rfl); simp only [Act.put, pB, pC, pD]
        refine tkH (by assumption) 3 (oi := ?_) (v := ?_) ?_ ?_ ?_ ?_ ?_ ?_ ?_ ?_; rotate_left 2; (simp only [gA, gB, gC]; exact rfl); kernel_rfl; kernel_rfl; kernel_rfl; exact fun _ _ _ h => h; rfl; (intro w' hSw; (try dsimp only at hSw); go_simp; with_reducible rfl); simp only [Act.put, pB, pC, pD]
        refine tkH (by assumption) 4 (oi := ?_) (v := ?_) ?_ ?_ ?_ ?_ ?_ ?_ ?_ ?_; rotate_left 2; (simp only [gA, gB, gC]; exact rfl); kernel_rfl; kernel_rfl; kernel_rfl; exact fun _ _ _ h => h; rfl; (intro w' hSw; (try dsimp only at hSw); go_simp; with_reducible rfl); simp only [Act.put, pB, pC, pD]
        refine tkH (by assumption) 5 (oi := ?_) (v := ?_) ?_ ?_ ?_ ?_ ?_ ?_ ?_ ?_; rotate_left 2; (simp only [gA, gB, gC]; exact rfl); kernel_rfl; kernel_rfl; kernel_rfl; exact fun _ _ _ h => h; rfl; (intro w' hSw; (try dsimp only at hSw); go_simp; with_reducible rfl); simp only [Act.put, pB, pC, pD]
        refine tkH (by assumption) 6 (oi := ?_) (v := ?_) ?_ ?_ ?_ ?_ ?_ ?_ ?_ ?_; rotate_left 2; (simp only [gA, gB, gC]; exact rfl); kernel_rfl; kernel_rfl; kernel_rfl; exact fun _ _ _ h => h; rfl; (intro w' hSw; (try dsimp only at hSw); go_simp; with_reducible rfl); simp only [Act.put, pB, pC, pD]
        refine tkH (by assumption) 7 (oi := ?_) (v := ?_) ?_ ?_ ?_ ?_ ?_ ?_ ?_ ?_; rotate_left 2; (simp only [gA, gB, gC]; exact rfl); kernel_rfl; kernel_rfl; kernel_rfl; exact fun _ _ _ h => h; rfl; (intro w' hSw; (try dsimp only at hSw); go_simp; with_reducible rfl); simp only [Act.put, pB, pC, pD]
        refine tkH (by assumption) 8 (oi := ?_) (v := ?_) ?_ ?_ ?_ ?_ ?_ ?_ ?_ ?_; rotate_left 2; (simp only [gA, gB, gC]; exact rfl); kernel_rfl; kernel_rfl; kernel_rfl; exact fun _ _ _ h => h; rfl; (intro w' hSw; (try dsimp only at hSw); go_simp; with_reducible rfl); simp only [Act.put, pB, pC, pD]
        refine tkH (by assumption) 9 (oi := ?_) (v := ?_) ?_ ?_ ?_ ?_ ?_ ?_ ?_ ?_; rotate_left 2; (simp only [gA, gB, gC]; exact rfl); kernel_rfl; kernel_rfl; kernel_rfl; exact fun _ _ _ h => h; rfl; (intro w' hSw; (try dsimp only at hSw); go_simp; with_reducible rfl); simp only [Act.put, pB, pC, pD]
        refine tkH (by assumption) 10 (oi := ?_) (v := ?_) ?_ ?_ ?_ ?_ ?_ ?_ ?_ ?_; rotate_left 2; (simp only [gA, gB, gC]; exact rfl); kernel_rfl; kernel_rfl; kernel_rfl; exact fun _ _ _ h => h; rfl; (intro w' hSw; (try dsimp only at hSw); go_simp; with_reducible rfl); simp only [Act.put, pB, pC, pD]
        refine tkH (by assumption) 11 (oi := ?_) (v := ?_) ?_ ?_ ?_ ?_ ?_ ?_ ?_ ?_; rotate_left 2; (simp only [gA, gB, gC]; exact rfl); kernel_rfl; kernel_rfl; kernel_rfl; exact fun _ _ _ h => h; rfl; (intro w' hSw; (try dsimp only at hSw); go_simp; with_reducible rfl); simp only [Act.put, pB, pC, pD]
        refine tkH (by assumption) 12 (oi := ?_) (v := ?_) ?_ ?_ ?_ ?_ ?_ ?_ ?_ ?_; rotate_left 2; (simp only [gA, gB, gC]; exact rfl); kernel_rfl; kernel_rfl; kernel_rfl; exact fun _ _ _ h => h; rfl; (intro w' hSw; (try dsimp only at hSw); go_simp; with_reducible rfl); simp only [Act.put, pB, pC, pD]
        refine onH 13 (oi := ?_) (by kernel_rfl) ?_ ?_ (fun K hK => ?_); rotate_left; (simp only [gA, gB, gC]; exact rfl); rfl
        go_wp2_with (fail)
        refine (peak_any (spZ n L M C c t) (spZ n L M C c (t + 1)) (L t) (M t) c _ (by have := XB.out.1; omega) (by have := XB.out.2; omega) CH.out LB.out.1 LB.out.2).mono ?_
        rintro e w5 ⟨rfl, hb5⟩
        have hb6 : Below W0.heap.size W0 w5 := ⟨hb5.os, hb5.tape, hb5.output, hb5.size, hb5.block⟩
        have HO5 := Lib.hid (ownsRow_below HO3.out hb6)
        have HBL5 := Lib.hid (HBL3.out.kept hb6)
        have B5 := Lib.hid (B3.out.trans (hb6.mono B3.out.size))
        replace e0 := cellk hb6 lg e0
        replace e1 := cellk hb6 lg e1
        replace k90 := cellk hb6 l9 k90
        replace k91 := cellk hb6 l9 k91
        replace lg := HBL5.out.lt
        replace l9 := Nat.lt_of_lt_of_le l9 hb6.size
        clear hb5 hb6 HO3 HBL3 B3
        obtain ⟨z, hz⟩ : ∃ z, z = (fun i => pkZ (spZ n L M C c i) (spZ n L M C c (i + 1)) (M i) (gainZ c (L i))) t := ⟨_, rfl⟩
        have HZV := Lib.hid hz
        dsimp only at hz
        rw [← hz]
        clear hz
        refine hK.out _ _ ⟨e0, e1, k90, k91⟩ (fun hHeldN => ?_)
        clear hK K hHeld
        have hHeld := hHeldN
        clear hHeldN
        try simp only [Act.put, pB, pC, pD]
        refine onH 14 (oi := ?_) (by kernel_rfl) ?_ ?_ (fun K hK => ?_); rotate_left; (simp only [gA, gB, gC]; exact rfl); rfl
        go_wp2_with (fail)
        have bA : Below w5.heap.size w5 (w5.alloc (.cells #[.int .i64 z] 3)) := (Below.refl _ _).alloc (Nat.le_refl _) _
        have hnw : ∀ (j : Nat) (u : Value), [Value.int .i64 z][j]? = some u → (w5.alloc (.cells #[.int .i64 z] 3)).cell? ((⟨w5.heap.size, 0, none⟩ : Addr).add j) = some u := World.news_of_block (cs := #[.int .i64 z]) (t := 3) (fr := (0, 0)) (heap_alloc_new w5 (.cells #[.int .i64 z] 3))
        have HO6 := ownsRow_below HO5.out bA
        have HBL6 := HBL5.out.kept bA
        have B6 := B5.out.trans (bA.mono B5.out.size)
        have hs6 : (w5.alloc (.cells #[.int .i64 z] 3)).heap.size = w5.heap.size + 1 := by simp
        have hs5 := B5.out.size
        replace e0 := cellk bA lg e0
        replace e1 := cellk bA lg e1
        replace k90 := cellk bA l9 k90
        replace k91 := cellk bA l9 k91
        refine hK.out _ _ ⟨e0, e1, k90, k91⟩ (fun hHeldN => ?_)
        clear hK K hHeld
        have hHeld := hHeldN
        clear hHeldN
        try simp only [Act.put, pB, pC, pD]
        clear bA
        generalize (w5.alloc (.cells #[.int .i64 z] 3)) = W6 at *
        refine onH 15 (oi := ?_) (by kernel_rfl) ?_ ?_ (fun K hK => ?_); rotate_left; (simp only [gA, gB, gC]; exact rfl); rfl
        refine wp_append_lies _ _ _ 22 rfl w.heap.size 3 i0 (.int .i64 0) 1 8 Try.underlying22 hi0 hz0 hz1 hz2 rfl (by decide) _ _ _ rfl HO6 ⟨w5.heap.size, 0, none⟩ 1 1 [.int .i64 z] rfl rfl hnw (by simp [Value.oneCell']) (by omega) (by unfold maxLen; omega) (by omega) (by omega) (w5.heap.size + 1) hs6 ?_
        intro g5 c5 w7 hown hgrow hor hlt5
        have B7 : Below w.heap.size w w7 := Below.grown B6 hgrow (by omega) (fun b hb => (HO6.lt b hb).1)
        have hgo : (Value.slice ao t co).ownBlock ≠ some g := fun e => by
          cases ao with
          | none => cases e
          | some x => simp only [Value.ownBlock, Option.some.injEq] at e; exact HNE.out x rfl e
        have hbl7 : BlkI w7 g (n + 1) (spZ n L M C c) := by
          obtain ⟨cur, hc1, hc2⟩ := HBL6
          exact ⟨cur, (hgrow.block g (lt_of_heap hc1) (fun e => hgo e.symm)).trans hc1, hc2⟩
        have hq7 : ∀ i v, W6.cell? ⟨q9, i, none⟩ = some v → w7.cell? ⟨q9, i, none⟩ = some v := fun i v hv => by
          refine (World.cell?_of_block (w := W6) (hgrow.block q9 (cell_lt hv) (fun e => ?_))).trans hv
          exact absurd (HNQ.out q9 e.symm) (Nat.lt_irrefl _)
        have hg5 : g5 ≠ g := fun e => by
          rcases hor with h | h
          · exact hgo (e ▸ h)
          · have := HBL6.lt; omega
        have HO8 := Lib.hid (show w7.ownsRow w.heap.size 3 1 (.slice (some ⟨g5, 0, none⟩) (t + 1) c5) (t + 1) (vs (fun i => pkZ (spZ n L M C c i) (spZ n L M C c (i + 1)) (M i) (gainZ c (L i))) (t + 1)) by rw [vs_succ, ← HZV.out]; exact hown)
        have HBL7 := Lib.hid hbl7
        have HB7 := Lib.hid B7
        refine hK.out _ _ ⟨hbl7.cell (by omega), hbl7.cell (by omega), hq7 0 _ k90, hq7 1 _ k91⟩ (fun hHeldN => ?_)
        clear hK K hHeld
        have hHeld := hHeldN
        clear hHeldN
        try simp only [Act.put, pB, pC, pD]
        clear hown hgrow hor HO6 HBL6 B6 B7 hbl7 hq7 hnw e0 e1 k90 k91 hgo
        refine tkH (by assumption) 16 (oi := ?_) (v := ?_) ?_ ?_ ?_ ?_ ?_ ?_ ?_ ?_; rotate_left 2; (simp only [gA, gB, gC]; exact rfl); kernel_rfl; kernel_rfl; kernel_rfl; exact fun _ _ _ h => h; rfl; (intro w' hSw; (try dsimp only at hSw); go_simp; with_reducible rfl); simp only [Act.put, pB, pC, pD]
        refine wpAnyH_done (by kernel_rfl) ?_ _
        go_wp2_with (fail)
        go_roundw
        case rel => exact ⟨t + 1, _, c5, by omega, by go_num, rfl, HO8.out, HBL7.out, HB7.out, fun x h => by cases h; exact hg5⟩
        case measure => simp [intOf] <;> omega
      · obtain rfl : n = t := by omega
        go_wp2_with (fail)
        exact bodyPost_ret (v := .tuple #[.slice ao n co, .int .i64 0]) (by simp [results, Try.results123, go_sem]) rfl ⟨fun _ => ⟨ao, co, rfl, HO.out⟩, fun h => absurd HZ.out h, HB.out⟩
  · have HZ := Lib.hid hz
    have hz' : (movE n L M m C c != 0) = true := by simpa using hz
    clear hz
    go_wp2_with (fail)
    exact bodyPost_ret (v := .tuple #[.slice none 0 0, .int .i64 (movE n L M m C c)]) (by simp [results, Try.results123, go_sem]) rfl ⟨fun h => absurd h HZ.out, fun _ => rfl, B1.out⟩

end Go.Proofs.Ytdanlnmdkneepaa

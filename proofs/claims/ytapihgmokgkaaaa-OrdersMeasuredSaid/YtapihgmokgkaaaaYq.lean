/- Ways and travel: the program. -/
import Derived.Test.YtapihgmokgkaaaaYp
set_option linter.unusedSimpArgs false
set_option linter.unusedVariables false
namespace Go.Proofs.Ytapihgmokgkaaaa
open Go.RowKit

theorem grow_keep {w w' : World} {row : Option Nat} {b : Nat} {o : Obj} (hg : w.grownBy w' row) (h : w.heap[b]? = some o) (hne : row ≠ some b) : w'.heap[b]? = some o :=
  (hg.block b (lt_of_heap h) (fun e => hne e.symm)).trans h
theorem own_ne {w : World} {base : Nat} {e t : TypeId} {size : Nat} {v : Value} {n : Nat} {xs : List Value} {b : Nat} {c : Array Value} {fr : Nat × Nat} (h : w.ownsRow base e size v n xs) (hb : w.heap[b]? = some (.cells c t fr)) (ht : t ≠ e) : v.ownBlock ≠ some b := by
  intro hv
  rcases h.2 with ⟨rfl, _⟩ | ⟨g, cap, cur, rfl, _, hg, _⟩
  · cases hv
  · simp only [Value.ownBlock, Option.some.injEq] at hv
    subst hv
    rw [hg] at hb
    simp only [Option.some.injEq, Obj.cells.injEq] at hb
    exact ht hb.2.1.symm
theorem set2_0 {w : World} {b : Nat} {v0 v1 u : Value} {t : TypeId} (h : w.heap[b]? = some (.cells #[v0, v1] t (0, 0))) : (w.setCell ⟨b, 0, none⟩ u).heap[b]? = some (.cells #[u, v1] t (0, 0)) := by
  simp [World.setCell, Array.getElem?_modify, h]
theorem set2_1 {w : World} {b : Nat} {v0 v1 u : Value} {t : TypeId} (h : w.heap[b]? = some (.cells #[v0, v1] t (0, 0))) : (w.setCell ⟨b, 1, none⟩ u).heap[b]? = some (.cells #[v0, u] t (0, 0)) := by
  simp [World.setCell, Array.getElem?_modify, h]
theorem own_mut {S : Nat → Prop} {w w' : World} {base : Nat} {e : TypeId} {size : Nat} {v : Value} {n : Nat} {xs : List Value} (h : w.ownsRow base e size v n xs) (hm : Mut S w w') (hs : ∀ b, v.ownBlock = some b → ¬ S b) : w'.ownsRow base e size v n xs := by
  obtain ⟨h1, h2⟩ := h
  refine ⟨h1, ?_⟩
  rcases h2 with h2 | ⟨g, cap, cur, hv, hg, hh, r⟩
  · exact .inl h2
  · exact .inr ⟨g, cap, cur, hv, hg, (hm.block g (lt_of_heap hh) (hs g (by rw [hv]; rfl))).trans hh, r⟩

theorem own_set {w : World} {base : Nat} {e t : TypeId} {size : Nat} {v : Value} {n : Nat} {xs : List Value} {b o : Nat} {c : Array Value} {fr : Nat × Nat} {u : Value} (h : w.ownsRow base e size v n xs) (hb : w.heap[b]? = some (.cells c t fr)) (ht : t ≠ e) : (w.setCell ⟨b, o, none⟩ u).ownsRow base e size v n xs :=
  own_mut h ((Mut.refl (· = b) w).setCell (p := ⟨b, o, none⟩) (fun _ => rfl) u) (fun k hk e => by subst e; exact own_ne h hb ht hk)

theorem info_way : (Try.prog.info? 74).map (fun i => (i.zero, i.size, i.bytes)) = some (some (.agg #[.int .i64 0, .int .i64 0, .int .i64 0, .int .i64 0]), 4, 32) := by kernel_rfl
theorem made_at {w : World} {base g size cap : Nat} {e : TypeId} (cur : Array Value) (hg : w.heap.size = g) (hb : base ≤ g) (hm : cap ≤ maxLen) (hs : cur.size = cap * size) :
    (w.alloc (.cells cur e)).ownsRow base e size (.slice (some ⟨g, 0, none⟩) 0 cap) 0 [] := by
  subst hg; exact World.ownsRow_made w cur cap hb hm hs
theorem mk_ways (n : Nat) (hn : n ≤ 1000000) : ∃ MC : Array Value, MC.size = n * 4 ∧ ∀ w : World, (Instr.makeSlice 71 (.int .i64 0) (.int .i64 (n : Int))).run Try.prog w = .ok (.slice (some ⟨w.heap.size, 0, none⟩) 0 n) (w.alloc (.cells MC 74)) := by
  obtain ⟨i0, hi0, hz0, hz1, hz2⟩ := info_parts info_way
  refine ⟨madeCells (Value.agg #[.int .i64 0, .int .i64 0, .int .i64 0, .int .i64 0]).cells (n * 4), size_madeCells _ _, fun w => ?_⟩
  have h := run_makeSlice (P := Try.prog) w 71 74 i0 (.agg #[.int .i64 0, .int .i64 0, .int .i64 0, .int .i64 0]) Try.underlying71 hi0 hz0 .i64 .i64 0 (n : Int) (by omega) (by omega) (by rw [hz1]; omega) (by rw [hz2]; omega) (by omega)
  rw [h, hz1]
  rfl
def wcs (sx sy : Int) (P : Nat → Pth) (V : Nat → Vis) : Nat → List Value
  | 0 => []
  | k + 1 => wcs sx sy P V k ++ [.int .i64 (hdX sx P V k), .int .i64 (hdY sy P V k), .int .i64 (bX P (V k)), .int .i64 (bY P (V k))]
theorem wcs_length (sx sy : Int) (P : Nat → Pth) (V : Nat → Vis) (k : Nat) : (wcs sx sy P V k).length = k * 4 := by
  induction k with
  | zero => rfl
  | succ k ih => simp [wcs, ih]; omega
theorem wcs_get (sx sy : Int) (P : Nat → Pth) (V : Nat → Vis) : ∀ m i, i < m → (wcs sx sy P V m)[i * 4]? = some (.int .i64 (hdX sx P V i)) ∧ (wcs sx sy P V m)[i * 4 + 1]? = some (.int .i64 (hdY sy P V i)) ∧ (wcs sx sy P V m)[i * 4 + 2]? = some (.int .i64 (bX P (V i))) ∧ (wcs sx sy P V m)[i * 4 + 3]? = some (.int .i64 (bY P (V i)))
  | 0, i, h => by omega
  | m + 1, i, h => by
    have hl := wcs_length sx sy P V m
    by_cases e : i = m
    · subst e
      simp only [wcs]
      refine ⟨?_, ?_, ?_, ?_⟩ <;> rw [List.getElem?_append_right (by omega)] <;> simp [hl]
    · obtain ⟨h0, h1, h2, h3⟩ := wcs_get sx sy P V m i (by omega)
      simp only [wcs]
      refine ⟨?_, ?_, ?_, ?_⟩ <;> rw [List.getElem?_append_left (by omega)] <;> assumption
/-- What a loop over visits knows of one. -/
theorem one_fit {m l : Nat} {P : Nat → Pth} {V : Nat → Vis} (h : AllFit m P l V) {k : Nat} (hk : k < l) :
    ∃ q : Nat, (V k).p = q ∧ q < m ∧ VFit (P q) (V k) ∧ V k = ⟨(q : Int), (V k).s, (V k).b⟩ ∧ (P q).X (enB (P q) (V k)) = bX P (V k) ∧ (P q).Y (enB (P q) (V k)) = bY P (V k) ∧ (P q).X (enE (P q) (V k)) = eX P (V k) ∧ (P q).Y (enE (P q) (V k)) = eY P (V k) := by
  obtain ⟨q, hq, hqm, hfit⟩ := h.q k hk
  have hpe : pthOf P (V k) = P q := by unfold pthOf; rw [hq]; rfl
  refine ⟨q, hq, hqm, hfit, by rw [← hq], ?_, ?_, ?_, ?_⟩
  · unfold bX; rw [hpe]
  · unfold bY; rw [hpe]
  · unfold eX; rw [hpe]
  · unfold eY; rw [hpe]
set_option maxRecDepth 100000 in
set_option maxHeartbeats 16000000 in
theorem waysTo_any (sx sy : Int) (a : Option Addr) (m c : Nat) (P : Nat → Pth) (ao : Option Addr) (l co : Nat) (V : Nat → Vis) (w : World) (hm : m ≤ 100) (hp : PathsR w a m P) (hn : ∀ i, i < m → (P i).n ≤ 100)
    (hl : l ≤ 100) (ho : VisR w ao l V) (hf : AllFit m P l V) :
    Calls Try.prog 36 #[.agg #[.int .i64 sx, .int .i64 sy], .slice a m c, .slice ao l co] w fun e w' => ∃ g cw, e = .returned (.slice (some ⟨g, 0, none⟩) l cw) ∧ w'.ownsRow w.heap.size 74 4 (.slice (some ⟨g, 0, none⟩) l cw) l (wcs sx sy P V l) ∧ g < w'.heap.size ∧ Below w.heap.size w w' := by
  obtain ⟨i0, hi0, hz0, hz1, hz2⟩ := info_parts info_way
  obtain ⟨MC, hMC, hmk⟩ := mk_ways l (by omega)
  have HP := Lib.hid hp
  have HN := Lib.hid hn
  have HO := Lib.hid ho
  have HF := Lib.hid hf
  clear hp hn ho hf
  go_enter Try.func36, Try.ntmps36
  go_wp2_with (fail)
  have hown0 : (((w.alloc (.cells #[.int .i64 sx, .int .i64 sy] 27)).alloc (.cells MC 74)).alloc (.cells #[.int .i64 sx, .int .i64 sy] 27)).ownsRow (w.heap.size + 1) 74 4 (.slice (some ⟨w.heap.size + 1, 0, none⟩) 0 l) 0 [] :=
    (made_at (w := w.alloc (.cells #[.int .i64 sx, .int .i64 sy] 27)) MC (by simp) (Nat.le_refl _) (by unfold maxLen; omega) hMC).alloc _
  have hh0 : (((w.alloc (.cells #[.int .i64 sx, .int .i64 sy] 27)).alloc (.cells MC 74)).alloc (.cells #[.int .i64 sx, .int .i64 sy] 27)).heap[w.heap.size + 1 + 1]? = some (.cells #[.int .i64 sx, .int .i64 sy] 27 (0, 0)) := heap_new (by simp)
  have hb0 : Below w.heap.size w (((w.alloc (.cells #[.int .i64 sx, .int .i64 sy] 27)).alloc (.cells MC 74)).alloc (.cells #[.int .i64 sx, .int .i64 sy] 27)) := (by repeat (first | exact Below.refl _ _ | assumption | refine Below.drew ?_ | refine bdrewN ?_ _ | refine Below.setCell ?_ (by first | omega | (simp <;> omega)) _ | refine Below.alloc ?_ (by first | omega | (simp <;> omega)) _))
  generalize (((w.alloc (.cells #[.int .i64 sx, .int .i64 sy] 27)).alloc (.cells MC 74)).alloc (.cells #[.int .i64 sx, .int .i64 sy] 27)) = w0 at *
  have HM := Lib.hid hmk
  clear hmk
  go_loopw [7, 19] (fun ws i wr => ∃ k g cw, k ≤ l ∧ ws = .slice (some ⟨g, 0, none⟩) k cw ∧ i = .int .i64 k ∧ g < wr.heap.size ∧ wr.ownsRow (w.heap.size + 1) 74 4 (.slice (some ⟨g, 0, none⟩) k cw) k (wcs sx sy P V k) ∧ wr.heap[w.heap.size + 1 + 1]? = some (.cells #[.int .i64 (hdX sx P V k), .int .i64 (hdY sy P V k)] 27 (0, 0)) ∧ Below w.heap.size w wr) (fun _ i _ => l - (intOf i).toNat)
  case atStart => exact ⟨0, _, _, by omega, rfl, rfl, (hown0.lt _ rfl).2, hown0, hh0, hb0⟩
  case round =>
    clear hown0 hh0 hb0
    obtain ⟨k, g, cw, hk, rfl, rfl, hgl, hown, hh, hbel⟩ := hrel
    have hsz := hbel.size
    have HH := Lib.hid hh
    have HB := Lib.hid hbel
    have HW := Lib.hid hown
    have hlh := lt_of_heap hh
    clear hh hown
    by_cases hlt : k < l
    · rcases HO.out with h0 | ⟨b', off', rfl, hb', hd⟩
      · omega
      obtain ⟨d0, d1, d2⟩ := hd k hlt
      replace d0 := cellk hbel hb' d0
      replace d1 := cellk hbel hb' d1
      replace d2 := cellk hbel hb' d2
      have hbw : b' < wr.heap.size := by omega
      obtain ⟨q, hq, hqm, hfit, hVk, e1, e2, e3, e4⟩ := one_fit HF.out hlt
      rcases HP.out with h | ⟨b, off, rfl, hb, hdp⟩
      · omega
      obtain ⟨⟨t0, t1⟩, hpt⟩ := hdp q hqm
      have hnq := HN.out q hqm
      rw [hq] at d0
      obtain ⟨s, hs⟩ : ∃ s, (V k).s = s := ⟨_, rfl⟩
      obtain ⟨bk, hbk⟩ : ∃ bk, (V k).b = bk := ⟨_, rfl⟩
      rw [hs] at d1
      rw [hbk] at d2
      rw [hs, hbk] at hVk
      have HVK := Lib.hid hVk
      have EQS := Lib.hid (And.intro e1 (And.intro e2 (And.intro e3 e4)))
      have HQ := Lib.hid hq
      clear hq hs hbk hVk e1 e2 e3 e4 hd hdp hbel
      go_wp2_with (fail)
      change Code.wp _ _ _ _ (wr.alloc (.cells #[.int .i64 q, .int .i64 s, .bool bk] 34))
      have BV : Below wr.heap.size wr (wr.alloc (.cells #[.int .i64 q, .int .i64 s, .bool bk] 34)) := (by repeat (first | exact Below.refl _ _ | assumption | refine Below.drew ?_ | refine bdrewN ?_ _ | refine Below.setCell ?_ (by first | omega | (simp <;> omega)) _ | refine Below.alloc ?_ (by first | omega | (simp <;> omega)) _))
      have v0 : (wr.alloc (.cells #[.int .i64 q, .int .i64 s, .bool bk] 34)).cell? ⟨wr.heap.size, 0, none⟩ = some (.int .i64 q) := by simp [go_sem]
      have v1 : (wr.alloc (.cells #[.int .i64 q, .int .i64 s, .bool bk] 34)).cell? ⟨wr.heap.size, 1, none⟩ = some (.int .i64 s) := by simp [go_sem]
      have v2 : (wr.alloc (.cells #[.int .i64 q, .int .i64 s, .bool bk] 34)).cell? ⟨wr.heap.size, 2, none⟩ = some (.bool bk) := by simp [go_sem]
      have hvs : (wr.alloc (.cells #[.int .i64 q, .int .i64 s, .bool bk] 34)).heap.size = wr.heap.size + 1 := by simp
      generalize (wr.alloc (.cells #[.int .i64 q, .int .i64 s, .bool bk] 34)) = wY at *
      have HBY := Lib.hid (HB.out.trans (BV.mono hsz))
      have HPT := Lib.hid (hpt.kept HBY.out)
      have hbY : b < wY.heap.size := Nat.lt_of_lt_of_le hb HBY.out.size
      have hvY : wr.heap.size < wY.heap.size := by omega
      have hqi : (q : Int) < (m : Int) := by omega
      have HS0 : Hid (Sy wY wr.heap.size b (off + q * 2) q s bk (.slice (P q).a (P q).n (P q).c) (P q).k wY) := Lib.hid ⟨Below.refl _ _, hvY, hbY, v0, v1, v2, cellk HBY.out hb t0, cellk HBY.out hb t1⟩
      have HWY := Lib.hid (ownsRow_below HW.out BV)
      have HHY := Lib.hid (heap_keep BV HH.out)
      have hgY : g < wY.heap.size := by omega
      have BX : Hid (Below wY.heap.size wY wY) := Lib.hid (Below.refl _ _)
      have HVS := Lib.hid hvs
      clear d0 d1 d2 t0 t1 v0 v1 v2 hpt BV HW HH hvs
      go_cut [11, 12, 19] from 19 to 40 (fun u11 u12 u19 wx => u19 = .int .i64 k ∧ ∃ g h, u11 = .pointer (some ⟨g, 0, none⟩) ∧ u12 = .pointer (some ⟨h, 0, none⟩) ∧ wx.cell? ⟨g, 0, none⟩ = some (.int .i64 (bX P (V k))) ∧ wx.cell? ⟨g, 1, none⟩ = some (.int .i64 (bY P (V k))) ∧ wx.cell? ⟨h, 0, none⟩ = some (.int .i64 (eX P (V k))) ∧ wx.cell? ⟨h, 1, none⟩ = some (.int .i64 (eY P (V k))) ∧ wY.heap.size ≤ g ∧ wY.heap.size ≤ h ∧ Below wY.heap.size wY wx)
      case first =>
        refine wp_region_held_drew (S := Sy wY wr.heap.size b (off + q * 2) q s bk (.slice (P q).a (P q).n (P q).c) (P q).k) (by kernel_rfl) (HS0.out.next (Below.refl _ _).drew) (fun hHeld => ?_)
        refine tkH (by assumption) 0 (oi := ?_) (v := ?_) ?_ ?_ ?_ ?_ ?_ ?_ ?_ ?_; rotate_left 2; (simp only [gA, gB, gC]; exact rfl); kernel_rfl; kernel_rfl; kernel_rfl; exact fun _ _ _ h => h; rfl; (intro w' hSw; (obtain ⟨j0, j1, j2, j3, j4, j5, j6, j7⟩ := hSw);go_simp; with_reducible rfl); simp only [Act.put, pB, pC, pD]
        refine tkH (by assumption) 1 (oi := ?_) (v := ?_) ?_ ?_ ?_ ?_ ?_ ?_ ?_ ?_; rotate_left 2; (simp only [gA, gB, gC]; exact rfl); kernel_rfl; kernel_rfl; kernel_rfl; exact fun _ _ _ h => h; rfl; (intro w' hSw; (obtain ⟨j0, j1, j2, j3, j4, j5, j6, j7⟩ := hSw);go_simp; with_reducible rfl); simp only [Act.put, pB, pC, pD]
        refine tkH (by assumption) 2 (oi := ?_) (v := ?_) ?_ ?_ ?_ ?_ ?_ ?_ ?_ ?_; rotate_left 2; (simp only [gA, gB, gC]; exact rfl); kernel_rfl; kernel_rfl; kernel_rfl; exact fun _ _ _ h => h; rfl; (intro w' hSw; (obtain ⟨j0, j1, j2, j3, j4, j5, j6, j7⟩ := hSw);go_simp; with_reducible rfl); simp only [Act.put, pB, pC, pD]
        refine tkH (by assumption) 3 (oi := ?_) (v := ?_) ?_ ?_ ?_ ?_ ?_ ?_ ?_ ?_; rotate_left 2; (simp only [gA, gB, gC]; exact rfl); kernel_rfl; kernel_rfl; kernel_rfl; exact fun _ _ _ h => h; rfl; (intro w' hSw; (obtain ⟨j0, j1, j2, j3, j4, j5, j6, j7⟩ := hSw);go_simp; with_reducible rfl); simp only [Act.put, pB, pC, pD]
        refine tkH (by assumption) 4 (oi := ?_) (v := ?_) ?_ ?_ ?_ ?_ ?_ ?_ ?_ ?_; rotate_left 2; (simp only [gA, gB, gC]; exact rfl); kernel_rfl; kernel_rfl; kernel_rfl; exact fun _ _ _ h => h; rfl; (intro w' hSw; (obtain ⟨j0, j1, j2, j3, j4, j5, j6, j7⟩ := hSw);go_simp; with_reducible rfl); simp only [Act.put, pB, pC, pD]
        refine tkH (by assumption) 5 (oi := ?_) (v := ?_) ?_ ?_ ?_ ?_ ?_ ?_ ?_ ?_; rotate_left 2; (simp only [gA, gB, gC]; exact rfl); kernel_rfl; kernel_rfl; kernel_rfl; exact fun _ _ _ h => h; rfl; (intro w' hSw; (obtain ⟨j0, j1, j2, j3, j4, j5, j6, j7⟩ := hSw);go_simp; with_reducible rfl); simp only [Act.put, pB, pC, pD]
        refine wpAnyH_ready (rs := [6, 10, 11]) (by kernel_rfl) (by simp) ?_
        refine coH 6 (oi := ?_) ?_ ?_ (fun K hK => ?_) ?_; rotate_left; (simp only [gA, gB, gC]; exact rfl); rfl
        · go_wp2_with (fail)
          have hE := ends_any (P q) (V k) wY.drew ((HPT.out.kept BX.out).kept (Below.refl _ _).drew) hnq hfit
          rw [EQS.out.1, EQS.out.2.1, EQS.out.2.2.1, EQS.out.2.2.2, show (V k).v = .agg #[.int .i64 (q : Int), .int .i64 s, .bool bk] by rw [HVK.out]; rfl] at hE
          refine hE.mono ?_
          rintro e wN ⟨rfl, hb⟩
          clear hE
          unfold two
          replace hb := undrew' hb
          have BX := Lib.hid (BX.out.trans (hb.mono BX.out.size))
          refine hK.out _ _ (HS0.out.next BX.out) (fun hHeldN => ?_)
          clear hK K hHeld hb
          have hHeld := hHeldN
          clear hHeldN
          try simp only [Act.put, pB, pC, pD]
          refine tkH (by assumption) 7 (oi := ?_) (v := ?_) ?_ ?_ ?_ ?_ ?_ ?_ ?_ ?_; rotate_left 2; (simp only [gA, gB, gC]; exact rfl); kernel_rfl; kernel_rfl; kernel_rfl; exact fun _ _ _ h => h; rfl; (intro w' hSw; (try dsimp only at hSw); go_simp; with_reducible rfl); simp only [Act.put, pB, pC, pD]
          refine tkH (by assumption) 8 (oi := ?_) (v := ?_) ?_ ?_ ?_ ?_ ?_ ?_ ?_ ?_; rotate_left 2; (simp only [gA, gB, gC]; exact rfl); kernel_rfl; kernel_rfl; kernel_rfl; exact fun _ _ _ h => h; rfl; (intro w' hSw; (try dsimp only at hSw); go_simp; with_reducible rfl); simp only [Act.put, pB, pC, pD]
          refine tkH (by assumption) 9 (oi := ?_) (v := ?_) ?_ ?_ ?_ ?_ ?_ ?_ ?_ ?_; rotate_left 2; (simp only [gA, gB, gC]; exact rfl); kernel_rfl; kernel_rfl; kernel_rfl; exact fun _ _ _ h => h; rfl; (intro w' hSw; (try dsimp only at hSw); go_simp; with_reducible rfl); simp only [Act.put, pB, pC, pD]
          refine wpAnyH_ready (rs := [10, 11]) (by kernel_rfl) (by simp) ?_
          refine coH 10 (oi := ?_) ?_ ?_ (fun K hK => ?_) ?_; rotate_left; (simp only [gA, gB, gC]; exact rfl); rfl
          · go_wp2_with (fail)
            have hb : Below wN.heap.size wN (wN.alloc (.cells #[.int .i64 0, .int .i64 0] 27)) := (Below.refl _ _).alloc (Nat.le_refl _) _
            have c80 : (wN.alloc (.cells #[.int .i64 0, .int .i64 0] 27)).cell? ⟨wN.heap.size, 0, none⟩ = some (.int .i64 0) := by simp [go_sem]
            have f80 : (wN.alloc (.cells #[.int .i64 0, .int .i64 0] 27)).frozen? ⟨wN.heap.size, 0, none⟩ = false := by simp [go_sem]
            have c81 : (wN.alloc (.cells #[.int .i64 0, .int .i64 0] 27)).cell? ⟨wN.heap.size, 1, none⟩ = some (.int .i64 0) := by simp [go_sem]
            have f81 : (wN.alloc (.cells #[.int .i64 0, .int .i64 0] 27)).frozen? ⟨wN.heap.size, 1, none⟩ = false := by simp [go_sem]
            have l8 : wN.heap.size < (wN.alloc (.cells #[.int .i64 0, .int .i64 0] 27)).heap.size := by simp
            have b8w : wY.heap.size ≤ wN.heap.size := BX.out.size
            have BX := Lib.hid (BX.out.trans (hb.mono BX.out.size))
            refine hK.out _ _ (HS0.out.next (by first | exact BX.out | exact BX.out.drew)) (fun hHeldN => ?_)
            clear hK K hHeld hb
            have hHeld := hHeldN
            clear hHeldN
            try simp only [Act.put, pB, pC, pD]
            generalize (wN.alloc (.cells #[.int .i64 0, .int .i64 0] 27)) = W2 at *
            obtain ⟨g8, hg⟩ : ∃ g, g = wN.heap.size := ⟨_, rfl⟩
            rw [← hg] at c80 c81 f80 f81 l8  ⊢
            have b8 : wY.heap.size ≤ g8 := by omega
            clear hg b8w
            refine wpAnyH_ready (rs := [11]) (by kernel_rfl) (by simp) ?_
            refine coH 11 (oi := ?_) ?_ ?_ (fun K hK => ?_) ?_; rotate_left; (simp only [gA, gB, gC]; exact rfl); rfl
            · go_wp2_with (fail)
              have hb : Below W2.heap.size W2 (W2.alloc (.cells #[.int .i64 0, .int .i64 0] 27)) := (Below.refl _ _).alloc (Nat.le_refl _) _
              have c90 : (W2.alloc (.cells #[.int .i64 0, .int .i64 0] 27)).cell? ⟨W2.heap.size, 0, none⟩ = some (.int .i64 0) := by simp [go_sem]
              have f90 : (W2.alloc (.cells #[.int .i64 0, .int .i64 0] 27)).frozen? ⟨W2.heap.size, 0, none⟩ = false := by simp [go_sem]
              have c91 : (W2.alloc (.cells #[.int .i64 0, .int .i64 0] 27)).cell? ⟨W2.heap.size, 1, none⟩ = some (.int .i64 0) := by simp [go_sem]
              have f91 : (W2.alloc (.cells #[.int .i64 0, .int .i64 0] 27)).frozen? ⟨W2.heap.size, 1, none⟩ = false := by simp [go_sem]
              have l9 : W2.heap.size < (W2.alloc (.cells #[.int .i64 0, .int .i64 0] 27)).heap.size := by simp
              have b9w : wY.heap.size ≤ W2.heap.size := BX.out.size
              have n98 : W2.heap.size ≠ g8 := by omega
              have BX := Lib.hid (BX.out.trans (hb.mono BX.out.size))
              replace c80 := cellk hb l8 c80
              replace f80 := (hb.frozen (p := ⟨g8, 0, none⟩) l8).trans f80
              replace c81 := cellk hb l8 c81
              replace f81 := (hb.frozen (p := ⟨g8, 1, none⟩) l8).trans f81
              replace l8 := Nat.lt_of_lt_of_le l8 hb.size
              refine hK.out _ _ (HS0.out.next (by first | exact BX.out | exact BX.out.drew)) (fun hHeldN => ?_)
              clear hK K hHeld hb
              have hHeld := hHeldN
              clear hHeldN
              try simp only [Act.put, pB, pC, pD]
              generalize (W2.alloc (.cells #[.int .i64 0, .int .i64 0] 27)) = W3 at *
              obtain ⟨g9, hg⟩ : ∃ g, g = W2.heap.size := ⟨_, rfl⟩
              rw [← hg] at c90 c91 f90 f91 l9 n98 ⊢
              have b9 : wY.heap.size ≤ g9 := by omega
              clear hg b9w
              refine onH 12 (oi := ?_) (by kernel_rfl) ?_ ?_ (fun K hK => ?_); rotate_left; (simp only [gA, gB, gC]; exact rfl); rfl
              go_wp2_with (fail)
              refine hK.out _ _ (HS0.out.next (((BX.out.setCell (p := ⟨g8, 0, none⟩) b8 _).setCell (p := ⟨g8, 1, none⟩) b8 _))) (fun hHeldN => ?_)
              clear hK K hHeld
              have hHeld := hHeldN
              clear hHeldN
              try simp only [Act.put, pB, pC, pD]
              refine onH 13 (oi := ?_) (by kernel_rfl) ?_ ?_ (fun K hK => ?_); rotate_left; (simp only [gA, gB, gC]; exact rfl); rfl
              go_wp2_with (fail)
              refine hK.out _ _ (HS0.out.next ?_) (fun hHeldN => ?_)
              · exact ((((BX.out.setCell (p := ⟨g8, 0, none⟩) b8 _).setCell (p := ⟨g8, 1, none⟩) b8 _).setCell (p := ⟨g9, 0, none⟩) b9 _).setCell (p := ⟨g9, 1, none⟩) b9 _)
              clear hK K hHeld
              try simp only [Act.put, pB, pC, pD]
              refine wpAnyH_done (by kernel_rfl) ?_ _
              clear hHeldN
              have i0 := is_some c80
              have i1 := is_some c81
              have i2 := is_some c90
              have i3 := is_some c91
              have hne : g8 ≠ g9 := by omega
              obtain ⟨k0, k1, k2, k3⟩ := set22 hne i0 i1 i2 i3 rfl
              go_wp2_with (fail)
              go_meet
              exact ⟨rfl, _, _, rfl, rfl, k0, k1, k2, k3, b8, b9, ((((BX.out.setCell (p := ⟨g8, 0, none⟩) b8 _).setCell (p := ⟨g8, 1, none⟩) b8 _).setCell (p := ⟨g9, 0, none⟩) b9 _).setCell (p := ⟨g9, 1, none⟩) b9 _)⟩
            exact AllReadyH.nil
          refine coH 11 (oi := ?_) ?_ ?_ (fun K hK => ?_) ?_; rotate_left; (simp only [gA, gB, gC]; exact rfl); rfl
          · go_wp2_with (fail)
            have hb : Below wN.heap.size wN (wN.alloc (.cells #[.int .i64 0, .int .i64 0] 27)) := (Below.refl _ _).alloc (Nat.le_refl _) _
            have c90 : (wN.alloc (.cells #[.int .i64 0, .int .i64 0] 27)).cell? ⟨wN.heap.size, 0, none⟩ = some (.int .i64 0) := by simp [go_sem]
            have f90 : (wN.alloc (.cells #[.int .i64 0, .int .i64 0] 27)).frozen? ⟨wN.heap.size, 0, none⟩ = false := by simp [go_sem]
            have c91 : (wN.alloc (.cells #[.int .i64 0, .int .i64 0] 27)).cell? ⟨wN.heap.size, 1, none⟩ = some (.int .i64 0) := by simp [go_sem]
            have f91 : (wN.alloc (.cells #[.int .i64 0, .int .i64 0] 27)).frozen? ⟨wN.heap.size, 1, none⟩ = false := by simp [go_sem]
            have l9 : wN.heap.size < (wN.alloc (.cells #[.int .i64 0, .int .i64 0] 27)).heap.size := by simp
            have b9w : wY.heap.size ≤ wN.heap.size := BX.out.size
            have BX := Lib.hid (BX.out.trans (hb.mono BX.out.size))
            refine hK.out _ _ (HS0.out.next (by first | exact BX.out | exact BX.out.drew)) (fun hHeldN => ?_)
            clear hK K hHeld hb
            have hHeld := hHeldN
            clear hHeldN
            try simp only [Act.put, pB, pC, pD]
            generalize (wN.alloc (.cells #[.int .i64 0, .int .i64 0] 27)) = W4 at *
            obtain ⟨g9, hg⟩ : ∃ g, g = wN.heap.size := ⟨_, rfl⟩
            rw [← hg] at c90 c91 f90 f91 l9  ⊢
            have b9 : wY.heap.size ≤ g9 := by omega
            clear hg b9w
            refine wpAnyH_ready (rs := [10]) (by kernel_rfl) (by simp) ?_
            refine coH 10 (oi := ?_) ?_ ?_ (fun K hK => ?_) ?_; rotate_left; (simp only [gA, gB, gC]; exact rfl); rfl
            · go_wp2_with (fail)
              have hb : Below W4.heap.size W4 (W4.alloc (.cells #[.int .i64 0, .int .i64 0] 27)) := (Below.refl _ _).alloc (Nat.le_refl _) _
              have c80 : (W4.alloc (.cells #[.int .i64 0, .int .i64 0] 27)).cell? ⟨W4.heap.size, 0, none⟩ = some (.int .i64 0) := by simp [go_sem]
              have f80 : (W4.alloc (.cells #[.int .i64 0, .int .i64 0] 27)).frozen? ⟨W4.heap.size, 0, none⟩ = false := by simp [go_sem]
              have c81 : (W4.alloc (.cells #[.int .i64 0, .int .i64 0] 27)).cell? ⟨W4.heap.size, 1, none⟩ = some (.int .i64 0) := by simp [go_sem]
              have f81 : (W4.alloc (.cells #[.int .i64 0, .int .i64 0] 27)).frozen? ⟨W4.heap.size, 1, none⟩ = false := by simp [go_sem]
              have l8 : W4.heap.size < (W4.alloc (.cells #[.int .i64 0, .int .i64 0] 27)).heap.size := by simp
              have b8w : wY.heap.size ≤ W4.heap.size := BX.out.size
              have n89 : W4.heap.size ≠ g9 := by omega
              have BX := Lib.hid (BX.out.trans (hb.mono BX.out.size))
              replace c90 := cellk hb l9 c90
              replace f90 := (hb.frozen (p := ⟨g9, 0, none⟩) l9).trans f90
              replace c91 := cellk hb l9 c91
              replace f91 := (hb.frozen (p := ⟨g9, 1, none⟩) l9).trans f91
              replace l9 := Nat.lt_of_lt_of_le l9 hb.size
              refine hK.out _ _ (HS0.out.next (by first | exact BX.out | exact BX.out.drew)) (fun hHeldN => ?_)
              clear hK K hHeld hb
              have hHeld := hHeldN
              clear hHeldN
              try simp only [Act.put, pB, pC, pD]
              generalize (W4.alloc (.cells #[.int .i64 0, .int .i64 0] 27)) = W5 at *
              obtain ⟨g8, hg⟩ : ∃ g, g = W4.heap.size := ⟨_, rfl⟩
              rw [← hg] at c80 c81 f80 f81 l8 n89 ⊢
              have b8 : wY.heap.size ≤ g8 := by omega
              clear hg b8w
              refine onH 12 (oi := ?_) (by kernel_rfl) ?_ ?_ (fun K hK => ?_); rotate_left; (simp only [gA, gB, gC]; exact rfl); rfl
              go_wp2_with (fail)
              refine hK.out _ _ (HS0.out.next (((BX.out.setCell (p := ⟨g8, 0, none⟩) b8 _).setCell (p := ⟨g8, 1, none⟩) b8 _))) (fun hHeldN => ?_)
              clear hK K hHeld
              have hHeld := hHeldN
              clear hHeldN
              try simp only [Act.put, pB, pC, pD]
              refine onH 13 (oi := ?_) (by kernel_rfl) ?_ ?_ (fun K hK => ?_); rotate_left; (simp only [gA, gB, gC]; exact rfl); rfl
              go_wp2_with (fail)
              refine hK.out _ _ (HS0.out.next ?_) (fun hHeldN => ?_)
              · exact ((((BX.out.setCell (p := ⟨g8, 0, none⟩) b8 _).setCell (p := ⟨g8, 1, none⟩) b8 _).setCell (p := ⟨g9, 0, none⟩) b9 _).setCell (p := ⟨g9, 1, none⟩) b9 _)
              clear hK K hHeld
              try simp only [Act.put, pB, pC, pD]
              refine wpAnyH_done (by kernel_rfl) ?_ _
              clear hHeldN
              have i0 := is_some c80
              have i1 := is_some c81
              have i2 := is_some c90
              have i3 := is_some c91
              have hne : g8 ≠ g9 := by omega
              obtain ⟨k0, k1, k2, k3⟩ := set22 hne i0 i1 i2 i3 rfl
              go_wp2_with (fail)
              go_meet
              exact ⟨rfl, _, _, rfl, rfl, k0, k1, k2, k3, b8, b9, ((((BX.out.setCell (p := ⟨g8, 0, none⟩) b8 _).setCell (p := ⟨g8, 1, none⟩) b8 _).setCell (p := ⟨g9, 0, none⟩) b9 _).setCell (p := ⟨g9, 1, none⟩) b9 _)⟩
            exact AllReadyH.nil
          exact AllReadyH.nil
        refine coH 10 (oi := ?_) ?_ ?_ (fun K hK => ?_) ?_; rotate_left; (simp only [gA, gB, gC]; exact rfl); rfl
        · go_wp2_with (fail)
          have hb : Below wY.heap.size wY (wY.alloc (.cells #[.int .i64 0, .int .i64 0] 27)) := (Below.refl _ _).alloc (Nat.le_refl _) _
          have c80 : (wY.alloc (.cells #[.int .i64 0, .int .i64 0] 27)).cell? ⟨wY.heap.size, 0, none⟩ = some (.int .i64 0) := by simp [go_sem]
          have f80 : (wY.alloc (.cells #[.int .i64 0, .int .i64 0] 27)).frozen? ⟨wY.heap.size, 0, none⟩ = false := by simp [go_sem]
          have c81 : (wY.alloc (.cells #[.int .i64 0, .int .i64 0] 27)).cell? ⟨wY.heap.size, 1, none⟩ = some (.int .i64 0) := by simp [go_sem]
          have f81 : (wY.alloc (.cells #[.int .i64 0, .int .i64 0] 27)).frozen? ⟨wY.heap.size, 1, none⟩ = false := by simp [go_sem]
          have l8 : wY.heap.size < (wY.alloc (.cells #[.int .i64 0, .int .i64 0] 27)).heap.size := by simp
          have b8w : wY.heap.size ≤ wY.heap.size := BX.out.size
          have BX := Lib.hid (BX.out.trans (hb.mono BX.out.size))
          refine hK.out _ _ (HS0.out.next (by first | exact BX.out | exact BX.out.drew)) (fun hHeldN => ?_)
          clear hK K hHeld hb
          have hHeld := hHeldN
          clear hHeldN
          try simp only [Act.put, pB, pC, pD]
          generalize (wY.alloc (.cells #[.int .i64 0, .int .i64 0] 27)) = W6 at *
          obtain ⟨g8, hg⟩ : ∃ g, g = wY.heap.size := ⟨_, rfl⟩
          rw [← hg] at c80 c81 f80 f81 l8  ⊢
          have b8 : wY.heap.size ≤ g8 := by omega
          clear hg b8w
          refine wpAnyH_ready (rs := [6, 11]) (by kernel_rfl) (by simp) ?_
          refine coH 6 (oi := ?_) ?_ ?_ (fun K hK => ?_) ?_; rotate_left; (simp only [gA, gB, gC]; exact rfl); rfl
          · go_wp2_with (fail)
            have hE := ends_any (P q) (V k) W6.drew ((HPT.out.kept BX.out).kept (Below.refl _ _).drew) hnq hfit
            rw [EQS.out.1, EQS.out.2.1, EQS.out.2.2.1, EQS.out.2.2.2, show (V k).v = .agg #[.int .i64 (q : Int), .int .i64 s, .bool bk] by rw [HVK.out]; rfl] at hE
            refine hE.mono ?_
            rintro e wN ⟨rfl, hb⟩
            clear hE
            unfold two
            replace hb := undrew' hb
            have BX := Lib.hid (BX.out.trans (hb.mono BX.out.size))
            replace c80 := cellk hb l8 c80
            replace f80 := (hb.frozen (p := ⟨g8, 0, none⟩) l8).trans f80
            replace c81 := cellk hb l8 c81
            replace f81 := (hb.frozen (p := ⟨g8, 1, none⟩) l8).trans f81
            replace l8 := Nat.lt_of_lt_of_le l8 hb.size
            refine hK.out _ _ (HS0.out.next BX.out) (fun hHeldN => ?_)
            clear hK K hHeld hb
            have hHeld := hHeldN
            clear hHeldN
            try simp only [Act.put, pB, pC, pD]
            refine tkH (by assumption) 7 (oi := ?_) (v := ?_) ?_ ?_ ?_ ?_ ?_ ?_ ?_ ?_; rotate_left 2; (simp only [gA, gB, gC]; exact rfl); kernel_rfl; kernel_rfl; kernel_rfl; exact fun _ _ _ h => h; rfl; (intro w' hSw; (try dsimp only at hSw); go_simp; with_reducible rfl); simp only [Act.put, pB, pC, pD]
            refine tkH (by assumption) 8 (oi := ?_) (v := ?_) ?_ ?_ ?_ ?_ ?_ ?_ ?_ ?_; rotate_left 2; (simp only [gA, gB, gC]; exact rfl); kernel_rfl; kernel_rfl; kernel_rfl; exact fun _ _ _ h => h; rfl; (intro w' hSw; (try dsimp only at hSw); go_simp; with_reducible rfl); simp only [Act.put, pB, pC, pD]
            refine tkH (by assumption) 9 (oi := ?_) (v := ?_) ?_ ?_ ?_ ?_ ?_ ?_ ?_ ?_; rotate_left 2; (simp only [gA, gB, gC]; exact rfl); kernel_rfl; kernel_rfl; kernel_rfl; exact fun _ _ _ h => h; rfl; (intro w' hSw; (try dsimp only at hSw); go_simp; with_reducible rfl); simp only [Act.put, pB, pC, pD]
            refine wpAnyH_ready (rs := [11]) (by kernel_rfl) (by simp) ?_
            refine coH 11 (oi := ?_) ?_ ?_ (fun K hK => ?_) ?_; rotate_left; (simp only [gA, gB, gC]; exact rfl); rfl
            · go_wp2_with (fail)
              have hb : Below wN.heap.size wN (wN.alloc (.cells #[.int .i64 0, .int .i64 0] 27)) := (Below.refl _ _).alloc (Nat.le_refl _) _
              have c90 : (wN.alloc (.cells #[.int .i64 0, .int .i64 0] 27)).cell? ⟨wN.heap.size, 0, none⟩ = some (.int .i64 0) := by simp [go_sem]
              have f90 : (wN.alloc (.cells #[.int .i64 0, .int .i64 0] 27)).frozen? ⟨wN.heap.size, 0, none⟩ = false := by simp [go_sem]
              have c91 : (wN.alloc (.cells #[.int .i64 0, .int .i64 0] 27)).cell? ⟨wN.heap.size, 1, none⟩ = some (.int .i64 0) := by simp [go_sem]
              have f91 : (wN.alloc (.cells #[.int .i64 0, .int .i64 0] 27)).frozen? ⟨wN.heap.size, 1, none⟩ = false := by simp [go_sem]
              have l9 : wN.heap.size < (wN.alloc (.cells #[.int .i64 0, .int .i64 0] 27)).heap.size := by simp
              have b9w : wY.heap.size ≤ wN.heap.size := BX.out.size
              have n98 : wN.heap.size ≠ g8 := by omega
              have BX := Lib.hid (BX.out.trans (hb.mono BX.out.size))
              replace c80 := cellk hb l8 c80
              replace f80 := (hb.frozen (p := ⟨g8, 0, none⟩) l8).trans f80
              replace c81 := cellk hb l8 c81
              replace f81 := (hb.frozen (p := ⟨g8, 1, none⟩) l8).trans f81
              replace l8 := Nat.lt_of_lt_of_le l8 hb.size
              refine hK.out _ _ (HS0.out.next (by first | exact BX.out | exact BX.out.drew)) (fun hHeldN => ?_)
              clear hK K hHeld hb
              have hHeld := hHeldN
              clear hHeldN
              try simp only [Act.put, pB, pC, pD]
              generalize (wN.alloc (.cells #[.int .i64 0, .int .i64 0] 27)) = W8 at *
              obtain ⟨g9, hg⟩ : ∃ g, g = wN.heap.size := ⟨_, rfl⟩
              rw [← hg] at c90 c91 f90 f91 l9 n98 ⊢
              have b9 : wY.heap.size ≤ g9 := by omega
              clear hg b9w
              refine onH 12 (oi := ?_) (by kernel_rfl) ?_ ?_ (fun K hK => ?_); rotate_left; (simp only [gA, gB, gC]; exact rfl); rfl
              go_wp2_with (fail)
              refine hK.out _ _ (HS0.out.next (((BX.out.setCell (p := ⟨g8, 0, none⟩) b8 _).setCell (p := ⟨g8, 1, none⟩) b8 _))) (fun hHeldN => ?_)
              clear hK K hHeld
              have hHeld := hHeldN
              clear hHeldN
              try simp only [Act.put, pB, pC, pD]
              refine onH 13 (oi := ?_) (by kernel_rfl) ?_ ?_ (fun K hK => ?_); rotate_left; (simp only [gA, gB, gC]; exact rfl); rfl
              go_wp2_with (fail)
              refine hK.out _ _ (HS0.out.next ?_) (fun hHeldN => ?_)
              · exact ((((BX.out.setCell (p := ⟨g8, 0, none⟩) b8 _).setCell (p := ⟨g8, 1, none⟩) b8 _).setCell (p := ⟨g9, 0, none⟩) b9 _).setCell (p := ⟨g9, 1, none⟩) b9 _)
              clear hK K hHeld
              try simp only [Act.put, pB, pC, pD]
              refine wpAnyH_done (by kernel_rfl) ?_ _
              clear hHeldN
              have i0 := is_some c80
              have i1 := is_some c81
              have i2 := is_some c90
              have i3 := is_some c91
              have hne : g8 ≠ g9 := by omega
              obtain ⟨k0, k1, k2, k3⟩ := set22 hne i0 i1 i2 i3 rfl
              go_wp2_with (fail)
              go_meet
              exact ⟨rfl, _, _, rfl, rfl, k0, k1, k2, k3, b8, b9, ((((BX.out.setCell (p := ⟨g8, 0, none⟩) b8 _).setCell (p := ⟨g8, 1, none⟩) b8 _).setCell (p := ⟨g9, 0, none⟩) b9 _).setCell (p := ⟨g9, 1, none⟩) b9 _)⟩
            exact AllReadyH.nil
          refine coH 11 (oi := ?_) ?_ ?_ (fun K hK => ?_) ?_; rotate_left; (simp only [gA, gB, gC]; exact rfl); rfl
          · go_wp2_with (fail)
            have hb : Below W6.heap.size W6 (W6.alloc (.cells #[.int .i64 0, .int .i64 0] 27)) := (Below.refl _ _).alloc (Nat.le_refl _) _
            have c90 : (W6.alloc (.cells #[.int .i64 0, .int .i64 0] 27)).cell? ⟨W6.heap.size, 0, none⟩ = some (.int .i64 0) := by simp [go_sem]
            have f90 : (W6.alloc (.cells #[.int .i64 0, .int .i64 0] 27)).frozen? ⟨W6.heap.size, 0, none⟩ = false := by simp [go_sem]
            have c91 : (W6.alloc (.cells #[.int .i64 0, .int .i64 0] 27)).cell? ⟨W6.heap.size, 1, none⟩ = some (.int .i64 0) := by simp [go_sem]
            have f91 : (W6.alloc (.cells #[.int .i64 0, .int .i64 0] 27)).frozen? ⟨W6.heap.size, 1, none⟩ = false := by simp [go_sem]
            have l9 : W6.heap.size < (W6.alloc (.cells #[.int .i64 0, .int .i64 0] 27)).heap.size := by simp
            have b9w : wY.heap.size ≤ W6.heap.size := BX.out.size
            have n98 : W6.heap.size ≠ g8 := by omega
            have BX := Lib.hid (BX.out.trans (hb.mono BX.out.size))
            replace c80 := cellk hb l8 c80
            replace f80 := (hb.frozen (p := ⟨g8, 0, none⟩) l8).trans f80
            replace c81 := cellk hb l8 c81
            replace f81 := (hb.frozen (p := ⟨g8, 1, none⟩) l8).trans f81
            replace l8 := Nat.lt_of_lt_of_le l8 hb.size
            refine hK.out _ _ (HS0.out.next (by first | exact BX.out | exact BX.out.drew)) (fun hHeldN => ?_)
            clear hK K hHeld hb
            have hHeld := hHeldN
            clear hHeldN
            try simp only [Act.put, pB, pC, pD]
            generalize (W6.alloc (.cells #[.int .i64 0, .int .i64 0] 27)) = W9 at *
            obtain ⟨g9, hg⟩ : ∃ g, g = W6.heap.size := ⟨_, rfl⟩
            rw [← hg] at c90 c91 f90 f91 l9 n98 ⊢
            have b9 : wY.heap.size ≤ g9 := by omega
            clear hg b9w
            refine wpAnyH_ready (rs := [6]) (by kernel_rfl) (by simp) ?_
            refine coH 6 (oi := ?_) ?_ ?_ (fun K hK => ?_) ?_; rotate_left; (simp only [gA, gB, gC]; exact rfl); rfl
            · go_wp2_with (fail)
              have hE := ends_any (P q) (V k) W9.drew ((HPT.out.kept BX.out).kept (Below.refl _ _).drew) hnq hfit
              rw [EQS.out.1, EQS.out.2.1, EQS.out.2.2.1, EQS.out.2.2.2, show (V k).v = .agg #[.int .i64 (q : Int), .int .i64 s, .bool bk] by rw [HVK.out]; rfl] at hE
              refine hE.mono ?_
              rintro e wN ⟨rfl, hb⟩
              clear hE
              unfold two
              replace hb := undrew' hb
              have BX := Lib.hid (BX.out.trans (hb.mono BX.out.size))
              replace c80 := cellk hb l8 c80
              replace f80 := (hb.frozen (p := ⟨g8, 0, none⟩) l8).trans f80
              replace c81 := cellk hb l8 c81
              replace f81 := (hb.frozen (p := ⟨g8, 1, none⟩) l8).trans f81
              replace l8 := Nat.lt_of_lt_of_le l8 hb.size
              replace c90 := cellk hb l9 c90
              replace f90 := (hb.frozen (p := ⟨g9, 0, none⟩) l9).trans f90
              replace c91 := cellk hb l9 c91
              replace f91 := (hb.frozen (p := ⟨g9, 1, none⟩) l9).trans f91
              replace l9 := Nat.lt_of_lt_of_le l9 hb.size
              refine hK.out _ _ (HS0.out.next BX.out) (fun hHeldN => ?_)
              clear hK K hHeld hb
              have hHeld := hHeldN
              clear hHeldN
              try simp only [Act.put, pB, pC, pD]
              refine tkH (by assumption) 7 (oi := ?_) (v := ?_) ?_ ?_ ?_ ?_ ?_ ?_ ?_ ?_; rotate_left 2; (simp only [gA, gB, gC]; exact rfl); kernel_rfl; kernel_rfl; kernel_rfl; exact fun _ _ _ h => h; rfl; (intro w' hSw; (try dsimp only at hSw); go_simp; with_reducible rfl); simp only [Act.put, pB, pC, pD]
              refine tkH (by assumption) 8 (oi := ?_) (v := ?_) ?_ ?_ ?_ ?_ ?_ ?_ ?_ ?_; rotate_left 2; (simp only [gA, gB, gC]; exact rfl); kernel_rfl; kernel_rfl; kernel_rfl; exact fun _ _ _ h => h; rfl; (intro w' hSw; (try dsimp only at hSw); go_simp; with_reducible rfl); simp only [Act.put, pB, pC, pD]
              refine tkH (by assumption) 9 (oi := ?_) (v := ?_) ?_ ?_ ?_ ?_ ?_ ?_ ?_ ?_; rotate_left 2; (simp only [gA, gB, gC]; exact rfl); kernel_rfl; kernel_rfl; kernel_rfl; exact fun _ _ _ h => h; rfl; (intro w' hSw; (try dsimp only at hSw); go_simp; with_reducible rfl); simp only [Act.put, pB, pC, pD]
              refine onH 12 (oi := ?_) (by kernel_rfl) ?_ ?_ (fun K hK => ?_); rotate_left; (simp only [gA, gB, gC]; exact rfl); rfl
              go_wp2_with (fail)
              refine hK.out _ _ (HS0.out.next (((BX.out.setCell (p := ⟨g8, 0, none⟩) b8 _).setCell (p := ⟨g8, 1, none⟩) b8 _))) (fun hHeldN => ?_)
              clear hK K hHeld
              have hHeld := hHeldN
              clear hHeldN
              try simp only [Act.put, pB, pC, pD]
              refine onH 13 (oi := ?_) (by kernel_rfl) ?_ ?_ (fun K hK => ?_); rotate_left; (simp only [gA, gB, gC]; exact rfl); rfl
              go_wp2_with (fail)
              refine hK.out _ _ (HS0.out.next ?_) (fun hHeldN => ?_)
              · exact ((((BX.out.setCell (p := ⟨g8, 0, none⟩) b8 _).setCell (p := ⟨g8, 1, none⟩) b8 _).setCell (p := ⟨g9, 0, none⟩) b9 _).setCell (p := ⟨g9, 1, none⟩) b9 _)
              clear hK K hHeld
              try simp only [Act.put, pB, pC, pD]
              refine wpAnyH_done (by kernel_rfl) ?_ _
              clear hHeldN
              have i0 := is_some c80
              have i1 := is_some c81
              have i2 := is_some c90
              have i3 := is_some c91
              have hne : g8 ≠ g9 := by omega
              obtain ⟨k0, k1, k2, k3⟩ := set22 hne i0 i1 i2 i3 rfl
              go_wp2_with (fail)
              go_meet
              exact ⟨rfl, _, _, rfl, rfl, k0, k1, k2, k3, b8, b9, ((((BX.out.setCell (p := ⟨g8, 0, none⟩) b8 _).setCell (p := ⟨g8, 1, none⟩) b8 _).setCell (p := ⟨g9, 0, none⟩) b9 _).setCell (p := ⟨g9, 1, none⟩) b9 _)⟩
            exact AllReadyH.nil
          exact AllReadyH.nil
        refine coH 11 (oi := ?_) ?_ ?_ (fun K hK => ?_) ?_; rotate_left; (simp only [gA, gB, gC]; exact rfl); rfl
        · go_wp2_with (fail)
          have hb : Below wY.heap.size wY (wY.alloc (.cells #[.int .i64 0, .int .i64 0] 27)) := (Below.refl _ _).alloc (Nat.le_refl _) _
          have c90 : (wY.alloc (.cells #[.int .i64 0, .int .i64 0] 27)).cell? ⟨wY.heap.size, 0, none⟩ = some (.int .i64 0) := by simp [go_sem]
          have f90 : (wY.alloc (.cells #[.int .i64 0, .int .i64 0] 27)).frozen? ⟨wY.heap.size, 0, none⟩ = false := by simp [go_sem]
          have c91 : (wY.alloc (.cells #[.int .i64 0, .int .i64 0] 27)).cell? ⟨wY.heap.size, 1, none⟩ = some (.int .i64 0) := by simp [go_sem]
          have f91 : (wY.alloc (.cells #[.int .i64 0, .int .i64 0] 27)).frozen? ⟨wY.heap.size, 1, none⟩ = false := by simp [go_sem]
          have l9 : wY.heap.size < (wY.alloc (.cells #[.int .i64 0, .int .i64 0] 27)).heap.size := by simp
          have b9w : wY.heap.size ≤ wY.heap.size := BX.out.size
          have BX := Lib.hid (BX.out.trans (hb.mono BX.out.size))
          refine hK.out _ _ (HS0.out.next (by first | exact BX.out | exact BX.out.drew)) (fun hHeldN => ?_)
          clear hK K hHeld hb
          have hHeld := hHeldN
          clear hHeldN
          try simp only [Act.put, pB, pC, pD]
          generalize (wY.alloc (.cells #[.int .i64 0, .int .i64 0] 27)) = W11 at *
          obtain ⟨g9, hg⟩ : ∃ g, g = wY.heap.size := ⟨_, rfl⟩
          rw [← hg] at c90 c91 f90 f91 l9  ⊢
          have b9 : wY.heap.size ≤ g9 := by omega
          clear hg b9w
          refine wpAnyH_ready (rs := [6, 10]) (by kernel_rfl) (by simp) ?_
          refine coH 6 (oi := ?_) ?_ ?_ (fun K hK => ?_) ?_; rotate_left; (simp only [gA, gB, gC]; exact rfl); rfl
          · go_wp2_with (fail)
            have hE := ends_any (P q) (V k) W11.drew ((HPT.out.kept BX.out).kept (Below.refl _ _).drew) hnq hfit
            rw [EQS.out.1, EQS.out.2.1, EQS.out.2.2.1, EQS.out.2.2.2, show (V k).v = .agg #[.int .i64 (q : Int), .int .i64 s, .bool bk] by rw [HVK.out]; rfl] at hE
            refine hE.mono ?_
            rintro e wN ⟨rfl, hb⟩
            clear hE
            unfold two
            replace hb := undrew' hb
            have BX := Lib.hid (BX.out.trans (hb.mono BX.out.size))
            replace c90 := cellk hb l9 c90
            replace f90 := (hb.frozen (p := ⟨g9, 0, none⟩) l9).trans f90
            replace c91 := cellk hb l9 c91
            replace f91 := (hb.frozen (p := ⟨g9, 1, none⟩) l9).trans f91
            replace l9 := Nat.lt_of_lt_of_le l9 hb.size
            refine hK.out _ _ (HS0.out.next BX.out) (fun hHeldN => ?_)
            clear hK K hHeld hb
            have hHeld := hHeldN
            clear hHeldN
            try simp only [Act.put, pB, pC, pD]
            refine tkH (by assumption) 7 (oi := ?_) (v := ?_) ?_ ?_ ?_ ?_ ?_ ?_ ?_ ?_; rotate_left 2; (simp only [gA, gB, gC]; exact rfl); kernel_rfl; kernel_rfl; kernel_rfl; exact fun _ _ _ h => h; rfl; (intro w' hSw; (try dsimp only at hSw); go_simp; with_reducible rfl); simp only [Act.put, pB, pC, pD]
            refine tkH (by assumption) 8 (oi := ?_) (v := ?_) ?_ ?_ ?_ ?_ ?_ ?_ ?_ ?_; rotate_left 2; (simp only [gA, gB, gC]; exact rfl); kernel_rfl; kernel_rfl; kernel_rfl; exact fun _ _ _ h => h; rfl; (intro w' hSw; (try dsimp only at hSw); go_simp; with_reducible rfl); simp only [Act.put, pB, pC, pD]
            refine tkH (by assumption) 9 (oi := ?_) (v := ?_) ?_ ?_ ?_ ?_ ?_ ?_ ?_ ?_; rotate_left 2; (simp only [gA, gB, gC]; exact rfl); kernel_rfl; kernel_rfl; kernel_rfl; exact fun _ _ _ h => h; rfl; (intro w' hSw; (try dsimp only at hSw); go_simp; with_reducible rfl); simp only [Act.put, pB, pC, pD]
            refine wpAnyH_ready (rs := [10]) (by kernel_rfl) (by simp) ?_
            refine coH 10 (oi := ?_) ?_ ?_ (fun K hK => ?_) ?_; rotate_left; (simp only [gA, gB, gC]; exact rfl); rfl
            · go_wp2_with (fail)
              have hb : Below wN.heap.size wN (wN.alloc (.cells #[.int .i64 0, .int .i64 0] 27)) := (Below.refl _ _).alloc (Nat.le_refl _) _
              have c80 : (wN.alloc (.cells #[.int .i64 0, .int .i64 0] 27)).cell? ⟨wN.heap.size, 0, none⟩ = some (.int .i64 0) := by simp [go_sem]
              have f80 : (wN.alloc (.cells #[.int .i64 0, .int .i64 0] 27)).frozen? ⟨wN.heap.size, 0, none⟩ = false := by simp [go_sem]
              have c81 : (wN.alloc (.cells #[.int .i64 0, .int .i64 0] 27)).cell? ⟨wN.heap.size, 1, none⟩ = some (.int .i64 0) := by simp [go_sem]
              have f81 : (wN.alloc (.cells #[.int .i64 0, .int .i64 0] 27)).frozen? ⟨wN.heap.size, 1, none⟩ = false := by simp [go_sem]
              have l8 : wN.heap.size < (wN.alloc (.cells #[.int .i64 0, .int .i64 0] 27)).heap.size := by simp
              have b8w : wY.heap.size ≤ wN.heap.size := BX.out.size
              have n89 : wN.heap.size ≠ g9 := by omega
              have BX := Lib.hid (BX.out.trans (hb.mono BX.out.size))
              replace c90 := cellk hb l9 c90
              replace f90 := (hb.frozen (p := ⟨g9, 0, none⟩) l9).trans f90
              replace c91 := cellk hb l9 c91
              replace f91 := (hb.frozen (p := ⟨g9, 1, none⟩) l9).trans f91
              replace l9 := Nat.lt_of_lt_of_le l9 hb.size
              refine hK.out _ _ (HS0.out.next (by first | exact BX.out | exact BX.out.drew)) (fun hHeldN => ?_)
              clear hK K hHeld hb
              have hHeld := hHeldN
              clear hHeldN
              try simp only [Act.put, pB, pC, pD]
              generalize (wN.alloc (.cells #[.int .i64 0, .int .i64 0] 27)) = W13 at *
              obtain ⟨g8, hg⟩ : ∃ g, g = wN.heap.size := ⟨_, rfl⟩
              rw [← hg] at c80 c81 f80 f81 l8 n89 ⊢
              have b8 : wY.heap.size ≤ g8 := by omega
              clear hg b8w
              refine onH 12 (oi := ?_) (by kernel_rfl) ?_ ?_ (fun K hK => ?_); rotate_left; (simp only [gA, gB, gC]; exact rfl); rfl
              go_wp2_with (fail)
              refine hK.out _ _ (HS0.out.next (((BX.out.setCell (p := ⟨g8, 0, none⟩) b8 _).setCell (p := ⟨g8, 1, none⟩) b8 _))) (fun hHeldN => ?_)
              clear hK K hHeld
              have hHeld := hHeldN
              clear hHeldN
              try simp only [Act.put, pB, pC, pD]
              refine onH 13 (oi := ?_) (by kernel_rfl) ?_ ?_ (fun K hK => ?_); rotate_left; (simp only [gA, gB, gC]; exact rfl); rfl
              go_wp2_with (fail)
              refine hK.out _ _ (HS0.out.next ?_) (fun hHeldN => ?_)
              · exact ((((BX.out.setCell (p := ⟨g8, 0, none⟩) b8 _).setCell (p := ⟨g8, 1, none⟩) b8 _).setCell (p := ⟨g9, 0, none⟩) b9 _).setCell (p := ⟨g9, 1, none⟩) b9 _)
              clear hK K hHeld
              try simp only [Act.put, pB, pC, pD]
              refine wpAnyH_done (by kernel_rfl) ?_ _
              clear hHeldN
              have i0 := is_some c80
              have i1 := is_some c81
              have i2 := is_some c90
              have i3 := is_some c91
              have hne : g8 ≠ g9 := by omega
              obtain ⟨k0, k1, k2, k3⟩ := set22 hne i0 i1 i2 i3 rfl
              go_wp2_with (fail)
              go_meet
              exact ⟨rfl, _, _, rfl, rfl, k0, k1, k2, k3, b8, b9, ((((BX.out.setCell (p := ⟨g8, 0, none⟩) b8 _).setCell (p := ⟨g8, 1, none⟩) b8 _).setCell (p := ⟨g9, 0, none⟩) b9 _).setCell (p := ⟨g9, 1, none⟩) b9 _)⟩
            exact AllReadyH.nil
          refine coH 10 (oi := ?_) ?_ ?_ (fun K hK => ?_) ?_; rotate_left; (simp only [gA, gB, gC]; exact rfl); rfl
          · go_wp2_with (fail)
            have hb : Below W11.heap.size W11 (W11.alloc (.cells #[.int .i64 0, .int .i64 0] 27)) := (Below.refl _ _).alloc (Nat.le_refl _) _
            have c80 : (W11.alloc (.cells #[.int .i64 0, .int .i64 0] 27)).cell? ⟨W11.heap.size, 0, none⟩ = some (.int .i64 0) := by simp [go_sem]
            have f80 : (W11.alloc (.cells #[.int .i64 0, .int .i64 0] 27)).frozen? ⟨W11.heap.size, 0, none⟩ = false := by simp [go_sem]
            have c81 : (W11.alloc (.cells #[.int .i64 0, .int .i64 0] 27)).cell? ⟨W11.heap.size, 1, none⟩ = some (.int .i64 0) := by simp [go_sem]
            have f81 : (W11.alloc (.cells #[.int .i64 0, .int .i64 0] 27)).frozen? ⟨W11.heap.size, 1, none⟩ = false := by simp [go_sem]
            have l8 : W11.heap.size < (W11.alloc (.cells #[.int .i64 0, .int .i64 0] 27)).heap.size := by simp
            have b8w : wY.heap.size ≤ W11.heap.size := BX.out.size
            have n89 : W11.heap.size ≠ g9 := by omega
            have BX := Lib.hid (BX.out.trans (hb.mono BX.out.size))
            replace c90 := cellk hb l9 c90
            replace f90 := (hb.frozen (p := ⟨g9, 0, none⟩) l9).trans f90
            replace c91 := cellk hb l9 c91
            replace f91 := (hb.frozen (p := ⟨g9, 1, none⟩) l9).trans f91
            replace l9 := Nat.lt_of_lt_of_le l9 hb.size
            refine hK.out _ _ (HS0.out.next (by first | exact BX.out | exact BX.out.drew)) (fun hHeldN => ?_)
            clear hK K hHeld hb
            have hHeld := hHeldN
            clear hHeldN
            try simp only [Act.put, pB, pC, pD]
            generalize (W11.alloc (.cells #[.int .i64 0, .int .i64 0] 27)) = W14 at *
            obtain ⟨g8, hg⟩ : ∃ g, g = W11.heap.size := ⟨_, rfl⟩
            rw [← hg] at c80 c81 f80 f81 l8 n89 ⊢
            have b8 : wY.heap.size ≤ g8 := by omega
            clear hg b8w
            refine wpAnyH_ready (rs := [6]) (by kernel_rfl) (by simp) ?_
            refine coH 6 (oi := ?_) ?_ ?_ (fun K hK => ?_) ?_; rotate_left; (simp only [gA, gB, gC]; exact rfl); rfl
            · go_wp2_with (fail)
              have hE := ends_any (P q) (V k) W14.drew ((HPT.out.kept BX.out).kept (Below.refl _ _).drew) hnq hfit
              rw [EQS.out.1, EQS.out.2.1, EQS.out.2.2.1, EQS.out.2.2.2, show (V k).v = .agg #[.int .i64 (q : Int), .int .i64 s, .bool bk] by rw [HVK.out]; rfl] at hE
              refine hE.mono ?_
              rintro e wN ⟨rfl, hb⟩
              clear hE
              unfold two
              replace hb := undrew' hb
              have BX := Lib.hid (BX.out.trans (hb.mono BX.out.size))
              replace c90 := cellk hb l9 c90
              replace f90 := (hb.frozen (p := ⟨g9, 0, none⟩) l9).trans f90
              replace c91 := cellk hb l9 c91
              replace f91 := (hb.frozen (p := ⟨g9, 1, none⟩) l9).trans f91
              replace l9 := Nat.lt_of_lt_of_le l9 hb.size
              replace c80 := cellk hb l8 c80
              replace f80 := (hb.frozen (p := ⟨g8, 0, none⟩) l8).trans f80
              replace c81 := cellk hb l8 c81
              replace f81 := (hb.frozen (p := ⟨g8, 1, none⟩) l8).trans f81
              replace l8 := Nat.lt_of_lt_of_le l8 hb.size
              refine hK.out _ _ (HS0.out.next BX.out) (fun hHeldN => ?_)
              clear hK K hHeld hb
              have hHeld := hHeldN
              clear hHeldN
              try simp only [Act.put, pB, pC, pD]
              refine tkH (by assumption) 7 (oi := ?_) (v := ?_) ?_ ?_ ?_ ?_ ?_ ?_ ?_ ?_; rotate_left 2; (simp only [gA, gB, gC]; exact rfl); kernel_rfl; kernel_rfl; kernel_rfl; exact fun _ _ _ h => h; rfl; (intro w' hSw; (try dsimp only at hSw); go_simp; with_reducible rfl); simp only [Act.put, pB, pC, pD]
              refine tkH (by assumption) 8 (oi := ?_) (v := ?_) ?_ ?_ ?_ ?_ ?_ ?_ ?_ ?_; rotate_left 2; (simp only [gA, gB, gC]; exact rfl); kernel_rfl; kernel_rfl; kernel_rfl; exact fun _ _ _ h => h; rfl; (intro w' hSw; (try dsimp only at hSw); go_simp; with_reducible rfl); simp only [Act.put, pB, pC, pD]
              refine tkH (by assumption) 9 (oi := ?_) (v := ?_) ?_ ?_ ?_ ?_ ?_ ?_ ?_ ?_; rotate_left 2; (simp only [gA, gB, gC]; exact rfl); kernel_rfl; kernel_rfl; kernel_rfl; exact fun _ _ _ h => h; rfl; (intro w' hSw; (try dsimp only at hSw); go_simp; with_reducible rfl); simp only [Act.put, pB, pC, pD]
              refine onH 12 (oi := ?_) (by kernel_rfl) ?_ ?_ (fun K hK => ?_); rotate_left; (simp only [gA, gB, gC]; exact rfl); rfl
              go_wp2_with (fail)
              refine hK.out _ _ (HS0.out.next (((BX.out.setCell (p := ⟨g8, 0, none⟩) b8 _).setCell (p := ⟨g8, 1, none⟩) b8 _))) (fun hHeldN => ?_)
              clear hK K hHeld
              have hHeld := hHeldN
              clear hHeldN
              try simp only [Act.put, pB, pC, pD]
              refine onH 13 (oi := ?_) (by kernel_rfl) ?_ ?_ (fun K hK => ?_); rotate_left; (simp only [gA, gB, gC]; exact rfl); rfl
              go_wp2_with (fail)
              refine hK.out _ _ (HS0.out.next ?_) (fun hHeldN => ?_)
              · exact ((((BX.out.setCell (p := ⟨g8, 0, none⟩) b8 _).setCell (p := ⟨g8, 1, none⟩) b8 _).setCell (p := ⟨g9, 0, none⟩) b9 _).setCell (p := ⟨g9, 1, none⟩) b9 _)
              clear hK K hHeld
              try simp only [Act.put, pB, pC, pD]
              refine wpAnyH_done (by kernel_rfl) ?_ _
              clear hHeldN
              have i0 := is_some c80
              have i1 := is_some c81
              have i2 := is_some c90
              have i3 := is_some c91
              have hne : g8 ≠ g9 := by omega
              obtain ⟨k0, k1, k2, k3⟩ := set22 hne i0 i1 i2 i3 rfl
              go_wp2_with (fail)
              go_meet
              exact ⟨rfl, _, _, rfl, rfl, k0, k1, k2, k3, b8, b9, ((((BX.out.setCell (p := ⟨g8, 0, none⟩) b8 _).setCell (p := ⟨g8, 1, none⟩) b8 _).setCell (p := ⟨g9, 0, none⟩) b9 _).setCell (p := ⟨g9, 1, none⟩) b9 _)⟩
            exact AllReadyH.nil
          exact AllReadyH.nil
        exact AllReadyH.nil
      case rest =>
        obtain ⟨rfl, gb, ge, rfl, rfl, k0, k1, k2, k3, hgb, hge, hbc⟩ := hcut
        have HBC := Lib.hid (HBY.out.trans (hbc.mono HBY.out.size))
        have HWC := Lib.hid (ownsRow_below HWY.out hbc)
        have hhc := heap_keep hbc HHY.out
        have HHC := Lib.hid hhc
        have hlc := lt_of_heap hhc
        have m0 := cell_of hhc (i := 0) rfl
        have m1 := cell_of hhc (i := 1) rfl
        have hgc : g < wc.heap.size := Nat.lt_of_lt_of_le hgY hbc.size
        have hlb := cell_lt k0
        have hle := cell_lt k2
        dsimp only at hlb hle
        have hvs := HVS.out
        have HX1 := Lib.hid (show hdX sx P V (k + 1) = eX P (V k) from rfl)
        have HY1 := Lib.hid (show hdY sy P V (k + 1) = eY P (V k) from rfl)
        have HWS := Lib.hid (show wcs sx sy P V (k + 1) = wcs sx sy P V k ++ [.int .i64 (hdX sx P V k), .int .i64 (hdY sy P V k), .int .i64 (bX P (V k)), .int .i64 (bY P (V k))] from rfl)
        clear hbc hhc HS0 BX HPT EQS
        generalize bX P (V k) = x0 at *
        generalize bY P (V k) = y0 at *
        generalize eX P (V k) = x1 at *
        generalize eY P (V k) = y1 at *
        generalize hdX sx P V k = x2 at *
        generalize hdY sy P V k = y2 at *
        go_wp2_with (at_builtin; refine wpList_append_lies _ rfl _ _ 71 rfl (w.heap.size + 1) 74 i0 (.agg #[.int .i64 0, .int .i64 0, .int .i64 0, .int .i64 0]) 4 32 Try.underlying71 hi0 hz0 hz1 hz2 rfl (by decide) _ _ _ rfl (HWC.out.alloc _) ⟨wc.heap.size, 0, none⟩ 1 1 [.int .i64 x2, .int .i64 y2, .int .i64 x0, .int .i64 y0] rfl rfl (World.news_of_block (cs := #[.int .i64 x2, .int .i64 y2, .int .i64 x0, .int .i64 y0]) (t := 74) (fr := (0, 0)) (heap_alloc_new wc _)) (by simp [Value.oneCell']) (by omega) (by unfold maxLen; omega) (by omega) (by simp; have := HBC.out.size; omega) (wc.heap.size + 1) (by simp) ?_; intro g' cap' w4 hown4 hgrow4 hat hlt4; have HO4 := Lib.hid hown4; have HG4 := Lib.hid hgrow4; have hh4 := grow_keep hgrow4 ((Below.heap_alloc wc _ _ hlc).trans HHC.out) (own_ne HWC.out HHC.out (by decide)); have HH4 := Lib.hid hh4; have n0 := cell_of hh4 (i := 0) rfl; have n1 := cell_of hh4 (i := 1) rfl; have f0 := frozen_of hh4 (i := 0); have f1 := frozen_of hh4 (i := 1); have q2 : w4.cell? ⟨ge, 0, none⟩ = some (.int .i64 x1) := (hgrow4.cell_far ⟨ge, 0, none⟩ (by simp; omega) (by intro e; cases e; omega)).trans ((World.cell?_alloc_old _ _ _ (Nat.ne_of_lt hle)).trans k2); have q3 : w4.cell? ⟨ge, 1, none⟩ = some (.int .i64 y1) := (hgrow4.cell_far ⟨ge, 1, none⟩ (by simp; omega) (by intro e; cases e; omega)).trans ((World.cell?_alloc_old _ _ _ (Nat.ne_of_lt hle)).trans k3); clear hown4 hgrow4 hat hh4)
        have B4 : Below w.heap.size w w4 := (HBC.out.alloc HBC.out.size _).grown HG4.out (by simp; have := HBC.out.size; omega) (fun j hj => Nat.le_of_succ_le (HWC.out.lt j hj).1)
        go_roundw
        case rel => exact ⟨k + 1, g', cap', by omega, rfl, by go_num, by simpa using hlt4, by rw [HWS.out]; exact own_set (own_set HO4.out HH4.out (by decide)) (set2_0 HH4.out) (by decide), by rw [HX1.out, HY1.out]; exact heap_put0 HH4.out, (B4.setCell (by show w.heap.size ≤ w.heap.size + 1 + 1; omega) _).setCell (by show w.heap.size ≤ w.heap.size + 1 + 1; omega) _⟩
        case measure => simp [intOf]; omega
    · obtain rfl : l = k := by omega
      clear hbel
      go_wp2_with (fail)
      go_ret
      exact ⟨_, _, rfl, own_base HW.out (by omega), hgl, HB.out⟩
end Go.Proofs.Ytapihgmokgkaaaa

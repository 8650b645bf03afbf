/- What a visit prints: the reference. -/
import Derived.Test.YtapihgmokgkaaaaYm
set_option linter.unusedSimpArgs false
set_option linter.unusedVariables false
namespace Go.Proofs.Ytapihgmokgkaaaa
open Go.RowKit

/-- What the reference's printed reads, while new blocks are made. -/
structure Sr (w0 : World) (g : Nat) (a : Option Addr) (n c : Nat) (k : Bool) (s : Int) (bk : Bool) (w : World) : Prop where
  bel : Below w0.heap.size w0 w
  lg : g + 1 < w0.heap.size
  cs : w.cell? ⟨g, 1, none⟩ = some (.int .i64 s)
  cb : w.cell? ⟨g, 2, none⟩ = some (.bool bk)
  cr : w.cell? ⟨g + 1, 0, none⟩ = some (.slice a n c)
  ck : w.cell? ⟨g + 1, 1, none⟩ = some (.bool k)
theorem Sr.next {w0 w' : World} {g : Nat} {a : Option Addr} {n c : Nat} {k : Bool} {s : Int} {bk : Bool} (h : Sr w0 g a n c k s bk w0) (B : Below w0.heap.size w0 w') : Sr w0 g a n c k s bk w' := by
  obtain ⟨q0, l1, q1, q2, q3, q4⟩ := h
  exact ⟨B, l1, (B.cell (p := ⟨g, 1, none⟩) (by show g < _; omega)).trans q1, (B.cell (p := ⟨g, 2, none⟩) (by show g < _; omega)).trans q2, (B.cell (p := ⟨g + 1, 0, none⟩) l1).trans q3, (B.cell (p := ⟨g + 1, 1, none⟩) l1).trans q4⟩
theorem cells2_one_more (n : Nat) (X Y : Nat → Int) : cells2 X Y (n + 1) = cells2 X Y n ++ [.int .i64 (X n), .int .i64 (Y n)] := rfl
set_option maxRecDepth 100000 in
set_option maxHeartbeats 16000000 in
theorem printedR_any (a : Option Addr) (m c : Nat) (P : Nat → Pth) (q : Nat) (s : Int) (bk : Bool) (w : World) (hm : m ≤ 100) (hp : PathsR w a m P) (hn : ∀ i, i < m → (P i).n ≤ 100) (hc : ∀ i, i < m → (P i).n ≤ (P i).c) (hq : q < m) (hv : VFit (P q) ⟨(q : Int), s, bk⟩) :
    Calls Try.prog 38 #[.slice a m c, .agg #[.int .i64 q, .int .i64 s, .bool bk]] w (PtsPost w (prN (P q)) (prX (P q) ⟨(q : Int), s, bk⟩ (P q).X) (prX (P q) ⟨(q : Int), s, bk⟩ (P q).Y)) := by
  obtain ⟨i0, hi0, hz0, hz1, hz2⟩ := info_parts info_point
  have hqi : (q : Int) < (m : Int) := by omega
  have hnq := hn q hq
  have hcq := hc q hq
  rcases hp with h | ⟨b, off, rfl, hb, hd⟩
  · omega
  obtain ⟨⟨t0, t1⟩, hpt⟩ := hd q hq
  clear hn hc hd
  obtain ⟨PP, hPP⟩ : ∃ PP, P q = PP := ⟨_, rfl⟩
  rw [hPP] at hnq hcq t0 t1 hpt hv ⊢
  clear hPP
  obtain ⟨pa, n, pc, X, Y, k⟩ := PP
  obtain ⟨vf, vg, vlo, vhi⟩ := hv
  dsimp only at *
  obtain ⟨u, rfl⟩ := Int.eq_ofNat_of_zero_le vlo
  have hun : u < n := by omega
  rcases hpt with h | ⟨b2, off2, rfl, hb2, hd2⟩
  · omega
  have HD := Lib.hid hd2
  have hu3 : u ≤ n := by omega
  have hu4 : u ≤ pc := by omega
  have hu6 : ¬ pc = u := by omega
  have hu7 : (0 : Int) ≤ (u : Int) := by omega
  have HVF := Lib.hid vf
  have HVG := Lib.hid vg
  clear vlo vhi hd2 vf vg
  go_enter Try.func38, Try.ntmps38
  go_wp2_with (fail)
  change Code.wp _ _ _ _ ((w.alloc (.cells #[.int .i64 q, .int .i64 u, .bool bk] 34)).alloc (.cells #[.slice (some ⟨b2, off2, none⟩) n pc, .bool k] 59))
  have BW : Hid (Below w.heap.size w ((w.alloc (.cells #[.int .i64 q, .int .i64 u, .bool bk] 34)).alloc (.cells #[.slice (some ⟨b2, off2, none⟩) n pc, .bool k] 59))) := Lib.hid (by repeat (first | exact Below.refl _ _ | assumption | refine Below.drew ?_ | refine bdrewN ?_ _ | refine Below.setCell ?_ (by first | omega | (simp <;> omega)) _ | refine Below.alloc ?_ (by first | omega | (simp <;> omega)) _))
  have HS0 : Hid (Sr ((w.alloc (.cells #[.int .i64 q, .int .i64 u, .bool bk] 34)).alloc (.cells #[.slice (some ⟨b2, off2, none⟩) n pc, .bool k] 59)) w.heap.size (some ⟨b2, off2, none⟩) n pc k u bk ((w.alloc (.cells #[.int .i64 q, .int .i64 u, .bool bk] 34)).alloc (.cells #[.slice (some ⟨b2, off2, none⟩) n pc, .bool k] 59))) :=
    Lib.hid ⟨Below.refl _ _, by simp, by simp [go_sem], by simp [go_sem], by simp [go_sem], by simp [go_sem]⟩
  have hWs : ((w.alloc (.cells #[.int .i64 q, .int .i64 u, .bool bk] 34)).alloc (.cells #[.slice (some ⟨b2, off2, none⟩) n pc, .bool k] 59)).heap.size = w.heap.size + 1 + 1 := by simp
  generalize ((w.alloc (.cells #[.int .i64 q, .int .i64 u, .bool bk] 34)).alloc (.cells #[.slice (some ⟨b2, off2, none⟩) n pc, .bool k] 59)) = W at *
  have HWS := Lib.hid hWs
  clear hWs t0 t1
  go_cut [6] from 12 to 23 (fun u6 wx => ∃ g c6, u6 = .slice (some ⟨g, 0, none⟩) n c6 ∧ w.heap.size ≤ g ∧ wx.ownsRow w.heap.size 27 2 (.slice (some ⟨g, 0, none⟩) n c6) n (cells2 (ap (n - u) (fun i => X (u + i)) X) (ap (n - u) (fun i => Y (u + i)) Y) n) ∧ Below W.heap.size W wx)
  case first =>
    refine wp_region_held_drew (S := Sr W w.heap.size (some ⟨b2, off2, none⟩) n pc k u bk) (by kernel_rfl) (HS0.out.next (Below.refl _ _).drew) (fun hHeld => ?_)
    refine tkH (by assumption) 0 (oi := ?_) (v := ?_) ?_ ?_ ?_ ?_ ?_ ?_ ?_ ?_; rotate_left 2; (simp only [gA, gB, gC]; exact rfl); kernel_rfl; kernel_rfl; kernel_rfl; exact fun _ _ _ h => h; rfl; (intro w' hSw; (obtain ⟨j0, j1, j2, j3, j4, j5⟩ := hSw);go_simp; with_reducible rfl); simp only [Act.put, pB, pC, pD]
    refine tkH (by assumption) 1 (oi := ?_) (v := ?_) ?_ ?_ ?_ ?_ ?_ ?_ ?_ ?_; rotate_left 2; (simp only [gA, gB, gC]; exact rfl); kernel_rfl; kernel_rfl; kernel_rfl; exact fun _ _ _ h => h; rfl; (intro w' hSw; (obtain ⟨j0, j1, j2, j3, j4, j5⟩ := hSw);go_simp; with_reducible rfl); simp only [Act.put, pB, pC, pD]
    refine tkH (by assumption) 2 (oi := ?_) (v := ?_) ?_ ?_ ?_ ?_ ?_ ?_ ?_ ?_; rotate_left 2; (simp only [gA, gB, gC]; exact rfl); kernel_rfl; kernel_rfl; kernel_rfl; exact fun _ _ _ h => h; rfl; (intro w' hSw; (obtain ⟨j0, j1, j2, j3, j4, j5⟩ := hSw);go_simp; with_reducible rfl); simp only [Act.put, pB, pC, pD]
    refine tkH (by assumption) 3 (oi := ?_) (v := ?_) ?_ ?_ ?_ ?_ ?_ ?_ ?_ ?_; rotate_left 2; (simp only [gA, gB, gC]; exact rfl); kernel_rfl; kernel_rfl; kernel_rfl; exact fun _ _ _ h => h; rfl; (intro w' hSw; (obtain ⟨j0, j1, j2, j3, j4, j5⟩ := hSw);go_simp; with_reducible rfl); simp only [Act.put, pB, pC, pD]
    refine tkH (by assumption) 4 (oi := ?_) (v := ?_) ?_ ?_ ?_ ?_ ?_ ?_ ?_ ?_; rotate_left 2; (simp only [gA, gB, gC]; exact rfl); kernel_rfl; kernel_rfl; kernel_rfl; exact fun _ _ _ h => h; rfl; (intro w' hSw; (obtain ⟨j0, j1, j2, j3, j4, j5⟩ := hSw);go_simp; with_reducible rfl); simp only [Act.put, pB, pC, pD]
    refine tkH (by assumption) 6 (oi := ?_) (v := ?_) ?_ ?_ ?_ ?_ ?_ ?_ ?_ ?_; rotate_left 2; (simp only [gA, gB, gC]; exact rfl); kernel_rfl; kernel_rfl; kernel_rfl; exact fun _ _ _ h => h; rfl; (intro w' hSw; (obtain ⟨j0, j1, j2, j3, j4, j5⟩ := hSw);go_simp; with_reducible rfl); simp only [Act.put, pB, pC, pD]
    refine tkH (by assumption) 7 (oi := ?_) (v := ?_) ?_ ?_ ?_ ?_ ?_ ?_ ?_ ?_; rotate_left 2; (simp only [gA, gB, gC]; exact rfl); kernel_rfl; kernel_rfl; kernel_rfl; exact fun _ _ _ h => h; rfl; (intro w' hSw; (obtain ⟨j0, j1, j2, j3, j4, j5⟩ := hSw);go_simp; with_reducible rfl); simp only [Act.put, pB, pC, pD]
    refine tkH (by assumption) 8 (oi := ?_) (v := ?_) ?_ ?_ ?_ ?_ ?_ ?_ ?_ ?_; rotate_left 2; (simp only [gA, gB, gC]; exact rfl); kernel_rfl; kernel_rfl; kernel_rfl; exact fun _ _ _ h => h; rfl; (intro w' hSw; (obtain ⟨j0, j1, j2, j3, j4, j5⟩ := hSw);go_simp; with_reducible rfl); simp only [Act.put, pB, pC, pD]
    refine tkH (by assumption) 9 (oi := ?_) (v := ?_) ?_ ?_ ?_ ?_ ?_ ?_ ?_ ?_; rotate_left 2; (simp only [gA, gB, gC]; exact rfl); kernel_rfl; kernel_rfl; kernel_rfl; exact fun _ _ _ h => h; rfl; (intro w' hSw; (obtain ⟨j0, j1, j2, j3, j4, j5⟩ := hSw);go_simp; with_reducible rfl); simp only [Act.put, pB, pC, pD]
    refine tkH (by assumption) 10 (oi := ?_) (v := ?_) ?_ ?_ ?_ ?_ ?_ ?_ ?_ ?_; rotate_left 2; (simp only [gA, gB, gC]; exact rfl); kernel_rfl; kernel_rfl; kernel_rfl; exact fun _ _ _ h => h; rfl; (intro w' hSw; (obtain ⟨j0, j1, j2, j3, j4, j5⟩ := hSw);go_simp; with_reducible rfl); simp only [Act.put, pB, pC, pD]
    refine onH 5 (oi := ?_) (by kernel_rfl) ?_ ?_ (fun K hK => ?_); rotate_left; (simp only [gA, gB, gC]; exact rfl); rfl
    go_wp2_with (fail)
    have B0 : Below w.heap.size w W.drew := BW.out.drew
    refine (cloneP b2 (off2 + u * 2) (n - u) _ (fun i => X (u + i)) (fun i => Y (u + i)) W.drew (Nat.lt_of_lt_of_le hb2 BW.out.size) ((HD.out.kept B0 hb2).from u) (by omega) (by omega)).mono ?_
    rintro e w3 ⟨a3, c3, rfl, ho, hb3⟩
    have HO := Lib.hid (own_base ho (show w.heap.size ≤ W.drew.heap.size from BW.out.size))
    have HO1 := Lib.hid ho
    replace hb3 := undrew' hb3
    have B3 := Lib.hid hb3
    refine hK.out _ _ (HS0.out.next hb3) (fun hHeld3 => ?_)
    clear hK K hb3 ho hHeld B0
    have hHeld := hHeld3
    clear hHeld3
    try simp only [Act.put, pB, pC, pD]
    refine onH 11 (oi := ?_) (by kernel_rfl) ?_ ?_ (fun K hK => ?_); rotate_left; (simp only [gA, gB, gC]; exact rfl); rfl
    refine wp_append_own _ _ _ 42 rfl w.heap.size 27 i0 (.agg #[.int .i64 0, .int .i64 0]) 2 16 Try.underlying42 hi0 hz0 hz1 hz2 rfl (by decide) _ _ _ rfl HO.out ⟨b2, off2, none⟩ u pc (cells2 X Y u) rfl (cells2_length X Y u) (du_news ((HD.out.kept (BW.out.trans (B3.out.mono BW.out.size)) hb2).less hu3)) (cells2_one X Y u) (by unfold maxLen; omega) (by omega) (by have h1 := BW.out.size; have h2 := B3.out.size; omega) ?_
    intro v' w4 hown hgrow _
    rw [show n - u + u = n by omega, ← cells2_app, show n - u + u = n by omega] at hown
    obtain ⟨g, c6, rfl, hg, hgl⟩ := hown.form (by omega)
    have HO4 := Lib.hid hown
    have hB4 : Below W.heap.size W w4 := B3.out.grown hgrow B3.out.size (fun k hk => (HO1.out.lt k hk).1)
    refine hK.out _ _ (HS0.out.next hB4) (fun hHeld3 => ?_)
    clear hK K hHeld hown hgrow
    have hHeld := hHeld3
    clear hHeld3
    try simp only [Act.put, pB, pC, pD]
    refine tkH (by assumption) 12 (oi := ?_) (v := ?_) ?_ ?_ ?_ ?_ ?_ ?_ ?_ ?_; rotate_left 2; (simp only [gA, gB, gC]; exact rfl); kernel_rfl; kernel_rfl; kernel_rfl; exact fun _ _ _ h => h; rfl; (intro w' hSw; (obtain ⟨j0, j1, j2, j3, j4, j5⟩ := hSw);go_simp; with_reducible rfl); simp only [Act.put, pB, pC, pD]
    refine wpAnyH_done (by kernel_rfl) ?_ _
    clear hHeld
    go_wp2_with (fail)
    go_meet
    exact ⟨g, c6, rfl, hg, HO4.out, hB4⟩
  case rest =>
    obtain ⟨g, c6, rfl, hg, ho, hbc⟩ := hcut
    obtain ⟨j0, j1, j2, j3, j4, j5⟩ := HS0.out.next hbc
    have HO := Lib.hid ho
    have HBC := Lib.hid (BW.out.trans (hbc.mono BW.out.size))
    have hgl : g < wc.heap.size := (ho.lt g rfl).2
    clear hbc ho
    rcases k with _ | _
    · have hu0 : u = 0 := by have := HVG.out rfl; omega
      subst hu0
      rw [show n - 0 = n by omega] at HO
      have HO2 : Hid (wc.ownsRow w.heap.size 27 2 (.slice (some ⟨g, 0, none⟩) n c6) n (cells2 X Y n)) := Lib.hid (by rw [cells2_ext (X := X) (Y := Y) (X' := ap n (fun i => X (0 + i)) X) (Y' := ap n (fun i => Y (0 + i)) Y) (fun i hi => by simp [ap, hi])]; exact HO.out)
      clear HO
      rcases bk with _ | _
      · go_wp2_with (fail)
        go_ret
        exact ⟨_, _, rfl, HO2.out, HBC.out⟩
      · go_wp2_with (fail)
        refine (reverseP w.heap.size g n c6 X Y wc (by omega) (by omega) HO2.out hgl).mono ?_
        rintro e w5 ⟨rfl, ho5, hm5⟩
        have HO5 := Lib.hid ho5
        have B5 := Lib.hid (HBC.out.trans (hm5.toBel hg hgl))
        clear ho5 hm5
        go_wp2_with (fail)
        go_ret
        exact ⟨_, _, rfl, HO5.out, B5.out⟩
    · obtain rfl : bk = false := HVF.out rfl
      have g0 : wc.cell? ⟨g, 0, none⟩ = some (.int .i64 (X u)) := by
        have := HO.out.cellAt 0 (by omega)
        rw [this]
        have h2 := cells2_get (ap (n - u) (fun i => X (u + i)) X) (ap (n - u) (fun i => Y (u + i)) Y) n 0 0 (by omega) (by omega)
        simpa [p2, ap, show 0 < n - u by omega] using h2
      have g1 : wc.cell? ⟨g, 1, none⟩ = some (.int .i64 (Y u)) := by
        have := HO.out.cellAt 1 (by omega)
        rw [this]
        have h2 := cells2_get (ap (n - u) (fun i => X (u + i)) X) (ap (n - u) (fun i => Y (u + i)) Y) n 0 1 (by omega) (by omega)
        simpa [p2, ap, show 0 < n - u by omega] using h2
      have hni : (0 : Int) < (n : Int) := by omega
      go_wp2_with (at_builtin; refine wpList_append_lies _ rfl _ _ 42 rfl w.heap.size 27 i0 (.agg #[.int .i64 0, .int .i64 0]) 2 16 Try.underlying42 hi0 hz0 hz1 hz2 rfl (by decide) _ _ _ rfl (HO.out.alloc _) ⟨wc.heap.size, 0, none⟩ 1 1 [.int .i64 (X u), .int .i64 (Y u)] rfl rfl (World.news_of_block (cs := #[.int .i64 (X u), .int .i64 (Y u)]) (t := 27) (fr := (0, 0)) (heap_alloc_new wc _)) (by simp [Value.oneCell']) (by omega) (by unfold maxLen; omega) (by omega) (by simp; have := HBC.out.size; omega) (wc.heap.size + 1) (by simp) ?_; intro g' cap' w4 hown4 hgrow4 hat hlt4; have HO4 := Lib.hid hown4; have HG4 := Lib.hid hgrow4; clear hown4 hgrow4 hat)
      have B4 : Below w.heap.size w w4 := (HBC.out.alloc HBC.out.size _).grown HG4.out (by simp; have := HBC.out.size; omega) (fun k hk => by cases hk; exact hg)
      go_ret
      exact ⟨_, _, rfl, by
        have hx := HO4.out
        rw [show ([.int .i64 (X u), .int .i64 (Y u)] : List Value) = [.int .i64 (ap (n - u) (fun i => X (u + i)) X n), .int .i64 (ap (n - u) (fun i => Y (u + i)) Y n)] by simp only [ap, if_neg (show ¬ n < n - u by omega), show n - (n - u) = u by omega], ← cells2_one_more] at hx
        exact hx, B4⟩
end Go.Proofs.Ytapihgmokgkaaaa

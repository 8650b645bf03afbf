/- What a visit prints: the program. -/
import Derived.Test.YtcahjkaphpeobaaYi
set_option linter.unusedSimpArgs false
set_option linter.unusedVariables false
namespace Go.Proofs.Ytcahjkaphpeobaa
open Go.RowKit

theorem Mut.toBel {g B : Nat} {w w' : World} (h : Mut (· = g) w w') (hB : B ≤ g) (hg : g < w.heap.size) : Below B w w' := h.toBelow B (by omega) (fun k hk e => by omega)
def prN (p : Pth) : Nat := if p.k = true then p.n + 1 else p.n
def prX (p : Pth) (v : Vis) (Z : Nat → Int) : Nat → Int :=
  if p.k = true then ap (p.n - v.s.toNat) (fun i => Z (v.s.toNat + i)) Z else if v.b = true then rv p.n Z else Z
/-- A visit that fits a path. -/
structure VFit (p : Pth) (v : Vis) : Prop where
  f : p.k = true → v.b = false
  g : p.k = false → v.s = 0
  slo : 0 ≤ v.s
  shi : v.s < p.n
theorem Du.at {w : World} {b off n m : Nat} {X Y : Nat → Int} (h : Du w b off n X Y) (hm : m ≤ n) (hb : b < w.heap.size) : PtsR w (some ⟨b, off, none⟩) m X Y := .inr ⟨b, off, rfl, hb, h.less hm⟩
set_option maxRecDepth 100000 in
set_option maxHeartbeats 8000000 in
theorem printed_any (p : Pth) (v : Vis) (w : World) (hp : PtsR w p.a p.n p.X p.Y) (hn : p.n ≤ 1000) (hc : p.n ≤ p.c) (hv : VFit p v) :
    Calls Try.prog 14 #[.agg #[.slice p.a p.n p.c, .bool p.k], v.v] w (PtsPost w (prN p) (prX p v p.X) (prX p v p.Y)) := by
  obtain ⟨a, n, c, X, Y, k⟩ := p
  obtain ⟨q, s, bk⟩ := v
  unfold Vis.v
  obtain ⟨vf, vg, vlo, vhi⟩ := hv
  dsimp only at *
  rcases hp with h | ⟨b, off, rfl, hb, hd⟩
  · omega
  have HD := Lib.hid hd
  have hn0 : 0 < n := by omega
  clear hd
  rcases k with _ | _
  · obtain rfl : s = 0 := vg rfl
    clear vf vg vlo vhi
    have hpn : prN ⟨some ⟨b, off, none⟩, n, c, X, Y, false⟩ = n := rfl
    rw [hpn]
    clear hpn
    rcases bk with _ | _
    · have hx : ∀ Z, prX ⟨some ⟨b, off, none⟩, n, c, X, Y, false⟩ ⟨q, 0, false⟩ Z = Z := fun Z => rfl
      rw [hx, hx]
      clear hx
      go_enter Try.func14, Try.ntmps14
      go_wp2_with (fail)
      have BW : Hid (Below w.heap.size w ((w.alloc (.cells #[.slice (some ⟨b, off, none⟩) n c, .bool false] 30)).alloc (.cells #[.int .i64 q, .int .i64 0, .bool false] 32))) := Lib.hid (by repeat (first | exact Below.refl _ _ | assumption | refine Below.drew ?_ | refine bdrewN ?_ _ | refine Below.setCell ?_ (by first | omega | (simp <;> omega)) _ | refine Below.alloc ?_ (by first | omega | (simp <;> omega)) _))
      have p0 : ((w.alloc (.cells #[.slice (some ⟨b, off, none⟩) n c, .bool false] 30)).alloc (.cells #[.int .i64 q, .int .i64 0, .bool false] 32)).cell? ⟨w.heap.size, 0, none⟩ = some (.slice (some ⟨b, off, none⟩) n c) := by simp [go_sem]
      have p1 : ((w.alloc (.cells #[.slice (some ⟨b, off, none⟩) n c, .bool false] 30)).alloc (.cells #[.int .i64 q, .int .i64 0, .bool false] 32)).cell? ⟨w.heap.size, 1, none⟩ = some (.bool false) := by simp [go_sem]
      have v1 : ((w.alloc (.cells #[.slice (some ⟨b, off, none⟩) n c, .bool false] 30)).alloc (.cells #[.int .i64 q, .int .i64 0, .bool false] 32)).cell? ⟨w.heap.size + 1, 1, none⟩ = some (.int .i64 0) := by simp [go_sem]
      have v2 : ((w.alloc (.cells #[.slice (some ⟨b, off, none⟩) n c, .bool false] 30)).alloc (.cells #[.int .i64 q, .int .i64 0, .bool false] 32)).cell? ⟨w.heap.size + 1, 2, none⟩ = some (.bool false) := by simp [go_sem]
      have hWs : ((w.alloc (.cells #[.slice (some ⟨b, off, none⟩) n c, .bool false] 30)).alloc (.cells #[.int .i64 q, .int .i64 0, .bool false] 32)).heap.size = w.heap.size + 1 + 1 := by simp
      generalize hW : ((w.alloc (.cells #[.slice (some ⟨b, off, none⟩) n c, .bool false] 30)).alloc (.cells #[.int .i64 q, .int .i64 0, .bool false] 32)) = W at *
      clear hW
      refine (cloneP b off n c X Y W (by omega) (HD.out.kept BW.out hb) (by omega) (by omega)).mono ?_
      rintro e w1 ⟨a1, c1, rfl, ho, hb1⟩
      have BB := Lib.hid (BW.out.trans (hb1.mono BW.out.size))
      replace v2 := cellk hb1 (by show w.heap.size + 1 < W.heap.size; omega) v2
      rw [hWs] at ho
      have HO := Lib.hid ho
      clear hb1 ho p0 p1 v1 hWs
      go_wp2_with (fail)
      go_ret
      exact ⟨_, _, rfl, own_base HO.out (by omega), BB.out⟩
    · have hx : ∀ Z, prX ⟨some ⟨b, off, none⟩, n, c, X, Y, false⟩ ⟨q, 0, true⟩ Z = rv n Z := fun Z => rfl
      rw [hx, hx]
      clear hx
      go_enter Try.func14, Try.ntmps14
      go_wp2_with (fail)
      have BW : Hid (Below w.heap.size w ((w.alloc (.cells #[.slice (some ⟨b, off, none⟩) n c, .bool false] 30)).alloc (.cells #[.int .i64 q, .int .i64 0, .bool true] 32))) := Lib.hid (by repeat (first | exact Below.refl _ _ | assumption | refine Below.drew ?_ | refine bdrewN ?_ _ | refine Below.setCell ?_ (by first | omega | (simp <;> omega)) _ | refine Below.alloc ?_ (by first | omega | (simp <;> omega)) _))
      have p0 : ((w.alloc (.cells #[.slice (some ⟨b, off, none⟩) n c, .bool false] 30)).alloc (.cells #[.int .i64 q, .int .i64 0, .bool true] 32)).cell? ⟨w.heap.size, 0, none⟩ = some (.slice (some ⟨b, off, none⟩) n c) := by simp [go_sem]
      have p1 : ((w.alloc (.cells #[.slice (some ⟨b, off, none⟩) n c, .bool false] 30)).alloc (.cells #[.int .i64 q, .int .i64 0, .bool true] 32)).cell? ⟨w.heap.size, 1, none⟩ = some (.bool false) := by simp [go_sem]
      have v1 : ((w.alloc (.cells #[.slice (some ⟨b, off, none⟩) n c, .bool false] 30)).alloc (.cells #[.int .i64 q, .int .i64 0, .bool true] 32)).cell? ⟨w.heap.size + 1, 1, none⟩ = some (.int .i64 0) := by simp [go_sem]
      have v2 : ((w.alloc (.cells #[.slice (some ⟨b, off, none⟩) n c, .bool false] 30)).alloc (.cells #[.int .i64 q, .int .i64 0, .bool true] 32)).cell? ⟨w.heap.size + 1, 2, none⟩ = some (.bool true) := by simp [go_sem]
      have hWs : ((w.alloc (.cells #[.slice (some ⟨b, off, none⟩) n c, .bool false] 30)).alloc (.cells #[.int .i64 q, .int .i64 0, .bool true] 32)).heap.size = w.heap.size + 1 + 1 := by simp
      generalize hW : ((w.alloc (.cells #[.slice (some ⟨b, off, none⟩) n c, .bool false] 30)).alloc (.cells #[.int .i64 q, .int .i64 0, .bool true] 32)) = W at *
      clear hW
      refine (cloneP b off n c X Y W (by omega) (HD.out.kept BW.out hb) (by omega) (by omega)).mono ?_
      rintro e w1 ⟨a1, c1, rfl, ho, hb1⟩
      have BB := Lib.hid (BW.out.trans (hb1.mono BW.out.size))
      replace v2 := cellk hb1 (by show w.heap.size + 1 < W.heap.size; omega) v2
      rw [hWs] at ho
      obtain ⟨g, cap', hv, hg, hlt⟩ := ho.form (by omega)
      cases hv
      have HO := Lib.hid ho
      clear hb1 ho p0 p1 v1 hWs
      go_wp2_with (fail)
      refine (reverseP (w.heap.size + 1 + 1) g n c1 X Y w1 (by omega) (by omega) HO.out hlt).mono ?_
      rintro e w2 ⟨rfl, ho2, hm2⟩
      have HO2 := Lib.hid ho2
      have B2 := Lib.hid (BB.out.trans (hm2.toBel (by omega) hlt))
      clear ho2 hm2
      go_wp2_with (fail)
      go_ret
      exact ⟨_, _, rfl, own_base HO2.out (by omega), B2.out⟩
  · obtain ⟨u, rfl⟩ := Int.eq_ofNat_of_zero_le vlo
    have hun : u < n := by omega
    clear vlo vhi
    obtain rfl : bk = false := vf rfl
    clear vf vg
    have hpn : prN ⟨some ⟨b, off, none⟩, n, c, X, Y, true⟩ = n + 1 := rfl
    have hx : ∀ Z, prX ⟨some ⟨b, off, none⟩, n, c, X, Y, true⟩ ⟨q, u, false⟩ Z = ap (n - u) (fun i => Z (u + i)) Z := fun Z => rfl
    rw [hpn, hx, hx]
    clear hpn hx
    have hu3 : u ≤ n := by omega
    have hu4 : u ≤ c := by omega
    have hu5 : u + 1 ≤ c := by omega
    have hu6 : ¬ c = u := by omega
    have hu7 : (0 : Int) ≤ (u : Int) := by omega
    have hu8 : IntKind.i64.wrap ((u : Int) + 1) = ((u + 1 : Nat) : Int) := by rw [IntKind.wrap_i64]; omega
    have hu9 : (0 : Int) ≤ (u : Int) + 1 ∧ (u : Int) + 1 ≤ (c : Int) := by omega
    go_enter Try.func14, Try.ntmps14
    go_wp2_with (fail)
    change Code.wp _ _ _ _ ((w.alloc (.cells #[.slice (some ⟨b, off, none⟩) n c, .bool true] 30)).alloc (.cells #[.int .i64 q, .int .i64 u, .bool false] 32))
    have BW : Hid (Below w.heap.size w ((w.alloc (.cells #[.slice (some ⟨b, off, none⟩) n c, .bool true] 30)).alloc (.cells #[.int .i64 q, .int .i64 u, .bool false] 32))) := Lib.hid (by repeat (first | exact Below.refl _ _ | assumption | refine Below.drew ?_ | refine bdrewN ?_ _ | refine Below.setCell ?_ (by first | omega | (simp <;> omega)) _ | refine Below.alloc ?_ (by first | omega | (simp <;> omega)) _))
    have p0 : ((w.alloc (.cells #[.slice (some ⟨b, off, none⟩) n c, .bool true] 30)).alloc (.cells #[.int .i64 q, .int .i64 u, .bool false] 32)).cell? ⟨w.heap.size, 0, none⟩ = some (.slice (some ⟨b, off, none⟩) n c) := by simp [go_sem]
    have p1 : ((w.alloc (.cells #[.slice (some ⟨b, off, none⟩) n c, .bool true] 30)).alloc (.cells #[.int .i64 q, .int .i64 u, .bool false] 32)).cell? ⟨w.heap.size, 1, none⟩ = some (.bool true) := by simp [go_sem]
    have v1 : ((w.alloc (.cells #[.slice (some ⟨b, off, none⟩) n c, .bool true] 30)).alloc (.cells #[.int .i64 q, .int .i64 u, .bool false] 32)).cell? ⟨w.heap.size + 1, 1, none⟩ = some (.int .i64 u) := by simp [go_sem]
    have v2 : ((w.alloc (.cells #[.slice (some ⟨b, off, none⟩) n c, .bool true] 30)).alloc (.cells #[.int .i64 q, .int .i64 u, .bool false] 32)).cell? ⟨w.heap.size + 1, 2, none⟩ = some (.bool false) := by simp [go_sem]
    have hWs : ((w.alloc (.cells #[.slice (some ⟨b, off, none⟩) n c, .bool true] 30)).alloc (.cells #[.int .i64 q, .int .i64 u, .bool false] 32)).heap.size = w.heap.size + 1 + 1 := by simp
    generalize hW : ((w.alloc (.cells #[.slice (some ⟨b, off, none⟩) n c, .bool true] 30)).alloc (.cells #[.int .i64 q, .int .i64 u, .bool false] 32)) = W at *
    clear hW
    refine wp_region_held_drew (S := (fun w' => w'.cell? ⟨w.heap.size, 0, none⟩ = some (.slice (some ⟨b, off, none⟩) n c) ∧ w'.cell? ⟨w.heap.size + 1, 1, none⟩ = some (.int .i64 u))) (by kernel_rfl) ⟨p0, v1⟩ (fun hHeld => ?_)
    refine tkH (by assumption) 0 (oi := ?_) (v := ?_) ?_ ?_ ?_ ?_ ?_ ?_ ?_ ?_; rotate_left 2; (simp only [gA, gB, gC]; exact rfl); kernel_rfl; kernel_rfl; kernel_rfl; exact fun _ _ _ h => h; rfl; (intro w' hSw; (try dsimp only at hSw); go_simp; with_reducible rfl); simp only [Act.put, pB, pC, pD]
    refine tkH (by assumption) 1 (oi := ?_) (v := ?_) ?_ ?_ ?_ ?_ ?_ ?_ ?_ ?_; rotate_left 2; (simp only [gA, gB, gC]; exact rfl); kernel_rfl; kernel_rfl; kernel_rfl; exact fun _ _ _ h => h; rfl; (intro w' hSw; (try dsimp only at hSw); go_simp; with_reducible rfl); simp only [Act.put, pB, pC, pD]
    refine tkH (by assumption) 2 (oi := ?_) (v := ?_) ?_ ?_ ?_ ?_ ?_ ?_ ?_ ?_; rotate_left 2; (simp only [gA, gB, gC]; exact rfl); kernel_rfl; kernel_rfl; kernel_rfl; exact fun _ _ _ h => h; rfl; (intro w' hSw; (try dsimp only at hSw); go_simp; with_reducible rfl); simp only [Act.put, pB, pC, pD]
    refine tkH (by assumption) 3 (oi := ?_) (v := ?_) ?_ ?_ ?_ ?_ ?_ ?_ ?_ ?_; rotate_left 2; (simp only [gA, gB, gC]; exact rfl); kernel_rfl; kernel_rfl; kernel_rfl; exact fun _ _ _ h => h; rfl; (intro w' hSw; (try dsimp only at hSw); go_simp; with_reducible rfl); simp only [Act.put, pB, pC, pD]
    refine tkH (by assumption) 4 (oi := ?_) (v := ?_) ?_ ?_ ?_ ?_ ?_ ?_ ?_ ?_; rotate_left 2; (simp only [gA, gB, gC]; exact rfl); kernel_rfl; kernel_rfl; kernel_rfl; exact fun _ _ _ h => h; rfl; (intro w' hSw; (try dsimp only at hSw); go_simp; with_reducible rfl); simp only [Act.put, pB, pC, pD]
    refine tkH (by assumption) 5 (oi := ?_) (v := ?_) ?_ ?_ ?_ ?_ ?_ ?_ ?_ ?_; rotate_left 2; (simp only [gA, gB, gC]; exact rfl); kernel_rfl; kernel_rfl; kernel_rfl; exact fun _ _ _ h => h; rfl; (intro w' hSw; (try dsimp only at hSw); go_simp; with_reducible rfl); simp only [Act.put, pB, pC, pD]
    refine tkH (by assumption) 6 (oi := ?_) (v := ?_) ?_ ?_ ?_ ?_ ?_ ?_ ?_ ?_; rotate_left 2; (simp only [gA, gB, gC]; exact rfl); kernel_rfl; kernel_rfl; kernel_rfl; exact fun _ _ _ h => h; rfl; (intro w' hSw; (try dsimp only at hSw); go_simp; with_reducible rfl); simp only [Act.put, pB, pC, pD]
    refine tkH (by assumption) 7 (oi := ?_) (v := ?_) ?_ ?_ ?_ ?_ ?_ ?_ ?_ ?_; rotate_left 2; (simp only [gA, gB, gC]; exact rfl); kernel_rfl; kernel_rfl; kernel_rfl; exact fun _ _ _ h => h; rfl; (intro w' hSw; (try dsimp only at hSw); go_simp; with_reducible rfl); simp only [Act.put, pB, pC, pD]
    refine tkH (by assumption) 8 (oi := ?_) (v := ?_) ?_ ?_ ?_ ?_ ?_ ?_ ?_ ?_; rotate_left 2; (simp only [gA, gB, gC]; exact rfl); kernel_rfl; kernel_rfl; kernel_rfl; exact fun _ _ _ h => h; rfl; (intro w' hSw; (try dsimp only at hSw); go_simp; with_reducible rfl); simp only [Act.put, pB, pC, pD]
    refine tkH (by assumption) 9 (oi := ?_) (v := ?_) ?_ ?_ ?_ ?_ ?_ ?_ ?_ ?_; rotate_left 2; (simp only [gA, gB, gC]; exact rfl); kernel_rfl; kernel_rfl; kernel_rfl; exact fun _ _ _ h => h; rfl; (intro w' hSw; (try dsimp only at hSw); go_simp; with_reducible rfl); simp only [Act.put, pB, pC, pD]
    refine tkH (by assumption) 10 (oi := ?_) (v := ?_) ?_ ?_ ?_ ?_ ?_ ?_ ?_ ?_; rotate_left 2; (simp only [gA, gB, gC]; exact rfl); kernel_rfl; kernel_rfl; kernel_rfl; exact fun _ _ _ h => h; rfl; (intro w' hSw; (try dsimp only at hSw); go_simp; with_reducible rfl); simp only [Act.put, pB, pC, pD]
    refine onH 11 (oi := ?_) (by kernel_rfl) ?_ ?_ (fun K hK => ?_); rotate_left; (simp only [gA, gB, gC]; exact rfl); rfl
    go_wp2_with (fail)
    have e0 : (W.alloc (.cells #[.slice (some ⟨b, off + u * 2, none⟩) (n - u) (c - u), .slice (some ⟨b, off, none⟩) (u + 1) c] 28)).drew.cell? ⟨w.heap.size + 1 + 1, 0, none⟩ = some (.slice (some ⟨b, off + u * 2, none⟩) (n - u) (c - u)) := by rw [← hWs]; simp [go_sem]
    have e1 : (W.alloc (.cells #[.slice (some ⟨b, off + u * 2, none⟩) (n - u) (c - u), .slice (some ⟨b, off, none⟩) (u + 1) c] 28)).drew.cell? ⟨w.heap.size + 1 + 1, 1, none⟩ = some (.slice (some ⟨b, off, none⟩) (u + 1) c) := by rw [← hWs]; simp [go_sem]
    have B2 : Below W.heap.size W (W.alloc (.cells #[.slice (some ⟨b, off + u * 2, none⟩) (n - u) (c - u), .slice (some ⟨b, off, none⟩) (u + 1) c] 28)).drew := (by repeat (first | exact Below.refl _ _ | assumption | refine Below.drew ?_ | refine bdrewN ?_ _ | refine Below.setCell ?_ (by first | omega | (simp <;> omega)) _ | refine Below.alloc ?_ (by first | omega | (simp <;> omega)) _))
    have hWs2 : (W.alloc (.cells #[.slice (some ⟨b, off + u * 2, none⟩) (n - u) (c - u), .slice (some ⟨b, off, none⟩) (u + 1) c] 28)).drew.heap.size = w.heap.size + 1 + 1 + 1 := by rw [← hWs]; simp [go_sem]
    generalize (W.alloc (.cells #[.slice (some ⟨b, off + u * 2, none⟩) (n - u) (c - u), .slice (some ⟨b, off, none⟩) (u + 1) c] 28)).drew = W2 at *
    have BW2 := Lib.hid (BW.out.trans (B2.mono BW.out.size))
    refine hK.out _ _ ⟨cellk B2 (cell_lt p0) p0, cellk B2 (cell_lt v1) v1⟩ (fun hHeld2 => ?_)
    clear hK K hHeld
    try simp only [Act.put, List.setIfInBounds_toArray, List.set_cons_zero, List.set_cons_succ]
    refine onH 12 (oi := ?_) (by kernel_rfl) ?_ ?_ (fun K hK => ?_); rotate_left; (simp only [gA, gB, gC]; exact rfl); rfl
    go_wp2_with (fail)
    refine (concatP (w.heap.size + 1 + 1) (some ⟨b, off + u * 2, none⟩) (some ⟨b, off, none⟩) (n - u) (u + 1) (c - u) c (fun i => X (u + i)) (fun i => Y (u + i)) X Y W2 e0 e1 (by omega) (.inr ⟨b, _, rfl, by omega, (HD.out.kept BW2.out hb).from u⟩) (.inr ⟨b, _, rfl, by omega, (HD.out.kept BW2.out hb).less (by omega)⟩) (by omega) (by omega) (by omega) (by omega)).mono ?_
    rintro e w3 ⟨a3, c3, rfl, ho, hb3⟩
    rw [show n - u + (u + 1) = n + 1 by omega] at ho ⊢
    have HO := Lib.hid (own_base ho (show w.heap.size ≤ W2.heap.size by omega))
    have B3 := Lib.hid (BW2.out.trans (hb3.mono (by omega)))
    refine hK.out _ _ ⟨cellk hb3 (cell_lt hHeld2.1) hHeld2.1, cellk hb3 (cell_lt hHeld2.2) hHeld2.2⟩ (fun hHeld3 => ?_)
    clear hK K hHeld2 hb3 ho
    try simp only [Act.put, List.setIfInBounds_toArray, List.set_cons_zero, List.set_cons_succ]
    refine tkH (by assumption) 13 (oi := ?_) (v := ?_) ?_ ?_ ?_ ?_ ?_ ?_ ?_ ?_; rotate_left 2; (simp only [gA, gB, gC]; exact rfl); kernel_rfl; kernel_rfl; kernel_rfl; exact fun _ _ _ h => h; rfl; (intro w' hSw; (try dsimp only at hSw); go_simp; with_reducible rfl); simp only [Act.put, pB, pC, pD]
    refine wpAnyH_done (by kernel_rfl) ?_ _
    go_wp2_with (fail)
    go_ret
    exact ⟨_, _, rfl, HO.out, B3.out⟩
end Go.Proofs.Ytcahjkaphpeobaa

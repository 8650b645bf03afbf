/- Points of the program. -/
import Derived.Test.YtcahjkaphpeobaaYl
set_option linter.unusedSimpArgs false
set_option linter.unusedVariables false
namespace Go.Proofs.Ytcahjkaphpeobaa
open Go.RowKit

/-- The answer of Points. -/
def PointsE (m : Nat) (P : Nat → Pth) (v : Vis) (w : World) (e : Ending) (w' : World) : Prop :=
  (oneF m P v = 0 → ∃ a c, e = .returned (.tuple #[.slice a (prN (P v.p.toNat)) c, .int .i64 0]) ∧ w'.ownsRow w.heap.size 38 2 (.slice a (prN (P v.p.toNat)) c) (prN (P v.p.toNat)) (cells2 (prX (P v.p.toNat) v (P v.p.toNat).X) (prX (P v.p.toNat) v (P v.p.toNat).Y) (prN (P v.p.toNat)))) ∧
  (oneF m P v ≠ 0 → e = .returned (.tuple #[.slice none 0 0, .int .i64 (oneF m P v)])) ∧ Below w.heap.size w w'
theorem fit_of {m : Nat} {P : Nat → Pth} {q : Nat} {s : Int} {bk : Bool} (h : oneF m P ⟨(q : Int), s, bk⟩ = 0) : q < m ∧ VFit (P q) ⟨(q : Int), s, bk⟩ := by
  have hps : psF m P = 0 := by
    unfold oneF at h
    exact Classical.byContradiction fun h' => by rw [if_pos h'] at h; exact h' h
  have hvg : VGood m P ⟨(q : Int), s, bk⟩ := vgood (t := false) (by unfold oneF at h; rwa [if_neg (by simp [hps])] at h)
  obtain ⟨vlo, vhi, vf, vg, vs1, vs2⟩ := hvg
  dsimp only at vlo vhi vf vg vs1 vs2
  rw [Int.toNat_natCast] at vf vg vs2
  exact ⟨by omega, vf, vg, vs1, vs2⟩
theorem nat_of {m : Nat} {P : Nat → Pth} {p s : Int} {bk : Bool} (h : oneF m P ⟨p, s, bk⟩ = 0) : ∃ q : Nat, p = q := by
  have hps : psF m P = 0 := by
    unfold oneF at h
    exact Classical.byContradiction fun h' => by rw [if_pos h'] at h; exact h' h
  have hvg : VGood m P ⟨p, s, bk⟩ := vgood (t := false) (by unfold oneF at h; rwa [if_neg (by simp [hps])] at h)
  exact Int.eq_ofNat_of_zero_le hvg.lo
set_option maxRecDepth 100000 in
set_option maxHeartbeats 16000000 in
theorem Points_any (a : Option Addr) (m c : Nat) (P : Nat → Pth) (v : Vis) (w : World) (hm : m ≤ 100) (hp : PathsR w a m P) (hn : ∀ i, i < m → (P i).n ≤ 1000) (hc : ∀ i, i < m → (P i).n ≤ (P i).c) (hv : sm v.p) :
    Calls Try.prog 6 #[.slice a m c, v.v] w (PointsE m P v w) := by
  have HP := Lib.hid hp
  have HN := Lib.hid hn
  have HC := Lib.hid hc
  clear hp hn hc
  obtain ⟨p, s, bk⟩ := v
  unfold Vis.v
  dsimp only at *
  go_enter Try.func6, Try.ntmps6
  go_wp2_with (fail)
  generalize hw0 : (w.alloc (.cells #[.int .i64 p, .int .i64 s, .bool bk] 32)) = w0
  have B0 : Below w.heap.size w w0 := by rw [← hw0]; exact (by repeat (first | exact Below.refl _ _ | assumption | refine Below.drew ?_ | refine bdrewN ?_ _ | refine Below.setCell ?_ (by first | omega | (simp <;> omega)) _ | refine Below.alloc ?_ (by first | omega | (simp <;> omega)) _))
  have hws : w0.heap.size = w.heap.size + 1 := by rw [← hw0]; simp
  have r00 : w0.cell? ⟨w.heap.size, 0, none⟩ = some (.int .i64 p) := by rw [← hw0]; simp [go_sem]
  have r01 : w0.cell? ⟨w.heap.size, 1, none⟩ = some (.int .i64 s) := by rw [← hw0]; simp [go_sem]
  have r02 : w0.cell? ⟨w.heap.size, 2, none⟩ = some (.bool bk) := by rw [← hw0]; simp [go_sem]
  have HB0 := Lib.hid B0
  clear hw0 B0
  refine (checkVisited_any a m c P ⟨p, s, bk⟩ w0 hm (HP.out.kept HB0.out) HN.out hv).mono ?_
  rintro e w1 ⟨rfl, hb1⟩
  have HB1 := Lib.hid (HB0.out.trans (hb1.mono HB0.out.size))
  have h3 : w.heap.size < w0.heap.size := by omega
  replace r00 := cellk hb1 h3 r00
  replace r01 := cellk hb1 h3 r01
  replace r02 := cellk hb1 h3 r02
  have h4 : w0.heap.size ≤ w1.heap.size := hb1.size
  replace h3 : w.heap.size < w1.heap.size := by omega
  clear hb1 h4 hws
  by_cases hz : oneF m P ⟨p, s, bk⟩ = 0
  · obtain ⟨q, rfl⟩ := nat_of hz
    obtain ⟨hq, hvf⟩ := fit_of hz
    have hz' : (oneF m P ⟨(q : Int), s, bk⟩ != 0) = false := by simp [hz]
    have HZ := Lib.hid hz
    have hqi : (q : Int) < (m : Int) := by omega
    have hnq := HN.out q hq
    rcases HP.out with h | ⟨b, off, rfl, hb, hd⟩
    · omega
    obtain ⟨⟨t0, t1⟩, hpt⟩ := hd q hq
    replace t0 := cellk HB1.out hb t0
    replace t1 := cellk HB1.out hb t1
    have HPT := Lib.hid (hpt.kept HB1.out)
    have hb1 : b < w1.heap.size := Nat.lt_of_lt_of_le hb HB1.out.size
    clear hz hd hpt
    go_wp2_with (fail)
    have HS0 : Hid (Sy w1 w.heap.size b (off + q * 2) q s bk (.slice (P q).a (P q).n (P q).c) (P q).k w1) := Lib.hid ⟨Below.refl _ _, h3, hb1, r00, r01, r02, t0, t1⟩
    refine wp_region_held_drew (S := Sy w1 w.heap.size b (off + q * 2) q s bk (.slice (P q).a (P q).n (P q).c) (P q).k) (by kernel_rfl) (HS0.out.next (Below.refl _ _).drew) (fun hHeld => ?_)
    refine tkH (by assumption) 0 (oi := ?_) (v := ?_) ?_ ?_ ?_ ?_ ?_ ?_ ?_ ?_; rotate_left 2; (simp only [gA, gB, gC]; exact rfl); kernel_rfl; kernel_rfl; kernel_rfl; exact fun _ _ _ h => h; rfl; (intro w' hSw; (obtain ⟨j0, j1, j2, j3, j4, j5, j6, j7⟩ := hSw);go_simp; with_reducible rfl); simp only [Act.put, pB, pC, pD]
    refine tkH (by assumption) 1 (oi := ?_) (v := ?_) ?_ ?_ ?_ ?_ ?_ ?_ ?_ ?_; rotate_left 2; (simp only [gA, gB, gC]; exact rfl); kernel_rfl; kernel_rfl; kernel_rfl; exact fun _ _ _ h => h; rfl; (intro w' hSw; (obtain ⟨j0, j1, j2, j3, j4, j5, j6, j7⟩ := hSw);go_simp; with_reducible rfl); simp only [Act.put, pB, pC, pD]
    refine tkH (by assumption) 2 (oi := ?_) (v := ?_) ?_ ?_ ?_ ?_ ?_ ?_ ?_ ?_; rotate_left 2; (simp only [gA, gB, gC]; exact rfl); kernel_rfl; kernel_rfl; kernel_rfl; exact fun _ _ _ h => h; rfl; (intro w' hSw; (obtain ⟨j0, j1, j2, j3, j4, j5, j6, j7⟩ := hSw);go_simp; with_reducible rfl); simp only [Act.put, pB, pC, pD]
    refine tkH (by assumption) 3 (oi := ?_) (v := ?_) ?_ ?_ ?_ ?_ ?_ ?_ ?_ ?_; rotate_left 2; (simp only [gA, gB, gC]; exact rfl); kernel_rfl; kernel_rfl; kernel_rfl; exact fun _ _ _ h => h; rfl; (intro w' hSw; (obtain ⟨j0, j1, j2, j3, j4, j5, j6, j7⟩ := hSw);go_simp; with_reducible rfl); simp only [Act.put, pB, pC, pD]
    refine tkH (by assumption) 4 (oi := ?_) (v := ?_) ?_ ?_ ?_ ?_ ?_ ?_ ?_ ?_; rotate_left 2; (simp only [gA, gB, gC]; exact rfl); kernel_rfl; kernel_rfl; kernel_rfl; exact fun _ _ _ h => h; rfl; (intro w' hSw; (obtain ⟨j0, j1, j2, j3, j4, j5, j6, j7⟩ := hSw);go_simp; with_reducible rfl); simp only [Act.put, pB, pC, pD]
    refine tkH (by assumption) 5 (oi := ?_) (v := ?_) ?_ ?_ ?_ ?_ ?_ ?_ ?_ ?_; rotate_left 2; (simp only [gA, gB, gC]; exact rfl); kernel_rfl; kernel_rfl; kernel_rfl; exact fun _ _ _ h => h; rfl; (intro w' hSw; (obtain ⟨j0, j1, j2, j3, j4, j5, j6, j7⟩ := hSw);go_simp; with_reducible rfl); simp only [Act.put, pB, pC, pD]
    refine onH 6 (oi := ?_) (by kernel_rfl) ?_ ?_ (fun K hK => ?_); rotate_left; (simp only [gA, gB, gC]; exact rfl); rfl
    go_wp2_with (fail)
    refine (printed_any (P q) ⟨(q : Int), s, bk⟩ _ (HPT.out.kept (Below.refl _ _).drew) hnq (HC.out q hq) hvf).mono ?_
    rintro e w3 ⟨a3, c3, rfl, ho, hb3⟩
    have HO := Lib.hid (own_base ho (show w.heap.size ≤ w1.drew.heap.size from HB1.out.size))
    replace hb3 := undrew' hb3
    have B3 := Lib.hid (HB1.out.trans (hb3.mono HB1.out.size))
    refine hK.out _ _ (HS0.out.next hb3) (fun hHeld3 => ?_)
    clear hK K hb3 ho hHeld
    have hHeld := hHeld3
    clear hHeld3
    try simp only [Act.put, pB, pC, pD]
    refine tkH (by assumption) 7 (oi := ?_) (v := ?_) ?_ ?_ ?_ ?_ ?_ ?_ ?_ ?_; rotate_left 2; (simp only [gA, gB, gC]; exact rfl); kernel_rfl; kernel_rfl; kernel_rfl; exact fun _ _ _ h => h; rfl; (intro w' hSw; (obtain ⟨j0, j1, j2, j3, j4, j5, j6, j7⟩ := hSw);go_simp; with_reducible rfl); simp only [Act.put, pB, pC, pD]
    refine tkH (by assumption) 8 (oi := ?_) (v := ?_) ?_ ?_ ?_ ?_ ?_ ?_ ?_ ?_; rotate_left 2; (simp only [gA, gB, gC]; exact rfl); kernel_rfl; kernel_rfl; kernel_rfl; exact fun _ _ _ h => h; rfl; (intro w' hSw; (obtain ⟨j0, j1, j2, j3, j4, j5, j6, j7⟩ := hSw);go_simp; with_reducible rfl); simp only [Act.put, pB, pC, pD]
    refine wpAnyH_done (by kernel_rfl) ?_ _
    clear hHeld
    go_wp2_with (fail)
    exact bodyPost_ret (v := .tuple #[.slice a3 (prN (P q)) c3, .int .i64 0]) (by simp [results, Try.results6, go_sem]) rfl ⟨fun _ => ⟨_, _, rfl, HO.out⟩, fun h => absurd HZ.out h, B3.out⟩
  · have hz' : (oneF m P ⟨p, s, bk⟩ != 0) = true := by simpa using hz
    have HZ := Lib.hid hz
    clear hz
    go_wp2_with (fail)
    exact bodyPost_ret (v := .tuple #[.slice none 0 0, .int .i64 (oneF m P ⟨p, s, bk⟩)]) (by simp [results, Try.results6, go_sem]) rfl ⟨fun h => absurd h HZ.out, fun _ => rfl, HB1.out⟩
end Go.Proofs.Ytcahjkaphpeobaa

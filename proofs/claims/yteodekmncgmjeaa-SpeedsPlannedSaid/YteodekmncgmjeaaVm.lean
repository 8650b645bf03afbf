/- Speeds that keep the limits: the program. -/
import Derived.Test.YteodekmncgmjeaaVl
set_option linter.unusedSimpArgs false
set_option linter.unusedVariables false
namespace Go.Proofs.Yteodekmncgmjeaa
open Go.RowKit

def jnOk (u v g : Int) : Bool := decide (u * u - v * v ≤ g ∧ v * v - u * u ≤ g)
set_option maxRecDepth 100000 in
theorem joins_any (u v l m c : Int) (w : World) (hu : 0 ≤ u ∧ u ≤ 1000000) (hv : 0 ≤ v ∧ v ≤ 1000000) (hc : 1 ≤ c ∧ c ≤ 10000000) (hl : 1 ≤ l ∧ l ≤ 200000) :
    Calls Try.prog 46 #[.int .i64 u, .int .i64 v, .agg #[.int .i64 l, .int .i64 m], .int .i64 c] w fun e w' => e = .returned (.bool (jnOk u v (gainZ c l))) ∧ Below w.heap.size w w' := by
  have hs := bnd_sq (o := v) (by omega) (by omega)
  have hs' := bnd_sq (o := u) (by omega) (by omega)
  have e1 : IntKind.i64.wrap (v * v) = v * v := i64w (by omega)
  have e0 : IntKind.i64.wrap (u * u) = u * u := i64w (by omega)
  have e3 : IntKind.i64.wrap (v * v - u * u) = v * v - u * u := i64w (by omega)
  have e4 : IntKind.i64.wrap (-(v * v - u * u)) = u * u - v * v := by rw [i64w (by omega)]; omega
  have e5 : -(v * v - u * u) = u * u - v * v := by omega
  have e6 : IntKind.i64.wrap (u * u - v * v) = u * u - v * v := i64w (by omega)
  go_enter Try.func46, Try.ntmps46
  have r0 : (w.alloc (.cells #[.int .i64 l, .int .i64 m] 49)).cell? ⟨w.heap.size, 0, none⟩ = some (.int .i64 l) := by simp [go_sem]
  have r1 : (w.alloc (.cells #[.int .i64 l, .int .i64 m] 49)).cell? ⟨w.heap.size, 1, none⟩ = some (.int .i64 m) := by simp [go_sem]
  have B0 := Lib.hid (show Below w.heap.size w (w.alloc (.cells #[.int .i64 l, .int .i64 m] 49)) from (by repeat (first | exact Below.refl _ _ | assumption | refine Below.drew ?_ | refine bdrewN ?_ _ | refine Below.setCell ?_ (by first | omega | (simp <;> omega)) _ | refine Below.alloc ?_ (by first | omega | (simp <;> omega)) _)))
  obtain ⟨d, hd⟩ : ∃ d, (if u * u - v * v > v * v - u * u then u * u - v * v else v * v - u * u) = d := ⟨_, rfl⟩
  have HD := Lib.hid hd
  go_wp2_with (fail)
  generalize (w.alloc (.cells #[.int .i64 l, .int .i64 m] 49)) = w0 at *
  refine (gain_any l m c w0 hc hl).mono ?_
  rintro e w1 ⟨rfl, hb1⟩
  have B1 := Lib.hid (B0.out.trans (hb1.mono B0.out.size))
  clear hb1 B0
  go_wp2_with (fail)
  go_ret
  refine ⟨?_, B1.out⟩
  have key : (d ≤ gainZ c l) ↔ (u * u - v * v ≤ gainZ c l ∧ v * v - u * u ≤ gainZ c l) := by rw [← HD.out]; split <;> omega
  exact congrArg (fun b => Ending.returned (.bool b)) (decide_eq_decide.2 key)
/-- Speeds that keep the limits. -/
noncomputable def keptB (n : Nat) (L M C : Nat → Int) (c : Int) (V : Nat → Int) : Bool := decide ((∀ i, i < n + 1 → 0 ≤ V i ∧ V i ≤ bndZ n M C i) ∧ ∀ i, i < n → jnOk (V i) (V (i + 1)) (gainZ c (L i)) = true)
theorem keptB_no1 {n : Nat} {L M C : Nat → Int} {c : Int} {V : Nat → Int} {i : Nat} (hi : i < n + 1) (h : ¬ (0 ≤ V i ∧ V i ≤ bndZ n M C i)) : keptB n L M C c V = false := by
  unfold keptB; rw [decide_eq_false_iff_not]; intro h2; exact h (h2.1 i hi)
theorem keptB_no2 {n : Nat} {L M C : Nat → Int} {c : Int} {V : Nat → Int} {i : Nat} (hi : i < n) (h : jnOk (V i) (V (i + 1)) (gainZ c (L i)) = false) : keptB n L M C c V = false := by
  unfold keptB; rw [decide_eq_false_iff_not]; intro h2; rw [h2.2 i hi] at h; cases h
theorem keptB_yes {n : Nat} {L M C : Nat → Int} {c : Int} {V : Nat → Int} (h1 : ∀ i, i < n + 1 → 0 ≤ V i ∧ V i ≤ bndZ n M C i) (h2 : ∀ i, i < n → jnOk (V i) (V (i + 1)) (gainZ c (L i)) = true) : keptB n L M C c V = true := by
  unfold keptB; rw [decide_eq_true_eq]; exact ⟨h1, h2⟩
set_option maxRecDepth 100000 in
set_option maxHeartbeats 8000000 in
theorem keep_any (a : Option Addr) (n cl : Nat) (L M : Nat → Int) (ac : Option Addr) (m cc : Nat) (C : Nat → Int) (av : Option Addr) (cv : Nat) (V : Nat → Int) (c : Int) (w : World) (hn : n ≤ 100) (hp : LegsR w a n L M) (hc : IntsR w ac m C) (hv : IntsR w av (n + 1) V) (ok : MOk n L M m C c) :
    Calls Try.prog 31 #[.slice a n cl, .slice ac m cc, .slice av (n + 1) cv, .int .i64 c] w fun e w' => e = .returned (.bool (keptB n L M C c V)) ∧ Below w.heap.size w w' := by
  have HC := Lib.hid hc
  have HP := Lib.hid hp
  have OK := Lib.hid ok
  obtain ⟨b, off, rfl, hb, hd⟩ : ∃ b off, a = some ⟨b, off, none⟩ ∧ b < w.heap.size ∧ ∀ i, i < n → w.cell? ⟨b, off + i * 2, none⟩ = some (.int .i64 (L i)) ∧ w.cell? ⟨b, off + i * 2 + 1, none⟩ = some (.int .i64 (M i)) := by
    rcases hp with h | h
    · have := ok.pos; omega
    · exact h
  obtain ⟨bv, ov, rfl, hbv, hdv⟩ : ∃ b off, av = some ⟨b, off, none⟩ ∧ b < w.heap.size ∧ ∀ i, i < n + 1 → w.cell? ⟨b, off + i, none⟩ = some (.int .i64 (V i)) := by
    rcases hv with h | h
    · omega
    · exact h
  have HD := Lib.hid hd
  have HV := Lib.hid hdv
  clear hc hp hd ok hv hdv
  go_enter Try.func31, Try.ntmps31
  go_wp2_with (fail)
  refine (bounds_any (some ⟨b, off, none⟩) n cl L M ac m cc C _ hn OK.out.kn HP.out HC.out).mono ?_
  rintro e w1 ⟨g, cap, rfl, hown, hgl, hb1⟩
  have B1 := Lib.hid hb1
  have HG := Lib.hid (blk_of_own hown)
  clear hown hb1
  go_wp2_with (fail)
  go_loopw [17] (fun i wr => ∃ t : Nat, t ≤ n + 1 ∧ i = .int .i64 t ∧ (∀ j, j < t → 0 ≤ V j ∧ V j ≤ bndZ n M C j) ∧ Below w1.heap.size w1 wr) (fun i _ => n + 1 - (intOf i).toNat)
  case atStart => exact ⟨0, by omega, rfl, fun j hj => by omega, Below.refl _ _⟩
  case round =>
    obtain ⟨t, ht, rfl, hj, hbel⟩ := hrel
    have HJ := Lib.hid hj
    have HB := Lib.hid hbel
    have hsz := hbel.size
    have hs1 := B1.out.size
    clear hj hbel
    by_cases hlt : t < n + 1
    · have c0 := cellk (B1.out.trans (HB.out.mono hs1)) hbv (HV.out t hlt)
      have c1 := cellk HB.out hgl (HG.out.cell hlt)
      have hgw : g < wr.heap.size := by omega
      have hbw : bv < wr.heap.size := by omega
      have hlt' : (t : Int) < (n : Int) + 1 := by omega
      by_cases h1 : V t < 0
      · have R := Lib.hid (keptB_no1 (L := L) (M := M) (C := C) (c := c) (V := V) hlt (by omega))
        go_wp2_with (fail)
        go_ret
        exact ⟨by rw [R.out]; rfl, B1.out.trans (HB.out.mono hs1)⟩
      · have h1' : decide (V t < 0) = false := by simpa using h1
        by_cases h2 : bndZ n M C t < V t
        · have R := Lib.hid (keptB_no1 (L := L) (M := M) (C := C) (c := c) (V := V) hlt (by omega))
          go_wp2_with (fail)
          go_ret
          exact ⟨by rw [R.out]; rfl, B1.out.trans (HB.out.mono hs1)⟩
        · have h2' : decide (bndZ n M C t < V t) = false := by simpa using h2
          have HS := Lib.hid (show ∀ j, j < t + 1 → 0 ≤ V j ∧ V j ≤ bndZ n M C j from fun j hj => by
            rcases Nat.lt_or_ge j t with h | h
            · exact HJ.out j h
            · obtain rfl : j = t := by omega
              omega)
          go_wp2_with (fail)
          go_roundw
          case rel => exact ⟨t + 1, by omega, by go_num, HS.out, HB.out⟩
          case measure => simp [intOf]; omega
    · obtain rfl : t = n + 1 := by omega
      have B2 := Lib.hid (B1.out.trans (HB.out.mono hs1))
      have hz : ((n + 1 : Nat) : Int) = (n : Int) + 1 := by omega
      clear HB HG B1 hgl hs1 hsz
      rw [hz]
      clear hz
      go_wp2_with (fail)
      generalize wr = w2 at *
      go_loopw [38] (fun i wr => ∃ t : Nat, t ≤ n ∧ i = .int .i64 t ∧ (∀ j, j < t → jnOk (V j) (V (j + 1)) (gainZ c (L j)) = true) ∧ Below w.heap.size w wr) (fun i _ => n - (intOf i).toNat)
      case atStart => exact ⟨0, by omega, rfl, fun j hj => by omega, B2.out⟩
      case round =>
        clear B2
        obtain ⟨t, ht, rfl, hj, hbel⟩ := hrel
        have HN := Lib.hid hj
        have HB := Lib.hid hbel
        have hsz := hbel.size
        clear hj hbel
        by_cases hlt : t < n
        · have l0 := cellk HB.out hb (HD.out t hlt).1
          have l1 := cellk HB.out hb (HD.out t hlt).2
          have v0 := cellk HB.out hbv (HV.out t (by omega))
          have v1 := cellk HB.out hbv (HV.out (t + 1) (by omega))
          have hbw : b < wr.heap.size := by omega
          have hbvw : bv < wr.heap.size := by omega
          have OL := OK.out.lg t hlt
          have hj0 := HJ.out t (by omega)
          have hj1 := HJ.out (t + 1) (by omega)
          have k0 := OK.out.bnd t (by omega)
          have k1 := OK.out.bnd (t + 1) (by omega)
          have XB := Lib.hid (show (0 ≤ V t ∧ V t ≤ 1000000) ∧ (0 ≤ V (t + 1) ∧ V (t + 1) ≤ 1000000) by omega)
          have CH := Lib.hid OK.out.ch
          have LB := Lib.hid (show 1 ≤ L t ∧ L t ≤ 200000 by omega)
          have hw1 : IntKind.i64.wrap ((t : Int) + 1) = (t : Int) + 1 := i64w (by omega)
          have ht1 : (t : Int) < (n : Int) + 1 := by omega
          have ht3 : (0 : Int) ≤ (t : Int) + 1 := by omega
          have ht4 : (t : Int) + 1 < (n : Int) + 1 := by omega
          have ha : off + t * 2 = off + t * 2 := rfl
          have hb9 : Below wr.heap.size wr (wr.alloc (.cells #[.int .i64 (L t), .int .i64 (M t)] 49)) := (Below.refl _ _).alloc (Nat.le_refl _) _
          have hq9 := heap_alloc_new wr (.cells #[.int .i64 (L t), .int .i64 (M t)] 49)
          have k90 := cell_of hq9 (i := 0) rfl
          have k91 := cell_of hq9 (i := 1) rfl
          have e0 := cellk hb9 hbvw v0
          have e1 := cellk hb9 hbvw v1
          have B3 := Lib.hid (HB.out.trans (hb9.mono hsz))
          have l9 := lt_of_heap hq9
          have lv : bv < (wr.alloc (.cells #[.int .i64 (L t), .int .i64 (M t)] 49)).heap.size := by simp; omega
          clear hb9 hq9 OL hj0 hj1 k0 k1
          go_wp2_with (fail)
          generalize (wr.alloc (.cells #[.int .i64 (L t), .int .i64 (M t)] 49)) = W0 at *
          obtain ⟨q9, hq⟩ : ∃ q, q = wr.heap.size := ⟨_, rfl⟩
          rw [← hq] at k90 k91 l9 ⊢
          clear hq l0 l1 v0 v1
          have HTN := Lib.hid hlt
          refine wp_region_held_drew (S := (fun w' => w'.cell? ⟨bv, ov + t, none⟩ = some (.int .i64 (V t)) ∧ w'.cell? ⟨bv, ov + (t + 1), none⟩ = some (.int .i64 (V (t + 1))) ∧ w'.cell? ⟨q9, 0, none⟩ = some (.int .i64 (L t)) ∧ w'.cell? ⟨q9, 1, none⟩ = some (.int .i64 (M t)))) (by kernel_rfl) ⟨e0, e1, k90, k91⟩ (fun hHeld => ?_)
          refine tkH (by assumption) 0 (oi := ?_) (v := ?_) ?_ ?_ ?_ ?_ ?_ ?_ ?_ ?_; rotate_left 2; (simp only [gA, gB, gC]; exact rfl); kernel_rfl; kernel_rfl; kernel_rfl; exact fun _ _ _ h => h; rfl; (intro w' hSw; (try dsimp only at hSw); go_simp; with_reducible rfl); simp only [Act.put, pB, pC, pD]
          refine tkH (by assumption) 1 (oi := ?_) (v := ?_) ?_ ?_ ?_ ?_ ?_ ?_ ?_ ?_; rotate_left 2; (simp only [gA, gB, gC]; exact rfl); kernel_rfl; kernel_rfl; kernel_rfl; exact fun _ _ _ h => h; rfl; (intro w' hSw; (try dsimp only at hSw); go_simp; with_reducible rfl); simp only [Act.put, pB, pC, pD]
          refine tkH (by assumption) 2 (oi := ?_) (v := ?_) ?_ ?_ ?_ ?_ ?_ ?_ ?_ ?_; rotate_left 2; (simp only [gA, gB, gC]; exact rfl); kernel_rfl; kernel_rfl; kernel_rfl; exact fun _ _ _ h => h; rfl; (intro w' hSw; (try dsimp only at hSw); go_simp; with_reducible rfl); simp only [Act.put, pB, pC, pD]
          refine tkH (by assumption) 3 (oi := ?_) (v := ?_) ?_ ?_ ?_ ?_ ?_ ?_ ?_ ?_; rotate_left 2; (simp only [gA, gB, gC]; exact rfl); kernel_rfl; kernel_rfl; kernel_rfl; exact fun _ _ _ h => h; rfl; (intro w' hSw; (try dsimp only at hSw); go_simp; with_reducible rfl); simp only [Act.put, pB, pC, pD]
          refine tkH (by assumption) 4 (oi := ?_) (v := ?_) ?_ ?_ ?_ ?_ ?_ ?_ ?_ ?_; rotate_left 2; (simp only [gA, gB, gC]; exact rfl); kernel_rfl; kernel_rfl; kernel_rfl; exact fun _ _ _ h => h; rfl; (intro w' hSw; (try dsimp only at hSw); go_simp; with_reducible rfl); simp only [Act.put, pB, pC, pD]
          refine tkH (by assumption) 5 (oi := ?_) (v := ?_) ?_ ?_ ?_ ?_ ?_ ?_ ?_ ?_; rotate_left 2; (simp only [gA, gB, gC]; exact rfl); kernel_rfl; kernel_rfl; kernel_rfl; exact fun _ _ _ h => h; rfl; (intro w' hSw; (try dsimp only at hSw); go_simp; with_reducible rfl); simp only [Act.put, pB, pC, pD]
          refine tkH (by assumption) 6 (oi := ?_) (v := ?_) ?_ ?_ ?_ ?_ ?_ ?_ ?_ ?_; rotate_left 2; (simp only [gA, gB, gC]; exact rfl); kernel_rfl; kernel_rfl; kernel_rfl; exact fun _ _ _ h => h; rfl; (intro w' hSw; (try dsimp only at hSw); go_simp; with_reducible rfl); simp only [Act.put, pB, pC, pD]
          refine tkH (by assumption) 7 (oi := ?_) (v := ?_) ?_ ?_ ?_ ?_ ?_ ?_ ?_ ?_; rotate_left 2; (simp only [gA, gB, gC]; exact rfl); kernel_rfl; kernel_rfl; kernel_rfl; exact fun _ _ _ h => h; rfl; (intro w' hSw; (try dsimp only at hSw); go_simp; with_reducible rfl); simp only [Act.put, pB, pC, pD]
          refine tkH (by assumption) 8 (oi := ?_) (v := ?_) ?_ ?_ ?_ ?_ ?_ ?_ ?_ ?_; rotate_left 2; (simp only [gA, gB, gC]; exact rfl); kernel_rfl; kernel_rfl; kernel_rfl; exact fun _ _ _ h => h; rfl; (intro w' hSw; (try dsimp only at hSw); go_simp; with_reducible rfl); simp only [Act.put, pB, pC, pD]
          refine tkH (by assumption) 9 (oi := ?_) (v := ?_) ?_ ?_ ?_ ?_ ?_ ?_ ?_ ?_; rotate_left 2; (simp only [gA, gB, gC]; exact rfl); kernel_rfl; kernel_rfl; kernel_rfl; exact fun _ _ _ h => h; rfl; (intro w' hSw; (try dsimp only at hSw); go_simp; with_reducible rfl); simp only [Act.put, pB, pC, pD]
          refine tkH (by assumption) 10 (oi := ?_) (v := ?_) ?_ ?_ ?_ ?_ ?_ ?_ ?_ ?_; rotate_left 2; (simp only [gA, gB, gC]; exact rfl); kernel_rfl; kernel_rfl; kernel_rfl; exact fun _ _ _ h => h; rfl; (intro w' hSw; (try dsimp only at hSw); go_simp; with_reducible rfl); simp only [Act.put, pB, pC, pD]
          refine onH 11 (oi := ?_) (by kernel_rfl) ?_ ?_ (fun K hK => ?_); rotate_left; (simp only [gA, gB, gC]; exact rfl); rfl
          go_wp2_with (fail)
          refine (joins_any (V t) (V (t + 1)) (L t) (M t) c _ XB.out.1 XB.out.2 CH.out LB.out).mono ?_
          rintro e w5 ⟨rfl, hb5⟩
          have hb6 : Below W0.heap.size W0 w5 := ⟨hb5.os, hb5.tape, hb5.output, hb5.size, hb5.block⟩
          have B5 := Lib.hid (B3.out.trans (hb6.mono B3.out.size))
          replace e0 := cellk hb6 lv e0
          replace e1 := cellk hb6 lv e1
          replace k90 := cellk hb6 l9 k90
          replace k91 := cellk hb6 l9 k91
          clear hb5 hb6
          refine hK.out _ _ ⟨e0, e1, k90, k91⟩ (fun hHeldN => ?_)
          clear hK K hHeld
          have hHeld := hHeldN
          clear hHeldN
          try simp only [Act.put, pB, pC, pD]
          refine tkH (by assumption) 12 (oi := ?_) (v := ?_) ?_ ?_ ?_ ?_ ?_ ?_ ?_ ?_; rotate_left 2; (simp only [gA, gB, gC]; exact rfl); kernel_rfl; kernel_rfl; kernel_rfl; exact fun _ _ _ h => h; rfl; (intro w' hSw; (try dsimp only at hSw); go_simp; with_reducible rfl); simp only [Act.put, pB, pC, pD]
          refine wpAnyH_done (by kernel_rfl) ?_ _
          rcases hq : jnOk (V t) (V (t + 1)) (gainZ c (L t)) with _ | _
          · have R := Lib.hid (keptB_no2 (M := M) (C := C) HTN.out hq)
            clear hq
            go_wp2_with (fail)
            go_ret
            exact ⟨by rw [R.out]; rfl, B5.out⟩
          · have HS := Lib.hid (show ∀ j, j < t + 1 → jnOk (V j) (V (j + 1)) (gainZ c (L j)) = true from fun j hj => by
              rcases Nat.lt_or_ge j t with h | h
              · exact HN.out j h
              · obtain rfl : j = t := by omega
                exact hq)
            clear hq
            go_wp2_with (fail)
            go_roundw
            case rel => exact ⟨t + 1, by omega, by go_num, HS.out, B5.out⟩
            case measure => simp [intOf]; omega
        · obtain rfl : n = t := by omega
          have R := Lib.hid (keptB_yes HJ.out HN.out)
          go_wp2_with (fail)
          go_ret
          exact ⟨by rw [R.out]; rfl, HB.out⟩
end Go.Proofs.Yteodekmncgmjeaa

/- SpeedsOf of the reference. -/
import Derived.Test.YtjjedffmcloahaaVk
import Derived.Deep.Cut
import Derived.Deep.CutRange
set_option linter.unusedSimpArgs false
set_option linter.unusedVariables false
namespace Go.Proofs.Ytjjedffmcloahaa
open Go.RowKit
attribute [local go_sem] min3V min2V
def isT (v : Value) : Bool := match v with | .bool b => b | _ => false
set_option maxRecDepth 100000 in
set_option maxHeartbeats 16000000 in
theorem speedsOf_any (a : Option Addr) (n cl : Nat) (L M : Nat → Int) (ac : Option Addr) (m cc : Nat) (C : Nat → Int) (c : Int) (w : World) (hn : n ≤ 100) (hp : LegsR w a n L M) (hc : IntsR w ac m C) (ok : MOk n L M m C c) :
    Calls Try.prog 38 #[.slice a n cl, .slice ac m cc, .int .i64 c] w fun e w' => ∃ g, e = .returned (.slice (some ⟨g, 0, none⟩) (n + 1) (n + 1)) ∧ w'.ownsRow w.heap.size 3 1 (.slice (some ⟨g, 0, none⟩) (n + 1) (n + 1)) (n + 1) (vs (spZ n L M C c) (n + 1)) ∧ Below w.heap.size w w' := by
  have HC := Lib.hid hc
  have OK := Lib.hid ok
  obtain ⟨b, off, rfl, hb, hd⟩ : ∃ b off, a = some ⟨b, off, none⟩ ∧ b < w.heap.size ∧ ∀ i, i < n → w.cell? ⟨b, off + i * 2, none⟩ = some (.int .i64 (L i)) ∧ w.cell? ⟨b, off + i * 2 + 1, none⟩ = some (.int .i64 (M i)) := by
    rcases hp with h | h
    · have := ok.pos; omega
    · exact h
  have HD := Lib.hid hd
  have hmn := ok.kn
  clear hc hp hd ok
  obtain ⟨MC, hMC, hMS, hmk⟩ := mk_intsV n hn
  have hw0 : IntKind.i64.wrap ((n : Int) + 1) = (n : Int) + 1 := i64w (by omega)
  go_enter Try.func38, Try.ntmps38
  go_wp2_with (fail)
  have HR0 : Hid (RS w w.heap.size n (fun _ => 0) (w.alloc (.cells MC 3))) := Lib.hid ⟨⟨MC, heap_alloc_new w _, hMC⟩, (by repeat (first | exact Below.refl _ _ | assumption | refine Below.drew ?_ | refine bdrewN ?_ _ | refine Below.setCell ?_ (by first | omega | (simp <;> omega)) _ | refine Below.alloc ?_ (by first | omega | (simp <;> omega)) _)), Nat.le_refl _, ⟨MC, heap_alloc_new w _, hMS⟩⟩
  clear hmk hMC hMS
  generalize (w.alloc (.cells MC 3)) = w1 at *
  obtain ⟨g, hg⟩ : ∃ g, g = w.heap.size := ⟨_, rfl⟩
  rw [← hg] at HR0 ⊢
  have HG := Lib.hid hg
  clear hg
  go_loopw [22] (fun i wr => ∃ t : Nat, t ≤ m ∧ i = .int .i64 t ∧ RS w g n (fun j => if j ≤ t then bndZ n M C j else 0) wr) (fun i _ => m - (intOf i).toNat)
  case atStart => exact ⟨0, by omega, rfl, HR0.out.ext (fun i hi => by
    show 0 = if i ≤ 0 then _ else _
    split
    · obtain rfl : i = 0 := by omega
      exact bndZ_0.symm
    · rfl)⟩
  case round =>
    clear HR0
    obtain ⟨t, ht, rfl, hrs⟩ := hrel
    have HR := Lib.hid hrs
    clear hrs
    by_cases hlt : t < m
    · rcases HC.out with h0 | ⟨bc, oc, rfl, hbc, hdc⟩
      · omega
      have c0 := cellk HR.out.b hbc (hdc t hlt)
      have l0 := cellk HR.out.b hb (HD.out t (by omega)).2
      have l1 := cellk HR.out.b hb (HD.out (t + 1) (by omega)).2
      have hbl : b < wr.heap.size := Nat.lt_of_lt_of_le hb HR.out.b.size
      have hbcl : bc < wr.heap.size := Nat.lt_of_lt_of_le hbc HR.out.b.size
      have hw1 : IntKind.i64.wrap ((t : Int) + 1) = (t : Int) + 1 := i64w (by omega)
      have ht1 : t < n := by omega
      have hmin : min (C t) (min (M t) (M (t + 1))) = bndZ n M C (t + 1) := by rw [bndZ_mid (by omega), Int.min_assoc]
      have ht3 : (0 : Int) ≤ (t : Int) + 1 := by omega
      have ht4 : (t : Int) + 1 < (n : Int) := by omega
      have ht5 : (t : Int) + 1 < (n : Int) + 1 := by omega
      have ng : (⟨g, t + 1, none⟩ : Addr).block ≠ b := by show g ≠ b; have := HR.out.g0; omega
      have fy := HR.out.bl.frozen (t + 1)
      have ey := HR.out.bl.cell (i := t + 1) (by omega)
      have lg := HR.out.bl.lt
      clear hdc
      go_wp2_with (fail)
      refine wp_region_held_drew (S := (fun w' => w'.cell? ⟨b, off + t * 2 + 1, none⟩ = some (.int .i64 (M t)) ∧ w'.cell? ⟨b, off + (t + 1) * 2 + 1, none⟩ = some (.int .i64 (M (t + 1))))) (by kernel_rfl) ⟨l0, l1⟩ (fun hHeld => ?_)
      refine tkH (by assumption) 0 (oi := ?_) (v := ?_) ?_ ?_ ?_ ?_ ?_ ?_ ?_ ?_; rotate_left 2; (simp only [gA, gB, gC]; exact rfl); kernel_rfl; kernel_rfl; kernel_rfl; exact fun _ _ _ h => h; rfl; (intro w' hSw; (try dsimp only at hSw); go_simp; with_reducible rfl); simp only [Act.put, pB, pC, pD]
      refine tkH (by assumption) 1 (oi := ?_) (v := ?_) ?_ ?_ ?_ ?_ ?_ ?_ ?_ ?_; rotate_left 2; (simp only [gA, gB, gC]; exact rfl); kernel_rfl; kernel_rfl; kernel_rfl; exact fun _ _ _ h => h; rfl; (intro w' hSw; (try dsimp only at hSw); go_simp; with_reducible rfl); simp only [Act.put, pB, pC, pD]
      refine tkH (by assumption) 2 (oi := ?_) (v := ?_) ?_ ?_ ?_ ?_ ?_ ?_ ?_ ?_; rotate_left 2; (simp only [gA, gB, gC]; exact rfl); kernel_rfl; kernel_rfl; kernel_rfl; exact fun _ _ _ h => h; rfl; (intro w' hSw; (try dsimp only at hSw); go_simp; with_reducible rfl); simp only [Act.put, pB, pC, pD]
      refine tkH (by assumption) 3 (oi := ?_) (v := ?_) ?_ ?_ ?_ ?_ ?_ ?_ ?_ ?_; rotate_left 2; (simp only [gA, gB, gC]; exact rfl); kernel_rfl; kernel_rfl; kernel_rfl; exact fun _ _ _ h => h; rfl; (intro w' hSw; (try dsimp only at hSw); go_simp; with_reducible rfl); simp only [Act.put, pB, pC, pD]
      refine tkH (by assumption) 4 (oi := ?_) (v := ?_) ?_ ?_ ?_ ?_ ?_ ?_ ?_ ?_; rotate_left 2; (simp only [gA, gB, gC]; exact rfl); kernel_rfl; kernel_rfl; kernel_rfl; exact fun _ _ _ h => h; rfl; (intro w' hSw; (try dsimp only at hSw); go_simp; with_reducible rfl); simp only [Act.put, pB, pC, pD]
      refine tkH (by assumption) 5 (oi := ?_) (v := ?_) ?_ ?_ ?_ ?_ ?_ ?_ ?_ ?_; rotate_left 2; (simp only [gA, gB, gC]; exact rfl); kernel_rfl; kernel_rfl; kernel_rfl; exact fun _ _ _ h => h; rfl; (intro w' hSw; (try dsimp only at hSw); go_simp; with_reducible rfl); simp only [Act.put, pB, pC, pD]
      refine tkH (by assumption) 6 (oi := ?_) (v := ?_) ?_ ?_ ?_ ?_ ?_ ?_ ?_ ?_; rotate_left 2; (simp only [gA, gB, gC]; exact rfl); kernel_rfl; kernel_rfl; kernel_rfl; exact fun _ _ _ h => h; rfl; (intro w' hSw; (try dsimp only at hSw); go_simp; with_reducible rfl); simp only [Act.put, pB, pC, pD]
      refine tkH (by assumption) 7 (oi := ?_) (v := ?_) ?_ ?_ ?_ ?_ ?_ ?_ ?_ ?_; rotate_left 2; (simp only [gA, gB, gC]; exact rfl); kernel_rfl; kernel_rfl; kernel_rfl; exact fun _ _ _ h => h; rfl; (intro w' hSw; (try dsimp only at hSw); go_simp; with_reducible rfl); simp only [Act.put, pB, pC, pD]
      refine tkH (by assumption) 8 (oi := ?_) (v := ?_) ?_ ?_ ?_ ?_ ?_ ?_ ?_ ?_; rotate_left 2; (simp only [gA, gB, gC]; exact rfl); kernel_rfl; kernel_rfl; kernel_rfl; exact fun _ _ _ h => h; rfl; (intro w' hSw; (try dsimp only at hSw); go_simp; with_reducible rfl); simp only [Act.put, pB, pC, pD]
      refine tkH (by assumption) 9 (oi := ?_) (v := ?_) ?_ ?_ ?_ ?_ ?_ ?_ ?_ ?_; rotate_left 2; (simp only [gA, gB, gC]; exact rfl); kernel_rfl; kernel_rfl; kernel_rfl; exact fun _ _ _ h => h; rfl; (intro w' hSw; (try dsimp only at hSw); go_simp; with_reducible rfl); simp only [Act.put, pB, pC, pD]
      refine tkH (by assumption) 10 (oi := ?_) (v := ?_) ?_ ?_ ?_ ?_ ?_ ?_ ?_ ?_; rotate_left 2; (simp only [gA, gB, gC]; exact rfl); kernel_rfl; kernel_rfl; kernel_rfl; exact fun _ _ _ h => h; rfl; (intro w' hSw; (try dsimp only at hSw); go_simp; with_reducible rfl); simp only [Act.put, pB, pC, pD]
      refine tkH (by assumption) 11 (oi := ?_) (v := ?_) ?_ ?_ ?_ ?_ ?_ ?_ ?_ ?_; rotate_left 2; (simp only [gA, gB, gC]; exact rfl); kernel_rfl; kernel_rfl; kernel_rfl; exact fun _ _ _ h => h; rfl; (intro w' hSw; (try dsimp only at hSw); go_simp; with_reducible rfl); simp only [Act.put, pB, pC, pD]
      refine tkH (by assumption) 12 (oi := ?_) (v := ?_) ?_ ?_ ?_ ?_ ?_ ?_ ?_ ?_; rotate_left 2; (simp only [gA, gB, gC]; exact rfl); kernel_rfl; kernel_rfl; kernel_rfl; exact fun _ _ _ h => h; rfl; (intro w' hSw; (try dsimp only at hSw); go_simp; with_reducible rfl); simp only [Act.put, pB, pC, pD]
      refine tkH (by assumption) 13 (oi := ?_) (v := ?_) ?_ ?_ ?_ ?_ ?_ ?_ ?_ ?_; rotate_left 2; (simp only [gA, gB, gC]; exact rfl); kernel_rfl; kernel_rfl; kernel_rfl; exact fun _ _ _ h => h; rfl; (intro w' hSw; (try dsimp only at hSw); go_simp; with_reducible rfl); simp only [Act.put, pB, pC, pD]
      refine tkH (by assumption) 14 (oi := ?_) (v := ?_) ?_ ?_ ?_ ?_ ?_ ?_ ?_ ?_; rotate_left 2; (simp only [gA, gB, gC]; exact rfl); kernel_rfl; kernel_rfl; kernel_rfl; exact fun _ _ _ h => h; rfl; (intro w' hSw; (try dsimp only at hSw); go_simp; with_reducible rfl); simp only [Act.put, pB, pC, pD]
      refine tkH (by assumption) 15 (oi := ?_) (v := ?_) ?_ ?_ ?_ ?_ ?_ ?_ ?_ ?_; rotate_left 2; (simp only [gA, gB, gC]; exact rfl); kernel_rfl; kernel_rfl; kernel_rfl; exact fun _ _ _ h => h; rfl; (intro w' hSw; (try dsimp only at hSw); go_simp; with_reducible rfl); simp only [Act.put, pB, pC, pD]
      refine tkH (by assumption) 16 (oi := ?_) (v := ?_) ?_ ?_ ?_ ?_ ?_ ?_ ?_ ?_; rotate_left 2; (simp only [gA, gB, gC]; exact rfl); kernel_rfl; kernel_rfl; kernel_rfl; exact fun _ _ _ h => h; rfl; (intro w' hSw; (try dsimp only at hSw); go_simp; with_reducible rfl); simp only [Act.put, pB, pC, pD]
      refine onH 17 (oi := ?_) (by kernel_rfl) ?_ ?_ (fun K hK => ?_); rotate_left; (simp only [gA, gB, gC]; exact rfl); rfl
      go_wp2_with (fail)
      have HS := Lib.hid (HR.out.set (i := t + 1) (by omega) (bndZ n M C (t + 1)))
      refine hK.out _ _ ⟨(sc_other (ne_block ng)).trans l0, (sc_other (ne_block ng)).trans l1⟩ (fun hHeldN => ?_)
      clear hK K hHeld
      have hHeld := hHeldN
      clear hHeldN
      try simp only [Act.put, pB, pC, pD]
      refine wpAnyH_done (by kernel_rfl) ?_ _
      go_wp2_with (fail)
      go_roundw
      case rel => exact ⟨t + 1, by omega, by go_num, RS.ext (HS.out.next ⟨rfl, rfl, rfl, Nat.le_refl _, fun _ _ => rfl⟩) (fun i hi => by
        unfold updV
        try dsimp only
        by_cases e : i = t + 1
        · rw [if_pos e, if_pos (by omega), e]
        · rw [if_neg e]
          by_cases h : i ≤ t
          · rw [if_pos h, if_pos (by omega)]
          · rw [if_neg h, if_neg (by omega)])⟩
      case measure => simp [intOf]; omega
    · obtain rfl : m = t := by omega
      have HR2 := Lib.hid (HR.out.ext (u := bndZ n M C) (fun i hi => by
        try dsimp only
        by_cases h : i ≤ m
        · rw [if_pos h]
        · rw [if_neg h, show i = n by omega]; exact bndZ_n.symm))
      have HB2 : Hid (Bet n L M C c (bndZ n M C)) := Lib.hid (fun j hj => ⟨(OK.out.sp j hj).2.1, Int.le_refl _⟩)
      clear HR
      go_wp2_with (fail)
      go_loopw [10] (fun lv wr => ∃ (bl : Bool) (v : Nat → Int), lv = .bool bl ∧ RS w g n v wr ∧ Bet n L M C c v ∧ (bl = false → ∀ j, j < n → Fits L c v j)) (fun lv wr => if isT lv = true then (sumW wr g n).toNat + 1 else 0)
      case atStart => exact ⟨true, _, rfl, HR2.out, HB2.out, fun e => by cases e⟩
      case round =>
        clear HR2 HB2
        obtain ⟨bl, v0, rfl, hrs0, hbt0, hfit0⟩ := hrel
        rcases bl with _ | _
        · have HR3 := Lib.hid (hrs0.ext (fun i hi => hbt0.done OK.out (hfit0 rfl) i (by omega)))
          clear hrs0 hbt0 hfit0
          go_wp2_with (fail)
          go_ret
          exact ⟨g, rfl, by rw [← HG.out]; exact own_of HR3.out.bl HR3.out.sz (Nat.le_refl _) (by omega), HR3.out.b⟩
        · clear hfit0
          have HR0 := Lib.hid hrs0
          have HB0 := Lib.hid hbt0
          have HSW := Lib.hid (sumW_of hrs0.bl)
          clear hrs0 hbt0
          generalize wr = wO at *
          go_wp2_with (fail)
          go_loopw [10, 48] (fun lv i wr => ∃ (bl : Bool) (t : Nat) (v : Nat → Int), lv = .bool bl ∧ i = .int .i64 t ∧ t ≤ n ∧ RS w g n v wr ∧ IN n L M C c v0 bl t v) (fun _ i _ => n - (intOf i).toNat)
          case atStart => exact ⟨false, 0, v0, rfl, rfl, by omega, HR0.out, ⟨HB0.out, fun _ => ⟨fun _ _ => rfl, fun j hj => by omega⟩, fun e => by cases e⟩⟩
          case round =>
            clear HR0
            obtain ⟨bl, t, v, rfl, rfl, ht, hrs, hin⟩ := hrel
            have HR := Lib.hid hrs
            have HI := Lib.hid hin
            clear hrs hin
            by_cases hlt : t < n
            · have l0 := cellk HR.out.b hb (HD.out t hlt).1
              have l1 := cellk HR.out.b hb (HD.out t hlt).2
              have hbl : b < wr.heap.size := Nat.lt_of_lt_of_le hb HR.out.b.size
              have OL := OK.out.lg t hlt
              have hgn := gainZ_bnd OK.out.ch ⟨OL.1, OL.2.1⟩
              have hch := OK.out.ch
              have e1 : IntKind.i64.wrap (2 * c) = 2 * c := i64w (by omega)
              have e2 : IntKind.i64.wrap (2 * c * L t) = gainZ c (L t) := i64w (show -9000000000000000000 ≤ gainZ c (L t) ∧ gainZ c (L t) ≤ 9000000000000000000 by omega)
              have hpx := HI.out.bt.pos OK.out (j := t) (by omega)
              have hpy := HI.out.bt.pos OK.out (j := t + 1) (by omega)
              have HF1 := Lib.hid (HI.out.bt.fwd OK.out hlt)
              have HF2 := Lib.hid (HI.out.bt.bwd OK.out hlt)
              have hw1 : IntKind.i64.wrap ((t : Int) + 1) = (t : Int) + 1 := i64w (by omega)
              have ht1 : (t : Int) < (n : Int) + 1 := by omega
              have ht3 : (0 : Int) ≤ (t : Int) + 1 := by omega
              have ht4 : (t : Int) + 1 < (n : Int) + 1 := by omega
              have hb9 : Below wr.heap.size wr (wr.alloc (.cells #[.int .i64 (L t), .int .i64 (M t)] 37)) := (Below.refl _ _).alloc (Nat.le_refl _) _
              have HW := Lib.hid (HR.out.next hb9)
              clear HR OL hch hb9
              go_wp2_with (fail)
              clear l0 l1 e1 e2
              generalize (wr.alloc (.cells #[.int .i64 (L t), .int .i64 (M t)] 37)) = W0 at *
              have ev := HW.out.bl.cell (i := t) (by omega)
              have hsx := bnd_sq (o := v t) (by omega) (by omega)
              have q1 : IntKind.i64.wrap (v t * v t) = v t * v t := i64w (by omega)
              have q2 : IntKind.i64.wrap (v t * v t + gainZ c (L t)) = v t * v t + gainZ c (L t) := i64w (by omega)
              refine wp_region_held_drew (S := (fun w' => w'.cell? ⟨g, t, none⟩ = some (.int .i64 (v t)))) (by kernel_rfl) ev (fun hHeld => ?_)
              refine tkH (by assumption) 0 (oi := ?_) (v := ?_) ?_ ?_ ?_ ?_ ?_ ?_ ?_ ?_; rotate_left 2; (simp only [gA, gB, gC]; exact rfl); kernel_rfl; kernel_rfl; kernel_rfl; exact fun _ _ _ h => h; rfl; (intro w' hSw; (try dsimp only at hSw); go_simp; with_reducible rfl); simp only [Act.put, pB, pC, pD]
              refine tkH (by assumption) 1 (oi := ?_) (v := ?_) ?_ ?_ ?_ ?_ ?_ ?_ ?_ ?_; rotate_left 2; (simp only [gA, gB, gC]; exact rfl); kernel_rfl; kernel_rfl; kernel_rfl; exact fun _ _ _ h => h; rfl; (intro w' hSw; (try dsimp only at hSw); go_simp; with_reducible rfl); simp only [Act.put, pB, pC, pD]
              refine tkH (by assumption) 2 (oi := ?_) (v := ?_) ?_ ?_ ?_ ?_ ?_ ?_ ?_ ?_; rotate_left 2; (simp only [gA, gB, gC]; exact rfl); kernel_rfl; kernel_rfl; kernel_rfl; exact fun _ _ _ h => h; rfl; (intro w' hSw; (try dsimp only at hSw); go_simp; with_reducible rfl); simp only [Act.put, pB, pC, pD]
              refine tkH (by assumption) 3 (oi := ?_) (v := ?_) ?_ ?_ ?_ ?_ ?_ ?_ ?_ ?_; rotate_left 2; (simp only [gA, gB, gC]; exact rfl); kernel_rfl; kernel_rfl; kernel_rfl; exact fun _ _ _ h => h; rfl; (intro w' hSw; (try dsimp only at hSw); go_simp; with_reducible rfl); simp only [Act.put, pB, pC, pD]
              refine tkH (by assumption) 4 (oi := ?_) (v := ?_) ?_ ?_ ?_ ?_ ?_ ?_ ?_ ?_; rotate_left 2; (simp only [gA, gB, gC]; exact rfl); kernel_rfl; kernel_rfl; kernel_rfl; exact fun _ _ _ h => h; rfl; (intro w' hSw; (try dsimp only at hSw); go_simp; with_reducible rfl); simp only [Act.put, pB, pC, pD]
              refine tkH (by assumption) 5 (oi := ?_) (v := ?_) ?_ ?_ ?_ ?_ ?_ ?_ ?_ ?_; rotate_left 2; (simp only [gA, gB, gC]; exact rfl); kernel_rfl; kernel_rfl; kernel_rfl; exact fun _ _ _ h => h; rfl; (intro w' hSw; (try dsimp only at hSw); go_simp; with_reducible rfl); simp only [Act.put, pB, pC, pD]
              refine tkH (by assumption) 6 (oi := ?_) (v := ?_) ?_ ?_ ?_ ?_ ?_ ?_ ?_ ?_; rotate_left 2; (simp only [gA, gB, gC]; exact rfl); kernel_rfl; kernel_rfl; kernel_rfl; exact fun _ _ _ h => h; rfl; (intro w' hSw; (try dsimp only at hSw); go_simp; with_reducible rfl); simp only [Act.put, pB, pC, pD]
              refine tkH (by assumption) 7 (oi := ?_) (v := ?_) ?_ ?_ ?_ ?_ ?_ ?_ ?_ ?_; rotate_left 2; (simp only [gA, gB, gC]; exact rfl); kernel_rfl; kernel_rfl; kernel_rfl; exact fun _ _ _ h => h; rfl; (intro w' hSw; (try dsimp only at hSw); go_simp; with_reducible rfl); simp only [Act.put, pB, pC, pD]
              refine tkH (by assumption) 8 (oi := ?_) (v := ?_) ?_ ?_ ?_ ?_ ?_ ?_ ?_ ?_; rotate_left 2; (simp only [gA, gB, gC]; exact rfl); kernel_rfl; kernel_rfl; kernel_rfl; exact fun _ _ _ h => h; rfl; (intro w' hSw; (try dsimp only at hSw); go_simp; with_reducible rfl); simp only [Act.put, pB, pC, pD]
              refine tkH (by assumption) 9 (oi := ?_) (v := ?_) ?_ ?_ ?_ ?_ ?_ ?_ ?_ ?_; rotate_left 2; (simp only [gA, gB, gC]; exact rfl); kernel_rfl; kernel_rfl; kernel_rfl; exact fun _ _ _ h => h; rfl; (intro w' hSw; (try dsimp only at hSw); go_simp; with_reducible rfl); simp only [Act.put, pB, pC, pD]
              refine tkH (by assumption) 10 (oi := ?_) (v := ?_) ?_ ?_ ?_ ?_ ?_ ?_ ?_ ?_; rotate_left 2; (simp only [gA, gB, gC]; exact rfl); kernel_rfl; kernel_rfl; kernel_rfl; exact fun _ _ _ h => h; rfl; (intro w' hSw; (try dsimp only at hSw); go_simp; with_reducible rfl); simp only [Act.put, pB, pC, pD]
              refine onH 11 (oi := ?_) (by kernel_rfl) ?_ ?_ (fun K hK => ?_); rotate_left; (simp only [gA, gB, gC]; exact rfl); rfl
              go_wp2_with (fail)
              refine (root_any _ _ (by omega) (by omega)).mono ?_
              rintro e w5 ⟨rfl, rfl⟩
              refine hK.out _ _ hHeld (fun hHeldN => ?_)
              clear hK K hHeld
              have hHeld := hHeldN
              clear hHeldN
              try simp only [Act.put, pB, pC, pD]
              refine tkH (by assumption) 12 (oi := ?_) (v := ?_) ?_ ?_ ?_ ?_ ?_ ?_ ?_ ?_; rotate_left 2; (simp only [gA, gB, gC]; exact rfl); kernel_rfl; kernel_rfl; kernel_rfl; exact fun _ _ _ h => h; rfl; (intro w' hSw; (try dsimp only at hSw); go_simp; with_reducible rfl); simp only [Act.put, pB, pC, pD]
              refine wpAnyH_done (by kernel_rfl) ?_ _
              have HD0 : Below W0.heap.size W0 W0.drew := ⟨rfl, rfl, rfl, Nat.le_refl _, fun _ _ => rfl⟩
              have HW1 := Lib.hid (HW.out.next HD0)
              clear hHeld ev HD0 HW q1 q2 hpx hpy hsx
              generalize W0.drew = W1 at *
              obtain ⟨r1, hr1⟩ : ∃ r, rt (v t * v t + gainZ c (L t)) = r := ⟨_, rfl⟩
              have HR1 := Lib.hid hr1
              rw [hr1]
              clear hr1
              have ew := HW1.out.bl.cell (i := t + 1) (by omega)
              have fw_ := HW1.out.bl.frozen (t + 1)
              have lg := HW1.out.bl.lt
              by_cases h1 : r1 < v (t + 1)
              · have HI1 := Lib.hid (HI.out.low (i := t + 1) (by omega) h1 (by rw [← HR1.out]; exact HF1.out))
                have HW2 := Lib.hid (HW1.out.set (i := t + 1) (by omega) r1)
                obtain ⟨V1, hV1⟩ : ∃ V, V = updV v (t + 1) r1 := ⟨_, rfl⟩
                rw [← hV1] at HI1 HW2
                clear hV1
                go_wp2_with (fail)
                clear ew fw_ lg h1 HI HF1 HF2 HW1
                generalize (W1.setCell ⟨g, t + 1, none⟩ (.int .i64 r1)) = W2 at *
                have ev := HW2.out.bl.cell (i := t + 1) (by omega)
                have hp1 := HI1.out.bt.pos OK.out (j := t + 1) (by omega)
                have hp0 := HI1.out.bt.pos OK.out (j := t) (by omega)
                have hsx := bnd_sq (o := V1 (t + 1)) (by omega) (by omega)
                have q1 : IntKind.i64.wrap (V1 (t + 1) * V1 (t + 1)) = V1 (t + 1) * V1 (t + 1) := i64w (by omega)
                have q2 : IntKind.i64.wrap (V1 (t + 1) * V1 (t + 1) + gainZ c (L t)) = V1 (t + 1) * V1 (t + 1) + gainZ c (L t) := i64w (by omega)
                have HF2 := Lib.hid (HI1.out.bt.bwd OK.out hlt)
                refine wp_region_held_drew (S := (fun w' => w'.cell? ⟨g, t + 1, none⟩ = some (.int .i64 (V1 (t + 1))))) (by kernel_rfl) ev (fun hHeld => ?_)
                refine tkH (by assumption) 0 (oi := ?_) (v := ?_) ?_ ?_ ?_ ?_ ?_ ?_ ?_ ?_; rotate_left 2; (simp only [gA, gB, gC]; exact rfl); kernel_rfl; kernel_rfl; kernel_rfl; exact fun _ _ _ h => h; rfl; (intro w' hSw; (try dsimp only at hSw); go_simp; with_reducible rfl); simp only [Act.put, pB, pC, pD]
                refine tkH (by assumption) 1 (oi := ?_) (v := ?_) ?_ ?_ ?_ ?_ ?_ ?_ ?_ ?_; rotate_left 2; (simp only [gA, gB, gC]; exact rfl); kernel_rfl; kernel_rfl; kernel_rfl; exact fun _ _ _ h => h; rfl; (intro w' hSw; (try dsimp only at hSw); go_simp; with_reducible rfl); simp only [Act.put, pB, pC, pD]
                refine tkH (by assumption) 2 (oi := ?_) (v := ?_) ?_ ?_ ?_ ?_ ?_ ?_ ?_ ?_; rotate_left 2; (simp only [gA, gB, gC]; exact rfl); kernel_rfl; kernel_rfl; kernel_rfl; exact fun _ _ _ h => h; rfl; (intro w' hSw; (try dsimp only at hSw); go_simp; with_reducible rfl); simp only [Act.put, pB, pC, pD]
                refine tkH (by assumption) 3 (oi := ?_) (v := ?_) ?_ ?_ ?_ ?_ ?_ ?_ ?_ ?_; rotate_left 2; (simp only [gA, gB, gC]; exact rfl); kernel_rfl; kernel_rfl; kernel_rfl; exact fun _ _ _ h => h; rfl; (intro w' hSw; (try dsimp only at hSw); go_simp; with_reducible rfl); simp only [Act.put, pB, pC, pD]
                refine tkH (by assumption) 4 (oi := ?_) (v := ?_) ?_ ?_ ?_ ?_ ?_ ?_ ?_ ?_; rotate_left 2; (simp only [gA, gB, gC]; exact rfl); kernel_rfl; kernel_rfl; kernel_rfl; exact fun _ _ _ h => h; rfl; (intro w' hSw; (try dsimp only at hSw); go_simp; with_reducible rfl); simp only [Act.put, pB, pC, pD]
                refine tkH (by assumption) 5 (oi := ?_) (v := ?_) ?_ ?_ ?_ ?_ ?_ ?_ ?_ ?_; rotate_left 2; (simp only [gA, gB, gC]; exact rfl); kernel_rfl; kernel_rfl; kernel_rfl; exact fun _ _ _ h => h; rfl; (intro w' hSw; (try dsimp only at hSw); go_simp; with_reducible rfl); simp only [Act.put, pB, pC, pD]
                refine tkH (by assumption) 6 (oi := ?_) (v := ?_) ?_ ?_ ?_ ?_ ?_ ?_ ?_ ?_; rotate_left 2; (simp only [gA, gB, gC]; exact rfl); kernel_rfl; kernel_rfl; kernel_rfl; exact fun _ _ _ h => h; rfl; (intro w' hSw; (try dsimp only at hSw); go_simp; with_reducible rfl); simp only [Act.put, pB, pC, pD]
                refine tkH (by assumption) 7 (oi := ?_) (v := ?_) ?_ ?_ ?_ ?_ ?_ ?_ ?_ ?_; rotate_left 2; (simp only [gA, gB, gC]; exact rfl); kernel_rfl; kernel_rfl; kernel_rfl; exact fun _ _ _ h => h; rfl; (intro w' hSw; (try dsimp only at hSw); go_simp; with_reducible rfl); simp only [Act.put, pB, pC, pD]
                refine tkH (by assumption) 8 (oi := ?_) (v := ?_) ?_ ?_ ?_ ?_ ?_ ?_ ?_ ?_; rotate_left 2; (simp only [gA, gB, gC]; exact rfl); kernel_rfl; kernel_rfl; kernel_rfl; exact fun _ _ _ h => h; rfl; (intro w' hSw; (try dsimp only at hSw); go_simp; with_reducible rfl); simp only [Act.put, pB, pC, pD]
                refine tkH (by assumption) 9 (oi := ?_) (v := ?_) ?_ ?_ ?_ ?_ ?_ ?_ ?_ ?_; rotate_left 2; (simp only [gA, gB, gC]; exact rfl); kernel_rfl; kernel_rfl; kernel_rfl; exact fun _ _ _ h => h; rfl; (intro w' hSw; (try dsimp only at hSw); go_simp; with_reducible rfl); simp only [Act.put, pB, pC, pD]
                refine tkH (by assumption) 10 (oi := ?_) (v := ?_) ?_ ?_ ?_ ?_ ?_ ?_ ?_ ?_; rotate_left 2; (simp only [gA, gB, gC]; exact rfl); kernel_rfl; kernel_rfl; kernel_rfl; exact fun _ _ _ h => h; rfl; (intro w' hSw; (try dsimp only at hSw); go_simp; with_reducible rfl); simp only [Act.put, pB, pC, pD]
                refine tkH (by assumption) 11 (oi := ?_) (v := ?_) ?_ ?_ ?_ ?_ ?_ ?_ ?_ ?_; rotate_left 2; (simp only [gA, gB, gC]; exact rfl); kernel_rfl; kernel_rfl; kernel_rfl; exact fun _ _ _ h => h; rfl; (intro w' hSw; (try dsimp only at hSw); go_simp; with_reducible rfl); simp only [Act.put, pB, pC, pD]
                refine tkH (by assumption) 12 (oi := ?_) (v := ?_) ?_ ?_ ?_ ?_ ?_ ?_ ?_ ?_; rotate_left 2; (simp only [gA, gB, gC]; exact rfl); kernel_rfl; kernel_rfl; kernel_rfl; exact fun _ _ _ h => h; rfl; (intro w' hSw; (try dsimp only at hSw); go_simp; with_reducible rfl); simp only [Act.put, pB, pC, pD]
                refine onH 13 (oi := ?_) (by kernel_rfl) ?_ ?_ (fun K hK => ?_); rotate_left; (simp only [gA, gB, gC]; exact rfl); rfl
                go_wp2_with (fail)
                refine (root_any _ _ (by omega) (by omega)).mono ?_
                rintro e w5 ⟨rfl, rfl⟩
                refine hK.out _ _ hHeld (fun hHeldN => ?_)
                clear hK K hHeld
                have hHeld := hHeldN
                clear hHeldN
                try simp only [Act.put, pB, pC, pD]
                refine tkH (by assumption) 14 (oi := ?_) (v := ?_) ?_ ?_ ?_ ?_ ?_ ?_ ?_ ?_; rotate_left 2; (simp only [gA, gB, gC]; exact rfl); kernel_rfl; kernel_rfl; kernel_rfl; exact fun _ _ _ h => h; rfl; (intro w' hSw; (try dsimp only at hSw); go_simp; with_reducible rfl); simp only [Act.put, pB, pC, pD]
                refine wpAnyH_done (by kernel_rfl) ?_ _
                have HD0 : Below W2.heap.size W2 W2.drew := ⟨rfl, rfl, rfl, Nat.le_refl _, fun _ _ => rfl⟩
                have HW3 := Lib.hid (HW2.out.next HD0)
                clear hHeld ev HD0 HW2 q1 q2
                generalize W2.drew = W3 at *
                obtain ⟨r2, hr2⟩ : ∃ r, rt (V1 (t + 1) * V1 (t + 1) + gainZ c (L t)) = r := ⟨_, rfl⟩
                have HR2 := Lib.hid hr2
                rw [hr2]
                clear hr2
                have ew := HW3.out.bl.cell (i := t) (by omega)
                have fw_ := HW3.out.bl.frozen t
                have lg := HW3.out.bl.lt
                by_cases h2 : r2 < V1 t
                · have HI2 := Lib.hid (HI1.out.low (i := t) (by omega) h2 (by rw [← HR2.out]; exact HF2.out))
                  have HW4 := Lib.hid (HW3.out.set (i := t) (by omega) r2)
                  go_wp2_with (fail)
                  go_roundw
                  case rel => exact ⟨true, t + 1, _, rfl, by go_num, by omega, HW4.out, HI2.out.skip⟩
                  case measure => simp [intOf]; omega
                · go_wp2_with (fail)
                  go_roundw
                  case rel => exact ⟨true, t + 1, V1, rfl, by go_num, by omega, HW3.out, HI1.out.skip⟩
                  case measure => simp [intOf]; omega
              · go_wp2_with (fail)
                clear ew fw_ lg HF1 HF2
                have ev := HW1.out.bl.cell (i := t + 1) (by omega)
                have hp1 := HI.out.bt.pos OK.out (j := t + 1) (by omega)
                have hp0 := HI.out.bt.pos OK.out (j := t) (by omega)
                have hsx := bnd_sq (o := v (t + 1)) (by omega) (by omega)
                have q1 : IntKind.i64.wrap (v (t + 1) * v (t + 1)) = v (t + 1) * v (t + 1) := i64w (by omega)
                have q2 : IntKind.i64.wrap (v (t + 1) * v (t + 1) + gainZ c (L t)) = v (t + 1) * v (t + 1) + gainZ c (L t) := i64w (by omega)
                have HF2 := Lib.hid (HI.out.bt.bwd OK.out hlt)
                refine wp_region_held_drew (S := (fun w' => w'.cell? ⟨g, t + 1, none⟩ = some (.int .i64 (v (t + 1))))) (by kernel_rfl) ev (fun hHeld => ?_)
                refine tkH (by assumption) 0 (oi := ?_) (v := ?_) ?_ ?_ ?_ ?_ ?_ ?_ ?_ ?_; rotate_left 2; (simp only [gA, gB, gC]; exact rfl); kernel_rfl; kernel_rfl; kernel_rfl; exact fun _ _ _ h => h; rfl; (intro w' hSw; (try dsimp only at hSw); go_simp; with_reducible rfl); simp only [Act.put, pB, pC, pD]
                refine tkH (by assumption) 1 (oi := ?_) (v := ?_) ?_ ?_ ?_ ?_ ?_ ?_ ?_ ?_; rotate_left 2; (simp only [gA, gB, gC]; exact rfl); kernel_rfl; kernel_rfl; kernel_rfl; exact fun _ _ _ h => h; rfl; (intro w' hSw; (try dsimp only at hSw); go_simp; with_reducible rfl); simp only [Act.put, pB, pC, pD]
                refine tkH (by assumption) 2 (oi := ?_) (v := ?_) ?_ ?_ ?_ ?_ ?_ ?_ ?_ ?_; rotate_left 2; (simp only [gA, gB, gC]; exact rfl); kernel_rfl; kernel_rfl; kernel_rfl; exact fun _ _ _ h => h; rfl; (intro w' hSw; (try dsimp only at hSw); go_simp; with_reducible rfl); simp only [Act.put, pB, pC, pD]
                refine tkH (by assumption) 3 (oi := ?_) (v := ?_) ?_ ?_ ?_ ?_ ?_ ?_ ?_ ?_; rotate_left 2; (simp only [gA, gB, gC]; exact rfl); kernel_rfl; kernel_rfl; kernel_rfl; exact fun _ _ _ h => h; rfl; (intro w' hSw; (try dsimp only at hSw); go_simp; with_reducible rfl); simp only [Act.put, pB, pC, pD]
                refine tkH (by assumption) 4 (oi := ?_) (v := ?_) ?_ ?_ ?_ ?_ ?_ ?_ ?_ ?_; rotate_left 2; (simp only [gA, gB, gC]; exact rfl); kernel_rfl; kernel_rfl; kernel_rfl; exact fun _ _ _ h => h; rfl; (intro w' hSw; (try dsimp only at hSw); go_simp; with_reducible rfl); simp only [Act.put, pB, pC, pD]
                refine tkH (by assumption) 5 (oi := ?_) (v := ?_) ?_ ?_ ?_ ?_ ?_ ?_ ?_ ?_; rotate_left 2; (simp only [gA, gB, gC]; exact rfl); kernel_rfl; kernel_rfl; kernel_rfl; exact fun _ _ _ h => h; rfl; (intro w' hSw; (try dsimp only at hSw); go_simp; with_reducible rfl); simp only [Act.put, pB, pC, pD]
                refine tkH (by assumption) 6 (oi := ?_) (v := ?_) ?_ ?_ ?_ ?_ ?_ ?_ ?_ ?_; rotate_left 2; (simp only [gA, gB, gC]; exact rfl); kernel_rfl; kernel_rfl; kernel_rfl; exact fun _ _ _ h => h; rfl; (intro w' hSw; (try dsimp only at hSw); go_simp; with_reducible rfl); simp only [Act.put, pB, pC, pD]
                refine tkH (by assumption) 7 (oi := ?_) (v := ?_) ?_ ?_ ?_ ?_ ?_ ?_ ?_ ?_; rotate_left 2; (simp only [gA, gB, gC]; exact rfl); kernel_rfl; kernel_rfl; kernel_rfl; exact fun _ _ _ h => h; rfl; (intro w' hSw; (try dsimp only at hSw); go_simp; with_reducible rfl); simp only [Act.put, pB, pC, pD]
                refine tkH (by assumption) 8 (oi := ?_) (v := ?_) ?_ ?_ ?_ ?_ ?_ ?_ ?_ ?_; rotate_left 2; (simp only [gA, gB, gC]; exact rfl); kernel_rfl; kernel_rfl; kernel_rfl; exact fun _ _ _ h => h; rfl; (intro w' hSw; (try dsimp only at hSw); go_simp; with_reducible rfl); simp only [Act.put, pB, pC, pD]
                refine tkH (by assumption) 9 (oi := ?_) (v := ?_) ?_ ?_ ?_ ?_ ?_ ?_ ?_ ?_; rotate_left 2; (simp only [gA, gB, gC]; exact rfl); kernel_rfl; kernel_rfl; kernel_rfl; exact fun _ _ _ h => h; rfl; (intro w' hSw; (try dsimp only at hSw); go_simp; with_reducible rfl); simp only [Act.put, pB, pC, pD]
                refine tkH (by assumption) 10 (oi := ?_) (v := ?_) ?_ ?_ ?_ ?_ ?_ ?_ ?_ ?_; rotate_left 2; (simp only [gA, gB, gC]; exact rfl); kernel_rfl; kernel_rfl; kernel_rfl; exact fun _ _ _ h => h; rfl; (intro w' hSw; (try dsimp only at hSw); go_simp; with_reducible rfl); simp only [Act.put, pB, pC, pD]
                refine tkH (by assumption) 11 (oi := ?_) (v := ?_) ?_ ?_ ?_ ?_ ?_ ?_ ?_ ?_; rotate_left 2; (simp only [gA, gB, gC]; exact rfl); kernel_rfl; kernel_rfl; kernel_rfl; exact fun _ _ _ h => h; rfl; (intro w' hSw; (try dsimp only at hSw); go_simp; with_reducible rfl); simp only [Act.put, pB, pC, pD]
                refine tkH (by assumption) 12 (oi := ?_) (v := ?_) ?_ ?_ ?_ ?_ ?_ ?_ ?_ ?_; rotate_left 2; (simp only [gA, gB, gC]; exact rfl); kernel_rfl; kernel_rfl; kernel_rfl; exact fun _ _ _ h => h; rfl; (intro w' hSw; (try dsimp only at hSw); go_simp; with_reducible rfl); simp only [Act.put, pB, pC, pD]
                refine onH 13 (oi := ?_) (by kernel_rfl) ?_ ?_ (fun K hK => ?_); rotate_left; (simp only [gA, gB, gC]; exact rfl); rfl
                go_wp2_with (fail)
                refine (root_any _ _ (by omega) (by omega)).mono ?_
                rintro e w5 ⟨rfl, rfl⟩
                refine hK.out _ _ hHeld (fun hHeldN => ?_)
                clear hK K hHeld
                have hHeld := hHeldN
                clear hHeldN
                try simp only [Act.put, pB, pC, pD]
                refine tkH (by assumption) 14 (oi := ?_) (v := ?_) ?_ ?_ ?_ ?_ ?_ ?_ ?_ ?_; rotate_left 2; (simp only [gA, gB, gC]; exact rfl); kernel_rfl; kernel_rfl; kernel_rfl; exact fun _ _ _ h => h; rfl; (intro w' hSw; (try dsimp only at hSw); go_simp; with_reducible rfl); simp only [Act.put, pB, pC, pD]
                refine wpAnyH_done (by kernel_rfl) ?_ _
                have HD0 : Below W1.heap.size W1 W1.drew := ⟨rfl, rfl, rfl, Nat.le_refl _, fun _ _ => rfl⟩
                have HW3 := Lib.hid (HW1.out.next HD0)
                clear hHeld ev HD0 HW1 q1 q2
                generalize W1.drew = W3 at *
                obtain ⟨r2, hr2⟩ : ∃ r, rt (v (t + 1) * v (t + 1) + gainZ c (L t)) = r := ⟨_, rfl⟩
                have HR2 := Lib.hid hr2
                rw [hr2]
                clear hr2
                have ew := HW3.out.bl.cell (i := t) (by omega)
                have fw_ := HW3.out.bl.frozen t
                have lg := HW3.out.bl.lt
                by_cases h2 : r2 < v t
                · have HI2 := Lib.hid (HI.out.low (i := t) (by omega) h2 (by rw [← HR2.out]; exact HF2.out))
                  have HW4 := Lib.hid (HW3.out.set (i := t) (by omega) r2)
                  go_wp2_with (fail)
                  go_roundw
                  case rel => exact ⟨true, t + 1, _, rfl, by go_num, by omega, HW4.out, HI2.out.skip⟩
                  case measure => simp [intOf]; omega
                · go_wp2_with (fail)
                  go_roundw
                  case rel => exact ⟨bl, t + 1, v, rfl, by go_num, by omega, HW3.out, HI.out.keep ⟨by rw [HR1.out]; omega, by rw [HR2.out]; omega⟩⟩
                  case measure => simp [intOf]; omega
            · obtain rfl : n = t := by omega
              have HSN := Lib.hid (sumW_of HR.out.bl)
              have HPN := Lib.hid (sumV_nn (v := v) (n := n) (fun j hj => (HI.out.bt.pos OK.out hj).1))
              go_wp2_with (fail)
              go_roundw
              case rel => exact ⟨bl, v, rfl, HR.out, HI.out.bt, fun e => (HI.out.no e).2⟩
              case measure =>
                rw [HSN.out, HSW.out]
                have h1 := HPN.out
                rcases bl with _ | _
                · simp [isT]
                · have h2 := HI.out.yes rfl
                  simp only [isT, if_true]
                  omega
end Go.Proofs.Ytjjedffmcloahaa

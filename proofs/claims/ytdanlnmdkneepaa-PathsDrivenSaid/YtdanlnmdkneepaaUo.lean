/- The moves of a path: by the program and by the reference. -/
import Derived.Test.YtdanlnmdkneepaaYm
import Derived.Test.YtdanlnmdkneepaaUd
import Derived.Test.YtdanlnmdkneepaaUe
import Derived.Test.YtdanlnmdkneepaaVr
import Derived.Test.YtdanlnmdkneepaaTb0
import Derived.Laws.StructEq
set_option linter.unusedSimpArgs false
set_option linter.unusedVariables false
namespace Go.Proofs.Ytdanlnmdkneepaa
open Go.RowKit
theorem st_ptM : Try.prog.stoodInHeld 102 = false := by kernel_rfl
theorem neq_ptM (x y : Int) (w : World) : (Go.binOp .neq 102 (.agg #[.int .i64 x, .int .i64 y]) (.agg #[.int .i64 0, .int .i64 0])).run Try.prog w = Result.ok (.bool (!(decide (x = 0 ∧ y = 0)))) w := by
  rw [run_neq_struct, run_equalIn_agg (ht := by kernel_rfl) (hp := st_ptM)]
  by_cases h1 : x = 0 <;> by_cases h2 : y = 0 <;> simp [go_sem, h1, h2]
def IV2 (l : List (Int × Int)) : List Value := l.flatMap fun p => [.int .i64 p.1, .int .i64 p.2]
theorem IV2_app (l : List (Int × Int)) (x y : Int) : IV2 (l ++ [(x, y)]) = IV2 l ++ [.int .i64 x, .int .i64 y] := by simp [IV2]
theorem IV2_len (l : List (Int × Int)) : (IV2 l).length = l.length * 2 := by
  induction l with
  | nil => rfl
  | cons p l ih => simp [IV2] at ih ⊢; omega
theorem IV2_get (l : List (Int × Int)) : ∀ i, i < l.length → (IV2 l)[i * 2]? = some (.int .i64 (l.getD i (0, 0)).1) ∧ (IV2 l)[i * 2 + 1]? = some (.int .i64 (l.getD i (0, 0)).2) := by
  induction l with
  | nil => intro i hi; simp at hi
  | cons p l ih =>
    intro i hi
    match i with
    | 0 => exact ⟨rfl, rfl⟩
    | j + 1 =>
      have h := ih j (by simpa using hi)
      have e : IV2 (p :: l) = .int .i64 p.1 :: .int .i64 p.2 :: IV2 l := rfl
      rw [e, show (j + 1) * 2 = j * 2 + 1 + 1 by omega, show j * 2 + 1 + 1 + 1 = j * 2 + 1 + 1 + 1 from rfl]
      simp only [List.getElem?_cons_succ, List.getD_cons_succ]
      exact h
theorem pts_of_IV2 {w : World} {base m c : Nat} {a : Option Addr} {l : List (Int × Int)} (h : w.ownsRow base 102 2 (.slice a m c) m (IV2 l)) : PtsR w a m (fun i => (l.getD i (0, 0)).1) (fun i => (l.getD i (0, 0)).2) := by
  by_cases hm : m = 0
  · exact .inl hm
  · obtain ⟨g, cap', hv, _, hlt⟩ := h.form (by omega)
    cases hv
    have h1 := h.1
    rw [IV2_len] at h1
    refine .inr ⟨g, 0, rfl, hlt, fun i hi => ?_⟩
    have h2 := IV2_get l i (by omega)
    rw [Nat.zero_add, h.cellAt (i * 2) (by omega), h.cellAt (i * 2 + 1) (by omega)]
    exact h2
/-- The first t differences that are not none. -/
def mvL (X Y : Nat → Int) : Nat → List (Int × Int)
  | 0 => []
  | t + 1 => if X (t + 1) - X t = 0 ∧ Y (t + 1) - Y t = 0 then mvL X Y t else mvL X Y t ++ [(X (t + 1) - X t, Y (t + 1) - Y t)]
theorem mvL_len (X Y : Nat → Int) : ∀ t, (mvL X Y t).length ≤ t
  | 0 => Nat.le_refl _
  | t + 1 => by
    have := mvL_len X Y t
    simp only [mvL]
    split
    · omega
    · simp; omega
theorem mvL_bnd {X Y : Nat → Int} {n : Nat} (h : ∀ i, i ≤ n → (-100000 ≤ X i ∧ X i ≤ 100000) ∧ (-100000 ≤ Y i ∧ Y i ≤ 100000)) : ∀ t, t ≤ n → ∀ p ∈ mvL X Y t, ((-200000 ≤ p.1 ∧ p.1 ≤ 200000) ∧ (-200000 ≤ p.2 ∧ p.2 ≤ 200000)) ∧ (p.1 ≠ 0 ∨ p.2 ≠ 0)
  | 0, _, p, hp => by cases hp
  | t + 1, ht, p, hp => by
    have h0 := h t (by omega)
    have h1 := h (t + 1) ht
    simp only [mvL] at hp
    split at hp
    · exact mvL_bnd h t (by omega) p hp
    · rename_i hn
      rcases List.mem_append.1 hp with hp | hp
      · exact mvL_bnd h t (by omega) p hp
      · simp only [List.mem_cons, List.not_mem_nil, or_false] at hp
        subst hp
        dsimp only
        refine ⟨by omega, ?_⟩
        by_cases h2 : X (t + 1) - X t = 0
        · exact .inr (fun h3 => hn ⟨h2, h3⟩)
        · exact .inl h2
theorem own_mutU {w : World} {base : Nat} {e : TypeId} {size : Nat} {v : Value} {n : Nat} {xs : List Value} (h : w.ownsRow base e size v n xs) {b : Nat} (o : Nat) (u : Value) (hb : v.ownBlock ≠ some b) : (w.setCell ⟨b, o, none⟩ u).ownsRow base e size v n xs := by
  obtain ⟨h1, h2⟩ := h
  refine ⟨h1, ?_⟩
  rcases h2 with h2 | ⟨g, cap, cur, hv, hg, hh, r⟩
  · exact .inl h2
  · exact .inr ⟨g, cap, cur, hv, hg, (Below.heap_setCell _ _ _ _ (by show g ≠ b; intro e; subst e; exact hb (by rw [hv]; rfl))).trans hh, r⟩
theorem own_lowU {w : World} {base base' : Nat} {e : TypeId} {size : Nat} {v : Value} {n : Nat} {xs : List Value} (h : w.ownsRow base e size v n xs) (hb : base' ≤ base) : w.ownsRow base' e size v n xs := by
  obtain ⟨h1, h2⟩ := h
  refine ⟨h1, ?_⟩
  rcases h2 with h2 | ⟨g, cap, cur, hv, hg, r⟩
  · exact .inl h2
  · exact .inr ⟨g, cap, cur, hv, Nat.le_trans hb hg, r⟩
def v00 : Vis := ⟨0, 0, false⟩
def qX (p : Pth) (Z : Nat → Int) : Nat → Int := prX p v00 Z
theorem qX_lt {p : Pth} {Z : Nat → Int} {i : Nat} (h : i < p.n) : qX p Z i = Z i := by
  unfold qX prX v00
  split
  · simp only [ap, Int.toNat_zero, Nat.sub_zero, Nat.zero_add]
    rw [if_pos h]
  · simp
theorem qX_end {p : Pth} {Z : Nat → Int} (hk : p.k = true) : qX p Z p.n = Z 0 := by
  unfold qX prX v00
  rw [if_pos hk]
  simp only [ap, Int.toNat_zero, Nat.sub_zero, Nat.zero_add]
  rw [if_neg (Nat.lt_irrefl _), Nat.sub_self]
theorem qX_bnd {p : Pth} (h : pF p = 0) : 1 ≤ p.n ∧ p.n ≤ 500 ∧ ∀ i, i < prN p → (-100000 ≤ qX p p.X i ∧ qX p p.X i ≤ 100000) ∧ (-100000 ≤ qX p p.Y i ∧ qX p p.Y i ≤ 100000) := by
  unfold pF at h
  split at h
  · cases h
  · split at h
    · cases h
    · split at h
      · cases h
      · split at h
        · rename_i h0 h1 h2 h3
          refine ⟨by omega, by omega, fun i hi => ?_⟩
          rcases Nat.lt_or_ge i p.n with hl | hl
          · rw [qX_lt hl, qX_lt hl]; exact allB_one h3 hl
          · unfold prN at hi
            split at hi
            · rename_i hk
              obtain rfl : i = p.n := by omega
              rw [qX_end hk, qX_end hk]; exact allB_one h3 (by omega)
            · omega
        · cases h
/-- The moves of a path. -/
def mvP (p : Pth) : List (Int × Int) := mvL (qX p p.X) (qX p p.Y) (prN p - 1)
def mvE (p : Pth) (l : Int) : Int := if pdE p l = 0 then (if (mvP p).length = 0 then 8 else 0) else pdE p l
theorem one_F (p : Pth) : oneF 1 (fun _ => p) v00 = pF p := by
  have h1 : psF 1 (fun _ => p) = pF p := by
    unfold psF
    simp [firstE]
  unfold oneF
  rw [h1]
  by_cases h : pF p = 0
  · rw [if_neg (by simp [h])]
    obtain ⟨hn, _, _⟩ := qX_bnd h
    unfold vF v00
    rw [h]
    dsimp only
    rw [if_neg (by omega), if_neg (by decide), if_neg (by simp), if_neg (by omega)]
  · rw [if_pos h]
theorem pdE_ok {p : Pth} {l : Int} (hz : pF p = 0) : pdE p l = spanZ l 1 100000 := by rw [pdE_is, if_neg (by simp [hz])]
set_option maxRecDepth 100000 in
set_option maxHeartbeats 8000000 in
theorem movesOf_any (p : Pth) (l : Int) (w : World) (hn : p.n ≤ 1000) (hc : p.n ≤ p.c) (hp : PtsR w p.a p.n p.X p.Y) :
    Calls Try.prog 81 #[.agg #[.slice p.a p.n p.c, .bool p.k], .int .i64 l] w fun e w' =>
      (mvE p l = 0 → ∃ ao co, e = .returned (.tuple #[.slice ao (mvP p).length co, .int .i64 0]) ∧ w'.ownsRow w.heap.size 102 2 (.slice ao (mvP p).length co) (mvP p).length (IV2 (mvP p))) ∧
      (mvE p l ≠ 0 → e = .returned (.tuple #[.slice none 0 0, .int .i64 (mvE p l)])) ∧ Below w.heap.size w w' := by
  obtain ⟨i0, hi0, hz0, hz1, hz2⟩ := info_parts info_point
  have HP := Lib.hid hp
  clear hp
  go_enter Try.func81, Try.ntmps81
  go_wp2_with (fail)
  have hb0 : Below w.heap.size w ((w.alloc (.cells #[.slice p.a p.n p.c, .bool p.k] 62)).alloc (.cells #[.slice p.a p.n p.c, .bool p.k] 62)) := (by repeat (first | exact Below.refl _ _ | assumption | refine Below.drew ?_ | refine bdrewN ?_ _ | refine Below.setCell ?_ (by first | omega | (simp <;> omega)) _ | refine Below.alloc ?_ (by first | omega | (simp <;> omega)) _))
  have H8 := Lib.hid (show ((w.alloc (.cells #[.slice p.a p.n p.c, .bool p.k] 62)).alloc (.cells #[.slice p.a p.n p.c, .bool p.k] 62)).heap[w.heap.size + 1]? = some (Obj.cells #[.slice p.a p.n p.c, .bool p.k] 62 (0, 0)) from (by repeat (first | (refine heap_new ?_; first | rfl | (simp; done)) | rw [Below.heap_setCell _ _ _ _ (by simp <;> omega)] | rw [Below.heap_alloc _ _ _ (by simp <;> omega)])))
  replace HP := Lib.hid (HP.out.kept hb0)
  have B0 := Lib.hid hb0
  clear hb0
  generalize ((w.alloc (.cells #[.slice p.a p.n p.c, .bool p.k] 62)).alloc (.cells #[.slice p.a p.n p.c, .bool p.k] 62)) = w0 at *
  refine (Points_any (some ⟨w.heap.size + 1, 0, none⟩) 1 1 (fun _ => p) v00 w0 (by omega) (.inr ⟨w.heap.size + 1, 0, rfl, lt_of_heap H8.out, fun i hi => by
    obtain rfl : i = 0 := by omega
    exact ⟨⟨cell_of H8.out (i := 0) rfl, cell_of H8.out (i := 1) rfl⟩, HP.out⟩⟩) (fun _ _ => hn) (fun _ _ => hc) (by unfold sm v00; decide)).mono ?_
  rintro e w1 ⟨h1, h2, hb1⟩
  rw [one_F] at h1 h2
  have B1 := Lib.hid (B0.out.trans (hb1.mono B0.out.size))
  clear hb1 H8 HP
  by_cases hz : pF p = 0
  · obtain ⟨ai, ci, rfl, hown⟩ := h1 hz
    have HI := Lib.hid (own_pts hown)
    have HZ := Lib.hid hz
    obtain ⟨hn1, hn2, hb⟩ := qX_bnd hz
    have HXY := Lib.hid hb
    clear h1 h2 hown hb hz
    change Hid (PtsR w1 ai (prN p) (qX p p.X) (qX p p.Y)) at HI
    have hN : 1 ≤ prN p ∧ prN p ≤ 501 := by unfold prN; split <;> omega
    have HMP := Lib.hid (show mvP p = mvL (qX p p.X) (qX p p.Y) (prN p - 1) from rfl)
    have HN := Lib.hid (show prN ((fun _ => p) v00.p.toNat) = prN p from rfl)
    rcases hx : inZ l 1 100000 with _ | _
    · have R := Lib.hid (show mvE p l = 1 by unfold mvE; rw [pdE_ok HZ.out, show spanZ l 1 100000 = 1 by unfold spanZ; rw [hx]; rfl]; rfl)
      have HX := Lib.hid hx
      clear hx
      go_wp2_with (go_at_call 111; refine (isLimit_any _ _).mono ?_; rintro e w' ⟨rfl, rfl⟩; rw [HX.out])
      exact bodyPost_ret (v := .tuple #[.slice none 0 0, .int .i64 1]) (by simp [results, Try.results81, go_sem]) rfl ⟨fun h => absurd (R.out.symm.trans h) (by decide), fun _ => by rw [R.out], B1.out⟩
    · have R := Lib.hid (show mvE p l = if (mvP p).length = 0 then 8 else 0 by unfold mvE; rw [pdE_ok HZ.out, show spanZ l 1 100000 = 0 by unfold spanZ; rw [hx]; rfl, if_pos rfl])
      have HX := Lib.hid hx
      clear hx
      rw [HN.out]
      generalize qX p p.X = X at *
      generalize qX p p.Y = Y at *
      generalize prN p = N at *
      have hw0 : IntKind.i64.wrap ((N : Int) - 1) = (N : Int) - 1 := i64w (by omega)
      go_wp2_with (go_at_call 111; refine (isLimit_any _ _).mono ?_; rintro e w' ⟨rfl, rfl⟩; rw [HX.out])
      go_loopw [8, 27] (fun sv iv wr => ∃ (t k : Nat) (ao : Option Addr) (co : Nat), t + 1 ≤ N ∧ iv = .int .i64 t ∧ k = (mvL X Y t).length ∧ sv = .slice ao k co ∧ wr.ownsRow w1.heap.size 102 2 (.slice ao k co) k (IV2 (mvL X Y t)) ∧ Below w1.heap.size w1 wr) (fun _ iv _ => N - (intOf iv).toNat)
      case atStart => exact ⟨0, 0, none, 0, by omega, rfl, rfl, rfl, World.ownsRow_nil _ _ _ _, Below.refl _ _⟩
      case round =>
        obtain ⟨t, k, ao, co, ht, rfl, hk, rfl, hown, hbel⟩ := hrel
        have HO := Lib.hid hown
        have HB := Lib.hid hbel
        have HK := Lib.hid hk
        have hkl := mvL_len X Y t
        rw [← hk] at hkl
        have hsz := hbel.size
        clear hown hbel hk
        by_cases hlt : t + 1 < N
        · have l1 : (t : Int) < (N : Int) - 1 := by omega
          have l2 : (t : Int) < (N : Int) := by omega
          have l3 : (0 : Int) ≤ (t : Int) + 1 := by omega
          have l4 : (t : Int) + 1 < (N : Int) := by omega
          have w9 : IntKind.i64.wrap ((t : Int) + 1) = (t : Int) + 1 := i64w (by omega)
          rcases HI.out with h | ⟨b, off, he, hb, hd⟩
          · omega
          cases he
          obtain ⟨c0, c1⟩ := hd t (by omega)
          obtain ⟨d0, d1⟩ := hd (t + 1) (by omega)
          replace c0 := cellk HB.out hb c0
          replace c1 := cellk HB.out hb c1
          replace d0 := cellk HB.out hb d0
          replace d1 := cellk HB.out hb d1
          have hbw : b < wr.heap.size := by omega
          have hx0 := (HXY.out t (by omega))
          have hx1 := (HXY.out (t + 1) (by omega))
          have HMV := Lib.hid (show mvL X Y (t + 1) = if X (t + 1) - X t = 0 ∧ Y (t + 1) - Y t = 0 then mvL X Y t else mvL X Y t ++ [(X (t + 1) - X t, Y (t + 1) - Y t)] from rfl)
          obtain ⟨dx, hdx⟩ : ∃ dx, X (t + 1) - X t = dx := ⟨_, rfl⟩
          obtain ⟨dy, hdy⟩ : ∃ dy, Y (t + 1) - Y t = dy := ⟨_, rfl⟩
          rw [hdx, hdy] at HMV
          have e1 : IntKind.i64.wrap (X (t + 1) - X t) = dx := (i64w (by omega)).trans hdx
          have e2 : IntKind.i64.wrap (Y (t + 1) - Y t) = dy := (i64w (by omega)).trans hdy
          clear hd hx0 hx1 hdx hdy
          go_wp2_with (fail)
          refine wp_region_held_drew (S := (fun w' => (w'.cell? ⟨b, off + t * 2, none⟩ = some (.int .i64 (X t)) ∧ w'.cell? ⟨b, off + t * 2 + 1, none⟩ = some (.int .i64 (Y t))) ∧ w'.cell? ⟨b, off + (t + 1) * 2, none⟩ = some (.int .i64 (X (t + 1))) ∧ w'.cell? ⟨b, off + (t + 1) * 2 + 1, none⟩ = some (.int .i64 (Y (t + 1))))) (by kernel_rfl) ⟨⟨c0, c1⟩, d0, d1⟩ (fun hHeld => ?_)
          refine tkH (by assumption) 0 (oi := ?_) (v := ?_) ?_ ?_ ?_ ?_ ?_ ?_ ?_ ?_; rotate_left 2; (simp only [gA, gB, gC]; exact rfl); kernel_rfl; kernel_rfl; kernel_rfl; exact fun _ _ _ h => h; rfl; (intro w' hSw; (obtain ⟨⟨j0, j1⟩, j2, j3⟩ := hSw);go_simp; with_reducible rfl); simp only [Act.put, pB, pC, pD]
          refine tkH (by assumption) 1 (oi := ?_) (v := ?_) ?_ ?_ ?_ ?_ ?_ ?_ ?_ ?_; rotate_left 2; (simp only [gA, gB, gC]; exact rfl); kernel_rfl; kernel_rfl; kernel_rfl; exact fun _ _ _ h => h; rfl; (intro w' hSw; (obtain ⟨⟨j0, j1⟩, j2, j3⟩ := hSw);go_simp; with_reducible rfl); simp only [Act.put, pB, pC, pD]
          refine tkH (by assumption) 2 (oi := ?_) (v := ?_) ?_ ?_ ?_ ?_ ?_ ?_ ?_ ?_; rotate_left 2; (simp only [gA, gB, gC]; exact rfl); kernel_rfl; kernel_rfl; kernel_rfl; exact fun _ _ _ h => h; rfl; (intro w' hSw; (obtain ⟨⟨j0, j1⟩, j2, j3⟩ := hSw);go_simp; with_reducible rfl); simp only [Act.put, pB, pC, pD]
          refine tkH (by assumption) 3 (oi := ?_) (v := ?_) ?_ ?_ ?_ ?_ ?_ ?_ ?_ ?_; rotate_left 2; (simp only [gA, gB, gC]; exact rfl); kernel_rfl; kernel_rfl; kernel_rfl; exact fun _ _ _ h => h; rfl; (intro w' hSw; (obtain ⟨⟨j0, j1⟩, j2, j3⟩ := hSw);go_simp; with_reducible rfl); simp only [Act.put, pB, pC, pD]
          refine tkH (by assumption) 4 (oi := ?_) (v := ?_) ?_ ?_ ?_ ?_ ?_ ?_ ?_ ?_; rotate_left 2; (simp only [gA, gB, gC]; exact rfl); kernel_rfl; kernel_rfl; kernel_rfl; exact fun _ _ _ h => h; rfl; (intro w' hSw; (obtain ⟨⟨j0, j1⟩, j2, j3⟩ := hSw);go_simp; with_reducible rfl); simp only [Act.put, pB, pC, pD]
          refine tkH (by assumption) 5 (oi := ?_) (v := ?_) ?_ ?_ ?_ ?_ ?_ ?_ ?_ ?_; rotate_left 2; (simp only [gA, gB, gC]; exact rfl); kernel_rfl; kernel_rfl; kernel_rfl; exact fun _ _ _ h => h; rfl; (intro w' hSw; (obtain ⟨⟨j0, j1⟩, j2, j3⟩ := hSw);go_simp; with_reducible rfl); simp only [Act.put, pB, pC, pD]
          refine tkH (by assumption) 6 (oi := ?_) (v := ?_) ?_ ?_ ?_ ?_ ?_ ?_ ?_ ?_; rotate_left 2; (simp only [gA, gB, gC]; exact rfl); kernel_rfl; kernel_rfl; kernel_rfl; exact fun _ _ _ h => h; rfl; (intro w' hSw; (obtain ⟨⟨j0, j1⟩, j2, j3⟩ := hSw);go_simp; with_reducible rfl); simp only [Act.put, pB, pC, pD]
          refine tkH (by assumption) 7 (oi := ?_) (v := ?_) ?_ ?_ ?_ ?_ ?_ ?_ ?_ ?_; rotate_left 2; (simp only [gA, gB, gC]; exact rfl); kernel_rfl; kernel_rfl; kernel_rfl; exact fun _ _ _ h => h; rfl; (intro w' hSw; (obtain ⟨⟨j0, j1⟩, j2, j3⟩ := hSw);go_simp; with_reducible rfl); simp only [Act.put, pB, pC, pD]
          refine tkH (by assumption) 8 (oi := ?_) (v := ?_) ?_ ?_ ?_ ?_ ?_ ?_ ?_ ?_; rotate_left 2; (simp only [gA, gB, gC]; exact rfl); kernel_rfl; kernel_rfl; kernel_rfl; exact fun _ _ _ h => h; rfl; (intro w' hSw; (obtain ⟨⟨j0, j1⟩, j2, j3⟩ := hSw);go_simp; with_reducible rfl); simp only [Act.put, pB, pC, pD]
          refine tkH (by assumption) 9 (oi := ?_) (v := ?_) ?_ ?_ ?_ ?_ ?_ ?_ ?_ ?_; rotate_left 2; (simp only [gA, gB, gC]; exact rfl); kernel_rfl; kernel_rfl; kernel_rfl; exact fun _ _ _ h => h; rfl; (intro w' hSw; (obtain ⟨⟨j0, j1⟩, j2, j3⟩ := hSw);go_simp; with_reducible rfl); simp only [Act.put, pB, pC, pD]
          refine tkH (by assumption) 10 (oi := ?_) (v := ?_) ?_ ?_ ?_ ?_ ?_ ?_ ?_ ?_; rotate_left 2; (simp only [gA, gB, gC]; exact rfl); kernel_rfl; kernel_rfl; kernel_rfl; exact fun _ _ _ h => h; rfl; (intro w' hSw; (obtain ⟨⟨j0, j1⟩, j2, j3⟩ := hSw);go_simp; with_reducible rfl); simp only [Act.put, pB, pC, pD]
          refine tkH (by assumption) 11 (oi := ?_) (v := ?_) ?_ ?_ ?_ ?_ ?_ ?_ ?_ ?_; rotate_left 2; (simp only [gA, gB, gC]; exact rfl); kernel_rfl; kernel_rfl; kernel_rfl; exact fun _ _ _ h => h; rfl; (intro w' hSw; (obtain ⟨⟨j0, j1⟩, j2, j3⟩ := hSw);go_simp; with_reducible rfl); simp only [Act.put, pB, pC, pD]
          refine tkH (by assumption) 12 (oi := ?_) (v := ?_) ?_ ?_ ?_ ?_ ?_ ?_ ?_ ?_; rotate_left 2; (simp only [gA, gB, gC]; exact rfl); kernel_rfl; kernel_rfl; kernel_rfl; exact fun _ _ _ h => h; rfl; (intro w' hSw; (obtain ⟨⟨j0, j1⟩, j2, j3⟩ := hSw);go_simp; with_reducible rfl); simp only [Act.put, pB, pC, pD]
          refine tkH (by assumption) 13 (oi := ?_) (v := ?_) ?_ ?_ ?_ ?_ ?_ ?_ ?_ ?_; rotate_left 2; (simp only [gA, gB, gC]; exact rfl); kernel_rfl; kernel_rfl; kernel_rfl; exact fun _ _ _ h => h; rfl; (intro w' hSw; (obtain ⟨⟨j0, j1⟩, j2, j3⟩ := hSw);go_simp; with_reducible rfl); simp only [Act.put, pB, pC, pD]
          refine tkH (by assumption) 14 (oi := ?_) (v := ?_) ?_ ?_ ?_ ?_ ?_ ?_ ?_ ?_; rotate_left 2; (simp only [gA, gB, gC]; exact rfl); kernel_rfl; kernel_rfl; kernel_rfl; exact fun _ _ _ h => h; rfl; (intro w' hSw; (obtain ⟨⟨j0, j1⟩, j2, j3⟩ := hSw);go_simp; with_reducible rfl); simp only [Act.put, pB, pC, pD]
          refine tkH (by assumption) 15 (oi := ?_) (v := ?_) ?_ ?_ ?_ ?_ ?_ ?_ ?_ ?_; rotate_left 2; (simp only [gA, gB, gC]; exact rfl); kernel_rfl; kernel_rfl; kernel_rfl; exact fun _ _ _ h => h; rfl; (intro w' hSw; (obtain ⟨⟨j0, j1⟩, j2, j3⟩ := hSw);go_simp; with_reducible rfl); simp only [Act.put, pB, pC, pD]
          refine tkH (by assumption) 16 (oi := ?_) (v := ?_) ?_ ?_ ?_ ?_ ?_ ?_ ?_ ?_; rotate_left 2; (simp only [gA, gB, gC]; exact rfl); kernel_rfl; kernel_rfl; kernel_rfl; exact fun _ _ _ h => h; rfl; (intro w' hSw; (obtain ⟨⟨j0, j1⟩, j2, j3⟩ := hSw);go_simp; with_reducible rfl); simp only [Act.put, pB, pC, pD]
          refine tkH (by assumption) 17 (oi := ?_) (v := ?_) ?_ ?_ ?_ ?_ ?_ ?_ ?_ ?_; rotate_left 2; (simp only [gA, gB, gC]; exact rfl); kernel_rfl; kernel_rfl; kernel_rfl; exact fun _ _ _ h => h; rfl; (intro w' hSw; (obtain ⟨⟨j0, j1⟩, j2, j3⟩ := hSw);go_simp; with_reducible rfl); simp only [Act.put, pB, pC, pD]
          refine tkH (by assumption) 18 (oi := ?_) (v := ?_) ?_ ?_ ?_ ?_ ?_ ?_ ?_ ?_; rotate_left 2; (simp only [gA, gB, gC]; exact rfl); kernel_rfl; kernel_rfl; kernel_rfl; exact fun _ _ _ h => h; rfl; (intro w' hSw; (obtain ⟨⟨j0, j1⟩, j2, j3⟩ := hSw);go_simp; with_reducible rfl); simp only [Act.put, pB, pC, pD]
          refine tkH (by assumption) 19 (oi := ?_) (v := ?_) ?_ ?_ ?_ ?_ ?_ ?_ ?_ ?_; rotate_left 2; (simp only [gA, gB, gC]; exact rfl); kernel_rfl; kernel_rfl; kernel_rfl; exact fun _ _ _ h => h; rfl; (intro w' hSw; (obtain ⟨⟨j0, j1⟩, j2, j3⟩ := hSw);go_simp; with_reducible rfl); simp only [Act.put, pB, pC, pD]
          refine tkH (by assumption) 20 (oi := ?_) (v := ?_) ?_ ?_ ?_ ?_ ?_ ?_ ?_ ?_; rotate_left 2; (simp only [gA, gB, gC]; exact rfl); kernel_rfl; kernel_rfl; kernel_rfl; exact fun _ _ _ h => h; rfl; (intro w' hSw; (obtain ⟨⟨j0, j1⟩, j2, j3⟩ := hSw);go_simp; with_reducible rfl); simp only [Act.put, pB, pC, pD]
          refine tkH (by assumption) 21 (oi := ?_) (v := ?_) ?_ ?_ ?_ ?_ ?_ ?_ ?_ ?_; rotate_left 2; (simp only [gA, gB, gC]; exact rfl); kernel_rfl; kernel_rfl; kernel_rfl; exact fun _ _ _ h => h; rfl; (intro w' hSw; (obtain ⟨⟨j0, j1⟩, j2, j3⟩ := hSw);go_simp; with_reducible rfl); simp only [Act.put, pB, pC, pD]
          refine tkH (by assumption) 22 (oi := ?_) (v := ?_) ?_ ?_ ?_ ?_ ?_ ?_ ?_ ?_; rotate_left 2; (simp only [gA, gB, gC]; exact rfl); kernel_rfl; kernel_rfl; kernel_rfl; exact fun _ _ _ h => h; rfl; (intro w' hSw; (obtain ⟨⟨j0, j1⟩, j2, j3⟩ := hSw);go_simp; with_reducible rfl); simp only [Act.put, pB, pC, pD]
          refine tkH (by assumption) 23 (oi := ?_) (v := ?_) ?_ ?_ ?_ ?_ ?_ ?_ ?_ ?_; rotate_left 2; (simp only [gA, gB, gC]; exact rfl); kernel_rfl; kernel_rfl; kernel_rfl; exact fun _ _ _ h => h; rfl; (intro w' hSw; (obtain ⟨⟨j0, j1⟩, j2, j3⟩ := hSw);go_simp; with_reducible rfl); simp only [Act.put, pB, pC, pD]
          refine tkH (by assumption) 24 (oi := ?_) (v := ?_) ?_ ?_ ?_ ?_ ?_ ?_ ?_ ?_; rotate_left 2; (simp only [gA, gB, gC]; exact rfl); kernel_rfl; kernel_rfl; kernel_rfl; exact fun _ _ _ h => h; rfl; (intro w' hSw; (obtain ⟨⟨j0, j1⟩, j2, j3⟩ := hSw);go_simp; with_reducible rfl); simp only [Act.put, pB, pC, pD]
          refine onH 25 (oi := ?_) (by kernel_rfl) ?_ ?_ (fun K hK => ?_); rotate_left; (simp only [gA, gB, gC]; exact rfl); rfl
          go_wp2_with (fail)
          have hb1 : Below wr.heap.size wr ((wr.alloc (.cells #[.int .i64 0, .int .i64 0] 102)).drew) := Below.next_drew ((Below.refl _ wr).alloc (Nat.le_refl _) _)
          have H10 := Lib.hid (show ((wr.alloc (.cells #[.int .i64 0, .int .i64 0] 102)).drew).heap[wr.heap.size]? = some (Obj.cells #[.int .i64 0, .int .i64 0] 102 (0, 0)) from heap_alloc_new wr _)
          have HO1 := Lib.hid (ownsRow_below HO.out hb1)
          have HNQ := Lib.hid (show ∀ x, (Value.slice ao k co).ownBlock = some x → x ≠ wr.heap.size from fun x hx => by have := (HO.out.lt x hx).2; omega)
          have HB1 := Lib.hid (HB.out.trans (hb1.mono hsz))
          refine hK.out _ _ ⟨⟨cellk hb1 hbw c0, cellk hb1 hbw c1⟩, cellk hb1 hbw d0, cellk hb1 hbw d1⟩ (fun hHeldN => ?_)
          clear hK K hHeld
          have hHeld := hHeldN
          clear hHeldN
          try simp only [Act.put, pB, pC, pD]
          clear hb1 HO c0 c1 d0 d1
          obtain ⟨W1, hW1⟩ : ∃ W1, W1 = ((wr.alloc (.cells #[.int .i64 0, .int .i64 0] 102)).drew) := ⟨_, rfl⟩
          rw [← hW1] at H10 HO1 HB1 hHeld
          rw [← hW1]
          clear hW1
          obtain ⟨q, hq⟩ : ∃ q, q = wr.heap.size := ⟨_, rfl⟩
          rw [← hq] at H10 HNQ hsz hbw
          rw [← hq]
          have HQ := Lib.hid hq
          clear hq
          refine onH 26 (oi := ?_) (by kernel_rfl) ?_ ?_ (fun K hK => ?_); rotate_left; (simp only [gA, gB, gC]; exact rfl); rfl
          have f0 := cell_of H10.out (i := 0) rfl
          have f1 := cell_of H10.out (i := 1) rfl
          have z0 := frozen_of H10.out (i := 0)
          have z1 := frozen_of H10.out (i := 1)
          go_wp2_with (fail)
          have hs := set2V_1 (u := .int .i64 dy) (set2V_0 (u := .int .i64 dx) H10.out)
          have HB2 := Lib.hid ((Below.setCell (p := ⟨q, 0, none⟩) HB1.out hsz (.int .i64 dx)).setCell (p := ⟨q, 1, none⟩) hsz (.int .i64 dy))
          have HO2 := Lib.hid (own_mutU (own_mutU HO1.out (b := q) 0 (.int .i64 dx) (fun e => HNQ.out q e rfl)) (b := q) 1 (.int .i64 dy) (fun e => HNQ.out q e rfl))
          have hne1 : ¬ q = b := by omega
          refine hK.out _ _ ⟨⟨(sc_other (ne_block hne1)).trans ((sc_other (ne_block hne1)).trans hHeld.1.1), (sc_other (ne_block hne1)).trans ((sc_other (ne_block hne1)).trans hHeld.1.2)⟩, (sc_other (ne_block hne1)).trans ((sc_other (ne_block hne1)).trans hHeld.2.1), (sc_other (ne_block hne1)).trans ((sc_other (ne_block hne1)).trans hHeld.2.2)⟩ (fun hHeldN => ?_)
          clear hK K hHeld
          have hHeld := hHeldN
          clear hHeldN
          try simp only [Act.put, pB, pC, pD]
          clear f0 f1 z0 z1 H10 HO1 HB1 hHeld
          have k0 := cell_of hs (i := 0) rfl
          have k1 := cell_of hs (i := 1) rfl
          have lq := lt_of_heap hs
          clear hs
          generalize ((W1.setCell ⟨q, 0, none⟩ (.int .i64 dx)).setCell ⟨q, 1, none⟩ (.int .i64 dy)) = W2 at *
          refine wpAnyH_done (by kernel_rfl) ?_ _
          have hE := fun wx => neq_ptM dx dy wx
          by_cases hz : dx = 0 ∧ dy = 0
          · rw [if_pos hz] at HMV
            have hzd : decide (dx = 0 ∧ dy = 0) = true := by rw [decide_eq_true_eq]; exact hz
            rw [hzd] at hE
            clear hz hzd
            go_wp2_with (fail)
            go_roundw
            case rel => exact ⟨t + 1, k, ao, co, by omega, by go_num, by rw [HMV.out]; exact HK.out, rfl, by rw [HMV.out]; exact HO2.out, HB2.out⟩
            case measure => simp [intOf] <;> omega
          · rw [if_neg hz] at HMV
            have hzd : decide (dx = 0 ∧ dy = 0) = false := by rw [decide_eq_false_iff_not]; exact hz
            rw [hzd] at hE
            have hs2 : w1.heap.size ≤ W2.heap.size := HB2.out.size
            clear hz hzd
            go_wp2_with (at_builtin; refine wpList_append_lies _ rfl _ _ 60 rfl w1.heap.size 102 i0 (.agg #[.int .i64 0, .int .i64 0]) 2 16 Try.underlying60 hi0 hz0 hz1 hz2 rfl (by decide) _ _ _ rfl (ownsRow_below HO2.out ((Below.refl _ W2).alloc (Nat.le_refl _) _)) ⟨W2.heap.size, 0, none⟩ 1 1 [.int .i64 dx, .int .i64 dy] rfl rfl (World.news_of_block (cs := #[.int .i64 dx, .int .i64 dy]) (t := 102) (fr := (0, 0)) (heap_alloc_new W2 (.cells #[.int .i64 dx, .int .i64 dy] 102))) (by simp [Value.oneCell']) (by omega) (by unfold maxLen; omega) (by omega) (by simp; omega) (W2.heap.size + 1) (by simp) ?_; intro g5 c5 w5 hown5 hgrow5 _ hlt5; have HO5 := Lib.hid hown5; have HB5 := Lib.hid (Below.grown (B := w1.heap.size) (Below.alloc (B := w1.heap.size) (Below.refl _ W2) (by omega) (.cells #[.int .i64 dx, .int .i64 dy] 102)) hgrow5 (by simp; omega) (fun b hb => ((HO2.out).lt b hb).1)); clear hown5 hgrow5)
            have HO6 := Lib.hid (show w5.ownsRow w1.heap.size 102 2 (.slice (some ⟨g5, 0, none⟩) (k + 1) c5) (k + 1) (IV2 (mvL X Y (t + 1))) by rw [HMV.out, IV2_app]; exact HO5.out)
            have HK6 := Lib.hid (show k + 1 = (mvL X Y (t + 1)).length by rw [HMV.out, List.length_append, ← HK.out]; rfl)
            have HB6 := Lib.hid (HB2.out.trans HB5.out)
            clear HO5 HB5
            go_wp2_with (fail)
            go_roundw
            case rel => exact ⟨t + 1, k + 1, _, c5, by omega, by go_num, HK6.out, rfl, HO6.out, HB6.out⟩
            case measure => simp [intOf] <;> omega
        · have l1 : ¬ (t : Int) < (N : Int) - 1 := by omega
          have HT := Lib.hid (show mvP p = mvL X Y t by rw [HMP.out]; congr 1; omega)
          by_cases h0 : k = 0
          · subst h0
            have R2 := Lib.hid (show mvE p l = 8 by rw [R.out, HT.out, if_pos HK.out.symm])
            go_wp2_with (fail)
            exact bodyPost_ret (v := .tuple #[.slice none 0 0, .int .i64 8]) (by simp [results, Try.results81, go_sem]) rfl ⟨fun h => absurd (R2.out.symm.trans h) (by decide), fun _ => by rw [R2.out], B1.out.trans (HB.out.mono B1.out.size)⟩
          · have h0' : ((k : Int) == 0) = false := by simp; omega
            have h0'' : ¬ (k : Int) = 0 := by omega
            have R2 := Lib.hid (show mvE p l = 0 by rw [R.out, HT.out, if_neg (by rw [← HK.out]; exact h0)])
            have HL := Lib.hid (show (mvP p).length = k by rw [HT.out]; exact HK.out.symm)
            go_wp2_with (fail)
            exact bodyPost_ret (v := .tuple #[.slice ao k co, .int .i64 0]) (by simp [results, Try.results81, go_sem]) rfl ⟨fun _ => ⟨ao, co, by rw [HL.out], by rw [HL.out, HT.out]; exact own_lowU HO.out B1.out.size⟩, fun h => absurd R2.out h, B1.out.trans (HB.out.mono B1.out.size)⟩
  · obtain rfl := h2 hz
    have R := Lib.hid (show pdE p l = pF p by rw [pdE_is, if_pos hz])
    have R2 := Lib.hid (show mvE p l = pF p by unfold mvE; rw [R.out, if_neg hz])
    have HZ := Lib.hid hz
    have hz' : (pF p != 0) = true := by simpa using hz
    clear h1 h2 hz
    go_wp2_with (fail)
    exact bodyPost_ret (v := .tuple #[.slice none 0 0, .int .i64 (pF p)]) (by simp [results, Try.results81, go_sem]) rfl ⟨fun h => absurd (R2.out.symm.trans h) HZ.out, fun _ => by rw [R2.out], B1.out⟩
end Go.Proofs.Ytdanlnmdkneepaa

/- What is drawn. -/
import Derived.Test.YtllagjncibfcmaaGreatDoorKe
set_option linter.unusedSimpArgs false
set_option linter.unusedVariables false
namespace Go.Proofs.YtllagjncibfcmaaGreatDoor
open Go.RowKit

/-- The cells of a picture that has been trimmed. -/
theorem drawn_are {P : Int → Int → Bool} {s x y : Int} {n : Nat} {R : Nat → List UInt8} (hst : stB s = true)
    (hd : ((∀ p q, P p q = false) ∧ x = 0 ∧ y = 0 ∧ n = 0) ∨ ∃ lc lr hc hr, Tight P lc lr hc hr ∧ x = lc * s ∧ y = lr * s ∧ n = (hr - lr + 1).toNat ∧ R = fun i : Nat => rowP P lc (hc - lc + 1).toNat (lr + i))
    (hsb : ∀ p q p' q', Tight P p q p' q' → p' - p ≤ 199 ∧ q' - q ≤ 199) :
    (cellsE s x y n R = 0 → CellsAre P s 0 s x y n R) ∧ (cellsE s x y n R ≠ 0 → CellsAre P s (cellsE s x y n R) 0 0 0 0 (fun _ => [])) ∧ n ≤ 200 ∧ ∀ i, i < n → (R i).length ≤ 200 := by
  rcases hd with ⟨h0, rfl, rfl, rfl⟩ | ⟨lc, lr, hc, hr, ht, rfl, rfl, rfl, rfl⟩
  · have he : cellsE s 0 0 0 R = 0 := by simp [cellsE, hst, rowsE, firstR, edgeB]
    exact ⟨fun _ => .inl ⟨h0, rfl, rfl, rfl, rfl, rfl⟩, fun h => absurd he h, by omega, fun i hi => absurd hi (by omega)⟩
  · have hb := hsb _ _ _ _ ht
    have hle := ht.le
    have hp : picE P s lc lr hc hr = cellsE s (lc * s) (lr * s) (hr - lr + 1).toNat (fun i : Nat => rowP P lc (hc - lc + 1).toNat (lr + i)) := by unfold picE; rw [if_neg (by omega)]
    refine ⟨fun h => .inr ⟨lc, lr, hc, hr, ht, by rw [hp, h], fun h => absurd rfl h, fun _ => ⟨rfl, rfl, rfl, rfl, fun i _ => rfl⟩⟩, fun h => .inr ⟨lc, lr, hc, hr, ht, hp.symm, fun _ => ⟨rfl, rfl, rfl, rfl⟩, fun h' => absurd h' h⟩, by omega, fun i _ => by rw [rowP_len]; omega⟩
theorem bcells_snoc (P : Int → Int → Bool) (L : Int) (j : Nat) (r : Int) : Lib.byteCells (rowP P L (j + 1) r) = Lib.byteCells (rowP P L j r) ++ Lib.strCells ⟨#[if P (L + j) r then 35 else 46]⟩ := by
  rw [rowP_snoc]
  simp [Lib.byteCells, Lib.strCells]
set_option maxRecDepth 100000 in
set_option maxHeartbeats 8000000 in
theorem drawnUnion_any {cx cy : Int} {n : Nat} {R : Nat → List UInt8} {dx dy : Int} {n' : Nat} {R' : Nat → List UInt8} (U V : Nat) (P : Int → Int → Bool) (s L B Rt H : Int) (w : World) (henv : PairE w U V cx cy n R dx dy n' R') (hPP : ∀ p q, P p q = (covB cx cy n R p q || covB dx dy n' R' p q))
    (hLR : L ≤ Rt) (hBH : B ≤ H) (hL : -3000000 ≤ L ∧ Rt ≤ 3000000) (hB : -3000000 ≤ B ∧ H ≤ 3000000) (hs : 2 ≤ s ∧ s ≤ 10000) (hst : stB s = true)
    (hP : ∀ p q, P p q = true → L ≤ p ∧ p < Rt ∧ B ≤ q ∧ q < H) (hwide : 200 < Rt - L ∨ 200 < H - B → Tight P L B (Rt - 1) (H - 1)) :
    Calls Tryz.prog 26 #[.int .i64 s, .agg #[.int .i64 L, .int .i64 B, .int .i64 Rt, .int .i64 H], .func (.func 29) #[] #[.pointer (some ⟨U, 0, none⟩), .pointer (some ⟨V, 0, none⟩)]] w (CellsRes P s w) := by
  have HENV := Lib.hid henv
  have HPP := Lib.hid hPP
  have HP := Lib.hid hP
  have HW := Lib.hid hwide
  clear henv hPP hP hwide
  by_cases hw : 200 < Rt - L ∨ 200 < H - B
  · have HT := Lib.hid (HW.out hw)
    have x1 : IntKind.i64.wrap (Rt - L) = Rt - L := by rw [IntKind.wrap_i64]; omega
    have x2 : IntKind.i64.wrap (H - B) = H - B := by rw [IntKind.wrap_i64]; omega
    have hres : CellsAre P s 12 0 0 0 0 (fun _ => []) := .inr ⟨L, B, Rt - 1, H - 1, HT.out, by unfold picE; rw [if_pos (by omega)], fun _ => ⟨rfl, rfl, rfl, rfl⟩, fun h => by omega⟩
    have HRES := Lib.hid hres
    clear hres
    by_cases hw1 : 200 < Rt - L
    · go_enter Tryz.func26, Tryz.ntmps26
      go_wp2_with (fail)
      refine bodyPost_ret (v := .tuple #[.agg #[.int .i64 0, .int .i64 0, .int .i64 0, .slice none 0 0], .int .i64 12]) (by simp [results, Tryz.results26, go_sem]) rfl ⟨0, 0, 0, none, 0, 0, _, 12, rfl, HRES.out, .inl rfl, fun _ _ h => by (cases h), Nat.le_refl _, by unfold maxLen; omega, fun i hi => absurd hi (by omega), ?_⟩
      exact (by repeat (first | exact Below.refl _ _ | assumption | refine Below.drew ?_ | refine bdrewN ?_ _ | refine Below.setCell ?_ (by first | omega | (simp <;> omega)) _ | refine Below.alloc ?_ (by first | omega | (simp <;> omega)) _))
    · have hw2 : 200 < H - B := by omega
      go_enter Tryz.func26, Tryz.ntmps26
      go_wp2_with (fail)
      refine bodyPost_ret (v := .tuple #[.agg #[.int .i64 0, .int .i64 0, .int .i64 0, .slice none 0 0], .int .i64 12]) (by simp [results, Tryz.results26, go_sem]) rfl ⟨0, 0, 0, none, 0, 0, _, 12, rfl, HRES.out, .inl rfl, fun _ _ h => by (cases h), Nat.le_refl _, by unfold maxLen; omega, fun i hi => absurd hi (by omega), ?_⟩
      exact (by repeat (first | exact Below.refl _ _ | assumption | refine Below.drew ?_ | refine bdrewN ?_ _ | refine Below.setCell ?_ (by first | omega | (simp <;> omega)) _ | refine Below.alloc ?_ (by first | omega | (simp <;> omega)) _))
  · have hw1 : ¬ 200 < Rt - L := by omega
    have hw2 : ¬ 200 < H - B := by omega
    obtain ⟨W, hWW⟩ : ∃ W : Nat, Rt = L + W := ⟨(Rt - L).toNat, by omega⟩
    obtain ⟨n_, hnn⟩ : ∃ n : Nat, H = B + n := ⟨(H - B).toNat, by omega⟩
    have hW2 : W ≤ 200 := by omega
    have hn2 : n_ ≤ 200 := by omega
    have hw3 : ¬ 200 < (W : Int) := by omega
    have hw4 : ¬ 200 < (n_ : Int) := by omega
    subst hWW hnn
    have x1 : IntKind.i64.wrap (L + W - L) = W := by rw [IntKind.wrap_i64]; omega
    have x2 : IntKind.i64.wrap (B + n_ - B) = n_ := by rw [IntKind.wrap_i64]; omega
    obtain ⟨i0, hi0, hz0, hz1, hz2⟩ := info_parts info_str
    clear hw hw1 hw2
    go_enter Tryz.func26, Tryz.ntmps26
    go_wp2_with (fail)
    have HW0 : Hid (Below w.heap.size w ((w.alloc (.cells #[.int .i64 L, .int .i64 B, .int .i64 (L + W), .int .i64 (B + n_)] 52)).alloc (.cells #[.int .i64 0, .int .i64 0, .int .i64 0, .slice none 0 0] 28))) := Lib.hid (by repeat (first | exact Below.refl _ _ | assumption | refine Below.drew ?_ | refine bdrewN ?_ _ | refine Below.setCell ?_ (by first | omega | (simp <;> omega)) _ | refine Below.alloc ?_ (by first | omega | (simp <;> omega)) _))
    have HX : Hid (((w.alloc (.cells #[.int .i64 L, .int .i64 B, .int .i64 (L + W), .int .i64 (B + n_)] 52)).alloc (.cells #[.int .i64 0, .int .i64 0, .int .i64 0, .slice none 0 0] 28)).heap[w.heap.size]? = some (.cells #[.int .i64 L, .int .i64 B, .int .i64 (L + W), .int .i64 (B + n_)] 52 (0, 0))) := Lib.hid ((Below.heap_alloc _ _ _ (by simp)).trans (heap_new rfl))
    have HZ : Hid (((w.alloc (.cells #[.int .i64 L, .int .i64 B, .int .i64 (L + W), .int .i64 (B + n_)] 52)).alloc (.cells #[.int .i64 0, .int .i64 0, .int .i64 0, .slice none 0 0] 28)).heap[w.heap.size + 1]? = some (.cells #[.int .i64 0, .int .i64 0, .int .i64 0, .slice none 0 0] 28 (0, 0))) := Lib.hid (heap_new (by simp))
    have hlw : w.heap.size + 1 < ((w.alloc (.cells #[.int .i64 L, .int .i64 B, .int .i64 (L + W), .int .i64 (B + n_)] 52)).alloc (.cells #[.int .i64 0, .int .i64 0, .int .i64 0, .slice none 0 0] 28)).heap.size := by simp
    change Code.wp _ _ _ _ ((w.alloc (.cells #[.int .i64 L, .int .i64 B, .int .i64 (L + W), .int .i64 (B + n_)] 52)).alloc (.cells #[.int .i64 0, .int .i64 0, .int .i64 0, .slice none 0 0] 28))
    generalize ((w.alloc (.cells #[.int .i64 L, .int .i64 B, .int .i64 (L + W), .int .i64 (B + n_)] 52)).alloc (.cells #[.int .i64 0, .int .i64 0, .int .i64 0, .slice none 0 0] 28)) = w0 at *
    go_loopw [8, 9] (fun v r wr => ∃ (i : Nat) (ao : Option Addr) (co : Nat), i ≤ n_ ∧ r = .int .i64 (B + i) ∧ v = .slice ao i co ∧ wr.ownsRow (w.heap.size + 2) 9 1 (.slice ao i co) i (strV (fun i : Nat => rowP P L W (B + i)) i) ∧ Below (w.heap.size + 2) w0 wr) (fun _ r _ => (B + n_ - intOf r).toNat)
    case atStart => exact ⟨0, none, 0, by omega, by simp, rfl, World.ownsRow_nil _ _ _ _, Below.refl _ _⟩
    case round =>
      obtain ⟨i, ao, co, hi, rfl, rfl, hown, hbel⟩ := hrel
      have hsz := hbel.size
      have HO := Lib.hid hown
      have HB := Lib.hid hbel
      have HBw : Hid (Below w.heap.size w wr) := Lib.hid (HW0.out.trans (hbel.mono (by omega)))
      have hx : wr.heap[w.heap.size]? = some (.cells #[.int .i64 L, .int .i64 B, .int .i64 (L + W), .int .i64 (B + n_)] 52 (0, 0)) := (hbel.block w.heap.size (by omega)).trans HX.out
      have b0 : wr.cell? ⟨w.heap.size, 0, none⟩ = some (.int .i64 L) := cell_of hx rfl
      have b1 : wr.cell? ⟨w.heap.size, 1, none⟩ = some (.int .i64 B) := cell_of hx rfl
      have b2 : wr.cell? ⟨w.heap.size, 2, none⟩ = some (.int .i64 (L + W)) := cell_of hx rfl
      have b3 : wr.cell? ⟨w.heap.size, 3, none⟩ = some (.int .i64 (B + n_)) := cell_of hx rfl
      have hbw : w.heap.size < wr.heap.size := by omega
      clear hown hbel hx
      by_cases hlt : i < n_
      · have hl2 : B + (i : Int) < B + n_ := by omega
        obtain ⟨wo, hwo⟩ : ∃ wo : World, wr = wo := ⟨_, rfl⟩
        rw [hwo] at HB HO HBw b0 b1 b2 b3 hbw hsz ⊢
        clear hwo
        go_wp2_with (fail)
        have HBU0 : Hid (Lib.IsBuilder 81 5 wo.heap.size wo.heap.size (Lib.byteCells (rowP P L 0 (B + i))) (wo.alloc (.cells #[.pointer none, .slice none 0 0] 81))) := Lib.hid (Lib.fresh_isBuilder _ _ wo)
        have HBO0 : Hid (Below wo.heap.size wo (wo.alloc (.cells #[.pointer none, .slice none 0 0] 81))) := Lib.hid ((Below.refl _ _).alloc (Nat.le_refl _) _)
        go_loopw [11] (fun v wr => ∃ j : Nat, j ≤ W ∧ v = .int .i64 (L + j) ∧ Lib.IsBuilder 81 5 wo.heap.size wo.heap.size (Lib.byteCells (rowP P L j (B + i))) wr ∧ Below wo.heap.size wo wr) (fun v _ => (L + W - intOf v).toNat)
        case atStart => exact ⟨0, by omega, by simp, HBU0.out, HBO0.out⟩
        case round =>
          obtain ⟨j, hj, rfl, hbu, hbo⟩ := hrel
          have HBU := Lib.hid hbu
          have HBO := Lib.hid hbo
          have hszo := hbo.size
          have d0 := cellk hbo hbw b0
          have d2 := cellk hbo hbw b2
          have hbw2 : w.heap.size < wr.heap.size := by omega
          clear hbu hbo
          by_cases hlj : j < W
          · have hl3 : L + (j : Int) < L + W := by omega
            obtain ⟨x, hx⟩ : ∃ x, P (L + j) (B + i) = x := ⟨_, rfl⟩
            have HXV := Lib.hid hx
            clear hx
            go_wp2_with (fail)
            refine (pairUnion_any U V (L + j) (B + i) _ (HENV.out.kept (HBw.out.trans (HBO.out.mono (by have := HBw.out.size; omega))))).mono ?_
            rintro e w3 ⟨rfl, hb3⟩
            rw [← HPP.out, HXV.out]
            have HBU3 := Lib.hid (builder_below HBU.out hb3)
            have HBO3 := Lib.hid (HBO.out.trans (hb3.mono hszo))
            have hs3 := HBO3.out.size
            have hlen : (Lib.byteCells (rowP P L j (B + i))).length = j := by rw [Lib.byteCells_length, rowP_len]
            clear hb3
            rcases x with _ | _
            · have HS := Lib.hid (bcells_snoc P L j (B + i))
              have HY := HS.out
              rw [HXV.out] at HY
              have HYY := Lib.hid HY
              clear HY
              go_wp2_with (go_at_call 45; refine (write_any wo.heap.size wo.heap.size _ ⟨#[46]⟩ _ HBU3.out (by rw [hlen]; show j + 1 ≤ _; omega) hs3).mono ?_; rintro e w4 ⟨rfl, hbu4, hb4⟩)
              have HBU4 : Hid (Lib.IsBuilder 81 5 wo.heap.size wo.heap.size (Lib.byteCells (rowP P L (j + 1) (B + i))) w4) := Lib.hid (by rw [HYY.out]; exact .inr hbu4)
              have HBO4 := Lib.hid (HBO3.out.trans hb4)
              clear hbu4 hb4
              go_roundw
              case rel => exact ⟨j + 1, by omega, by go_num, HBU4.out, HBO4.out⟩
              case measure => simp [intOf]; omega
            · have HS := Lib.hid (bcells_snoc P L j (B + i))
              have HY := HS.out
              rw [HXV.out] at HY
              have HYY := Lib.hid HY
              clear HY
              go_wp2_with (go_at_call 45; refine (write_any wo.heap.size wo.heap.size _ ⟨#[35]⟩ _ HBU3.out (by rw [hlen]; show j + 1 ≤ _; omega) hs3).mono ?_; rintro e w4 ⟨rfl, hbu4, hb4⟩)
              have HBU4 : Hid (Lib.IsBuilder 81 5 wo.heap.size wo.heap.size (Lib.byteCells (rowP P L (j + 1) (B + i))) w4) := Lib.hid (by rw [HYY.out]; exact .inr hbu4)
              have HBO4 := Lib.hid (HBO3.out.trans hb4)
              clear hbu4 hb4
              go_roundw
              case rel => exact ⟨j + 1, by omega, by go_num, HBU4.out, HBO4.out⟩
              case measure => simp [intOf]; omega
          · obtain rfl : W = j := by omega
            have hl3 : ¬ L + (W : Int) < L + W := by omega
            go_wp2_with (fail)
            refine (Go.Proofs.Tryz.Builder_String_any_k wo.heap.size wo.heap.size (rowP P L W (B + i)) _ (Lib.IsBuilderF.of HBU.out) hszo).mono ?_
            rintro e w5 ⟨rfl, -, hb5, -⟩
            have HB5 := Lib.hid (HBO.out.trans hb5)
            have HO5 := Lib.hid (ownsRow_below HO.out HB5.out)
            have hs5 := HB5.out.size
            clear hb5
            go_wp2_with (at_builtin; refine wpList_append_own _ rfl _ _ 26 rfl (w.heap.size + 2) 9 i0 (.string ⟨#[]⟩) 1 16 Tryz.underlying26 hi0 hz0 hz1 hz2 rfl (by decide) _ _ _ rfl (HO5.out.alloc _) ⟨w5.heap.size, 0, none⟩ 1 1 [.string ⟨(rowP P L W (B + i)).toArray⟩] rfl rfl ?c1 ?c2 ?c3 ?c4 ?c5 ?_)
            case c1 =>
              intro j u hj
              match j, hj with
              | 0, hj => simp at hj; subst hj; simp [Addr.add]
            case c2 => intro u hu; simp at hu; subst hu; rfl
            case c3 => unfold maxLen; omega
            case c4 => omega
            case c5 => simp; omega
            intro v' w6 hown' hgrow _
            have HO6 := Lib.hid hown'
            have HB6 : Hid (Below (w.heap.size + 2) w0 w6) := Lib.hid (((HB.out.trans (HB5.out.mono (by omega))).alloc (by omega) _).grown hgrow (by simp; omega) (fun k hk => (HO5.out.lt k hk).1))
            obtain ⟨ao2, co2, rfl⟩ : ∃ ao2 co2, v' = .slice ao2 (i + 1) co2 := by
              rcases hown'.2 with ⟨_, h0⟩ | ⟨g, cap, cur, hv, _⟩
              · omega
              · exact ⟨_, _, hv⟩
            clear hown' hgrow
            go_wp2_with (fail)
            go_roundw
            case rel => exact ⟨i + 1, ao2, co2, by omega, by go_num, rfl, HO6.out, HB6.out⟩
            case measure => simp [intOf]; omega
      · obtain rfl : n_ = i := by omega
        have hl2 : ¬ B + (n_ : Int) < B + n_ := by omega
        obtain ⟨ro1, ro2, ro3⟩ := rows_of_own HO.out
        have RO := Lib.hid ro1
        have hbz := HBw.out.size
        clear ro1
        go_wp2_with (fail)
        refine (trimmed_any P s L B W n_ ao co _ RO.out hW2 hn2 ro2 ro3 HP.out (by omega) (by omega) hs).mono ?_
        rintro e w5 ⟨x, y, a5, n5, c5, R5, rfl, hd, hr5, hf5, hn5, hc5, hb5⟩
        have hne : ∀ b off, a5 = some ⟨b, off, none⟩ → b ≠ w.heap.size + 1 := fun b off h => by have := hf5 b off h; omega
        have HNE := Lib.hid hne
        have HF5 := Lib.hid (fun b off h => Nat.le_trans hbz (hf5 b off h))
        have HD := Lib.hid hd
        have HR5 := Lib.hid hr5
        have HB5 := Lib.hid (HBw.out.trans (hb5.mono hbz))
        have hz5 : w5.heap[w.heap.size + 1]? = some (.cells #[.int .i64 0, .int .i64 0, .int .i64 0, .slice none 0 0] 28 (0, 0)) := heap_keep hb5 ((HB.out.block (w.heap.size + 1) (by omega)).trans HZ.out)
        have HZ5 := Lib.hid hz5
        have hlz : w.heap.size + 1 < w5.heap.size := lt_of_heap hz5
        clear hd hr5 hb5 hz5 hf5 hne
        have hsb : ∀ p q p' q', Tight P p q p' q' → p' - p ≤ 199 ∧ q' - q ≤ 199 := fun p q p' q' ht => by
          obtain ⟨r1, e1⟩ := ht.l
          obtain ⟨r2, e2⟩ := ht.b
          obtain ⟨r3, e3⟩ := ht.h
          obtain ⟨r4, e4⟩ := ht.t
          have := HP.out _ _ e1
          have := HP.out _ _ e2
          have := HP.out _ _ e3
          have := HP.out _ _ e4
          omega
        obtain ⟨hA1, hA2, hA3, hA4⟩ := drawn_are hst HD.out hsb
        have HA1 := Lib.hid hA1
        have HA2 := Lib.hid hA2
        have HA4 := Lib.hid hA4
        obtain ⟨E, hE⟩ : ∃ E, cellsE s x y n5 R5 = E := ⟨_, rfl⟩
        have HE := Lib.hid hE
        clear hA1 hA2 hA4 hsb hE
        go_wp2_with (fail)
        have HV : Hid (Below w5.heap.size w5 (w5.alloc (.cells #[.int .i64 s, .int .i64 x, .int .i64 y, .slice a5 n5 c5] 28))) := Lib.hid ((Below.refl _ _).alloc (Nat.le_refl _) _)
        have hv : (w5.alloc (.cells #[.int .i64 s, .int .i64 x, .int .i64 y, .slice a5 n5 c5] 28)).heap[w5.heap.size]? = some (.cells #[.int .i64 s, .int .i64 x, .int .i64 y, .slice a5 n5 c5] 28 (0, 0)) := heap_new rfl
        have HVV := Lib.hid hv
        clear hv
        refine (checkCells_any s x y a5 n5 c5 R5 _ (HR5.out.kept HV.out) (fun i hi => by have := HA4.out i hi; omega) (by omega)).mono ?_
        rintro e w6 ⟨rfl, hb6⟩
        rw [HE.out]
        have HB6 := Lib.hid (HB5.out.trans ((HV.out.trans (hb6.mono HV.out.size)).mono HB5.out.size))
        have hvv := heap_keep hb6 HVV.out
        have k0 : w6.cell? ⟨w5.heap.size, 0, none⟩ = some (.int .i64 s) := cell_of hvv rfl
        have k1 : w6.cell? ⟨w5.heap.size, 1, none⟩ = some (.int .i64 x) := cell_of hvv rfl
        have k2 : w6.cell? ⟨w5.heap.size, 2, none⟩ = some (.int .i64 y) := cell_of hvv rfl
        have k3 : w6.cell? ⟨w5.heap.size, 3, none⟩ = some (.slice a5 n5 c5) := cell_of hvv rfl
        have HZ6 := Lib.hid (heap_keep (HV.out.trans (hb6.mono HV.out.size)) HZ5.out)
        have HR6 := Lib.hid (HR5.out.kept (HV.out.trans (hb6.mono HV.out.size)))
        clear hb6 hvv hz0
        have z0 : w6.cell? ⟨w.heap.size + 1, 0, none⟩ = some (.int .i64 0) := cell_of HZ6.out rfl
        have zf0 : w6.frozen? ⟨w.heap.size + 1, 0, none⟩ = false := frozen_of HZ6.out
        have z1 : w6.cell? ⟨w.heap.size + 1, 1, none⟩ = some (.int .i64 0) := cell_of HZ6.out rfl
        have zf1 : w6.frozen? ⟨w.heap.size + 1, 1, none⟩ = false := frozen_of HZ6.out
        have z2 : w6.cell? ⟨w.heap.size + 1, 2, none⟩ = some (.int .i64 0) := cell_of HZ6.out rfl
        have zf2 : w6.frozen? ⟨w.heap.size + 1, 2, none⟩ = false := frozen_of HZ6.out
        have z3 : w6.cell? ⟨w.heap.size + 1, 3, none⟩ = some (.slice none 0 0) := cell_of HZ6.out rfl
        have zf3 : w6.frozen? ⟨w.heap.size + 1, 3, none⟩ = false := frozen_of HZ6.out
        by_cases hE0 : E = 0
        · subst hE0
          go_wp2_with (fail)
          obtain ⟨r0, r1, r2, r3⟩ := set4 (w := w6) (R := w.heap.size + 1) (x0 := (.int .i64 s)) (x1 := (.int .i64 x)) (x2 := (.int .i64 y)) (x3 := (.slice a5 n5 c5)) (is4 (is_some z0) (is_some z1) (is_some z2) (is_some z3)) rfl
          have HF : Hid (Below w.heap.size w ((((w6.setCell ⟨w.heap.size + 1, 0, none⟩ (.int .i64 s)).setCell ⟨w.heap.size + 1, 1, none⟩ (.int .i64 x)).setCell ⟨w.heap.size + 1, 2, none⟩ (.int .i64 y)).setCell ⟨w.heap.size + 1, 3, none⟩ (.slice a5 n5 c5))) := Lib.hid ((((HB6.out.setCell (by show _ ≤ w.heap.size + 1; omega) _).setCell (by show _ ≤ w.heap.size + 1; omega) _).setCell (by show _ ≤ w.heap.size + 1; omega) _).setCell (by show _ ≤ w.heap.size + 1; omega) _)
          have HRW : Hid (RowS ((((w6.setCell ⟨w.heap.size + 1, 0, none⟩ (.int .i64 s)).setCell ⟨w.heap.size + 1, 1, none⟩ (.int .i64 x)).setCell ⟨w.heap.size + 1, 2, none⟩ (.int .i64 y)).setCell ⟨w.heap.size + 1, 3, none⟩ (.slice a5 n5 c5)) a5 n5 R5) := Lib.hid ((((HR6.out.set _ _ HNE.out).set _ _ HNE.out).set _ _ HNE.out).set _ _ HNE.out)
          generalize ((((w6.setCell ⟨w.heap.size + 1, 0, none⟩ (.int .i64 s)).setCell ⟨w.heap.size + 1, 1, none⟩ (.int .i64 x)).setCell ⟨w.heap.size + 1, 2, none⟩ (.int .i64 y)).setCell ⟨w.heap.size + 1, 3, none⟩ (.slice a5 n5 c5)) = WW at *
          exact bodyPost_ret (v := .tuple #[.agg #[.int .i64 s, .int .i64 x, .int .i64 y, .slice a5 n5 c5], .int .i64 0]) (by simp [results, Tryz.results26, go_sem, r0, r1, r2, r3]) rfl ⟨s, x, y, a5, n5, c5, R5, 0, rfl, HA1.out HE.out, HRW.out, HF5.out, hn5, hc5, HA4.out, HF.out⟩
        · have hE1 : (E != 0) = true := by simpa using hE0
          go_wp2_with (fail)
          obtain ⟨r0, r1, r2, r3⟩ := set4 (w := w6) (R := w.heap.size + 1) (x0 := (.int .i64 0)) (x1 := (.int .i64 0)) (x2 := (.int .i64 0)) (x3 := (.slice none 0 0)) (is4 (is_some z0) (is_some z1) (is_some z2) (is_some z3)) rfl
          have HF : Hid (Below w.heap.size w ((((w6.setCell ⟨w.heap.size + 1, 0, none⟩ (.int .i64 0)).setCell ⟨w.heap.size + 1, 1, none⟩ (.int .i64 0)).setCell ⟨w.heap.size + 1, 2, none⟩ (.int .i64 0)).setCell ⟨w.heap.size + 1, 3, none⟩ (.slice none 0 0))) := Lib.hid ((((HB6.out.setCell (by show _ ≤ w.heap.size + 1; omega) _).setCell (by show _ ≤ w.heap.size + 1; omega) _).setCell (by show _ ≤ w.heap.size + 1; omega) _).setCell (by show _ ≤ w.heap.size + 1; omega) _)
          generalize ((((w6.setCell ⟨w.heap.size + 1, 0, none⟩ (.int .i64 0)).setCell ⟨w.heap.size + 1, 1, none⟩ (.int .i64 0)).setCell ⟨w.heap.size + 1, 2, none⟩ (.int .i64 0)).setCell ⟨w.heap.size + 1, 3, none⟩ (.slice none 0 0)) = WW at *
          exact bodyPost_ret (v := .tuple #[.agg #[.int .i64 0, .int .i64 0, .int .i64 0, .slice none 0 0], .int .i64 E]) (by simp [results, Tryz.results26, go_sem, r0, r1, r2, r3]) rfl ⟨0, 0, 0, none, 0, 0, fun _ => [], E, rfl, by have := HA2.out (by rw [HE.out]; exact hE0); rwa [HE.out] at this, .inl rfl, fun _ _ h => by (cases h), Nat.le_refl _, by unfold maxLen; omega, fun i hi => absurd hi (by omega), HF.out⟩
set_option maxRecDepth 100000 in
set_option maxHeartbeats 8000000 in
theorem drawnBoth_any {cx cy : Int} {n : Nat} {R : Nat → List UInt8} {dx dy : Int} {n' : Nat} {R' : Nat → List UInt8} (U V : Nat) (P : Int → Int → Bool) (s L B Rt H : Int) (w : World) (henv : PairE w U V cx cy n R dx dy n' R') (hPP : ∀ p q, P p q = (covB cx cy n R p q && covB dx dy n' R' p q))
    (hLR : L ≤ Rt) (hBH : B ≤ H) (hL : -3000000 ≤ L ∧ Rt ≤ 3000000) (hB : -3000000 ≤ B ∧ H ≤ 3000000) (hs : 2 ≤ s ∧ s ≤ 10000) (hst : stB s = true)
    (hP : ∀ p q, P p q = true → L ≤ p ∧ p < Rt ∧ B ≤ q ∧ q < H) (hwide : 200 < Rt - L ∨ 200 < H - B → Tight P L B (Rt - 1) (H - 1)) :
    Calls Tryz.prog 26 #[.int .i64 s, .agg #[.int .i64 L, .int .i64 B, .int .i64 Rt, .int .i64 H], .func (.func 30) #[] #[.pointer (some ⟨U, 0, none⟩), .pointer (some ⟨V, 0, none⟩)]] w (CellsRes P s w) := by
  have HENV := Lib.hid henv
  have HPP := Lib.hid hPP
  have HP := Lib.hid hP
  have HW := Lib.hid hwide
  clear henv hPP hP hwide
  by_cases hw : 200 < Rt - L ∨ 200 < H - B
  · have HT := Lib.hid (HW.out hw)
    have x1 : IntKind.i64.wrap (Rt - L) = Rt - L := by rw [IntKind.wrap_i64]; omega
    have x2 : IntKind.i64.wrap (H - B) = H - B := by rw [IntKind.wrap_i64]; omega
    have hres : CellsAre P s 12 0 0 0 0 (fun _ => []) := .inr ⟨L, B, Rt - 1, H - 1, HT.out, by unfold picE; rw [if_pos (by omega)], fun _ => ⟨rfl, rfl, rfl, rfl⟩, fun h => by omega⟩
    have HRES := Lib.hid hres
    clear hres
    by_cases hw1 : 200 < Rt - L
    · go_enter Tryz.func26, Tryz.ntmps26
      go_wp2_with (fail)
      refine bodyPost_ret (v := .tuple #[.agg #[.int .i64 0, .int .i64 0, .int .i64 0, .slice none 0 0], .int .i64 12]) (by simp [results, Tryz.results26, go_sem]) rfl ⟨0, 0, 0, none, 0, 0, _, 12, rfl, HRES.out, .inl rfl, fun _ _ h => by (cases h), Nat.le_refl _, by unfold maxLen; omega, fun i hi => absurd hi (by omega), ?_⟩
      exact (by repeat (first | exact Below.refl _ _ | assumption | refine Below.drew ?_ | refine bdrewN ?_ _ | refine Below.setCell ?_ (by first | omega | (simp <;> omega)) _ | refine Below.alloc ?_ (by first | omega | (simp <;> omega)) _))
    · have hw2 : 200 < H - B := by omega
      go_enter Tryz.func26, Tryz.ntmps26
      go_wp2_with (fail)
      refine bodyPost_ret (v := .tuple #[.agg #[.int .i64 0, .int .i64 0, .int .i64 0, .slice none 0 0], .int .i64 12]) (by simp [results, Tryz.results26, go_sem]) rfl ⟨0, 0, 0, none, 0, 0, _, 12, rfl, HRES.out, .inl rfl, fun _ _ h => by (cases h), Nat.le_refl _, by unfold maxLen; omega, fun i hi => absurd hi (by omega), ?_⟩
      exact (by repeat (first | exact Below.refl _ _ | assumption | refine Below.drew ?_ | refine bdrewN ?_ _ | refine Below.setCell ?_ (by first | omega | (simp <;> omega)) _ | refine Below.alloc ?_ (by first | omega | (simp <;> omega)) _))
  · have hw1 : ¬ 200 < Rt - L := by omega
    have hw2 : ¬ 200 < H - B := by omega
    obtain ⟨W, hWW⟩ : ∃ W : Nat, Rt = L + W := ⟨(Rt - L).toNat, by omega⟩
    obtain ⟨n_, hnn⟩ : ∃ n : Nat, H = B + n := ⟨(H - B).toNat, by omega⟩
    have hW2 : W ≤ 200 := by omega
    have hn2 : n_ ≤ 200 := by omega
    have hw3 : ¬ 200 < (W : Int) := by omega
    have hw4 : ¬ 200 < (n_ : Int) := by omega
    subst hWW hnn
    have x1 : IntKind.i64.wrap (L + W - L) = W := by rw [IntKind.wrap_i64]; omega
    have x2 : IntKind.i64.wrap (B + n_ - B) = n_ := by rw [IntKind.wrap_i64]; omega
    obtain ⟨i0, hi0, hz0, hz1, hz2⟩ := info_parts info_str
    clear hw hw1 hw2
    go_enter Tryz.func26, Tryz.ntmps26
    go_wp2_with (fail)
    have HW0 : Hid (Below w.heap.size w ((w.alloc (.cells #[.int .i64 L, .int .i64 B, .int .i64 (L + W), .int .i64 (B + n_)] 52)).alloc (.cells #[.int .i64 0, .int .i64 0, .int .i64 0, .slice none 0 0] 28))) := Lib.hid (by repeat (first | exact Below.refl _ _ | assumption | refine Below.drew ?_ | refine bdrewN ?_ _ | refine Below.setCell ?_ (by first | omega | (simp <;> omega)) _ | refine Below.alloc ?_ (by first | omega | (simp <;> omega)) _))
    have HX : Hid (((w.alloc (.cells #[.int .i64 L, .int .i64 B, .int .i64 (L + W), .int .i64 (B + n_)] 52)).alloc (.cells #[.int .i64 0, .int .i64 0, .int .i64 0, .slice none 0 0] 28)).heap[w.heap.size]? = some (.cells #[.int .i64 L, .int .i64 B, .int .i64 (L + W), .int .i64 (B + n_)] 52 (0, 0))) := Lib.hid ((Below.heap_alloc _ _ _ (by simp)).trans (heap_new rfl))
    have HZ : Hid (((w.alloc (.cells #[.int .i64 L, .int .i64 B, .int .i64 (L + W), .int .i64 (B + n_)] 52)).alloc (.cells #[.int .i64 0, .int .i64 0, .int .i64 0, .slice none 0 0] 28)).heap[w.heap.size + 1]? = some (.cells #[.int .i64 0, .int .i64 0, .int .i64 0, .slice none 0 0] 28 (0, 0))) := Lib.hid (heap_new (by simp))
    have hlw : w.heap.size + 1 < ((w.alloc (.cells #[.int .i64 L, .int .i64 B, .int .i64 (L + W), .int .i64 (B + n_)] 52)).alloc (.cells #[.int .i64 0, .int .i64 0, .int .i64 0, .slice none 0 0] 28)).heap.size := by simp
    change Code.wp _ _ _ _ ((w.alloc (.cells #[.int .i64 L, .int .i64 B, .int .i64 (L + W), .int .i64 (B + n_)] 52)).alloc (.cells #[.int .i64 0, .int .i64 0, .int .i64 0, .slice none 0 0] 28))
    generalize ((w.alloc (.cells #[.int .i64 L, .int .i64 B, .int .i64 (L + W), .int .i64 (B + n_)] 52)).alloc (.cells #[.int .i64 0, .int .i64 0, .int .i64 0, .slice none 0 0] 28)) = w0 at *
    go_loopw [8, 9] (fun v r wr => ∃ (i : Nat) (ao : Option Addr) (co : Nat), i ≤ n_ ∧ r = .int .i64 (B + i) ∧ v = .slice ao i co ∧ wr.ownsRow (w.heap.size + 2) 9 1 (.slice ao i co) i (strV (fun i : Nat => rowP P L W (B + i)) i) ∧ Below (w.heap.size + 2) w0 wr) (fun _ r _ => (B + n_ - intOf r).toNat)
    case atStart => exact ⟨0, none, 0, by omega, by simp, rfl, World.ownsRow_nil _ _ _ _, Below.refl _ _⟩
    case round =>
      obtain ⟨i, ao, co, hi, rfl, rfl, hown, hbel⟩ := hrel
      have hsz := hbel.size
      have HO := Lib.hid hown
      have HB := Lib.hid hbel
      have HBw : Hid (Below w.heap.size w wr) := Lib.hid (HW0.out.trans (hbel.mono (by omega)))
      have hx : wr.heap[w.heap.size]? = some (.cells #[.int .i64 L, .int .i64 B, .int .i64 (L + W), .int .i64 (B + n_)] 52 (0, 0)) := (hbel.block w.heap.size (by omega)).trans HX.out
      have b0 : wr.cell? ⟨w.heap.size, 0, none⟩ = some (.int .i64 L) := cell_of hx rfl
      have b1 : wr.cell? ⟨w.heap.size, 1, none⟩ = some (.int .i64 B) := cell_of hx rfl
      have b2 : wr.cell? ⟨w.heap.size, 2, none⟩ = some (.int .i64 (L + W)) := cell_of hx rfl
      have b3 : wr.cell? ⟨w.heap.size, 3, none⟩ = some (.int .i64 (B + n_)) := cell_of hx rfl
      have hbw : w.heap.size < wr.heap.size := by omega
      clear hown hbel hx
      by_cases hlt : i < n_
      · have hl2 : B + (i : Int) < B + n_ := by omega
        obtain ⟨wo, hwo⟩ : ∃ wo : World, wr = wo := ⟨_, rfl⟩
        rw [hwo] at HB HO HBw b0 b1 b2 b3 hbw hsz ⊢
        clear hwo
        go_wp2_with (fail)
        have HBU0 : Hid (Lib.IsBuilder 81 5 wo.heap.size wo.heap.size (Lib.byteCells (rowP P L 0 (B + i))) (wo.alloc (.cells #[.pointer none, .slice none 0 0] 81))) := Lib.hid (Lib.fresh_isBuilder _ _ wo)
        have HBO0 : Hid (Below wo.heap.size wo (wo.alloc (.cells #[.pointer none, .slice none 0 0] 81))) := Lib.hid ((Below.refl _ _).alloc (Nat.le_refl _) _)
        go_loopw [11] (fun v wr => ∃ j : Nat, j ≤ W ∧ v = .int .i64 (L + j) ∧ Lib.IsBuilder 81 5 wo.heap.size wo.heap.size (Lib.byteCells (rowP P L j (B + i))) wr ∧ Below wo.heap.size wo wr) (fun v _ => (L + W - intOf v).toNat)
        case atStart => exact ⟨0, by omega, by simp, HBU0.out, HBO0.out⟩
        case round =>
          obtain ⟨j, hj, rfl, hbu, hbo⟩ := hrel
          have HBU := Lib.hid hbu
          have HBO := Lib.hid hbo
          have hszo := hbo.size
          have d0 := cellk hbo hbw b0
          have d2 := cellk hbo hbw b2
          have hbw2 : w.heap.size < wr.heap.size := by omega
          clear hbu hbo
          by_cases hlj : j < W
          · have hl3 : L + (j : Int) < L + W := by omega
            obtain ⟨x, hx⟩ : ∃ x, P (L + j) (B + i) = x := ⟨_, rfl⟩
            have HXV := Lib.hid hx
            clear hx
            go_wp2_with (fail)
            refine (pairBoth_any U V (L + j) (B + i) _ (HENV.out.kept (HBw.out.trans (HBO.out.mono (by have := HBw.out.size; omega))))).mono ?_
            rintro e w3 ⟨rfl, hb3⟩
            rw [← HPP.out, HXV.out]
            have HBU3 := Lib.hid (builder_below HBU.out hb3)
            have HBO3 := Lib.hid (HBO.out.trans (hb3.mono hszo))
            have hs3 := HBO3.out.size
            have hlen : (Lib.byteCells (rowP P L j (B + i))).length = j := by rw [Lib.byteCells_length, rowP_len]
            clear hb3
            rcases x with _ | _
            · have HS := Lib.hid (bcells_snoc P L j (B + i))
              have HY := HS.out
              rw [HXV.out] at HY
              have HYY := Lib.hid HY
              clear HY
              go_wp2_with (go_at_call 45; refine (write_any wo.heap.size wo.heap.size _ ⟨#[46]⟩ _ HBU3.out (by rw [hlen]; show j + 1 ≤ _; omega) hs3).mono ?_; rintro e w4 ⟨rfl, hbu4, hb4⟩)
              have HBU4 : Hid (Lib.IsBuilder 81 5 wo.heap.size wo.heap.size (Lib.byteCells (rowP P L (j + 1) (B + i))) w4) := Lib.hid (by rw [HYY.out]; exact .inr hbu4)
              have HBO4 := Lib.hid (HBO3.out.trans hb4)
              clear hbu4 hb4
              go_roundw
              case rel => exact ⟨j + 1, by omega, by go_num, HBU4.out, HBO4.out⟩
              case measure => simp [intOf]; omega
            · have HS := Lib.hid (bcells_snoc P L j (B + i))
              have HY := HS.out
              rw [HXV.out] at HY
              have HYY := Lib.hid HY
              clear HY
              go_wp2_with (go_at_call 45; refine (write_any wo.heap.size wo.heap.size _ ⟨#[35]⟩ _ HBU3.out (by rw [hlen]; show j + 1 ≤ _; omega) hs3).mono ?_; rintro e w4 ⟨rfl, hbu4, hb4⟩)
              have HBU4 : Hid (Lib.IsBuilder 81 5 wo.heap.size wo.heap.size (Lib.byteCells (rowP P L (j + 1) (B + i))) w4) := Lib.hid (by rw [HYY.out]; exact .inr hbu4)
              have HBO4 := Lib.hid (HBO3.out.trans hb4)
              clear hbu4 hb4
              go_roundw
              case rel => exact ⟨j + 1, by omega, by go_num, HBU4.out, HBO4.out⟩
              case measure => simp [intOf]; omega
          · obtain rfl : W = j := by omega
            have hl3 : ¬ L + (W : Int) < L + W := by omega
            go_wp2_with (fail)
            refine (Go.Proofs.Tryz.Builder_String_any_k wo.heap.size wo.heap.size (rowP P L W (B + i)) _ (Lib.IsBuilderF.of HBU.out) hszo).mono ?_
            rintro e w5 ⟨rfl, -, hb5, -⟩
            have HB5 := Lib.hid (HBO.out.trans hb5)
            have HO5 := Lib.hid (ownsRow_below HO.out HB5.out)
            have hs5 := HB5.out.size
            clear hb5
            go_wp2_with (at_builtin; refine wpList_append_own _ rfl _ _ 26 rfl (w.heap.size + 2) 9 i0 (.string ⟨#[]⟩) 1 16 Tryz.underlying26 hi0 hz0 hz1 hz2 rfl (by decide) _ _ _ rfl (HO5.out.alloc _) ⟨w5.heap.size, 0, none⟩ 1 1 [.string ⟨(rowP P L W (B + i)).toArray⟩] rfl rfl ?c1 ?c2 ?c3 ?c4 ?c5 ?_)
            case c1 =>
              intro j u hj
              match j, hj with
              | 0, hj => simp at hj; subst hj; simp [Addr.add]
            case c2 => intro u hu; simp at hu; subst hu; rfl
            case c3 => unfold maxLen; omega
            case c4 => omega
            case c5 => simp; omega
            intro v' w6 hown' hgrow _
            have HO6 := Lib.hid hown'
            have HB6 : Hid (Below (w.heap.size + 2) w0 w6) := Lib.hid (((HB.out.trans (HB5.out.mono (by omega))).alloc (by omega) _).grown hgrow (by simp; omega) (fun k hk => (HO5.out.lt k hk).1))
            obtain ⟨ao2, co2, rfl⟩ : ∃ ao2 co2, v' = .slice ao2 (i + 1) co2 := by
              rcases hown'.2 with ⟨_, h0⟩ | ⟨g, cap, cur, hv, _⟩
              · omega
              · exact ⟨_, _, hv⟩
            clear hown' hgrow
            go_wp2_with (fail)
            go_roundw
            case rel => exact ⟨i + 1, ao2, co2, by omega, by go_num, rfl, HO6.out, HB6.out⟩
            case measure => simp [intOf]; omega
      · obtain rfl : n_ = i := by omega
        have hl2 : ¬ B + (n_ : Int) < B + n_ := by omega
        obtain ⟨ro1, ro2, ro3⟩ := rows_of_own HO.out
        have RO := Lib.hid ro1
        have hbz := HBw.out.size
        clear ro1
        go_wp2_with (fail)
        refine (trimmed_any P s L B W n_ ao co _ RO.out hW2 hn2 ro2 ro3 HP.out (by omega) (by omega) hs).mono ?_
        rintro e w5 ⟨x, y, a5, n5, c5, R5, rfl, hd, hr5, hf5, hn5, hc5, hb5⟩
        have hne : ∀ b off, a5 = some ⟨b, off, none⟩ → b ≠ w.heap.size + 1 := fun b off h => by have := hf5 b off h; omega
        have HNE := Lib.hid hne
        have HF5 := Lib.hid (fun b off h => Nat.le_trans hbz (hf5 b off h))
        have HD := Lib.hid hd
        have HR5 := Lib.hid hr5
        have HB5 := Lib.hid (HBw.out.trans (hb5.mono hbz))
        have hz5 : w5.heap[w.heap.size + 1]? = some (.cells #[.int .i64 0, .int .i64 0, .int .i64 0, .slice none 0 0] 28 (0, 0)) := heap_keep hb5 ((HB.out.block (w.heap.size + 1) (by omega)).trans HZ.out)
        have HZ5 := Lib.hid hz5
        have hlz : w.heap.size + 1 < w5.heap.size := lt_of_heap hz5
        clear hd hr5 hb5 hz5 hf5 hne
        have hsb : ∀ p q p' q', Tight P p q p' q' → p' - p ≤ 199 ∧ q' - q ≤ 199 := fun p q p' q' ht => by
          obtain ⟨r1, e1⟩ := ht.l
          obtain ⟨r2, e2⟩ := ht.b
          obtain ⟨r3, e3⟩ := ht.h
          obtain ⟨r4, e4⟩ := ht.t
          have := HP.out _ _ e1
          have := HP.out _ _ e2
          have := HP.out _ _ e3
          have := HP.out _ _ e4
          omega
        obtain ⟨hA1, hA2, hA3, hA4⟩ := drawn_are hst HD.out hsb
        have HA1 := Lib.hid hA1
        have HA2 := Lib.hid hA2
        have HA4 := Lib.hid hA4
        obtain ⟨E, hE⟩ : ∃ E, cellsE s x y n5 R5 = E := ⟨_, rfl⟩
        have HE := Lib.hid hE
        clear hA1 hA2 hA4 hsb hE
        go_wp2_with (fail)
        have HV : Hid (Below w5.heap.size w5 (w5.alloc (.cells #[.int .i64 s, .int .i64 x, .int .i64 y, .slice a5 n5 c5] 28))) := Lib.hid ((Below.refl _ _).alloc (Nat.le_refl _) _)
        have hv : (w5.alloc (.cells #[.int .i64 s, .int .i64 x, .int .i64 y, .slice a5 n5 c5] 28)).heap[w5.heap.size]? = some (.cells #[.int .i64 s, .int .i64 x, .int .i64 y, .slice a5 n5 c5] 28 (0, 0)) := heap_new rfl
        have HVV := Lib.hid hv
        clear hv
        refine (checkCells_any s x y a5 n5 c5 R5 _ (HR5.out.kept HV.out) (fun i hi => by have := HA4.out i hi; omega) (by omega)).mono ?_
        rintro e w6 ⟨rfl, hb6⟩
        rw [HE.out]
        have HB6 := Lib.hid (HB5.out.trans ((HV.out.trans (hb6.mono HV.out.size)).mono HB5.out.size))
        have hvv := heap_keep hb6 HVV.out
        have k0 : w6.cell? ⟨w5.heap.size, 0, none⟩ = some (.int .i64 s) := cell_of hvv rfl
        have k1 : w6.cell? ⟨w5.heap.size, 1, none⟩ = some (.int .i64 x) := cell_of hvv rfl
        have k2 : w6.cell? ⟨w5.heap.size, 2, none⟩ = some (.int .i64 y) := cell_of hvv rfl
        have k3 : w6.cell? ⟨w5.heap.size, 3, none⟩ = some (.slice a5 n5 c5) := cell_of hvv rfl
        have HZ6 := Lib.hid (heap_keep (HV.out.trans (hb6.mono HV.out.size)) HZ5.out)
        have HR6 := Lib.hid (HR5.out.kept (HV.out.trans (hb6.mono HV.out.size)))
        clear hb6 hvv hz0
        have z0 : w6.cell? ⟨w.heap.size + 1, 0, none⟩ = some (.int .i64 0) := cell_of HZ6.out rfl
        have zf0 : w6.frozen? ⟨w.heap.size + 1, 0, none⟩ = false := frozen_of HZ6.out
        have z1 : w6.cell? ⟨w.heap.size + 1, 1, none⟩ = some (.int .i64 0) := cell_of HZ6.out rfl
        have zf1 : w6.frozen? ⟨w.heap.size + 1, 1, none⟩ = false := frozen_of HZ6.out
        have z2 : w6.cell? ⟨w.heap.size + 1, 2, none⟩ = some (.int .i64 0) := cell_of HZ6.out rfl
        have zf2 : w6.frozen? ⟨w.heap.size + 1, 2, none⟩ = false := frozen_of HZ6.out
        have z3 : w6.cell? ⟨w.heap.size + 1, 3, none⟩ = some (.slice none 0 0) := cell_of HZ6.out rfl
        have zf3 : w6.frozen? ⟨w.heap.size + 1, 3, none⟩ = false := frozen_of HZ6.out
        by_cases hE0 : E = 0
        · subst hE0
          go_wp2_with (fail)
          obtain ⟨r0, r1, r2, r3⟩ := set4 (w := w6) (R := w.heap.size + 1) (x0 := (.int .i64 s)) (x1 := (.int .i64 x)) (x2 := (.int .i64 y)) (x3 := (.slice a5 n5 c5)) (is4 (is_some z0) (is_some z1) (is_some z2) (is_some z3)) rfl
          have HF : Hid (Below w.heap.size w ((((w6.setCell ⟨w.heap.size + 1, 0, none⟩ (.int .i64 s)).setCell ⟨w.heap.size + 1, 1, none⟩ (.int .i64 x)).setCell ⟨w.heap.size + 1, 2, none⟩ (.int .i64 y)).setCell ⟨w.heap.size + 1, 3, none⟩ (.slice a5 n5 c5))) := Lib.hid ((((HB6.out.setCell (by show _ ≤ w.heap.size + 1; omega) _).setCell (by show _ ≤ w.heap.size + 1; omega) _).setCell (by show _ ≤ w.heap.size + 1; omega) _).setCell (by show _ ≤ w.heap.size + 1; omega) _)
          have HRW : Hid (RowS ((((w6.setCell ⟨w.heap.size + 1, 0, none⟩ (.int .i64 s)).setCell ⟨w.heap.size + 1, 1, none⟩ (.int .i64 x)).setCell ⟨w.heap.size + 1, 2, none⟩ (.int .i64 y)).setCell ⟨w.heap.size + 1, 3, none⟩ (.slice a5 n5 c5)) a5 n5 R5) := Lib.hid ((((HR6.out.set _ _ HNE.out).set _ _ HNE.out).set _ _ HNE.out).set _ _ HNE.out)
          generalize ((((w6.setCell ⟨w.heap.size + 1, 0, none⟩ (.int .i64 s)).setCell ⟨w.heap.size + 1, 1, none⟩ (.int .i64 x)).setCell ⟨w.heap.size + 1, 2, none⟩ (.int .i64 y)).setCell ⟨w.heap.size + 1, 3, none⟩ (.slice a5 n5 c5)) = WW at *
          exact bodyPost_ret (v := .tuple #[.agg #[.int .i64 s, .int .i64 x, .int .i64 y, .slice a5 n5 c5], .int .i64 0]) (by simp [results, Tryz.results26, go_sem, r0, r1, r2, r3]) rfl ⟨s, x, y, a5, n5, c5, R5, 0, rfl, HA1.out HE.out, HRW.out, HF5.out, hn5, hc5, HA4.out, HF.out⟩
        · have hE1 : (E != 0) = true := by simpa using hE0
          go_wp2_with (fail)
          obtain ⟨r0, r1, r2, r3⟩ := set4 (w := w6) (R := w.heap.size + 1) (x0 := (.int .i64 0)) (x1 := (.int .i64 0)) (x2 := (.int .i64 0)) (x3 := (.slice none 0 0)) (is4 (is_some z0) (is_some z1) (is_some z2) (is_some z3)) rfl
          have HF : Hid (Below w.heap.size w ((((w6.setCell ⟨w.heap.size + 1, 0, none⟩ (.int .i64 0)).setCell ⟨w.heap.size + 1, 1, none⟩ (.int .i64 0)).setCell ⟨w.heap.size + 1, 2, none⟩ (.int .i64 0)).setCell ⟨w.heap.size + 1, 3, none⟩ (.slice none 0 0))) := Lib.hid ((((HB6.out.setCell (by show _ ≤ w.heap.size + 1; omega) _).setCell (by show _ ≤ w.heap.size + 1; omega) _).setCell (by show _ ≤ w.heap.size + 1; omega) _).setCell (by show _ ≤ w.heap.size + 1; omega) _)
          generalize ((((w6.setCell ⟨w.heap.size + 1, 0, none⟩ (.int .i64 0)).setCell ⟨w.heap.size + 1, 1, none⟩ (.int .i64 0)).setCell ⟨w.heap.size + 1, 2, none⟩ (.int .i64 0)).setCell ⟨w.heap.size + 1, 3, none⟩ (.slice none 0 0)) = WW at *
          exact bodyPost_ret (v := .tuple #[.agg #[.int .i64 0, .int .i64 0, .int .i64 0, .slice none 0 0], .int .i64 E]) (by simp [results, Tryz.results26, go_sem, r0, r1, r2, r3]) rfl ⟨0, 0, 0, none, 0, 0, fun _ => [], E, rfl, by have := HA2.out (by rw [HE.out]; exact hE0); rwa [HE.out] at this, .inl rfl, fun _ _ h => by (cases h), Nat.le_refl _, by unfold maxLen; omega, fun i hi => absurd hi (by omega), HF.out⟩
set_option maxRecDepth 100000 in
set_option maxHeartbeats 8000000 in
theorem drawnMinus_any {cx cy : Int} {n : Nat} {R : Nat → List UInt8} {dx dy : Int} {n' : Nat} {R' : Nat → List UInt8} (U V : Nat) (P : Int → Int → Bool) (s L B Rt H : Int) (w : World) (henv : PairE w U V cx cy n R dx dy n' R') (hPP : ∀ p q, P p q = (covB cx cy n R p q && !covB dx dy n' R' p q))
    (hLR : L ≤ Rt) (hBH : B ≤ H) (hL : -3000000 ≤ L ∧ Rt ≤ 3000000) (hB : -3000000 ≤ B ∧ H ≤ 3000000) (hs : 2 ≤ s ∧ s ≤ 10000) (hst : stB s = true)
    (hP : ∀ p q, P p q = true → L ≤ p ∧ p < Rt ∧ B ≤ q ∧ q < H) (hwide : 200 < Rt - L ∨ 200 < H - B → Tight P L B (Rt - 1) (H - 1)) :
    Calls Tryz.prog 26 #[.int .i64 s, .agg #[.int .i64 L, .int .i64 B, .int .i64 Rt, .int .i64 H], .func (.func 31) #[] #[.pointer (some ⟨U, 0, none⟩), .pointer (some ⟨V, 0, none⟩)]] w (CellsRes P s w) := by
  have HENV := Lib.hid henv
  have HPP := Lib.hid hPP
  have HP := Lib.hid hP
  have HW := Lib.hid hwide
  clear henv hPP hP hwide
  by_cases hw : 200 < Rt - L ∨ 200 < H - B
  · have HT := Lib.hid (HW.out hw)
    have x1 : IntKind.i64.wrap (Rt - L) = Rt - L := by rw [IntKind.wrap_i64]; omega
    have x2 : IntKind.i64.wrap (H - B) = H - B := by rw [IntKind.wrap_i64]; omega
    have hres : CellsAre P s 12 0 0 0 0 (fun _ => []) := .inr ⟨L, B, Rt - 1, H - 1, HT.out, by unfold picE; rw [if_pos (by omega)], fun _ => ⟨rfl, rfl, rfl, rfl⟩, fun h => by omega⟩
    have HRES := Lib.hid hres
    clear hres
    by_cases hw1 : 200 < Rt - L
    · go_enter Tryz.func26, Tryz.ntmps26
      go_wp2_with (fail)
      refine bodyPost_ret (v := .tuple #[.agg #[.int .i64 0, .int .i64 0, .int .i64 0, .slice none 0 0], .int .i64 12]) (by simp [results, Tryz.results26, go_sem]) rfl ⟨0, 0, 0, none, 0, 0, _, 12, rfl, HRES.out, .inl rfl, fun _ _ h => by (cases h), Nat.le_refl _, by unfold maxLen; omega, fun i hi => absurd hi (by omega), ?_⟩
      exact (by repeat (first | exact Below.refl _ _ | assumption | refine Below.drew ?_ | refine bdrewN ?_ _ | refine Below.setCell ?_ (by first | omega | (simp <;> omega)) _ | refine Below.alloc ?_ (by first | omega | (simp <;> omega)) _))
    · have hw2 : 200 < H - B := by omega
      go_enter Tryz.func26, Tryz.ntmps26
      go_wp2_with (fail)
      refine bodyPost_ret (v := .tuple #[.agg #[.int .i64 0, .int .i64 0, .int .i64 0, .slice none 0 0], .int .i64 12]) (by simp [results, Tryz.results26, go_sem]) rfl ⟨0, 0, 0, none, 0, 0, _, 12, rfl, HRES.out, .inl rfl, fun _ _ h => by (cases h), Nat.le_refl _, by unfold maxLen; omega, fun i hi => absurd hi (by omega), ?_⟩
      exact (by repeat (first | exact Below.refl _ _ | assumption | refine Below.drew ?_ | refine bdrewN ?_ _ | refine Below.setCell ?_ (by first | omega | (simp <;> omega)) _ | refine Below.alloc ?_ (by first | omega | (simp <;> omega)) _))
  · have hw1 : ¬ 200 < Rt - L := by omega
    have hw2 : ¬ 200 < H - B := by omega
    obtain ⟨W, hWW⟩ : ∃ W : Nat, Rt = L + W := ⟨(Rt - L).toNat, by omega⟩
    obtain ⟨n_, hnn⟩ : ∃ n : Nat, H = B + n := ⟨(H - B).toNat, by omega⟩
    have hW2 : W ≤ 200 := by omega
    have hn2 : n_ ≤ 200 := by omega
    have hw3 : ¬ 200 < (W : Int) := by omega
    have hw4 : ¬ 200 < (n_ : Int) := by omega
    subst hWW hnn
    have x1 : IntKind.i64.wrap (L + W - L) = W := by rw [IntKind.wrap_i64]; omega
    have x2 : IntKind.i64.wrap (B + n_ - B) = n_ := by rw [IntKind.wrap_i64]; omega
    obtain ⟨i0, hi0, hz0, hz1, hz2⟩ := info_parts info_str
    clear hw hw1 hw2
    go_enter Tryz.func26, Tryz.ntmps26
    go_wp2_with (fail)
    have HW0 : Hid (Below w.heap.size w ((w.alloc (.cells #[.int .i64 L, .int .i64 B, .int .i64 (L + W), .int .i64 (B + n_)] 52)).alloc (.cells #[.int .i64 0, .int .i64 0, .int .i64 0, .slice none 0 0] 28))) := Lib.hid (by repeat (first | exact Below.refl _ _ | assumption | refine Below.drew ?_ | refine bdrewN ?_ _ | refine Below.setCell ?_ (by first | omega | (simp <;> omega)) _ | refine Below.alloc ?_ (by first | omega | (simp <;> omega)) _))
    have HX : Hid (((w.alloc (.cells #[.int .i64 L, .int .i64 B, .int .i64 (L + W), .int .i64 (B + n_)] 52)).alloc (.cells #[.int .i64 0, .int .i64 0, .int .i64 0, .slice none 0 0] 28)).heap[w.heap.size]? = some (.cells #[.int .i64 L, .int .i64 B, .int .i64 (L + W), .int .i64 (B + n_)] 52 (0, 0))) := Lib.hid ((Below.heap_alloc _ _ _ (by simp)).trans (heap_new rfl))
    have HZ : Hid (((w.alloc (.cells #[.int .i64 L, .int .i64 B, .int .i64 (L + W), .int .i64 (B + n_)] 52)).alloc (.cells #[.int .i64 0, .int .i64 0, .int .i64 0, .slice none 0 0] 28)).heap[w.heap.size + 1]? = some (.cells #[.int .i64 0, .int .i64 0, .int .i64 0, .slice none 0 0] 28 (0, 0))) := Lib.hid (heap_new (by simp))
    have hlw : w.heap.size + 1 < ((w.alloc (.cells #[.int .i64 L, .int .i64 B, .int .i64 (L + W), .int .i64 (B + n_)] 52)).alloc (.cells #[.int .i64 0, .int .i64 0, .int .i64 0, .slice none 0 0] 28)).heap.size := by simp
    change Code.wp _ _ _ _ ((w.alloc (.cells #[.int .i64 L, .int .i64 B, .int .i64 (L + W), .int .i64 (B + n_)] 52)).alloc (.cells #[.int .i64 0, .int .i64 0, .int .i64 0, .slice none 0 0] 28))
    generalize ((w.alloc (.cells #[.int .i64 L, .int .i64 B, .int .i64 (L + W), .int .i64 (B + n_)] 52)).alloc (.cells #[.int .i64 0, .int .i64 0, .int .i64 0, .slice none 0 0] 28)) = w0 at *
    go_loopw [8, 9] (fun v r wr => ∃ (i : Nat) (ao : Option Addr) (co : Nat), i ≤ n_ ∧ r = .int .i64 (B + i) ∧ v = .slice ao i co ∧ wr.ownsRow (w.heap.size + 2) 9 1 (.slice ao i co) i (strV (fun i : Nat => rowP P L W (B + i)) i) ∧ Below (w.heap.size + 2) w0 wr) (fun _ r _ => (B + n_ - intOf r).toNat)
    case atStart => exact ⟨0, none, 0, by omega, by simp, rfl, World.ownsRow_nil _ _ _ _, Below.refl _ _⟩
    case round =>
      obtain ⟨i, ao, co, hi, rfl, rfl, hown, hbel⟩ := hrel
      have hsz := hbel.size
      have HO := Lib.hid hown
      have HB := Lib.hid hbel
      have HBw : Hid (Below w.heap.size w wr) := Lib.hid (HW0.out.trans (hbel.mono (by omega)))
      have hx : wr.heap[w.heap.size]? = some (.cells #[.int .i64 L, .int .i64 B, .int .i64 (L + W), .int .i64 (B + n_)] 52 (0, 0)) := (hbel.block w.heap.size (by omega)).trans HX.out
      have b0 : wr.cell? ⟨w.heap.size, 0, none⟩ = some (.int .i64 L) := cell_of hx rfl
      have b1 : wr.cell? ⟨w.heap.size, 1, none⟩ = some (.int .i64 B) := cell_of hx rfl
      have b2 : wr.cell? ⟨w.heap.size, 2, none⟩ = some (.int .i64 (L + W)) := cell_of hx rfl
      have b3 : wr.cell? ⟨w.heap.size, 3, none⟩ = some (.int .i64 (B + n_)) := cell_of hx rfl
      have hbw : w.heap.size < wr.heap.size := by omega
      clear hown hbel hx
      by_cases hlt : i < n_
      · have hl2 : B + (i : Int) < B + n_ := by omega
        obtain ⟨wo, hwo⟩ : ∃ wo : World, wr = wo := ⟨_, rfl⟩
        rw [hwo] at HB HO HBw b0 b1 b2 b3 hbw hsz ⊢
        clear hwo
        go_wp2_with (fail)
        have HBU0 : Hid (Lib.IsBuilder 81 5 wo.heap.size wo.heap.size (Lib.byteCells (rowP P L 0 (B + i))) (wo.alloc (.cells #[.pointer none, .slice none 0 0] 81))) := Lib.hid (Lib.fresh_isBuilder _ _ wo)
        have HBO0 : Hid (Below wo.heap.size wo (wo.alloc (.cells #[.pointer none, .slice none 0 0] 81))) := Lib.hid ((Below.refl _ _).alloc (Nat.le_refl _) _)
        go_loopw [11] (fun v wr => ∃ j : Nat, j ≤ W ∧ v = .int .i64 (L + j) ∧ Lib.IsBuilder 81 5 wo.heap.size wo.heap.size (Lib.byteCells (rowP P L j (B + i))) wr ∧ Below wo.heap.size wo wr) (fun v _ => (L + W - intOf v).toNat)
        case atStart => exact ⟨0, by omega, by simp, HBU0.out, HBO0.out⟩
        case round =>
          obtain ⟨j, hj, rfl, hbu, hbo⟩ := hrel
          have HBU := Lib.hid hbu
          have HBO := Lib.hid hbo
          have hszo := hbo.size
          have d0 := cellk hbo hbw b0
          have d2 := cellk hbo hbw b2
          have hbw2 : w.heap.size < wr.heap.size := by omega
          clear hbu hbo
          by_cases hlj : j < W
          · have hl3 : L + (j : Int) < L + W := by omega
            obtain ⟨x, hx⟩ : ∃ x, P (L + j) (B + i) = x := ⟨_, rfl⟩
            have HXV := Lib.hid hx
            clear hx
            go_wp2_with (fail)
            refine (pairMinus_any U V (L + j) (B + i) _ (HENV.out.kept (HBw.out.trans (HBO.out.mono (by have := HBw.out.size; omega))))).mono ?_
            rintro e w3 ⟨rfl, hb3⟩
            rw [← HPP.out, HXV.out]
            have HBU3 := Lib.hid (builder_below HBU.out hb3)
            have HBO3 := Lib.hid (HBO.out.trans (hb3.mono hszo))
            have hs3 := HBO3.out.size
            have hlen : (Lib.byteCells (rowP P L j (B + i))).length = j := by rw [Lib.byteCells_length, rowP_len]
            clear hb3
            rcases x with _ | _
            · have HS := Lib.hid (bcells_snoc P L j (B + i))
              have HY := HS.out
              rw [HXV.out] at HY
              have HYY := Lib.hid HY
              clear HY
              go_wp2_with (go_at_call 45; refine (write_any wo.heap.size wo.heap.size _ ⟨#[46]⟩ _ HBU3.out (by rw [hlen]; show j + 1 ≤ _; omega) hs3).mono ?_; rintro e w4 ⟨rfl, hbu4, hb4⟩)
              have HBU4 : Hid (Lib.IsBuilder 81 5 wo.heap.size wo.heap.size (Lib.byteCells (rowP P L (j + 1) (B + i))) w4) := Lib.hid (by rw [HYY.out]; exact .inr hbu4)
              have HBO4 := Lib.hid (HBO3.out.trans hb4)
              clear hbu4 hb4
              go_roundw
              case rel => exact ⟨j + 1, by omega, by go_num, HBU4.out, HBO4.out⟩
              case measure => simp [intOf]; omega
            · have HS := Lib.hid (bcells_snoc P L j (B + i))
              have HY := HS.out
              rw [HXV.out] at HY
              have HYY := Lib.hid HY
              clear HY
              go_wp2_with (go_at_call 45; refine (write_any wo.heap.size wo.heap.size _ ⟨#[35]⟩ _ HBU3.out (by rw [hlen]; show j + 1 ≤ _; omega) hs3).mono ?_; rintro e w4 ⟨rfl, hbu4, hb4⟩)
              have HBU4 : Hid (Lib.IsBuilder 81 5 wo.heap.size wo.heap.size (Lib.byteCells (rowP P L (j + 1) (B + i))) w4) := Lib.hid (by rw [HYY.out]; exact .inr hbu4)
              have HBO4 := Lib.hid (HBO3.out.trans hb4)
              clear hbu4 hb4
              go_roundw
              case rel => exact ⟨j + 1, by omega, by go_num, HBU4.out, HBO4.out⟩
              case measure => simp [intOf]; omega
          · obtain rfl : W = j := by omega
            have hl3 : ¬ L + (W : Int) < L + W := by omega
            go_wp2_with (fail)
            refine (Go.Proofs.Tryz.Builder_String_any_k wo.heap.size wo.heap.size (rowP P L W (B + i)) _ (Lib.IsBuilderF.of HBU.out) hszo).mono ?_
            rintro e w5 ⟨rfl, -, hb5, -⟩
            have HB5 := Lib.hid (HBO.out.trans hb5)
            have HO5 := Lib.hid (ownsRow_below HO.out HB5.out)
            have hs5 := HB5.out.size
            clear hb5
            go_wp2_with (at_builtin; refine wpList_append_own _ rfl _ _ 26 rfl (w.heap.size + 2) 9 i0 (.string ⟨#[]⟩) 1 16 Tryz.underlying26 hi0 hz0 hz1 hz2 rfl (by decide) _ _ _ rfl (HO5.out.alloc _) ⟨w5.heap.size, 0, none⟩ 1 1 [.string ⟨(rowP P L W (B + i)).toArray⟩] rfl rfl ?c1 ?c2 ?c3 ?c4 ?c5 ?_)
            case c1 =>
              intro j u hj
              match j, hj with
              | 0, hj => simp at hj; subst hj; simp [Addr.add]
            case c2 => intro u hu; simp at hu; subst hu; rfl
            case c3 => unfold maxLen; omega
            case c4 => omega
            case c5 => simp; omega
            intro v' w6 hown' hgrow _
            have HO6 := Lib.hid hown'
            have HB6 : Hid (Below (w.heap.size + 2) w0 w6) := Lib.hid (((HB.out.trans (HB5.out.mono (by omega))).alloc (by omega) _).grown hgrow (by simp; omega) (fun k hk => (HO5.out.lt k hk).1))
            obtain ⟨ao2, co2, rfl⟩ : ∃ ao2 co2, v' = .slice ao2 (i + 1) co2 := by
              rcases hown'.2 with ⟨_, h0⟩ | ⟨g, cap, cur, hv, _⟩
              · omega
              · exact ⟨_, _, hv⟩
            clear hown' hgrow
            go_wp2_with (fail)
            go_roundw
            case rel => exact ⟨i + 1, ao2, co2, by omega, by go_num, rfl, HO6.out, HB6.out⟩
            case measure => simp [intOf]; omega
      · obtain rfl : n_ = i := by omega
        have hl2 : ¬ B + (n_ : Int) < B + n_ := by omega
        obtain ⟨ro1, ro2, ro3⟩ := rows_of_own HO.out
        have RO := Lib.hid ro1
        have hbz := HBw.out.size
        clear ro1
        go_wp2_with (fail)
        refine (trimmed_any P s L B W n_ ao co _ RO.out hW2 hn2 ro2 ro3 HP.out (by omega) (by omega) hs).mono ?_
        rintro e w5 ⟨x, y, a5, n5, c5, R5, rfl, hd, hr5, hf5, hn5, hc5, hb5⟩
        have hne : ∀ b off, a5 = some ⟨b, off, none⟩ → b ≠ w.heap.size + 1 := fun b off h => by have := hf5 b off h; omega
        have HNE := Lib.hid hne
        have HF5 := Lib.hid (fun b off h => Nat.le_trans hbz (hf5 b off h))
        have HD := Lib.hid hd
        have HR5 := Lib.hid hr5
        have HB5 := Lib.hid (HBw.out.trans (hb5.mono hbz))
        have hz5 : w5.heap[w.heap.size + 1]? = some (.cells #[.int .i64 0, .int .i64 0, .int .i64 0, .slice none 0 0] 28 (0, 0)) := heap_keep hb5 ((HB.out.block (w.heap.size + 1) (by omega)).trans HZ.out)
        have HZ5 := Lib.hid hz5
        have hlz : w.heap.size + 1 < w5.heap.size := lt_of_heap hz5
        clear hd hr5 hb5 hz5 hf5 hne
        have hsb : ∀ p q p' q', Tight P p q p' q' → p' - p ≤ 199 ∧ q' - q ≤ 199 := fun p q p' q' ht => by
          obtain ⟨r1, e1⟩ := ht.l
          obtain ⟨r2, e2⟩ := ht.b
          obtain ⟨r3, e3⟩ := ht.h
          obtain ⟨r4, e4⟩ := ht.t
          have := HP.out _ _ e1
          have := HP.out _ _ e2
          have := HP.out _ _ e3
          have := HP.out _ _ e4
          omega
        obtain ⟨hA1, hA2, hA3, hA4⟩ := drawn_are hst HD.out hsb
        have HA1 := Lib.hid hA1
        have HA2 := Lib.hid hA2
        have HA4 := Lib.hid hA4
        obtain ⟨E, hE⟩ : ∃ E, cellsE s x y n5 R5 = E := ⟨_, rfl⟩
        have HE := Lib.hid hE
        clear hA1 hA2 hA4 hsb hE
        go_wp2_with (fail)
        have HV : Hid (Below w5.heap.size w5 (w5.alloc (.cells #[.int .i64 s, .int .i64 x, .int .i64 y, .slice a5 n5 c5] 28))) := Lib.hid ((Below.refl _ _).alloc (Nat.le_refl _) _)
        have hv : (w5.alloc (.cells #[.int .i64 s, .int .i64 x, .int .i64 y, .slice a5 n5 c5] 28)).heap[w5.heap.size]? = some (.cells #[.int .i64 s, .int .i64 x, .int .i64 y, .slice a5 n5 c5] 28 (0, 0)) := heap_new rfl
        have HVV := Lib.hid hv
        clear hv
        refine (checkCells_any s x y a5 n5 c5 R5 _ (HR5.out.kept HV.out) (fun i hi => by have := HA4.out i hi; omega) (by omega)).mono ?_
        rintro e w6 ⟨rfl, hb6⟩
        rw [HE.out]
        have HB6 := Lib.hid (HB5.out.trans ((HV.out.trans (hb6.mono HV.out.size)).mono HB5.out.size))
        have hvv := heap_keep hb6 HVV.out
        have k0 : w6.cell? ⟨w5.heap.size, 0, none⟩ = some (.int .i64 s) := cell_of hvv rfl
        have k1 : w6.cell? ⟨w5.heap.size, 1, none⟩ = some (.int .i64 x) := cell_of hvv rfl
        have k2 : w6.cell? ⟨w5.heap.size, 2, none⟩ = some (.int .i64 y) := cell_of hvv rfl
        have k3 : w6.cell? ⟨w5.heap.size, 3, none⟩ = some (.slice a5 n5 c5) := cell_of hvv rfl
        have HZ6 := Lib.hid (heap_keep (HV.out.trans (hb6.mono HV.out.size)) HZ5.out)
        have HR6 := Lib.hid (HR5.out.kept (HV.out.trans (hb6.mono HV.out.size)))
        clear hb6 hvv hz0
        have z0 : w6.cell? ⟨w.heap.size + 1, 0, none⟩ = some (.int .i64 0) := cell_of HZ6.out rfl
        have zf0 : w6.frozen? ⟨w.heap.size + 1, 0, none⟩ = false := frozen_of HZ6.out
        have z1 : w6.cell? ⟨w.heap.size + 1, 1, none⟩ = some (.int .i64 0) := cell_of HZ6.out rfl
        have zf1 : w6.frozen? ⟨w.heap.size + 1, 1, none⟩ = false := frozen_of HZ6.out
        have z2 : w6.cell? ⟨w.heap.size + 1, 2, none⟩ = some (.int .i64 0) := cell_of HZ6.out rfl
        have zf2 : w6.frozen? ⟨w.heap.size + 1, 2, none⟩ = false := frozen_of HZ6.out
        have z3 : w6.cell? ⟨w.heap.size + 1, 3, none⟩ = some (.slice none 0 0) := cell_of HZ6.out rfl
        have zf3 : w6.frozen? ⟨w.heap.size + 1, 3, none⟩ = false := frozen_of HZ6.out
        by_cases hE0 : E = 0
        · subst hE0
          go_wp2_with (fail)
          obtain ⟨r0, r1, r2, r3⟩ := set4 (w := w6) (R := w.heap.size + 1) (x0 := (.int .i64 s)) (x1 := (.int .i64 x)) (x2 := (.int .i64 y)) (x3 := (.slice a5 n5 c5)) (is4 (is_some z0) (is_some z1) (is_some z2) (is_some z3)) rfl
          have HF : Hid (Below w.heap.size w ((((w6.setCell ⟨w.heap.size + 1, 0, none⟩ (.int .i64 s)).setCell ⟨w.heap.size + 1, 1, none⟩ (.int .i64 x)).setCell ⟨w.heap.size + 1, 2, none⟩ (.int .i64 y)).setCell ⟨w.heap.size + 1, 3, none⟩ (.slice a5 n5 c5))) := Lib.hid ((((HB6.out.setCell (by show _ ≤ w.heap.size + 1; omega) _).setCell (by show _ ≤ w.heap.size + 1; omega) _).setCell (by show _ ≤ w.heap.size + 1; omega) _).setCell (by show _ ≤ w.heap.size + 1; omega) _)
          have HRW : Hid (RowS ((((w6.setCell ⟨w.heap.size + 1, 0, none⟩ (.int .i64 s)).setCell ⟨w.heap.size + 1, 1, none⟩ (.int .i64 x)).setCell ⟨w.heap.size + 1, 2, none⟩ (.int .i64 y)).setCell ⟨w.heap.size + 1, 3, none⟩ (.slice a5 n5 c5)) a5 n5 R5) := Lib.hid ((((HR6.out.set _ _ HNE.out).set _ _ HNE.out).set _ _ HNE.out).set _ _ HNE.out)
          generalize ((((w6.setCell ⟨w.heap.size + 1, 0, none⟩ (.int .i64 s)).setCell ⟨w.heap.size + 1, 1, none⟩ (.int .i64 x)).setCell ⟨w.heap.size + 1, 2, none⟩ (.int .i64 y)).setCell ⟨w.heap.size + 1, 3, none⟩ (.slice a5 n5 c5)) = WW at *
          exact bodyPost_ret (v := .tuple #[.agg #[.int .i64 s, .int .i64 x, .int .i64 y, .slice a5 n5 c5], .int .i64 0]) (by simp [results, Tryz.results26, go_sem, r0, r1, r2, r3]) rfl ⟨s, x, y, a5, n5, c5, R5, 0, rfl, HA1.out HE.out, HRW.out, HF5.out, hn5, hc5, HA4.out, HF.out⟩
        · have hE1 : (E != 0) = true := by simpa using hE0
          go_wp2_with (fail)
          obtain ⟨r0, r1, r2, r3⟩ := set4 (w := w6) (R := w.heap.size + 1) (x0 := (.int .i64 0)) (x1 := (.int .i64 0)) (x2 := (.int .i64 0)) (x3 := (.slice none 0 0)) (is4 (is_some z0) (is_some z1) (is_some z2) (is_some z3)) rfl
          have HF : Hid (Below w.heap.size w ((((w6.setCell ⟨w.heap.size + 1, 0, none⟩ (.int .i64 0)).setCell ⟨w.heap.size + 1, 1, none⟩ (.int .i64 0)).setCell ⟨w.heap.size + 1, 2, none⟩ (.int .i64 0)).setCell ⟨w.heap.size + 1, 3, none⟩ (.slice none 0 0))) := Lib.hid ((((HB6.out.setCell (by show _ ≤ w.heap.size + 1; omega) _).setCell (by show _ ≤ w.heap.size + 1; omega) _).setCell (by show _ ≤ w.heap.size + 1; omega) _).setCell (by show _ ≤ w.heap.size + 1; omega) _)
          generalize ((((w6.setCell ⟨w.heap.size + 1, 0, none⟩ (.int .i64 0)).setCell ⟨w.heap.size + 1, 1, none⟩ (.int .i64 0)).setCell ⟨w.heap.size + 1, 2, none⟩ (.int .i64 0)).setCell ⟨w.heap.size + 1, 3, none⟩ (.slice none 0 0)) = WW at *
          exact bodyPost_ret (v := .tuple #[.agg #[.int .i64 0, .int .i64 0, .int .i64 0, .slice none 0 0], .int .i64 E]) (by simp [results, Tryz.results26, go_sem, r0, r1, r2, r3]) rfl ⟨0, 0, 0, none, 0, 0, fun _ => [], E, rfl, by have := HA2.out (by rw [HE.out]; exact hE0); rwa [HE.out] at this, .inl rfl, fun _ _ h => by (cases h), Nat.le_refl _, by unfold maxLen; omega, fun i hi => absurd hi (by omega), HF.out⟩
end Go.Proofs.YtllagjncibfcmaaGreatDoor

/- Rows, trimmed. -/
import Derived.Test.YtllagjncibfcmaaGreatDoorKd
set_option linter.unusedSimpArgs false
set_option linter.unusedVariables false
namespace Go.Proofs.YtllagjncibfcmaaGreatDoor
open Go.RowKit

theorem idx_any (l : List UInt8) (w : World) : Calls Tryz.prog 56 #[.string ⟨l.toArray⟩, .string ⟨#[35]⟩] w fun e w' => e = .returned (.int .i64 (Lib.indexByte l 35)) ∧ w' = w := Go.Proofs.Tryz.strings_Index_one ⟨l.toArray⟩ 35 w
theorem lidx_any (l : List UInt8) (w : World) (h : l.length ≤ 1000000) : Calls Tryz.prog 57 #[.string ⟨l.toArray⟩, .string ⟨#[35]⟩] w fun e w' => e = .returned (.int .i64 (Lib.lastIndexByte ⟨l.toArray⟩ 35)) ∧ w' = w := Go.Proofs.Tryz.strings_LastIndex_one ⟨l.toArray⟩ ⟨#[35]⟩ rfl (by rw [bsize]; omega) w
theorem info_str : (Tryz.prog.info? 9).map (fun i => (i.zero, i.size, i.bytes)) = some (some (.string ⟨#[]⟩), 1, 16) := by kernel_rfl
/-- Strings as cells. -/
def strV (R : Nat → List UInt8) : Nat → List Value
  | 0 => []
  | n + 1 => strV R n ++ [.string ⟨(R n).toArray⟩]
theorem strV_len (R : Nat → List UInt8) : ∀ n, (strV R n).length = n
  | 0 => rfl
  | n + 1 => by simp [strV, strV_len R n]
theorem strV_at (R : Nat → List UInt8) : ∀ (n i : Nat), i < n → (strV R n)[i]? = some (.string ⟨(R i).toArray⟩)
  | 0, i, h => absurd h (by omega)
  | n + 1, i, h => by
    simp only [strV]
    by_cases e : i = n
    · subst e
      rw [List.getElem?_append_right (by rw [strV_len]; exact Nat.le_refl _), strV_len]
      simp
    · rw [List.getElem?_append_left (by rw [strV_len]; omega)]
      exact strV_at R n i (by omega)
theorem strV_congr {R R' : Nat → List UInt8} : ∀ {n : Nat}, (∀ i, i < n → R i = R' i) → strV R n = strV R' n
  | 0, _ => rfl
  | n + 1, h => by simp only [strV]; rw [strV_congr (fun i hi => h i (by omega)), h n (by omega)]
theorem rows_of_own {w : World} {base n cap : Nat} {ao : Option Addr} {R : Nat → List UInt8} (h : w.ownsRow base 9 1 (.slice ao n cap) n (strV R n)) : RowS w ao n R ∧ n ≤ cap ∧ cap ≤ maxLen := by
  obtain ⟨_, h⟩ := h
  rcases h with ⟨h1, h2⟩ | ⟨g, cap', cur, h1, h2, h3, h4, h5, h6, h7⟩
  · cases h1; exact ⟨.inl h2, by omega, by unfold maxLen; omega⟩
  · cases h1
    refine ⟨.inr ⟨g, 0, rfl, lt_of_heap h3, fun i hi => ?_⟩, h4, h5⟩
    have : (strV R n)[i]? = cur[i]? := by
      rw [← h7, Nat.mul_one, List.getElem?_take_of_lt hi, Array.getElem?_toList]
    rw [strV_at R n i hi] at this
    rw [Nat.zero_add]
    exact cell_of h3 this.symm
theorem extract_list (l : List UInt8) (a b : Nat) : (⟨l.toArray⟩ : ByteArray).extract a b = ⟨((l.drop a).take (b - a)).toArray⟩ := by
  apply ByteArray.ext
  rw [ByteArray.data_extract]
  simp [List.extract_eq_take_drop]
theorem made_atR {w : World} {base g size cap : Nat} {e : TypeId} (cur : Array Value) (hg : w.heap.size = g) (hb : base ≤ g) (hm : cap ≤ maxLen) (hs : cur.size = cap * size) :
    (w.alloc (.cells cur e)).ownsRow base e size (.slice (some ⟨g, 0, none⟩) 0 cap) 0 [] := by
  subst hg; exact World.ownsRow_made w cur cap hb hm hs
theorem mk_strs (n : Nat) (hn : n ≤ 1000000) : ∃ MC : Array Value, MC.size = n * 1 ∧ ∀ w : World, (Instr.makeSlice 26 (.int .i64 0) (.int .i64 (n : Int))).run Tryz.prog w = .ok (.slice (some ⟨w.heap.size, 0, none⟩) 0 n) (w.alloc (.cells MC 9)) := by
  obtain ⟨i0, hi0, hz0, hz1, hz2⟩ := info_parts info_str
  refine ⟨madeCells (Value.string ⟨#[]⟩).cells (n * 1), size_madeCells _ _, fun w => ?_⟩
  have h := run_makeSlice (P := Tryz.prog) w 26 9 i0 (.string ⟨#[]⟩) Tryz.underlying26 hi0 hz0 .i64 .i64 0 (n : Int) (by omega) (by omega) (by rw [hz1]; omega) (by rw [hz2]; omega) (by omega)
  rw [h, hz1]
  rfl
theorem RowS.set {w : World} {a : Option Addr} {n : Nat} {R : Nat → List UInt8} (h : RowS w a n R) (p : Addr) (v : Value) (hp : ∀ b off, a = some ⟨b, off, none⟩ → b ≠ p.block) : RowS (w.setCell p v) a n R := by
  rcases h with h | ⟨b, off, rfl, h1, h2⟩
  · exact .inl h
  · refine .inr ⟨b, off, rfl, by simpa [World.setCell] using h1, fun i hi => ?_⟩
    rw [sc_other (fun e => hp b off rfl (by rw [e]))]
    exact h2 i hi
theorem mul_bd {a s : Int} (ha : -10000000 ≤ a ∧ a ≤ 10000000) (hs : 0 ≤ s ∧ s ≤ 10000) : -100000000000 ≤ a * s ∧ a * s ≤ 100000000000 := by
  constructor
  · have h1 : (-10000000) * s ≤ a * s := Int.mul_le_mul_of_nonneg_right ha.1 hs.1
    omega
  · have h1 : a * s ≤ 10000000 * s := Int.mul_le_mul_of_nonneg_right ha.2 hs.1
    omega
/-- What trimming leaves of a picture. -/
def TrimRes (P : Int → Int → Bool) (s : Int) (w : World) (e : Ending) (w' : World) : Prop :=
  ∃ x y a n c R, e = .returned (.agg #[.int .i64 s, .int .i64 x, .int .i64 y, .slice a n c]) ∧
    (((∀ p q, P p q = false) ∧ x = 0 ∧ y = 0 ∧ n = 0) ∨ ∃ lc lr hc hr, Tight P lc lr hc hr ∧ x = lc * s ∧ y = lr * s ∧ n = (hr - lr + 1).toNat ∧ R = fun i : Nat => rowP P lc (hc - lc + 1).toNat (lr + i)) ∧
    RowS w' a n R ∧ (∀ b off, a = some ⟨b, off, none⟩ → w.heap.size ≤ b) ∧ n ≤ c ∧ c ≤ maxLen ∧ Below w.heap.size w w'
set_option maxRecDepth 100000 in
set_option maxHeartbeats 8000000 in
theorem trimmed_any (P : Int → Int → Bool) (s L B : Int) (W H : Nat) (a : Option Addr) (c : Nat) (w : World) (hr : RowS w a H (fun i => rowP P L W (B + i))) (hW : W ≤ 200) (hH : H ≤ 200) (hc : H ≤ c) (hcm : c ≤ maxLen)
    (hP : ∀ p q, P p q = true → L ≤ p ∧ p < L + W ∧ B ≤ q ∧ q < B + H) (hL : -5000000 ≤ L ∧ L ≤ 5000000) (hB : -5000000 ≤ B ∧ B ≤ 5000000) (hs : 2 ≤ s ∧ s ≤ 10000) :
    Calls Tryz.prog 47 #[.int .i64 s, .int .i64 L, .int .i64 B, .slice a H c] w (TrimRes P s w) := by
  have HP := Lib.hid hP
  clear hP
  by_cases hn0 : H = 0
  · subst hn0
    have hno : ∀ p q, P p q = false := fun p q => by
      by_cases e : P p q = true
      · have := HP.out p q e; omega
      · simpa using e
    have HN := Lib.hid hno
    clear hno
    go_enter Tryz.func47, Tryz.ntmps47
    go_wp2_with (fail)
    refine wp_loop_rounds 1 ?_
    rw [rounds_succ]
    go_wp2_with (fail)
    refine bodyPost_ret (v := .agg #[.int .i64 s, .int .i64 0, .int .i64 0, .slice none 0 0]) (by simp [results, Tryz.results47, go_sem]) rfl ⟨0, 0, none, 0, 0, fun _ => [], rfl, .inl ⟨HN.out, rfl, rfl, rfl⟩, .inl rfl, fun _ _ h => by (cases h), Nat.le_refl _, by unfold maxLen; omega, ?_⟩
    exact (by repeat (first | exact Below.refl _ _ | assumption | refine Below.drew ?_ | refine bdrewN ?_ _ | refine Below.setCell ?_ (by first | omega | (simp <;> omega)) _ | refine Below.alloc ?_ (by first | omega | (simp <;> omega)) _))
  rcases hr with h | ⟨b, off, rfl, hb, hs_⟩
  · exact absurd h hn0
  have HS := Lib.hid hs_
  obtain ⟨i0, hi0, hz0, hz1, hz2⟩ := info_parts info_str
  clear hs_
  go_enter Tryz.func47, Tryz.ntmps47
  go_wp2_with (fail)
  have HW0 : Hid (Below w.heap.size w (w.alloc (.cells #[.int .i64 0, .int .i64 0, .int .i64 0, .slice none 0 0] 28))) := Lib.hid (by repeat (first | exact Below.refl _ _ | assumption | refine Below.drew ?_ | refine bdrewN ?_ _ | refine Below.setCell ?_ (by first | omega | (simp <;> omega)) _ | refine Below.alloc ?_ (by first | omega | (simp <;> omega)) _))
  have HZ : Hid ((w.alloc (.cells #[.int .i64 0, .int .i64 0, .int .i64 0, .slice none 0 0] 28)).heap[w.heap.size]? = some (.cells #[.int .i64 0, .int .i64 0, .int .i64 0, .slice none 0 0] 28 (0, 0))) := Lib.hid (heap_new rfl)
  have lw : w.heap.size < (w.alloc (.cells #[.int .i64 0, .int .i64 0, .int .i64 0, .slice none 0 0] 28)).heap.size := by simp
  change Code.wp _ _ _ _ (w.alloc (.cells #[.int .i64 0, .int .i64 0, .int .i64 0, .slice none 0 0] 28))
  generalize (w.alloc (.cells #[.int .i64 0, .int .i64 0, .int .i64 0, .slice none 0 0] 28)) = w0 at *
  go_loop [9, 10, 11, 12, 20] (fun f l g e i => ∃ (k : Nat) (f' l' g' e' : Int), k ≤ H ∧ i = .int .i64 k ∧ f = .int .i64 f' ∧ l = .int .i64 l' ∧ g = .int .i64 g' ∧ e = .int .i64 e' ∧ TrI (fun i => rowP P L W (B + i)) k f' l' g' e') (fun _ _ _ _ i => H - (intOf i).toNat)
  case atStart => exact ⟨0, -1, -1, -1, -1, by omega, rfl, rfl, rfl, rfl, rfl, TrI.zero _⟩
  case round =>
    obtain ⟨k, f, l, g, e, hk, rfl, rfl, rfl, rfl, rfl, htr⟩ := hrel
    by_cases hlt : k < H
    · have c0 : w0.cell? ⟨b, off + k, none⟩ = some (.string ⟨(rowP P L W (B + k)).toArray⟩) := cellk HW0.out hb (HS.out k hlt)
      have zk := rowP_len P L W (B + k)
      obtain ⟨T, hT⟩ : ∃ T, rowP P L W (B + k) = T := ⟨_, rfl⟩
      rw [hT] at c0 zk
      have HT := Lib.hid hT
      have HTR := Lib.hid htr
      clear hT htr
      obtain ⟨x, hx⟩ : ∃ x, ctB T = x := ⟨_, rfl⟩
      have HX := Lib.hid hx
      rcases x with _ | _
      · have HSK := Lib.hid (HTR.out.skip (fun j h => by have h' : (rowP P L W (B + k))[j]? = some 35 := h; rw [HT.out] at h'; rw [(con_hit T).2 ⟨j, h'⟩] at hx; cases hx))
        clear hx
        go_wp2_with (go_at_call 55; refine (con_any T _).mono ?_; rintro e w' ⟨rfl, rfl⟩; rw [HX.out])
        go_round
        case rel => exact ⟨k + 1, f, l, g, e, by omega, by go_num, rfl, rfl, rfl, rfl, HSK.out⟩
        case measure => simp [intOf]; omega
      · obtain ⟨a, ha⟩ : ∃ a, Lib.indexByte T 35 = a := ⟨_, rfl⟩
        obtain ⟨z, hz⟩ : ∃ z, Lib.lastIndexByte ⟨T.toArray⟩ 35 = z := ⟨_, rfl⟩
        have ha0 : 0 ≤ a := by unfold ctB at hx; rw [decide_eq_true_eq, ha] at hx; exact hx
        have HE := Lib.hid (ends_of ha ha0 hz)
        have HA := Lib.hid ha
        have HZZ := Lib.hid hz
        clear hx ha hz
        by_cases hf : f < 0
        · have HH := Lib.hid (HTR.out.hit0 hf (by show Ends (rowP P L W (B + k)) a z; rw [HT.out]; exact HE.out))
          go_wp2_with (first
            | (go_at_call 55; refine (con_any T _).mono ?_; rintro e w' ⟨rfl, rfl⟩; rw [HX.out])
            | (go_at_call 56; refine (idx_any T _).mono ?_; rintro e w' ⟨rfl, rfl⟩; rw [HA.out])
            | (go_at_call 57; refine (lidx_any T _ (by omega)).mono ?_; rintro e w' ⟨rfl, rfl⟩; rw [HZZ.out]))
          go_round
          case rel => exact ⟨k + 1, k, k, min a a, max e z, by omega, by go_num, rfl, rfl, by first | rfl | simp, rfl, HH.out⟩
          case measure => simp [intOf]; omega
        · have hf' : 0 ≤ f := by omega
          have HH := Lib.hid (HTR.out.hit hf' (by show Ends (rowP P L W (B + k)) a z; rw [HT.out]; exact HE.out))
          go_wp2_with (first
            | (go_at_call 55; refine (con_any T _).mono ?_; rintro e w' ⟨rfl, rfl⟩; rw [HX.out])
            | (go_at_call 56; refine (idx_any T _).mono ?_; rintro e w' ⟨rfl, rfl⟩; rw [HA.out])
            | (go_at_call 57; refine (lidx_any T _ (by omega)).mono ?_; rintro e w' ⟨rfl, rfl⟩; rw [HZZ.out]))
          go_round
          case rel => exact ⟨k + 1, f, k, min g a, max e z, by omega, by go_num, rfl, rfl, by first | rfl | simp, rfl, HH.out⟩
          case measure => simp [intOf]; omega
    · obtain rfl : H = k := by omega
      have HTR := Lib.hid htr
      clear htr
      by_cases hf : f < 0
      · have HN := Lib.hid (HTR.out.none hf HP.out)
        have z0 : w0.cell? ⟨w.heap.size, 0, none⟩ = some (.int .i64 0) := cell_of HZ.out rfl
        have zf0 : w0.frozen? ⟨w.heap.size, 0, none⟩ = false := frozen_of HZ.out
        have z1 : w0.cell? ⟨w.heap.size, 1, none⟩ = some (.int .i64 0) := cell_of HZ.out rfl
        have zf1 : w0.frozen? ⟨w.heap.size, 1, none⟩ = false := frozen_of HZ.out
        have z2 : w0.cell? ⟨w.heap.size, 2, none⟩ = some (.int .i64 0) := cell_of HZ.out rfl
        have zf2 : w0.frozen? ⟨w.heap.size, 2, none⟩ = false := frozen_of HZ.out
        have z3 : w0.cell? ⟨w.heap.size, 3, none⟩ = some (.slice none 0 0) := cell_of HZ.out rfl
        have zf3 : w0.frozen? ⟨w.heap.size, 3, none⟩ = false := frozen_of HZ.out
        clear hz0
        go_wp2_with (fail)
        obtain ⟨r0, r1, r2, r3⟩ := set4 (w := w0) (R := w.heap.size) (x0 := (.int .i64 s)) (x1 := (.int .i64 0)) (x2 := (.int .i64 0)) (x3 := (.slice none 0 0)) (is4 (is_some z0) (is_some z1) (is_some z2) (is_some z3)) rfl
        have HF : Hid (Below w.heap.size w ((((w0.setCell ⟨w.heap.size, 0, none⟩ (.int .i64 s)).setCell ⟨w.heap.size, 1, none⟩ (.int .i64 0)).setCell ⟨w.heap.size, 2, none⟩ (.int .i64 0)).setCell ⟨w.heap.size, 3, none⟩ (.slice none 0 0))) := Lib.hid ((((HW0.out.setCell (by show _ ≤ w.heap.size; omega) _).setCell (by show _ ≤ w.heap.size; omega) _).setCell (by show _ ≤ w.heap.size; omega) _).setCell (by show _ ≤ w.heap.size; omega) _)
        generalize ((((w0.setCell ⟨w.heap.size, 0, none⟩ (.int .i64 s)).setCell ⟨w.heap.size, 1, none⟩ (.int .i64 0)).setCell ⟨w.heap.size, 2, none⟩ (.int .i64 0)).setCell ⟨w.heap.size, 3, none⟩ (.slice none 0 0)) = WW at *
        exact bodyPost_ret (v := .agg #[.int .i64 s, .int .i64 0, .int .i64 0, .slice none 0 0]) (by simp [results, Tryz.results47, go_sem, r0, r1, r2, r3]) rfl ⟨0, 0, none, 0, 0, fun _ => [], rfl, .inl ⟨HN.out, rfl, rfl, rfl⟩, .inl rfl, fun _ _ h => by (cases h), Nat.le_refl _, by unfold maxLen; omega, HF.out⟩
      · obtain ⟨h1, h2, h3, h4, h5, -, -, ⟨i8, h8, h8'⟩, ⟨i9, h9, h9'⟩⟩ := HTR.out.yes (by omega)
        have hgW : g.toNat < W := (rowP_hit.1 h8').1
        have heW : e.toNat < W := (rowP_hit.1 h9').1
        have HT := Lib.hid (HTR.out.tight (by omega) HP.out)
        clear h5 h8' h9'
        obtain ⟨f, rfl⟩ : ∃ f' : Nat, f = f' := ⟨f.toNat, by omega⟩
        obtain ⟨l, rfl⟩ : ∃ f' : Nat, l = f' := ⟨l.toNat, by omega⟩
        obtain ⟨g, rfl⟩ : ∃ f' : Nat, g = f' := ⟨g.toNat, by omega⟩
        obtain ⟨e, rfl⟩ : ∃ f' : Nat, e = f' := ⟨e.toNat, by omega⟩
        obtain ⟨MC, hMC, hmk⟩ := mk_strs (l - f + 1) (by omega)
        have hfc : ¬ f = c := by omega
        obtain ⟨N, hN⟩ : ∃ N, l - f + 1 = N := ⟨_, rfl⟩
        rw [hN] at hmk hMC
        have hNi : (N : Int) = (l : Int) - f + 1 := by omega
        have hlf : l + 1 - f = N := by omega
        have hmk2 : ∀ w : World, (Instr.makeSlice 26 (.int .i64 0) (.int .i64 ((l : Int) - f + 1))).run Tryz.prog w = .ok (.slice (some ⟨w.heap.size, 0, none⟩) 0 N) (w.alloc (.cells MC 9)) := fun w => by rw [← hNi]; exact hmk w
        have HNI := Lib.hid hNi
        have HNN := Lib.hid hN
        clear hN hNi hmk
        go_wp2_with (fail)
        go_loopw [15, 58] (fun v i wr => ∃ (q : Nat) (ao : Option Addr) (co : Nat), q ≤ N ∧ v = .slice ao q co ∧ i = .int .i64 q ∧ wr.ownsRow (w.heap.size + 1) 9 1 (.slice ao q co) q (strV (fun i => rowP P (L + g) (e + 1 - g) (B + f + i)) q) ∧ Below (w.heap.size + 1) w0 wr) (fun _ i _ => N - (intOf i).toNat)
        case atStart => exact ⟨0, _, _, by omega, rfl, rfl, made_atR MC rfl (by omega) (by unfold maxLen; omega) hMC, (Below.refl _ _).alloc (by omega) _⟩
        case round =>
          obtain ⟨q, ao, co, hq, rfl, rfl, hown, hbel⟩ := hrel
          have hsz := hbel.size
          have HO := Lib.hid hown
          have HB := Lib.hid hbel
          have HBw : Hid (Below w.heap.size w wr) := Lib.hid (HW0.out.trans (hbel.mono (by omega)))
          clear hown hbel
          by_cases hlt : q < N
          · have c0 : wr.cell? ⟨b, off + f + q, none⟩ = some (.string ⟨(rowP P L W (B + (f + q : Nat))).toArray⟩) := by have := cellk HBw.out hb (HS.out (f + q) (by omega)); rwa [← Nat.add_assoc] at this
            have zk := rowP_len P L W (B + (f + q : Nat))
            have hbw : b < wr.heap.size := by have := HBw.out.size; omega
            have hx : (⟨(rowP P L W (B + (f + q : Nat))).toArray⟩ : ByteArray).extract g (e + 1) = ⟨(rowP P (L + g) (e + 1 - g) (B + f + q)).toArray⟩ := by
              rw [extract_list, rowP_piece P L W _ g (e + 1) (by omega) (by omega), show B + ((f + q : Nat) : Int) = B + f + q by omega]
            obtain ⟨T, hT⟩ : ∃ T, rowP P L W (B + (f + q : Nat)) = T := ⟨_, rfl⟩
            rw [hT] at zk hx c0
            have HXX := Lib.hid hx
            have zt := bsize T
            rw [zk] at zt
            clear hx hT
            go_wp2_with (at_builtin; refine wpList_append_own _ rfl _ _ 26 rfl (w.heap.size + 1) 9 i0 (.string ⟨#[]⟩) 1 16 Tryz.underlying26 hi0 hz0 hz1 hz2 rfl (by decide) _ _ _ rfl (HO.out.alloc _) ⟨wr.heap.size, 0, none⟩ 1 1 [.string ((⟨T.toArray⟩ : ByteArray).extract g (e + 1))] rfl rfl ?c1 ?c2 ?c3 ?c4 ?c5 ?_)
            case c1 =>
              intro j u hj
              match j, hj with
              | 0, hj => simp at hj; subst hj; simp [Addr.add]
            case c2 => intro u hu; simp at hu; subst hu; rfl
            case c3 => unfold maxLen; omega
            case c4 => omega
            case c5 => simp; omega
            intro v' w2 hown' hgrow _
            rw [HXX.out] at hown'
            have HO2 := Lib.hid hown'
            have HB2 : Hid (Below (w.heap.size + 1) w0 w2) := Lib.hid ((HB.out.alloc (by omega) _).grown hgrow (by simp; omega) (fun k hk => (HO.out.lt k hk).1))
            obtain ⟨ao2, co2, rfl⟩ : ∃ ao2 co2, v' = .slice ao2 (q + 1) co2 := by
              rcases hown'.2 with ⟨_, h0⟩ | ⟨g, cap, cur, hv, _⟩
              · omega
              · exact ⟨_, _, hv⟩
            clear hown' hgrow
            go_wp2_with (fail)
            go_roundw
            case rel => exact ⟨q + 1, ao2, co2, by omega, rfl, by go_num, HO2.out, HB2.out⟩
            case measure => simp [intOf]; omega
          · obtain rfl : N = q := by omega
            obtain ⟨hR1, hR2, hR3⟩ := rows_of_own HO.out
            have HR := Lib.hid hR1
            have hz := HZ.out
            have hz' : wr.heap[w.heap.size]? = some (.cells #[.int .i64 0, .int .i64 0, .int .i64 0, .slice none 0 0] 28 (0, 0)) := (HB.out.block w.heap.size (by omega)).trans hz
            have z0 : wr.cell? ⟨w.heap.size, 0, none⟩ = some (.int .i64 0) := cell_of hz' rfl
            have zf0 : wr.frozen? ⟨w.heap.size, 0, none⟩ = false := frozen_of hz'
            have z1 : wr.cell? ⟨w.heap.size, 1, none⟩ = some (.int .i64 0) := cell_of hz' rfl
            have zf1 : wr.frozen? ⟨w.heap.size, 1, none⟩ = false := frozen_of hz'
            have z2 : wr.cell? ⟨w.heap.size, 2, none⟩ = some (.int .i64 0) := cell_of hz' rfl
            have zf2 : wr.frozen? ⟨w.heap.size, 2, none⟩ = false := frozen_of hz'
            have z3 : wr.cell? ⟨w.heap.size, 3, none⟩ = some (.slice none 0 0) := cell_of hz' rfl
            have zf3 : wr.frozen? ⟨w.heap.size, 3, none⟩ = false := frozen_of hz'
            have m1 : -100000000000 ≤ (L + g) * s ∧ (L + g) * s ≤ 100000000000 := mul_bd (by omega) (by omega)
            have m2 : -100000000000 ≤ (B + f) * s ∧ (B + f) * s ≤ 100000000000 := mul_bd (by omega) (by omega)
            have x1 : IntKind.i64.wrap (L + g) = L + g := by rw [IntKind.wrap_i64]; omega
            have x2 : IntKind.i64.wrap (B + f) = B + f := by rw [IntKind.wrap_i64]; omega
            have x3 : IntKind.i64.wrap ((L + g) * s) = (L + g) * s := by rw [IntKind.wrap_i64]; omega
            have x4 : IntKind.i64.wrap ((B + f) * s) = (B + f) * s := by rw [IntKind.wrap_i64]; omega
            have hne : ∀ b off, ao = some ⟨b, off, none⟩ → b ≠ w.heap.size := fun b off h => by
              have := HO.out.lt b (by rw [h]; rfl)
              omega
            clear hz hz' hz0 hR1 m1 m2
            go_wp2_with (fail)
            obtain ⟨r0, r1, r2, r3⟩ := set4 (w := wr) (R := w.heap.size) (x0 := (.int .i64 s)) (x1 := (.int .i64 ((L + g) * s))) (x2 := (.int .i64 ((B + f) * s))) (x3 := (.slice ao N co)) (is4 (is_some z0) (is_some z1) (is_some z2) (is_some z3)) rfl
            have HF : Hid (Below w.heap.size w ((((wr.setCell ⟨w.heap.size, 0, none⟩ (.int .i64 s)).setCell ⟨w.heap.size, 1, none⟩ (.int .i64 ((L + g) * s))).setCell ⟨w.heap.size, 2, none⟩ (.int .i64 ((B + f) * s))).setCell ⟨w.heap.size, 3, none⟩ (.slice ao N co))) := Lib.hid ((((HBw.out.setCell (by show _ ≤ w.heap.size; omega) _).setCell (by show _ ≤ w.heap.size; omega) _).setCell (by show _ ≤ w.heap.size; omega) _).setCell (by show _ ≤ w.heap.size; omega) _)
            have HRW := Lib.hid ((((HR.out.set ⟨w.heap.size, 0, none⟩ (.int .i64 s) hne).set ⟨w.heap.size, 1, none⟩ (.int .i64 ((L + g) * s)) hne).set ⟨w.heap.size, 2, none⟩ (.int .i64 ((B + f) * s)) hne).set ⟨w.heap.size, 3, none⟩ (.slice ao N co) hne)
            generalize ((((wr.setCell ⟨w.heap.size, 0, none⟩ (.int .i64 s)).setCell ⟨w.heap.size, 1, none⟩ (.int .i64 ((L + g) * s))).setCell ⟨w.heap.size, 2, none⟩ (.int .i64 ((B + f) * s))).setCell ⟨w.heap.size, 3, none⟩ (.slice ao N co)) = WW at *
            exact bodyPost_ret (v := .agg #[.int .i64 s, .int .i64 ((L + g) * s), .int .i64 ((B + f) * s), .slice ao N co]) (by simp [results, Tryz.results47, go_sem, r0, r1, r2, r3]) rfl ⟨_, _, ao, N, co, fun i => rowP P (L + g) (e + 1 - g) (B + f + i), rfl, .inr ⟨L + g, B + f, L + e, B + l, HT.out, rfl, rfl, by have := HNI.out; omega, by funext i; rw [show (L + (e : Int) - (L + g) + 1).toNat = e + 1 - g by omega]⟩, HRW.out, fun b off h => by (have := HO.out.lt b (by rw [h]; rfl); omega), hR2, hR3, HF.out⟩
end Go.Proofs.YtllagjncibfcmaaGreatDoor

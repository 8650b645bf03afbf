/- The reference's VisitFault and OrderFault. -/
import Derived.Test.YtapihgmokgkaaaaYf
import Derived.Test.YtapihgmokgkaaaaTk
set_option linter.unusedSimpArgs false
set_option linter.unusedVariables false
namespace Go.Proofs.Ytapihgmokgkaaaa
open Go.RowKit

theorem undrew {w w' : World} (h : Below w.drew.heap.size w.drew w') : Below w.heap.size w w' := ⟨h.os, h.tape, h.output, h.size, h.block⟩
set_option maxRecDepth 100000 in
set_option maxHeartbeats 4000000 in
theorem orderFault_any (a : Option Addr) (m c : Nat) (P : Nat → Pth) (ao : Option Addr) (l co : Nat) (V : Nat → Vis) (w : World) (hm : m ≤ 100) (hp : PathsR w a m P) (hn : ∀ i, i < m → (P i).n ≤ 100)
    (hl : l ≤ 100) (ho : VisR w ao l V) (hco : l ≤ co) :
    Calls Try.prog 9 #[.slice a m c, .slice ao l co] w fun e w' => e = .returned (.int .i64 (oF m P l V)) ∧ Below w.heap.size w w' := by
  have HP := Lib.hid hp
  have HN := Lib.hid hn
  have HO := Lib.hid ho
  clear hp hn ho
  go_enter Try.func9, Try.ntmps9
  go_wp2_with (fail)
  refine (pathsFault_any a m c P _ hm HP.out HN.out).mono ?_
  rintro e w1 ⟨rfl, hb1⟩
  have B1 := Lib.hid hb1
  clear hb1
  by_cases hz : psF m P = 0
  · have R := Lib.hid (show oF m P l V = if l ≠ m then 3 else firstE (fun j => vF m P (seenB V j (V j).p) (V j)) l by simp [oF, hz])
    have hz' : (psF m P != 0) = false := by simp [hz]
    clear hz
    by_cases hlm : l = m
    · subst hlm
      have R2 := Lib.hid (show oF l P l V = firstE (fun j => vF l P (seenB V j (V j).p) (V j)) l by rw [R.out]; simp)
      go_wp2_with (fail)
      go_loopw [21] (fun i wr => ∃ k : Nat, k ≤ l ∧ i = .int .i64 k ∧ (∀ j, j < k → vF l P (seenB V j (V j).p) (V j) = 0) ∧ Below w.heap.size w wr) (fun i _ => l - (intOf i).toNat)
      case atStart => exact ⟨0, by omega, rfl, fun j hj => by omega, B1.out⟩
      case round =>
        obtain ⟨k, hk, rfl, hj, hbel⟩ := hrel
        have HJ := Lib.hid hj
        clear hj
        have hsz := hbel.size
        by_cases hlt : k < l
        · rcases HO.out with h0 | ⟨b, off, rfl, hb, hd⟩
          · omega
          obtain ⟨c0, c1, c2⟩ := hd k hlt
          replace c0 := cellk hbel hb c0
          replace c1 := cellk hbel hb c1
          replace c2 := cellk hbel hb c2
          have hbw : b < wr.heap.size := by omega
          have hkc : k ≤ co := by omega
          have HB := Lib.hid hbel
          clear hbel hd
          have BA := Lib.hid (HB.out.alloc hsz (.cells #[.int .i64 (V k).p, .int .i64 (V k).s, .bool (V k).b] 34))
          go_wp2_with (fail)
          change Code.wp _ _ _ _ (wr.alloc (.cells #[.int .i64 (V k).p, .int .i64 (V k).s, .bool (V k).b] 34))
          have d0 : (wr.alloc (.cells #[.int .i64 (V k).p, .int .i64 (V k).s, .bool (V k).b] 34)).cell? ⟨wr.heap.size, 0, none⟩ = some (.int .i64 (V k).p) := by simp [go_sem]
          have d1 : (wr.alloc (.cells #[.int .i64 (V k).p, .int .i64 (V k).s, .bool (V k).b] 34)).cell? ⟨wr.heap.size, 1, none⟩ = some (.int .i64 (V k).s) := by simp [go_sem]
          have d2 : (wr.alloc (.cells #[.int .i64 (V k).p, .int .i64 (V k).s, .bool (V k).b] 34)).cell? ⟨wr.heap.size, 2, none⟩ = some (.bool (V k).b) := by simp [go_sem]
          clear c0 c1 c2
          generalize (wr.alloc (.cells #[.int .i64 (V k).p, .int .i64 (V k).s, .bool (V k).b] 34)) = wv at *
          refine wp_region_held_drew (S := (fun w' => w'.cell? ⟨wr.heap.size, 0, none⟩ = some (.int .i64 (V k).p) ∧ w'.cell? ⟨wr.heap.size, 1, none⟩ = some (.int .i64 (V k).s) ∧ w'.cell? ⟨wr.heap.size, 2, none⟩ = some (.bool (V k).b))) (by kernel_rfl) ⟨d0, d1, d2⟩ (fun hHeld => ?_)
          refine tkH (by assumption) 0 (oi := ?_) (v := ?_) ?_ ?_ ?_ ?_ ?_ ?_ ?_ ?_; rotate_left 2; (simp only [gA, gB, gC]; exact rfl); kernel_rfl; kernel_rfl; kernel_rfl; exact fun _ _ _ h => h; rfl; (intro w' hSw; (try dsimp only at hSw); go_simp; with_reducible rfl); simp only [Act.put, pB, pC, pD]
          refine tkH (by assumption) 1 (oi := ?_) (v := ?_) ?_ ?_ ?_ ?_ ?_ ?_ ?_ ?_; rotate_left 2; (simp only [gA, gB, gC]; exact rfl); kernel_rfl; kernel_rfl; kernel_rfl; exact fun _ _ _ h => h; rfl; (intro w' hSw; (try dsimp only at hSw); go_simp; with_reducible rfl); simp only [Act.put, pB, pC, pD]
          refine tkH (by assumption) 2 (oi := ?_) (v := ?_) ?_ ?_ ?_ ?_ ?_ ?_ ?_ ?_; rotate_left 2; (simp only [gA, gB, gC]; exact rfl); kernel_rfl; kernel_rfl; kernel_rfl; exact fun _ _ _ h => h; rfl; (intro w' hSw; (try dsimp only at hSw); go_simp; with_reducible rfl); simp only [Act.put, pB, pC, pD]
          refine tkH (by assumption) 3 (oi := ?_) (v := ?_) ?_ ?_ ?_ ?_ ?_ ?_ ?_ ?_; rotate_left 2; (simp only [gA, gB, gC]; exact rfl); kernel_rfl; kernel_rfl; kernel_rfl; exact fun _ _ _ h => h; rfl; (intro w' hSw; (try dsimp only at hSw); go_simp; with_reducible rfl); simp only [Act.put, pB, pC, pD]
          refine tkH (by assumption) 4 (oi := ?_) (v := ?_) ?_ ?_ ?_ ?_ ?_ ?_ ?_ ?_; rotate_left 2; (simp only [gA, gB, gC]; exact rfl); kernel_rfl; kernel_rfl; kernel_rfl; exact fun _ _ _ h => h; rfl; (intro w' hSw; (try dsimp only at hSw); go_simp; with_reducible rfl); simp only [Act.put, pB, pC, pD]
          refine onH 5 (oi := ?_) (by kernel_rfl) ?_ ?_ (fun K hK => ?_); rotate_left; (simp only [gA, gB, gC]; exact rfl); rfl
          go_wp2_with (fail)
          refine (visitFault_any a l c P (some ⟨b, off, none⟩) k co V (V k) wv.drew hm ((HP.out.kept BA.out).kept (bdrewN (Below.refl _ _) 1)) HN.out (by omega) ((HO.out.less hk).kept (BA.out.trans (Below.mono (bdrewN (Below.refl _ _) 1) BA.out.size)))).mono ?_
          rintro e w3 ⟨rfl, hb3⟩
          replace hb3 := undrew hb3
          have B3 := Lib.hid (BA.out.trans (hb3.mono BA.out.size))
          replace d0 := cellk hb3 (cell_lt d0) d0
          replace d1 := cellk hb3 (cell_lt d1) d1
          replace d2 := cellk hb3 (cell_lt d2) d2
          refine hK.out _ _ ⟨d0, d1, d2⟩ (fun hHeld2 => ?_)
          clear hK K hHeld hb3
          try simp only [Act.put, List.setIfInBounds_toArray, List.set_cons_zero, List.set_cons_succ]
          refine tkH (by assumption) 6 (oi := ?_) (v := ?_) ?_ ?_ ?_ ?_ ?_ ?_ ?_ ?_; rotate_left 2; (simp only [gA, gB, gC]; exact rfl); kernel_rfl; kernel_rfl; kernel_rfl; exact fun _ _ _ h => h; rfl; (intro w' hSw; (try dsimp only at hSw); go_simp; with_reducible rfl); simp only [Act.put, pB, pC, pD]
          refine wpAnyH_done (by kernel_rfl) ?_ _
          clear d0 d1 d2
          by_cases hz : vF l P (seenB V k (V k).p) (V k) = 0
          · have HS := Lib.hid (show ∀ j, j < k + 1 → vF l P (seenB V j (V j).p) (V j) = 0 from fun j hj => by
              rcases Nat.lt_or_ge j k with h | h
              · exact HJ.out j h
              · obtain rfl : j = k := by omega
                exact hz)
            have hz' : (vF l P (seenB V k (V k).p) (V k) != 0) = false := by simp [hz]
            clear hz
            go_wp2_with (fail)
            go_roundw
            case rel => exact ⟨k + 1, by omega, by go_num, HS.out, B3.out⟩
            case measure => simp [intOf]; omega
          · have RR := Lib.hid (firstE_at (f := fun j => vF l P (seenB V j (V j).p) (V j)) hlt HJ.out hz)
            have hz' : (vF l P (seenB V k (V k).p) (V k) != 0) = true := by simpa using hz
            clear hz
            go_wp2_with (fail)
            go_ret
            exact ⟨ret_int (R2.out.trans RR.out).symm, B3.out⟩
        · obtain rfl : l = k := by omega
          have HB := Lib.hid hbel
          clear hbel
          go_wp2_with (fail)
          go_ret
          exact ⟨ret_int (R2.out.trans (firstE_zero HJ.out)).symm, HB.out⟩
    · have R2 := Lib.hid (show oF m P l V = 3 by rw [R.out]; simp [hlm])
      have hlm' : ((l : Int) != (m : Int)) = true := by simp; omega
      go_wp2_with (fail)
      go_ret
      exact ⟨ret_int R2.out.symm, B1.out⟩
  · have R := Lib.hid (show oF m P l V = psF m P by simp [oF, hz])
    have hz' : (psF m P != 0) = true := by simpa using hz
    clear hz
    go_wp2_with (fail)
    go_ret
    exact ⟨ret_int R.out.symm, B1.out⟩

set_option maxRecDepth 100000 in
set_option maxHeartbeats 4000000 in
theorem visitFault1_any (a : Option Addr) (m c : Nat) (P : Nat → Pth) (v : Vis) (w : World) (hm : m ≤ 100) (hp : PathsR w a m P) (hn : ∀ i, i < m → (P i).n ≤ 100) :
    Calls Try.prog 10 #[.slice a m c, v.v] w fun e w' => e = .returned (.int .i64 (oneF m P v)) ∧ Below w.heap.size w w' := by
  have HP := Lib.hid hp
  have HN := Lib.hid hn
  clear hp hn
  obtain ⟨p, s, bk⟩ := v
  unfold Vis.v
  dsimp only at *
  go_enter Try.func10, Try.ntmps10
  go_wp2_with (fail)
  change Code.wp _ _ _ _ (w.alloc (.cells #[.int .i64 p, .int .i64 s, .bool bk] 34))
  have d0 : (w.alloc (.cells #[.int .i64 p, .int .i64 s, .bool bk] 34)).cell? ⟨w.heap.size, 0, none⟩ = some (.int .i64 p) := by simp [go_sem]
  have d1 : (w.alloc (.cells #[.int .i64 p, .int .i64 s, .bool bk] 34)).cell? ⟨w.heap.size, 1, none⟩ = some (.int .i64 s) := by simp [go_sem]
  have d2 : (w.alloc (.cells #[.int .i64 p, .int .i64 s, .bool bk] 34)).cell? ⟨w.heap.size, 2, none⟩ = some (.bool bk) := by simp [go_sem]
  have BA : Hid (Below w.heap.size w (w.alloc (.cells #[.int .i64 p, .int .i64 s, .bool bk] 34))) := Lib.hid (by repeat (first | exact Below.refl _ _ | assumption | refine Below.drew ?_ | refine bdrewN ?_ _ | refine Below.setCell ?_ (by first | omega | (simp <;> omega)) _ | refine Below.alloc ?_ (by first | omega | (simp <;> omega)) _))
  generalize (w.alloc (.cells #[.int .i64 p, .int .i64 s, .bool bk] 34)) = wv at *
  refine wp_region_held_drew (S := (fun w' => w'.cell? ⟨w.heap.size, 0, none⟩ = some (.int .i64 p) ∧ w'.cell? ⟨w.heap.size, 1, none⟩ = some (.int .i64 s) ∧ w'.cell? ⟨w.heap.size, 2, none⟩ = some (.bool bk))) (by kernel_rfl) ⟨d0, d1, d2⟩ (fun hHeld => ?_)
  refine tkH (by assumption) 0 (oi := ?_) (v := ?_) ?_ ?_ ?_ ?_ ?_ ?_ ?_ ?_; rotate_left 2; (simp only [gA, gB, gC]; exact rfl); kernel_rfl; kernel_rfl; kernel_rfl; exact fun _ _ _ h => h; rfl; (intro w' hSw; (try dsimp only at hSw); go_simp; with_reducible rfl); simp only [Act.put, pB, pC, pD]
  refine tkH (by assumption) 2 (oi := ?_) (v := ?_) ?_ ?_ ?_ ?_ ?_ ?_ ?_ ?_; rotate_left 2; (simp only [gA, gB, gC]; exact rfl); kernel_rfl; kernel_rfl; kernel_rfl; exact fun _ _ _ h => h; rfl; (intro w' hSw; (try dsimp only at hSw); go_simp; with_reducible rfl); simp only [Act.put, pB, pC, pD]
  refine tkH (by assumption) 3 (oi := ?_) (v := ?_) ?_ ?_ ?_ ?_ ?_ ?_ ?_ ?_; rotate_left 2; (simp only [gA, gB, gC]; exact rfl); kernel_rfl; kernel_rfl; kernel_rfl; exact fun _ _ _ h => h; rfl; (intro w' hSw; (try dsimp only at hSw); go_simp; with_reducible rfl); simp only [Act.put, pB, pC, pD]
  refine onH 1 (oi := ?_) (by kernel_rfl) ?_ ?_ (fun K hK => ?_); rotate_left; (simp only [gA, gB, gC]; exact rfl); rfl
  go_wp2_with (fail)
  refine (pathsFault_any a m c P wv.drew hm ((HP.out.kept BA.out).kept (bdrewN (Below.refl _ _) 1)) HN.out).mono ?_
  rintro e w3 ⟨rfl, hb3⟩
  replace hb3 := undrew hb3
  have B3 := Lib.hid (BA.out.trans (hb3.mono BA.out.size))
  replace d0 := cellk hb3 (cell_lt d0) d0
  replace d1 := cellk hb3 (cell_lt d1) d1
  replace d2 := cellk hb3 (cell_lt d2) d2
  refine hK.out _ _ ⟨d0, d1, d2⟩ (fun hHeld2 => ?_)
  clear hK K hHeld hHeld2 hb3
  try simp only [Act.put, List.setIfInBounds_toArray, List.set_cons_zero, List.set_cons_succ]
  refine onH 4 (oi := ?_) (by kernel_rfl) ?_ ?_ (fun K hK => ?_); rotate_left; (simp only [gA, gB, gC]; exact rfl); rfl
  go_wp2_with (fail)
  refine (visitFault_any a m c P none 0 0 (fun _ => ⟨0, 0, false⟩) ⟨p, s, bk⟩ w3 hm (HP.out.kept B3.out) HN.out (by omega) (.inl rfl)).mono ?_
  rintro e w4 ⟨rfl, hb4⟩
  have B4 := Lib.hid (B3.out.trans (hb4.mono B3.out.size))
  replace d0 := cellk hb4 (cell_lt d0) d0
  replace d1 := cellk hb4 (cell_lt d1) d1
  replace d2 := cellk hb4 (cell_lt d2) d2
  refine hK.out _ _ ⟨d0, d1, d2⟩ (fun hHeld2 => ?_)
  clear hK K hHeld2 hb4
  try simp only [Act.put, List.setIfInBounds_toArray, List.set_cons_zero, List.set_cons_succ]
  refine onH 5 (oi := ?_) (by kernel_rfl) ?_ ?_ (fun K hK => ?_); rotate_left; (simp only [gA, gB, gC]; exact rfl); rfl
  go_wp2_with (fail)
  have BL : Below w4.heap.size w4 (w4.alloc (.cells #[.int .i64 (psF m P), .int .i64 (vF m P (seenB (fun _ => ⟨0, 0, false⟩) 0 p) ⟨p, s, bk⟩)] 37)) := (Below.refl _ _).alloc (Nat.le_refl _) _
  refine hK.out _ _ ⟨cellk BL (cell_lt d0) d0, cellk BL (cell_lt d1) d1, cellk BL (cell_lt d2) d2⟩ (fun hHeld2 => ?_)
  clear hK K
  try simp only [Act.put, List.setIfInBounds_toArray, List.set_cons_zero, List.set_cons_succ]
  refine onH 6 (oi := ?_) (by kernel_rfl) ?_ ?_ (fun K hK => ?_); rotate_left; (simp only [gA, gB, gC]; exact rfl); rfl
  go_wp2_with (fail)
  refine (or_any w4.heap.size (psF m P) (vF m P (seenB (fun _ => ⟨0, 0, false⟩) 0 p) ⟨p, s, bk⟩) w4 rfl).mono ?_
  rintro e w5 ⟨rfl, rfl⟩
  refine hK.out _ _ hHeld2 (fun hHeld3 => ?_)
  clear hK K
  try simp only [Act.put, List.setIfInBounds_toArray, List.set_cons_zero, List.set_cons_succ]
  refine tkH (by assumption) 7 (oi := ?_) (v := ?_) ?_ ?_ ?_ ?_ ?_ ?_ ?_ ?_; rotate_left 2; (simp only [gA, gB, gC]; exact rfl); kernel_rfl; kernel_rfl; kernel_rfl; exact fun _ _ _ h => h; rfl; (intro w' hSw; (try dsimp only at hSw); go_simp; with_reducible rfl); simp only [Act.put, pB, pC, pD]
  refine wpAnyH_done (by kernel_rfl) ?_ _
  go_wp2_with (fail)
  go_ret
  refine ⟨ret_int ?_, B4.out.trans (BL.mono B4.out.size)⟩
  show orE (psF m P) (vF m P (seenB (fun _ => ⟨0, 0, false⟩) 0 p) ⟨p, s, bk⟩) = oneF m P ⟨p, s, bk⟩
  rw [seen_no (V := fun _ => ⟨0, 0, false⟩) (l := 0) (q := p) (fun j hj => by omega)]
  unfold orE oneF
  by_cases hz : psF m P = 0
  · simp [hz]
  · simp [hz]
end Go.Proofs.Ytapihgmokgkaaaa

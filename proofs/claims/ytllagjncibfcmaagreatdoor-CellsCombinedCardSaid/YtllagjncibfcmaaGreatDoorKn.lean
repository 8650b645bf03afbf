/- The reference's check of cells. -/
import Derived.Test.YtllagjncibfcmaaGreatDoorCi
import Derived.Laws.StructEq
set_option linter.unusedSimpArgs false
set_option linter.unusedVariables false
namespace Go.Proofs.YtllagjncibfcmaaGreatDoor
open Go.RowKit Go.Maps

theorem set_smx {cx cy : Int} {n : Nat} {R : Nat → List UInt8} (hx : -3000000 ≤ cx ∧ cx ≤ 3000000) (hy : -3000000 ≤ cy ∧ cy ≤ 3000000) (hn : n ≤ 1000) (hl : ∀ i, i < n → (R i).length ≤ 1000) : ∀ p ∈ setL cx cy R n, smx p.1 ∧ smx p.2 := by
  rintro ⟨p, q⟩ h
  obtain ⟨i, h1, h2, j, h3, h4⟩ := setL_mem.1 h
  have := (List.getElem?_eq_some_iff.1 h3).1
  have := hl i h1
  unfold smx
  constructor <;> (show _ ≤ _ ∧ _ ≤ _) <;> simp only <;> omega
theorem Bnd.tight {l : List (Int × Int)} {lc lr hc hr : Int} (h : Bnd l (fun _ => false) true lc lr hc hr) : Tight (fun c r => decide ((c, r) ∈ l)) lc lr hc hr := by
  obtain ⟨⟨q1, m1, g1⟩, ⟨q2, m2, g2⟩, ⟨q3, m3, g3⟩, ⟨q4, m4, g4⟩⟩ := h.got rfl
  refine ⟨fun c r hcr => ?_, ⟨q1.2, ?_⟩, ⟨q2.1, ?_⟩, ⟨q3.2, ?_⟩, ⟨q4.1, ?_⟩⟩
  · rw [decide_eq_true_eq] at hcr
    rcases h.all _ hcr with h1 | h1
    · cases h1
    · have := h1.2; simp only at this; omega
  · rw [decide_eq_true_eq, ← g1]; exact m1
  · rw [decide_eq_true_eq, ← g2]; exact m2
  · rw [decide_eq_true_eq, ← g3]; exact m3
  · rw [decide_eq_true_eq, ← g4]; exact m4
theorem Bnd.none {l : List (Int × Int)} {lc lr hc hr : Int} (h : Bnd l (fun _ => false) false lc lr hc hr) : l = [] := by
  cases l with
  | nil => rfl
  | cons p l =>
    rcases h.all p (by simp) with h1 | h1
    · cases h1
    · cases h1.1
theorem cov_eq (cx cy : Int) (n : Nat) (R : Nat → List UInt8) : covB cx cy n R = fun c r => decide ((c, r) ∈ setL cx cy R n) := rfl
theorem st_spot : Tryz.prog.stoodInHeld 72 = false := by kernel_rfl
theorem neq_spot (p q x y : Int) (z : Bool) (hz : (!(p == x && q == y)) = z) (w : World) : (Go.binOp .neq 72 (.agg #[.int .i64 p, .int .i64 q]) (.agg #[.int .i64 x, .int .i64 y])).run Tryz.prog w = Result.ok (.bool z) w := by
  rw [← hz, run_neq_struct, run_equalIn_agg (ht := by kernel_rfl) (hp := st_spot)]
  by_cases h1 : p = x <;> by_cases h2 : q = y <;> simp [go_sem, h1, h2]
set_option maxRecDepth 100000 in
set_option maxHeartbeats 16000000 in
theorem cellsFault_any (s x y : Int) (a : Option Addr) (n c : Nat) (R : Nat → List UInt8) (w : World) (hr : RowS w a n R) (hl : ∀ i, i < n → (R i).length ≤ 1000000) (hn : n ≤ 1000000) :
    Calls Tryz.prog 20 #[.agg #[.int .i64 s, .int .i64 x, .int .i64 y, .slice a n c]] w fun e w' => e = .returned (.int .i64 (cellsE s x y n R)) ∧ Below w.heap.size w w' := by
  obtain ⟨BS, hB⟩ : ∃ BS, stB s = BS := ⟨_, rfl⟩
  rcases BS with _ | _
  · have hres : cellsE s x y n R = 1 := by simp [cellsE, hB]
    have hst : stE s = 1 := by simp [stE, hB]
    have HST := Lib.hid hst
    rw [hres]
    clear hB hres hst
    go_enter Tryz.func20, Tryz.ntmps20
    go_wp2_with (go_at_call 37; refine (stepFault_any s _).mono ?_; rintro e w' ⟨rfl, rfl⟩; rw [HST.out])
    go_ret
    exact ⟨rfl, (by repeat (first | exact Below.refl _ _ | assumption | refine Below.drew ?_ | refine bdrewN ?_ _ | refine Below.setCell ?_ (by first | omega | (simp <;> omega)) _ | refine Below.alloc ?_ (by first | omega | (simp <;> omega)) _))⟩
  have HST : Hid (stE s = 0) := Lib.hid (by simp [stE, hB])
  by_cases c3 : n = 0 ∧ (x ≠ 0 ∨ y ≠ 0)
  · have hres : cellsE s x y n R = 3 := by simp only [cellsE, hB]; rw [if_neg (by simp), if_pos c3]
    rw [hres]
    obtain ⟨rfl, c4⟩ := c3
    clear hB hres
    by_cases x0 : x = 0
    · subst x0
      have y0 : y ≠ 0 := by simpa using c4
      have y1 : (y != 0) = true := by simpa using y0
      clear c4
      go_enter Tryz.func20, Tryz.ntmps20
      go_wp2_with (go_at_call 37; refine (stepFault_any s _).mono ?_; rintro e w' ⟨rfl, rfl⟩; rw [HST.out])
      go_ret
      exact ⟨rfl, (by repeat (first | exact Below.refl _ _ | assumption | refine Below.drew ?_ | refine bdrewN ?_ _ | refine Below.setCell ?_ (by first | omega | (simp <;> omega)) _ | refine Below.alloc ?_ (by first | omega | (simp <;> omega)) _))⟩
    · have x1 : (x != 0) = true := by simpa using x0
      clear c4
      go_enter Tryz.func20, Tryz.ntmps20
      go_wp2_with (go_at_call 37; refine (stepFault_any s _).mono ?_; rintro e w' ⟨rfl, rfl⟩; rw [HST.out])
      go_ret
      exact ⟨rfl, (by repeat (first | exact Below.refl _ _ | assumption | refine Below.drew ?_ | refine bdrewN ?_ _ | refine Below.setCell ?_ (by first | omega | (simp <;> omega)) _ | refine Below.alloc ?_ (by first | omega | (simp <;> omega)) _))⟩
  have hs2 : 2 ≤ s ∧ s ≤ 10000 := by
    have := hB; unfold stB at this; simp only [decide_eq_true_eq] at this; omega
  obtain ⟨E, hE⟩ : ∃ E, cellsE s x y n R = E := ⟨_, rfl⟩
  obtain ⟨F, hF⟩ : ∃ F, rowsE n R = F := ⟨_, rfl⟩
  rw [hE]
  have hE2 : (if F ≠ 0 then F else if 2000000 < max x y ∨ min x y < -2000000 then 1 else if x.tmod s ≠ 0 ∨ y.tmod s ≠ 0 ∨ edgeB n R = false then 3 else 0) = E := by
    rw [← hE]; unfold cellsE; rw [if_neg (show ¬ stB s = false by rw [hB]; simp), if_neg c3, hF]
  have HE := Lib.hid hE2
  have HF := Lib.hid hF
  have HR := Lib.hid hr
  have HL := Lib.hid hl
  have HC3 := Lib.hid c3
  clear hE hE2 hF hB hr hl
  go_enter Tryz.func20, Tryz.ntmps20
  go_wp2_with (fail)
  refine (stepFault_any s _).mono ?_
  rintro e w' ⟨rfl, rfl⟩
  rw [HST.out]
  go_upto_region 4 with (fail)
  have HW : Hid (Below w.heap.size w (w.alloc (.cells #[.int .i64 s, .int .i64 x, .int .i64 y, .slice a n c] 28))) := Lib.hid (by repeat (first | exact Below.refl _ _ | assumption | refine Below.drew ?_ | refine bdrewN ?_ _ | refine Below.setCell ?_ (by first | omega | (simp <;> omega)) _ | refine Below.alloc ?_ (by first | omega | (simp <;> omega)) _))
  have p0 : (w.alloc (.cells #[.int .i64 s, .int .i64 x, .int .i64 y, .slice a n c] 28)).cell? ⟨w.heap.size, 0, none⟩ = some (.int .i64 s) := by simp [go_sem]
  have p1 : (w.alloc (.cells #[.int .i64 s, .int .i64 x, .int .i64 y, .slice a n c] 28)).cell? ⟨w.heap.size, 1, none⟩ = some (.int .i64 x) := by simp [go_sem]
  have p2 : (w.alloc (.cells #[.int .i64 s, .int .i64 x, .int .i64 y, .slice a n c] 28)).cell? ⟨w.heap.size, 2, none⟩ = some (.int .i64 y) := by simp [go_sem]
  have p3 : (w.alloc (.cells #[.int .i64 s, .int .i64 x, .int .i64 y, .slice a n c] 28)).cell? ⟨w.heap.size, 3, none⟩ = some (.slice a n c) := by simp [go_sem]
  have HA : Hid ((w.alloc (.cells #[.int .i64 s, .int .i64 x, .int .i64 y, .slice a n c] 28)).heap[w.heap.size]? = some (.cells #[.int .i64 s, .int .i64 x, .int .i64 y, .slice a n c] 28 (0, 0))) := Lib.hid (heap_new rfl)
  have lw : w.heap.size < (w.alloc (.cells #[.int .i64 s, .int .i64 x, .int .i64 y, .slice a n c] 28)).heap.size := by simp
  change Code.wp _ _ _ _ (w.alloc (.cells #[.int .i64 s, .int .i64 x, .int .i64 y, .slice a n c] 28))
  generalize (w.alloc (.cells #[.int .i64 s, .int .i64 x, .int .i64 y, .slice a n c] 28)) = w0 at *
  go_cut [27] from 14 to 28 (fun s27 wx => s27 = .bool false ∧ w0 = wx)
  case first =>
    by_cases n0 : n = 0
    · subst n0
      have x0 : x = 0 := by simp at c3; exact c3.1
      have y0 : y = 0 := by simp at c3; exact c3.2
      subst x0 y0
      go_wp2
      go_meet
      exact ⟨rfl, rfl⟩
    · go_wp2
      go_meet
      exact ⟨rfl, rfl⟩
  case rest =>
    obtain ⟨rfl, rfl⟩ := hcut
    clear c3
    go_wp2_with (fail)
    refine (rowsFault_any a n c R _ (HR.out.kept HW.out) HL.out hn).mono ?_
    rintro e w1 ⟨rfl, hb1⟩
    rw [HF.out]
    have B1 := Lib.hid (HW.out.trans (hb1.mono HW.out.size))
    replace p0 := cellk hb1 lw p0
    replace p1 := cellk hb1 lw p1
    replace p2 := cellk hb1 lw p2
    replace p3 := cellk hb1 lw p3
    have HA1 := Lib.hid (heap_keep hb1 HA.out)
    have lw1 := Nat.lt_of_lt_of_le lw hb1.size
    clear hb1 HA
    by_cases f0 : F = 0
    · subst f0
      by_cases rx : inR x (-2000000) 2000000 = true ∧ inR y (-2000000) 2000000 = true
      · obtain ⟨rx, ry⟩ := rx
        have bx : -2000000 ≤ x ∧ x ≤ 2000000 := by simpa [inR] using rx
        have by_ : -2000000 ≤ y ∧ y ≤ 2000000 := by simpa [inR] using ry
        have RX := Lib.hid rx
        have RY := Lib.hid ry
        clear rx ry
        go_wp2_with (fail)
        refine (inR_any _ _ _ _).mono ?_
        rintro e w' ⟨rfl, rfl⟩
        rw [RX.out]
        go_wp2_with (fail)
        refine (inR_any _ _ _ _).mono ?_
        rintro e w' ⟨rfl, rfl⟩
        rw [RY.out]
        have s0 : ¬ s = 0 := by omega
        obtain ⟨mx, hmx⟩ : ∃ m, x.tmod s = m := ⟨_, rfl⟩
        obtain ⟨my, hmy⟩ : ∃ m, y.tmod s = m := ⟨_, rfl⟩
        have hE3 : (if mx ≠ 0 ∨ my ≠ 0 ∨ edgeB n R = false then (3 : Int) else 0) = E := by
          rw [← HE.out]; simp only [ne_eq, not_true_eq_false, if_false]; rw [if_neg (show ¬ (2000000 < max x y ∨ min x y < -2000000) by omega), hmx, hmy]
        by_cases m0 : mx = 0
        · by_cases m1 : my = 0
          · subst m0 m1
            by_cases n0 : n = 0
            · subst n0
              have e0 : E = 0 := by rw [← hE3]; simp [edgeB]
              subst e0
              clear hE3
              go_wp2_with (fail)
              go_ret
              exact ⟨rfl, B1.out⟩
            · rcases HR.out with h | ⟨b, off, rfl, hb, hs⟩
              · exact absurd h n0
              obtain ⟨r1, r2, r3⟩ := rowsE_ok HF.out
              obtain ⟨m, hm⟩ : ∃ m, (R 0).length = m := ⟨_, rfl⟩
              obtain ⟨cx, hcx⟩ : ∃ cx, x.tdiv s = cx := ⟨_, rfl⟩
              obtain ⟨cy, hcy⟩ : ∃ cy, y.tdiv s = cy := ⟨_, rfl⟩
              rw [hm] at r3
              have bcx : -2000000 ≤ cx ∧ cx ≤ 2000000 := by have := Int.natAbs_tdiv_le_natAbs x s; rw [hcx] at this; omega
              have bcy : -2000000 ≤ cy ∧ cy ≤ 2000000 := by have := Int.natAbs_tdiv_le_natAbs y s; rw [hcy] at this; omega
              have HSM := Lib.hid (set_smx (cx := cx) (cy := cy) (n := n) (R := R) (by omega) (by omega) (by omega) (fun i hi => by rw [(r2 i hi).1, hm]; have := r3 (by omega); omega))
              have HET := Lib.hid (edge_tight (cx := cx) (cy := cy) (n := n) (R := R) (by omega) (fun i hi => by rw [(r2 i hi).1, hm]))
              have hm2 := r3 (by omega)
              have HSET := fun w (hb' : b < w.heap.size) (hs' : Sts w b off n R) => setOf_any s x y b off n c R w hb' hs' (fun i hi => (r2 i hi).2) (fun i hi => by rw [(r2 i hi).1, hm]; omega) (by omega) hs2.1 bx by_ cx cy hcx hcy
              have hb1 : b < w'.heap.size := by have := B1.out.size; omega
              have hs1 := hs.kept B1.out hb
              have hp0 : w'.cell? ⟨b, off, none⟩ = some (.string ⟨(R 0).toArray⟩) := by have := hs1 0 (by omega); simpa using this
              have zm : (⟨(R 0).toArray⟩ : ByteArray).size = m := by rw [bsize, hm]
              have HE4 := Lib.hid hE3
              have hn1 : ((n : Int) == 0) = false := by simpa using n0
              have hn2 : ¬ (n : Int) = 0 := by omega
              clear hE3 r2 r3 hm hs
              go_wp2_with (fail)
              refine (HSET _ hb1 hs1).mono ?_
              rintro e w2 ⟨bm, nn, rfl, hbm, hnn, hown, hb2⟩
              have HOWN := Lib.hid hown
              have B2 := Lib.hid (B1.out.trans (hb2.mono B1.out.size))
              have HA2 := Lib.hid (heap_keep hb2 HA1.out)
              have hp2 := cellk hb2 hb1 hp0
              have hb2' := Nat.lt_of_lt_of_le hb1 hb2.size
              clear hown hb2 HSET hs1 hp0 p0 p1 p2 p3
              go_wp2_with (fail)
              refine (span_any bm nn _ _ HOWN.out HSM.out).mono ?_
              rintro e w3 ⟨z, lc, lr, hc, hr, rfl, hbnd, hb3⟩
              have B3 := Lib.hid (B2.out.trans (hb3.mono B2.out.size))
              have ha3 := heap_keep hb3 HA2.out
              have hp3 := cellk hb3 hb2' hp2
              have hb3' := Nat.lt_of_lt_of_le hb2' hb3.size
              have HBD := Lib.hid hbnd
              clear hbnd hb3 hp2
              go_upto_region 16 with (fail)
              have h1 : ((w3.alloc (.cells #[.int .i64 lc, .int .i64 lr] 72)).alloc (.cells #[.int .i64 hc, .int .i64 hr] 72)).heap[w.heap.size]? = some (.cells #[.int .i64 s, .int .i64 x, .int .i64 y, .slice (some ⟨b, off, none⟩) n c] 28 (0, 0)) := heap_keep (((Below.refl _ w3).alloc (Nat.le_refl _) _).alloc (by simp) _) ha3
              have h2 : ((w3.alloc (.cells #[.int .i64 lc, .int .i64 lr] 72)).alloc (.cells #[.int .i64 hc, .int .i64 hr] 72)).heap[w3.heap.size]? = some (.cells #[.int .i64 lc, .int .i64 lr] 72 (0, 0)) := (Below.heap_alloc _ _ _ (by simp)).trans (heap_new rfl)
              have h3 : ((w3.alloc (.cells #[.int .i64 lc, .int .i64 lr] 72)).alloc (.cells #[.int .i64 hc, .int .i64 hr] 72)).heap[w3.heap.size + 1]? = some (.cells #[.int .i64 hc, .int .i64 hr] 72 (0, 0)) := heap_new (by simp)
              have h4 : ((w3.alloc (.cells #[.int .i64 lc, .int .i64 lr] 72)).alloc (.cells #[.int .i64 hc, .int .i64 hr] 72)).cell? ⟨b, off, none⟩ = some (.string ⟨(R 0).toArray⟩) := cellk (((Below.refl _ w3).alloc (Nat.le_refl _) _).alloc (by simp) _) hb3' hp3
              have B4 : Hid (Below w.heap.size w ((w3.alloc (.cells #[.int .i64 lc, .int .i64 lr] 72)).alloc (.cells #[.int .i64 hc, .int .i64 hr] 72))) := Lib.hid ((B3.out.alloc (by have := B3.out.size; omega) _).alloc (by have := B3.out.size; simp; omega) _)
              have v1 : IntKind.i64.wrap cx = cx := by rw [IntKind.wrap_i64]; omega
              have v2 : IntKind.i64.wrap cy = cy := by rw [IntKind.wrap_i64]; omega
              have hp0 : 0 < n := by omega
              have hp1 : (0 : Int) < (n : Int) := by omega
              clear ha3 hp3
              generalize ((w3.alloc (.cells #[.int .i64 lc, .int .i64 lr] 72)).alloc (.cells #[.int .i64 hc, .int .i64 hr] 72)) = v0 at *
              rcases z with _ | _
              · have e3 : E = 3 := by
                  have hl := HBD.out.none
                  have he : edgeB n R = false := by
                    by_cases q : edgeB n R = true
                    · obtain ⟨r, hr⟩ := (HET.out.1 q).l
                      rw [cov_eq, hl] at hr
                      simp at hr
                    · simpa using q
                  rw [← HE4.out]; simp [he]
                subst e3
                refine wp_region_held_drew (S := (fun w' : World => w'.heap[w.heap.size]? = some (.cells #[.int .i64 s, .int .i64 x, .int .i64 y, .slice (some ⟨b, off, none⟩) n c] 28 (0, 0)) ∧ w'.heap[w3.heap.size]? = some (.cells #[.int .i64 lc, .int .i64 lr] 72 (0, 0)) ∧ w'.heap[w3.heap.size + 1]? = some (.cells #[.int .i64 hc, .int .i64 hr] 72 (0, 0)) ∧ w'.cell? ⟨b, off, none⟩ = some (.string ⟨(R 0).toArray⟩))) (by kernel_rfl) ⟨h1, h2, h3, h4⟩ (fun hHeld => ?_)
                refine tkH hHeld 0 (oi := ?_) (v := ?_) ?_ ?_ ?_ ?_ ?_ ?_ ?_ ?_; rotate_left 2; (simp only [gA, gB, gC]; exact rfl); kernel_rfl; kernel_rfl; kernel_rfl; exact fun _ _ _ h => h; rfl; (intro w' hSw; go_simp; with_reducible rfl); simp only [Act.put, pB, pC, pD]
                refine tkH hHeld 1 (oi := ?_) (v := ?_) ?_ ?_ ?_ ?_ ?_ ?_ ?_ ?_; rotate_left 2; (simp only [gA, gB, gC]; exact rfl); kernel_rfl; kernel_rfl; kernel_rfl; exact fun _ _ _ h => h; rfl; (intro w' hSw; go_simp; with_reducible rfl); simp only [Act.put, pB, pC, pD]
                refine tkH hHeld 2 (oi := ?_) (v := ?_) ?_ ?_ ?_ ?_ ?_ ?_ ?_ ?_; rotate_left 2; (simp only [gA, gB, gC]; exact rfl); kernel_rfl; kernel_rfl; kernel_rfl; exact fun _ _ _ h => h; rfl; (intro w' hSw; go_simp; with_reducible rfl); simp only [Act.put, pB, pC, pD]
                refine skH hHeld 3 (oi := ?_) ?_ ?_ ?_ ?_ ?_ ?_ ?_; rotate_left; (simp only [gA, gB, gC]; exact rfl); kernel_rfl; kernel_rfl; kernel_rfl; exact fun _ _ _ h => h; rfl; simp only [Act.put, pB, pC, pD]
                refine skH hHeld 4 (oi := ?_) ?_ ?_ ?_ ?_ ?_ ?_ ?_; rotate_left; (simp only [gA, gB, gC]; exact rfl); kernel_rfl; kernel_rfl; kernel_rfl; exact fun _ _ _ h => h; rfl; simp only [Act.put, pB, pC, pD]
                refine skH hHeld 5 (oi := ?_) ?_ ?_ ?_ ?_ ?_ ?_ ?_; rotate_left; (simp only [gA, gB, gC]; exact rfl); kernel_rfl; kernel_rfl; kernel_rfl; exact fun _ _ _ h => h; rfl; simp only [Act.put, pB, pC, pD]
                refine skH hHeld 6 (oi := ?_) ?_ ?_ ?_ ?_ ?_ ?_ ?_; rotate_left; (simp only [gA, gB, gC]; exact rfl); kernel_rfl; kernel_rfl; kernel_rfl; exact fun _ _ _ h => h; rfl; simp only [Act.put, pB, pC, pD]
                refine skH hHeld 7 (oi := ?_) ?_ ?_ ?_ ?_ ?_ ?_ ?_; rotate_left; (simp only [gA, gB, gC]; exact rfl); kernel_rfl; kernel_rfl; kernel_rfl; exact fun _ _ _ h => h; rfl; simp only [Act.put, pB, pC, pD]
                refine skH hHeld 8 (oi := ?_) ?_ ?_ ?_ ?_ ?_ ?_ ?_; rotate_left; (simp only [gA, gB, gC]; exact rfl); kernel_rfl; kernel_rfl; kernel_rfl; exact fun _ _ _ h => h; rfl; simp only [Act.put, pB, pC, pD]
                refine skH hHeld 9 (oi := ?_) ?_ ?_ ?_ ?_ ?_ ?_ ?_; rotate_left; (simp only [gA, gB, gC]; exact rfl); kernel_rfl; kernel_rfl; kernel_rfl; exact fun _ _ _ h => h; rfl; simp only [Act.put, pB, pC, pD]
                refine skH hHeld 10 (oi := ?_) ?_ ?_ ?_ ?_ ?_ ?_ ?_; rotate_left; (simp only [gA, gB, gC]; exact rfl); kernel_rfl; kernel_rfl; kernel_rfl; exact fun _ _ _ h => h; rfl; simp only [Act.put, pB, pC, pD]
                refine skH hHeld 11 (oi := ?_) ?_ ?_ ?_ ?_ ?_ ?_ ?_; rotate_left; (simp only [gA, gB, gC]; exact rfl); kernel_rfl; kernel_rfl; kernel_rfl; exact fun _ _ _ h => h; rfl; simp only [Act.put, pB, pC, pD]
                refine skH hHeld 12 (oi := ?_) ?_ ?_ ?_ ?_ ?_ ?_ ?_; rotate_left; (simp only [gA, gB, gC]; exact rfl); kernel_rfl; kernel_rfl; kernel_rfl; exact fun _ _ _ h => h; rfl; simp only [Act.put, pB, pC, pD]
                refine skH hHeld 13 (oi := ?_) ?_ ?_ ?_ ?_ ?_ ?_ ?_; rotate_left; (simp only [gA, gB, gC]; exact rfl); kernel_rfl; kernel_rfl; kernel_rfl; exact fun _ _ _ h => h; rfl; simp only [Act.put, pB, pC, pD]
                refine skH hHeld 14 (oi := ?_) ?_ ?_ ?_ ?_ ?_ ?_ ?_; rotate_left; (simp only [gA, gB, gC]; exact rfl); kernel_rfl; kernel_rfl; kernel_rfl; exact fun _ _ _ h => h; rfl; simp only [Act.put, pB, pC, pD]
                refine skH hHeld 15 (oi := ?_) ?_ ?_ ?_ ?_ ?_ ?_ ?_; rotate_left; (simp only [gA, gB, gC]; exact rfl); kernel_rfl; kernel_rfl; kernel_rfl; exact fun _ _ _ h => h; rfl; simp only [Act.put, pB, pC, pD]
                refine tkH hHeld 16 (oi := ?_) (v := ?_) ?_ ?_ ?_ ?_ ?_ ?_ ?_ ?_; rotate_left 2; (simp only [gA, gB, gC]; exact rfl); kernel_rfl; kernel_rfl; kernel_rfl; exact fun _ _ _ h => h; rfl; (intro w' hSw; go_simp; with_reducible rfl); simp only [Act.put, pB, pC, pD]
                refine tkH hHeld 17 (oi := ?_) (v := ?_) ?_ ?_ ?_ ?_ ?_ ?_ ?_ ?_; rotate_left 2; (simp only [gA, gB, gC]; exact rfl); kernel_rfl; kernel_rfl; kernel_rfl; exact fun _ _ _ h => h; rfl; (intro w' hSw; go_simp; with_reducible rfl); simp only [Act.put, pB, pC, pD]
                refine skH hHeld 18 (oi := ?_) ?_ ?_ ?_ ?_ ?_ ?_ ?_; rotate_left; (simp only [gA, gB, gC]; exact rfl); kernel_rfl; kernel_rfl; kernel_rfl; exact fun _ _ _ h => h; rfl; simp only [Act.put, pB, pC, pD]
                refine skH hHeld 19 (oi := ?_) ?_ ?_ ?_ ?_ ?_ ?_ ?_; rotate_left; (simp only [gA, gB, gC]; exact rfl); kernel_rfl; kernel_rfl; kernel_rfl; exact fun _ _ _ h => h; rfl; simp only [Act.put, pB, pC, pD]
                refine skH hHeld 20 (oi := ?_) ?_ ?_ ?_ ?_ ?_ ?_ ?_; rotate_left; (simp only [gA, gB, gC]; exact rfl); kernel_rfl; kernel_rfl; kernel_rfl; exact fun _ _ _ h => h; rfl; simp only [Act.put, pB, pC, pD]
                refine skH hHeld 21 (oi := ?_) ?_ ?_ ?_ ?_ ?_ ?_ ?_; rotate_left; (simp only [gA, gB, gC]; exact rfl); kernel_rfl; kernel_rfl; kernel_rfl; exact fun _ _ _ h => h; rfl; simp only [Act.put, pB, pC, pD]
                refine skH hHeld 22 (oi := ?_) ?_ ?_ ?_ ?_ ?_ ?_ ?_; rotate_left; (simp only [gA, gB, gC]; exact rfl); kernel_rfl; kernel_rfl; kernel_rfl; exact fun _ _ _ h => h; rfl; simp only [Act.put, pB, pC, pD]
                refine skH hHeld 23 (oi := ?_) ?_ ?_ ?_ ?_ ?_ ?_ ?_; rotate_left; (simp only [gA, gB, gC]; exact rfl); kernel_rfl; kernel_rfl; kernel_rfl; exact fun _ _ _ h => h; rfl; simp only [Act.put, pB, pC, pD]
                refine skH hHeld 24 (oi := ?_) ?_ ?_ ?_ ?_ ?_ ?_ ?_; rotate_left; (simp only [gA, gB, gC]; exact rfl); kernel_rfl; kernel_rfl; kernel_rfl; exact fun _ _ _ h => h; rfl; simp only [Act.put, pB, pC, pD]
                refine skH hHeld 25 (oi := ?_) ?_ ?_ ?_ ?_ ?_ ?_ ?_; rotate_left; (simp only [gA, gB, gC]; exact rfl); kernel_rfl; kernel_rfl; kernel_rfl; exact fun _ _ _ h => h; rfl; simp only [Act.put, pB, pC, pD]
                refine skH hHeld 26 (oi := ?_) ?_ ?_ ?_ ?_ ?_ ?_ ?_; rotate_left; (simp only [gA, gB, gC]; exact rfl); kernel_rfl; kernel_rfl; kernel_rfl; exact fun _ _ _ h => h; rfl; simp only [Act.put, pB, pC, pD]
                refine skH hHeld 27 (oi := ?_) ?_ ?_ ?_ ?_ ?_ ?_ ?_; rotate_left; (simp only [gA, gB, gC]; exact rfl); kernel_rfl; kernel_rfl; kernel_rfl; exact fun _ _ _ h => h; rfl; simp only [Act.put, pB, pC, pD]
                refine skH hHeld 28 (oi := ?_) ?_ ?_ ?_ ?_ ?_ ?_ ?_; rotate_left; (simp only [gA, gB, gC]; exact rfl); kernel_rfl; kernel_rfl; kernel_rfl; exact fun _ _ _ h => h; rfl; simp only [Act.put, pB, pC, pD]
                refine skH hHeld 29 (oi := ?_) ?_ ?_ ?_ ?_ ?_ ?_ ?_; rotate_left; (simp only [gA, gB, gC]; exact rfl); kernel_rfl; kernel_rfl; kernel_rfl; exact fun _ _ _ h => h; rfl; simp only [Act.put, pB, pC, pD]
                refine skH hHeld 30 (oi := ?_) ?_ ?_ ?_ ?_ ?_ ?_ ?_; rotate_left; (simp only [gA, gB, gC]; exact rfl); kernel_rfl; kernel_rfl; kernel_rfl; exact fun _ _ _ h => h; rfl; simp only [Act.put, pB, pC, pD]
                refine skH hHeld 31 (oi := ?_) ?_ ?_ ?_ ?_ ?_ ?_ ?_; rotate_left; (simp only [gA, gB, gC]; exact rfl); kernel_rfl; kernel_rfl; kernel_rfl; exact fun _ _ _ h => h; rfl; simp only [Act.put, pB, pC, pD]
                refine skH hHeld 32 (oi := ?_) ?_ ?_ ?_ ?_ ?_ ?_ ?_; rotate_left; (simp only [gA, gB, gC]; exact rfl); kernel_rfl; kernel_rfl; kernel_rfl; exact fun _ _ _ h => h; rfl; simp only [Act.put, pB, pC, pD]
                refine skH hHeld 33 (oi := ?_) ?_ ?_ ?_ ?_ ?_ ?_ ?_; rotate_left; (simp only [gA, gB, gC]; exact rfl); kernel_rfl; kernel_rfl; kernel_rfl; exact fun _ _ _ h => h; rfl; simp only [Act.put, pB, pC, pD]
                refine skH hHeld 34 (oi := ?_) ?_ ?_ ?_ ?_ ?_ ?_ ?_; rotate_left; (simp only [gA, gB, gC]; exact rfl); kernel_rfl; kernel_rfl; kernel_rfl; exact fun _ _ _ h => h; rfl; simp only [Act.put, pB, pC, pD]
                refine skH hHeld 35 (oi := ?_) ?_ ?_ ?_ ?_ ?_ ?_ ?_; rotate_left; (simp only [gA, gB, gC]; exact rfl); kernel_rfl; kernel_rfl; kernel_rfl; exact fun _ _ _ h => h; rfl; simp only [Act.put, pB, pC, pD]
                refine skH hHeld 36 (oi := ?_) ?_ ?_ ?_ ?_ ?_ ?_ ?_; rotate_left; (simp only [gA, gB, gC]; exact rfl); kernel_rfl; kernel_rfl; kernel_rfl; exact fun _ _ _ h => h; rfl; simp only [Act.put, pB, pC, pD]
                refine tkH hHeld 37 (oi := ?_) (v := ?_) ?_ ?_ ?_ ?_ ?_ ?_ ?_ ?_; rotate_left 2; (simp only [gA, gB, gC]; exact rfl); kernel_rfl; kernel_rfl; kernel_rfl; exact fun _ _ _ h => h; rfl; (intro w' hSw; go_simp; with_reducible rfl); simp only [Act.put, pB, pC, pD]
                clear hHeld
                refine wpAnyH_done (by kernel_rfl) ?_ _
                go_wp2_with (fail)
                go_ret
                exact ⟨rfl, B4.out.drew⟩
              · have ht := HBD.out.tight
                rw [← cov_eq] at ht
                have HT := Lib.hid ht
                obtain ⟨⟨q1, m1, g1⟩, ⟨q2, m2, g2⟩, -, -⟩ := HBD.out.got rfl
                have k1 := (HSM.out _ m1).1
                have k2 := (HSM.out _ m2).2
                unfold smx at k1 k2
                rw [g1] at k1
                rw [g2] at k2
                clear ht m1 m2 g1 g2
                by_cases P1 : lc = cx ∧ lr = cy
                · obtain ⟨rfl, rfl⟩ := P1
                  have v3 : IntKind.i64.wrap (lc + m) = lc + m := by rw [IntKind.wrap_i64]; omega
                  have v4 : IntKind.i64.wrap (lc + m - 1) = lc + m - 1 := by rw [IntKind.wrap_i64]; omega
                  have v5 : IntKind.i64.wrap (lr + n) = lr + n := by rw [IntKind.wrap_i64]; omega
                  have v6 : IntKind.i64.wrap (lr + n - 1) = lr + n - 1 := by rw [IntKind.wrap_i64]; omega
                  have u1 := neq_spot lc lr lc lr false (by simp)
                  by_cases P2 : hc = lc + m - 1 ∧ hr = lr + n - 1
                  · have u2 := neq_spot hc hr (lc + m - 1) (lr + n - 1) false (by simp [P2.1, P2.2])
                    have e3 : E = 0 := by
                      rw [← HE4.out, HET.out.2 (by have := HT.out; rwa [P2.1, P2.2] at this)]; simp
                    subst e3
                    clear P2
                    refine wp_region_held_drew (S := (fun w' : World => w'.heap[w.heap.size]? = some (.cells #[.int .i64 s, .int .i64 x, .int .i64 y, .slice (some ⟨b, off, none⟩) n c] 28 (0, 0)) ∧ w'.heap[w3.heap.size]? = some (.cells #[.int .i64 lc, .int .i64 lr] 72 (0, 0)) ∧ w'.heap[w3.heap.size + 1]? = some (.cells #[.int .i64 hc, .int .i64 hr] 72 (0, 0)) ∧ w'.cell? ⟨b, off, none⟩ = some (.string ⟨(R 0).toArray⟩))) (by kernel_rfl) ⟨h1, h2, h3, h4⟩ (fun hHeld => ?_)
                    refine tkH hHeld 0 (oi := ?_) (v := ?_) ?_ ?_ ?_ ?_ ?_ ?_ ?_ ?_; rotate_left 2; (simp only [gA, gB, gC]; exact rfl); kernel_rfl; kernel_rfl; kernel_rfl; exact fun _ _ _ h => h; rfl; (intro w' hSw; go_simp; with_reducible rfl); simp only [Act.put, pB, pC, pD]
                    refine tkH hHeld 1 (oi := ?_) (v := ?_) ?_ ?_ ?_ ?_ ?_ ?_ ?_ ?_; rotate_left 2; (simp only [gA, gB, gC]; exact rfl); kernel_rfl; kernel_rfl; kernel_rfl; exact fun _ _ _ h => h; rfl; (intro w' hSw; go_simp; with_reducible rfl); simp only [Act.put, pB, pC, pD]
                    refine tkH hHeld 2 (oi := ?_) (v := ?_) ?_ ?_ ?_ ?_ ?_ ?_ ?_ ?_; rotate_left 2; (simp only [gA, gB, gC]; exact rfl); kernel_rfl; kernel_rfl; kernel_rfl; exact fun _ _ _ h => h; rfl; (intro w' hSw; go_simp; with_reducible rfl); simp only [Act.put, pB, pC, pD]
                    refine tkH hHeld 3 (oi := ?_) (v := ?_) ?_ ?_ ?_ ?_ ?_ ?_ ?_ ?_; rotate_left 2; (simp only [gA, gB, gC]; exact rfl); kernel_rfl; kernel_rfl; kernel_rfl; exact fun _ _ _ h => h; rfl; (intro w' hSw; obtain ⟨s1, s2, s3, s4⟩ := hSw; have i0 := cell_of (i := 0) s1 rfl; have i1 := cell_of (i := 1) s1 rfl; have i2 := cell_of (i := 2) s1 rfl; have i3 := cell_of (i := 3) s1 rfl; have j0 := cell_of (i := 0) s2 rfl; have j1 := cell_of (i := 1) s2 rfl; have k0 := cell_of (i := 0) s3 rfl; have k1 := cell_of (i := 1) s3 rfl; clear s1 s2 s3; go_simp; with_reducible rfl); simp only [Act.put, pB, pC, pD]
                    refine tkH hHeld 4 (oi := ?_) (v := ?_) ?_ ?_ ?_ ?_ ?_ ?_ ?_ ?_; rotate_left 2; (simp only [gA, gB, gC]; exact rfl); kernel_rfl; kernel_rfl; kernel_rfl; exact fun _ _ _ h => h; rfl; (intro w' hSw; go_simp; with_reducible rfl); simp only [Act.put, pB, pC, pD]
                    refine tkH hHeld 5 (oi := ?_) (v := ?_) ?_ ?_ ?_ ?_ ?_ ?_ ?_ ?_; rotate_left 2; (simp only [gA, gB, gC]; exact rfl); kernel_rfl; kernel_rfl; kernel_rfl; exact fun _ _ _ h => h; rfl; (intro w' hSw; obtain ⟨s1, s2, s3, s4⟩ := hSw; have i0 := cell_of (i := 0) s1 rfl; have i1 := cell_of (i := 1) s1 rfl; have i2 := cell_of (i := 2) s1 rfl; have i3 := cell_of (i := 3) s1 rfl; have j0 := cell_of (i := 0) s2 rfl; have j1 := cell_of (i := 1) s2 rfl; have k0 := cell_of (i := 0) s3 rfl; have k1 := cell_of (i := 1) s3 rfl; clear s1 s2 s3; go_simp; with_reducible rfl); simp only [Act.put, pB, pC, pD]
                    refine tkH hHeld 6 (oi := ?_) (v := ?_) ?_ ?_ ?_ ?_ ?_ ?_ ?_ ?_; rotate_left 2; (simp only [gA, gB, gC]; exact rfl); kernel_rfl; kernel_rfl; kernel_rfl; exact fun _ _ _ h => h; rfl; (intro w' hSw; go_simp; with_reducible rfl); simp only [Act.put, pB, pC, pD]
                    refine tkH hHeld 7 (oi := ?_) (v := ?_) ?_ ?_ ?_ ?_ ?_ ?_ ?_ ?_; rotate_left 2; (simp only [gA, gB, gC]; exact rfl); kernel_rfl; kernel_rfl; kernel_rfl; exact fun _ _ _ h => h; rfl; (intro w' hSw; obtain ⟨s1, s2, s3, s4⟩ := hSw; have i0 := cell_of (i := 0) s1 rfl; have i1 := cell_of (i := 1) s1 rfl; have i2 := cell_of (i := 2) s1 rfl; have i3 := cell_of (i := 3) s1 rfl; have j0 := cell_of (i := 0) s2 rfl; have j1 := cell_of (i := 1) s2 rfl; have k0 := cell_of (i := 0) s3 rfl; have k1 := cell_of (i := 1) s3 rfl; clear s1 s2 s3; go_simp; with_reducible rfl); simp only [Act.put, pB, pC, pD]
                    refine tkH hHeld 8 (oi := ?_) (v := ?_) ?_ ?_ ?_ ?_ ?_ ?_ ?_ ?_; rotate_left 2; (simp only [gA, gB, gC]; exact rfl); kernel_rfl; kernel_rfl; kernel_rfl; exact fun _ _ _ h => h; rfl; (intro w' hSw; go_simp; with_reducible rfl); simp only [Act.put, pB, pC, pD]
                    refine tkH hHeld 9 (oi := ?_) (v := ?_) ?_ ?_ ?_ ?_ ?_ ?_ ?_ ?_; rotate_left 2; (simp only [gA, gB, gC]; exact rfl); kernel_rfl; kernel_rfl; kernel_rfl; exact fun _ _ _ h => h; rfl; (intro w' hSw; go_simp; with_reducible rfl); simp only [Act.put, pB, pC, pD]
                    refine tkH hHeld 10 (oi := ?_) (v := ?_) ?_ ?_ ?_ ?_ ?_ ?_ ?_ ?_; rotate_left 2; (simp only [gA, gB, gC]; exact rfl); kernel_rfl; kernel_rfl; kernel_rfl; exact fun _ _ _ h => h; rfl; (intro w' hSw; obtain ⟨s1, s2, s3, s4⟩ := hSw; have i0 := cell_of (i := 0) s1 rfl; have i1 := cell_of (i := 1) s1 rfl; have i2 := cell_of (i := 2) s1 rfl; have i3 := cell_of (i := 3) s1 rfl; have j0 := cell_of (i := 0) s2 rfl; have j1 := cell_of (i := 1) s2 rfl; have k0 := cell_of (i := 0) s3 rfl; have k1 := cell_of (i := 1) s3 rfl; clear s1 s2 s3; go_simp; with_reducible rfl); simp only [Act.put, pB, pC, pD]
                    refine tkH hHeld 11 (oi := ?_) (v := ?_) ?_ ?_ ?_ ?_ ?_ ?_ ?_ ?_; rotate_left 2; (simp only [gA, gB, gC]; exact rfl); kernel_rfl; kernel_rfl; kernel_rfl; exact fun _ _ _ h => h; rfl; (intro w' hSw; go_simp; with_reducible rfl); simp only [Act.put, pB, pC, pD]
                    refine tkH hHeld 12 (oi := ?_) (v := ?_) ?_ ?_ ?_ ?_ ?_ ?_ ?_ ?_; rotate_left 2; (simp only [gA, gB, gC]; exact rfl); kernel_rfl; kernel_rfl; kernel_rfl; exact fun _ _ _ h => h; rfl; (intro w' hSw; obtain ⟨s1, s2, s3, s4⟩ := hSw; have i0 := cell_of (i := 0) s1 rfl; have i1 := cell_of (i := 1) s1 rfl; have i2 := cell_of (i := 2) s1 rfl; have i3 := cell_of (i := 3) s1 rfl; have j0 := cell_of (i := 0) s2 rfl; have j1 := cell_of (i := 1) s2 rfl; have k0 := cell_of (i := 0) s3 rfl; have k1 := cell_of (i := 1) s3 rfl; clear s1 s2 s3; go_simp; with_reducible rfl); simp only [Act.put, pB, pC, pD]
                    refine tkH hHeld 13 (oi := ?_) (v := ?_) ?_ ?_ ?_ ?_ ?_ ?_ ?_ ?_; rotate_left 2; (simp only [gA, gB, gC]; exact rfl); kernel_rfl; kernel_rfl; kernel_rfl; exact fun _ _ _ h => h; rfl; (intro w' hSw; go_simp; with_reducible rfl); simp only [Act.put, pB, pC, pD]
                    refine tkH hHeld 14 (oi := ?_) (v := ?_) ?_ ?_ ?_ ?_ ?_ ?_ ?_ ?_; rotate_left 2; (simp only [gA, gB, gC]; exact rfl); kernel_rfl; kernel_rfl; kernel_rfl; exact fun _ _ _ h => h; rfl; (intro w' hSw; go_simp; with_reducible rfl); simp only [Act.put, pB, pC, pD]
                    refine tkH hHeld 15 (oi := ?_) (v := ?_) ?_ ?_ ?_ ?_ ?_ ?_ ?_ ?_; rotate_left 2; (simp only [gA, gB, gC]; exact rfl); kernel_rfl; kernel_rfl; kernel_rfl; exact fun _ _ _ h => h; rfl; (intro w' hSw; go_simp; with_reducible rfl); simp only [Act.put, pB, pC, pD]
                    refine tkH hHeld 16 (oi := ?_) (v := ?_) ?_ ?_ ?_ ?_ ?_ ?_ ?_ ?_; rotate_left 2; (simp only [gA, gB, gC]; exact rfl); kernel_rfl; kernel_rfl; kernel_rfl; exact fun _ _ _ h => h; rfl; (intro w' hSw; go_simp; with_reducible rfl); simp only [Act.put, pB, pC, pD]
                    refine tkH hHeld 17 (oi := ?_) (v := ?_) ?_ ?_ ?_ ?_ ?_ ?_ ?_ ?_; rotate_left 2; (simp only [gA, gB, gC]; exact rfl); kernel_rfl; kernel_rfl; kernel_rfl; exact fun _ _ _ h => h; rfl; (intro w' hSw; go_simp; with_reducible rfl); simp only [Act.put, pB, pC, pD]
                    refine tkH hHeld 18 (oi := ?_) (v := ?_) ?_ ?_ ?_ ?_ ?_ ?_ ?_ ?_; rotate_left 2; (simp only [gA, gB, gC]; exact rfl); kernel_rfl; kernel_rfl; kernel_rfl; exact fun _ _ _ h => h; rfl; (intro w' hSw; obtain ⟨s1, s2, s3, s4⟩ := hSw; have i0 := cell_of (i := 0) s1 rfl; have i1 := cell_of (i := 1) s1 rfl; have i2 := cell_of (i := 2) s1 rfl; have i3 := cell_of (i := 3) s1 rfl; have j0 := cell_of (i := 0) s2 rfl; have j1 := cell_of (i := 1) s2 rfl; have k0 := cell_of (i := 0) s3 rfl; have k1 := cell_of (i := 1) s3 rfl; clear s1 s2 s3; go_simp; with_reducible rfl); simp only [Act.put, pB, pC, pD]
                    refine tkH hHeld 19 (oi := ?_) (v := ?_) ?_ ?_ ?_ ?_ ?_ ?_ ?_ ?_; rotate_left 2; (simp only [gA, gB, gC]; exact rfl); kernel_rfl; kernel_rfl; kernel_rfl; exact fun _ _ _ h => h; rfl; (intro w' hSw; go_simp; with_reducible rfl); simp only [Act.put, pB, pC, pD]
                    refine tkH hHeld 20 (oi := ?_) (v := ?_) ?_ ?_ ?_ ?_ ?_ ?_ ?_ ?_; rotate_left 2; (simp only [gA, gB, gC]; exact rfl); kernel_rfl; kernel_rfl; kernel_rfl; exact fun _ _ _ h => h; rfl; (intro w' hSw; obtain ⟨s1, s2, s3, s4⟩ := hSw; have i0 := cell_of (i := 0) s1 rfl; have i1 := cell_of (i := 1) s1 rfl; have i2 := cell_of (i := 2) s1 rfl; have i3 := cell_of (i := 3) s1 rfl; have j0 := cell_of (i := 0) s2 rfl; have j1 := cell_of (i := 1) s2 rfl; have k0 := cell_of (i := 0) s3 rfl; have k1 := cell_of (i := 1) s3 rfl; clear s1 s2 s3; go_simp; with_reducible rfl); simp only [Act.put, pB, pC, pD]
                    refine tkH hHeld 21 (oi := ?_) (v := ?_) ?_ ?_ ?_ ?_ ?_ ?_ ?_ ?_; rotate_left 2; (simp only [gA, gB, gC]; exact rfl); kernel_rfl; kernel_rfl; kernel_rfl; exact fun _ _ _ h => h; rfl; (intro w' hSw; go_simp; with_reducible rfl); simp only [Act.put, pB, pC, pD]
                    refine tkH hHeld 22 (oi := ?_) (v := ?_) ?_ ?_ ?_ ?_ ?_ ?_ ?_ ?_; rotate_left 2; (simp only [gA, gB, gC]; exact rfl); kernel_rfl; kernel_rfl; kernel_rfl; exact fun _ _ _ h => h; rfl; (intro w' hSw; obtain ⟨s1, s2, s3, s4⟩ := hSw; have i0 := cell_of (i := 0) s1 rfl; have i1 := cell_of (i := 1) s1 rfl; have i2 := cell_of (i := 2) s1 rfl; have i3 := cell_of (i := 3) s1 rfl; have j0 := cell_of (i := 0) s2 rfl; have j1 := cell_of (i := 1) s2 rfl; have k0 := cell_of (i := 0) s3 rfl; have k1 := cell_of (i := 1) s3 rfl; clear s1 s2 s3; go_simp; with_reducible rfl); simp only [Act.put, pB, pC, pD]
                    refine tkH hHeld 23 (oi := ?_) (v := ?_) ?_ ?_ ?_ ?_ ?_ ?_ ?_ ?_; rotate_left 2; (simp only [gA, gB, gC]; exact rfl); kernel_rfl; kernel_rfl; kernel_rfl; exact fun _ _ _ h => h; rfl; (intro w' hSw; go_simp; with_reducible rfl); simp only [Act.put, pB, pC, pD]
                    refine tkH hHeld 24 (oi := ?_) (v := ?_) ?_ ?_ ?_ ?_ ?_ ?_ ?_ ?_; rotate_left 2; (simp only [gA, gB, gC]; exact rfl); kernel_rfl; kernel_rfl; kernel_rfl; exact fun _ _ _ h => h; rfl; (intro w' hSw; obtain ⟨s1, s2, s3, s4⟩ := hSw; have i0 := cell_of (i := 0) s1 rfl; have i1 := cell_of (i := 1) s1 rfl; have i2 := cell_of (i := 2) s1 rfl; have i3 := cell_of (i := 3) s1 rfl; have j0 := cell_of (i := 0) s2 rfl; have j1 := cell_of (i := 1) s2 rfl; have k0 := cell_of (i := 0) s3 rfl; have k1 := cell_of (i := 1) s3 rfl; clear s1 s2 s3; go_simp; with_reducible rfl); simp only [Act.put, pB, pC, pD]
                    refine tkH hHeld 25 (oi := ?_) (v := ?_) ?_ ?_ ?_ ?_ ?_ ?_ ?_ ?_; rotate_left 2; (simp only [gA, gB, gC]; exact rfl); kernel_rfl; kernel_rfl; kernel_rfl; exact fun _ _ _ h => h; rfl; (intro w' hSw; go_simp; with_reducible rfl); simp only [Act.put, pB, pC, pD]
                    refine tkH hHeld 26 (oi := ?_) (v := ?_) ?_ ?_ ?_ ?_ ?_ ?_ ?_ ?_; rotate_left 2; (simp only [gA, gB, gC]; exact rfl); kernel_rfl; kernel_rfl; kernel_rfl; exact fun _ _ _ h => h; rfl; (intro w' hSw; go_simp; with_reducible rfl); simp only [Act.put, pB, pC, pD]
                    refine tkH hHeld 27 (oi := ?_) (v := ?_) ?_ ?_ ?_ ?_ ?_ ?_ ?_ ?_; rotate_left 2; (simp only [gA, gB, gC]; exact rfl); kernel_rfl; kernel_rfl; kernel_rfl; exact fun _ _ _ h => h; rfl; (intro w' hSw; go_simp; with_reducible rfl); simp only [Act.put, pB, pC, pD]
                    refine tkH hHeld 28 (oi := ?_) (v := ?_) ?_ ?_ ?_ ?_ ?_ ?_ ?_ ?_; rotate_left 2; (simp only [gA, gB, gC]; exact rfl); kernel_rfl; kernel_rfl; kernel_rfl; exact fun _ _ _ h => h; rfl; (intro w' hSw; go_simp; with_reducible rfl); simp only [Act.put, pB, pC, pD]
                    refine tkH hHeld 29 (oi := ?_) (v := ?_) ?_ ?_ ?_ ?_ ?_ ?_ ?_ ?_; rotate_left 2; (simp only [gA, gB, gC]; exact rfl); kernel_rfl; kernel_rfl; kernel_rfl; exact fun _ _ _ h => h; rfl; (intro w' hSw; obtain ⟨s1, s2, s3, s4⟩ := hSw; have i0 := cell_of (i := 0) s1 rfl; have i1 := cell_of (i := 1) s1 rfl; have i2 := cell_of (i := 2) s1 rfl; have i3 := cell_of (i := 3) s1 rfl; have j0 := cell_of (i := 0) s2 rfl; have j1 := cell_of (i := 1) s2 rfl; have k0 := cell_of (i := 0) s3 rfl; have k1 := cell_of (i := 1) s3 rfl; clear s1 s2 s3; go_simp; with_reducible rfl); simp only [Act.put, pB, pC, pD]
                    refine tkH hHeld 30 (oi := ?_) (v := ?_) ?_ ?_ ?_ ?_ ?_ ?_ ?_ ?_; rotate_left 2; (simp only [gA, gB, gC]; exact rfl); kernel_rfl; kernel_rfl; kernel_rfl; exact fun _ _ _ h => h; rfl; (intro w' hSw; go_simp; with_reducible rfl); simp only [Act.put, pB, pC, pD]
                    refine tkH hHeld 31 (oi := ?_) (v := ?_) ?_ ?_ ?_ ?_ ?_ ?_ ?_ ?_; rotate_left 2; (simp only [gA, gB, gC]; exact rfl); kernel_rfl; kernel_rfl; kernel_rfl; exact fun _ _ _ h => h; rfl; (intro w' hSw; obtain ⟨s1, s2, s3, s4⟩ := hSw; have i0 := cell_of (i := 0) s1 rfl; have i1 := cell_of (i := 1) s1 rfl; have i2 := cell_of (i := 2) s1 rfl; have i3 := cell_of (i := 3) s1 rfl; have j0 := cell_of (i := 0) s2 rfl; have j1 := cell_of (i := 1) s2 rfl; have k0 := cell_of (i := 0) s3 rfl; have k1 := cell_of (i := 1) s3 rfl; clear s1 s2 s3; go_simp; with_reducible rfl); simp only [Act.put, pB, pC, pD]
                    refine tkH hHeld 32 (oi := ?_) (v := ?_) ?_ ?_ ?_ ?_ ?_ ?_ ?_ ?_; rotate_left 2; (simp only [gA, gB, gC]; exact rfl); kernel_rfl; kernel_rfl; kernel_rfl; exact fun _ _ _ h => h; rfl; (intro w' hSw; go_simp; with_reducible rfl); simp only [Act.put, pB, pC, pD]
                    refine tkH hHeld 33 (oi := ?_) (v := ?_) ?_ ?_ ?_ ?_ ?_ ?_ ?_ ?_; rotate_left 2; (simp only [gA, gB, gC]; exact rfl); kernel_rfl; kernel_rfl; kernel_rfl; exact fun _ _ _ h => h; rfl; (intro w' hSw; go_simp; with_reducible rfl); simp only [Act.put, pB, pC, pD]
                    refine tkH hHeld 34 (oi := ?_) (v := ?_) ?_ ?_ ?_ ?_ ?_ ?_ ?_ ?_; rotate_left 2; (simp only [gA, gB, gC]; exact rfl); kernel_rfl; kernel_rfl; kernel_rfl; exact fun _ _ _ h => h; rfl; (intro w' hSw; go_simp; with_reducible rfl); simp only [Act.put, pB, pC, pD]
                    refine tkH hHeld 35 (oi := ?_) (v := ?_) ?_ ?_ ?_ ?_ ?_ ?_ ?_ ?_; rotate_left 2; (simp only [gA, gB, gC]; exact rfl); kernel_rfl; kernel_rfl; kernel_rfl; exact fun _ _ _ h => h; rfl; (intro w' hSw; go_simp; with_reducible rfl); simp only [Act.put, pB, pC, pD]
                    refine tkH hHeld 36 (oi := ?_) (v := ?_) ?_ ?_ ?_ ?_ ?_ ?_ ?_ ?_; rotate_left 2; (simp only [gA, gB, gC]; exact rfl); kernel_rfl; kernel_rfl; kernel_rfl; exact fun _ _ _ h => h; rfl; (intro w' hSw; go_simp; with_reducible rfl); simp only [Act.put, pB, pC, pD]
                    refine tkH hHeld 37 (oi := ?_) (v := ?_) ?_ ?_ ?_ ?_ ?_ ?_ ?_ ?_; rotate_left 2; (simp only [gA, gB, gC]; exact rfl); kernel_rfl; kernel_rfl; kernel_rfl; exact fun _ _ _ h => h; rfl; (intro w' hSw; go_simp; with_reducible rfl); simp only [Act.put, pB, pC, pD]
                    clear hHeld
                    refine wpAnyH_done (by kernel_rfl) ?_ _
                    go_wp2_with (fail)
                    go_ret
                    exact ⟨rfl, B4.out.drew⟩
                  · have u2 := neq_spot hc hr (lc + m - 1) (lr + n - 1) true (by simp; omega)
                    have e3 : E = 3 := by
                      have he : edgeB n R = false := by
                        by_cases q : edgeB n R = true
                        · have := (HET.out.1 q).uniq HT.out; exact absurd ⟨this.2.2.1.symm, this.2.2.2.symm⟩ P2
                        · simpa using q
                      rw [← HE4.out]; simp [he]
                    subst e3
                    clear P2
                    refine wp_region_held_drew (S := (fun w' : World => w'.heap[w.heap.size]? = some (.cells #[.int .i64 s, .int .i64 x, .int .i64 y, .slice (some ⟨b, off, none⟩) n c] 28 (0, 0)) ∧ w'.heap[w3.heap.size]? = some (.cells #[.int .i64 lc, .int .i64 lr] 72 (0, 0)) ∧ w'.heap[w3.heap.size + 1]? = some (.cells #[.int .i64 hc, .int .i64 hr] 72 (0, 0)) ∧ w'.cell? ⟨b, off, none⟩ = some (.string ⟨(R 0).toArray⟩))) (by kernel_rfl) ⟨h1, h2, h3, h4⟩ (fun hHeld => ?_)
                    refine tkH hHeld 0 (oi := ?_) (v := ?_) ?_ ?_ ?_ ?_ ?_ ?_ ?_ ?_; rotate_left 2; (simp only [gA, gB, gC]; exact rfl); kernel_rfl; kernel_rfl; kernel_rfl; exact fun _ _ _ h => h; rfl; (intro w' hSw; go_simp; with_reducible rfl); simp only [Act.put, pB, pC, pD]
                    refine tkH hHeld 1 (oi := ?_) (v := ?_) ?_ ?_ ?_ ?_ ?_ ?_ ?_ ?_; rotate_left 2; (simp only [gA, gB, gC]; exact rfl); kernel_rfl; kernel_rfl; kernel_rfl; exact fun _ _ _ h => h; rfl; (intro w' hSw; go_simp; with_reducible rfl); simp only [Act.put, pB, pC, pD]
                    refine tkH hHeld 2 (oi := ?_) (v := ?_) ?_ ?_ ?_ ?_ ?_ ?_ ?_ ?_; rotate_left 2; (simp only [gA, gB, gC]; exact rfl); kernel_rfl; kernel_rfl; kernel_rfl; exact fun _ _ _ h => h; rfl; (intro w' hSw; go_simp; with_reducible rfl); simp only [Act.put, pB, pC, pD]
                    refine tkH hHeld 3 (oi := ?_) (v := ?_) ?_ ?_ ?_ ?_ ?_ ?_ ?_ ?_; rotate_left 2; (simp only [gA, gB, gC]; exact rfl); kernel_rfl; kernel_rfl; kernel_rfl; exact fun _ _ _ h => h; rfl; (intro w' hSw; obtain ⟨s1, s2, s3, s4⟩ := hSw; have i0 := cell_of (i := 0) s1 rfl; have i1 := cell_of (i := 1) s1 rfl; have i2 := cell_of (i := 2) s1 rfl; have i3 := cell_of (i := 3) s1 rfl; have j0 := cell_of (i := 0) s2 rfl; have j1 := cell_of (i := 1) s2 rfl; have k0 := cell_of (i := 0) s3 rfl; have k1 := cell_of (i := 1) s3 rfl; clear s1 s2 s3; go_simp; with_reducible rfl); simp only [Act.put, pB, pC, pD]
                    refine tkH hHeld 4 (oi := ?_) (v := ?_) ?_ ?_ ?_ ?_ ?_ ?_ ?_ ?_; rotate_left 2; (simp only [gA, gB, gC]; exact rfl); kernel_rfl; kernel_rfl; kernel_rfl; exact fun _ _ _ h => h; rfl; (intro w' hSw; go_simp; with_reducible rfl); simp only [Act.put, pB, pC, pD]
                    refine tkH hHeld 5 (oi := ?_) (v := ?_) ?_ ?_ ?_ ?_ ?_ ?_ ?_ ?_; rotate_left 2; (simp only [gA, gB, gC]; exact rfl); kernel_rfl; kernel_rfl; kernel_rfl; exact fun _ _ _ h => h; rfl; (intro w' hSw; obtain ⟨s1, s2, s3, s4⟩ := hSw; have i0 := cell_of (i := 0) s1 rfl; have i1 := cell_of (i := 1) s1 rfl; have i2 := cell_of (i := 2) s1 rfl; have i3 := cell_of (i := 3) s1 rfl; have j0 := cell_of (i := 0) s2 rfl; have j1 := cell_of (i := 1) s2 rfl; have k0 := cell_of (i := 0) s3 rfl; have k1 := cell_of (i := 1) s3 rfl; clear s1 s2 s3; go_simp; with_reducible rfl); simp only [Act.put, pB, pC, pD]
                    refine tkH hHeld 6 (oi := ?_) (v := ?_) ?_ ?_ ?_ ?_ ?_ ?_ ?_ ?_; rotate_left 2; (simp only [gA, gB, gC]; exact rfl); kernel_rfl; kernel_rfl; kernel_rfl; exact fun _ _ _ h => h; rfl; (intro w' hSw; go_simp; with_reducible rfl); simp only [Act.put, pB, pC, pD]
                    refine tkH hHeld 7 (oi := ?_) (v := ?_) ?_ ?_ ?_ ?_ ?_ ?_ ?_ ?_; rotate_left 2; (simp only [gA, gB, gC]; exact rfl); kernel_rfl; kernel_rfl; kernel_rfl; exact fun _ _ _ h => h; rfl; (intro w' hSw; obtain ⟨s1, s2, s3, s4⟩ := hSw; have i0 := cell_of (i := 0) s1 rfl; have i1 := cell_of (i := 1) s1 rfl; have i2 := cell_of (i := 2) s1 rfl; have i3 := cell_of (i := 3) s1 rfl; have j0 := cell_of (i := 0) s2 rfl; have j1 := cell_of (i := 1) s2 rfl; have k0 := cell_of (i := 0) s3 rfl; have k1 := cell_of (i := 1) s3 rfl; clear s1 s2 s3; go_simp; with_reducible rfl); simp only [Act.put, pB, pC, pD]
                    refine tkH hHeld 8 (oi := ?_) (v := ?_) ?_ ?_ ?_ ?_ ?_ ?_ ?_ ?_; rotate_left 2; (simp only [gA, gB, gC]; exact rfl); kernel_rfl; kernel_rfl; kernel_rfl; exact fun _ _ _ h => h; rfl; (intro w' hSw; go_simp; with_reducible rfl); simp only [Act.put, pB, pC, pD]
                    refine tkH hHeld 9 (oi := ?_) (v := ?_) ?_ ?_ ?_ ?_ ?_ ?_ ?_ ?_; rotate_left 2; (simp only [gA, gB, gC]; exact rfl); kernel_rfl; kernel_rfl; kernel_rfl; exact fun _ _ _ h => h; rfl; (intro w' hSw; go_simp; with_reducible rfl); simp only [Act.put, pB, pC, pD]
                    refine tkH hHeld 10 (oi := ?_) (v := ?_) ?_ ?_ ?_ ?_ ?_ ?_ ?_ ?_; rotate_left 2; (simp only [gA, gB, gC]; exact rfl); kernel_rfl; kernel_rfl; kernel_rfl; exact fun _ _ _ h => h; rfl; (intro w' hSw; obtain ⟨s1, s2, s3, s4⟩ := hSw; have i0 := cell_of (i := 0) s1 rfl; have i1 := cell_of (i := 1) s1 rfl; have i2 := cell_of (i := 2) s1 rfl; have i3 := cell_of (i := 3) s1 rfl; have j0 := cell_of (i := 0) s2 rfl; have j1 := cell_of (i := 1) s2 rfl; have k0 := cell_of (i := 0) s3 rfl; have k1 := cell_of (i := 1) s3 rfl; clear s1 s2 s3; go_simp; with_reducible rfl); simp only [Act.put, pB, pC, pD]
                    refine tkH hHeld 11 (oi := ?_) (v := ?_) ?_ ?_ ?_ ?_ ?_ ?_ ?_ ?_; rotate_left 2; (simp only [gA, gB, gC]; exact rfl); kernel_rfl; kernel_rfl; kernel_rfl; exact fun _ _ _ h => h; rfl; (intro w' hSw; go_simp; with_reducible rfl); simp only [Act.put, pB, pC, pD]
                    refine tkH hHeld 12 (oi := ?_) (v := ?_) ?_ ?_ ?_ ?_ ?_ ?_ ?_ ?_; rotate_left 2; (simp only [gA, gB, gC]; exact rfl); kernel_rfl; kernel_rfl; kernel_rfl; exact fun _ _ _ h => h; rfl; (intro w' hSw; obtain ⟨s1, s2, s3, s4⟩ := hSw; have i0 := cell_of (i := 0) s1 rfl; have i1 := cell_of (i := 1) s1 rfl; have i2 := cell_of (i := 2) s1 rfl; have i3 := cell_of (i := 3) s1 rfl; have j0 := cell_of (i := 0) s2 rfl; have j1 := cell_of (i := 1) s2 rfl; have k0 := cell_of (i := 0) s3 rfl; have k1 := cell_of (i := 1) s3 rfl; clear s1 s2 s3; go_simp; with_reducible rfl); simp only [Act.put, pB, pC, pD]
                    refine tkH hHeld 13 (oi := ?_) (v := ?_) ?_ ?_ ?_ ?_ ?_ ?_ ?_ ?_; rotate_left 2; (simp only [gA, gB, gC]; exact rfl); kernel_rfl; kernel_rfl; kernel_rfl; exact fun _ _ _ h => h; rfl; (intro w' hSw; go_simp; with_reducible rfl); simp only [Act.put, pB, pC, pD]
                    refine tkH hHeld 14 (oi := ?_) (v := ?_) ?_ ?_ ?_ ?_ ?_ ?_ ?_ ?_; rotate_left 2; (simp only [gA, gB, gC]; exact rfl); kernel_rfl; kernel_rfl; kernel_rfl; exact fun _ _ _ h => h; rfl; (intro w' hSw; go_simp; with_reducible rfl); simp only [Act.put, pB, pC, pD]
                    refine tkH hHeld 15 (oi := ?_) (v := ?_) ?_ ?_ ?_ ?_ ?_ ?_ ?_ ?_; rotate_left 2; (simp only [gA, gB, gC]; exact rfl); kernel_rfl; kernel_rfl; kernel_rfl; exact fun _ _ _ h => h; rfl; (intro w' hSw; go_simp; with_reducible rfl); simp only [Act.put, pB, pC, pD]
                    refine tkH hHeld 16 (oi := ?_) (v := ?_) ?_ ?_ ?_ ?_ ?_ ?_ ?_ ?_; rotate_left 2; (simp only [gA, gB, gC]; exact rfl); kernel_rfl; kernel_rfl; kernel_rfl; exact fun _ _ _ h => h; rfl; (intro w' hSw; go_simp; with_reducible rfl); simp only [Act.put, pB, pC, pD]
                    refine tkH hHeld 17 (oi := ?_) (v := ?_) ?_ ?_ ?_ ?_ ?_ ?_ ?_ ?_; rotate_left 2; (simp only [gA, gB, gC]; exact rfl); kernel_rfl; kernel_rfl; kernel_rfl; exact fun _ _ _ h => h; rfl; (intro w' hSw; go_simp; with_reducible rfl); simp only [Act.put, pB, pC, pD]
                    refine tkH hHeld 18 (oi := ?_) (v := ?_) ?_ ?_ ?_ ?_ ?_ ?_ ?_ ?_; rotate_left 2; (simp only [gA, gB, gC]; exact rfl); kernel_rfl; kernel_rfl; kernel_rfl; exact fun _ _ _ h => h; rfl; (intro w' hSw; obtain ⟨s1, s2, s3, s4⟩ := hSw; have i0 := cell_of (i := 0) s1 rfl; have i1 := cell_of (i := 1) s1 rfl; have i2 := cell_of (i := 2) s1 rfl; have i3 := cell_of (i := 3) s1 rfl; have j0 := cell_of (i := 0) s2 rfl; have j1 := cell_of (i := 1) s2 rfl; have k0 := cell_of (i := 0) s3 rfl; have k1 := cell_of (i := 1) s3 rfl; clear s1 s2 s3; go_simp; with_reducible rfl); simp only [Act.put, pB, pC, pD]
                    refine tkH hHeld 19 (oi := ?_) (v := ?_) ?_ ?_ ?_ ?_ ?_ ?_ ?_ ?_; rotate_left 2; (simp only [gA, gB, gC]; exact rfl); kernel_rfl; kernel_rfl; kernel_rfl; exact fun _ _ _ h => h; rfl; (intro w' hSw; go_simp; with_reducible rfl); simp only [Act.put, pB, pC, pD]
                    refine tkH hHeld 20 (oi := ?_) (v := ?_) ?_ ?_ ?_ ?_ ?_ ?_ ?_ ?_; rotate_left 2; (simp only [gA, gB, gC]; exact rfl); kernel_rfl; kernel_rfl; kernel_rfl; exact fun _ _ _ h => h; rfl; (intro w' hSw; obtain ⟨s1, s2, s3, s4⟩ := hSw; have i0 := cell_of (i := 0) s1 rfl; have i1 := cell_of (i := 1) s1 rfl; have i2 := cell_of (i := 2) s1 rfl; have i3 := cell_of (i := 3) s1 rfl; have j0 := cell_of (i := 0) s2 rfl; have j1 := cell_of (i := 1) s2 rfl; have k0 := cell_of (i := 0) s3 rfl; have k1 := cell_of (i := 1) s3 rfl; clear s1 s2 s3; go_simp; with_reducible rfl); simp only [Act.put, pB, pC, pD]
                    refine tkH hHeld 21 (oi := ?_) (v := ?_) ?_ ?_ ?_ ?_ ?_ ?_ ?_ ?_; rotate_left 2; (simp only [gA, gB, gC]; exact rfl); kernel_rfl; kernel_rfl; kernel_rfl; exact fun _ _ _ h => h; rfl; (intro w' hSw; go_simp; with_reducible rfl); simp only [Act.put, pB, pC, pD]
                    refine tkH hHeld 22 (oi := ?_) (v := ?_) ?_ ?_ ?_ ?_ ?_ ?_ ?_ ?_; rotate_left 2; (simp only [gA, gB, gC]; exact rfl); kernel_rfl; kernel_rfl; kernel_rfl; exact fun _ _ _ h => h; rfl; (intro w' hSw; obtain ⟨s1, s2, s3, s4⟩ := hSw; have i0 := cell_of (i := 0) s1 rfl; have i1 := cell_of (i := 1) s1 rfl; have i2 := cell_of (i := 2) s1 rfl; have i3 := cell_of (i := 3) s1 rfl; have j0 := cell_of (i := 0) s2 rfl; have j1 := cell_of (i := 1) s2 rfl; have k0 := cell_of (i := 0) s3 rfl; have k1 := cell_of (i := 1) s3 rfl; clear s1 s2 s3; go_simp; with_reducible rfl); simp only [Act.put, pB, pC, pD]
                    refine tkH hHeld 23 (oi := ?_) (v := ?_) ?_ ?_ ?_ ?_ ?_ ?_ ?_ ?_; rotate_left 2; (simp only [gA, gB, gC]; exact rfl); kernel_rfl; kernel_rfl; kernel_rfl; exact fun _ _ _ h => h; rfl; (intro w' hSw; go_simp; with_reducible rfl); simp only [Act.put, pB, pC, pD]
                    refine tkH hHeld 24 (oi := ?_) (v := ?_) ?_ ?_ ?_ ?_ ?_ ?_ ?_ ?_; rotate_left 2; (simp only [gA, gB, gC]; exact rfl); kernel_rfl; kernel_rfl; kernel_rfl; exact fun _ _ _ h => h; rfl; (intro w' hSw; obtain ⟨s1, s2, s3, s4⟩ := hSw; have i0 := cell_of (i := 0) s1 rfl; have i1 := cell_of (i := 1) s1 rfl; have i2 := cell_of (i := 2) s1 rfl; have i3 := cell_of (i := 3) s1 rfl; have j0 := cell_of (i := 0) s2 rfl; have j1 := cell_of (i := 1) s2 rfl; have k0 := cell_of (i := 0) s3 rfl; have k1 := cell_of (i := 1) s3 rfl; clear s1 s2 s3; go_simp; with_reducible rfl); simp only [Act.put, pB, pC, pD]
                    refine tkH hHeld 25 (oi := ?_) (v := ?_) ?_ ?_ ?_ ?_ ?_ ?_ ?_ ?_; rotate_left 2; (simp only [gA, gB, gC]; exact rfl); kernel_rfl; kernel_rfl; kernel_rfl; exact fun _ _ _ h => h; rfl; (intro w' hSw; go_simp; with_reducible rfl); simp only [Act.put, pB, pC, pD]
                    refine tkH hHeld 26 (oi := ?_) (v := ?_) ?_ ?_ ?_ ?_ ?_ ?_ ?_ ?_; rotate_left 2; (simp only [gA, gB, gC]; exact rfl); kernel_rfl; kernel_rfl; kernel_rfl; exact fun _ _ _ h => h; rfl; (intro w' hSw; go_simp; with_reducible rfl); simp only [Act.put, pB, pC, pD]
                    refine tkH hHeld 27 (oi := ?_) (v := ?_) ?_ ?_ ?_ ?_ ?_ ?_ ?_ ?_; rotate_left 2; (simp only [gA, gB, gC]; exact rfl); kernel_rfl; kernel_rfl; kernel_rfl; exact fun _ _ _ h => h; rfl; (intro w' hSw; go_simp; with_reducible rfl); simp only [Act.put, pB, pC, pD]
                    refine tkH hHeld 28 (oi := ?_) (v := ?_) ?_ ?_ ?_ ?_ ?_ ?_ ?_ ?_; rotate_left 2; (simp only [gA, gB, gC]; exact rfl); kernel_rfl; kernel_rfl; kernel_rfl; exact fun _ _ _ h => h; rfl; (intro w' hSw; go_simp; with_reducible rfl); simp only [Act.put, pB, pC, pD]
                    refine tkH hHeld 29 (oi := ?_) (v := ?_) ?_ ?_ ?_ ?_ ?_ ?_ ?_ ?_; rotate_left 2; (simp only [gA, gB, gC]; exact rfl); kernel_rfl; kernel_rfl; kernel_rfl; exact fun _ _ _ h => h; rfl; (intro w' hSw; obtain ⟨s1, s2, s3, s4⟩ := hSw; have i0 := cell_of (i := 0) s1 rfl; have i1 := cell_of (i := 1) s1 rfl; have i2 := cell_of (i := 2) s1 rfl; have i3 := cell_of (i := 3) s1 rfl; have j0 := cell_of (i := 0) s2 rfl; have j1 := cell_of (i := 1) s2 rfl; have k0 := cell_of (i := 0) s3 rfl; have k1 := cell_of (i := 1) s3 rfl; clear s1 s2 s3; go_simp; with_reducible rfl); simp only [Act.put, pB, pC, pD]
                    refine tkH hHeld 30 (oi := ?_) (v := ?_) ?_ ?_ ?_ ?_ ?_ ?_ ?_ ?_; rotate_left 2; (simp only [gA, gB, gC]; exact rfl); kernel_rfl; kernel_rfl; kernel_rfl; exact fun _ _ _ h => h; rfl; (intro w' hSw; go_simp; with_reducible rfl); simp only [Act.put, pB, pC, pD]
                    refine tkH hHeld 31 (oi := ?_) (v := ?_) ?_ ?_ ?_ ?_ ?_ ?_ ?_ ?_; rotate_left 2; (simp only [gA, gB, gC]; exact rfl); kernel_rfl; kernel_rfl; kernel_rfl; exact fun _ _ _ h => h; rfl; (intro w' hSw; obtain ⟨s1, s2, s3, s4⟩ := hSw; have i0 := cell_of (i := 0) s1 rfl; have i1 := cell_of (i := 1) s1 rfl; have i2 := cell_of (i := 2) s1 rfl; have i3 := cell_of (i := 3) s1 rfl; have j0 := cell_of (i := 0) s2 rfl; have j1 := cell_of (i := 1) s2 rfl; have k0 := cell_of (i := 0) s3 rfl; have k1 := cell_of (i := 1) s3 rfl; clear s1 s2 s3; go_simp; with_reducible rfl); simp only [Act.put, pB, pC, pD]
                    refine tkH hHeld 32 (oi := ?_) (v := ?_) ?_ ?_ ?_ ?_ ?_ ?_ ?_ ?_; rotate_left 2; (simp only [gA, gB, gC]; exact rfl); kernel_rfl; kernel_rfl; kernel_rfl; exact fun _ _ _ h => h; rfl; (intro w' hSw; go_simp; with_reducible rfl); simp only [Act.put, pB, pC, pD]
                    refine tkH hHeld 33 (oi := ?_) (v := ?_) ?_ ?_ ?_ ?_ ?_ ?_ ?_ ?_; rotate_left 2; (simp only [gA, gB, gC]; exact rfl); kernel_rfl; kernel_rfl; kernel_rfl; exact fun _ _ _ h => h; rfl; (intro w' hSw; go_simp; with_reducible rfl); simp only [Act.put, pB, pC, pD]
                    refine tkH hHeld 34 (oi := ?_) (v := ?_) ?_ ?_ ?_ ?_ ?_ ?_ ?_ ?_; rotate_left 2; (simp only [gA, gB, gC]; exact rfl); kernel_rfl; kernel_rfl; kernel_rfl; exact fun _ _ _ h => h; rfl; (intro w' hSw; go_simp; with_reducible rfl); simp only [Act.put, pB, pC, pD]
                    refine tkH hHeld 35 (oi := ?_) (v := ?_) ?_ ?_ ?_ ?_ ?_ ?_ ?_ ?_; rotate_left 2; (simp only [gA, gB, gC]; exact rfl); kernel_rfl; kernel_rfl; kernel_rfl; exact fun _ _ _ h => h; rfl; (intro w' hSw; go_simp; with_reducible rfl); simp only [Act.put, pB, pC, pD]
                    refine tkH hHeld 36 (oi := ?_) (v := ?_) ?_ ?_ ?_ ?_ ?_ ?_ ?_ ?_; rotate_left 2; (simp only [gA, gB, gC]; exact rfl); kernel_rfl; kernel_rfl; kernel_rfl; exact fun _ _ _ h => h; rfl; (intro w' hSw; go_simp; with_reducible rfl); simp only [Act.put, pB, pC, pD]
                    refine tkH hHeld 37 (oi := ?_) (v := ?_) ?_ ?_ ?_ ?_ ?_ ?_ ?_ ?_; rotate_left 2; (simp only [gA, gB, gC]; exact rfl); kernel_rfl; kernel_rfl; kernel_rfl; exact fun _ _ _ h => h; rfl; (intro w' hSw; go_simp; with_reducible rfl); simp only [Act.put, pB, pC, pD]
                    clear hHeld
                    refine wpAnyH_done (by kernel_rfl) ?_ _
                    go_wp2_with (fail)
                    go_ret
                    exact ⟨rfl, B4.out.drew⟩
                · have u1 := neq_spot lc lr cx cy true (by simp; omega)
                  have e3 : E = 3 := by
                    have he : edgeB n R = false := by
                      by_cases q : edgeB n R = true
                      · have := (HET.out.1 q).uniq HT.out; exact absurd ⟨this.1.symm, this.2.1.symm⟩ P1
                      · simpa using q
                    rw [← HE4.out]; simp [he]
                  subst e3
                  clear P1
                  refine wp_region_held_drew (S := (fun w' : World => w'.heap[w.heap.size]? = some (.cells #[.int .i64 s, .int .i64 x, .int .i64 y, .slice (some ⟨b, off, none⟩) n c] 28 (0, 0)) ∧ w'.heap[w3.heap.size]? = some (.cells #[.int .i64 lc, .int .i64 lr] 72 (0, 0)) ∧ w'.heap[w3.heap.size + 1]? = some (.cells #[.int .i64 hc, .int .i64 hr] 72 (0, 0)) ∧ w'.cell? ⟨b, off, none⟩ = some (.string ⟨(R 0).toArray⟩))) (by kernel_rfl) ⟨h1, h2, h3, h4⟩ (fun hHeld => ?_)
                  refine tkH hHeld 0 (oi := ?_) (v := ?_) ?_ ?_ ?_ ?_ ?_ ?_ ?_ ?_; rotate_left 2; (simp only [gA, gB, gC]; exact rfl); kernel_rfl; kernel_rfl; kernel_rfl; exact fun _ _ _ h => h; rfl; (intro w' hSw; go_simp; with_reducible rfl); simp only [Act.put, pB, pC, pD]
                  refine tkH hHeld 1 (oi := ?_) (v := ?_) ?_ ?_ ?_ ?_ ?_ ?_ ?_ ?_; rotate_left 2; (simp only [gA, gB, gC]; exact rfl); kernel_rfl; kernel_rfl; kernel_rfl; exact fun _ _ _ h => h; rfl; (intro w' hSw; go_simp; with_reducible rfl); simp only [Act.put, pB, pC, pD]
                  refine tkH hHeld 2 (oi := ?_) (v := ?_) ?_ ?_ ?_ ?_ ?_ ?_ ?_ ?_; rotate_left 2; (simp only [gA, gB, gC]; exact rfl); kernel_rfl; kernel_rfl; kernel_rfl; exact fun _ _ _ h => h; rfl; (intro w' hSw; go_simp; with_reducible rfl); simp only [Act.put, pB, pC, pD]
                  refine tkH hHeld 3 (oi := ?_) (v := ?_) ?_ ?_ ?_ ?_ ?_ ?_ ?_ ?_; rotate_left 2; (simp only [gA, gB, gC]; exact rfl); kernel_rfl; kernel_rfl; kernel_rfl; exact fun _ _ _ h => h; rfl; (intro w' hSw; obtain ⟨s1, s2, s3, s4⟩ := hSw; have i0 := cell_of (i := 0) s1 rfl; have i1 := cell_of (i := 1) s1 rfl; have i2 := cell_of (i := 2) s1 rfl; have i3 := cell_of (i := 3) s1 rfl; have j0 := cell_of (i := 0) s2 rfl; have j1 := cell_of (i := 1) s2 rfl; have k0 := cell_of (i := 0) s3 rfl; have k1 := cell_of (i := 1) s3 rfl; clear s1 s2 s3; go_simp; with_reducible rfl); simp only [Act.put, pB, pC, pD]
                  refine tkH hHeld 4 (oi := ?_) (v := ?_) ?_ ?_ ?_ ?_ ?_ ?_ ?_ ?_; rotate_left 2; (simp only [gA, gB, gC]; exact rfl); kernel_rfl; kernel_rfl; kernel_rfl; exact fun _ _ _ h => h; rfl; (intro w' hSw; go_simp; with_reducible rfl); simp only [Act.put, pB, pC, pD]
                  refine tkH hHeld 5 (oi := ?_) (v := ?_) ?_ ?_ ?_ ?_ ?_ ?_ ?_ ?_; rotate_left 2; (simp only [gA, gB, gC]; exact rfl); kernel_rfl; kernel_rfl; kernel_rfl; exact fun _ _ _ h => h; rfl; (intro w' hSw; obtain ⟨s1, s2, s3, s4⟩ := hSw; have i0 := cell_of (i := 0) s1 rfl; have i1 := cell_of (i := 1) s1 rfl; have i2 := cell_of (i := 2) s1 rfl; have i3 := cell_of (i := 3) s1 rfl; have j0 := cell_of (i := 0) s2 rfl; have j1 := cell_of (i := 1) s2 rfl; have k0 := cell_of (i := 0) s3 rfl; have k1 := cell_of (i := 1) s3 rfl; clear s1 s2 s3; go_simp; with_reducible rfl); simp only [Act.put, pB, pC, pD]
                  refine tkH hHeld 6 (oi := ?_) (v := ?_) ?_ ?_ ?_ ?_ ?_ ?_ ?_ ?_; rotate_left 2; (simp only [gA, gB, gC]; exact rfl); kernel_rfl; kernel_rfl; kernel_rfl; exact fun _ _ _ h => h; rfl; (intro w' hSw; go_simp; with_reducible rfl); simp only [Act.put, pB, pC, pD]
                  refine tkH hHeld 7 (oi := ?_) (v := ?_) ?_ ?_ ?_ ?_ ?_ ?_ ?_ ?_; rotate_left 2; (simp only [gA, gB, gC]; exact rfl); kernel_rfl; kernel_rfl; kernel_rfl; exact fun _ _ _ h => h; rfl; (intro w' hSw; obtain ⟨s1, s2, s3, s4⟩ := hSw; have i0 := cell_of (i := 0) s1 rfl; have i1 := cell_of (i := 1) s1 rfl; have i2 := cell_of (i := 2) s1 rfl; have i3 := cell_of (i := 3) s1 rfl; have j0 := cell_of (i := 0) s2 rfl; have j1 := cell_of (i := 1) s2 rfl; have k0 := cell_of (i := 0) s3 rfl; have k1 := cell_of (i := 1) s3 rfl; clear s1 s2 s3; go_simp; with_reducible rfl); simp only [Act.put, pB, pC, pD]
                  refine tkH hHeld 8 (oi := ?_) (v := ?_) ?_ ?_ ?_ ?_ ?_ ?_ ?_ ?_; rotate_left 2; (simp only [gA, gB, gC]; exact rfl); kernel_rfl; kernel_rfl; kernel_rfl; exact fun _ _ _ h => h; rfl; (intro w' hSw; go_simp; with_reducible rfl); simp only [Act.put, pB, pC, pD]
                  refine tkH hHeld 9 (oi := ?_) (v := ?_) ?_ ?_ ?_ ?_ ?_ ?_ ?_ ?_; rotate_left 2; (simp only [gA, gB, gC]; exact rfl); kernel_rfl; kernel_rfl; kernel_rfl; exact fun _ _ _ h => h; rfl; (intro w' hSw; go_simp; with_reducible rfl); simp only [Act.put, pB, pC, pD]
                  refine tkH hHeld 10 (oi := ?_) (v := ?_) ?_ ?_ ?_ ?_ ?_ ?_ ?_ ?_; rotate_left 2; (simp only [gA, gB, gC]; exact rfl); kernel_rfl; kernel_rfl; kernel_rfl; exact fun _ _ _ h => h; rfl; (intro w' hSw; obtain ⟨s1, s2, s3, s4⟩ := hSw; have i0 := cell_of (i := 0) s1 rfl; have i1 := cell_of (i := 1) s1 rfl; have i2 := cell_of (i := 2) s1 rfl; have i3 := cell_of (i := 3) s1 rfl; have j0 := cell_of (i := 0) s2 rfl; have j1 := cell_of (i := 1) s2 rfl; have k0 := cell_of (i := 0) s3 rfl; have k1 := cell_of (i := 1) s3 rfl; clear s1 s2 s3; go_simp; with_reducible rfl); simp only [Act.put, pB, pC, pD]
                  refine tkH hHeld 11 (oi := ?_) (v := ?_) ?_ ?_ ?_ ?_ ?_ ?_ ?_ ?_; rotate_left 2; (simp only [gA, gB, gC]; exact rfl); kernel_rfl; kernel_rfl; kernel_rfl; exact fun _ _ _ h => h; rfl; (intro w' hSw; go_simp; with_reducible rfl); simp only [Act.put, pB, pC, pD]
                  refine tkH hHeld 12 (oi := ?_) (v := ?_) ?_ ?_ ?_ ?_ ?_ ?_ ?_ ?_; rotate_left 2; (simp only [gA, gB, gC]; exact rfl); kernel_rfl; kernel_rfl; kernel_rfl; exact fun _ _ _ h => h; rfl; (intro w' hSw; obtain ⟨s1, s2, s3, s4⟩ := hSw; have i0 := cell_of (i := 0) s1 rfl; have i1 := cell_of (i := 1) s1 rfl; have i2 := cell_of (i := 2) s1 rfl; have i3 := cell_of (i := 3) s1 rfl; have j0 := cell_of (i := 0) s2 rfl; have j1 := cell_of (i := 1) s2 rfl; have k0 := cell_of (i := 0) s3 rfl; have k1 := cell_of (i := 1) s3 rfl; clear s1 s2 s3; go_simp; with_reducible rfl); simp only [Act.put, pB, pC, pD]
                  refine tkH hHeld 13 (oi := ?_) (v := ?_) ?_ ?_ ?_ ?_ ?_ ?_ ?_ ?_; rotate_left 2; (simp only [gA, gB, gC]; exact rfl); kernel_rfl; kernel_rfl; kernel_rfl; exact fun _ _ _ h => h; rfl; (intro w' hSw; go_simp; with_reducible rfl); simp only [Act.put, pB, pC, pD]
                  refine tkH hHeld 14 (oi := ?_) (v := ?_) ?_ ?_ ?_ ?_ ?_ ?_ ?_ ?_; rotate_left 2; (simp only [gA, gB, gC]; exact rfl); kernel_rfl; kernel_rfl; kernel_rfl; exact fun _ _ _ h => h; rfl; (intro w' hSw; go_simp; with_reducible rfl); simp only [Act.put, pB, pC, pD]
                  refine tkH hHeld 15 (oi := ?_) (v := ?_) ?_ ?_ ?_ ?_ ?_ ?_ ?_ ?_; rotate_left 2; (simp only [gA, gB, gC]; exact rfl); kernel_rfl; kernel_rfl; kernel_rfl; exact fun _ _ _ h => h; rfl; (intro w' hSw; go_simp; with_reducible rfl); simp only [Act.put, pB, pC, pD]
                  refine tkH hHeld 16 (oi := ?_) (v := ?_) ?_ ?_ ?_ ?_ ?_ ?_ ?_ ?_; rotate_left 2; (simp only [gA, gB, gC]; exact rfl); kernel_rfl; kernel_rfl; kernel_rfl; exact fun _ _ _ h => h; rfl; (intro w' hSw; go_simp; with_reducible rfl); simp only [Act.put, pB, pC, pD]
                  refine tkH hHeld 17 (oi := ?_) (v := ?_) ?_ ?_ ?_ ?_ ?_ ?_ ?_ ?_; rotate_left 2; (simp only [gA, gB, gC]; exact rfl); kernel_rfl; kernel_rfl; kernel_rfl; exact fun _ _ _ h => h; rfl; (intro w' hSw; go_simp; with_reducible rfl); simp only [Act.put, pB, pC, pD]
                  refine skH hHeld 18 (oi := ?_) ?_ ?_ ?_ ?_ ?_ ?_ ?_; rotate_left; (simp only [gA, gB, gC]; exact rfl); kernel_rfl; kernel_rfl; kernel_rfl; exact fun _ _ _ h => h; rfl; simp only [Act.put, pB, pC, pD]
                  refine skH hHeld 19 (oi := ?_) ?_ ?_ ?_ ?_ ?_ ?_ ?_; rotate_left; (simp only [gA, gB, gC]; exact rfl); kernel_rfl; kernel_rfl; kernel_rfl; exact fun _ _ _ h => h; rfl; simp only [Act.put, pB, pC, pD]
                  refine skH hHeld 20 (oi := ?_) ?_ ?_ ?_ ?_ ?_ ?_ ?_; rotate_left; (simp only [gA, gB, gC]; exact rfl); kernel_rfl; kernel_rfl; kernel_rfl; exact fun _ _ _ h => h; rfl; simp only [Act.put, pB, pC, pD]
                  refine skH hHeld 21 (oi := ?_) ?_ ?_ ?_ ?_ ?_ ?_ ?_; rotate_left; (simp only [gA, gB, gC]; exact rfl); kernel_rfl; kernel_rfl; kernel_rfl; exact fun _ _ _ h => h; rfl; simp only [Act.put, pB, pC, pD]
                  refine skH hHeld 22 (oi := ?_) ?_ ?_ ?_ ?_ ?_ ?_ ?_; rotate_left; (simp only [gA, gB, gC]; exact rfl); kernel_rfl; kernel_rfl; kernel_rfl; exact fun _ _ _ h => h; rfl; simp only [Act.put, pB, pC, pD]
                  refine skH hHeld 23 (oi := ?_) ?_ ?_ ?_ ?_ ?_ ?_ ?_; rotate_left; (simp only [gA, gB, gC]; exact rfl); kernel_rfl; kernel_rfl; kernel_rfl; exact fun _ _ _ h => h; rfl; simp only [Act.put, pB, pC, pD]
                  refine skH hHeld 24 (oi := ?_) ?_ ?_ ?_ ?_ ?_ ?_ ?_; rotate_left; (simp only [gA, gB, gC]; exact rfl); kernel_rfl; kernel_rfl; kernel_rfl; exact fun _ _ _ h => h; rfl; simp only [Act.put, pB, pC, pD]
                  refine skH hHeld 25 (oi := ?_) ?_ ?_ ?_ ?_ ?_ ?_ ?_; rotate_left; (simp only [gA, gB, gC]; exact rfl); kernel_rfl; kernel_rfl; kernel_rfl; exact fun _ _ _ h => h; rfl; simp only [Act.put, pB, pC, pD]
                  refine skH hHeld 26 (oi := ?_) ?_ ?_ ?_ ?_ ?_ ?_ ?_; rotate_left; (simp only [gA, gB, gC]; exact rfl); kernel_rfl; kernel_rfl; kernel_rfl; exact fun _ _ _ h => h; rfl; simp only [Act.put, pB, pC, pD]
                  refine skH hHeld 27 (oi := ?_) ?_ ?_ ?_ ?_ ?_ ?_ ?_; rotate_left; (simp only [gA, gB, gC]; exact rfl); kernel_rfl; kernel_rfl; kernel_rfl; exact fun _ _ _ h => h; rfl; simp only [Act.put, pB, pC, pD]
                  refine skH hHeld 28 (oi := ?_) ?_ ?_ ?_ ?_ ?_ ?_ ?_; rotate_left; (simp only [gA, gB, gC]; exact rfl); kernel_rfl; kernel_rfl; kernel_rfl; exact fun _ _ _ h => h; rfl; simp only [Act.put, pB, pC, pD]
                  refine skH hHeld 29 (oi := ?_) ?_ ?_ ?_ ?_ ?_ ?_ ?_; rotate_left; (simp only [gA, gB, gC]; exact rfl); kernel_rfl; kernel_rfl; kernel_rfl; exact fun _ _ _ h => h; rfl; simp only [Act.put, pB, pC, pD]
                  refine skH hHeld 30 (oi := ?_) ?_ ?_ ?_ ?_ ?_ ?_ ?_; rotate_left; (simp only [gA, gB, gC]; exact rfl); kernel_rfl; kernel_rfl; kernel_rfl; exact fun _ _ _ h => h; rfl; simp only [Act.put, pB, pC, pD]
                  refine skH hHeld 31 (oi := ?_) ?_ ?_ ?_ ?_ ?_ ?_ ?_; rotate_left; (simp only [gA, gB, gC]; exact rfl); kernel_rfl; kernel_rfl; kernel_rfl; exact fun _ _ _ h => h; rfl; simp only [Act.put, pB, pC, pD]
                  refine skH hHeld 32 (oi := ?_) ?_ ?_ ?_ ?_ ?_ ?_ ?_; rotate_left; (simp only [gA, gB, gC]; exact rfl); kernel_rfl; kernel_rfl; kernel_rfl; exact fun _ _ _ h => h; rfl; simp only [Act.put, pB, pC, pD]
                  refine skH hHeld 33 (oi := ?_) ?_ ?_ ?_ ?_ ?_ ?_ ?_; rotate_left; (simp only [gA, gB, gC]; exact rfl); kernel_rfl; kernel_rfl; kernel_rfl; exact fun _ _ _ h => h; rfl; simp only [Act.put, pB, pC, pD]
                  refine skH hHeld 34 (oi := ?_) ?_ ?_ ?_ ?_ ?_ ?_ ?_; rotate_left; (simp only [gA, gB, gC]; exact rfl); kernel_rfl; kernel_rfl; kernel_rfl; exact fun _ _ _ h => h; rfl; simp only [Act.put, pB, pC, pD]
                  refine skH hHeld 35 (oi := ?_) ?_ ?_ ?_ ?_ ?_ ?_ ?_; rotate_left; (simp only [gA, gB, gC]; exact rfl); kernel_rfl; kernel_rfl; kernel_rfl; exact fun _ _ _ h => h; rfl; simp only [Act.put, pB, pC, pD]
                  refine skH hHeld 36 (oi := ?_) ?_ ?_ ?_ ?_ ?_ ?_ ?_; rotate_left; (simp only [gA, gB, gC]; exact rfl); kernel_rfl; kernel_rfl; kernel_rfl; exact fun _ _ _ h => h; rfl; simp only [Act.put, pB, pC, pD]
                  refine tkH hHeld 37 (oi := ?_) (v := ?_) ?_ ?_ ?_ ?_ ?_ ?_ ?_ ?_; rotate_left 2; (simp only [gA, gB, gC]; exact rfl); kernel_rfl; kernel_rfl; kernel_rfl; exact fun _ _ _ h => h; rfl; (intro w' hSw; go_simp; with_reducible rfl); simp only [Act.put, pB, pC, pD]
                  clear hHeld
                  refine wpAnyH_done (by kernel_rfl) ?_ _
                  go_wp2_with (fail)
                  go_ret
                  exact ⟨rfl, B4.out.drew⟩
          · have e3 : E = 3 := by rw [← hE3]; simp [m1]
            subst m0 e3
            have hm : (my != 0) = true := by simpa using m1
            clear hE3
            go_wp2
            go_ret
            exact ⟨rfl, B1.out⟩
        · have e3 : E = 3 := by rw [← hE3]; simp [m0]
          subst e3
          have hm : (mx != 0) = true := by simpa using m0
          clear hE3
          go_wp2
          go_ret
          exact ⟨rfl, B1.out⟩
      · have e1 : E = 1 := by
          rw [← HE.out]; simp only [ne_eq, not_true_eq_false, if_false]
          rw [if_pos]
          simp only [inR, decide_eq_true_eq] at rx
          omega
        subst e1
        obtain ⟨b1, hb1⟩ : ∃ b, inR x (-2000000) 2000000 = b := ⟨_, rfl⟩
        obtain ⟨b2, hb2⟩ : ∃ b, inR y (-2000000) 2000000 = b := ⟨_, rfl⟩
        rw [hb1, hb2] at rx
        have RX := Lib.hid hb1
        have RY := Lib.hid hb2
        clear hb1 hb2
        rcases b1 with _ | _
        · go_wp2_with (fail)
          refine (inR_any _ _ _ _).mono ?_
          rintro e w' ⟨rfl, rfl⟩
          rw [RX.out]
          go_wp2_with (fail)
          go_ret
          exact ⟨rfl, B1.out⟩
        · have b2f : b2 = false := by simpa using rx
          subst b2f
          go_wp2_with (fail)
          refine (inR_any _ _ _ _).mono ?_
          rintro e w' ⟨rfl, rfl⟩
          rw [RX.out]
          go_wp2_with (fail)
          refine (inR_any _ _ _ _).mono ?_
          rintro e w' ⟨rfl, rfl⟩
          rw [RY.out]
          go_wp2_with (fail)
          go_ret
          exact ⟨rfl, B1.out⟩
    · have e1 : E = F := by rw [← HE.out]; simp [f0]
      subst e1
      have hf : (E != 0) = true := by simpa using f0
      go_wp2
      go_ret
      exact ⟨rfl, B1.out⟩
end Go.Proofs.YtllagjncibfcmaaGreatDoor

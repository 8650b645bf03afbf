/- Joined. -/
import Derived.Test.YtpgpjoghfpfhlaaGr
import Derived.Test.YtpgpjoghfpfhlaaRn
import Derived.Test.YtpgpjoghfpfhlaaGn
import Derived.Test.YtpgpjoghfpfhlaaCq
import Derived.Deep.RegionHeld3
set_option linter.unusedSimpArgs false
set_option linter.unusedVariables false
namespace Go.Proofs.Ytpgpjoghfpfhlaa
open Go.RowKit

theorem joined1_any (p n c : Nat) (a : Option Addr) (z : Int) (w : World) (hp : w.cell? ⟨p, 0, none⟩ = some (.slice a n c)) (hz : 0 ≤ z ∧ z ≤ 1000000) (hn : n ≤ 1000000) :
    Calls Try.prog 34 #[.int .i64 z, .pointer (some ⟨p, 0, none⟩)] w fun e w' => e = .returned (.int .i64 ((n : Int) + z)) ∧ w' = w := by
  obtain ⟨h0, h1⟩ := hz
  go_enter Try.func34, Try.ntmps34
  go_wp2
  go_ret
  exact ⟨rfl, rfl⟩
/-- The faces of a second mesh behind those of a first one. -/
def jF (nv nf : Nat) (F G : Nat → V3) : Nat → V3 := app3 nf F (fun i => rnf (fun z => (nv : Int) + z) (G i))
def jV (nv : Nat) (V W : Nat → V3) : Nat → V3 := app3 nv V W
def JB (a : Option Addr) (n c : Nat) (b : Option Addr) (m d : Nat) : Obj := .cells #[.slice a n c, .slice b m d] 29

set_option maxRecDepth 100000 in
set_option maxHeartbeats 8000000 in
theorem joined_err (av af bv bf : Option Addr) (nv cv nf cf mv dv mf df : Nat) (V F W G : Nat → V3) (w : World) (ra : Row3 w av nv V) (rb : Row3 w af nf F) (rc : Row3 w bv mv W) (rd : Row3 w bf mf G) (h1 : nv ≤ 1000000) (h2 : nf ≤ 1000000) (h3 : mv ≤ 1000000) (h4 : mf ≤ 1000000)
    (hf : fault nv V nf F ≠ 0 ∨ fault mv W mf G ≠ 0) (kv kf : Nat) (X Y : Nat → V3) :
    Calls Try.prog 8 #[.agg #[.slice av nv cv, .slice af nf cf], .agg #[.slice bv mv dv, .slice bf mf df]] w (MeshR w (orE (fault nv V nf F) (fault mv W mf G)) kv X kf Y) := by
  have RA := Lib.hid ra
  have RB := Lib.hid rb
  have RC := Lib.hid rc
  have RD := Lib.hid rd
  clear ra rb rc rd
  go_enter Try.func8, Try.ntmps8
  go_wp2_with (fail)
  refine (checkMesh_any av af nv cv nf cf V F _ (RA.out.kept (by repeat (first | exact Below.refl _ _ | assumption | refine Below.drew ?_ | refine bdrewN ?_ _ | refine Below.setCell ?_ (by first | omega | (simp <;> omega)) _ | refine Below.alloc ?_ (by first | omega | (simp <;> omega)) _))) (RB.out.kept (by repeat (first | exact Below.refl _ _ | assumption | refine Below.drew ?_ | refine bdrewN ?_ _ | refine Below.setCell ?_ (by first | omega | (simp <;> omega)) _ | refine Below.alloc ?_ (by first | omega | (simp <;> omega)) _))) h1 h2).mono ?_
  rintro e w1 ⟨rfl, hb1⟩
  have z1 : w.heap.size + 1 + 1 + 1 ≤ w1.heap.size := by have := hb1.size; simpa using this
  have B1 : Below w.heap.size w w1 := Below.trans (by repeat (first | exact Below.refl _ _ | assumption | refine Below.drew ?_ | refine bdrewN ?_ _ | refine Below.setCell ?_ (by first | omega | (simp <;> omega)) _ | refine Below.alloc ?_ (by first | omega | (simp <;> omega)) _)) (hb1.mono (by simp <;> omega))
  have l0 : w.heap.size < w1.heap.size := by omega
  have l1 : w.heap.size + 1 < w1.heap.size := by omega
  have l2 : w.heap.size + 1 + 1 < w1.heap.size := by omega
  have b0 : w1.cell? ⟨w.heap.size + 1, 0, none⟩ = some (.slice bv mv dv) := by rw [hb1.cell (by simp <;> omega)]; simp [go_sem]
  have b1 : w1.cell? ⟨w.heap.size + 1, 1, none⟩ = some (.slice bf mf df) := by rw [hb1.cell (by simp <;> omega)]; simp [go_sem]
  have r0 : w1.cell? ⟨w.heap.size + 1 + 1, 0, none⟩ = some (.slice none 0 0) := by rw [hb1.cell (by simp <;> omega)]; simp [go_sem]
  have r1 : w1.cell? ⟨w.heap.size + 1 + 1, 1, none⟩ = some (.slice none 0 0) := by rw [hb1.cell (by simp <;> omega)]; simp [go_sem]
  have f0 : w1.frozen? ⟨w.heap.size + 1 + 1, 0, none⟩ = false := by rw [hb1.frozen (by simp <;> omega)]; simp [go_sem]
  have f1 : w1.frozen? ⟨w.heap.size + 1 + 1, 1, none⟩ = false := by rw [hb1.frozen (by simp <;> omega)]; simp [go_sem]
  have HB := Lib.hid B1
  clear hb1 B1
  by_cases h0 : fault nv V nf F = 0
  · have hg : fault mv W mf G ≠ 0 := by
      rcases hf with h | h
      · exact absurd h0 h
      · exact h
    have e0 : (fault nv V nf F != 0) = false := by simp [h0]
    have HE := Lib.hid (show orE (fault nv V nf F) (fault mv W mf G) = fault mv W mf G by simp [orE, h0])
    clear h0 hf
    go_wp2_with (fail)
    refine (checkMesh_any bv bf mv dv mf df W G _ (RC.out.kept HB.out) (RD.out.kept HB.out) h3 h4).mono ?_
    rintro e w2 ⟨rfl, hb2⟩
    have q0 := cellk hb2 l2 r0
    have q1 := cellk hb2 l2 r1
    have g0 := (hb2.frozen (p := ⟨w.heap.size + 1 + 1, 0, none⟩) l2).trans f0
    have g1 := (hb2.frozen (p := ⟨w.heap.size + 1 + 1, 1, none⟩) l2).trans f1
    have HB2 := Lib.hid (HB.out.trans (hb2.mono HB.out.size))
    have l3 : w.heap.size + 1 + 1 < w2.heap.size := Nat.lt_of_lt_of_le l2 hb2.size
    have e1 : (fault mv W mf G != 0) = true := by simpa using hg
    have R := HB2.out
    clear hb2 r0 r1 f0 f1 b0 b1
    go_wp2
    exact bodyPost_ret (v := .tuple #[.agg #[.slice none 0 0, .slice none 0 0], .int .i64 (fault mv W mf G)]) (by simp [results, Try.results8, go_sem, q0, q1, l3]) rfl (meshR_no HE.out hg (by repeat (first | exact Below.refl _ _ | assumption | refine Below.drew ?_ | refine bdrewN ?_ _ | refine Below.setCell ?_ (by first | omega | (simp <;> omega)) _ | refine Below.alloc ?_ (by first | omega | (simp <;> omega)) _)))
  · have e0 : (fault nv V nf F != 0) = true := by simpa using h0
    have HE := Lib.hid (show orE (fault nv V nf F) (fault mv W mf G) = fault nv V nf F by simp [orE, h0])
    have R := HB.out
    go_wp2
    exact bodyPost_ret (v := .tuple #[.agg #[.slice none 0 0, .slice none 0 0], .int .i64 (fault nv V nf F)]) (by simp [results, Try.results8, go_sem, r0, r1, l2]) rfl (meshR_no HE.out h0 (by repeat (first | exact Below.refl _ _ | assumption | refine Below.drew ?_ | refine bdrewN ?_ _ | refine Below.setCell ?_ (by first | omega | (simp <;> omega)) _ | refine Below.alloc ?_ (by first | omega | (simp <;> omega)) _)))

set_option maxRecDepth 100000 in
set_option maxHeartbeats 16000000 in
theorem joined_ok (av af bv bf : Option Addr) (nv cv nf cf mv dv mf df : Nat) (V F W G : Nat → V3) (w : World) (ra : Row3 w av nv V) (rb : Row3 w af nf F) (rc : Row3 w bv mv W) (rd : Row3 w bf mf G) (h1 : nv ≤ 100000) (h2 : nf ≤ 100000) (h3 : mv ≤ 100000) (h4 : mf ≤ 100000)
    (hfa : fault nv V nf F = 0) (hfb : fault mv W mf G = 0) (E : Int) (hE : fault (nv + mv) (jV nv V W) (nf + mf) (jF nv nf F G) = E) :
    Calls Try.prog 8 #[.agg #[.slice av nv cv, .slice af nf cf], .agg #[.slice bv mv dv, .slice bf mf df]] w (MeshR w E (nv + mv) (jV nv V W) (nf + mf) (jF nv nf F G)) := by
  have RA := Lib.hid ra
  have RB := Lib.hid rb
  have RC := Lib.hid rc
  have RD := Lib.hid rd
  have HE := Lib.hid hE
  have pa := fault_pos hfa
  have pb := fault_pos hfb
  have qa : 0 < nf := by have := (fault_ok hfa).1; omega
  have qb : 0 < mf := by have := (fault_ok hfb).1; omega
  have HI : Hid (∀ k, k < mf → ((0 ≤ (G k).x ∧ (G k).x ≤ 1000000) ∧ (0 ≤ (G k).y ∧ (G k).y ≤ 1000000) ∧ (0 ≤ (G k).z ∧ (G k).z ≤ 1000000))) := Lib.hid (fun k hk => by
    obtain ⟨_, _, _, h5⟩ := fault_ok hfb
    have h6 := first_none h5 k hk
    unfold fErr at h6
    split at h6
    · rename_i h7
      simp [fIx, inB] at h7
      omega
    · omega)
  have e0 : (fault nv V nf F != 0) = false := by simp [hfa]
  have e1 : (fault mv W mf G != 0) = false := by simp [hfb]
  clear ra rb rc rd hE hfa hfb
  go_enter Try.func8, Try.ntmps8
  go_wp2_with (fail)
  refine (checkMesh_any av af nv cv nf cf V F _ (RA.out.kept (by repeat (first | exact Below.refl _ _ | assumption | refine Below.drew ?_ | refine bdrewN ?_ _ | refine Below.setCell ?_ (by first | omega | (simp <;> omega)) _ | refine Below.alloc ?_ (by first | omega | (simp <;> omega)) _))) (RB.out.kept (by repeat (first | exact Below.refl _ _ | assumption | refine Below.drew ?_ | refine bdrewN ?_ _ | refine Below.setCell ?_ (by first | omega | (simp <;> omega)) _ | refine Below.alloc ?_ (by first | omega | (simp <;> omega)) _))) (by omega) (by omega)).mono ?_
  rintro e w1 ⟨rfl, hb1⟩
  have z1 : w.heap.size + 1 + 1 + 1 ≤ w1.heap.size := by have := hb1.size; simpa using this
  have B1 : Below w.heap.size w w1 := Below.trans (by repeat (first | exact Below.refl _ _ | assumption | refine Below.drew ?_ | refine bdrewN ?_ _ | refine Below.setCell ?_ (by first | omega | (simp <;> omega)) _ | refine Below.alloc ?_ (by first | omega | (simp <;> omega)) _)) (hb1.mono (by simp <;> omega))
  have l0 : w.heap.size < w1.heap.size := by omega
  have l1 : w.heap.size + 1 < w1.heap.size := by omega
  have l2 : w.heap.size + 1 + 1 < w1.heap.size := by omega
  have hA : w1.heap[w.heap.size]? = some (JB av nv cv af nf cf) := heap_keep hb1 (by repeat (first | (refine heap_new ?_; first | rfl | (simp; done)) | rw [Below.heap_setCell _ _ _ _ (by simp <;> omega)] | rw [Below.heap_alloc _ _ _ (by simp <;> omega)]))
  have hB : w1.heap[w.heap.size + 1]? = some (JB bv mv dv bf mf df) := heap_keep hb1 (by repeat (first | (refine heap_new ?_; first | rfl | (simp; done)) | rw [Below.heap_setCell _ _ _ _ (by simp <;> omega)] | rw [Below.heap_alloc _ _ _ (by simp <;> omega)]))
  have hR : w1.heap[w.heap.size + 1 + 1]? = some (JB none 0 0 none 0 0) := heap_keep hb1 (by repeat (first | (refine heap_new ?_; first | rfl | (simp; done)) | rw [Below.heap_setCell _ _ _ _ (by simp <;> omega)] | rw [Below.heap_alloc _ _ _ (by simp <;> omega)]))
  have b0 : w1.cell? ⟨w.heap.size + 1, 0, none⟩ = some (.slice bv mv dv) := by simp [World.cell?, hB, JB]
  have b1 : w1.cell? ⟨w.heap.size + 1, 1, none⟩ = some (.slice bf mf df) := by simp [World.cell?, hB, JB]
  have HA := Lib.hid hA
  have HBx := Lib.hid hB
  have HR := Lib.hid hR
  have HB := Lib.hid B1
  clear hb1 B1 hA hB hR
  go_wp2_with (fail)
  refine (checkMesh_any bv bf mv dv mf df W G _ (RC.out.kept HB.out) (RD.out.kept HB.out) (by omega) (by omega)).mono ?_
  rintro e w2 ⟨rfl, hb2⟩
  have HA2 := Lib.hid (heap_keep hb2 HA.out)
  have HBx2 := Lib.hid (heap_keep hb2 HBx.out)
  have HR2 := Lib.hid (heap_keep hb2 HR.out)
  have HB2 := Lib.hid (HB.out.trans (hb2.mono HB.out.size))
  have m0 := Nat.lt_of_lt_of_le l0 hb2.size
  have m1 := Nat.lt_of_lt_of_le l1 hb2.size
  have m2 := Nat.lt_of_lt_of_le l2 hb2.size
  replace b1 := cellk hb2 l1 b1
  clear hb2 HA HBx HR HB b0
  go_wp2_with (fail)
  refine (renum_J w.heap.size (fun z => (nv : Int) + z) bf mf df G w2 (RD.out.kept HB2.out) (by omega) (fun X hb t ht u hu => joined1_any w.heap.size nv cv av u X (cellk hb m0 (cell_of HA2.out rfl)) (by
    obtain ⟨p1, p2, p3⟩ := HI.out t ht
    rcases hu with rfl | rfl | rfl <;> assumption) (by omega))).mono ?_
  rintro e w3 ⟨a3, c3, rfl, ho3, hb3⟩
  have HO3 := Lib.hid ho3
  have HB3 := Lib.hid (HB2.out.trans (hb3.mono HB2.out.size))
  have HR3 := Lib.hid (heap_keep hb3 HR2.out)
  have n0 := Nat.lt_of_lt_of_le m0 hb3.size
  have n1 := Nat.lt_of_lt_of_le m1 hb3.size
  have n2 := Nat.lt_of_lt_of_le m2 hb3.size
  have a0 : w3.cell? ⟨w.heap.size, 0, none⟩ = some (.slice av nv cv) := cell_of (heap_keep hb3 HA2.out) rfl
  have a1 : w3.cell? ⟨w.heap.size, 1, none⟩ = some (.slice af nf cf) := cell_of (heap_keep hb3 HA2.out) rfl
  have b0 : w3.cell? ⟨w.heap.size + 1, 0, none⟩ = some (.slice bv mv dv) := cell_of (heap_keep hb3 HBx2.out) rfl
  clear ho3 hb3 HA2 HBx2 HR2 b1
  go_wp2_with (fail)
  have RA3 := Lib.hid (RA.out.kept HB3.out)
  have RB3 := Lib.hid (RB.out.kept HB3.out)
  have RC3 := Lib.hid (RC.out.kept HB3.out)
  have RD3 := Lib.hid (own_row3 HO3.out)
  clear RA RB RC RD
  go_region_held3 (fun w' => w'.cell? ⟨w.heap.size, 0, none⟩ = some (.slice av nv cv) ∧ w'.cell? ⟨w.heap.size, 1, none⟩ = some (.slice af nf cf) ∧ w'.cell? ⟨w.heap.size + 1, 0, none⟩ = some (.slice bv mv dv))
    (first
      | exact ⟨a0, a1, b0⟩
      | assumption
      | exact ⟨cellk B7 n0 a0, cellk B7 n0 a1, cellk B7 n1 b0⟩
      | exact ⟨(sc_other (ne_block (by omega))).trans ((sc_other (ne_block (by omega))).trans (cellk B7 n0 a0)), (sc_other (ne_block (by omega))).trans ((sc_other (ne_block (by omega))).trans (cellk B7 n0 a1)), (sc_other (ne_block (by omega))).trans ((sc_other (ne_block (by omega))).trans (cellk B7 n1 b0))⟩
      | exact ⟨cellk Bv n0 a0, cellk Bv n0 a1, cellk Bv n1 b0⟩
      | exact ⟨cellk Bf n0 a0, cellk Bf n0 a1, cellk Bf n1 b0⟩
      | go_keep)
    (first
      | (go_at_call 36; refine (concatV _ av bv nv mv cv dv V W _ (by first | (simp [go_sem]; done) | (rw [hbf.cell (by simp <;> omega)]; simp [go_sem]; done)) (by first | (simp [go_sem]; done) | (rw [hbf.cell (by simp <;> omega)]; simp [go_sem]; done)) (by first | omega | (simp <;> omega)) (RA3.out.kept (by repeat (first | exact Below.refl _ _ | assumption | refine Below.drew ?_ | refine bdrewN ?_ _ | refine Below.setCell ?_ (by first | omega | (simp <;> omega)) _ | refine Below.alloc ?_ (by first | omega | (simp <;> omega)) _))) (RC3.out.kept (by repeat (first | exact Below.refl _ _ | assumption | refine Below.drew ?_ | refine bdrewN ?_ _ | refine Below.setCell ?_ (by first | omega | (simp <;> omega)) _ | refine Below.alloc ?_ (by first | omega | (simp <;> omega)) _))) (by omega) (by omega) (by omega) (by omega)).mono ?_; rintro e wv ⟨vv, dv', rfl, hov, hbv⟩; have Bv : Below w3.heap.size w3 wv := Below.trans (by repeat (first | exact Below.refl _ _ | assumption | refine Below.drew ?_ | refine bdrewN ?_ _ | refine Below.setCell ?_ (by first | omega | (simp <;> omega)) _ | refine Below.alloc ?_ (by first | omega | (simp <;> omega)) _)) (hbv.mono (by first | omega | (simp <;> omega))); have sv := Bv.size; have tv := hbv.size; (try simp at tv); have Ov := Lib.hid (own_base hov (base' := w3.heap.size) (by first | omega | (simp <;> omega))); clear hov)
      | (go_at_call 37; refine (concatF _ af a3 nf mf cf c3 F (fun i => rnf (fun z => (nv : Int) + z) (G i)) _ (by first | (simp [go_sem]; done) | (rw [hbv.cell (by simp <;> omega)]; simp [go_sem]; done)) (by first | (simp [go_sem]; done) | (rw [hbv.cell (by simp <;> omega)]; simp [go_sem]; done)) (by first | omega | (simp <;> omega)) (RB3.out.kept (by repeat (first | exact Below.refl _ _ | assumption | refine Below.drew ?_ | refine bdrewN ?_ _ | refine Below.setCell ?_ (by first | omega | (simp <;> omega)) _ | refine Below.alloc ?_ (by first | omega | (simp <;> omega)) _))) (RD3.out.kept (by repeat (first | exact Below.refl _ _ | assumption | refine Below.drew ?_ | refine bdrewN ?_ _ | refine Below.setCell ?_ (by first | omega | (simp <;> omega)) _ | refine Below.alloc ?_ (by first | omega | (simp <;> omega)) _))) (by omega) (by omega) (by omega) (by omega)).mono ?_; rintro e wf ⟨vf, df', rfl, hof, hbf⟩; have Bf : Below w3.heap.size w3 wf := Below.trans (by repeat (first | exact Below.refl _ _ | assumption | refine Below.drew ?_ | refine bdrewN ?_ _ | refine Below.setCell ?_ (by first | omega | (simp <;> omega)) _ | refine Below.alloc ?_ (by first | omega | (simp <;> omega)) _)) (hbf.mono (by first | omega | (simp <;> omega))); have sf := Bf.size; have tf := hbf.size; (try simp at tf); have Of := Lib.hid (own_base hof (base' := w3.heap.size) (by first | omega | (simp <;> omega))); clear hof)
      | (go_at_call 35; refine (checked_any vv vf (nv + mv) dv' (nf + mf) df' (jV nv V W) (jF nv nf F G) _ (by first | exact own_row3 Ov.out | exact own_row3 (ownsRow_below Ov.out (Below.trans (by repeat (first | exact Below.refl _ _ | assumption | refine Below.drew ?_ | refine bdrewN ?_ _ | refine Below.setCell ?_ (by first | omega | (simp <;> omega)) _ | refine Below.alloc ?_ (by first | omega | (simp <;> omega)) _)) (hbf.mono (by first | omega | (simp <;> omega)))))) (by first | exact own_row3 Of.out | exact own_row3 (ownsRow_below Of.out (Below.trans (by repeat (first | exact Below.refl _ _ | assumption | refine Below.drew ?_ | refine bdrewN ?_ _ | refine Below.setCell ?_ (by first | omega | (simp <;> omega)) _ | refine Below.alloc ?_ (by first | omega | (simp <;> omega)) _)) (hbv.mono (by first | omega | (simp <;> omega)))))) (by omega) (by omega)).mono ?_; rintro e w7 ⟨rfl, hb7⟩; rw [HE.out]; have B7 : Below w3.heap.size w3 w7 := Below.trans (by first | exact Bv | exact Bf) (hb7.mono (by first | exact sv | exact sf)); have QV := Lib.hid (show w7.ownsRow w3.heap.size 47 3 (.slice vv (nv + mv) dv') (nv + mv) (cells3 (jV nv V W) (nv + mv)) from (by first | exact ownsRow_below Ov.out hb7 | exact ownsRow_below (ownsRow_below Ov.out (Below.trans (by repeat (first | exact Below.refl _ _ | assumption | refine Below.drew ?_ | refine bdrewN ?_ _ | refine Below.setCell ?_ (by first | omega | (simp <;> omega)) _ | refine Below.alloc ?_ (by first | omega | (simp <;> omega)) _)) (hbf.mono (by first | omega | (simp <;> omega))))) hb7)); have QF := Lib.hid (show w7.ownsRow w3.heap.size 52 3 (.slice vf (nf + mf) df') (nf + mf) (cells3 (jF nv nf F G) (nf + mf)) from (by first | exact ownsRow_below Of.out hb7 | exact ownsRow_below (ownsRow_below Of.out (Below.trans (by repeat (first | exact Below.refl _ _ | assumption | refine Below.drew ?_ | refine bdrewN ?_ _ | refine Below.setCell ?_ (by first | omega | (simp <;> omega)) _ | refine Below.alloc ?_ (by first | omega | (simp <;> omega)) _)) (hbv.mono (by first | omega | (simp <;> omega))))) hb7)); have hr7 : w7.heap[w.heap.size + 1 + 1]? = some (.cells #[.slice none 0 0, .slice none 0 0] 29 (0, 0)) := (B7.block _ n2).trans HR3.out; have hlr := lt_of_heap hr7; have rc0 : w7.cell? ⟨(w.heap.size + 1 + 1), 0, none⟩ = some (.slice none 0 0) := (by simp [World.cell?, hr7]); have rf0 : w7.frozen? ⟨(w.heap.size + 1 + 1), 0, none⟩ = false := (by simp [World.frozen?, hr7]); have rc1 : w7.cell? ⟨(w.heap.size + 1 + 1), 1, none⟩ = some (.slice none 0 0) := (by simp [World.cell?, hr7]); have rf1 : w7.frozen? ⟨(w.heap.size + 1 + 1), 1, none⟩ = false := (by simp [World.frozen?, hr7]); have HR7 := Lib.hid hr7; clear hr7))
  all_goals
    have hzz : w.heap.size ≤ w3.heap.size := HB3.out.size
    have R := Lib.hid ((HB3.out.trans (B7.mono hzz)).setCell (p := ⟨w.heap.size + 1 + 1, 0, none⟩) (by show _ ≤ w.heap.size + 1 + 1; omega) (.slice (za E vv) (zr E (nv + mv)) (zr E dv')) |>.setCell (p := ⟨w.heap.size + 1 + 1, 1, none⟩) (by show _ ≤ w.heap.size + 1 + 1; omega) (.slice (za E vf) (zr E (nf + mf)) (zr E df')))
    have P1 := Lib.hid (own_set (o := 1) (u := .slice (za E vf) (zr E (nf + mf)) (zr E df')) (own_set (o := 0) (u := .slice (za E vv) (zr E (nv + mv)) (zr E dv')) QV.out HR7.out (by decide)) (set2_0 HR7.out) (by decide))
    have P2 := Lib.hid (own_set (o := 1) (u := .slice (za E vf) (zr E (nf + mf)) (zr E df')) (own_set (o := 0) (u := .slice (za E vv) (zr E (nv + mv)) (zr E dv')) QF.out HR7.out (by decide)) (set2_0 HR7.out) (by decide))
    clear B7
    go_wp2
    exact bodyPost_ret (v := .tuple #[.agg #[.slice (za E vv) (zr E (nv + mv)) (zr E dv'), .slice (za E vf) (zr E (nf + mf)) (zr E df')], .int .i64 E]) (by simp [results, Try.results8, go_sem, rc0, rc1]) rfl (meshR_of P1.out P2.out hzz hzz R.out)
end Go.Proofs.Ytpgpjoghfpfhlaa

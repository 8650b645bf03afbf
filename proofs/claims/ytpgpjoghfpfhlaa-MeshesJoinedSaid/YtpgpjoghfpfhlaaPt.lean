/- Part. -/
import Derived.Test.YtpgpjoghfpfhlaaCq
import Derived.Test.YtpgpjoghfpfhlaaGn
import Derived.Test.YtpgpjoghfpfhlaaFl
set_option linter.unusedSimpArgs false
set_option linter.unusedVariables false
namespace Go.Proofs.Ytpgpjoghfpfhlaa
open Go.RowKit

theorem inb_of {nv nf : Nat} {V F : Nat → V3} (h : fault nv V nf F = 0) : Inb nv nf F := by
  intro k hk
  obtain ⟨_, _, _, h4⟩ := fault_ok h
  have h1 := first_none h4 k hk
  unfold fErr at h1
  split at h1
  · rename_i h2
    simp [fIx, inB] at h2
    omega
  · omega
/-- A list of numbers reads as the first n of L. -/
def RowI (w : World) (a : Option Addr) (n : Nat) (L : Nat → Int) : Prop := n = 0 ∨ ∃ b off, a = some ⟨b, off, none⟩ ∧ b < w.heap.size ∧ ∀ i, i < n → w.cell? ⟨b, off + i, none⟩ = some (.int .i64 (L i))
theorem RowI.kept {w w' : World} {a : Option Addr} {n : Nat} {L : Nat → Int} (h : RowI w a n L) (hb : Below w.heap.size w w') : RowI w' a n L := by
  rcases h with h | ⟨b, off, h1, h2, h3⟩
  · exact .inl h
  · exact .inr ⟨b, off, h1, Nat.lt_of_lt_of_le h2 hb.size, fun i hi => cellk hb h2 (h3 i hi)⟩
theorem own_rowI {w : World} {base n c : Nat} {a : Option Addr} {l : List Int} (h : w.ownsRow base 3 1 (.slice a n c) n (ivs l)) : RowI w a n (fun i => l.getD i 0) := by
  by_cases hn : n = 0
  · exact .inl hn
  obtain ⟨g, c', hv, _, hl⟩ := h.form (by omega)
  cases hv
  have hll := own_ints h
  refine .inr ⟨g, 0, rfl, hl, fun i hi => ?_⟩
  rw [Nat.zero_add, own_int h i (by omega)]
  simp [List.getD, hll, hi]
/-- A number is among the first k. -/
def tkI (L : Nat → Int) (k : Nat) (z : Int) : Bool := (List.range k).any fun j => L j == z
theorem tkI_succ (L : Nat → Int) (k : Nat) (z : Int) : tkI L (k + 1) z = (tkI L k z || L k == z) := by simp [tkI, List.range_succ]
def pErr (nf : Nat) (L : Nat → Int) (i : Nat) : Int := if 0 ≤ L i ∧ L i < nf then (if tkI L i (L i) = true then 6 else 0) else 8
/-- The faces that are chosen. -/
def chF (F : Nat → V3) (L : Nat → Int) (i : Nat) : V3 := F (L i).toNat
theorem pErr_none {nf n : Nat} {L : Nat → Int} (h : first (pErr nf L) n = 0) : ∀ i, i < n → 0 ≤ L i ∧ L i < nf := fun i hi => by
  have := first_none h i hi
  unfold pErr at this
  split at this
  · assumption
  · omega
theorem chF_inb {nv nf n : Nat} {F : Nat → V3} {L : Nat → Int} (h : Inb nv nf F) (hL : ∀ i, i < n → 0 ≤ L i ∧ L i < nf) : Inb nv n (chF F L) := fun k hk => h _ (by have := hL k hk; omega)

set_option maxRecDepth 100000 in
set_option maxHeartbeats 4000000 in
theorem part_f (av af : Option Addr) (nv cv nf cf : Nat) (V F : Nat → V3) (al : Option Addr) (n cl : Nat) (w : World) (hv : Row3 w av nv V) (hf : Row3 w af nf F) (hnv : nv ≤ 1000000) (hnf : nf ≤ 1000000) (h0 : fault nv V nf F ≠ 0) (nv' nf' : Nat) (G K : Nat → V3) :
    Calls Try.prog 9 #[.agg #[.slice av nv cv, .slice af nf cf], .slice al n cl] w (MeshR w (fault nv V nf F) nv' G nf' K) := by
  have HV := Lib.hid hv
  have HF := Lib.hid hf
  clear hv hf
  go_enter Try.func9, Try.ntmps9
  go_wp2_with (fail)
  refine (checkMesh_any av af nv cv nf cf V F _ (HV.out.kept (by repeat (first | exact Below.refl _ _ | assumption | refine Below.drew ?_ | refine bdrewN ?_ _ | refine Below.setCell ?_ (by first | omega | (simp <;> omega)) _ | refine Below.alloc ?_ (by first | omega | (simp <;> omega)) _))) (HF.out.kept (by repeat (first | exact Below.refl _ _ | assumption | refine Below.drew ?_ | refine bdrewN ?_ _ | refine Below.setCell ?_ (by first | omega | (simp <;> omega)) _ | refine Below.alloc ?_ (by first | omega | (simp <;> omega)) _))) hnv hnf).mono ?_
  rintro e w1 ⟨rfl, hb1⟩
  have z1 : w.heap.size + 1 + 1 ≤ w1.heap.size := by have := hb1.size; simpa using this
  have B1 : Below w.heap.size w w1 := Below.trans (by repeat (first | exact Below.refl _ _ | assumption | refine Below.drew ?_ | refine bdrewN ?_ _ | refine Below.setCell ?_ (by first | omega | (simp <;> omega)) _ | refine Below.alloc ?_ (by first | omega | (simp <;> omega)) _)) (hb1.mono (by simp <;> omega))
  have lt0 : w.heap.size < w1.heap.size := by omega
  have hb_0 : w1.heap[w.heap.size]? = some (.cells #[.slice av nv cv, .slice af nf cf] 29 (0, 0)) := heap_keep hb1 (by repeat (first | (refine heap_new ?_; first | rfl | (simp; done)) | rw [Below.heap_setCell _ _ _ _ (by simp <;> omega)] | rw [Below.heap_alloc _ _ _ (by simp <;> omega)]))
  have b0c0 : w1.cell? ⟨w.heap.size, 0, none⟩ = some (.slice av nv cv) := by simp [World.cell?, hb_0]
  have b0f0 : w1.frozen? ⟨w.heap.size, 0, none⟩ = false := by simp [World.frozen?, hb_0]
  have b0c1 : w1.cell? ⟨w.heap.size, 1, none⟩ = some (.slice af nf cf) := by simp [World.cell?, hb_0]
  have b0f1 : w1.frozen? ⟨w.heap.size, 1, none⟩ = false := by simp [World.frozen?, hb_0]
  have BX0 := Lib.hid hb_0
  clear hb_0
  have lt1 : w.heap.size + 1 < w1.heap.size := by omega
  have hb_1 : w1.heap[w.heap.size + 1]? = some (.cells #[.slice none 0 0, .slice none 0 0] 29 (0, 0)) := heap_keep hb1 (by repeat (first | (refine heap_new ?_; first | rfl | (simp; done)) | rw [Below.heap_setCell _ _ _ _ (by simp <;> omega)] | rw [Below.heap_alloc _ _ _ (by simp <;> omega)]))
  have b1c0 : w1.cell? ⟨w.heap.size + 1, 0, none⟩ = some (.slice none 0 0) := by simp [World.cell?, hb_1]
  have b1f0 : w1.frozen? ⟨w.heap.size + 1, 0, none⟩ = false := by simp [World.frozen?, hb_1]
  have b1c1 : w1.cell? ⟨w.heap.size + 1, 1, none⟩ = some (.slice none 0 0) := by simp [World.cell?, hb_1]
  have b1f1 : w1.frozen? ⟨w.heap.size + 1, 1, none⟩ = false := by simp [World.frozen?, hb_1]
  have BX1 := Lib.hid hb_1
  clear hb_1
  have HB := Lib.hid B1
  clear hb1 B1
  have e0 : (fault nv V nf F != 0) = true := by simpa using h0
  go_wp2
  exact bodyPost_ret (v := .tuple #[.agg #[.slice none 0 0, .slice none 0 0], .int .i64 (fault nv V nf F)]) (by simp [results, Try.results9, go_sem, b1c0, b1c1, lt1]) rfl (meshR_no rfl (by first | assumption | decide) (by repeat (first | exact Below.refl _ _ | assumption | refine Below.drew ?_ | refine bdrewN ?_ _ | refine Below.setCell ?_ (by first | omega | (simp <;> omega)) _ | refine Below.alloc ?_ (by first | omega | (simp <;> omega)) _)))
set_option maxRecDepth 100000 in
set_option maxHeartbeats 4000000 in
theorem part_0 (av af : Option Addr) (nv cv nf cf : Nat) (V F : Nat → V3) (al : Option Addr) (cl : Nat) (w : World) (hv : Row3 w av nv V) (hf : Row3 w af nf F) (hnv : nv ≤ 1000000) (hnf : nf ≤ 1000000) (h0 : fault nv V nf F = 0) (nv' nf' : Nat) (G K : Nat → V3) :
    Calls Try.prog 9 #[.agg #[.slice av nv cv, .slice af nf cf], .slice al 0 cl] w (MeshR w 8 nv' G nf' K) := by
  have HV := Lib.hid hv
  have HF := Lib.hid hf
  clear hv hf
  go_enter Try.func9, Try.ntmps9
  go_wp2_with (fail)
  refine (checkMesh_any av af nv cv nf cf V F _ (HV.out.kept (by repeat (first | exact Below.refl _ _ | assumption | refine Below.drew ?_ | refine bdrewN ?_ _ | refine Below.setCell ?_ (by first | omega | (simp <;> omega)) _ | refine Below.alloc ?_ (by first | omega | (simp <;> omega)) _))) (HF.out.kept (by repeat (first | exact Below.refl _ _ | assumption | refine Below.drew ?_ | refine bdrewN ?_ _ | refine Below.setCell ?_ (by first | omega | (simp <;> omega)) _ | refine Below.alloc ?_ (by first | omega | (simp <;> omega)) _))) hnv hnf).mono ?_
  rintro e w1 ⟨rfl, hb1⟩
  have z1 : w.heap.size + 1 + 1 ≤ w1.heap.size := by have := hb1.size; simpa using this
  have B1 : Below w.heap.size w w1 := Below.trans (by repeat (first | exact Below.refl _ _ | assumption | refine Below.drew ?_ | refine bdrewN ?_ _ | refine Below.setCell ?_ (by first | omega | (simp <;> omega)) _ | refine Below.alloc ?_ (by first | omega | (simp <;> omega)) _)) (hb1.mono (by simp <;> omega))
  have lt0 : w.heap.size < w1.heap.size := by omega
  have hb_0 : w1.heap[w.heap.size]? = some (.cells #[.slice av nv cv, .slice af nf cf] 29 (0, 0)) := heap_keep hb1 (by repeat (first | (refine heap_new ?_; first | rfl | (simp; done)) | rw [Below.heap_setCell _ _ _ _ (by simp <;> omega)] | rw [Below.heap_alloc _ _ _ (by simp <;> omega)]))
  have b0c0 : w1.cell? ⟨w.heap.size, 0, none⟩ = some (.slice av nv cv) := by simp [World.cell?, hb_0]
  have b0f0 : w1.frozen? ⟨w.heap.size, 0, none⟩ = false := by simp [World.frozen?, hb_0]
  have b0c1 : w1.cell? ⟨w.heap.size, 1, none⟩ = some (.slice af nf cf) := by simp [World.cell?, hb_0]
  have b0f1 : w1.frozen? ⟨w.heap.size, 1, none⟩ = false := by simp [World.frozen?, hb_0]
  have BX0 := Lib.hid hb_0
  clear hb_0
  have lt1 : w.heap.size + 1 < w1.heap.size := by omega
  have hb_1 : w1.heap[w.heap.size + 1]? = some (.cells #[.slice none 0 0, .slice none 0 0] 29 (0, 0)) := heap_keep hb1 (by repeat (first | (refine heap_new ?_; first | rfl | (simp; done)) | rw [Below.heap_setCell _ _ _ _ (by simp <;> omega)] | rw [Below.heap_alloc _ _ _ (by simp <;> omega)]))
  have b1c0 : w1.cell? ⟨w.heap.size + 1, 0, none⟩ = some (.slice none 0 0) := by simp [World.cell?, hb_1]
  have b1f0 : w1.frozen? ⟨w.heap.size + 1, 0, none⟩ = false := by simp [World.frozen?, hb_1]
  have b1c1 : w1.cell? ⟨w.heap.size + 1, 1, none⟩ = some (.slice none 0 0) := by simp [World.cell?, hb_1]
  have b1f1 : w1.frozen? ⟨w.heap.size + 1, 1, none⟩ = false := by simp [World.frozen?, hb_1]
  have BX1 := Lib.hid hb_1
  clear hb_1
  have HB := Lib.hid B1
  clear hb1 B1
  have e0 : (fault nv V nf F != 0) = false := by simp [h0]
  clear h0
  go_wp2
  exact bodyPost_ret (v := .tuple #[.agg #[.slice none 0 0, .slice none 0 0], .int .i64 8]) (by simp [results, Try.results9, go_sem, b1c0, b1c1, lt1]) rfl (meshR_no rfl (by first | assumption | decide) (by repeat (first | exact Below.refl _ _ | assumption | refine Below.drew ?_ | refine bdrewN ?_ _ | refine Below.setCell ?_ (by first | omega | (simp <;> omega)) _ | refine Below.alloc ?_ (by first | omega | (simp <;> omega)) _)))
set_option maxRecDepth 100000 in
set_option maxHeartbeats 16000000 in
theorem part_go (av af : Option Addr) (nv cv nf cf : Nat) (V F : Nat → V3) (al : Option Addr) (n cl : Nat) (L : Nat → Int) (w : World) (hv : Row3 w av nv V) (hf : Row3 w af nf F) (hnv : nv ≤ 1000000) (hnf : nf ≤ 1000000) (hl : RowI w al n L) (hn : n ≤ 1000000) (hn0 : n ≠ 0) (h0 : fault nv V nf F = 0)
    (kn : Nat) (kv kf : Nat → V3) (E : Int) (hK : (cnt (useB (chF F L) n) nv) = kn) (hKV : (keepV (useB (chF F L) n) V nv) = kv) (hCF : (fun i => rnf (place (useB (chF F L) n)) (chF F L i)) = kf) (hE : orE (first (pErr nf L) n) (fault kn kv n kf) = E) :
    Calls Try.prog 9 #[.agg #[.slice av nv cv, .slice af nf cf], .slice al n cl] w (MeshR w E kn kv n kf) := by
  obtain ⟨i0, hi0, hz0, hz1, hz2⟩ := info_parts info_face
  have HL := Lib.hid hl
  have HK := Lib.hid hK
  have HKV := Lib.hid hKV
  have HCF := Lib.hid hCF
  have HEE := Lib.hid hE
  clear hl hK hKV hCF hE
  have hmkb := fun w => mk_bools nf hnf w
  have en : ((n : Int) == 0) = false := by simpa using hn0
  have HI := Lib.hid (inb_of h0)
  have HV := Lib.hid hv
  have HF := Lib.hid hf
  clear hv hf
  go_enter Try.func9, Try.ntmps9
  go_wp2_with (fail)
  refine (checkMesh_any av af nv cv nf cf V F _ (HV.out.kept (by repeat (first | exact Below.refl _ _ | assumption | refine Below.drew ?_ | refine bdrewN ?_ _ | refine Below.setCell ?_ (by first | omega | (simp <;> omega)) _ | refine Below.alloc ?_ (by first | omega | (simp <;> omega)) _))) (HF.out.kept (by repeat (first | exact Below.refl _ _ | assumption | refine Below.drew ?_ | refine bdrewN ?_ _ | refine Below.setCell ?_ (by first | omega | (simp <;> omega)) _ | refine Below.alloc ?_ (by first | omega | (simp <;> omega)) _))) hnv hnf).mono ?_
  rintro e w1 ⟨rfl, hb1⟩
  have z1 : w.heap.size + 1 + 1 ≤ w1.heap.size := by have := hb1.size; simpa using this
  have B1 : Below w.heap.size w w1 := Below.trans (by repeat (first | exact Below.refl _ _ | assumption | refine Below.drew ?_ | refine bdrewN ?_ _ | refine Below.setCell ?_ (by first | omega | (simp <;> omega)) _ | refine Below.alloc ?_ (by first | omega | (simp <;> omega)) _)) (hb1.mono (by simp <;> omega))
  have lt0 : w.heap.size < w1.heap.size := by omega
  have hb_0 : w1.heap[w.heap.size]? = some (.cells #[.slice av nv cv, .slice af nf cf] 29 (0, 0)) := heap_keep hb1 (by repeat (first | (refine heap_new ?_; first | rfl | (simp; done)) | rw [Below.heap_setCell _ _ _ _ (by simp <;> omega)] | rw [Below.heap_alloc _ _ _ (by simp <;> omega)]))
  have b0c0 : w1.cell? ⟨w.heap.size, 0, none⟩ = some (.slice av nv cv) := by simp [World.cell?, hb_0]
  have b0f0 : w1.frozen? ⟨w.heap.size, 0, none⟩ = false := by simp [World.frozen?, hb_0]
  have b0c1 : w1.cell? ⟨w.heap.size, 1, none⟩ = some (.slice af nf cf) := by simp [World.cell?, hb_0]
  have b0f1 : w1.frozen? ⟨w.heap.size, 1, none⟩ = false := by simp [World.frozen?, hb_0]
  have BX0 := Lib.hid hb_0
  clear hb_0
  have lt1 : w.heap.size + 1 < w1.heap.size := by omega
  have hb_1 : w1.heap[w.heap.size + 1]? = some (.cells #[.slice none 0 0, .slice none 0 0] 29 (0, 0)) := heap_keep hb1 (by repeat (first | (refine heap_new ?_; first | rfl | (simp; done)) | rw [Below.heap_setCell _ _ _ _ (by simp <;> omega)] | rw [Below.heap_alloc _ _ _ (by simp <;> omega)]))
  have b1c0 : w1.cell? ⟨w.heap.size + 1, 0, none⟩ = some (.slice none 0 0) := by simp [World.cell?, hb_1]
  have b1f0 : w1.frozen? ⟨w.heap.size + 1, 0, none⟩ = false := by simp [World.frozen?, hb_1]
  have b1c1 : w1.cell? ⟨w.heap.size + 1, 1, none⟩ = some (.slice none 0 0) := by simp [World.cell?, hb_1]
  have b1f1 : w1.frozen? ⟨w.heap.size + 1, 1, none⟩ = false := by simp [World.frozen?, hb_1]
  have BX1 := Lib.hid hb_1
  clear hb_1
  have HB := Lib.hid B1
  clear hb1 B1
  have e0 : (fault nv V nf F != 0) = false := by simp [h0]
  clear h0
  go_wp2_with (fail)
  have hT0 : (w1.alloc (.cells (bvs (fun _ => false) nf) 4)).heap[w1.heap.size]? = some (.cells (bvs (fun t => tkI L 0 (t : Int)) nf) 4 (0, 0)) := by
    rw [bvs_ext (V := fun _ => false) (fun t _ => by simp [tkI])]
    exact heap_alloc_new w1 _
  go_loopw [8, 27] (fun v i wr => ∃ k : Nat, k ≤ n ∧ i = .int .i64 k ∧ wr.ownsRow w1.heap.size 52 3 v k (cells3 (chF F L) k) ∧ wr.heap[w1.heap.size]? = some (.cells (bvs (fun t => tkI L k (t : Int)) nf) 4 (0, 0)) ∧ (∀ j, j < k → pErr nf L j = 0) ∧ Below w1.heap.size w1 wr) (fun _ i _ => n - (intOf i).toNat)
  case atStart => exact ⟨0, by omega, rfl, World.ownsRow_nil _ _ _ _, hT0, fun j hj => by omega, (by repeat (first | exact Below.refl _ _ | assumption | refine Below.drew ?_ | refine bdrewN ?_ _ | refine Below.setCell ?_ (by first | omega | (simp <;> omega)) _ | refine Below.alloc ?_ (by first | omega | (simp <;> omega)) _))⟩
  case round =>
    obtain ⟨k, hk, rfl, hown, ht, hno, hbel⟩ := hrel
    clear hT0 hmkb
    have hsz := hbel.size
    obtain ⟨ao, co, rfl⟩ := own_slice' hown
    have HO := Lib.hid hown
    have HT := Lib.hid ht
    have HN := Lib.hid hno
    have HBL := Lib.hid hbel
    have HBW := Lib.hid (HB.out.trans (hbel.mono HB.out.size))
    have hlt' := lt_of_heap ht
    have m0 := cellk hbel lt0 b0c0
    have m1 := cellk hbel lt0 b0c1
    have r0 := cellk hbel lt1 b1c0
    have r1 := cellk hbel lt1 b1c1
    have g0 := (hbel.frozen (p := ⟨w.heap.size + 1, 0, none⟩) lt1).trans b1f0
    have g1 := (hbel.frozen (p := ⟨w.heap.size + 1, 1, none⟩) lt1).trans b1f1
    have l0 : w.heap.size < wr.heap.size := by omega
    have l1 : w.heap.size + 1 < wr.heap.size := by omega
    clear b0c0 b0c1 b1c0 b1c1 b0f0 b0f1 b1f0 b1f1 hno hbel
    by_cases hlt : k < n
    · clear hown
      rcases HL.out with h | ⟨bl, ol, rfl, hbl, hL⟩
      · omega
      have ck := cellk HBW.out hbl (hL k hlt)
      have lbl : bl < wr.heap.size := by have := HBW.out.size; omega
      clear hL
      generalize hz : L k = z at *
      have HZ := Lib.hid hz
      clear hz
      by_cases hr : 0 ≤ z ∧ z < nf
      · obtain ⟨i, rfl⟩ := Int.eq_ofNat_of_zero_le hr.1
        have hi : i < nf := by omega
        rcases HF.out with h | ⟨bf, of, rfl, hbf, hF⟩
        · omega
        obtain ⟨f0, f1, f2⟩ := (hF.kept HBW.out hbf) i hi
        have lbf : bf < wr.heap.size := by have := HBW.out.size; omega
        have b1 : (i : Int) < (nf : Int) := by omega
        have b2 : (0 : Int) ≤ (i : Int) := by omega
        have ti := cell_of ht (bvs_get (fun t => tkI L k (t : Int)) nf i hi)
        have fi : wr.frozen? ⟨w1.heap.size, i, none⟩ = false := frozen_of ht
        clear hF ht hr
        rcases hTk : tkI L k (i : Int) with _ | _
        · rw [hTk] at ti
          have HP : Hid (pErr nf L k = 0) := Lib.hid (by unfold pErr; rw [HZ.out, if_pos ⟨by omega, by omega⟩, hTk]; rfl)
          clear hTk
          have O2 := Lib.hid (own_set (o := i) (u := .bool true) HO.out HT.out (by decide))
          have T2 := Lib.hid (heap_set (i := i) (v := .bool true) HT.out)
          have B2 := Lib.hid (HBL.out.setCell (p := ⟨w1.heap.size, i, none⟩) (Nat.le_refl _) (.bool true))
          have hne := own_ne HO.out HT.out (by decide)
          have hz2' : (wr.setCell ⟨w1.heap.size, i, none⟩ (.bool true)).heap.size = wr.heap.size := by simp [World.setCell]
          go_wp2_with (at_builtin; refine wpList_append_lies _ rfl _ _ 27 rfl w1.heap.size 52 i0 (.agg #[.int .i64 0, .int .i64 0, .int .i64 0]) 3 24 Try.underlying27 hi0 hz0 hz1 hz2 rfl (by decide) _ _ _ rfl (O2.out.alloc _) ⟨wr.heap.size, 0, none⟩ 1 1 [.int .i64 (F i).x, .int .i64 (F i).y, .int .i64 (F i).z] rfl rfl (World.news_of_block (cs := #[.int .i64 (F i).x, .int .i64 (F i).y, .int .i64 (F i).z]) (t := 52) (fr := (0, 0)) (heap_new (by simp [World.setCell]))) (by simp [Value.oneCell']) (by omega) (by unfold maxLen; omega) (by omega) (by simp; omega) (wr.heap.size + 1) (by simp) ?_; intro g cap' w4 hown4 hgrow hat hlt4; have HO4 := Lib.hid hown4; have HG4 := Lib.hid hgrow; clear hown4 hgrow hat)
          have T4 := grow_keep HG4.out ((Below.heap_alloc _ _ _ (by omega)).trans T2.out) hne
          rw [bvs_set] at T4
          have HT4 := Lib.hid T4
          have HB4 := Lib.hid (Below.grown (Below.alloc B2.out (by omega) _) HG4.out (by simp; omega) (fun b hb => (HO.out.lt b hb).1))
          clear T4
          go_roundw
          case rel => exact ⟨k + 1, by omega, by go_num, by have e : chF F L k = F i := (by unfold chF; rw [HZ.out]; rfl); simp only [cells3, e]; exact HO4.out, by rw [bvs_ext (V := fun t => tkI L k (t : Int) || t == i) (fun t _ => by rw [tkI_succ, HZ.out]; congr 1; rw [Bool.eq_iff_iff]; simp; omega)]; exact HT4.out, all_succ HN.out HP.out, HB4.out⟩
          case measure => simp [intOf]; omega
        · rw [hTk] at ti
          have HP : Hid (pErr nf L k = 6) := Lib.hid (by unfold pErr; rw [HZ.out, if_pos ⟨by omega, by omega⟩, hTk]; rfl)
          have HE : Hid (E = 6) := Lib.hid (by rw [← HEE.out, first_hit hlt HN.out (by rw [HP.out]; decide), HP.out]; rfl)
          clear hTk
          have R := HBW.out
          go_wp2
          exact bodyPost_ret (v := .tuple #[.agg #[.slice none 0 0, .slice none 0 0], .int .i64 6]) (by simp [results, Try.results9, go_sem, r0, r1, l1]) rfl (meshR_no HE.out (by first | assumption | decide) (by repeat (first | exact Below.refl _ _ | assumption | refine Below.drew ?_ | refine bdrewN ?_ _ | refine Below.setCell ?_ (by first | omega | (simp <;> omega)) _ | refine Below.alloc ?_ (by first | omega | (simp <;> omega)) _)))
      · have HP : Hid (pErr nf L k = 8) := Lib.hid (by unfold pErr; rw [HZ.out, if_neg hr])
        have HE : Hid (E = 8) := Lib.hid (by rw [← HEE.out, first_hit hlt HN.out (by rw [HP.out]; decide), HP.out]; rfl)
        have R := HBW.out
        by_cases hz0 : z < 0
        · clear hr ht
          go_wp2
          exact bodyPost_ret (v := .tuple #[.agg #[.slice none 0 0, .slice none 0 0], .int .i64 8]) (by simp [results, Try.results9, go_sem, r0, r1, l1]) rfl (meshR_no HE.out (by first | assumption | decide) (by repeat (first | exact Below.refl _ _ | assumption | refine Below.drew ?_ | refine bdrewN ?_ _ | refine Below.setCell ?_ (by first | omega | (simp <;> omega)) _ | refine Below.alloc ?_ (by first | omega | (simp <;> omega)) _)))
        · have hz1 : (nf : Int) ≤ z := by omega
          clear hr ht
          go_wp2
          exact bodyPost_ret (v := .tuple #[.agg #[.slice none 0 0, .slice none 0 0], .int .i64 8]) (by simp [results, Try.results9, go_sem, r0, r1, l1]) rfl (meshR_no HE.out (by first | assumption | decide) (by repeat (first | exact Below.refl _ _ | assumption | refine Below.drew ?_ | refine bdrewN ?_ _ | refine Below.setCell ?_ (by first | omega | (simp <;> omega)) _ | refine Below.alloc ?_ (by first | omega | (simp <;> omega)) _)))
    · obtain rfl : n = k := by omega
      have hF0 : first (pErr nf L) n = 0 := first_zero HN.out
      have HE0 : Hid (fault kn kv n kf = E) := Lib.hid (by rw [← HEE.out, hF0]; rfl)
      have HIn := Lib.hid (chF_inb HI.out (pErr_none hF0))
      have RF := Lib.hid (own_row3 HO.out)
      have RV := Lib.hid (HV.out.kept HBW.out)
      clear hF0 hown ht
      go_wp2_with (fail)
      refine (compacted_any av ao nv cv n co V (chF F L) wr RV.out RF.out hnv hn HIn.out).mono ?_
      rintro e w2 ⟨a2, c2, a3, c3, rfl, ho2, ho3, hb2⟩
      rw [HK.out, HKV.out] at ho2
      rw [HCF.out] at ho3
      have hkn : kn ≤ 1000000 := by rw [← HK.out]; have := cnt_le (useB (chF F L) n) nv; omega
      have HO2 := Lib.hid ho2
      have HO3 := Lib.hid ho3
      have HB2 := Lib.hid hb2
      have HR2 := Lib.hid (heap_keep hb2 ((HBL.out.block (w.heap.size + 1) lt1).trans BX1.out))
      rw [HK.out]
      clear ho2 ho3 hb2
      go_wp2_with (fail)
      refine (checked_any a2 a3 kn c2 n c3 kv kf _ (own_row3 HO2.out) (own_row3 HO3.out) hkn hn).mono ?_
      rintro e w3 ⟨rfl, hb3⟩
      have hr := heap_keep hb3 HR2.out
      have hlr := lt_of_heap hr
      have rc0 : w3.cell? ⟨w.heap.size + 1, 0, none⟩ = some (.slice none 0 0) := (by simp [World.cell?, hr]); have rf0 : w3.frozen? ⟨w.heap.size + 1, 0, none⟩ = false := (by simp [World.frozen?, hr]); have rc1 : w3.cell? ⟨w.heap.size + 1, 1, none⟩ = some (.slice none 0 0) := (by simp [World.cell?, hr]); have rf1 : w3.frozen? ⟨w.heap.size + 1, 1, none⟩ = false := (by simp [World.frozen?, hr])
      have HR7 := Lib.hid hr
      rw [HE0.out]
      have R := Lib.hid (((HBW.out.trans (HB2.out.mono HBW.out.size)).trans (hb3.mono (Nat.le_trans HBW.out.size HB2.out.size))).setCell (p := ⟨w.heap.size + 1, 0, none⟩) (by show _ ≤ w.heap.size + 1; omega) (.slice (za E a2) (zr E kn) (zr E c2)) |>.setCell (p := ⟨w.heap.size + 1, 1, none⟩) (by show _ ≤ w.heap.size + 1; omega) (.slice (za E a3) (zr E n) (zr E c3)))
      have P1 := Lib.hid (own_set (o := 1) (u := .slice (za E a3) (zr E n) (zr E c3)) (own_set (o := 0) (u := .slice (za E a2) (zr E kn) (zr E c2)) (ownsRow_below HO2.out hb3) HR7.out (by decide)) (set2_0 HR7.out) (by decide))
      have P2 := Lib.hid (own_set (o := 1) (u := .slice (za E a3) (zr E n) (zr E c3)) (own_set (o := 0) (u := .slice (za E a2) (zr E kn) (zr E c2)) (ownsRow_below HO3.out hb3) HR7.out (by decide)) (set2_0 HR7.out) (by decide))
      clear hr hb3
      have hzz : w.heap.size ≤ wr.heap.size := HBW.out.size
      go_wp2
      exact bodyPost_ret (v := .tuple #[.agg #[.slice (za E a2) (zr E kn) (zr E c2), .slice (za E a3) (zr E n) (zr E c3)], .int .i64 E]) (by simp [results, Try.results9, go_sem, rc0, rc1]) rfl (meshR_of P1.out P2.out (by omega) (by omega) R.out)
end Go.Proofs.Ytpgpjoghfpfhlaa

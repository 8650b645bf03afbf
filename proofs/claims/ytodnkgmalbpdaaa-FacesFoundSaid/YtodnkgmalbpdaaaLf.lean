/- The law FacesFound. -/
import Derived.Test.YtodnkgmalbpdaaaEs
set_option linter.unusedSimpArgs false
set_option linter.unusedVariables false
namespace Go.Proofs.Ytodnkgmalbpdaaa
open Go.RowKit

theorem RowX.row3 {w : World} {B : Nat} {a : Option Addr} {n : Nat} {V : Nat → V3} (h : RowX w B a n V) : Row3 w a n V := by
  rcases h with h | ⟨b, off, h1, _, h2, h3⟩
  · exact .inl h
  · exact .inr ⟨b, off, h1, h2, h3⟩

theorem RowX.mut {w w' : World} {B : Nat} {a : Option Addr} {n : Nat} {V : Nat → V3} (h : RowX w B a n V) (hm : Mut (· = B) w w') (_ : B < w.heap.size) : RowX w' B a n V := by
  rcases h with h | ⟨b, off, h1, h2, h3, h4⟩
  · exact .inl h
  · refine .inr ⟨b, off, h1, h2, Nat.lt_of_lt_of_le h3 hm.size, fun i hi => ?_⟩
    obtain ⟨c0, c1, c2⟩ := h4 i hi
    have e := fun o => hm.cell (p := ⟨b, o, none⟩) h3 (by simp; omega)
    exact ⟨(e _).trans c0, (e _).trans c1, (e _).trans c2⟩

def Zf (xs : List Value) (i : Nat) : Int := intOf (xs.getD i (.int .i64 0))
theorem Row1.kept {w w' : World} {a : Option Addr} {n : Nat} {Z : Nat → Int} (h : Row1 w a n Z) (hb : Below w.heap.size w w') : Row1 w' a n Z := by
  rcases h with h | ⟨b, off, h1, h2, h3⟩
  · exact .inl h
  · exact .inr ⟨b, off, h1, Nat.lt_of_lt_of_le h2 hb.size, fun i hi => cellk hb h2 (h3 i hi)⟩
theorem row1_of {w : World} {base : Nat} {e : TypeId} {a : Option Addr} {c : Nat} {xs : List Value} (h : w.ownsRow base e 1 (.slice a xs.length c) xs.length xs) (hx : AllInt (fun _ => True) xs) : Row1 w a xs.length (Zf xs) := by
  by_cases hn : xs.length = 0
  · exact .inl hn
  obtain ⟨g, cap', hv, _, hlt⟩ := h.form (by omega)
  simp only [Value.slice.injEq, true_and] at hv
  obtain ⟨rfl, rfl⟩ := hv
  refine .inr ⟨g, 0, rfl, hlt, fun i hi => ?_⟩
  rw [Nat.zero_add, h.cellAt i (by omega)]
  obtain ⟨z, hz, _⟩ := hx xs[i] (List.getElem_mem hi)
  simp [Zf, List.getElem?_eq_getElem hi, hz, intOf]
theorem filt_int (P : Nat → Bool) (n : Nat) : AllInt (fun _ => True) (filt P n) := by
  induction n with
  | zero => intro u hu; simp [filt] at hu
  | succ n ih =>
    rcases h : P n with _ | _
    · rw [filt_no h]; exact ih
    · rw [filt_yes h]; exact ih.app (fun u hu => by simp at hu; exact ⟨_, hu, trivial⟩)
theorem list_int {P : Nat → Bool} {n : Nat} {E : Int} {ys : List Value} (h : ys = if E = 0 then filt P n else []) : AllInt (fun _ => True) ys := by
  subst h
  split
  · exact filt_int P n
  · intro u hu; simp at hu
theorem list_len {P : Nat → Bool} {n : Nat} {E : Int} {ys : List Value} (h : ys = if E = 0 then filt P n else []) : ys.length ≤ n := by
  subst h
  split
  · exact filt_le P n
  · simp
theorem orE_zero {a b : Int} (h : orE a b = 0) : a = 0 := by
  unfold orE at h
  split at h <;> omega

set_option maxHeartbeats 4000000 in
theorem facesFound_walk (a0 : Option Addr) (len0 cap0 : Nat) (z0 : List Int) (w : World) (w0 : IsRow .i64 w a0 len0 cap0 z0) :
    Calls Try.prog 5 #[.slice a0 len0 cap0] w fun e w' => e = .returned (.bool true) ∧ Below w.heap.size w w' := by
  have HS0 := Lib.hid (Strm.start w0)
  go_enter Try.func5, Try.ntmps5
  go_wp2_with (fail)
  refine (amesh_any w.heap.size 0 _ HS0.out (by omega)).mono ?_
  rintro e w1 ⟨av, cv, af, cf, nv, nf, V, F, rfl, rv, rf, hnv, hnf, hst, hmt⟩
  have hs1 := hmt.size
  simp at hs1
  have HV1 := Lib.hid rv
  have HF1 := Lib.hid rf
  have HT1 := Lib.hid hst
  have M1 : Mut (· = w.heap.size) w w1 := ((Mut.refl _ w).alloc _).trans hmt
  have HM1 := Lib.hid M1
  clear rv rf hst hmt M1 HS0
  go_wp2_with (fail)
  refine (aslope_any w.heap.size 100 _ HT1.out (by omega)).mono ?_
  rintro e w2 ⟨⟨num, den, rfl, hslp⟩, hst, hmt⟩
  have hs2 := hmt.size
  have HT2 := Lib.hid hst
  have HM2 := Lib.hid (HM1.out.trans hmt)
  have HV2 := Lib.hid (HV1.out.mut hmt (by omega))
  have HF2 := Lib.hid (HF1.out.mut hmt (by omega))
  have HSl := Lib.hid hslp
  clear hst hmt hslp HT1 HM1 HV1 HF1
  go_wp2_with (fail)
  refine (pick_new w.heap.size 103 [0, 1, 3, 4, 10, -2, 100001] 7 (fun _ => True) _ HT2.out (by omega) rfl (by omega) (by omega) (fun _ _ => trivial)).mono ?_
  rintro e w3 ⟨⟨z, rfl, _⟩, hst, hmt⟩
  have hs3 := hmt.size
  have HM3 := Lib.hid (HM2.out.trans hmt)
  have HV3 := Lib.hid (HV2.out.mut hmt (by omega))
  have HF3 := Lib.hid (HF2.out.mut hmt (by omega))
  clear hst hmt HT2 HM2 HV2 HF2
  go_wp2_with (fail)
  have R3 := HV3.out.row3
  have S3 := HF3.out.row3
  clear HV3 HF3
  refine (meshFault_any av af nv cv nf cf V F _ (R3.kept (by repeat (first | exact Below.refl _ _ | assumption | refine Below.drew ?_ | refine bdrewN ?_ _ | refine Below.setCell ?_ (by first | omega | (simp <;> omega)) _ | refine Below.alloc ?_ (by first | omega | (simp <;> omega)) _))) (S3.kept (by repeat (first | exact Below.refl _ _ | assumption | refine Below.drew ?_ | refine bdrewN ?_ _ | refine Below.setCell ?_ (by first | omega | (simp <;> omega)) _ | refine Below.alloc ?_ (by first | omega | (simp <;> omega)) _))) (by omega) (by omega)).mono ?_
  rintro e w4 ⟨rfl, hb4⟩
  have B4 : Below w3.heap.size w3 w4 := Below.trans (by repeat (first | exact Below.refl _ _ | assumption | refine Below.drew ?_ | refine bdrewN ?_ _ | refine Below.setCell ?_ (by first | omega | (simp <;> omega)) _ | refine Below.alloc ?_ (by first | omega | (simp <;> omega)) _)) (hb4.mono (by simp; omega))
  have z4 : w3.heap.size + 1 < w4.heap.size := by have := hb4.size; simp at this; omega
  have z4' : w3.heap.size < w4.heap.size := by omega
  have m0 : w4.cell? ⟨w3.heap.size, 0, none⟩ = some (.slice av nv cv) := by rw [hb4.cell (by simp <;> omega)]; simp [go_sem]
  have m1 : w4.cell? ⟨w3.heap.size, 1, none⟩ = some (.slice af nf cf) := by rw [hb4.cell (by simp <;> omega)]; simp [go_sem]
  have s0 : w4.cell? ⟨w3.heap.size + 1, 0, none⟩ = some (.int .i64 num) := by rw [hb4.cell (by simp <;> omega)]; simp [go_sem]
  have s1 : w4.cell? ⟨w3.heap.size + 1, 1, none⟩ = some (.int .i64 den) := by rw [hb4.cell (by simp <;> omega)]; simp [go_sem]
  have HB4 := Lib.hid B4
  have HR4 := Lib.hid (R3.kept B4)
  have HS4 := Lib.hid (S3.kept B4)
  clear hb4 B4 R3 S3
  obtain ⟨hn, hd⟩ := HSl.out
  go_wp2_with (fail)
  refine (ov_any av af nv cv nf cf V F num den _ (by omega) (by omega) HR4.out HS4.out (by omega) (by omega)).mono ?_
  rintro e w5 ⟨va, rfl, ⟨ys, hys, hoa⟩, hb5⟩
  have z5 := hb5.size
  have m0 := cellk hb5 z4' m0
  have m1 := cellk hb5 z4' m1
  have s0 := cellk hb5 z4 s0
  have s1 := cellk hb5 z4 s1
  have z5' : w3.heap.size < w5.heap.size := by omega
  have z5'' : w3.heap.size + 1 < w5.heap.size := by omega
  have HB5 := Lib.hid (HB4.out.trans (hb5.mono (by omega)))
  have HR5 := Lib.hid (HR4.out.kept hb5)
  have HS5 := Lib.hid (HS4.out.kept hb5)
  have HA5 := Lib.hid hoa
  have HY := Lib.hid hys
  obtain ⟨aa, ca, rfl⟩ := own_slice hoa
  clear hb5 hoa hys HR4 HS4 HB4
  go_wp2_with (fail)
  refine (cr_any av af nv cv nf cf V F z _ HR5.out HS5.out (by omega) (by omega)).mono ?_
  rintro e w6 ⟨vb, rfl, ⟨xs, hxs, hob⟩, hb6⟩
  have z6 := hb6.size
  have m0 := cellk hb6 z5' m0
  have m1 := cellk hb6 z5' m1
  have s0 := cellk hb6 z5'' s0
  have s1 := cellk hb6 z5'' s1
  have z6' : w3.heap.size < w6.heap.size := by omega
  have z6'' : w3.heap.size + 1 < w6.heap.size := by omega
  have HB6 := Lib.hid (HB5.out.trans (hb6.mono (by omega)))
  have HR6 := Lib.hid (HR5.out.kept hb6)
  have HS6 := Lib.hid (HS5.out.kept hb6)
  have HA6 := Lib.hid (ownsRow_below HA5.out hb6)
  have HB6r := Lib.hid hob
  have HX := Lib.hid hxs
  obtain ⟨ab, cb, rfl⟩ := own_slice hob
  clear hb6 hob hxs HR5 HS5 HB5 HA5
  go_wp2_with (fail)
  refine (SlopeFault_any num den _ (by omega) (by omega)).mono ?_
  rintro e w7 ⟨rfl, hb7⟩
  have z7 := hb7.size
  have m0 := cellk hb7 z6' m0
  have m1 := cellk hb7 z6' m1
  have s0 := cellk hb7 z6'' s0
  have s1 := cellk hb7 z6'' s1
  have z7' : w3.heap.size < w7.heap.size := by omega
  have z7'' : w3.heap.size + 1 < w7.heap.size := by omega
  have HB7 := Lib.hid (HB6.out.trans (hb7.mono (by omega)))
  have HR7 := Lib.hid (HR6.out.kept hb7)
  have HS7 := Lib.hid (HS6.out.kept hb7)
  have HA7 := Lib.hid (ownsRow_below HA6.out hb7)
  have HC7 := Lib.hid (ownsRow_below HB6r.out hb7)
  clear hb7 HR6 HS6 HB6 HA6 HB6r
  go_wp2_with (fail)
  refine (or_any w7.heap.size (fault nv V nf F) (slopeE num den 1000 1000) w7 rfl).mono ?_
  rintro e w8 ⟨rfl, h8⟩
  have hb8 : Below w7.heap.size w7 w8 := h8 ▸ (Below.refl _ w7).alloc (Nat.le_refl _) _
  clear h8
  have z8 := hb8.size
  have m0 := cellk hb8 z7' m0
  have m1 := cellk hb8 z7' m1
  have s0 := cellk hb8 z7'' s0
  have s1 := cellk hb8 z7'' s1
  have z8' : w3.heap.size < w8.heap.size := by omega
  have z8'' : w3.heap.size + 1 < w8.heap.size := by omega
  have HB8 := Lib.hid (HB7.out.trans (hb8.mono (by omega)))
  have HR8 := Lib.hid (HR7.out.kept hb8)
  have HS8 := Lib.hid (HS7.out.kept hb8)
  have HA8 := Lib.hid (ownsRow_below HA7.out hb8)
  have HC8 := Lib.hid (ownsRow_below HC7.out hb8)
  clear hb8 HR7 HS7 HB7 HA7 HC7
  go_wp2_with (go_at_call 14; refine (spanFault_any _ _ _ _).mono ?_; rintro e w' ⟨rfl, rfl⟩)
  refine (or_any w8.heap.size (fault nv V nf F) (spanC z) w8 rfl).mono ?_
  rintro e w9 ⟨rfl, h9⟩
  have hb9 : Below w8.heap.size w8 w9 := h9 ▸ (Below.refl _ w8).alloc (Nat.le_refl _) _
  clear h9
  have z9 := hb9.size
  have m0 := cellk hb9 z8' m0
  have m1 := cellk hb9 z8' m1
  have s0 := cellk hb9 z8'' s0
  have s1 := cellk hb9 z8'' s1
  have z9' : w3.heap.size < w9.heap.size := by omega
  have z9'' : w3.heap.size + 1 < w9.heap.size := by omega
  have HB9 := Lib.hid (HB8.out.trans (hb9.mono (by omega)))
  have HR9 := Lib.hid (HR8.out.kept hb9)
  have HS9 := Lib.hid (HS8.out.kept hb9)
  have HA9 := Lib.hid (ownsRow_below HA8.out hb9)
  have HC9 := Lib.hid (ownsRow_below HC8.out hb9)
  clear hb9 HR8 HS8 HB8 HA8 HC8
  have hw9 : w.heap.size ≤ w3.heap.size := by omega
  have HBB := Lib.hid (((HM3.out.toBelow w.heap.size (Nat.le_refl _) (fun k hk => by omega))).trans (HB9.out.mono hw9))
  have F1 : Hid (orE (fault nv V nf F) (slopeE num den 1000 1000) = 0 → fault nv V nf F = 0) := Lib.hid orE_zero
  have F2 : Hid (orE (fault nv V nf F) (spanC z) = 0 → fault nv V nf F = 0) := Lib.hid orE_zero
  clear HM3 HB9 HSl hn hd
  have LI := Lib.hid (list_int HY.out)
  have LJ := Lib.hid (list_int HX.out)
  have LA := Lib.hid (list_len HY.out)
  have LC := Lib.hid (list_len HX.out)
  have RA := Lib.hid (row1_of HA9.out (list_int HY.out))
  have RC := Lib.hid (row1_of HC9.out (list_int HX.out))
  generalize orE (fault nv V nf F) (slopeE num den 1000 1000) = E1 at *
  generalize orE (fault nv V nf F) (spanC z) = E2 at *
  by_cases h1 : E1 = 0
  · subst h1
    have HYS : Hid (ys = filt (PO V F num den) nf) := Lib.hid (by have := HY.out; rwa [if_pos rfl] at this)
    go_wp2_with (fail)
    refine (ovOf_any av af nv cv nf cf V F num den _ HR9.out HS9.out (by omega) (good_of (F1.out (by trivial)))).mono ?_
    rintro e w10 ⟨vx, rfl, hox, hb10⟩
    rw [← HYS.out] at hox
    obtain ⟨ax, cx, rfl⟩ := own_slice hox
    have z10 := hb10.size
    have m0 := cellk hb10 z9' m0
    have m1 := cellk hb10 z9' m1
    have z10' : w3.heap.size < w10.heap.size := by omega
    have RX10 := Lib.hid (row1_of hox LI.out)
    have RA10 := Lib.hid (Row1.kept RA.out hb10)
    have RC10 := Lib.hid (Row1.kept RC.out hb10)
    have HR10 := Lib.hid (HR9.out.kept hb10)
    have HS10 := Lib.hid (HS9.out.kept hb10)
    have HB10 := Lib.hid (HBB.out.trans (hb10.mono HBB.out.size))
    clear hox hb10
    by_cases h2 : E2 = 0
    · subst h2
      have HXS : Hid (xs = filt (PC V F z) nf) := Lib.hid (by have := HX.out; rwa [if_pos rfl] at this)
      go_wp2_with (fail)
      refine (crOf_any av af nv cv nf cf V F z _ HR10.out HS10.out (by omega) (good_of (F2.out (by trivial)))).mono ?_
      rintro e w11 ⟨vy, rfl, hoy, hb11⟩
      rw [← HXS.out] at hoy
      obtain ⟨ay, cy, rfl⟩ := own_slice hoy
      have RY11 := Lib.hid (row1_of hoy LJ.out)
      have RX11 := Lib.hid (Row1.kept RX10.out hb11)
      have RA11 := Lib.hid (Row1.kept RA10.out hb11)
      have RC11 := Lib.hid (Row1.kept RC10.out hb11)
      have HB11 := Lib.hid (HB10.out.trans (hb11.mono HB10.out.size))
      clear hoy hb11
      go_wp2_with (fail)
      refine (equal_any _ _ _ _ _ (Zf ys) _ RA11.out RX11.out (by have := LA.out; omega)).mono ?_
      rintro e w20 ⟨rfl, hb20⟩
      have RCC := Row1.kept RC11.out hb20
      have RYY := Row1.kept RY11.out hb20
      have HB20 := Lib.hid ((HB11.out).trans (hb20.mono (HB11.out).size))
      clear hb20
      go_wp2_with (fail)
      refine (equal_any _ _ _ _ _ (Zf xs) _ RCC RYY (by have := LC.out; omega)).mono ?_
      rintro e w21 ⟨rfl, hb21⟩
      have HB21 := Lib.hid (HB20.out.trans (hb21.mono HB20.out.size))
      clear hb21 RCC RYY
      go_wp2_with (fail)
      refine (meshed_any _).mono ?_
      rintro e w22 ⟨rfl, hb22⟩
      have HB22 := Lib.hid (HB21.out.trans (hb22.mono HB21.out.size))
      clear hb22
      go_wp2
      go_ret
      exact ⟨rfl, HB22.out⟩
    · have e2 : (E2 == 0) = false := by simpa using h2
      have hx0 : xs = [] := by have := HX.out; rwa [if_neg h2] at this
      subst hx0
      go_wp2_with (fail)
      refine (equal_any _ _ _ _ _ (Zf ys) _ RA10.out RX10.out (by have := LA.out; omega)).mono ?_
      rintro e w20 ⟨rfl, hb20⟩
      have RCC := Row1.kept RC10.out hb20
      have HB20 := Lib.hid ((HB10.out).trans (hb20.mono (HB10.out).size))
      clear hb20
      go_wp2_with (fail)
      refine (equal_any _ _ _ _ _ (Zf []) _ RCC (.inl rfl) (by simp)).mono ?_
      rintro e w21 ⟨rfl, hb21⟩
      have HB21 := Lib.hid (HB20.out.trans (hb21.mono HB20.out.size))
      clear hb21 RCC
      go_wp2_with (fail)
      refine (meshed_any _).mono ?_
      rintro e w22 ⟨rfl, hb22⟩
      have HB22 := Lib.hid (HB21.out.trans (hb22.mono HB21.out.size))
      clear hb22
      go_wp2
      go_ret
      exact ⟨rfl, HB22.out⟩
  · have e1 : (E1 == 0) = false := by simpa using h1
    have hy0 : ys = [] := by have := HY.out; rwa [if_neg h1] at this
    subst hy0
    by_cases h2 : E2 = 0
    · subst h2
      have HXS : Hid (xs = filt (PC V F z) nf) := Lib.hid (by have := HX.out; rwa [if_pos rfl] at this)
      go_wp2_with (fail)
      refine (crOf_any av af nv cv nf cf V F z _ HR9.out HS9.out (by omega) (good_of (F2.out (by trivial)))).mono ?_
      rintro e w11 ⟨vy, rfl, hoy, hb11⟩
      rw [← HXS.out] at hoy
      obtain ⟨ay, cy, rfl⟩ := own_slice hoy
      have RY11 := Lib.hid (row1_of hoy LJ.out)
      have RC11 := Lib.hid (Row1.kept RC.out hb11)
      have HB11 := Lib.hid (HBB.out.trans (hb11.mono HBB.out.size))
      clear hoy hb11
      go_wp2_with (fail)
      refine (equal_any _ _ _ _ _ (Zf []) _ (.inl rfl) (.inl rfl) (by simp)).mono ?_
      rintro e w20 ⟨rfl, hb20⟩
      have RCC := Row1.kept RC11.out hb20
      have RYY := Row1.kept RY11.out hb20
      have HB20 := Lib.hid ((HB11.out).trans (hb20.mono (HB11.out).size))
      clear hb20
      go_wp2_with (fail)
      refine (equal_any _ _ _ _ _ (Zf xs) _ RCC RYY (by have := LC.out; omega)).mono ?_
      rintro e w21 ⟨rfl, hb21⟩
      have HB21 := Lib.hid (HB20.out.trans (hb21.mono HB20.out.size))
      clear hb21 RCC RYY
      go_wp2_with (fail)
      refine (meshed_any _).mono ?_
      rintro e w22 ⟨rfl, hb22⟩
      have HB22 := Lib.hid (HB21.out.trans (hb22.mono HB21.out.size))
      clear hb22
      go_wp2
      go_ret
      exact ⟨rfl, HB22.out⟩
    · have e2 : (E2 == 0) = false := by simpa using h2
      have hx0 : xs = [] := by have := HX.out; rwa [if_neg h2] at this
      subst hx0
      go_wp2_with (fail)
      refine (equal_any _ _ _ _ _ (Zf []) _ (.inl rfl) (.inl rfl) (by simp)).mono ?_
      rintro e w20 ⟨rfl, hb20⟩
      have RC := Row1.kept RC.out hb20
      have RY : Row1 w20 none 0 (Zf []) := .inl rfl
      have HB20 := Lib.hid ((HBB.out).trans (hb20.mono (HBB.out).size))
      clear hb20
      go_wp2_with (fail)
      refine (equal_any _ _ _ _ _ (Zf []) _ RC RY (by simp)).mono ?_
      rintro e w21 ⟨rfl, hb21⟩
      have HB21 := Lib.hid (HB20.out.trans (hb21.mono HB20.out.size))
      clear hb21 RC RY
      go_wp2_with (fail)
      refine (meshed_any _).mono ?_
      rintro e w22 ⟨rfl, hb22⟩
      have HB22 := Lib.hid (HB21.out.trans (hb22.mono HB21.out.size))
      clear hb22
      go_wp2
      go_ret
      exact ⟨rfl, HB22.out⟩
end Go.Proofs.Ytodnkgmalbpdaaa

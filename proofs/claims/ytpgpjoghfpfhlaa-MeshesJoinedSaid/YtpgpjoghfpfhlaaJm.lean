/- The reference's joined mesh. -/
import Derived.Test.YtpgpjoghfpfhlaaJo
import Derived.Test.YtpgpjoghfpfhlaaWn
set_option linter.unusedSimpArgs false
set_option linter.unusedVariables false
namespace Go.Proofs.Ytpgpjoghfpfhlaa
open Go.RowKit
theorem own_own_ne {w : World} {b1 b2 : Nat} {e1 e2 : TypeId} {s1 s2 n1 n2 : Nat} {v1 v2 : Value} {x1 x2 : List Value} (h1 : w.ownsRow b1 e1 s1 v1 n1 x1) (h2 : w.ownsRow b2 e2 s2 v2 n2 x2) (he : e1 ≠ e2) : ∀ g, v1.ownBlock = some g → v2.ownBlock ≠ some g := by
  intro g hg
  rcases h1.2 with ⟨rfl, _⟩ | ⟨g', cap, cur, rfl, _, hh, _⟩
  · cases hg
  · simp only [Value.ownBlock, Option.some.injEq] at hg
    subst hg
    exact own_ne h2 hh he
theorem own_or {w : World} {b1 b2 : Nat} {e1 e2 : TypeId} {s1 s2 n1 n2 : Nat} {v1 v2 : Value} {x1 x2 : List Value} (h1 : w.ownsRow b1 e1 s1 v1 n1 x1) (h2 : w.ownsRow b2 e2 s2 v2 n2 x2) (he : e1 ≠ e2) : v1.ownBlock = none ∨ v1.ownBlock ≠ v2.ownBlock := by
  rcases h : v1.ownBlock with _ | g
  · exact .inl rfl
  · exact .inr fun e => own_own_ne h1 h2 he g h e.symm
theorem cellst2 {w w0 : World} (B : Below w.heap.size w w0) {b o g : Nat} {v x y : Value} (hb : b < w.heap.size) (h : w.cell? ⟨b, o, none⟩ = some v) (hne : b ≠ g) : ((w0.setCell ⟨g, 0, none⟩ x).setCell ⟨g, 1, none⟩ y).cell? ⟨b, o, none⟩ = some v :=
  (sc_other (ne_block hne.symm)).trans ((sc_other (ne_block hne.symm)).trans (cellk B hb h))
theorem own_blk {w : World} {base : Nat} {e : TypeId} {size : Nat} {v : Value} {n : Nat} {xs : List Value} (h : w.ownsRow base e size v n xs) {k : Nat} (hk : w.heap.size ≤ k) : v.ownBlock ≠ some k := fun e => by have := (h.lt k e).2; omega
theorem grown_new {X wx : World} {o : Obj} {base : Nat} {e : TypeId} {size : Nat} {v : Value} {n : Nat} {xs : List Value} (hg : (X.alloc o).grownBy wx v.ownBlock) (h : X.ownsRow base e size v n xs) : wx.heap[X.heap.size]? = some o := grow_keep hg (heap_alloc_new X o) (own_blk h (Nat.le_refl _))
theorem grown_newd {X wx : World} {o : Obj} {base : Nat} {e : TypeId} {size : Nat} {v : Value} {n : Nat} {xs : List Value} (hg : (X.alloc o).drew.grownBy wx v.ownBlock) (h : X.ownsRow base e size v n xs) : wx.heap[X.heap.size]? = some o := grow_keep hg (heap_alloc_new X o) (own_blk h (Nat.le_refl _))
theorem grown_newdd {X wx : World} {o : Obj} {base : Nat} {e : TypeId} {size : Nat} {v : Value} {n : Nat} {xs : List Value} (hg : (X.drew.alloc o).drew.grownBy wx v.ownBlock) (h : X.ownsRow base e size v n xs) : wx.heap[X.drew.heap.size]? = some o := grow_keep hg (heap_alloc_new X.drew o) (own_blk h (Nat.le_refl _))
theorem grow_keepd {w w' : World} {row : Option Nat} {b : Nat} {o : Obj} (hg : w.drew.grownBy w' row) (h : w.heap[b]? = some o) (hne : row ≠ some b) : w'.heap[b]? = some o := grow_keep hg h hne
theorem jV_app (nv mv : Nat) (V W : Nat → V3) : cells3 (jV nv V W) (nv + mv) = cells3 V nv ++ cells3 W mv := cells3_app nv mv V W
theorem jF_0 (nv nf : Nat) (F G : Nat → V3) : cells3 (jF nv nf F G) (nf + 0) = cells3 F nf := by
  unfold jF
  rw [cells3_app]; simp [cells3]
theorem jF_s (nv nf k : Nat) (F G : Nat → V3) : cells3 (jF nv nf F G) (nf + (k + 1)) = cells3 (jF nv nf F G) (nf + k) ++ [.int .i64 ((G k).x + (nv : Int)), .int .i64 ((G k).y + (nv : Int)), .int .i64 ((G k).z + (nv : Int))] := by
  unfold jF
  rw [cells3_app, cells3_app]
  simp [cells3, rnf, Int.add_comm]

set_option maxRecDepth 100000 in
set_option maxHeartbeats 16000000 in
theorem joinedM_any (av af bv bf : Option Addr) (nv cv nf cf mv dv mf df : Nat) (V F W G : Nat → V3) (w : World) (ra : Row3 w av nv V) (rb : Row3 w af nf F) (rc : Row3 w bv mv W) (rd : Row3 w bf mf G) (h1 : nv ≤ 100000) (h2 : nf ≤ 100000) (h3 : mv ≤ 100000) (h4 : mf ≤ 100000)
    (hfb : fault mv W mf G = 0) (E : Int) (hE : fault (nv + mv) (jV nv V W) (nf + mf) (jF nv nf F G) = E) :
    Calls Try.prog 12 #[.agg #[.slice av nv cv, .slice af nf cf], .agg #[.slice bv mv dv, .slice bf mf df]] w (MeshR w E (nv + mv) (jV nv V W) (nf + mf) (jF nv nf F G)) := by
  obtain ⟨i1, hi1, hy0, hy1, hy2⟩ := info_parts info_face
  obtain ⟨i0, hi0, hz0, hz1, hz2⟩ := info_parts info_vec
  have pb := fault_pos hfb
  have RA := Lib.hid ra
  have RB := Lib.hid rb
  have RC := Lib.hid rc
  have RD := Lib.hid rd
  have HEE := Lib.hid hE
  have HI : Hid (∀ k, k < mf → ((0 ≤ (G k).x ∧ (G k).x ≤ 1000000) ∧ (0 ≤ (G k).y ∧ (G k).y ≤ 1000000) ∧ (0 ≤ (G k).z ∧ (G k).z ≤ 1000000))) := Lib.hid (fun k hk => by
    obtain ⟨⟨x0, x1⟩, ⟨y0, y1⟩, z0, z1⟩ := inb_of hfb k hk
    omega)
  clear ra rb rc rd hE hfb
  go_enter Try.func12, Try.ntmps12
  go_upto_region 2 with (fail)
  have HW2 : Hid (Below w.heap.size w (((w.alloc (JB av nv cv af nf cf)).alloc (JB bv mv dv bf mf df)).alloc (JB none 0 0 none 0 0))) := Lib.hid (by repeat (first | exact Below.refl _ _ | assumption | refine Below.drew ?_ | refine bdrewN ?_ _ | refine Below.setCell ?_ (by first | omega | (simp <;> omega)) _ | refine Below.alloc ?_ (by first | omega | (simp <;> omega)) _))
  have hA : (((w.alloc (JB av nv cv af nf cf)).alloc (JB bv mv dv bf mf df)).alloc (JB none 0 0 none 0 0)).heap[w.heap.size]? = some (JB av nv cv af nf cf) := (by repeat (first | (refine heap_new ?_; first | rfl | (simp; done)) | rw [Below.heap_setCell _ _ _ _ (by simp <;> omega)] | rw [Below.heap_alloc _ _ _ (by simp <;> omega)]))
  have hB : (((w.alloc (JB av nv cv af nf cf)).alloc (JB bv mv dv bf mf df)).alloc (JB none 0 0 none 0 0)).heap[w.heap.size + 1]? = some (JB bv mv dv bf mf df) := (by repeat (first | (refine heap_new ?_; first | rfl | (simp; done)) | rw [Below.heap_setCell _ _ _ _ (by simp <;> omega)] | rw [Below.heap_alloc _ _ _ (by simp <;> omega)]))
  have hR : (((w.alloc (JB av nv cv af nf cf)).alloc (JB bv mv dv bf mf df)).alloc (JB none 0 0 none 0 0)).heap[w.heap.size + 1 + 1]? = some (JB none 0 0 none 0 0) := (by repeat (first | (refine heap_new ?_; first | rfl | (simp; done)) | rw [Below.heap_setCell _ _ _ _ (by simp <;> omega)] | rw [Below.heap_alloc _ _ _ (by simp <;> omega)]))
  have hz : (((w.alloc (JB av nv cv af nf cf)).alloc (JB bv mv dv bf mf df)).alloc (JB none 0 0 none 0 0)).heap.size = w.heap.size + 1 + 1 + 1 := by simp
  change Code.wp _ _ _ _ (((w.alloc (JB av nv cv af nf cf)).alloc (JB bv mv dv bf mf df)).alloc (JB none 0 0 none 0 0))
  generalize (((w.alloc (JB av nv cv af nf cf)).alloc (JB bv mv dv bf mf df)).alloc (JB none 0 0 none 0 0)) = w2 at *
  have a0 : w2.cell? ⟨w.heap.size, 0, none⟩ = some (.slice av nv cv) := cell_of hA rfl
  have a1 : w2.cell? ⟨w.heap.size, 1, none⟩ = some (.slice af nf cf) := cell_of hA rfl
  have b0 : w2.cell? ⟨w.heap.size + 1, 0, none⟩ = some (.slice bv mv dv) := cell_of hB rfl
  have b1 : w2.cell? ⟨w.heap.size + 1, 1, none⟩ = some (.slice bf mf df) := cell_of hB rfl
  have HR := Lib.hid hR
  have l0 : w.heap.size < w2.heap.size := by omega
  have l1 : w.heap.size + 1 < w2.heap.size := by omega
  have l2 : w.heap.size + 1 + 1 < w2.heap.size := by omega
  have RA2 := Lib.hid (RA.out.kept HW2.out)
  have RB2 := Lib.hid (RB.out.kept HW2.out)
  have RC2 := Lib.hid (RC.out.kept HW2.out)
  have RD2 := Lib.hid (RD.out.kept HW2.out)
  have HZ := Lib.hid hz
  clear RA RB RC RD hA hB hR hz
  go_cut [7] from 13 (fun s7 wx => ∃ (g : Nat) (a1 a2 : Option Addr) (c1 c2 : Nat), s7 = .pointer (some ⟨g, 0, none⟩) ∧ w2.heap.size ≤ g ∧ wx.heap[g]? = some (JB a1 (nv + mv) c1 a2 nf c2) ∧ wx.ownsRow w2.heap.size 47 3 (.slice a1 (nv + mv) c1) (nv + mv) (cells3 (jV nv V W) (nv + mv)) ∧ wx.ownsRow w2.heap.size 52 3 (.slice a2 nf c2) nf (cells3 F nf) ∧ Below w2.heap.size w2 wx)
  case first =>
    obtain ⟨by_, oy, rfl, lby, TW⟩ : ∃ b o, bv = some ⟨b, o, none⟩ ∧ b < w2.heap.size ∧ Hid (Tri w2 b o mv W) := by
      rcases RC2.out with h | ⟨b, o, h, hb, ht⟩
      · omega
      · exact ⟨b, o, h, hb, Lib.hid ht⟩
    go_region_held3 (fun w' => w'.cell? ⟨w.heap.size, 0, none⟩ = some (.slice av nv cv) ∧ w'.cell? ⟨w.heap.size, 1, none⟩ = some (.slice af nf cf) ∧ w'.cell? ⟨w.heap.size + 1, 0, none⟩ = some (.slice (some ⟨by_, oy, none⟩) mv dv))
      (first
        | with_reducible exact ⟨a0, a1, b0⟩
        | with_reducible assumption
        | with_reducible exact ⟨cellk Bx l0 a0, cellk Bx l0 a1, cellk Bx l1 b0⟩
        | with_reducible exact ⟨cellst2 Bx l0 a0 (by omega), cellst2 Bx l0 a1 (by omega), cellst2 Bx l1 b0 (by omega)⟩
        | with_reducible exact ⟨cella (Below.refl _ _) l0 a0, cella (Below.refl _ _) l0 a1, cella (Below.refl _ _) l1 b0⟩
        | with_reducible exact ⟨cella Bx l0 a0, cella Bx l0 a1, cella Bx l1 b0⟩
        | go_keep)
      (first
        | (refine step_append_lies _ (by rfl) _ _ 26 (by rfl) w2.heap.size 47 i0 (.agg #[.int .i64 0, .int .i64 0, .int .i64 0]) 3 24 Try.underlying26 hi0 hz0 hz1 hz2 rfl (by decide) _ nv (cells3 V nv) (by rfl) (ownsRow_below own_RA2.out (by repeat (first | with_reducible exact Below.refl _ _ | with_reducible refine Below.drew ?_ | with_reducible refine bdrewN ?_ _ | with_reducible refine Below.alloc ?_ (by first | omega | (simp <;> omega)) _))) ⟨by_, oy, none⟩ mv dv (cells3 W mv) (by rfl) (cells3_length W mv) (tri_news (TW.out.kept (by repeat (first | with_reducible exact Bx | with_reducible exact Below.refl _ _ | with_reducible refine Below.drew ?_ | with_reducible refine bdrewN ?_ _ | with_reducible refine Below.alloc ?_ (by first | omega | (simp <;> omega)) _)) lby)) (cells3_one W mv) (by omega) (by unfold maxLen; omega) (by omega) (Below.size (B := w2.heap.size) (by repeat (first | with_reducible exact Bx | with_reducible exact Below.refl _ _ | with_reducible refine Below.drew ?_ | with_reducible refine bdrewN ?_ _ | with_reducible refine Below.alloc ?_ (by first | omega | (simp <;> omega)) _))) _ rfl ?_; intro gj capj wx hownj hgrow hat hltj; have Bx' : Below w2.heap.size w2 wx := Below.grown (by repeat (first | with_reducible exact Bx | with_reducible exact Below.refl _ _ | with_reducible refine Below.drew ?_ | with_reducible refine bdrewN ?_ _ | with_reducible refine Below.alloc ?_ (by first | omega | (simp <;> omega)) _)) hgrow (Below.size (B := w2.heap.size) (by repeat (first | with_reducible exact Bx | with_reducible exact Below.refl _ _ | with_reducible refine Below.drew ?_ | with_reducible refine bdrewN ?_ _ | with_reducible refine Below.alloc ?_ (by first | omega | (simp <;> omega)) _))) (fun b hb => (own_RA2.out.lt b hb).1); (first | have own_RB2 := Lib.hid ((ownsRow_below own_RB2.out (by repeat (first | with_reducible exact Below.refl _ _ | with_reducible refine Below.drew ?_ | with_reducible refine bdrewN ?_ _ | with_reducible refine Below.alloc ?_ (by first | omega | (simp <;> omega)) _))).kept hgrow (own_or own_RB2.out own_RA2.out (by decide))) | skip); (first | (with_reducible (have hg := grown_new hgrow own_RA2.out)) | (with_reducible (have hg := grown_newd hgrow own_RA2.out)) | (with_reducible (have hg := grown_newdd hgrow own_RA2.out)) | (with_reducible (have hg := grow_keep hgrow hg (own_ne own_RA2.out hg (by decide)))) | (with_reducible (have hg := grow_keepd hgrow hg (own_ne own_RA2.out hg (by decide)))) | skip); have PJ := Lib.hid hownj; have Bx := Bx'; have sx := Bx.size; (first | (have g0 : wx.cell? ⟨_, 0, none⟩ = some (.slice none 0 0) := cell_of hg rfl; have g1 : wx.cell? ⟨_, 1, none⟩ = some (.slice none 0 0) := cell_of hg rfl; have f0 : wx.frozen? ⟨_, 0, none⟩ = false := frozen_of hg; have f1 : wx.frozen? ⟨_, 1, none⟩ = false := frozen_of hg) | skip); clear own_RA2; clear hownj hgrow hat Bx')
        | (go_at_call 40; refine (cloneV_any av nv cv V _ (RA2.out.kept (by repeat (first | with_reducible exact Bx | with_reducible exact Below.refl _ _ | with_reducible refine Below.drew ?_ | with_reducible refine bdrewN ?_ _ | with_reducible refine Below.alloc ?_ (by first | omega | (simp <;> omega)) _))) (by omega)).mono ?_; rintro e wx ⟨_, _, rfl, hox, hbx⟩; have Bx' : Below w2.heap.size w2 wx := Below.trans (by repeat (first | with_reducible exact Bx | with_reducible exact Below.refl _ _ | with_reducible refine Below.drew ?_ | with_reducible refine bdrewN ?_ _ | with_reducible refine Below.alloc ?_ (by first | omega | (simp <;> omega)) _)) (hbx.mono (Below.size (B := w2.heap.size) (by repeat (first | with_reducible exact Bx | with_reducible exact Below.refl _ _ | with_reducible refine Below.drew ?_ | with_reducible refine bdrewN ?_ _ | with_reducible refine Below.alloc ?_ (by first | omega | (simp <;> omega)) _)))); (first | have own_RB2 := Lib.hid (ownsRow_below own_RB2.out (Below.trans (by repeat (first | with_reducible exact Below.refl _ _ | with_reducible refine Below.drew ?_ | with_reducible refine bdrewN ?_ _ | with_reducible refine Below.alloc ?_ (by first | omega | (simp <;> omega)) _)) (hbx.mono (Below.size (B := 0) (by repeat (first | with_reducible exact Below.refl _ _ | with_reducible refine Below.drew ?_ | with_reducible refine bdrewN ?_ _ | with_reducible refine Below.alloc ?_ (by first | omega | (simp <;> omega)) _)))))) | skip); have own_RA2 := Lib.hid (own_base hox (base' := w2.heap.size) (Below.size (B := w2.heap.size) (by repeat (first | with_reducible exact Bx | with_reducible exact Below.refl _ _ | with_reducible refine Below.drew ?_ | with_reducible refine bdrewN ?_ _ | with_reducible refine Below.alloc ?_ (by first | omega | (simp <;> omega)) _)))); have Bx := Bx'; have sx := Bx.size; (first | (with_reducible (have hg := newcell hbx)) | (with_reducible (have hg := newcelld hbx)) | (with_reducible (have hg := heap_keep hbx hg)) | (with_reducible (have hg := heap_keepd hbx hg)) | skip); (first | (have g0 : wx.cell? ⟨_, 0, none⟩ = some (.slice none 0 0) := cell_of hg rfl; have g1 : wx.cell? ⟨_, 1, none⟩ = some (.slice none 0 0) := cell_of hg rfl; have f0 : wx.frozen? ⟨_, 0, none⟩ = false := frozen_of hg; have f1 : wx.frozen? ⟨_, 1, none⟩ = false := frozen_of hg) | skip); clear hbx hox Bx')
        | (go_at_call 41; refine (cloneF_any af nf cf F _ (RB2.out.kept (by repeat (first | with_reducible exact Bx | with_reducible exact Below.refl _ _ | with_reducible refine Below.drew ?_ | with_reducible refine bdrewN ?_ _ | with_reducible refine Below.alloc ?_ (by first | omega | (simp <;> omega)) _))) (by omega)).mono ?_; rintro e wx ⟨_, _, rfl, hox, hbx⟩; have Bx' : Below w2.heap.size w2 wx := Below.trans (by repeat (first | with_reducible exact Bx | with_reducible exact Below.refl _ _ | with_reducible refine Below.drew ?_ | with_reducible refine bdrewN ?_ _ | with_reducible refine Below.alloc ?_ (by first | omega | (simp <;> omega)) _)) (hbx.mono (Below.size (B := w2.heap.size) (by repeat (first | with_reducible exact Bx | with_reducible exact Below.refl _ _ | with_reducible refine Below.drew ?_ | with_reducible refine bdrewN ?_ _ | with_reducible refine Below.alloc ?_ (by first | omega | (simp <;> omega)) _)))); (first | have own_RA2 := Lib.hid (ownsRow_below own_RA2.out (Below.trans (by repeat (first | with_reducible exact Below.refl _ _ | with_reducible refine Below.drew ?_ | with_reducible refine bdrewN ?_ _ | with_reducible refine Below.alloc ?_ (by first | omega | (simp <;> omega)) _)) (hbx.mono (Below.size (B := 0) (by repeat (first | with_reducible exact Below.refl _ _ | with_reducible refine Below.drew ?_ | with_reducible refine bdrewN ?_ _ | with_reducible refine Below.alloc ?_ (by first | omega | (simp <;> omega)) _)))))) | skip); (first | have PJ := Lib.hid (ownsRow_below PJ.out (Below.trans (by repeat (first | with_reducible exact Below.refl _ _ | with_reducible refine Below.drew ?_ | with_reducible refine bdrewN ?_ _ | with_reducible refine Below.alloc ?_ (by first | omega | (simp <;> omega)) _)) (hbx.mono (Below.size (B := 0) (by repeat (first | with_reducible exact Below.refl _ _ | with_reducible refine Below.drew ?_ | with_reducible refine bdrewN ?_ _ | with_reducible refine Below.alloc ?_ (by first | omega | (simp <;> omega)) _)))))) | skip); have own_RB2 := Lib.hid (own_base hox (base' := w2.heap.size) (Below.size (B := w2.heap.size) (by repeat (first | with_reducible exact Bx | with_reducible exact Below.refl _ _ | with_reducible refine Below.drew ?_ | with_reducible refine bdrewN ?_ _ | with_reducible refine Below.alloc ?_ (by first | omega | (simp <;> omega)) _)))); have Bx := Bx'; have sx := Bx.size; (first | (with_reducible (have hg := newcell hbx)) | (with_reducible (have hg := newcelld hbx)) | (with_reducible (have hg := heap_keep hbx hg)) | (with_reducible (have hg := heap_keepd hbx hg)) | skip); (first | (have g0 : wx.cell? ⟨_, 0, none⟩ = some (.slice none 0 0) := cell_of hg rfl; have g1 : wx.cell? ⟨_, 1, none⟩ = some (.slice none 0 0) := cell_of hg rfl; have f0 : wx.frozen? ⟨_, 0, none⟩ = false := frozen_of hg; have f1 : wx.frozen? ⟨_, 1, none⟩ = false := frozen_of hg) | skip); clear hbx hox Bx'))
    all_goals (go_wp2_with (fail))
    all_goals go_meet
    all_goals unfold JB
    all_goals first
      | (refine ⟨_, _, _, _, _, rfl, Bx.size, heap_alloc_new wx _, ?_, ?_, ?_⟩
         · rw [jV_app]; exact PJ.out.alloc _
         · exact own_RB2.out.alloc _
         · exact Bx.alloc Bx.size _)
      | (refine ⟨_, _, _, _, _, rfl, ?_, set2_1 (set2_0 hg), ?_, ?_, ?_⟩
         · omega
         · rw [jV_app]; exact own_set (own_set PJ.out hg (by decide)) (set2_0 hg) (by decide)
         · exact own_set (own_set own_RB2.out hg (by decide)) (set2_0 hg) (by decide)
         · exact Below.setCell (Below.setCell Bx (p := ⟨_, 0, none⟩) (by first | omega | (simp <;> omega)) _) (p := ⟨_, 1, none⟩) (by first | omega | (simp <;> omega)) _)
  case rest =>
    have hz := HZ.out
    obtain ⟨g, a3, a4, c3', c4, rfl, hg, hgh, hov, hof, hbc⟩ := hcut
    have HGH := Lib.hid hgh
    have HOV := Lib.hid hov
    have HOF := Lib.hid hof
    have HBC := Lib.hid hbc
    have sc := hbc.size
    have k1 := cellk hbc l1 b1
    clear hgh hov hof hbc a0 a1 b0
    go_wp2_with (fail)
    go_loopw [26] (fun i wr => ∃ k : Nat, k ≤ mf ∧ i = .int .i64 k ∧ (∃ a5 c5, wr.heap[g]? = some (.cells #[.slice a3 (nv + mv) c3', .slice a5 (nf + k) c5] 29 (0, 0)) ∧ wr.ownsRow w2.heap.size 52 3 (.slice a5 (nf + k) c5) (nf + k) (cells3 (jF nv nf F G) (nf + k))) ∧ wr.ownsRow w2.heap.size 47 3 (.slice a3 (nv + mv) c3') (nv + mv) (cells3 (jV nv V W) (nv + mv)) ∧ Below w2.heap.size w2 wr) (fun i _ => mf - (intOf i).toNat)
    case atStart => exact ⟨0, by omega, rfl, ⟨a4, c4, HGH.out, by rw [jF_0 nv nf F G]; exact HOF.out⟩, HOV.out, HBC.out⟩
    case round =>
      obtain ⟨k, hk, rfl, ⟨a5, c5, hq, hrow⟩, hvr, hbel⟩ := hrel
      have hsz := hbel.size
      have HQ := Lib.hid hq
      have HW := Lib.hid hrow
      have HVR := Lib.hid hvr
      have HBL := Lib.hid hbel
      have lq := lt_of_heap hq
      have oc0 : wr.cell? ⟨g, 0, none⟩ = some (.slice a3 (nv + mv) c3') := (by simp [World.cell?, hq]); have of0 : wr.frozen? ⟨g, 0, none⟩ = false := (by simp [World.frozen?, hq]); have oc1 : wr.cell? ⟨g, 1, none⟩ = some (.slice a5 (nf + k) c5) := (by simp [World.cell?, hq]); have of1 : wr.frozen? ⟨g, 1, none⟩ = false := (by simp [World.frozen?, hq])
      clear hq hrow hbel hvr HGH HOV HOF k1
      by_cases hlt : k < mf
      · rcases RD2.out with h | ⟨bx, ox, rfl, hbx, hG⟩
        · omega
        obtain ⟨c0, c1', c2'⟩ := (hG.kept HBL.out hbx) k hlt
        have hbw : bx < wr.heap.size := by omega
        obtain ⟨⟨x0, x1⟩, ⟨y0, y1⟩, z0, z1⟩ := HI.out k hlt
        have HE : Hid (cells3 (jF nv nf F G) (nf + (k + 1)) = cells3 (jF nv nf F G) (nf + k) ++ [.int .i64 ((G k).x + (nv : Int)), .int .i64 ((G k).y + (nv : Int)), .int .i64 ((G k).z + (nv : Int))]) := Lib.hid (jF_s nv nf k F G)
        clear hG b1
        go_wp2_with (at_builtin; refine wpList_append_lies _ rfl _ _ 27 rfl w2.heap.size 52 i1 (.agg #[.int .i64 0, .int .i64 0, .int .i64 0]) 3 24 Try.underlying27 hi1 hy0 hy1 hy2 rfl (by decide) _ _ _ rfl ((HW.out.alloc _).alloc _) ⟨wr.heap.size + 1, 0, none⟩ 1 1 [.int .i64 ((G k).x + (nv : Int)), .int .i64 ((G k).y + (nv : Int)), .int .i64 ((G k).z + (nv : Int))] rfl rfl (World.news_of_block (cs := #[.int .i64 ((G k).x + (nv : Int)), .int .i64 ((G k).y + (nv : Int)), .int .i64 ((G k).z + (nv : Int))]) (t := 52) (fr := (0, 0)) (heap_new (by simp))) (by simp [Value.oneCell']) (by omega) (by unfold maxLen; omega) (by omega) (by simp; omega) (wr.heap.size + 1 + 1) (by simp) ?_; intro g6 cap' w6 hown6 hgrow hat hlt6; have hq6 := grow_keep hgrow ((Below.heap_alloc _ _ _ (by simp; omega)).trans ((Below.heap_alloc wr _ _ lq).trans HQ.out)) (own_ne HW.out HQ.out (by decide)); have tc0 : w6.cell? ⟨g, 0, none⟩ = some (.slice a3 (nv + mv) c3') := (by simp [World.cell?, hq6]); have tf0 : w6.frozen? ⟨g, 0, none⟩ = false := (by simp [World.frozen?, hq6]); have tc1 : w6.cell? ⟨g, 1, none⟩ = some (.slice a5 (nf + k) c5) := (by simp [World.cell?, hq6]); have tf1 : w6.frozen? ⟨g, 1, none⟩ = false := (by simp [World.frozen?, hq6]); have HQ6 := Lib.hid hq6; have HO6 := Lib.hid hown6; have HG6 := Lib.hid hgrow; clear hq6 hown6 hgrow hat)
        have M6 := Lib.hid ((((HBL.out.alloc hsz _).alloc (by simp; omega) _).grown HG6.out (by simp; omega) (fun b hb => (HW.out.lt b hb).1)).setCell (p := ⟨g, 1, none⟩) (by show _ ≤ g; omega) (.slice (some ⟨g6, 0, none⟩) (nf + k + 1) cap'))
        have V6 := Lib.hid (own_set (o := 1) (u := .slice (some ⟨g6, 0, none⟩) (nf + k + 1) cap') (((HVR.out.alloc _).alloc _).kept HG6.out (own_or HVR.out HW.out (by decide))) HQ6.out (by decide))
        go_roundw
        case rel => exact ⟨k + 1, by omega, by go_num, ⟨_, _, set2_1 HQ6.out, by rw [HE.out]; exact own_set HO6.out HQ6.out (by decide)⟩, V6.out, M6.out⟩
        case measure => simp [intOf]; omega
      · obtain rfl : mf = k := by omega
        have B5 := Lib.hid (HW2.out.trans (HBL.out.mono HW2.out.size))
        have hs2 := HW2.out.size
        have HR5 := Lib.hid (heap_keep HBL.out HR.out)
        clear b1
        go_wp2_with (fail)
        refine (right_any a3 a5 (nv + mv) c3' (nf + mf) c5 (jV nv V W) (jF nv nf F G) _ (own_row3 HVR.out) (own_row3 HW.out) (by omega) (by omega)).mono ?_
        rintro e w3 ⟨rfl, hb3⟩
        have hr := heap_keep hb3 HR5.out
        have hlr := lt_of_heap hr
        unfold JB at hr
        have rc0 : w3.cell? ⟨w.heap.size + 1 + 1, 0, none⟩ = some (.slice none 0 0) := (by simp [World.cell?, hr]); have rf0 : w3.frozen? ⟨w.heap.size + 1 + 1, 0, none⟩ = false := (by simp [World.frozen?, hr]); have rc1 : w3.cell? ⟨w.heap.size + 1 + 1, 1, none⟩ = some (.slice none 0 0) := (by simp [World.cell?, hr]); have rf1 : w3.frozen? ⟨w.heap.size + 1 + 1, 1, none⟩ = false := (by simp [World.frozen?, hr])
        have HR7 := Lib.hid hr
        rw [HEE.out]
        have R := Lib.hid (((B5.out).trans (hb3.mono B5.out.size)).setCell (p := ⟨w.heap.size + 1 + 1, 0, none⟩) (by show _ ≤ w.heap.size + 1 + 1; omega) (.slice (za E a3) (zr E (nv + mv)) (zr E c3')) |>.setCell (p := ⟨w.heap.size + 1 + 1, 1, none⟩) (by show _ ≤ w.heap.size + 1 + 1; omega) (.slice (za E a5) (zr E (nf + mf)) (zr E c5)))
        have P1 := Lib.hid (own_set (o := 1) (u := .slice (za E a5) (zr E (nf + mf)) (zr E c5)) (own_set (o := 0) (u := .slice (za E a3) (zr E (nv + mv)) (zr E c3')) (ownsRow_below HVR.out hb3) HR7.out (by decide)) (set2_0 HR7.out) (by decide))
        have P2 := Lib.hid (own_set (o := 1) (u := .slice (za E a5) (zr E (nf + mf)) (zr E c5)) (own_set (o := 0) (u := .slice (za E a3) (zr E (nv + mv)) (zr E c3')) (ownsRow_below HW.out hb3) HR7.out (by decide)) (set2_0 HR7.out) (by decide))
        clear hr hb3
        go_wp2
        exact bodyPost_ret (v := .tuple #[.agg #[.slice (za E a3) (zr E (nv + mv)) (zr E c3'), .slice (za E a5) (zr E (nf + mf)) (zr E c5)], .int .i64 E]) (by simp [results, Try.results12, go_sem, rc0, rc1]) rfl (meshR_of P1.out P2.out (by omega) (by omega) R.out)
end Go.Proofs.Ytpgpjoghfpfhlaa

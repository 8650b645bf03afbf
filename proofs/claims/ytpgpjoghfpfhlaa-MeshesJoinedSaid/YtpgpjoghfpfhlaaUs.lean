/- The reference's mesh without the vertices that no face has. -/
import Derived.Test.YtpgpjoghfpfhlaaUf
import Derived.Test.YtpgpjoghfpfhlaaFos
import Derived.Test.YtpgpjoghfpfhlaaFl
import Derived.Test.YtpgpjoghfpfhlaaOpen
set_option linter.unusedSimpArgs false
set_option linter.unusedVariables false
namespace Go.Proofs.Ytpgpjoghfpfhlaa
open Go.RowKit Go.Maps

theorem made_map {w : World} {b : Nat} {P : Program} {k : TypeId} {R : Value → Option (DataW Unit × List MemPlace)} (h : w.heap.size = b) : (w.alloc (.map #[] 0)).ownsMap P k R b 0 (.map []) := by
  subst h; exact World.ownsMap_made _ _ _ _
theorem ownsMap_set {w : World} {b m : Nat} {k : TypeId} {P : Program} {R : Value → Option (DataW Unit × List MemPlace)} {D : DataW Unit} {p : Addr} {u : Value} (h : w.ownsMap P k R b m D) (hne : b ≠ p.block) : (w.setCell p u).ownsMap P k R b m D := by
  obtain ⟨es, clock, hh, r⟩ := h
  exact ⟨es, clock, (Below.heap_setCell _ _ _ _ hne).trans hh, r⟩
theorem ownsMap_mut {S : Nat → Prop} {w w' : World} {b m : Nat} {k : TypeId} {P : Program} {R : Value → Option (DataW Unit × List MemPlace)} {D : DataW Unit} (h : w.ownsMap P k R b m D) (hm : Mut S w w') (hs : ¬ S b) : w'.ownsMap P k R b m D := by
  have hl := h.lt
  obtain ⟨es, clock, hh, r⟩ := h
  exact ⟨es, clock, (hm.block b hl hs).trans hh, r⟩
theorem Below.toMut' {a b c : World} {B x : Nat} (h : Below B a b) (hm : Mut (· = x) b c) (hx : B ≤ x) (hB : B ≤ b.heap.size) : Below B a c :=
  ⟨hm.os.trans h.os, hm.tape.trans h.tape, hm.output.trans h.output, Nat.le_trans h.size hm.size, fun k hk => (hm.block k (by omega) (by omega)).trans (h.block k hk)⟩
theorem own_mapne {w : World} {base size n b m : Nat} {e k : TypeId} {P : Program} {R : Value → Option (DataW Unit × List MemPlace)} {v : Value} {xs : List Value} {D : DataW Unit} (h : w.ownsRow base e size v n xs) (hm : w.ownsMap P k R b m D) : v.ownBlock ≠ some b := by
  intro hv
  rcases h.2 with ⟨rfl, _⟩ | ⟨g, cap, cur, rfl, _, hg, _⟩
  · cases hv
  · simp only [Value.ownBlock, Option.some.injEq] at hv
    subst hv
    obtain ⟨es, clock, hh, _⟩ := hm
    rw [hg] at hh
    cases hh
theorem md_key (i : Nat) (h : i ≤ 1000000) : keyOf Try.prog 3 (.int .i64 (i : Int)) = some (.int .i64 (i : Int)) := keyOf_int_mk Try.underlying3 (WalkArith.wf_i64 (by omega))

set_option maxRecDepth 100000 in
set_option maxHeartbeats 16000000 in
theorem used_any (av af : Option Addr) (nv cv nf cf : Nat) (V F : Nat → V3) (w : World) (hv : Row3 w av nv V) (hf : Row3 w af nf F) (hnv : nv ≤ 1000000) (hnf : nf ≤ 1000000) (hI : Inb nv nf F) :
    Calls Try.prog 44 #[.agg #[.slice av nv cv, .slice af nf cf]] w (MeshP w (cnt (useB F nf) nv) (keepV (useB F nf) V nv) nf (fun i => rnf (place (useB F nf)) (F i))) := by
  obtain ⟨i0, hi0, hz0, hz1, hz2⟩ := info_parts info_vec
  obtain ⟨i1, hi1, hy0, hy1, hy2⟩ := info_parts info_face
  have hmm := @run_makeMap Try.prog
  have HV := Lib.hid hv
  have HF := Lib.hid hf
  have HI := Lib.hid hI
  generalize hU : useB F nf = U
  have HUU := Lib.hid hU
  clear hv hf hI hU
  go_enter Try.func44, Try.ntmps44
  go_wp2_with (fail)
  go_loopw [13] (fun i wr => ∃ k : Nat, k ≤ nv ∧ i = .int .i64 k ∧ wr.heap[w.heap.size]? = some (.cells #[.slice av nv cv, .slice af nf cf] 29 (0, 0)) ∧ wr.heap[w.heap.size + 1]? = some (.cells #[.slice none 0 0, .slice none 0 0] 29 (0, 0)) ∧ wr.ownsMap Try.prog 3 (plainElem Try.prog 3) (w.heap.size + 1 + 1) k (MD U k) ∧ (∃ ao co, wr.heap[w.heap.size + 1 + 1 + 1]? = some (.cells #[.slice ao (cnt U k) co, .slice none 0 0] 29 (0, 0)) ∧ wr.ownsRow (w.heap.size + 1) 47 3 (.slice ao (cnt U k) co) (cnt U k) (cells3 (keepV U V k) (cnt U k))) ∧ Below w.heap.size w wr) (fun i _ => nv - (intOf i).toNat)
  case atStart => exact ⟨0, by omega, rfl, (by repeat (first | (refine heap_new ?_; first | rfl | (simp; done)) | rw [Below.heap_setCell _ _ _ _ (by simp <;> omega)] | rw [Below.heap_alloc _ _ _ (by simp <;> omega)])), (by repeat (first | (refine heap_new ?_; first | rfl | (simp; done)) | rw [Below.heap_setCell _ _ _ _ (by simp <;> omega)] | rw [Below.heap_alloc _ _ _ (by simp <;> omega)])), (made_map (by simp)).alloc _, ⟨none, 0, heap_new (by simp), World.ownsRow_nil _ _ _ _⟩, (by repeat (first | exact Below.refl _ _ | assumption | refine Below.drew ?_ | refine bdrewN ?_ _ | refine Below.setCell ?_ (by first | omega | (simp <;> omega)) _ | refine Below.alloc ?_ (by first | omega | (simp <;> omega)) _))⟩
  case round =>
    obtain ⟨k, hk, rfl, hm, hr, hown, ⟨ao, co, ho, hrow⟩, hbel⟩ := hrel
    have hsz := hbel.size
    have lm := lt_of_heap hm
    have lr := lt_of_heap hr
    have lo := lt_of_heap ho
    have lk := hown.lt
    have HM := Lib.hid hm
    have HR := Lib.hid hr
    have HO := Lib.hid hown
    have HQ := Lib.hid ho
    have HW := Lib.hid hrow
    have HB := Lib.hid hbel
    have hcl := cnt_le U k
    have mc0 : wr.cell? ⟨w.heap.size, 0, none⟩ = some (.slice av nv cv) := (by simp [World.cell?, hm]); have mf0 : wr.frozen? ⟨w.heap.size, 0, none⟩ = false := (by simp [World.frozen?, hm]); have mc1 : wr.cell? ⟨w.heap.size, 1, none⟩ = some (.slice af nf cf) := (by simp [World.cell?, hm]); have mf1 : wr.frozen? ⟨w.heap.size, 1, none⟩ = false := (by simp [World.frozen?, hm])
    have oc0 : wr.cell? ⟨(w.heap.size + 1 + 1 + 1), 0, none⟩ = some (.slice ao (cnt U k) co) := (by simp [World.cell?, ho]); have of0 : wr.frozen? ⟨(w.heap.size + 1 + 1 + 1), 0, none⟩ = false := (by simp [World.frozen?, ho]); have oc1 : wr.cell? ⟨(w.heap.size + 1 + 1 + 1), 1, none⟩ = some (.slice none 0 0) := (by simp [World.cell?, ho]); have of1 : wr.frozen? ⟨(w.heap.size + 1 + 1 + 1), 1, none⟩ = false := (by simp [World.frozen?, ho])
    clear hm hr hown ho hrow hbel hmm
    by_cases hlt : k < nv
    · rcases HV.out with h | ⟨bf, of, rfl, hbf, hF⟩
      · omega
      obtain ⟨c0, c1, c2⟩ := (hF.kept HB.out hbf) k hlt
      have hbw : bf < wr.heap.size := by omega
      clear hF
      go_wp2_with (fail)
      refine (containsF_any wr.heap.size k af nf cf F _ (HF.out.kept ((HB.out.alloc hsz _).alloc (by simp; omega) _)) hnf (by simp [go_sem]) (by simp; omega)).mono ?_
      rintro e w1 ⟨rfl, hb1⟩
      have B1 : Below wr.heap.size wr w1 := Below.trans (by repeat (first | exact Below.refl _ _ | assumption | refine Below.drew ?_ | refine bdrewN ?_ _ | refine Below.setCell ?_ (by first | omega | (simp <;> omega)) _ | refine Below.alloc ?_ (by first | omega | (simp <;> omega)) _)) (hb1.mono (by simp; omega))
      have i5 : w1.cell? ⟨wr.heap.size, 0, none⟩ = some (.int .i64 k) := by rw [hb1.cell (by simp <;> omega)]; simp [go_sem]
      have v0 : w1.cell? ⟨wr.heap.size + 1, 0, none⟩ = some (.int .i64 (V k).x) := by rw [hb1.cell (by simp <;> omega)]; simp [go_sem]
      have v1 : w1.cell? ⟨wr.heap.size + 1, 1, none⟩ = some (.int .i64 (V k).y) := by rw [hb1.cell (by simp <;> omega)]; simp [go_sem]
      have v2 : w1.cell? ⟨wr.heap.size + 1, 2, none⟩ = some (.int .i64 (V k).z) := by rw [hb1.cell (by simp <;> omega)]; simp [go_sem]
      have z1 : wr.heap.size + 1 + 1 ≤ w1.heap.size := by have := hb1.size; simpa using this
      have z1a : wr.heap.size < w1.heap.size := by omega
      have z1b : wr.heap.size + 1 < w1.heap.size := by omega
      have HM1 := Lib.hid (heap_keep B1 HM.out)
      have HR1 := Lib.hid (heap_keep B1 HR.out)
      have HO1 := Lib.hid (ownsMap_below HO.out B1)
      have HW1 := Lib.hid (ownsRow_below HW.out B1)
      have HB1 := Lib.hid (HB.out.trans (B1.mono hsz))
      have hq1 := heap_keep B1 HQ.out
      have lq1 := lt_of_heap hq1
      have HQ1 := Lib.hid hq1
      have qc0 : w1.cell? ⟨(w.heap.size + 1 + 1 + 1), 0, none⟩ = some (.slice ao (cnt U k) co) := (by simp [World.cell?, hq1]); have qf0 : w1.frozen? ⟨(w.heap.size + 1 + 1 + 1), 0, none⟩ = false := (by simp [World.frozen?, hq1]); have qc1 : w1.cell? ⟨(w.heap.size + 1 + 1 + 1), 1, none⟩ = some (.slice none 0 0) := (by simp [World.cell?, hq1]); have qf1 : w1.frozen? ⟨(w.heap.size + 1 + 1 + 1), 1, none⟩ = false := (by simp [World.frozen?, hq1])
      have hs1 : w.heap.size ≤ w1.heap.size := HB1.out.size
      clear hb1 B1 hq1 c0 c1 c2 mc0 mf0 mc1 mf1 oc0 of0 oc1 of1
      rw [HUU.out]
      rcases hUk : U k with _ | _
      · have HK := Lib.hid hUk
        clear hUk
        go_wp2
        go_roundw
        case rel => exact ⟨k + 1, by omega, by go_num, HM1.out, HR1.out, by simp only [MD, HK.out]; exact HO1.out.mono (by omega), ⟨ao, co, by rw [show cnt U (k + 1) = cnt U k by simp [cnt, HK.out]]; exact HQ1.out, by rw [keep_no HK.out, show cnt U (k + 1) = cnt U k by simp [cnt, HK.out]]; exact HW1.out⟩, HB1.out⟩
        case measure => simp [intOf]; omega
      · have HK := Lib.hid hUk
        clear hUk
        go_wp2_with (first
          | (at_mapUpdate; refine wpList_mapUpdate_own _ rfl _ _ _ 98 rfl 3 3 (int_keyed Try.underlying3) Try.underlying98 _ (w.heap.size + 1 + 1) k _ rfl HO1.out (by unfold maxLen; omega) _ _ _ rfl rfl (md_key k (by omega)) _ [] (plainElem_int Try.underlying3 (WalkArith.wf_i64 (by omega))) ?_; intro w2 hown2 hgrow2; have HO2 := Lib.hid hown2; have HG2 := Lib.hid hgrow2; have hq2 := grow_keep hgrow2 HQ1.out (by simp); have lq2 := lt_of_heap hq2; have HQ2 := Lib.hid hq2; have sc0 : w2.cell? ⟨(w.heap.size + 1 + 1 + 1), 0, none⟩ = some (.slice ao (cnt U k) co) := (by simp [World.cell?, hq2]); have sf0 : w2.frozen? ⟨(w.heap.size + 1 + 1 + 1), 0, none⟩ = false := (by simp [World.frozen?, hq2]); have sc1 : w2.cell? ⟨(w.heap.size + 1 + 1 + 1), 1, none⟩ = some (.slice none 0 0) := (by simp [World.cell?, hq2]); have sf1 : w2.frozen? ⟨(w.heap.size + 1 + 1 + 1), 1, none⟩ = false := (by simp [World.frozen?, hq2]); have x0 := (hgrow2.cell_far ⟨wr.heap.size + 1, 0, none⟩ z1b (by simp; omega)).trans v0; have x1 := (hgrow2.cell_far ⟨wr.heap.size + 1, 1, none⟩ z1b (by simp; omega)).trans v1; have x2 := (hgrow2.cell_far ⟨wr.heap.size + 1, 2, none⟩ z1b (by simp; omega)).trans v2; have z2 := hgrow2.size; have z2b : wr.heap.size + 1 < w2.heap.size := (by omega); have HW2 := Lib.hid (HW1.out.kept hgrow2 (.inr (own_mapne HW1.out HO1.out))); clear hown2 hgrow2 hq2)
          | (at_builtin; refine wpList_append_lies _ rfl _ _ 26 rfl (w.heap.size + 1) 47 i0 (.agg #[.int .i64 0, .int .i64 0, .int .i64 0]) 3 24 Try.underlying26 hi0 hz0 hz1 hz2 rfl (by decide) _ _ _ rfl (HW2.out.alloc _) ⟨w2.heap.size, 0, none⟩ 1 1 [.int .i64 (V k).x, .int .i64 (V k).y, .int .i64 (V k).z] rfl rfl (World.news_of_block (cs := #[.int .i64 (V k).x, .int .i64 (V k).y, .int .i64 (V k).z]) (t := 47) (fr := (0, 0)) (heap_alloc_new w2 _)) (by simp [Value.oneCell']) (by omega) (by unfold maxLen; omega) (by omega) (by simp; omega) (w2.heap.size + 1) (by simp) ?_; intro g cap' w4 hown4 hgrow4 hat hlt4; have HO4 := Lib.hid hown4; have HG4 := Lib.hid hgrow4; have hq4 := grow_keep hgrow4 ((Below.heap_alloc w2 _ _ lq2).trans HQ2.out) (own_ne HW2.out HQ2.out (by decide)); have HQ4 := Lib.hid hq4; have tc0 : w4.cell? ⟨(w.heap.size + 1 + 1 + 1), 0, none⟩ = some (.slice ao (cnt U k) co) := (by simp [World.cell?, hq4]); have tf0 : w4.frozen? ⟨(w.heap.size + 1 + 1 + 1), 0, none⟩ = false := (by simp [World.frozen?, hq4]); have tc1 : w4.cell? ⟨(w.heap.size + 1 + 1 + 1), 1, none⟩ = some (.slice none 0 0) := (by simp [World.cell?, hq4]); have tf1 : w4.frozen? ⟨(w.heap.size + 1 + 1 + 1), 1, none⟩ = false := (by simp [World.frozen?, hq4]); clear hown4 hgrow4 hat hq4))
        have hz4 : w2.heap.size ≤ w4.heap.size := by have := HG4.out.size; simp at this; omega
        have hz2' := HG2.out.size
        have M4 := grow_keep HG4.out ((Below.heap_alloc w2 _ _ (by omega)).trans (grow_keep HG2.out HM1.out (by simp <;> omega))) (own_ne HW2.out (grow_keep HG2.out HM1.out (by simp <;> omega)) (by decide))
        have R4 := grow_keep HG4.out ((Below.heap_alloc w2 _ _ (by omega)).trans (grow_keep HG2.out HR1.out (by simp <;> omega))) (own_ne HW2.out (grow_keep HG2.out HR1.out (by simp <;> omega)) (by decide))
        have HM5 := Lib.hid ((Below.heap_setCell w4 ⟨w.heap.size + 1 + 1 + 1, 0, none⟩ (.slice (some ⟨g, 0, none⟩) (cnt U k + 1) cap') w.heap.size (by show w.heap.size ≠ w.heap.size + 1 + 1 + 1; omega)).trans M4)
        have HR5 := Lib.hid ((Below.heap_setCell w4 ⟨w.heap.size + 1 + 1 + 1, 0, none⟩ (.slice (some ⟨g, 0, none⟩) (cnt U k + 1) cap') (w.heap.size + 1) (by show w.heap.size + 1 ≠ w.heap.size + 1 + 1 + 1; omega)).trans R4)
        have HO5 := Lib.hid (ownsMap_set (p := ⟨w.heap.size + 1 + 1 + 1, 0, none⟩) (u := .slice (some ⟨g, 0, none⟩) (cnt U k + 1) cap') ((HO2.out.alloc _).kept HG4.out (fun e => own_mapne HW2.out HO2.out e.symm)) (by show w.heap.size + 1 + 1 ≠ w.heap.size + 1 + 1 + 1; omega))
        have HB5 := Lib.hid ((((HB1.out.grown HG2.out HB1.out.size (fun b hb => by simp at hb; omega)).alloc (by omega) _).grown HG4.out (by simp; omega) (fun b hb => by have := (HW2.out.lt b hb).1; omega)).setCell (p := ⟨w.heap.size + 1 + 1 + 1, 0, none⟩) (by show w.heap.size ≤ w.heap.size + 1 + 1 + 1; omega) (.slice (some ⟨g, 0, none⟩) (cnt U k + 1) cap'))
        clear M4 R4
        have hcs : cnt U (k + 1) = cnt U k + 1 := by simp [cnt, HK.out]
        have HCS := Lib.hid hcs
        clear hcs
        go_roundw
        case rel => exact ⟨k + 1, by omega, by go_num, HM5.out, HR5.out, by simp only [MD, HK.out]; exact HO5.out, ⟨_, _, by rw [HCS.out]; exact set2_0 HQ4.out, by rw [keep_yes HK.out, HCS.out]; exact own_set HO4.out HQ4.out (by decide)⟩, HB5.out⟩
        case measure => simp [intOf]; omega
    · obtain rfl : nv = k := by omega
      obtain ⟨w1, hw1⟩ : ∃ w1 : World, w1 = wr := ⟨_, rfl⟩
      subst hw1
      clear oc0 of0 oc1 of1
      go_wp2_with (fail)
      go_loopw [37] (fun i wr => ∃ k : Nat, k ≤ nf ∧ i = .int .i64 k ∧ (∃ a2 c2, wr.heap[w.heap.size + 1 + 1 + 1]? = some (.cells #[.slice ao (cnt U nv) co, .slice a2 k c2] 29 (0, 0)) ∧ wr.ownsRow w1.heap.size 52 3 (.slice a2 k c2) k (cells3 (fun i => rnf (place U) (F i)) k)) ∧ Mut (· = w.heap.size + 1 + 1 + 1) w1 wr) (fun i _ => nf - (intOf i).toNat)
      case atStart => exact ⟨0, by omega, rfl, ⟨none, 0, HQ.out, World.ownsRow_nil _ _ _ _⟩, Mut.refl _ _⟩
      case round =>
        obtain ⟨k, hk, rfl, ⟨a2, c2, hq, hrow⟩, hmt⟩ := hrel
        have hsz2 := hmt.size
        have HQ2 := Lib.hid hq
        have HF2 := Lib.hid hrow
        have HMT := Lib.hid hmt
        have lq := lt_of_heap hq
        have hm2 := (hmt.block w.heap.size lm (by omega)).trans HM.out
        have HM2 := Lib.hid hm2
        have lm2 := lt_of_heap hm2
        have HO2 := Lib.hid (ownsMap_mut HO.out hmt (by omega))
        clear mc0 mf0 mc1 mf1
        have mc0 : wr.cell? ⟨w.heap.size, 0, none⟩ = some (.slice av nv cv) := (by simp [World.cell?, hm2]); have mf0 : wr.frozen? ⟨w.heap.size, 0, none⟩ = false := (by simp [World.frozen?, hm2]); have mc1 : wr.cell? ⟨w.heap.size, 1, none⟩ = some (.slice af nf cf) := (by simp [World.cell?, hm2]); have mf1 : wr.frozen? ⟨w.heap.size, 1, none⟩ = false := (by simp [World.frozen?, hm2])
        have oc0 : wr.cell? ⟨(w.heap.size + 1 + 1 + 1), 0, none⟩ = some (.slice ao (cnt U nv) co) := (by simp [World.cell?, hq]); have of0 : wr.frozen? ⟨(w.heap.size + 1 + 1 + 1), 0, none⟩ = false := (by simp [World.frozen?, hq]); have oc1 : wr.cell? ⟨(w.heap.size + 1 + 1 + 1), 1, none⟩ = some (.slice a2 k c2) := (by simp [World.cell?, hq]); have of1 : wr.frozen? ⟨(w.heap.size + 1 + 1 + 1), 1, none⟩ = false := (by simp [World.frozen?, hq])
        clear hq hrow hmt hm2
        by_cases hlt : k < nf
        · rcases HF.out with h | ⟨bf, of, rfl, hbf, hF⟩
          · omega
          have hbf1 : bf < w1.heap.size := by have := HB.out.size; omega
          have hF1 := hF.kept HB.out hbf
          have e := fun o => HMT.out.cell (p := ⟨bf, o, none⟩) hbf1 (by show ¬ bf = w.heap.size + 1 + 1 + 1; omega)
          obtain ⟨c0, c1, c2'⟩ := hF1 k hlt
          replace c0 := (e _).trans c0
          replace c1 := (e _).trans c1
          replace c2' := (e _).trans c2'
          have hbw : bf < wr.heap.size := by omega
          obtain ⟨⟨x0, x1⟩, ⟨y0, y1⟩, z0, z1⟩ := HI.out k hlt
          obtain ⟨u1, u2, u3⟩ := useB_mem F nf k hlt ⟨x0, y0, z0⟩
          rw [HUU.out] at u1 u2 u3
          obtain ⟨i, hi⟩ := Int.eq_ofNat_of_zero_le x0
          obtain ⟨j, hj⟩ := Int.eq_ofNat_of_zero_le y0
          obtain ⟨l, hl⟩ := Int.eq_ofNat_of_zero_le z0
          have i1' : i < nv := by omega
          have j1 : j < nv := by omega
          have l1 : l < nv := by omega
          have HUi : Hid (U i = true) := Lib.hid (by rw [hi] at u1; simpa using u1)
          have HUj : Hid (U j = true) := Lib.hid (by rw [hj] at u2; simpa using u2)
          have HUl : Hid (U l = true) := Lib.hid (by rw [hl] at u3; simpa using u3)
          have HE : Hid (rnf (place U) (F k) = ⟨(cnt U i : Int), (cnt U j : Int), (cnt U l : Int)⟩) := Lib.hid (by simp [rnf, place, hi, hj, hl])
          rw [hi] at c0
          rw [hj] at c1
          rw [hl] at c2'
          clear hF hF1 e u1 u2 u3 hi hj hl x0 x1 y0 y1 z0 z1
          go_wp2_with (first
            | (at_lookup; refine wpList_lookup_own_int _ rfl _ _ 98 rfl 3 3 .i64 (int_keyed Try.underlying3) Try.underlying98 Try.underlying3 (zeroInt _) (w.heap.size + 1 + 1) nv _ rfl (HO2.out.alloc _) _ _ rfl (md_key i (by omega)) ?_; intro c hat hwc; obtain rfl : c = (cnt U i : Int) := (by rw [md_at i1' HUi.out] at hat; simpa using hat.symm); clear hat hwc)
            | (at_lookup; refine wpList_lookup_own_int _ rfl _ _ 98 rfl 3 3 .i64 (int_keyed Try.underlying3) Try.underlying98 Try.underlying3 (zeroInt _) (w.heap.size + 1 + 1) nv _ rfl (HO2.out.alloc _) _ _ rfl (md_key j (by omega)) ?_; intro c hat hwc; obtain rfl : c = (cnt U j : Int) := (by rw [md_at j1 HUj.out] at hat; simpa using hat.symm); clear hat hwc)
            | (at_lookup; refine wpList_lookup_own_int _ rfl _ _ 98 rfl 3 3 .i64 (int_keyed Try.underlying3) Try.underlying98 Try.underlying3 (zeroInt _) (w.heap.size + 1 + 1) nv _ rfl (HO2.out.alloc _) _ _ rfl (md_key l (by omega)) ?_; intro c hat hwc; obtain rfl : c = (cnt U l : Int) := (by rw [md_at l1 HUl.out] at hat; simpa using hat.symm); clear hat hwc)
            | (at_builtin; refine wpList_append_lies _ rfl _ _ 27 rfl w1.heap.size 52 i1 (.agg #[.int .i64 0, .int .i64 0, .int .i64 0]) 3 24 Try.underlying27 hi1 hy0 hy1 hy2 rfl (by decide) _ _ _ rfl ((HF2.out.alloc _).alloc _) ⟨wr.heap.size + 1, 0, none⟩ 1 1 [.int .i64 (cnt U i : Int), .int .i64 (cnt U j : Int), .int .i64 (cnt U l : Int)] rfl rfl (World.news_of_block (cs := #[.int .i64 (cnt U i : Int), .int .i64 (cnt U j : Int), .int .i64 (cnt U l : Int)]) (t := 52) (fr := (0, 0)) (heap_new (by simp))) (by simp [Value.oneCell']) (by omega) (by unfold maxLen; omega) (by omega) (by simp; omega) (wr.heap.size + 1 + 1) (by simp) ?_; intro g cap' w4 hown4 hgrow4 hat hlt4; have HO4 := Lib.hid hown4; have HG4 := Lib.hid hgrow4; have hq4 := grow_keep hgrow4 ((Below.heap_alloc _ _ _ (by simp; omega)).trans ((Below.heap_alloc wr _ _ lq).trans HQ2.out)) (own_ne HF2.out HQ2.out (by decide)); have HQ4 := Lib.hid hq4; have tc0 : w4.cell? ⟨(w.heap.size + 1 + 1 + 1), 0, none⟩ = some (.slice ao (cnt U nv) co) := (by simp [World.cell?, hq4]); have tf0 : w4.frozen? ⟨(w.heap.size + 1 + 1 + 1), 0, none⟩ = false := (by simp [World.frozen?, hq4]); have tc1 : w4.cell? ⟨(w.heap.size + 1 + 1 + 1), 1, none⟩ = some (.slice a2 k c2) := (by simp [World.cell?, hq4]); have tf1 : w4.frozen? ⟨(w.heap.size + 1 + 1 + 1), 1, none⟩ = false := (by simp [World.frozen?, hq4]); clear hown4 hgrow4 hat hq4))
          have M4 : Mut (· = w.heap.size + 1 + 1 + 1) w1 w4 := HMT.out.belowAt (B := w1.heap.size) ((((Below.refl _ wr).alloc hsz2 _).alloc (by simp; omega) _).grown HG4.out (by simp; omega) (fun b hb => (HF2.out.lt b hb).1)) (Nat.le_refl _)
          have M5 := Lib.hid (M4.setCell (p := ⟨w.heap.size + 1 + 1 + 1, 1, none⟩) (fun _ => rfl) (.slice (some ⟨g, 0, none⟩) (k + 1) cap'))
          clear M4
          go_roundw
          case rel => exact ⟨k + 1, by omega, by go_num, ⟨_, _, set2_1 HQ4.out, by simp only [cells3, HE.out]; exact own_set HO4.out HQ4.out (by decide)⟩, M5.out⟩
          case measure => simp [intOf]; omega
        · obtain rfl : nf = k := by omega
          have hr2 := (HMT.out.block (w.heap.size + 1) lr (by omega)).trans HR.out
          have lr2 := lt_of_heap hr2
          have HR2 := Lib.hid hr2
          have rc0 : wr.cell? ⟨(w.heap.size + 1), 0, none⟩ = some (.slice none 0 0) := (by simp [World.cell?, hr2]); have rf0 : wr.frozen? ⟨(w.heap.size + 1), 0, none⟩ = false := (by simp [World.frozen?, hr2]); have rc1 : wr.cell? ⟨(w.heap.size + 1), 1, none⟩ = some (.slice none 0 0) := (by simp [World.cell?, hr2]); have rf1 : wr.frozen? ⟨(w.heap.size + 1), 1, none⟩ = false := (by simp [World.frozen?, hr2])
          have hne3 : w.heap.size + 1 ≠ w.heap.size + 1 + 1 + 1 := by omega
          have hV2 := own_mut HW.out HMT.out (fun b hb e => own_ne HW.out HQ.out (by decide) (e ▸ hb))
          have O1 := own_set (o := 1) (u := .slice a2 nf c2) (own_set (o := 0) (u := .slice ao (cnt U nv) co) hV2 HR2.out (by decide)) (set2_0 HR2.out) (by decide)
          have O2 := own_set (o := 1) (u := .slice a2 nf c2) (own_set (o := 0) (u := .slice ao (cnt U nv) co) HF2.out HR2.out (by decide)) (set2_0 HR2.out) (by decide)
          have hB2 : Below w.heap.size w wr := Below.toMut' HB.out HMT.out (by omega) HB.out.size
          have R := Lib.hid (hB2.setCell (p := ⟨w.heap.size + 1, 0, none⟩) (by show _ ≤ w.heap.size + 1; omega) (.slice ao (cnt U nv) co) |>.setCell (p := ⟨w.heap.size + 1, 1, none⟩) (by show _ ≤ w.heap.size + 1; omega) (.slice a2 nf c2))
          have P1 := Lib.hid (own_base O1 (show w.heap.size ≤ w.heap.size + 1 by omega))
          have P2 := Lib.hid (own_base O2 (show w.heap.size ≤ w1.heap.size by omega))
          clear O1 O2 hr2 hV2 hB2
          go_wp2
          exact bodyPost_ret (v := .agg #[.slice ao (cnt U nv) co, .slice a2 nf c2]) (by simp [results, Try.results44, go_sem, rc0, rc1]) rfl ⟨ao, co, a2, c2, rfl, P1.out, P2.out, R.out⟩
end Go.Proofs.Ytpgpjoghfpfhlaa

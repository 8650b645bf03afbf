/- Meshes, as they are drawn: the walk. -/
import Derived.Test.YtmcebhjcaacbpaaAm
import Derived.Deep.AppendLies
import Derived.Deep.Cut
set_option linter.unusedSimpArgs false
set_option linter.unusedVariables false
namespace Go.Proofs.Ytmcebhjcaacbpaa
open Go.RowKit

set_option maxRecDepth 100000 in
set_option maxHeartbeats 16000000 in
theorem amesh_any (B k : Nat) (w : World) (hs : Strm w B k) (hk : k + 100 ≤ 1000000) :
    Calls Try.prog 14 #[.pointer (some ⟨B, 0, none⟩)] w (MeshE w B k) := by
  obtain ⟨i0, hi0, hz0, hz1, hz2⟩ := info_parts info_vec
  obtain ⟨i1, hi1, hy0, hy1, hy2⟩ := info_parts info_face
  have HA0 := Lib.hid (AM.start w hs)
  have hB := hs.lt
  clear hs
  go_enter Try.func14, Try.ntmps14
  go_wp2_with fail
  refine (range_any B k 1 2 _ HA0.out.s (by omega) (by omega) (by omega) (by omega)).mono ?_
  rintro e w1 ⟨⟨c, rfl, hc1, hc2⟩, hst1, hm1⟩
  obtain ⟨c, rfl⟩ := Int.eq_ofNat_of_zero_le (show 0 ≤ c by omega)
  have HA1 := Lib.hid (HA0.out.step hm1 hst1)
  clear hm1 hst1 HA0
  go_wp2_with fail
  go_loopw [11] (fun i wr => ∃ j : Nat, j ≤ c ∧ i = .int .i64 j ∧ ∃ av cv af cf nv nf, AM w wr B (k + 1 + 25 * j) (.slice av nv cv) (.slice af nf cf) nv nf ∧ nv ≤ 8 * j ∧ nf ≤ 12 * j ∧ (1 ≤ j → 1 ≤ nv ∧ 4 ≤ nf)) (fun i _ => c - (intOf i).toNat)
  case atStart => exact ⟨0, by omega, rfl, _, _, _, _, 0, 0, HA1.out, by omega, by omega, by omega⟩
  case round =>
    obtain ⟨j, hj, rfl, av, cv, af, cf, nv, nf, ham, hnv, hnf, hpos⟩ := hrel
    have HA := Lib.hid ham
    clear HA1
    obtain ⟨wo, rfl⟩ : ∃ wo : World, wo = wr := ⟨_, rfl⟩
    by_cases hlt : j < c
    · clear ham
      go_wp2_with fail
      refine (avec_any B _ _ HA.out.s (by omega)).mono ?_
      rintro e w2 ⟨⟨x, y, z, rfl, hx, hy, hz⟩, hst2, hm2⟩
      go_wp2_with fail
      refine (pick_new B _ [1, 6, 10] 3 (fun z => 0 ≤ z ∧ z ≤ 1000) w2 hst2 (by omega) rfl (by omega) (by omega) (by intro z hz; simp only [List.mem_cons, List.not_mem_nil, or_false] at hz; omega)).mono ?_
      rintro e w3 ⟨⟨n, rfl, hn⟩, hst3, hm3⟩
      go_wp2_with fail
      refine (tetra_any x y z n _ (by omega) (by omega) (by omega) hn).mono ?_
      intro e w4 hmade
      obtain ⟨gv2, cv2, gf2, cf2, rfl, hin4, hb4⟩ := made_slices hmade (by omega) (by omega)
      clear hmade
      have HA3 := Lib.hid (HA.out.step (hm2.trans hm3) hst3)
      have HA4 := Lib.hid (HA3.out.below hb4)
      have SEP := Lib.hid HA3.out.sep
      have HI4 := Lib.hid hin4
      have hs3 := hm3.size
      have hs2 := hm2.size
      have hs4 := hb4.size
      have hs0 := HA.out.z
      have HA5 := Lib.hid (HA4.out.below ((Below.refl _ w4).alloc (Nat.le_refl _) (.cells #[.slice (some ⟨gv2, 0, none⟩) 4 cv2, .slice (some ⟨gf2, 0, none⟩) 4 cf2] 29)))
      clear hin4 hb4 hm2 hm3 hst2 hst3 HA HA4
      go_wp2_with fail
      refine (flip_any B _ 2 _ HA5.out.s (by omega) (by omega) (by omega)).mono ?_
      rintro e w5 ⟨⟨b, rfl⟩, hst5, hm5⟩
      have hs5 := hm5.size
      simp at hs5
      have HA6 := Lib.hid (HA5.out.step hm5 hst5)
      have HN5 := Lib.hid ((hm5.block w4.heap.size (by simp) (by omega)).trans (heap_alloc_new w4 _))
      have HI5 := Lib.hid ((HI4.out.keep ((Mut.refl (fun _ => False) w4).alloc _) (fun _ _ _ h => h)).keep hm5 (fun b hb _ => by omega))
      clear hm5 hst5 HA5 HI4
      cases b
      · have HAW := HA6
        have HNW := HN5
        have HIW := HI5
        clear HA6 HN5 HI5
        go_upto_region 7 with (fail)
        have ham := HAW.out.m
        have hn := HNW.out
        have mc0 : w5.cell? ⟨w.heap.size + 1, 0, none⟩ = some (.slice av nv cv) := (by simp [World.cell?, ham]); have mf0 : w5.frozen? ⟨w.heap.size + 1, 0, none⟩ = false := (by simp [World.frozen?, ham]); have mc1 : w5.cell? ⟨w.heap.size + 1, 1, none⟩ = some (.slice af nf cf) := (by simp [World.cell?, ham]); have mf1 : w5.frozen? ⟨w.heap.size + 1, 1, none⟩ = false := (by simp [World.frozen?, ham])
        have nc0 : w5.cell? ⟨w4.heap.size, 0, none⟩ = some (.slice (some ⟨gv2, 0, none⟩) 4 cv2) := (by simp [World.cell?, hn]); have nf0 : w5.frozen? ⟨w4.heap.size, 0, none⟩ = false := (by simp [World.frozen?, hn]); have nc1 : w5.cell? ⟨w4.heap.size, 1, none⟩ = some (.slice (some ⟨gf2, 0, none⟩) 4 cf2) := (by simp [World.cell?, hn]); have nf1 : w5.frozen? ⟨w4.heap.size, 1, none⟩ = false := (by simp [World.frozen?, hn])
        clear ham hn
        by_cases hj0 : j = 0
        · have e0 : ((nf : Int) == 0) = true := by simp; omega
          have HT := Lib.hid ((HAW.out.take (HIW.out.weak (by omega))).more (kk' := k + 1 + 25 * (j + 1)) (by omega) (by omega))
          go_wp2
          go_roundw
          case rel => exact ⟨j + 1, by omega, by go_num, _, _, _, _, 4, 4, HT.out, by omega, by omega, by omega⟩
          case measure => simp [intOf]; omega
        · have e0 : ((nf : Int) == 0) = false := by simp; omega
          have hbase : w3.heap.size ≤ w5.heap.size := by omega
          obtain ⟨⟨xm, hxm, axm⟩, ym, hym, aym⟩ := HAW.out.i
          obtain ⟨⟨x2, hx2, ax2⟩, y2, hy2, ay2⟩ := HIW.out
          have HXM := Lib.hid hxm
          have HX2 := Lib.hid hx2
          have HAX := Lib.hid (axm.app ax2)
          have AX2 := Lib.hid ax2
          have HY2 := Lib.hid hy2
          have AY2 := Lib.hid ay2
          have hg2 := (hy2.lt gf2 rfl)
          have hne7 : w4.heap.size ≠ w.heap.size + 1 := by omega
          have hzW := HAW.out.z
          clear hxm axm hym aym hx2 ax2 hy2 ay2
          go_wp2_with (at_builtin; refine wpList_append_lies _ rfl _ _ 26 rfl (w.heap.size + 1 + 1) 39 i0 (.agg #[.int .i64 0, .int .i64 0, .int .i64 0]) 3 24 Try.underlying26 hi0 hz0 hz1 hz2 rfl (by decide) (.slice av nv cv) nv xm rfl HXM.out ⟨gv2, 0, none⟩ 4 cv2 x2 rfl HX2.out.1 (own_news HX2.out) AX2.out.one (by omega) (by unfold maxLen; omega) (by omega) (by omega) w5.heap.size rfl ?_; intro g cap' w6 hown6 hgrow6 hat6 hlt6; have hm6 := grow_keep hgrow6 HAW.out.m (own_ne HXM.out HAW.out.m (by decide)); have hn6 := grow_keep hgrow6 HNW.out (own_ne HXM.out HNW.out (by decide)); have pc0 : w6.cell? ⟨w.heap.size + 1, 0, none⟩ = some (.slice av nv cv) := (by simp [World.cell?, hm6]); have pf0 : w6.frozen? ⟨w.heap.size + 1, 0, none⟩ = false := (by simp [World.frozen?, hm6]); have pc1 : w6.cell? ⟨w.heap.size + 1, 1, none⟩ = some (.slice af nf cf) := (by simp [World.cell?, hm6]); have pf1 : w6.frozen? ⟨w.heap.size + 1, 1, none⟩ = false := (by simp [World.frozen?, hm6]); have qc0 : w6.cell? ⟨w4.heap.size, 0, none⟩ = some (.slice (some ⟨gv2, 0, none⟩) 4 cv2) := (by simp [World.cell?, hn6]); have qf0 : w6.frozen? ⟨w4.heap.size, 0, none⟩ = false := (by simp [World.frozen?, hn6]); have qc1 : w6.cell? ⟨w4.heap.size, 1, none⟩ = some (.slice (some ⟨gf2, 0, none⟩) 4 cf2) := (by simp [World.cell?, hn6]); have qf1 : w6.frozen? ⟨w4.heap.size, 1, none⟩ = false := (by simp [World.frozen?, hn6]); have HG6 := Lib.hid hgrow6; have HO6 := Lib.hid hown6; clear hm6 hn6 hgrow6 hown6 hat6)
          have HAV := Lib.hid ((HAW.out.addv HG6.out (by omega) HO6.out HAX.out).more (kk' := k + 1 + 25 * (j + 1)) (by omega) (by omega))
          have hM6 := mut_of_grown HG6.out
          have HY7 : Hid ((w6.setCell ⟨w.heap.size + 1, 0, none⟩ (.slice (some ⟨g, 0, none⟩) (nv + 4) cap')).ownsRow w3.heap.size 47 3 (.slice (some ⟨gf2, 0, none⟩) 4 cf2) 4 y2) := own_mut (own_mut HY2.out hM6 (fun b hb hb' => by
            simp only [Value.ownBlock, Option.some.injEq] at hb
            have := SEP.out b (.inl hb')
            omega)) ((Mut.refl (· = w.heap.size + 1) w6).setCell (p := ⟨w.heap.size + 1, 0, none⟩) (fun _ => rfl) _) (fun b hb hb' => by
            simp only [Value.ownBlock, Option.some.injEq] at hb
            omega)
          have hz7 : w5.heap.size ≤ (w6.setCell ⟨w.heap.size + 1, 0, none⟩ (.slice (some ⟨g, 0, none⟩) (nv + 4) cap')).heap.size := by
            show _ ≤ (w6.heap.modify _ _).size
            have := HG6.out.size
            simpa using this
          clear hM6 HG6 HO6 HXM HX2 HAX AX2 HY2 pc0 pf0 pc1 pf1 qc0 qf0 qc1 qf1 HNW HIW mc0 mf0 mc1 mf1 nc0 nf0 nc1 nf1 HAW
          generalize (w6.setCell ⟨w.heap.size + 1, 0, none⟩ (.slice (some ⟨g, 0, none⟩) (nv + 4) cap')) = w7 at *
          go_loopw [50] (fun i wr => ∃ t : Nat, t ≤ 4 ∧ i = .int .i64 t ∧ (∃ aft cft, AM w wr B (k + 1 + 25 * (j + 1)) (.slice (some ⟨g, 0, none⟩) (nv + 4) cap') (.slice aft (nf + t) cft) (nv + 4) (nf + t) ∧ (∀ b, (Value.slice aft (nf + t) cft).ownBlock = some b → b ≠ gf2)) ∧ wr.ownsRow w3.heap.size 47 3 (.slice (some ⟨gf2, 0, none⟩) 4 cf2) 4 y2) (fun i _ => 4 - (intOf i).toNat)
          case atStart => exact ⟨0, by omega, rfl, ⟨_, _, HAV.out, fun b hb e => by have := SEP.out b (.inr hb); omega⟩, HY7.out⟩
          case round =>
            obtain ⟨t, ht, rfl, ⟨aft, cft, ham, hne⟩, hy⟩ := hrel
            have HAT := Lib.hid ham
            have HNE := Lib.hid hne
            have HYT := Lib.hid hy
            clear HAV HY7
            by_cases htl : t < 4
            · obtain ⟨f0, ff0, ⟨p0, p0'⟩, _⟩ := own_cells hy AY2.out (t * 3) (by omega)
              obtain ⟨f1, ff1, ⟨p1, p1'⟩, _⟩ := own_cells hy AY2.out (t * 3 + 1) (by omega)
              obtain ⟨f2, ff2, ⟨p2, p2'⟩, _⟩ := own_cells hy AY2.out (t * 3 + 2) (by omega)
              obtain ⟨_, yt, hyt, ayt⟩ := ham.i
              have HYO := Lib.hid hyt
              have HYA := Lib.hid ayt
              have hmm := ham.m
              have hlm := lt_of_heap hmm
              have hzr := ham.z
              have mc0 : wr.cell? ⟨w.heap.size + 1, 0, none⟩ = some (.slice (some ⟨g, 0, none⟩) (nv + 4) cap') := (by simp [World.cell?, hmm]); have mf0 : wr.frozen? ⟨w.heap.size + 1, 0, none⟩ = false := (by simp [World.frozen?, hmm]); have mc1 : wr.cell? ⟨w.heap.size + 1, 1, none⟩ = some (.slice aft (nf + t) cft) := (by simp [World.cell?, hmm]); have mf1 : wr.frozen? ⟨w.heap.size + 1, 1, none⟩ = false := (by simp [World.frozen?, hmm])
              have HMM := Lib.hid hmm
              clear ham hne hy hyt ayt hmm
              go_wp2_with (at_builtin; refine wpList_append_lies _ rfl _ _ 27 rfl (w.heap.size + 1 + 1) 47 i1 (.agg #[.int .i64 0, .int .i64 0, .int .i64 0]) 3 24 Try.underlying27 hi1 hy0 hy1 hy2 rfl (by decide) (.slice aft (nf + t) cft) (nf + t) yt rfl ((HYO.out.alloc _).alloc _) ⟨wr.heap.size + 1, 0, none⟩ 1 1 [.int .i64 (f0 + (nv : Int)), .int .i64 (f1 + (nv : Int)), .int .i64 (f2 + (nv : Int))] rfl rfl (World.news_of_block (cs := #[.int .i64 (f0 + (nv : Int)), .int .i64 (f1 + (nv : Int)), .int .i64 (f2 + (nv : Int))]) (t := 47) (fr := (0, 0)) (heap_new (by simp))) (by simp [Value.oneCell']) (by omega) (by unfold maxLen; omega) (by omega) (by simp; omega) (wr.heap.size + 1 + 1) (by simp) ?_; intro g8 cap8 w8 hown8 hgrow8 hat8 hlt8; have hm8 := grow_keep hgrow8 ((Below.heap_alloc _ _ _ (by simp; omega)).trans ((Below.heap_alloc wr _ _ hlm).trans HMM.out)) (own_ne HYO.out HMM.out (by decide)); have pc0 : w8.cell? ⟨w.heap.size + 1, 0, none⟩ = some (.slice (some ⟨g, 0, none⟩) (nv + 4) cap') := (by simp [World.cell?, hm8]); have pf0 : w8.frozen? ⟨w.heap.size + 1, 0, none⟩ = false := (by simp [World.frozen?, hm8]); have pc1 : w8.cell? ⟨w.heap.size + 1, 1, none⟩ = some (.slice aft (nf + t) cft) := (by simp [World.cell?, hm8]); have pf1 : w8.frozen? ⟨w.heap.size + 1, 1, none⟩ = false := (by simp [World.frozen?, hm8]); have HG8 := Lib.hid hgrow8; have HO8 := Lib.hid hown8; have HT8 := Lib.hid hat8; clear hgrow8 hown8 hat8 hm8)
              have hl2 := (HYT.out.lt gf2 rfl).2
              have R8 := HAT.out.addf _ _ HG8.out HO8.out (HYA.out.app (AllInt.cons (by omega) (AllInt.cons (by omega) (AllInt.cons (by omega) AllInt.nil))))
              have R9 : (w8.setCell ⟨w.heap.size + 1, 1, none⟩ (.slice (some ⟨g8, 0, none⟩) (nf + t + 1) cap8)).ownsRow w3.heap.size 47 3 (.slice (some ⟨gf2, 0, none⟩) 4 cf2) 4 y2 :=
                own_mut (own_mut HYT.out ((((Mut.refl _ wr).alloc _).alloc _).trans (mut_of_grown HG8.out)) (fun b hb hb' => by
                  simp only [Value.ownBlock, Option.some.injEq] at hb
                  exact HNE.out b hb' hb.symm)) ((Mut.refl (· = w.heap.size + 1) w8).setCell (p := ⟨w.heap.size + 1, 1, none⟩) (fun _ => rfl) _) (fun b hb hb' => by
                  simp only [Value.ownBlock, Option.some.injEq] at hb
                  omega)
              have R10 : ∀ b, (Value.slice (some ⟨g8, 0, none⟩) (nf + t + 1) cap8).ownBlock = some b → b ≠ gf2 := fun b hb e => by
                simp only [Value.ownBlock, Option.some.injEq] at hb
                rcases HT8.out with h | h
                · exact HNE.out g8 h (by omega)
                · omega
              have HR8 := Lib.hid R8
              have HR9 := Lib.hid R9
              have HR10 := Lib.hid R10
              clear R8 R9 R10 HG8 HO8 HT8
              go_roundw
              case rel => exact ⟨t + 1, by omega, by go_num, ⟨_, _, HR8.out, HR10.out⟩, HR9.out⟩
              case measure => simp [intOf]; omega
            · obtain ht2 : t = 4 := by omega
              have HAF : Hid (AM w wr B (k + 1 + 25 * (j + 1)) (.slice (some ⟨g, 0, none⟩) (nv + 4) cap') (.slice aft (nf + 4) cft) (nv + 4) (nf + 4)) := by have := HAT.out; rw [ht2] at this; exact this
              clear ham hne hy
              go_wp2
              go_roundw
              case rel => exact ⟨j + 1, by omega, by go_num, _, _, _, _, _, _, HAF.out, by omega, by omega, by omega⟩
              case measure => simp [intOf]; omega
      · go_wp2_with fail
        refine (avec_any B _ w5 HA6.out.s (by omega)).mono ?_
        rintro e u1 ⟨⟨x', y', z', rfl, hx', hy', hz'⟩, hu1, hn1⟩
        go_wp2_with fail
        refine (pick_new B _ [1, 5] 2 (fun z => 0 ≤ z ∧ z ≤ 1000) u1 hu1 (by omega) rfl (by omega) (by omega) (by intro z hz; simp only [List.mem_cons, List.not_mem_nil, or_false] at hz; omega)).mono ?_
        rintro e u2 ⟨⟨p, rfl, hp⟩, hu2, hn2⟩
        go_wp2_with fail
        refine (pick_new B _ [2, 10] 2 (fun z => 0 ≤ z ∧ z ≤ 1000) u2 hu2 (by omega) rfl (by omega) (by omega) (by intro z hz; simp only [List.mem_cons, List.not_mem_nil, or_false] at hz; omega)).mono ?_
        rintro e u3 ⟨⟨q, rfl, hq⟩, hu3, hn3⟩
        go_wp2_with fail
        refine (pick_new B _ [3, 8] 2 (fun z => 0 ≤ z ∧ z ≤ 1000) u3 hu3 (by omega) rfl (by omega) (by omega) (by intro z hz; simp only [List.mem_cons, List.not_mem_nil, or_false] at hz; omega)).mono ?_
        rintro e u4 ⟨⟨r, rfl, hr⟩, hu4, hn4⟩
        have hmm := ((hn1.trans hn2).trans hn3).trans hn4
        have HB1 := Lib.hid (HA6.out.step hmm hu4)
        have HN6 := Lib.hid ((hmm.block w4.heap.size (by omega) (by omega)).trans HN5.out)
        have hsm := hmm.size
        clear hn1 hn2 hn3 hn4 hmm hu1 hu2 hu3 hu4 HA6 HN5 HI5
        go_wp2_with fail
        refine (block_any x' y' z' p q r _ (by omega) (by omega) (by omega) hp hq hr).mono ?_
        intro e u5 hmade2
        obtain ⟨gv3, cv3, gf3, cf3, rfl, hin5, hb5⟩ := made_slices hmade2 (by omega) (by omega)
        clear hmade2
        have HB2 := Lib.hid (HB1.out.below hb5)
        have hn7 := (hb5.block w4.heap.size (by omega)).trans HN6.out
        have hs7 := hb5.size
        have HC0 := Lib.hid ((HB2.out.setn (o := 0) (u := .slice (some ⟨gv3, 0, none⟩) 8 cv3) hn7 (by omega)).setn (o := 1) (u := .slice (some ⟨gf3, 0, none⟩) 12 cf3) (set2_0 hn7) (by omega))
        have HC1 := Lib.hid (set2_1 (u := .slice (some ⟨gf3, 0, none⟩) 12 cf3) (set2_0 (u := .slice (some ⟨gv3, 0, none⟩) 8 cv3) hn7))
        have HC2 := Lib.hid ((hin5.setn (o := 0) (u := .slice (some ⟨gv3, 0, none⟩) 8 cv3) hn7).setn (o := 1) (u := .slice (some ⟨gf3, 0, none⟩) 12 cf3) (set2_0 hn7))
        have nc0 : u5.cell? ⟨w4.heap.size, 0, none⟩ = some (.slice (some ⟨gv2, 0, none⟩) 4 cv2) := (by simp [World.cell?, hn7]); have nf0 : u5.frozen? ⟨w4.heap.size, 0, none⟩ = false := (by simp [World.frozen?, hn7]); have nc1 : u5.cell? ⟨w4.heap.size, 1, none⟩ = some (.slice (some ⟨gf2, 0, none⟩) 4 cf2) := (by simp [World.cell?, hn7]); have nf1 : u5.frozen? ⟨w4.heap.size, 1, none⟩ = false := (by simp [World.frozen?, hn7])
        have hz8 : u5.heap.size = ((u5.setCell ⟨w4.heap.size, 0, none⟩ (.slice (some ⟨gv3, 0, none⟩) 8 cv3)).setCell ⟨w4.heap.size, 1, none⟩ (.slice (some ⟨gf3, 0, none⟩) 12 cf3)).heap.size := by simp [World.setCell]
        have hz9 : u5.heap.size ≤ ((u5.setCell ⟨w4.heap.size, 0, none⟩ (.slice (some ⟨gv3, 0, none⟩) 8 cv3)).setCell ⟨w4.heap.size, 1, none⟩ (.slice (some ⟨gf3, 0, none⟩) 12 cf3)).heap.size := by omega
        clear hn7 hin5 hb5 HB2 HB1 HN6 hz8
        go_upto_region 7 with (fail)
        clear nc0 nf0 nc1 nf1
        generalize ((u5.setCell ⟨w4.heap.size, 0, none⟩ (.slice (some ⟨gv3, 0, none⟩) 8 cv3)).setCell ⟨w4.heap.size, 1, none⟩ (.slice (some ⟨gf3, 0, none⟩) 12 cf3)) = W5 at *
        have HAW := HC0
        have HNW := HC1
        have HIW := HC2
        clear HC0 HC1 HC2
        have ham := HAW.out.m
        have hn := HNW.out
        have mc0 : W5.cell? ⟨w.heap.size + 1, 0, none⟩ = some (.slice av nv cv) := (by simp [World.cell?, ham]); have mf0 : W5.frozen? ⟨w.heap.size + 1, 0, none⟩ = false := (by simp [World.frozen?, ham]); have mc1 : W5.cell? ⟨w.heap.size + 1, 1, none⟩ = some (.slice af nf cf) := (by simp [World.cell?, ham]); have mf1 : W5.frozen? ⟨w.heap.size + 1, 1, none⟩ = false := (by simp [World.frozen?, ham])
        have nc0 : W5.cell? ⟨w4.heap.size, 0, none⟩ = some (.slice (some ⟨gv3, 0, none⟩) 8 cv3) := (by simp [World.cell?, hn]); have nf0 : W5.frozen? ⟨w4.heap.size, 0, none⟩ = false := (by simp [World.frozen?, hn]); have nc1 : W5.cell? ⟨w4.heap.size, 1, none⟩ = some (.slice (some ⟨gf3, 0, none⟩) 12 cf3) := (by simp [World.cell?, hn]); have nf1 : W5.frozen? ⟨w4.heap.size, 1, none⟩ = false := (by simp [World.frozen?, hn])
        clear ham hn
        by_cases hj0 : j = 0
        · have e0 : ((nf : Int) == 0) = true := by simp; omega
          have HT := Lib.hid ((HAW.out.take (HIW.out.weak (by omega))).more (kk' := k + 1 + 25 * (j + 1)) (by omega) (by omega))
          go_wp2
          go_roundw
          case rel => exact ⟨j + 1, by omega, by go_num, _, _, _, _, 8, 12, HT.out, by omega, by omega, by omega⟩
          case measure => simp [intOf]; omega
        · have e0 : ((nf : Int) == 0) = false := by simp; omega
          have hbase : u4.heap.size ≤ W5.heap.size := by omega
          obtain ⟨⟨xm, hxm, axm⟩, ym, hym, aym⟩ := HAW.out.i
          obtain ⟨⟨x2, hx2, ax2⟩, y2, hy2, ay2⟩ := HIW.out
          have HXM := Lib.hid hxm
          have HX2 := Lib.hid hx2
          have HAX := Lib.hid (axm.app ax2)
          have AX2 := Lib.hid ax2
          have HY2 := Lib.hid hy2
          have AY2 := Lib.hid ay2
          have hg2 := (hy2.lt gf3 rfl)
          have hne7 : w4.heap.size ≠ w.heap.size + 1 := by omega
          have hzW := HAW.out.z
          clear hxm axm hym aym hx2 ax2 hy2 ay2
          go_wp2_with (at_builtin; refine wpList_append_lies _ rfl _ _ 26 rfl (w.heap.size + 1 + 1) 39 i0 (.agg #[.int .i64 0, .int .i64 0, .int .i64 0]) 3 24 Try.underlying26 hi0 hz0 hz1 hz2 rfl (by decide) (.slice av nv cv) nv xm rfl HXM.out ⟨gv3, 0, none⟩ 8 cv3 x2 rfl HX2.out.1 (own_news HX2.out) AX2.out.one (by omega) (by unfold maxLen; omega) (by omega) (by omega) W5.heap.size rfl ?_; intro g cap' w6 hown6 hgrow6 hat6 hlt6; have hm6 := grow_keep hgrow6 HAW.out.m (own_ne HXM.out HAW.out.m (by decide)); have hn6 := grow_keep hgrow6 HNW.out (own_ne HXM.out HNW.out (by decide)); have pc0 : w6.cell? ⟨w.heap.size + 1, 0, none⟩ = some (.slice av nv cv) := (by simp [World.cell?, hm6]); have pf0 : w6.frozen? ⟨w.heap.size + 1, 0, none⟩ = false := (by simp [World.frozen?, hm6]); have pc1 : w6.cell? ⟨w.heap.size + 1, 1, none⟩ = some (.slice af nf cf) := (by simp [World.cell?, hm6]); have pf1 : w6.frozen? ⟨w.heap.size + 1, 1, none⟩ = false := (by simp [World.frozen?, hm6]); have qc0 : w6.cell? ⟨w4.heap.size, 0, none⟩ = some (.slice (some ⟨gv3, 0, none⟩) 8 cv3) := (by simp [World.cell?, hn6]); have qf0 : w6.frozen? ⟨w4.heap.size, 0, none⟩ = false := (by simp [World.frozen?, hn6]); have qc1 : w6.cell? ⟨w4.heap.size, 1, none⟩ = some (.slice (some ⟨gf3, 0, none⟩) 12 cf3) := (by simp [World.cell?, hn6]); have qf1 : w6.frozen? ⟨w4.heap.size, 1, none⟩ = false := (by simp [World.frozen?, hn6]); have HG6 := Lib.hid hgrow6; have HO6 := Lib.hid hown6; clear hm6 hn6 hgrow6 hown6 hat6)
          have HAV := Lib.hid ((HAW.out.addv HG6.out (by omega) HO6.out HAX.out).more (kk' := k + 1 + 25 * (j + 1)) (by omega) (by omega))
          have hM6 := mut_of_grown HG6.out
          have HY7 : Hid ((w6.setCell ⟨w.heap.size + 1, 0, none⟩ (.slice (some ⟨g, 0, none⟩) (nv + 8) cap')).ownsRow u4.heap.size 47 3 (.slice (some ⟨gf3, 0, none⟩) 12 cf3) 12 y2) := own_mut (own_mut HY2.out hM6 (fun b hb hb' => by
            simp only [Value.ownBlock, Option.some.injEq] at hb
            have := SEP.out b (.inl hb')
            omega)) ((Mut.refl (· = w.heap.size + 1) w6).setCell (p := ⟨w.heap.size + 1, 0, none⟩) (fun _ => rfl) _) (fun b hb hb' => by
            simp only [Value.ownBlock, Option.some.injEq] at hb
            omega)
          have hz7 : W5.heap.size ≤ (w6.setCell ⟨w.heap.size + 1, 0, none⟩ (.slice (some ⟨g, 0, none⟩) (nv + 8) cap')).heap.size := by
            show _ ≤ (w6.heap.modify _ _).size
            have := HG6.out.size
            simpa using this
          clear hM6 HG6 HO6 HXM HX2 HAX AX2 HY2 pc0 pf0 pc1 pf1 qc0 qf0 qc1 qf1 HNW HIW mc0 mf0 mc1 mf1 nc0 nf0 nc1 nf1 HAW
          generalize (w6.setCell ⟨w.heap.size + 1, 0, none⟩ (.slice (some ⟨g, 0, none⟩) (nv + 8) cap')) = w7 at *
          go_loopw [50] (fun i wr => ∃ t : Nat, t ≤ 12 ∧ i = .int .i64 t ∧ (∃ aft cft, AM w wr B (k + 1 + 25 * (j + 1)) (.slice (some ⟨g, 0, none⟩) (nv + 8) cap') (.slice aft (nf + t) cft) (nv + 8) (nf + t) ∧ (∀ b, (Value.slice aft (nf + t) cft).ownBlock = some b → b ≠ gf3)) ∧ wr.ownsRow u4.heap.size 47 3 (.slice (some ⟨gf3, 0, none⟩) 12 cf3) 12 y2) (fun i _ => 12 - (intOf i).toNat)
          case atStart => exact ⟨0, by omega, rfl, ⟨_, _, HAV.out, fun b hb e => by have := SEP.out b (.inr hb); omega⟩, HY7.out⟩
          case round =>
            obtain ⟨t, ht, rfl, ⟨aft, cft, ham, hne⟩, hy⟩ := hrel
            have HAT := Lib.hid ham
            have HNE := Lib.hid hne
            have HYT := Lib.hid hy
            clear HAV HY7
            by_cases htl : t < 12
            · obtain ⟨f0, ff0, ⟨p0, p0'⟩, _⟩ := own_cells hy AY2.out (t * 3) (by omega)
              obtain ⟨f1, ff1, ⟨p1, p1'⟩, _⟩ := own_cells hy AY2.out (t * 3 + 1) (by omega)
              obtain ⟨f2, ff2, ⟨p2, p2'⟩, _⟩ := own_cells hy AY2.out (t * 3 + 2) (by omega)
              obtain ⟨_, yt, hyt, ayt⟩ := ham.i
              have HYO := Lib.hid hyt
              have HYA := Lib.hid ayt
              have hmm := ham.m
              have hlm := lt_of_heap hmm
              have hzr := ham.z
              have mc0 : wr.cell? ⟨w.heap.size + 1, 0, none⟩ = some (.slice (some ⟨g, 0, none⟩) (nv + 8) cap') := (by simp [World.cell?, hmm]); have mf0 : wr.frozen? ⟨w.heap.size + 1, 0, none⟩ = false := (by simp [World.frozen?, hmm]); have mc1 : wr.cell? ⟨w.heap.size + 1, 1, none⟩ = some (.slice aft (nf + t) cft) := (by simp [World.cell?, hmm]); have mf1 : wr.frozen? ⟨w.heap.size + 1, 1, none⟩ = false := (by simp [World.frozen?, hmm])
              have HMM := Lib.hid hmm
              clear ham hne hy hyt ayt hmm
              go_wp2_with (at_builtin; refine wpList_append_lies _ rfl _ _ 27 rfl (w.heap.size + 1 + 1) 47 i1 (.agg #[.int .i64 0, .int .i64 0, .int .i64 0]) 3 24 Try.underlying27 hi1 hy0 hy1 hy2 rfl (by decide) (.slice aft (nf + t) cft) (nf + t) yt rfl ((HYO.out.alloc _).alloc _) ⟨wr.heap.size + 1, 0, none⟩ 1 1 [.int .i64 (f0 + (nv : Int)), .int .i64 (f1 + (nv : Int)), .int .i64 (f2 + (nv : Int))] rfl rfl (World.news_of_block (cs := #[.int .i64 (f0 + (nv : Int)), .int .i64 (f1 + (nv : Int)), .int .i64 (f2 + (nv : Int))]) (t := 47) (fr := (0, 0)) (heap_new (by simp))) (by simp [Value.oneCell']) (by omega) (by unfold maxLen; omega) (by omega) (by simp; omega) (wr.heap.size + 1 + 1) (by simp) ?_; intro g8 cap8 w8 hown8 hgrow8 hat8 hlt8; have hm8 := grow_keep hgrow8 ((Below.heap_alloc _ _ _ (by simp; omega)).trans ((Below.heap_alloc wr _ _ hlm).trans HMM.out)) (own_ne HYO.out HMM.out (by decide)); have pc0 : w8.cell? ⟨w.heap.size + 1, 0, none⟩ = some (.slice (some ⟨g, 0, none⟩) (nv + 8) cap') := (by simp [World.cell?, hm8]); have pf0 : w8.frozen? ⟨w.heap.size + 1, 0, none⟩ = false := (by simp [World.frozen?, hm8]); have pc1 : w8.cell? ⟨w.heap.size + 1, 1, none⟩ = some (.slice aft (nf + t) cft) := (by simp [World.cell?, hm8]); have pf1 : w8.frozen? ⟨w.heap.size + 1, 1, none⟩ = false := (by simp [World.frozen?, hm8]); have HG8 := Lib.hid hgrow8; have HO8 := Lib.hid hown8; have HT8 := Lib.hid hat8; clear hgrow8 hown8 hat8 hm8)
              have hl2 := (HYT.out.lt gf3 rfl).2
              have R8 := HAT.out.addf _ _ HG8.out HO8.out (HYA.out.app (AllInt.cons (by omega) (AllInt.cons (by omega) (AllInt.cons (by omega) AllInt.nil))))
              have R9 : (w8.setCell ⟨w.heap.size + 1, 1, none⟩ (.slice (some ⟨g8, 0, none⟩) (nf + t + 1) cap8)).ownsRow u4.heap.size 47 3 (.slice (some ⟨gf3, 0, none⟩) 12 cf3) 12 y2 :=
                own_mut (own_mut HYT.out ((((Mut.refl _ wr).alloc _).alloc _).trans (mut_of_grown HG8.out)) (fun b hb hb' => by
                  simp only [Value.ownBlock, Option.some.injEq] at hb
                  exact HNE.out b hb' hb.symm)) ((Mut.refl (· = w.heap.size + 1) w8).setCell (p := ⟨w.heap.size + 1, 1, none⟩) (fun _ => rfl) _) (fun b hb hb' => by
                  simp only [Value.ownBlock, Option.some.injEq] at hb
                  omega)
              have R10 : ∀ b, (Value.slice (some ⟨g8, 0, none⟩) (nf + t + 1) cap8).ownBlock = some b → b ≠ gf3 := fun b hb e => by
                simp only [Value.ownBlock, Option.some.injEq] at hb
                rcases HT8.out with h | h
                · exact HNE.out g8 h (by omega)
                · omega
              have HR8 := Lib.hid R8
              have HR9 := Lib.hid R9
              have HR10 := Lib.hid R10
              clear R8 R9 R10 HG8 HO8 HT8
              go_roundw
              case rel => exact ⟨t + 1, by omega, by go_num, ⟨_, _, HR8.out, HR10.out⟩, HR9.out⟩
              case measure => simp [intOf]; omega
            · obtain ht2 : t = 12 := by omega
              have HAF : Hid (AM w wr B (k + 1 + 25 * (j + 1)) (.slice (some ⟨g, 0, none⟩) (nv + 8) cap') (.slice aft (nf + 12) cft) (nv + 8) (nf + 12)) := by have := HAT.out; rw [ht2] at this; exact this
              clear ham hne hy
              go_wp2
              go_roundw
              case rel => exact ⟨j + 1, by omega, by go_num, _, _, _, _, _, _, HAF.out, by omega, by omega, by omega⟩
              case measure => simp [intOf]; omega
    · have hjc : j = c := by omega
      have hp := hpos (by omega)
      obtain ⟨⟨x0, o0, a0⟩, y0, o1, a1⟩ := ham.i
      obtain ⟨gv, cv', hgv, _⟩ := o0.form (by omega)
      obtain ⟨gf, cf', hgf, _⟩ := o1.form (by omega)
      simp only [Value.slice.injEq, true_and] at hgv hgf
      obtain ⟨rfl, rfl⟩ := hgv
      obtain ⟨rfl, rfl⟩ := hgf
      clear ham o0 a0 o1 a1 hpos
      go_wp2_with fail
      refine (flip_any B _ 3 _ HA.out.s (by omega) (by omega) (by omega)).mono ?_
      rintro e y1 ⟨⟨b, rfl⟩, hy1s, hy1m⟩
      have HAW := Lib.hid (HA.out.step hy1m hy1s)
      clear hy1m hy1s HA
      cases b
      · go_wp2_with fail
        refine (flip_any B _ 8 _ HAW.out.s (by omega) (by omega) (by omega)).mono ?_
        rintro e y2 ⟨⟨b, rfl⟩, hy2s, hy2m⟩
        have HA2 := Lib.hid (HAW.out.step hy2m hy2s)
        clear hy2m hy2s HAW
        have hr2 := HA2.out.r
        have hm2 := HA2.out.m
        have hs2 := HA2.out.z
        cases b
        · have mc0 : y2.cell? ⟨w.heap.size + 1, 0, none⟩ = some (.slice (some ⟨gv, 0, none⟩) nv cv) := (by simp [World.cell?, hm2]); have mf0 : y2.frozen? ⟨w.heap.size + 1, 0, none⟩ = false := (by simp [World.frozen?, hm2]); have mc1 : y2.cell? ⟨w.heap.size + 1, 1, none⟩ = some (.slice (some ⟨gf, 0, none⟩) nf cf) := (by simp [World.cell?, hm2]); have mf1 : y2.frozen? ⟨w.heap.size + 1, 1, none⟩ = false := (by simp [World.frozen?, hm2])
          have rc0 : y2.cell? ⟨w.heap.size, 0, none⟩ = some (.slice none 0 0) := (by simp [World.cell?, hr2]); have rf0 : y2.frozen? ⟨w.heap.size, 0, none⟩ = false := (by simp [World.frozen?, hr2]); have rc1 : y2.cell? ⟨w.heap.size, 1, none⟩ = some (.slice none 0 0) := (by simp [World.cell?, hr2]); have rf1 : y2.frozen? ⟨w.heap.size, 1, none⟩ = false := (by simp [World.frozen?, hr2])
          have HE := Lib.hid (mesh_end (k := k) HA2.out.i.any hB (by omega) hr2 HA2.out.s (by omega) hk HA2.out.u (by omega) (by omega))
          clear hr2 hm2
          go_wp2
          exact bodyPost_ret (v := .agg #[.slice (some ⟨gv, 0, none⟩) nv cv, .slice (some ⟨gf, 0, none⟩) nf cf]) (by simp [results, Try.results14, go_sem, rc0, rc1]) rfl HE.out
        · clear hr2
          go_wp2_with fail
          refine (spoil_any B (w.heap.size + 1) (w.heap.size + 1) _ nv _ gv cv gf cf y2 HA2.out.s (by omega) (by omega) (by omega) hm2 (HA2.out.i.weak (by omega)) (by omega) (by omega) (by omega) (by omega)).mono ?_
          rintro e y3 ⟨rfl, sv3, sf3, nf3, hle3, hm3, hany3, hst3, hmu3⟩
          obtain ⟨⟨x3, o3, a3⟩, z3, o4, a4⟩ := hany3
          obtain ⟨av3, cv3, rfl⟩ := own_slice' o3
          obtain ⟨af3, cf3, rfl⟩ := own_slice' o4
          have hr3 := (hmu3.block w.heap.size (by omega) (by omega)).trans HA2.out.r
          have mc0 : y3.cell? ⟨w.heap.size + 1, 0, none⟩ = some (.slice av3 nv cv3) := (by simp [World.cell?, hm3]); have mf0 : y3.frozen? ⟨w.heap.size + 1, 0, none⟩ = false := (by simp [World.frozen?, hm3]); have mc1 : y3.cell? ⟨w.heap.size + 1, 1, none⟩ = some (.slice af3 nf3 cf3) := (by simp [World.cell?, hm3]); have mf1 : y3.frozen? ⟨w.heap.size + 1, 1, none⟩ = false := (by simp [World.frozen?, hm3])
          have rc0 : y3.cell? ⟨w.heap.size, 0, none⟩ = some (.slice none 0 0) := (by simp [World.cell?, hr3]); have rf0 : y3.frozen? ⟨w.heap.size, 0, none⟩ = false := (by simp [World.frozen?, hr3]); have rc1 : y3.cell? ⟨w.heap.size, 1, none⟩ = some (.slice none 0 0) := (by simp [World.cell?, hr3]); have rf1 : y3.frozen? ⟨w.heap.size, 1, none⟩ = false := (by simp [World.frozen?, hr3])
          have HU3 : Mut (· = B) w y3 := by
            have u := HA2.out.u
            exact ⟨hmu3.os.trans u.os, hmu3.tape.trans u.tape, hmu3.output.trans u.output, Nat.le_trans u.size hmu3.size, fun k hk hn => (hmu3.block k (by have := u.size; omega) (by omega)).trans (u.block k hk hn)⟩
          have HE := Lib.hid (mesh_end (k := k) ⟨⟨x3, o3, a3⟩, z3, o4, a4⟩ hB (by omega) hr3 hst3 (by omega) hk HU3 (by omega) (by omega))
          clear hr3 hm2 hm3 o3 a3 o4 a4 hst3 hmu3 HU3
          go_wp2
          exact bodyPost_ret (v := .agg #[.slice av3 nv cv3, .slice af3 nf3 cf3]) (by simp [results, Try.results14, go_sem, rc0, rc1]) rfl HE.out
      · have hmm := HAW.out.m
        have mc0 : y1.cell? ⟨w.heap.size + 1, 0, none⟩ = some (.slice (some ⟨gv, 0, none⟩) nv cv) := (by simp [World.cell?, hmm]); have mf0 : y1.frozen? ⟨w.heap.size + 1, 0, none⟩ = false := (by simp [World.frozen?, hmm]); have mc1 : y1.cell? ⟨w.heap.size + 1, 1, none⟩ = some (.slice (some ⟨gf, 0, none⟩) nf cf) := (by simp [World.cell?, hmm]); have mf1 : y1.frozen? ⟨w.heap.size + 1, 1, none⟩ = false := (by simp [World.frozen?, hmm])
        clear hmm
        go_wp2_with fail
        refine (next_any B _ nf y1 HAW.out.s (by omega) (by omega) (by omega)).mono ?_
        rintro e y4 ⟨⟨r, rfl, hr0, hr1⟩, hy4s, hy4m⟩
        obtain ⟨r, rfl⟩ := Int.eq_ofNat_of_zero_le hr0
        have HB := Lib.hid (HAW.out.step hy4m hy4s)
        clear hy4m hy4s HAW mc0 mf0 mc1 mf1
        have hmm := HB.out.m
        have mc0 : y4.cell? ⟨w.heap.size + 1, 0, none⟩ = some (.slice (some ⟨gv, 0, none⟩) nv cv) := (by simp [World.cell?, hmm]); have mf0 : y4.frozen? ⟨w.heap.size + 1, 0, none⟩ = false := (by simp [World.frozen?, hmm]); have mc1 : y4.cell? ⟨w.heap.size + 1, 1, none⟩ = some (.slice (some ⟨gf, 0, none⟩) nf cf) := (by simp [World.cell?, hmm]); have mf1 : y4.frozen? ⟨w.heap.size + 1, 1, none⟩ = false := (by simp [World.frozen?, hmm])
        clear hmm
        obtain ⟨_, yd, od, ad⟩ := HB.out.i
        have OD := Lib.hid od
        have AD := Lib.hid ad
        clear od ad
        go_wp2_with fail
        refine (delete_n (w.heap.size + 1 + 1) gf nf cf r _ yd y4 OD.out AD.out (by omega) (by omega)).mono ?_
        rintro e y5 ⟨ye, rfl, oe, ae, me⟩
        have HAW := Lib.hid (HB.out.del me oe ae)
        have hm5 := (me.block _ (lt_of_heap HB.out.m) (by have := (OD.out.lt gf rfl).1; omega)).trans HB.out.m
        clear mc0 mf0 mc1 mf1
        have mc0 : y5.cell? ⟨w.heap.size + 1, 0, none⟩ = some (.slice (some ⟨gv, 0, none⟩) nv cv) := (by simp [World.cell?, hm5]); have mf0 : y5.frozen? ⟨w.heap.size + 1, 0, none⟩ = false := (by simp [World.frozen?, hm5]); have mc1 : y5.cell? ⟨w.heap.size + 1, 1, none⟩ = some (.slice (some ⟨gf, 0, none⟩) nf cf) := (by simp [World.cell?, hm5]); have mf1 : y5.frozen? ⟨w.heap.size + 1, 1, none⟩ = false := (by simp [World.frozen?, hm5])
        clear hm5 oe ae me OD AD HB
        go_wp2_with fail
        refine (flip_any B _ 8 _ HAW.out.s (by omega) (by omega) (by omega)).mono ?_
        rintro e y2 ⟨⟨b, rfl⟩, hy2s, hy2m⟩
        have HA2 := Lib.hid (HAW.out.step hy2m hy2s)
        clear hy2m hy2s HAW
        have hr2 := HA2.out.r
        have hm2 := HA2.out.m
        have hs2 := HA2.out.z
        cases b
        · have mc0 : y2.cell? ⟨w.heap.size + 1, 0, none⟩ = some (.slice (some ⟨gv, 0, none⟩) nv cv) := (by simp [World.cell?, hm2]); have mf0 : y2.frozen? ⟨w.heap.size + 1, 0, none⟩ = false := (by simp [World.frozen?, hm2]); have mc1 : y2.cell? ⟨w.heap.size + 1, 1, none⟩ = some (.slice (some ⟨gf, 0, none⟩) (nf - 1) cf) := (by simp [World.cell?, hm2]); have mf1 : y2.frozen? ⟨w.heap.size + 1, 1, none⟩ = false := (by simp [World.frozen?, hm2])
          have rc0 : y2.cell? ⟨w.heap.size, 0, none⟩ = some (.slice none 0 0) := (by simp [World.cell?, hr2]); have rf0 : y2.frozen? ⟨w.heap.size, 0, none⟩ = false := (by simp [World.frozen?, hr2]); have rc1 : y2.cell? ⟨w.heap.size, 1, none⟩ = some (.slice none 0 0) := (by simp [World.cell?, hr2]); have rf1 : y2.frozen? ⟨w.heap.size, 1, none⟩ = false := (by simp [World.frozen?, hr2])
          have HE := Lib.hid (mesh_end (k := k) HA2.out.i.any hB (by omega) hr2 HA2.out.s (by omega) hk HA2.out.u (by omega) (by omega))
          clear hr2 hm2
          go_wp2
          exact bodyPost_ret (v := .agg #[.slice (some ⟨gv, 0, none⟩) nv cv, .slice (some ⟨gf, 0, none⟩) (nf - 1) cf]) (by simp [results, Try.results14, go_sem, rc0, rc1]) rfl HE.out
        · clear hr2
          go_wp2_with fail
          refine (spoil_any B (w.heap.size + 1) (w.heap.size + 1) _ nv _ gv cv gf cf y2 HA2.out.s (by omega) (by omega) (by omega) hm2 (HA2.out.i.weak (by omega)) (by omega) (by omega) (by omega) (by omega)).mono ?_
          rintro e y3 ⟨rfl, sv3, sf3, nf3, hle3, hm3, hany3, hst3, hmu3⟩
          obtain ⟨⟨x3, o3, a3⟩, z3, o4, a4⟩ := hany3
          obtain ⟨av3, cv3, rfl⟩ := own_slice' o3
          obtain ⟨af3, cf3, rfl⟩ := own_slice' o4
          have hr3 := (hmu3.block w.heap.size (by omega) (by omega)).trans HA2.out.r
          have mc0 : y3.cell? ⟨w.heap.size + 1, 0, none⟩ = some (.slice av3 nv cv3) := (by simp [World.cell?, hm3]); have mf0 : y3.frozen? ⟨w.heap.size + 1, 0, none⟩ = false := (by simp [World.frozen?, hm3]); have mc1 : y3.cell? ⟨w.heap.size + 1, 1, none⟩ = some (.slice af3 nf3 cf3) := (by simp [World.cell?, hm3]); have mf1 : y3.frozen? ⟨w.heap.size + 1, 1, none⟩ = false := (by simp [World.frozen?, hm3])
          have rc0 : y3.cell? ⟨w.heap.size, 0, none⟩ = some (.slice none 0 0) := (by simp [World.cell?, hr3]); have rf0 : y3.frozen? ⟨w.heap.size, 0, none⟩ = false := (by simp [World.frozen?, hr3]); have rc1 : y3.cell? ⟨w.heap.size, 1, none⟩ = some (.slice none 0 0) := (by simp [World.cell?, hr3]); have rf1 : y3.frozen? ⟨w.heap.size, 1, none⟩ = false := (by simp [World.frozen?, hr3])
          have HU3 : Mut (· = B) w y3 := by
            have u := HA2.out.u
            exact ⟨hmu3.os.trans u.os, hmu3.tape.trans u.tape, hmu3.output.trans u.output, Nat.le_trans u.size hmu3.size, fun k hk hn => (hmu3.block k (by have := u.size; omega) (by omega)).trans (u.block k hk hn)⟩
          have HE := Lib.hid (mesh_end (k := k) ⟨⟨x3, o3, a3⟩, z3, o4, a4⟩ hB (by omega) hr3 hst3 (by omega) hk HU3 (by omega) (by omega))
          clear hr3 hm2 hm3 o3 a3 o4 a4 hst3 hmu3 HU3
          go_wp2
          exact bodyPost_ret (v := .agg #[.slice av3 nv cv3, .slice af3 nf3 cf3]) (by simp [results, Try.results14, go_sem, rc0, rc1]) rfl HE.out
end Go.Proofs.Ytmcebhjcaacbpaa

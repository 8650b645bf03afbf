/- A drawn program. -/
import Derived.Test.YtgmpmaiddombeaaGs
set_option linter.unusedSimpArgs false
set_option linter.unusedVariables false
namespace Go.Proofs.Ytgmpmaiddombeaa
open Go.RowKit
/-- Steps that are drawn. -/
structure DS (w W : World) (B k : Nat) (a : Option Addr) (n c : Nat) (l : List St) : Prop where
  o : W.ownsRow w.heap.size 36 6 (.slice a n c) n (rowS l)
  e : n = l.length
  s : Strm W B k
  m : Mut (· = B) w W
  l : B < w.heap.size
theorem DS.size {w W : World} {B k n c : Nat} {a : Option Addr} {l : List St} (h : DS w W B k a n c l) : w.heap.size ≤ W.heap.size := h.m.size
theorem DS.next {w W W' : World} {B k k' n c : Nat} {a : Option Addr} {l : List St} (h : DS w W B k a n c l) (hm : Mut (· = B) W W') (hs : Strm W' B k') : DS w W' B k' a n c l :=
  ⟨own_mut h.o hm (fun b hb e => by have := (h.o.lt b hb).1; have := h.l; omega), h.e, hs, h.m.trans hm, h.l⟩
theorem DS.far {w W : World} {B k n c : Nat} {a : Option Addr} {l : List St} (h : DS w W B k a n c l) : ∀ x, a = some x → B < x.block := fun x hx => by
  have h1 := (h.o.lt x.block (by rw [hx]; rfl)).1
  have h2 := h.l
  omega
theorem DS.grown {w W w5 : World} {B k n c c' g n' : Nat} {a : Option Addr} {l r : List St} (h : DS w W B k a n c l) (hb : Below w.heap.size W w5) (ho : w5.ownsRow w.heap.size 36 6 (.slice (some ⟨g, 0, none⟩) n' c') n' (rowS (l ++ r))) (hn : n' = (l ++ r).length) : DS w w5 B k (some ⟨g, 0, none⟩) n' c' (l ++ r) := by
  have hl := h.l
  refine ⟨ho, hn, h.s.kept (S := fun b => w.heap.size ≤ b) ⟨hb.os, hb.tape, hb.output, hb.size, fun k _ hn => hb.block k (Nat.lt_of_not_le hn)⟩ (fun x hx e => by omega), ?_, hl⟩
  exact ⟨hb.os.trans h.m.os, hb.tape.trans h.m.tape, hb.output.trans h.m.output, Nat.le_trans h.m.size hb.size, fun k hk hn => (hb.block k hk).trans (h.m.block k hk hn)⟩
def ListE (w : World) (B k most : Nat) (e : Ending) (w' : World) : Prop := ∃ a n c S, e = .returned (.slice a n c) ∧ n ≤ most ∧ n ≤ c ∧ StepsR w' a n S ∧ (∀ x, a = some x → B < x.block) ∧ Strm w' B k ∧ Mut (· = B) w w'
theorem DS.out {w W : World} {B k n c most : Nat} {a : Option Addr} {l : List St} (h : DS w W B k a n c l) (hn : n ≤ most) : ListE w B k most (.returned (.slice a n c)) W :=
  ⟨a, n, c, _, rfl, hn, own_cap h.o, own_rowS h.o h.e, h.far, h.s, h.m⟩
set_option maxRecDepth 100000 in
set_option maxHeartbeats 16000000 in
theorem stepList_any (B k most : Nat) (w : World) (hs : Strm w B k) (hk : k + 300 ≤ 1000000) (hm : most ≤ 14) :
    Calls Try.prog 4 #[.pointer (some ⟨B, 0, none⟩), .int .i64 most] w (ListE w B (k + 200) (most + 6)) := by
  obtain ⟨i0, hi0, hz0, hz1, hz2⟩ := info_parts2 info_st
  have hl := hs.lt
  have HS := Lib.hid hs
  go_enter Try.func4, Try.ntmps4
  go_wp2_with (fail)
  refine (flip_any B k 2 w HS.out (by omega) (by omega) (by omega)).mono ?_
  rintro e w1 ⟨⟨b, rfl⟩, hst, hmt⟩
  have HD0 : Hid (DS w w1 B (k + 1) none 0 0 []) := Lib.hid ⟨World.ownsRow_nil _ _ _ _, rfl, hst, hmt, hl⟩
  have hsz0 := hmt.size
  clear hst hmt HS hs
  go_upto_if 7 with (fail)
  go_cut [5] from 8 to 12 (fun v wx => ∃ a n c l, v = .slice a n c ∧ n ≤ 2 ∧ DS w wx B (k + 1) a n c l)
  case first =>
    rcases b with _ | _
    · go_wp2_with (fail)
      go_meet
      exact ⟨none, 0, 0, [], rfl, by omega, HD0.out⟩
    · go_wp2_with (at_builtin; refine wpList_append_lies _ rfl _ _ 26 rfl w.heap.size 36 i0 (.agg #[.int .i64 0, .int .i64 0, .int .i64 0, .int .i64 0, .int .i64 0, .int .i64 0]) 6 48 Try.underlying26 hi0 hz0 hz1 hz2 rfl (by decide) _ _ _ rfl (ownsRow_below (HD0.out.o) ((Below.refl _ w1).alloc (Nat.le_refl _) _)) ⟨w1.heap.size, 0, none⟩ 2 2 [.int .i64 6, .int .i64 0, .int .i64 0, .int .i64 0, .int .i64 0, .int .i64 100, .int .i64 8, .int .i64 0, .int .i64 0, .int .i64 0, .int .i64 0, .int .i64 200] rfl rfl (World.news_of_block (cs := #[.int .i64 6, .int .i64 0, .int .i64 0, .int .i64 0, .int .i64 0, .int .i64 100, .int .i64 8, .int .i64 0, .int .i64 0, .int .i64 0, .int .i64 0, .int .i64 200]) (t := 36) (fr := (0, 0)) (heap_alloc_new w1 (.cells #[.int .i64 6, .int .i64 0, .int .i64 0, .int .i64 0, .int .i64 0, .int .i64 100, .int .i64 8, .int .i64 0, .int .i64 0, .int .i64 0, .int .i64 0, .int .i64 200] 36))) (by simp [Value.oneCell']) (by omega) (by unfold maxLen; omega) (by omega) (by simp; omega) (w1.heap.size + 1) (by simp) ?_; intro g5 c5 w5 hown5 hgrow5 hge5 hlt5; have HO5 := Lib.hid hown5; have HB5 := Lib.hid (Below.grown (B := w.heap.size) (Below.alloc (B := w.heap.size) (Below.refl _ w1) (by omega) (.cells #[.int .i64 6, .int .i64 0, .int .i64 0, .int .i64 0, .int .i64 0, .int .i64 100, .int .i64 8, .int .i64 0, .int .i64 0, .int .i64 0, .int .i64 0, .int .i64 200] 36)) hgrow5 (by simp; omega) (fun b hb => ((HD0.out.o).lt b hb).1)); clear hown5 hgrow5 hge5)
      have HD5 := Lib.hid (HD0.out.grown (r := [⟨6, 0, 0, 0, 0, 100⟩, ⟨8, 0, 0, 0, 0, 200⟩]) HB5.out HO5.out rfl)
      go_meet
      exact ⟨_, _, c5, _, rfl, by omega, HD5.out⟩
  case rest =>
    obtain ⟨a1, n1, c1, l1, rfl, hn1, hd⟩ := hcut
    have HD := Lib.hid hd
    clear hd HD0 hsz0
    go_wp2_with (fail)
    refine (range_any B _ 0 most wc HD.out.s (by omega) (by omega) (by omega) (by omega)).mono ?_
    rintro e w2 ⟨⟨r, rfl, hr0, hr1⟩, hst, hmt⟩
    obtain ⟨cn, rfl⟩ := Int.eq_ofNat_of_zero_le hr0
    have hcn : cn ≤ most := by omega
    replace HD := Lib.hid (HD.out.next hmt hst)
    clear hst hmt hr0 hr1
    go_wp2_with (fail)
    go_loopw [5, 16] (fun v i wr => ∃ (t n c : Nat) (a : Option Addr) (l : List St), v = .slice a n c ∧ i = .int .i64 t ∧ t ≤ cn ∧ n ≤ 2 + t ∧ DS w wr B (k + 2 + 12 * t) a n c l) (fun _ i _ => cn - (intOf i).toNat)
    case atStart => exact ⟨0, n1, c1, a1, l1, rfl, rfl, by omega, by omega, HD.out⟩
    case round =>
      clear HD
      obtain ⟨t, n, c, a, l, rfl, rfl, ht, hnt, hd⟩ := hrel
      have HD := Lib.hid hd
      have hsz := hd.size
      clear hd
      by_cases hlt : t < cn
      · go_wp2_with (fail)
        refine (aStepOf_any B _ wr HD.out.s (by omega)).mono ?_
        rintro e w2 ⟨s, rfl, hst, hmt⟩
        replace HD := Lib.hid (HD.out.next hmt hst)
        have hsz2 := hmt.size
        clear hst hmt
        go_wp2_with (at_builtin; refine wpList_append_lies _ rfl _ _ 26 rfl w.heap.size 36 i0 (.agg #[.int .i64 0, .int .i64 0, .int .i64 0, .int .i64 0, .int .i64 0, .int .i64 0]) 6 48 Try.underlying26 hi0 hz0 hz1 hz2 rfl (by decide) _ _ _ rfl (ownsRow_below (HD.out.o) ((Below.refl _ w2).alloc (Nat.le_refl _) _)) ⟨w2.heap.size, 0, none⟩ 1 1 [.int .i64 s.k, .int .i64 s.x, .int .i64 s.y, .int .i64 s.z, .int .i64 s.f, .int .i64 s.n] rfl rfl (World.news_of_block (cs := #[.int .i64 s.k, .int .i64 s.x, .int .i64 s.y, .int .i64 s.z, .int .i64 s.f, .int .i64 s.n]) (t := 36) (fr := (0, 0)) (heap_alloc_new w2 (.cells #[.int .i64 s.k, .int .i64 s.x, .int .i64 s.y, .int .i64 s.z, .int .i64 s.f, .int .i64 s.n] 36))) (by simp [Value.oneCell']) (by omega) (by unfold maxLen; omega) (by omega) (by simp; omega) (w2.heap.size + 1) (by simp) ?_; intro g5 c5 w5 hown5 hgrow5 hge5 hlt5; have HO5 := Lib.hid hown5; have HB5 := Lib.hid (Below.grown (B := w.heap.size) (Below.alloc (B := w.heap.size) (Below.refl _ w2) (by omega) (.cells #[.int .i64 s.k, .int .i64 s.x, .int .i64 s.y, .int .i64 s.z, .int .i64 s.f, .int .i64 s.n] 36)) hgrow5 (by simp; omega) (fun b hb => ((HD.out.o).lt b hb).1)); clear hown5 hgrow5 hge5)
        have HD5 := Lib.hid (HD.out.grown (r := [s]) HB5.out (by rw [rowS_app]; exact HO5.out) (by rw [List.length_append, ← HD.out.e]; rfl))
        clear HD HB5 HO5
        go_roundw
        case rel => exact ⟨t + 1, n + 1, c5, _, _, rfl, by go_num, by omega, by omega, by rw [show k + 2 + 12 * (t + 1) = k + 2 + 12 * t + 12 by omega]; exact HD5.out⟩
        case measure => simp [intOf] <;> omega
      · obtain rfl : t = cn := by omega
        go_wp2_with (fail)
        refine (flip_any B _ 60 wr HD.out.s (by omega) (by omega) (by omega)).mono ?_
        rintro e w2 ⟨⟨f, rfl⟩, hst, hmt⟩
        replace HD := Lib.hid (HD.out.next hmt hst)
        have hsz2 := hmt.size
        clear hst hmt
        rcases f with _ | _
        · go_wp2_with (fail)
          go_ret
          have h := HD.out.out (most := most + 6) (by omega)
          obtain ⟨a', n', c', S', he, h1, h2, h3, h4, h5, h6⟩ := h
          exact ⟨a', n', c', S', he, h1, h2, h3, h4, h5.more (by omega) (by omega), h6⟩
        · go_wp2_with (at_builtin; refine wpList_append_lies _ rfl _ _ 26 rfl w.heap.size 36 i0 (.agg #[.int .i64 0, .int .i64 0, .int .i64 0, .int .i64 0, .int .i64 0, .int .i64 0]) 6 48 Try.underlying26 hi0 hz0 hz1 hz2 rfl (by decide) _ _ _ rfl (ownsRow_below (HD.out.o) ((Below.refl _ w2).alloc (Nat.le_refl _) _)) ⟨w2.heap.size, 0, none⟩ 1 1 [.int .i64 2, .int .i64 0, .int .i64 0, .int .i64 0, .int .i64 0, .int .i64 0] rfl rfl (World.news_of_block (cs := #[.int .i64 2, .int .i64 0, .int .i64 0, .int .i64 0, .int .i64 0, .int .i64 0]) (t := 36) (fr := (0, 0)) (heap_alloc_new w2 (.cells #[.int .i64 2, .int .i64 0, .int .i64 0, .int .i64 0, .int .i64 0, .int .i64 0] 36))) (by simp [Value.oneCell']) (by omega) (by unfold maxLen; omega) (by omega) (by simp; omega) (w2.heap.size + 1) (by simp) ?_; intro g5 c5 w5 hown5 hgrow5 hge5 hlt5; have HO5 := Lib.hid hown5; have HB5 := Lib.hid (Below.grown (B := w.heap.size) (Below.alloc (B := w.heap.size) (Below.refl _ w2) (by omega) (.cells #[.int .i64 2, .int .i64 0, .int .i64 0, .int .i64 0, .int .i64 0, .int .i64 0] 36)) hgrow5 (by simp; omega) (fun b hb => ((HD.out.o).lt b hb).1)); clear hown5 hgrow5 hge5)
          have HD5 := Lib.hid (HD.out.grown (r := [⟨2, 0, 0, 0, 0, 0⟩]) HB5.out (by rw [rowS_app]; exact HO5.out) (by rw [List.length_append, ← HD.out.e]; rfl))
          have hsz5 := HB5.out.size
          clear HD HB5 HO5
          refine (range_any B _ 1 3 w5 HD5.out.s (by omega) (by omega) (by omega) (by omega)).mono ?_
          rintro e w6 ⟨⟨r, rfl, hr0, hr1⟩, hst, hmt⟩
          obtain ⟨cm, rfl⟩ := Int.eq_ofNat_of_zero_le (show 0 ≤ r by omega)
          have hcm : cm ≤ 3 := by omega
          replace HD5 := Lib.hid (HD5.out.next hmt hst)
          clear hst hmt hr0 hr1
          go_wp2_with (fail)
          go_loopw [5, 32] (fun v i wr => ∃ (u n2 c : Nat) (a : Option Addr) (l : List St), v = .slice a n2 c ∧ i = .int .i64 u ∧ u ≤ cm ∧ n2 ≤ n + 1 + u ∧ DS w wr B (k + 2 + 12 * t + 2) a n2 c l) (fun _ i _ => cm - (intOf i).toNat)
          case atStart => exact ⟨0, n + 1, c5, _, _, rfl, rfl, by omega, by omega, HD5.out⟩
          case round =>
            clear HD5
            obtain ⟨u, n2, c, a, l, rfl, rfl, hu, hnu, hd⟩ := hrel
            have HD := Lib.hid hd
            have hsz := hd.size
            clear hd
            by_cases hlu : u < cm
            · go_wp2_with (at_builtin; refine wpList_append_lies _ rfl _ _ 26 rfl w.heap.size 36 i0 (.agg #[.int .i64 0, .int .i64 0, .int .i64 0, .int .i64 0, .int .i64 0, .int .i64 0]) 6 48 Try.underlying26 hi0 hz0 hz1 hz2 rfl (by decide) _ _ _ rfl (ownsRow_below (HD.out.o) ((Below.refl _ wr).alloc (Nat.le_refl _) _)) ⟨wr.heap.size, 0, none⟩ 1 1 [.int .i64 3, .int .i64 200000, .int .i64 (-7), .int .i64 0, .int .i64 0, .int .i64 0] rfl rfl (World.news_of_block (cs := #[.int .i64 3, .int .i64 200000, .int .i64 (-7), .int .i64 0, .int .i64 0, .int .i64 0]) (t := 36) (fr := (0, 0)) (heap_alloc_new wr (.cells #[.int .i64 3, .int .i64 200000, .int .i64 (-7), .int .i64 0, .int .i64 0, .int .i64 0] 36))) (by simp [Value.oneCell']) (by omega) (by unfold maxLen; omega) (by omega) (by simp; omega) (wr.heap.size + 1) (by simp) ?_; intro g5 c5 w5 hown5 hgrow5 hge5 hlt5; have HO5 := Lib.hid hown5; have HB5 := Lib.hid (Below.grown (B := w.heap.size) (Below.alloc (B := w.heap.size) (Below.refl _ wr) (by omega) (.cells #[.int .i64 3, .int .i64 200000, .int .i64 (-7), .int .i64 0, .int .i64 0, .int .i64 0] 36)) hgrow5 (by simp; omega) (fun b hb => ((HD.out.o).lt b hb).1)); clear hown5 hgrow5 hge5)
              have HD5 := Lib.hid (HD.out.grown (r := [⟨3, 200000, -7, 0, 0, 0⟩]) HB5.out (by rw [rowS_app]; exact HO5.out) (by rw [List.length_append, ← HD.out.e]; rfl))
              clear HD HB5 HO5
              go_roundw
              case rel => exact ⟨u + 1, n2 + 1, c5, _, _, rfl, by go_num, by omega, by omega, HD5.out⟩
              case measure => simp [intOf] <;> omega
            · obtain rfl : u = cm := by omega
              go_wp2_with (fail)
              go_ret
              have h := HD.out.out (most := most + 6) (by omega)
              obtain ⟨a', n', c', S', he, h1, h2, h3, h4, h5, h6⟩ := h
              exact ⟨a', n', c', S', he, h1, h2, h3, h4, h5.more (by omega) (by omega), h6⟩
end Go.Proofs.Ytgmpmaiddombeaa

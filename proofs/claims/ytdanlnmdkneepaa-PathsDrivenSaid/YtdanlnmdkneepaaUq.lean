/- The legs of a path: by the program and by the reference. -/
import Derived.Test.YtdanlnmdkneepaaUp
import Derived.Test.YtdanlnmdkneepaaVj
import Derived.Test.YtdanlnmdkneepaaVs
set_option linter.unusedSimpArgs false
set_option linter.unusedVariables false
namespace Go.Proofs.Ytdanlnmdkneepaa
open Go.RowKit
theorem max4U (P : Program) (ts : Array TypeId) (t : TypeId) (x y z u : Int) (w : World) : (Builtin.max_ ts t #[.int .i64 x, .int .i64 y, .int .i64 z, .int .i64 u]).run P w = .ok (.int .i64 (max (max (max x y) z) u)) w := by
  simp [Builtin.max_, Builtin.max2]
  omega
theorem max2U (P : Program) (ts : Array TypeId) (t : TypeId) (x y : Int) (w : World) : (Builtin.max_ ts t #[.int .i64 x, .int .i64 y]).run P w = .ok (.int .i64 (max x y)) w := by
  simp [Builtin.max_, Builtin.max2]
  omega
def lgZ (x y : Int) : Int := max (max (max x (-x)) y) (-y)
theorem lgZ_abs (x y : Int) : max (absZ x) (absZ y) = lgZ x y := by unfold lgZ absZ; split <;> split <;> omega
def pX (l : List (Int × Int)) : Nat → Int := fun i => (l.getD i (0, 0)).1
def pY (l : List (Int × Int)) : Nat → Int := fun i => (l.getD i (0, 0)).2
def lgF (l : List (Int × Int)) : Nat → Int := fun i => lgZ (pX l i) (pY l i)
theorem mvP_bnd {p : Pth} (h : pF p = 0) : (mvP p).length ≤ 500 ∧ ∀ i, i < (mvP p).length → ((-200000 ≤ pX (mvP p) i ∧ pX (mvP p) i ≤ 200000) ∧ (-200000 ≤ pY (mvP p) i ∧ pY (mvP p) i ≤ 200000)) ∧ (pX (mvP p) i ≠ 0 ∨ pY (mvP p) i ≠ 0) := by
  obtain ⟨hn1, hn2, hb⟩ := qX_bnd h
  have hN : 1 ≤ prN p ∧ prN p ≤ 501 := by unfold prN; split <;> omega
  refine ⟨by have := mvL_len (qX p p.X) (qX p p.Y) (prN p - 1); unfold mvP; omega, fun i hi => ?_⟩
  have hm := mvL_bnd (X := qX p p.X) (Y := qX p p.Y) (n := prN p - 1) (fun i hi => hb i (by omega)) (prN p - 1) (Nat.le_refl _) ((mvP p)[i]) (List.getElem_mem hi)
  have e : (mvP p).getD i (0, 0) = (mvP p)[i] := by simp [List.getD, hi]
  unfold pX pY
  rw [e]
  exact hm
theorem mvE_ok {p : Pth} {l : Int} (h : mvE p l = 0) : pdE p l = 0 ∧ pF p = 0 ∧ (1 ≤ l ∧ l ≤ 100000) ∧ 0 < (mvP p).length := by
  unfold mvE at h
  split at h
  · rename_i h1
    split at h
    · cases h
    · rename_i h2
      have h3 := h1
      rw [pdE_is] at h3
      by_cases hz : pF p = 0
      · rw [if_neg (by simp [hz])] at h3
        unfold spanZ inZ at h3
        refine ⟨h1, hz, ?_, by omega⟩
        split at h3
        · rename_i h4
          rw [Bool.and_eq_true, decide_eq_true_eq, decide_eq_true_eq] at h4
          exact h4
        · cases h3
      · rw [if_pos hz] at h3
        exact absurd h3 hz
  · rename_i h1; exact absurd h h1
theorem info_legU : (Try.prog.info? 83).map (fun i => (i.zero, i.size, i.bytes)) = some (some (.agg #[.int .i64 0, .int .i64 0]), 2, 16) := by kernel_rfl
theorem cell_grown {w w' : World} {r : Option Nat} {b o : Nat} {v : Value} (hg : w.grownBy w' r) (hb : b < w.heap.size) (hr : r ≠ some b) (h : w.cell? ⟨b, o, none⟩ = some v) : w'.cell? ⟨b, o, none⟩ = some v :=
  (World.cell?_of_block (w := w) (hg.block b hb (fun e => hr e.symm))).trans h
set_option maxRecDepth 100000 in
set_option maxHeartbeats 8000000 in
theorem Legs_any (p : Pth) (m : Int) (w : World) (hn : p.n ≤ 1000) (hc : p.n ≤ p.c) (hp : PtsR w p.a p.n p.X p.Y) :
    Calls Try.prog 44 #[.agg #[.slice p.a p.n p.c, .bool p.k], .int .i64 m] w fun e w' =>
      (mvE p m = 0 → ∃ ao co, e = .returned (.tuple #[.slice ao (mvP p).length co, .int .i64 0]) ∧ w'.ownsRow w.heap.size 83 2 (.slice ao (mvP p).length co) (mvP p).length (cells2 (lgF (mvP p)) (fun _ => m) (mvP p).length)) ∧
      (mvE p m ≠ 0 → e = .returned (.tuple #[.slice none 0 0, .int .i64 (mvE p m)])) ∧ Below w.heap.size w w' := by
  obtain ⟨i0, hi0, hz0, hz1, hz2⟩ := info_parts info_legU
  have HP := Lib.hid hp
  clear hp
  go_enter Try.func44, Try.ntmps44
  go_wp2_with (fail)
  have hb0 : Below w.heap.size w (w.alloc (.cells #[.slice p.a p.n p.c, .bool p.k] 62)) := (by repeat (first | exact Below.refl _ _ | assumption | refine Below.drew ?_ | refine bdrewN ?_ _ | refine Below.setCell ?_ (by first | omega | (simp <;> omega)) _ | refine Below.alloc ?_ (by first | omega | (simp <;> omega)) _))
  have B0 := Lib.hid hb0
  replace HP := Lib.hid (HP.out.kept hb0)
  clear hb0
  generalize (w.alloc (.cells #[.slice p.a p.n p.c, .bool p.k] 62)) = w0 at *
  refine (movesOf_any p m w0 hn hc HP.out).mono ?_
  rintro e w1 ⟨h1, h2, hb1⟩
  have B1 := Lib.hid (B0.out.trans (hb1.mono B0.out.size))
  clear hb1 HP B0
  by_cases hz : mvE p m = 0
  · obtain ⟨ai, ci, rfl, hown⟩ := h1 hz
    have HZ := Lib.hid hz
    have HI := Lib.hid (pts_of_IV2 hown)
    obtain ⟨hk5, hbd⟩ := mvP_bnd (mvE_ok hz).2.1
    have HBD := Lib.hid hbd
    clear h1 h2 hown hz hbd
    obtain ⟨l, hl⟩ : ∃ l, mvP p = l := ⟨_, rfl⟩
    rw [hl] at HI HBD hk5
    rw [hl]
    have HLL := Lib.hid hl
    clear hl
    obtain ⟨K, hK⟩ : ∃ K, l.length = K := ⟨_, rfl⟩
    rw [hK] at HI HBD hk5
    rw [hK]
    have HKK := Lib.hid hK
    clear hK
    go_wp2_with (fail)
    go_loopw [8, 22] (fun sv iv wr => ∃ (t : Nat) (ao : Option Addr) (co : Nat), t ≤ K ∧ iv = .int .i64 t ∧ sv = .slice ao t co ∧ wr.ownsRow w1.heap.size 83 2 (.slice ao t co) t (cells2 (lgF l) (fun _ => m) t) ∧ Below w1.heap.size w1 wr) (fun _ iv _ => K - (intOf iv).toNat)
    case atStart => exact ⟨0, none, 0, by omega, rfl, rfl, World.ownsRow_nil _ _ _ _, Below.refl _ _⟩
    case round =>
      obtain ⟨t, ao, co, ht, rfl, rfl, hown, hbel⟩ := hrel
      have HO := Lib.hid hown
      have HB := Lib.hid hbel
      have hsz := hbel.size
      clear hown hbel
      by_cases hlt : t < K
      · rcases HI.out with h | ⟨b, off, he, hb, hd⟩
        · omega
        cases he
        obtain ⟨c0, c1⟩ := hd t hlt
        replace c0 := cellk HB.out hb c0
        replace c1 := cellk HB.out hb c1
        have hbw : b < wr.heap.size := by omega
        have hx := (HBD.out t hlt).1
        have HLG := Lib.hid (show lgF l t = lgZ (pX l t) (pY l t) from rfl)
        change wr.cell? ⟨b, off + t * 2, none⟩ = some (.int .i64 (pX l t)) at c0
        change wr.cell? ⟨b, off + t * 2 + 1, none⟩ = some (.int .i64 (pY l t)) at c1
        obtain ⟨x, hxx⟩ : ∃ x, pX l t = x := ⟨_, rfl⟩
        obtain ⟨y, hyy⟩ : ∃ y, pY l t = y := ⟨_, rfl⟩
        rw [hxx] at c0 hx HLG
        rw [hyy] at c1 hx HLG
        clear hd hxx hyy
        have e1 : IntKind.i64.wrap (-x) = -x := i64w (by omega)
        have e2 : IntKind.i64.wrap (-y) = -y := i64w (by omega)
        obtain ⟨z, hz⟩ : ∃ z, max (max (max x (-x)) y) (-y) = z := ⟨_, rfl⟩
        have HZ := Lib.hid (HLG.out.trans hz)
        have q4 : ∀ ts t w, (Builtin.max_ ts t #[.int .i64 x, .int .i64 (-x), .int .i64 y, .int .i64 (-y)]).run Try.prog w = .ok (.int .i64 z) w := fun ts t w => by rw [max4U, hz]
        clear hx hz
        have BA := Lib.hid ((Below.refl _ wr).alloc (Nat.le_refl _) (.cells #[.int .i64 x, .int .i64 y] 102))
        have HO3 := Lib.hid (ownsRow_below HO.out BA.out)
        have hs3 : (wr.alloc (.cells #[.int .i64 x, .int .i64 y] 102)).heap.size = wr.heap.size + 1 := by simp
        go_wp2_with (at_builtin; refine wpList_append_lies _ rfl _ _ 64 rfl w1.heap.size 83 i0 (.agg #[.int .i64 0, .int .i64 0]) 2 16 Try.underlying64 hi0 hz0 hz1 hz2 rfl (by decide) _ _ _ rfl (ownsRow_below HO3.out ((Below.refl _ (wr.alloc (.cells #[.int .i64 x, .int .i64 y] 102))).alloc (Nat.le_refl _) _)) ⟨wr.heap.size + 1, 0, none⟩ 1 1 [.int .i64 z, .int .i64 m] rfl rfl (hs3 ▸ World.news_of_block (cs := #[.int .i64 z, .int .i64 m]) (t := 83) (fr := (0, 0)) (heap_alloc_new (wr.alloc (.cells #[.int .i64 x, .int .i64 y] 102)) (.cells #[.int .i64 z, .int .i64 m] 83))) (by simp [Value.oneCell']) (by omega) (by unfold maxLen; omega) (by omega) (by simp; omega) (wr.heap.size + 1 + 1) (by simp) ?_; intro g5 c5 w5 hown5 hgrow5 _ hlt5; have HO5 := Lib.hid hown5; have HB5 := Lib.hid (Below.grown (B := w1.heap.size) (Below.alloc (B := w1.heap.size) (Below.refl _ (wr.alloc (.cells #[.int .i64 x, .int .i64 y] 102))) (by omega) (.cells #[.int .i64 z, .int .i64 m] 83)) hgrow5 (by simp; omega) (fun b hb => ((HO3.out).lt b hb).1)); clear hown5 hgrow5)
        have HO6 := Lib.hid (show w5.ownsRow w1.heap.size 83 2 (.slice (some ⟨g5, 0, none⟩) (t + 1) c5) (t + 1) (cells2 (lgF l) (fun _ => m) (t + 1)) by rw [show cells2 (lgF l) (fun _ => m) (t + 1) = cells2 (lgF l) (fun _ => m) t ++ [.int .i64 (lgF l t), .int .i64 m] from rfl, HZ.out]; exact HO5.out)
        have HB6 := Lib.hid ((HB.out.trans (BA.out.mono hsz)).trans HB5.out)
        clear HO5 HB5
        go_wp2_with (fail)
        go_roundw
        case rel => exact ⟨t + 1, _, c5, by omega, by go_num, rfl, HO6.out, HB6.out⟩
        case measure => simp [intOf] <;> omega
      · obtain rfl : K = t := by omega
        go_wp2_with (fail)
        exact bodyPost_ret (v := .tuple #[.slice ao K co, .int .i64 0]) (by simp [results, Try.results44, go_sem]) rfl ⟨fun _ => ⟨ao, co, by rw [HLL.out, HKK.out], by rw [HLL.out, HKK.out]; exact own_lowU HO.out B1.out.size⟩, fun h => absurd HZ.out h, B1.out.trans (HB.out.mono B1.out.size)⟩
  · obtain rfl := h2 hz
    have HZ := Lib.hid hz
    have hz' : (mvE p m != 0) = true := by simpa using hz
    clear h1 h2 hz
    go_wp2_with (fail)
    exact bodyPost_ret (v := .tuple #[.slice none 0 0, .int .i64 (mvE p m)]) (by simp [results, Try.results44, go_sem]) rfl ⟨fun h => absurd h HZ.out, fun _ => rfl, B1.out⟩
set_option maxRecDepth 100000 in
set_option maxHeartbeats 8000000 in
theorem legsOf_any (p : Pth) (m : Int) (w : World) (hf : pF p = 0) (hp : PtsR w p.a p.n p.X p.Y) :
    Calls Try.prog 50 #[.agg #[.slice p.a p.n p.c, .bool p.k], .int .i64 m] w fun e w' =>
      ((mvP p).length ≠ 0 → ∃ ao co, e = .returned (.tuple #[.slice ao (mvP p).length co, .int .i64 0]) ∧ w'.ownsRow w.heap.size 83 2 (.slice ao (mvP p).length co) (mvP p).length (cells2 (lgF (mvP p)) (fun _ => m) (mvP p).length)) ∧
      ((mvP p).length = 0 → e = .returned (.tuple #[.slice none 0 0, .int .i64 8])) ∧ Below w.heap.size w w' := by
    obtain ⟨i0, hi0, hz0, hz1, hz2⟩ := info_parts info_legU
    have HP := Lib.hid hp
    clear hp
    go_enter Try.func50, Try.ntmps50
    go_wp2_with (fail)
    have hb0 : Below w.heap.size w (w.alloc (.cells #[.slice p.a p.n p.c, .bool p.k] 62)) := (by repeat (first | exact Below.refl _ _ | assumption | refine Below.drew ?_ | refine bdrewN ?_ _ | refine Below.setCell ?_ (by first | omega | (simp <;> omega)) _ | refine Below.alloc ?_ (by first | omega | (simp <;> omega)) _))
    have B0 := Lib.hid hb0
    replace HP := Lib.hid (HP.out.kept hb0)
    clear hb0
    generalize (w.alloc (.cells #[.slice p.a p.n p.c, .bool p.k] 62)) = w0 at *
    refine (vectors_any p w0 hf HP.out).mono ?_
    rintro e w1 ⟨ai, ci, rfl, hown, hb1⟩
    have B1 := Lib.hid (B0.out.trans (hb1.mono B0.out.size))
    have HI := Lib.hid (pts_of_IV2 hown)
    obtain ⟨hk5, hbd⟩ := mvP_bnd hf
    have HBD := Lib.hid hbd
    clear hb1 HP B0 hown hbd
    obtain ⟨l, hl⟩ : ∃ l, mvP p = l := ⟨_, rfl⟩
    rw [hl] at HI HBD hk5
    rw [hl]
    have HLL := Lib.hid hl
    clear hl
    obtain ⟨K, hK⟩ : ∃ K, l.length = K := ⟨_, rfl⟩
    rw [hK] at HI HBD hk5
    rw [hK]
    have HKK := Lib.hid hK
    clear hK
    go_wp2_with (fail)
    go_loopw [6, 12] (fun sv iv wr => ∃ (t : Nat) (ao : Option Addr) (co : Nat), t ≤ K ∧ iv = .int .i64 t ∧ sv = .slice ao t co ∧ wr.ownsRow w1.heap.size 83 2 (.slice ao t co) t (cells2 (lgF l) (fun _ => m) t) ∧ Below w1.heap.size w1 wr) (fun _ iv _ => K - (intOf iv).toNat)
    case atStart => exact ⟨0, none, 0, by omega, rfl, rfl, World.ownsRow_nil _ _ _ _, Below.refl _ _⟩
    case round =>
      obtain ⟨t, ao, co, ht, rfl, rfl, hown, hbel⟩ := hrel
      have HO := Lib.hid hown
      have HB := Lib.hid hbel
      have hsz := hbel.size
      clear hown hbel
      by_cases hlt : t < K
      · rcases HI.out with h | ⟨b, off, he, hb, hd⟩
        · omega
        cases he
        obtain ⟨c0, c1⟩ := hd t hlt
        replace c0 := cellk HB.out hb c0
        replace c1 := cellk HB.out hb c1
        have hbw : b < wr.heap.size := by omega
        have hx := (HBD.out t hlt).1
        have HLG := Lib.hid (show lgF l t = lgZ (pX l t) (pY l t) from rfl)
        change wr.cell? ⟨b, off + t * 2, none⟩ = some (.int .i64 (pX l t)) at c0
        change wr.cell? ⟨b, off + t * 2 + 1, none⟩ = some (.int .i64 (pY l t)) at c1
        obtain ⟨x, hxx⟩ : ∃ x, pX l t = x := ⟨_, rfl⟩
        obtain ⟨y, hyy⟩ : ∃ y, pY l t = y := ⟨_, rfl⟩
        rw [hxx] at c0 hx HLG
        rw [hyy] at c1 hx HLG
        clear hd hxx hyy
        have HX := Lib.hid hx
        have hb3 : Below wr.heap.size wr (wr.alloc (.cells #[.int .i64 x, .int .i64 y] 102)) := (Below.refl _ wr).alloc (Nat.le_refl _) _
        have H8 := Lib.hid (heap_alloc_new wr (.cells #[.int .i64 x, .int .i64 y] 102))
        have HO3 := Lib.hid (ownsRow_below HO.out hb3)
        have HB3 := Lib.hid (HB.out.trans (hb3.mono hsz))
        obtain ⟨z, hz⟩ : ∃ z, max (absZ x) (absZ y) = z := ⟨_, rfl⟩
        have HZ := Lib.hid (HLG.out.trans ((lgZ_abs x y).symm.trans hz))
        have q4 : ∀ ts t w, (Builtin.max_ ts t #[.int .i64 (absZ x), .int .i64 (absZ y)]).run Try.prog w = .ok (.int .i64 z) w := fun ts t w => by rw [max2U, hz]
        have HLT0 := Lib.hid (show ∀ b, (Value.slice ao t co).ownBlock = some b → b < wr.heap.size from fun b hb => (HO.out.lt b hb).2)
        clear hx hz hb3 HO
        go_wp2_with (fail)
        generalize (wr.alloc (.cells #[.int .i64 x, .int .i64 y] 102)) = W1 at *
        have HLT := Lib.hid (show ∀ b, (Value.slice ao t co).ownBlock = some b → b < wr.heap.size from HLT0.out)
        obtain ⟨q, hq⟩ : ∃ q, q = wr.heap.size := ⟨_, rfl⟩
        rw [← hq] at H8 HLT
        clear HLT0
        try rw [← hq]
        clear hq c0 c1
        have c0 := cell_of H8.out (i := 0) rfl
        have c1 := cell_of H8.out (i := 1) rfl
        refine wp_region_held_drew (S := (fun w' => w'.cell? ⟨q, 0, none⟩ = some (.int .i64 x) ∧ w'.cell? ⟨q, 1, none⟩ = some (.int .i64 y))) (by kernel_rfl) ⟨c0, c1⟩ (fun hHeld => ?_)
        refine tkH (by assumption) 0 (oi := ?_) (v := ?_) ?_ ?_ ?_ ?_ ?_ ?_ ?_ ?_; rotate_left 2; (simp only [gA, gB, gC]; exact rfl); kernel_rfl; kernel_rfl; kernel_rfl; exact fun _ _ _ h => h; rfl; (intro w' hSw; (obtain ⟨j0, j1⟩ := hSw);go_simp; with_reducible rfl); simp only [Act.put, pB, pC, pD]
        refine tkH (by assumption) 1 (oi := ?_) (v := ?_) ?_ ?_ ?_ ?_ ?_ ?_ ?_ ?_; rotate_left 2; (simp only [gA, gB, gC]; exact rfl); kernel_rfl; kernel_rfl; kernel_rfl; exact fun _ _ _ h => h; rfl; (intro w' hSw; (obtain ⟨j0, j1⟩ := hSw);go_simp; with_reducible rfl); simp only [Act.put, pB, pC, pD]
        refine tkH (by assumption) 2 (oi := ?_) (v := ?_) ?_ ?_ ?_ ?_ ?_ ?_ ?_ ?_; rotate_left 2; (simp only [gA, gB, gC]; exact rfl); kernel_rfl; kernel_rfl; kernel_rfl; exact fun _ _ _ h => h; rfl; (intro w' hSw; (obtain ⟨j0, j1⟩ := hSw);go_simp; with_reducible rfl); simp only [Act.put, pB, pC, pD]
        refine tkH (by assumption) 4 (oi := ?_) (v := ?_) ?_ ?_ ?_ ?_ ?_ ?_ ?_ ?_; rotate_left 2; (simp only [gA, gB, gC]; exact rfl); kernel_rfl; kernel_rfl; kernel_rfl; exact fun _ _ _ h => h; rfl; (intro w' hSw; (obtain ⟨j0, j1⟩ := hSw);go_simp; with_reducible rfl); simp only [Act.put, pB, pC, pD]
        refine tkH (by assumption) 5 (oi := ?_) (v := ?_) ?_ ?_ ?_ ?_ ?_ ?_ ?_ ?_; rotate_left 2; (simp only [gA, gB, gC]; exact rfl); kernel_rfl; kernel_rfl; kernel_rfl; exact fun _ _ _ h => h; rfl; (intro w' hSw; (obtain ⟨j0, j1⟩ := hSw);go_simp; with_reducible rfl); simp only [Act.put, pB, pC, pD]
        refine tkH (by assumption) 8 (oi := ?_) (v := ?_) ?_ ?_ ?_ ?_ ?_ ?_ ?_ ?_; rotate_left 2; (simp only [gA, gB, gC]; exact rfl); kernel_rfl; kernel_rfl; kernel_rfl; exact fun _ _ _ h => h; rfl; (intro w' hSw; (obtain ⟨j0, j1⟩ := hSw);go_simp; with_reducible rfl); simp only [Act.put, pB, pC, pD]
        refine onH 3 (oi := ?_) (by kernel_rfl) ?_ ?_ (fun K hK => ?_); rotate_left; (simp only [gA, gB, gC]; exact rfl); rfl
        go_wp2_with (fail)
        refine (abs_any x _ (by have := HX.out; omega)).mono ?_
        rintro e w' ⟨rfl, rfl⟩
        refine hK.out _ _ hHeld (fun hHeldN => ?_)
        clear hK K hHeld
        have hHeld := hHeldN
        clear hHeldN
        try simp only [Act.put, pB, pC, pD]
        refine onH 6 (oi := ?_) (by kernel_rfl) ?_ ?_ (fun K hK => ?_); rotate_left; (simp only [gA, gB, gC]; exact rfl); rfl
        go_wp2_with (fail)
        refine (abs_any y _ (by have := HX.out; omega)).mono ?_
        rintro e w' ⟨rfl, rfl⟩
        refine hK.out _ _ hHeld (fun hHeldN => ?_)
        clear hK K hHeld
        have hHeld := hHeldN
        clear hHeldN
        try simp only [Act.put, pB, pC, pD]
        refine tkH (by assumption) 7 (oi := ?_) (v := ?_) ?_ ?_ ?_ ?_ ?_ ?_ ?_ ?_; rotate_left 2; (simp only [gA, gB, gC]; exact rfl); kernel_rfl; kernel_rfl; kernel_rfl; exact fun _ _ _ h => h; rfl; (intro w' hSw; (obtain ⟨j0, j1⟩ := hSw);go_simp; with_reducible rfl); simp only [Act.put, pB, pC, pD]
        refine tkH (by assumption) 9 (oi := ?_) (v := ?_) ?_ ?_ ?_ ?_ ?_ ?_ ?_ ?_; rotate_left 2; (simp only [gA, gB, gC]; exact rfl); kernel_rfl; kernel_rfl; kernel_rfl; exact fun _ _ _ h => h; rfl; (intro w' hSw; (obtain ⟨j0, j1⟩ := hSw);go_simp; with_reducible rfl); simp only [Act.put, pB, pC, pD]
        refine onH 10 (oi := ?_) (by kernel_rfl) ?_ ?_ (fun K hK => ?_); rotate_left; (simp only [gA, gB, gC]; exact rfl); rfl
        go_wp2_with (fail)
        have bA : Below W1.heap.size W1 ((W1.alloc (.cells #[.int .i64 z, .int .i64 m] 83)).drew) := Below.next_drew ((Below.refl _ W1).alloc (Nat.le_refl _) _)
        have hnw : ∀ (j : Nat) (u : Value), [Value.int .i64 z, Value.int .i64 m][j]? = some u → ((W1.alloc (.cells #[.int .i64 z, .int .i64 m] 83)).drew).cell? ((⟨W1.heap.size, 0, none⟩ : Addr).add j) = some u := World.news_of_block (cs := #[.int .i64 z, .int .i64 m]) (t := 83) (fr := (0, 0)) (heap_alloc_new W1 (.cells #[.int .i64 z, .int .i64 m] 83))
        have HO4 := ownsRow_below HO3.out bA
        have HB4 := HB3.out.trans (bA.mono HB3.out.size)
        have hs2 : ((W1.alloc (.cells #[.int .i64 z, .int .i64 m] 83)).drew).heap.size = W1.heap.size + 1 := by simp
        have hs4 := HB3.out.size
        have lq : q < W1.heap.size := cell_lt c0
        refine hK.out _ _ ⟨cellk bA lq c0, cellk bA lq c1⟩ (fun hHeldN => ?_)
        clear hK K hHeld
        have hHeld := hHeldN
        clear hHeldN
        try simp only [Act.put, pB, pC, pD]
        clear bA c0 c1
        generalize ((W1.alloc (.cells #[.int .i64 z, .int .i64 m] 83)).drew) = W2 at *
        refine onH 11 (oi := ?_) (by kernel_rfl) ?_ ?_ (fun K hK => ?_); rotate_left; (simp only [gA, gB, gC]; exact rfl); rfl
        refine wp_append_lies _ _ _ 64 rfl w1.heap.size 83 i0 (.agg #[.int .i64 0, .int .i64 0]) 2 16 Try.underlying64 hi0 hz0 hz1 hz2 rfl (by decide) _ _ _ rfl HO4 ⟨W1.heap.size, 0, none⟩ 1 1 [.int .i64 z, .int .i64 m] rfl rfl hnw (by simp [Value.oneCell']) (by omega) (by unfold maxLen; omega) (by omega) (by omega) (W1.heap.size + 1) hs2 ?_
        intro g5 c5 w5 hown hgrow _ hlt5
        have B5 : Below w1.heap.size w1 w5 := Below.grown HB4 hgrow (by omega) (fun b hb => (HO4.lt b hb).1)
        have HB6 := Lib.hid B5
        have HO6 := Lib.hid (show w5.ownsRow w1.heap.size 83 2 (.slice (some ⟨g5, 0, none⟩) (t + 1) c5) (t + 1) (cells2 (lgF l) (fun _ => m) (t + 1)) by rw [show cells2 (lgF l) (fun _ => m) (t + 1) = cells2 (lgF l) (fun _ => m) t ++ [.int .i64 (lgF l t), .int .i64 m] from rfl, HZ.out]; exact hown)
        have hne : ∀ b, (Value.slice ao t co).ownBlock = some b → b < q := fun b hb => HLT.out b hb
        refine hK.out _ _ ⟨cell_grown hgrow (by omega) (fun e => by have := hne q e; omega) hHeld.1, cell_grown hgrow (by omega) (fun e => by have := hne q e; omega) hHeld.2⟩ (fun hHeldN => ?_)
        clear hnw HO4 HB4 hs2 hown hgrow B5
        clear hK K hHeld
        have hHeld := hHeldN
        clear hHeldN
        try simp only [Act.put, pB, pC, pD]
        refine tkH (by assumption) 12 (oi := ?_) (v := ?_) ?_ ?_ ?_ ?_ ?_ ?_ ?_ ?_; rotate_left 2; (simp only [gA, gB, gC]; exact rfl); kernel_rfl; kernel_rfl; kernel_rfl; exact fun _ _ _ h => h; rfl; (intro w' hSw; (obtain ⟨j0, j1⟩ := hSw);go_simp; with_reducible rfl); simp only [Act.put, pB, pC, pD]
        refine wpAnyH_done (by kernel_rfl) ?_ _
        go_wp2_with (fail)
        go_roundw
        case rel => exact ⟨t + 1, _, c5, by omega, by go_num, rfl, HO6.out, HB6.out⟩
        case measure => simp [intOf] <;> omega
      · obtain rfl : K = t := by omega
        by_cases h0 : K = 0
        · subst h0
          go_wp2_with (fail)
          exact bodyPost_ret (v := .tuple #[.slice none 0 0, .int .i64 8]) (by simp [results, Try.results50, go_sem]) rfl ⟨fun h => absurd (by rw [HLL.out, HKK.out]) h, fun _ => rfl, B1.out.trans (HB.out.mono B1.out.size)⟩
        · have h0' : ((K : Int) == 0) = false := by simp; omega
          have h0'' : ¬ (K : Int) = 0 := by omega
          go_wp2_with (fail)
          exact bodyPost_ret (v := .tuple #[.slice ao K co, .int .i64 0]) (by simp [results, Try.results50, go_sem]) rfl ⟨fun _ => ⟨ao, co, by rw [HLL.out, HKK.out], by rw [HLL.out, HKK.out]; exact own_lowU HO.out B1.out.size⟩, fun h => absurd (by rw [HLL.out, HKK.out] at h; exact h) h0, B1.out.trans (HB.out.mono B1.out.size)⟩
end Go.Proofs.Ytdanlnmdkneepaa

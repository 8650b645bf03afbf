/- What a step does: by the program. -/
import Derived.Test.YtgmpmaiddombeaaGd
import Derived.Test.YtgmpmaiddombeaaTk
set_option linter.unusedSimpArgs false
set_option linter.unusedVariables false
namespace Go.Proofs.Ytgmpmaiddombeaa
open Go.RowKit
set_option maxRecDepth 100000 in
set_option maxHeartbeats 8000000 in
theorem done1_any (mx my mz ms mh mt mf : Int) (mr : Bool) (x y z f n : Int) (w : World) (hf : Fit mx my mz mf x y z f) : Calls Try.prog 38 #[(.agg #[.int .i64 mx, .int .i64 my, .int .i64 mz, .int .i64 ms, .int .i64 mh, .int .i64 mt, .int .i64 mf, .bool mr]), .agg #[.int .i64 1, .int .i64 x, .int .i64 y, .int .i64 z, .int .i64 f, .int .i64 n]] w fun e w' => e = .returned (.agg #[.int .i64 mx, .int .i64 my, .int .i64 mz, .int .i64 ms, .int .i64 mh, .int .i64 mt, .int .i64 mf, .bool false]) ∧ Below w.heap.size w w' := by
  obtain ⟨g1, g2, g3, g4, g5, g6, g7⟩ := hf
  have e1 := i64w g1
  have e2 := i64w g2
  have e3 := i64w g3
  have e4 := i64w g4
  have e5 := i64w g5
  have e6 := i64w g6
  have e7 := i64w g7
  go_enter Try.func38, Try.ntmps38
  go_wp2_with (go_at_call 46; refine (reached_any _ _ _ _ (by assumption)).mono ?_; rintro e w' ⟨rfl, rfl⟩)
  exact bodyPost_ret (v := (.agg #[.int .i64 mx, .int .i64 my, .int .i64 mz, .int .i64 ms, .int .i64 mh, .int .i64 mt, .int .i64 mf, .bool false])) (by simp [results, Try.results38, go_sem, rch]) rfl ⟨rfl, (by repeat (first | exact Below.refl _ _ | assumption | refine Below.drew ?_ | refine bdrewN ?_ _ | refine Below.setCell ?_ (by first | omega | (simp <;> omega)) _ | refine Below.alloc ?_ (by first | omega | (simp <;> omega)) _))⟩
set_option maxRecDepth 100000 in
set_option maxHeartbeats 8000000 in
theorem done2_any (mx my mz ms mh mt mf : Int) (mr : Bool) (x y z f n : Int) (w : World) (hf : Fit mx my mz mf x y z f) : Calls Try.prog 38 #[(.agg #[.int .i64 mx, .int .i64 my, .int .i64 mz, .int .i64 ms, .int .i64 mh, .int .i64 mt, .int .i64 mf, .bool mr]), .agg #[.int .i64 2, .int .i64 x, .int .i64 y, .int .i64 z, .int .i64 f, .int .i64 n]] w fun e w' => e = .returned (.agg #[.int .i64 mx, .int .i64 my, .int .i64 mz, .int .i64 ms, .int .i64 mh, .int .i64 mt, .int .i64 mf, .bool true]) ∧ Below w.heap.size w w' := by
  obtain ⟨g1, g2, g3, g4, g5, g6, g7⟩ := hf
  have e1 := i64w g1
  have e2 := i64w g2
  have e3 := i64w g3
  have e4 := i64w g4
  have e5 := i64w g5
  have e6 := i64w g6
  have e7 := i64w g7
  go_enter Try.func38, Try.ntmps38
  go_wp2_with (go_at_call 46; refine (reached_any _ _ _ _ (by assumption)).mono ?_; rintro e w' ⟨rfl, rfl⟩)
  exact bodyPost_ret (v := (.agg #[.int .i64 mx, .int .i64 my, .int .i64 mz, .int .i64 ms, .int .i64 mh, .int .i64 mt, .int .i64 mf, .bool true])) (by simp [results, Try.results38, go_sem, rch]) rfl ⟨rfl, (by repeat (first | exact Below.refl _ _ | assumption | refine Below.drew ?_ | refine bdrewN ?_ _ | refine Below.setCell ?_ (by first | omega | (simp <;> omega)) _ | refine Below.alloc ?_ (by first | omega | (simp <;> omega)) _))⟩
set_option maxRecDepth 100000 in
set_option maxHeartbeats 8000000 in
theorem done3_any (mx my mz ms mh mt mf : Int) (mr : Bool) (x y z f n : Int) (w : World) (hf : Fit mx my mz mf x y z f) : Calls Try.prog 38 #[(.agg #[.int .i64 mx, .int .i64 my, .int .i64 mz, .int .i64 ms, .int .i64 mh, .int .i64 mt, .int .i64 mf, .bool mr]), .agg #[.int .i64 3, .int .i64 x, .int .i64 y, .int .i64 z, .int .i64 f, .int .i64 n]] w fun e w' => e = .returned (.agg #[.int .i64 (rch mr mx x), .int .i64 (rch mr my y), .int .i64 mz, .int .i64 ms, .int .i64 mh, .int .i64 mt, .int .i64 (mf + f), .bool mr]) ∧ Below w.heap.size w w' := by
  obtain ⟨g1, g2, g3, g4, g5, g6, g7⟩ := hf
  have e1 := i64w g1
  have e2 := i64w g2
  have e3 := i64w g3
  have e4 := i64w g4
  have e5 := i64w g5
  have e6 := i64w g6
  have e7 := i64w g7
  cases mr
  · go_enter Try.func38, Try.ntmps38
    go_wp2_with (go_at_call 46; refine (reached_any _ _ _ _ (by assumption)).mono ?_; rintro e w' ⟨rfl, rfl⟩)
    refine wp_region_held_drew (S := (fun w' => w'.cell? ⟨w.heap.size, 7, none⟩ = some (.bool false) ∧ w'.cell? ⟨w.heap.size + 1, 1, none⟩ = some (.int .i64 x) ∧ w'.cell? ⟨w.heap.size + 1, 2, none⟩ = some (.int .i64 y))) (by kernel_rfl) ⟨by simp [go_sem], by simp [go_sem], by simp [go_sem]⟩ (fun hHeld => ?_)
    refine tkH (by assumption) 0 (oi := ?_) (v := ?_) ?_ ?_ ?_ ?_ ?_ ?_ ?_ ?_; rotate_left 2; (simp only [gA, gB, gC]; exact rfl); kernel_rfl; kernel_rfl; kernel_rfl; exact fun _ _ _ h => h; rfl; (intro w' hSw; (try dsimp only at hSw); go_simp; with_reducible rfl); simp only [Act.put, pB, pC, pD]
    refine tkH (by assumption) 1 (oi := ?_) (v := ?_) ?_ ?_ ?_ ?_ ?_ ?_ ?_ ?_; rotate_left 2; (simp only [gA, gB, gC]; exact rfl); kernel_rfl; kernel_rfl; kernel_rfl; exact fun _ _ _ h => h; rfl; (intro w' hSw; (try dsimp only at hSw); go_simp; with_reducible rfl); simp only [Act.put, pB, pC, pD]
    refine tkH (by assumption) 2 (oi := ?_) (v := ?_) ?_ ?_ ?_ ?_ ?_ ?_ ?_ ?_; rotate_left 2; (simp only [gA, gB, gC]; exact rfl); kernel_rfl; kernel_rfl; kernel_rfl; exact fun _ _ _ h => h; rfl; (intro w' hSw; (try dsimp only at hSw); go_simp; with_reducible rfl); simp only [Act.put, pB, pC, pD]
    refine tkH (by assumption) 4 (oi := ?_) (v := ?_) ?_ ?_ ?_ ?_ ?_ ?_ ?_ ?_; rotate_left 2; (simp only [gA, gB, gC]; exact rfl); kernel_rfl; kernel_rfl; kernel_rfl; exact fun _ _ _ h => h; rfl; (intro w' hSw; (try dsimp only at hSw); go_simp; with_reducible rfl); simp only [Act.put, pB, pC, pD]
    refine tkH (by assumption) 5 (oi := ?_) (v := ?_) ?_ ?_ ?_ ?_ ?_ ?_ ?_ ?_; rotate_left 2; (simp only [gA, gB, gC]; exact rfl); kernel_rfl; kernel_rfl; kernel_rfl; exact fun _ _ _ h => h; rfl; (intro w' hSw; (try dsimp only at hSw); go_simp; with_reducible rfl); simp only [Act.put, pB, pC, pD]
    refine tkH (by assumption) 7 (oi := ?_) (v := ?_) ?_ ?_ ?_ ?_ ?_ ?_ ?_ ?_; rotate_left 2; (simp only [gA, gB, gC]; exact rfl); kernel_rfl; kernel_rfl; kernel_rfl; exact fun _ _ _ h => h; rfl; (intro w' hSw; (try dsimp only at hSw); go_simp; with_reducible rfl); simp only [Act.put, pB, pC, pD]
    refine tkH (by assumption) 8 (oi := ?_) (v := ?_) ?_ ?_ ?_ ?_ ?_ ?_ ?_ ?_; rotate_left 2; (simp only [gA, gB, gC]; exact rfl); kernel_rfl; kernel_rfl; kernel_rfl; exact fun _ _ _ h => h; rfl; (intro w' hSw; (try dsimp only at hSw); go_simp; with_reducible rfl); simp only [Act.put, pB, pC, pD]
    refine tkH (by assumption) 9 (oi := ?_) (v := ?_) ?_ ?_ ?_ ?_ ?_ ?_ ?_ ?_; rotate_left 2; (simp only [gA, gB, gC]; exact rfl); kernel_rfl; kernel_rfl; kernel_rfl; exact fun _ _ _ h => h; rfl; (intro w' hSw; (try dsimp only at hSw); go_simp; with_reducible rfl); simp only [Act.put, pB, pC, pD]
    refine tkH (by assumption) 11 (oi := ?_) (v := ?_) ?_ ?_ ?_ ?_ ?_ ?_ ?_ ?_; rotate_left 2; (simp only [gA, gB, gC]; exact rfl); kernel_rfl; kernel_rfl; kernel_rfl; exact fun _ _ _ h => h; rfl; (intro w' hSw; (try dsimp only at hSw); go_simp; with_reducible rfl); simp only [Act.put, pB, pC, pD]
    refine tkH (by assumption) 12 (oi := ?_) (v := ?_) ?_ ?_ ?_ ?_ ?_ ?_ ?_ ?_; rotate_left 2; (simp only [gA, gB, gC]; exact rfl); kernel_rfl; kernel_rfl; kernel_rfl; exact fun _ _ _ h => h; rfl; (intro w' hSw; (try dsimp only at hSw); go_simp; with_reducible rfl); simp only [Act.put, pB, pC, pD]
    refine wpAnyH_ready (rs := [3, 10]) (by kernel_rfl) (by simp) ?_
    refine coH 3 (oi := ?_) ?_ ?_ (fun K hK => ?_) ?_; rotate_left; (simp only [gA, gB, gC]; exact rfl); rfl
    · skip
      go_wp2_with (fail)
      refine hK.out _ _ hHeld (fun hHeldN => ?_)
      clear hK K hHeldN
      try simp only [Act.put, pB, pC, pD]
      refine wpAnyH_ready (rs := [6, 10]) (by kernel_rfl) (by simp) ?_
      refine coH 6 (oi := ?_) ?_ ?_ (fun K hK => ?_) ?_; rotate_left; (simp only [gA, gB, gC]; exact rfl); rfl
      · skip
        go_wp2_with (go_at_call 46; refine (reached_any _ _ _ _ (by assumption)).mono ?_; rintro e w' ⟨rfl, rfl⟩)
        refine hK.out _ _ hHeld (fun hHeldN => ?_)
        clear hK K hHeldN
        try simp only [Act.put, pB, pC, pD]
        refine onH 10 (oi := ?_) (by kernel_rfl) ?_ ?_ (fun K hK => ?_); rotate_left; (simp only [gA, gB, gC]; exact rfl); rfl
        go_wp2_with (fail)
        refine hK.out _ _ hHeld (fun hHeldN => ?_)
        clear hK K hHeldN
        try simp only [Act.put, pB, pC, pD]
        refine tkH (by assumption) 14 (oi := ?_) (v := ?_) ?_ ?_ ?_ ?_ ?_ ?_ ?_ ?_; rotate_left 2; (simp only [gA, gB, gC]; exact rfl); kernel_rfl; kernel_rfl; kernel_rfl; exact fun _ _ _ h => h; rfl; (intro w' hSw; (try dsimp only at hSw); go_simp; with_reducible rfl); simp only [Act.put, pB, pC, pD]
        refine onH 13 (oi := ?_) (by kernel_rfl) ?_ ?_ (fun K hK => ?_); rotate_left; (simp only [gA, gB, gC]; exact rfl); rfl
        go_wp2_with (go_at_call 46; refine (reached_any _ _ _ _ (by assumption)).mono ?_; rintro e w' ⟨rfl, rfl⟩)
        refine hK.out _ _ hHeld (fun hHeldN => ?_)
        clear hK K hHeldN
        try simp only [Act.put, pB, pC, pD]
        refine onH 15 (oi := ?_) (by kernel_rfl) ?_ ?_ (fun K hK => ?_); rotate_left; (simp only [gA, gB, gC]; exact rfl); rfl
        go_wp2_with (fail)
        refine hK.out _ _ ⟨by simp [go_sem], by simp [go_sem], by simp [go_sem]⟩ (fun hHeldN => ?_)
        clear hK K hHeld
        have hHeld := hHeldN
        clear hHeldN
        try simp only [Act.put, pB, pC, pD]
        refine tkH (by assumption) 16 (oi := ?_) (v := ?_) ?_ ?_ ?_ ?_ ?_ ?_ ?_ ?_; rotate_left 2; (simp only [gA, gB, gC]; exact rfl); kernel_rfl; kernel_rfl; kernel_rfl; exact fun _ _ _ h => h; rfl; (intro w' hSw; (try dsimp only at hSw); go_simp; with_reducible rfl); simp only [Act.put, pB, pC, pD]
        refine onH 17 (oi := ?_) (by kernel_rfl) ?_ ?_ (fun K hK => ?_); rotate_left; (simp only [gA, gB, gC]; exact rfl); rfl
        go_wp2_with (fail)
        refine hK.out _ _ ⟨by simp [go_sem], by simp [go_sem], by simp [go_sem]⟩ (fun hHeldN => ?_)
        clear hK K hHeld hHeldN
        try simp only [Act.put, pB, pC, pD]
        refine wpAnyH_done (by kernel_rfl) ?_ _
        go_wp2_with (fail)
        exact bodyPost_ret (v := (.agg #[.int .i64 (rch false mx x), .int .i64 (rch false my y), .int .i64 mz, .int .i64 ms, .int .i64 mh, .int .i64 mt, .int .i64 (mf + f), .bool false])) (by simp [results, Try.results38, go_sem, rch]) rfl ⟨rfl, (by repeat (first | exact Below.refl _ _ | assumption | refine Below.drew ?_ | refine bdrewN ?_ _ | refine Below.setCell ?_ (by first | omega | (simp <;> omega)) _ | refine Below.alloc ?_ (by first | omega | (simp <;> omega)) _))⟩
      refine coH 10 (oi := ?_) ?_ ?_ (fun K hK => ?_) ?_; rotate_left; (simp only [gA, gB, gC]; exact rfl); rfl
      · skip
        go_wp2_with (fail)
        refine hK.out _ _ hHeld (fun hHeldN => ?_)
        clear hK K hHeldN
        try simp only [Act.put, pB, pC, pD]
        refine onH 6 (oi := ?_) (by kernel_rfl) ?_ ?_ (fun K hK => ?_); rotate_left; (simp only [gA, gB, gC]; exact rfl); rfl
        go_wp2_with (go_at_call 46; refine (reached_any _ _ _ _ (by assumption)).mono ?_; rintro e w' ⟨rfl, rfl⟩)
        refine hK.out _ _ hHeld (fun hHeldN => ?_)
        clear hK K hHeldN
        try simp only [Act.put, pB, pC, pD]
        refine tkH (by assumption) 14 (oi := ?_) (v := ?_) ?_ ?_ ?_ ?_ ?_ ?_ ?_ ?_; rotate_left 2; (simp only [gA, gB, gC]; exact rfl); kernel_rfl; kernel_rfl; kernel_rfl; exact fun _ _ _ h => h; rfl; (intro w' hSw; (try dsimp only at hSw); go_simp; with_reducible rfl); simp only [Act.put, pB, pC, pD]
        refine onH 13 (oi := ?_) (by kernel_rfl) ?_ ?_ (fun K hK => ?_); rotate_left; (simp only [gA, gB, gC]; exact rfl); rfl
        go_wp2_with (go_at_call 46; refine (reached_any _ _ _ _ (by assumption)).mono ?_; rintro e w' ⟨rfl, rfl⟩)
        refine hK.out _ _ hHeld (fun hHeldN => ?_)
        clear hK K hHeldN
        try simp only [Act.put, pB, pC, pD]
        refine onH 15 (oi := ?_) (by kernel_rfl) ?_ ?_ (fun K hK => ?_); rotate_left; (simp only [gA, gB, gC]; exact rfl); rfl
        go_wp2_with (fail)
        refine hK.out _ _ ⟨by simp [go_sem], by simp [go_sem], by simp [go_sem]⟩ (fun hHeldN => ?_)
        clear hK K hHeld
        have hHeld := hHeldN
        clear hHeldN
        try simp only [Act.put, pB, pC, pD]
        refine tkH (by assumption) 16 (oi := ?_) (v := ?_) ?_ ?_ ?_ ?_ ?_ ?_ ?_ ?_; rotate_left 2; (simp only [gA, gB, gC]; exact rfl); kernel_rfl; kernel_rfl; kernel_rfl; exact fun _ _ _ h => h; rfl; (intro w' hSw; (try dsimp only at hSw); go_simp; with_reducible rfl); simp only [Act.put, pB, pC, pD]
        refine onH 17 (oi := ?_) (by kernel_rfl) ?_ ?_ (fun K hK => ?_); rotate_left; (simp only [gA, gB, gC]; exact rfl); rfl
        go_wp2_with (fail)
        refine hK.out _ _ ⟨by simp [go_sem], by simp [go_sem], by simp [go_sem]⟩ (fun hHeldN => ?_)
        clear hK K hHeld hHeldN
        try simp only [Act.put, pB, pC, pD]
        refine wpAnyH_done (by kernel_rfl) ?_ _
        go_wp2_with (fail)
        exact bodyPost_ret (v := (.agg #[.int .i64 (rch false mx x), .int .i64 (rch false my y), .int .i64 mz, .int .i64 ms, .int .i64 mh, .int .i64 mt, .int .i64 (mf + f), .bool false])) (by simp [results, Try.results38, go_sem, rch]) rfl ⟨rfl, (by repeat (first | exact Below.refl _ _ | assumption | refine Below.drew ?_ | refine bdrewN ?_ _ | refine Below.setCell ?_ (by first | omega | (simp <;> omega)) _ | refine Below.alloc ?_ (by first | omega | (simp <;> omega)) _))⟩
      exact AllReadyH.nil
    refine coH 10 (oi := ?_) ?_ ?_ (fun K hK => ?_) ?_; rotate_left; (simp only [gA, gB, gC]; exact rfl); rfl
    · skip
      go_wp2_with (fail)
      refine hK.out _ _ hHeld (fun hHeldN => ?_)
      clear hK K hHeldN
      try simp only [Act.put, pB, pC, pD]
      refine onH 3 (oi := ?_) (by kernel_rfl) ?_ ?_ (fun K hK => ?_); rotate_left; (simp only [gA, gB, gC]; exact rfl); rfl
      go_wp2_with (fail)
      refine hK.out _ _ hHeld (fun hHeldN => ?_)
      clear hK K hHeldN
      try simp only [Act.put, pB, pC, pD]
      refine onH 6 (oi := ?_) (by kernel_rfl) ?_ ?_ (fun K hK => ?_); rotate_left; (simp only [gA, gB, gC]; exact rfl); rfl
      go_wp2_with (go_at_call 46; refine (reached_any _ _ _ _ (by assumption)).mono ?_; rintro e w' ⟨rfl, rfl⟩)
      refine hK.out _ _ hHeld (fun hHeldN => ?_)
      clear hK K hHeldN
      try simp only [Act.put, pB, pC, pD]
      refine tkH (by assumption) 14 (oi := ?_) (v := ?_) ?_ ?_ ?_ ?_ ?_ ?_ ?_ ?_; rotate_left 2; (simp only [gA, gB, gC]; exact rfl); kernel_rfl; kernel_rfl; kernel_rfl; exact fun _ _ _ h => h; rfl; (intro w' hSw; (try dsimp only at hSw); go_simp; with_reducible rfl); simp only [Act.put, pB, pC, pD]
      refine onH 13 (oi := ?_) (by kernel_rfl) ?_ ?_ (fun K hK => ?_); rotate_left; (simp only [gA, gB, gC]; exact rfl); rfl
      go_wp2_with (go_at_call 46; refine (reached_any _ _ _ _ (by assumption)).mono ?_; rintro e w' ⟨rfl, rfl⟩)
      refine hK.out _ _ hHeld (fun hHeldN => ?_)
      clear hK K hHeldN
      try simp only [Act.put, pB, pC, pD]
      refine onH 15 (oi := ?_) (by kernel_rfl) ?_ ?_ (fun K hK => ?_); rotate_left; (simp only [gA, gB, gC]; exact rfl); rfl
      go_wp2_with (fail)
      refine hK.out _ _ ⟨by simp [go_sem], by simp [go_sem], by simp [go_sem]⟩ (fun hHeldN => ?_)
      clear hK K hHeld
      have hHeld := hHeldN
      clear hHeldN
      try simp only [Act.put, pB, pC, pD]
      refine tkH (by assumption) 16 (oi := ?_) (v := ?_) ?_ ?_ ?_ ?_ ?_ ?_ ?_ ?_; rotate_left 2; (simp only [gA, gB, gC]; exact rfl); kernel_rfl; kernel_rfl; kernel_rfl; exact fun _ _ _ h => h; rfl; (intro w' hSw; (try dsimp only at hSw); go_simp; with_reducible rfl); simp only [Act.put, pB, pC, pD]
      refine onH 17 (oi := ?_) (by kernel_rfl) ?_ ?_ (fun K hK => ?_); rotate_left; (simp only [gA, gB, gC]; exact rfl); rfl
      go_wp2_with (fail)
      refine hK.out _ _ ⟨by simp [go_sem], by simp [go_sem], by simp [go_sem]⟩ (fun hHeldN => ?_)
      clear hK K hHeld hHeldN
      try simp only [Act.put, pB, pC, pD]
      refine wpAnyH_done (by kernel_rfl) ?_ _
      go_wp2_with (fail)
      exact bodyPost_ret (v := (.agg #[.int .i64 (rch false mx x), .int .i64 (rch false my y), .int .i64 mz, .int .i64 ms, .int .i64 mh, .int .i64 mt, .int .i64 (mf + f), .bool false])) (by simp [results, Try.results38, go_sem, rch]) rfl ⟨rfl, (by repeat (first | exact Below.refl _ _ | assumption | refine Below.drew ?_ | refine bdrewN ?_ _ | refine Below.setCell ?_ (by first | omega | (simp <;> omega)) _ | refine Below.alloc ?_ (by first | omega | (simp <;> omega)) _))⟩
    exact AllReadyH.nil
  · go_enter Try.func38, Try.ntmps38
    go_wp2_with (go_at_call 46; refine (reached_any _ _ _ _ (by assumption)).mono ?_; rintro e w' ⟨rfl, rfl⟩)
    refine wp_region_held_drew (S := (fun w' => w'.cell? ⟨w.heap.size, 7, none⟩ = some (.bool true) ∧ w'.cell? ⟨w.heap.size + 1, 1, none⟩ = some (.int .i64 x) ∧ w'.cell? ⟨w.heap.size + 1, 2, none⟩ = some (.int .i64 y))) (by kernel_rfl) ⟨by simp [go_sem], by simp [go_sem], by simp [go_sem]⟩ (fun hHeld => ?_)
    refine tkH (by assumption) 0 (oi := ?_) (v := ?_) ?_ ?_ ?_ ?_ ?_ ?_ ?_ ?_; rotate_left 2; (simp only [gA, gB, gC]; exact rfl); kernel_rfl; kernel_rfl; kernel_rfl; exact fun _ _ _ h => h; rfl; (intro w' hSw; (try dsimp only at hSw); go_simp; with_reducible rfl); simp only [Act.put, pB, pC, pD]
    refine tkH (by assumption) 1 (oi := ?_) (v := ?_) ?_ ?_ ?_ ?_ ?_ ?_ ?_ ?_; rotate_left 2; (simp only [gA, gB, gC]; exact rfl); kernel_rfl; kernel_rfl; kernel_rfl; exact fun _ _ _ h => h; rfl; (intro w' hSw; (try dsimp only at hSw); go_simp; with_reducible rfl); simp only [Act.put, pB, pC, pD]
    refine tkH (by assumption) 2 (oi := ?_) (v := ?_) ?_ ?_ ?_ ?_ ?_ ?_ ?_ ?_; rotate_left 2; (simp only [gA, gB, gC]; exact rfl); kernel_rfl; kernel_rfl; kernel_rfl; exact fun _ _ _ h => h; rfl; (intro w' hSw; (try dsimp only at hSw); go_simp; with_reducible rfl); simp only [Act.put, pB, pC, pD]
    refine tkH (by assumption) 4 (oi := ?_) (v := ?_) ?_ ?_ ?_ ?_ ?_ ?_ ?_ ?_; rotate_left 2; (simp only [gA, gB, gC]; exact rfl); kernel_rfl; kernel_rfl; kernel_rfl; exact fun _ _ _ h => h; rfl; (intro w' hSw; (try dsimp only at hSw); go_simp; with_reducible rfl); simp only [Act.put, pB, pC, pD]
    refine tkH (by assumption) 5 (oi := ?_) (v := ?_) ?_ ?_ ?_ ?_ ?_ ?_ ?_ ?_; rotate_left 2; (simp only [gA, gB, gC]; exact rfl); kernel_rfl; kernel_rfl; kernel_rfl; exact fun _ _ _ h => h; rfl; (intro w' hSw; (try dsimp only at hSw); go_simp; with_reducible rfl); simp only [Act.put, pB, pC, pD]
    refine tkH (by assumption) 7 (oi := ?_) (v := ?_) ?_ ?_ ?_ ?_ ?_ ?_ ?_ ?_; rotate_left 2; (simp only [gA, gB, gC]; exact rfl); kernel_rfl; kernel_rfl; kernel_rfl; exact fun _ _ _ h => h; rfl; (intro w' hSw; (try dsimp only at hSw); go_simp; with_reducible rfl); simp only [Act.put, pB, pC, pD]
    refine tkH (by assumption) 8 (oi := ?_) (v := ?_) ?_ ?_ ?_ ?_ ?_ ?_ ?_ ?_; rotate_left 2; (simp only [gA, gB, gC]; exact rfl); kernel_rfl; kernel_rfl; kernel_rfl; exact fun _ _ _ h => h; rfl; (intro w' hSw; (try dsimp only at hSw); go_simp; with_reducible rfl); simp only [Act.put, pB, pC, pD]
    refine tkH (by assumption) 9 (oi := ?_) (v := ?_) ?_ ?_ ?_ ?_ ?_ ?_ ?_ ?_; rotate_left 2; (simp only [gA, gB, gC]; exact rfl); kernel_rfl; kernel_rfl; kernel_rfl; exact fun _ _ _ h => h; rfl; (intro w' hSw; (try dsimp only at hSw); go_simp; with_reducible rfl); simp only [Act.put, pB, pC, pD]
    refine tkH (by assumption) 11 (oi := ?_) (v := ?_) ?_ ?_ ?_ ?_ ?_ ?_ ?_ ?_; rotate_left 2; (simp only [gA, gB, gC]; exact rfl); kernel_rfl; kernel_rfl; kernel_rfl; exact fun _ _ _ h => h; rfl; (intro w' hSw; (try dsimp only at hSw); go_simp; with_reducible rfl); simp only [Act.put, pB, pC, pD]
    refine tkH (by assumption) 12 (oi := ?_) (v := ?_) ?_ ?_ ?_ ?_ ?_ ?_ ?_ ?_; rotate_left 2; (simp only [gA, gB, gC]; exact rfl); kernel_rfl; kernel_rfl; kernel_rfl; exact fun _ _ _ h => h; rfl; (intro w' hSw; (try dsimp only at hSw); go_simp; with_reducible rfl); simp only [Act.put, pB, pC, pD]
    refine wpAnyH_ready (rs := [3, 10]) (by kernel_rfl) (by simp) ?_
    refine coH 3 (oi := ?_) ?_ ?_ (fun K hK => ?_) ?_; rotate_left; (simp only [gA, gB, gC]; exact rfl); rfl
    · skip
      go_wp2_with (fail)
      refine hK.out _ _ hHeld (fun hHeldN => ?_)
      clear hK K hHeldN
      try simp only [Act.put, pB, pC, pD]
      refine wpAnyH_ready (rs := [6, 10]) (by kernel_rfl) (by simp) ?_
      refine coH 6 (oi := ?_) ?_ ?_ (fun K hK => ?_) ?_; rotate_left; (simp only [gA, gB, gC]; exact rfl); rfl
      · skip
        go_wp2_with (go_at_call 46; refine (reached_any _ _ _ _ (by assumption)).mono ?_; rintro e w' ⟨rfl, rfl⟩)
        refine hK.out _ _ hHeld (fun hHeldN => ?_)
        clear hK K hHeldN
        try simp only [Act.put, pB, pC, pD]
        refine onH 10 (oi := ?_) (by kernel_rfl) ?_ ?_ (fun K hK => ?_); rotate_left; (simp only [gA, gB, gC]; exact rfl); rfl
        go_wp2_with (fail)
        refine hK.out _ _ hHeld (fun hHeldN => ?_)
        clear hK K hHeldN
        try simp only [Act.put, pB, pC, pD]
        refine tkH (by assumption) 14 (oi := ?_) (v := ?_) ?_ ?_ ?_ ?_ ?_ ?_ ?_ ?_; rotate_left 2; (simp only [gA, gB, gC]; exact rfl); kernel_rfl; kernel_rfl; kernel_rfl; exact fun _ _ _ h => h; rfl; (intro w' hSw; (try dsimp only at hSw); go_simp; with_reducible rfl); simp only [Act.put, pB, pC, pD]
        refine onH 13 (oi := ?_) (by kernel_rfl) ?_ ?_ (fun K hK => ?_); rotate_left; (simp only [gA, gB, gC]; exact rfl); rfl
        go_wp2_with (go_at_call 46; refine (reached_any _ _ _ _ (by assumption)).mono ?_; rintro e w' ⟨rfl, rfl⟩)
        refine hK.out _ _ hHeld (fun hHeldN => ?_)
        clear hK K hHeldN
        try simp only [Act.put, pB, pC, pD]
        refine onH 15 (oi := ?_) (by kernel_rfl) ?_ ?_ (fun K hK => ?_); rotate_left; (simp only [gA, gB, gC]; exact rfl); rfl
        go_wp2_with (fail)
        refine hK.out _ _ ⟨by simp [go_sem], by simp [go_sem], by simp [go_sem]⟩ (fun hHeldN => ?_)
        clear hK K hHeld
        have hHeld := hHeldN
        clear hHeldN
        try simp only [Act.put, pB, pC, pD]
        refine tkH (by assumption) 16 (oi := ?_) (v := ?_) ?_ ?_ ?_ ?_ ?_ ?_ ?_ ?_; rotate_left 2; (simp only [gA, gB, gC]; exact rfl); kernel_rfl; kernel_rfl; kernel_rfl; exact fun _ _ _ h => h; rfl; (intro w' hSw; (try dsimp only at hSw); go_simp; with_reducible rfl); simp only [Act.put, pB, pC, pD]
        refine onH 17 (oi := ?_) (by kernel_rfl) ?_ ?_ (fun K hK => ?_); rotate_left; (simp only [gA, gB, gC]; exact rfl); rfl
        go_wp2_with (fail)
        refine hK.out _ _ ⟨by simp [go_sem], by simp [go_sem], by simp [go_sem]⟩ (fun hHeldN => ?_)
        clear hK K hHeld hHeldN
        try simp only [Act.put, pB, pC, pD]
        refine wpAnyH_done (by kernel_rfl) ?_ _
        go_wp2_with (fail)
        exact bodyPost_ret (v := (.agg #[.int .i64 (rch true mx x), .int .i64 (rch true my y), .int .i64 mz, .int .i64 ms, .int .i64 mh, .int .i64 mt, .int .i64 (mf + f), .bool true])) (by simp [results, Try.results38, go_sem, rch]) rfl ⟨rfl, (by repeat (first | exact Below.refl _ _ | assumption | refine Below.drew ?_ | refine bdrewN ?_ _ | refine Below.setCell ?_ (by first | omega | (simp <;> omega)) _ | refine Below.alloc ?_ (by first | omega | (simp <;> omega)) _))⟩
      refine coH 10 (oi := ?_) ?_ ?_ (fun K hK => ?_) ?_; rotate_left; (simp only [gA, gB, gC]; exact rfl); rfl
      · skip
        go_wp2_with (fail)
        refine hK.out _ _ hHeld (fun hHeldN => ?_)
        clear hK K hHeldN
        try simp only [Act.put, pB, pC, pD]
        refine onH 6 (oi := ?_) (by kernel_rfl) ?_ ?_ (fun K hK => ?_); rotate_left; (simp only [gA, gB, gC]; exact rfl); rfl
        go_wp2_with (go_at_call 46; refine (reached_any _ _ _ _ (by assumption)).mono ?_; rintro e w' ⟨rfl, rfl⟩)
        refine hK.out _ _ hHeld (fun hHeldN => ?_)
        clear hK K hHeldN
        try simp only [Act.put, pB, pC, pD]
        refine tkH (by assumption) 14 (oi := ?_) (v := ?_) ?_ ?_ ?_ ?_ ?_ ?_ ?_ ?_; rotate_left 2; (simp only [gA, gB, gC]; exact rfl); kernel_rfl; kernel_rfl; kernel_rfl; exact fun _ _ _ h => h; rfl; (intro w' hSw; (try dsimp only at hSw); go_simp; with_reducible rfl); simp only [Act.put, pB, pC, pD]
        refine onH 13 (oi := ?_) (by kernel_rfl) ?_ ?_ (fun K hK => ?_); rotate_left; (simp only [gA, gB, gC]; exact rfl); rfl
        go_wp2_with (go_at_call 46; refine (reached_any _ _ _ _ (by assumption)).mono ?_; rintro e w' ⟨rfl, rfl⟩)
        refine hK.out _ _ hHeld (fun hHeldN => ?_)
        clear hK K hHeldN
        try simp only [Act.put, pB, pC, pD]
        refine onH 15 (oi := ?_) (by kernel_rfl) ?_ ?_ (fun K hK => ?_); rotate_left; (simp only [gA, gB, gC]; exact rfl); rfl
        go_wp2_with (fail)
        refine hK.out _ _ ⟨by simp [go_sem], by simp [go_sem], by simp [go_sem]⟩ (fun hHeldN => ?_)
        clear hK K hHeld
        have hHeld := hHeldN
        clear hHeldN
        try simp only [Act.put, pB, pC, pD]
        refine tkH (by assumption) 16 (oi := ?_) (v := ?_) ?_ ?_ ?_ ?_ ?_ ?_ ?_ ?_; rotate_left 2; (simp only [gA, gB, gC]; exact rfl); kernel_rfl; kernel_rfl; kernel_rfl; exact fun _ _ _ h => h; rfl; (intro w' hSw; (try dsimp only at hSw); go_simp; with_reducible rfl); simp only [Act.put, pB, pC, pD]
        refine onH 17 (oi := ?_) (by kernel_rfl) ?_ ?_ (fun K hK => ?_); rotate_left; (simp only [gA, gB, gC]; exact rfl); rfl
        go_wp2_with (fail)
        refine hK.out _ _ ⟨by simp [go_sem], by simp [go_sem], by simp [go_sem]⟩ (fun hHeldN => ?_)
        clear hK K hHeld hHeldN
        try simp only [Act.put, pB, pC, pD]
        refine wpAnyH_done (by kernel_rfl) ?_ _
        go_wp2_with (fail)
        exact bodyPost_ret (v := (.agg #[.int .i64 (rch true mx x), .int .i64 (rch true my y), .int .i64 mz, .int .i64 ms, .int .i64 mh, .int .i64 mt, .int .i64 (mf + f), .bool true])) (by simp [results, Try.results38, go_sem, rch]) rfl ⟨rfl, (by repeat (first | exact Below.refl _ _ | assumption | refine Below.drew ?_ | refine bdrewN ?_ _ | refine Below.setCell ?_ (by first | omega | (simp <;> omega)) _ | refine Below.alloc ?_ (by first | omega | (simp <;> omega)) _))⟩
      exact AllReadyH.nil
    refine coH 10 (oi := ?_) ?_ ?_ (fun K hK => ?_) ?_; rotate_left; (simp only [gA, gB, gC]; exact rfl); rfl
    · skip
      go_wp2_with (fail)
      refine hK.out _ _ hHeld (fun hHeldN => ?_)
      clear hK K hHeldN
      try simp only [Act.put, pB, pC, pD]
      refine onH 3 (oi := ?_) (by kernel_rfl) ?_ ?_ (fun K hK => ?_); rotate_left; (simp only [gA, gB, gC]; exact rfl); rfl
      go_wp2_with (fail)
      refine hK.out _ _ hHeld (fun hHeldN => ?_)
      clear hK K hHeldN
      try simp only [Act.put, pB, pC, pD]
      refine onH 6 (oi := ?_) (by kernel_rfl) ?_ ?_ (fun K hK => ?_); rotate_left; (simp only [gA, gB, gC]; exact rfl); rfl
      go_wp2_with (go_at_call 46; refine (reached_any _ _ _ _ (by assumption)).mono ?_; rintro e w' ⟨rfl, rfl⟩)
      refine hK.out _ _ hHeld (fun hHeldN => ?_)
      clear hK K hHeldN
      try simp only [Act.put, pB, pC, pD]
      refine tkH (by assumption) 14 (oi := ?_) (v := ?_) ?_ ?_ ?_ ?_ ?_ ?_ ?_ ?_; rotate_left 2; (simp only [gA, gB, gC]; exact rfl); kernel_rfl; kernel_rfl; kernel_rfl; exact fun _ _ _ h => h; rfl; (intro w' hSw; (try dsimp only at hSw); go_simp; with_reducible rfl); simp only [Act.put, pB, pC, pD]
      refine onH 13 (oi := ?_) (by kernel_rfl) ?_ ?_ (fun K hK => ?_); rotate_left; (simp only [gA, gB, gC]; exact rfl); rfl
      go_wp2_with (go_at_call 46; refine (reached_any _ _ _ _ (by assumption)).mono ?_; rintro e w' ⟨rfl, rfl⟩)
      refine hK.out _ _ hHeld (fun hHeldN => ?_)
      clear hK K hHeldN
      try simp only [Act.put, pB, pC, pD]
      refine onH 15 (oi := ?_) (by kernel_rfl) ?_ ?_ (fun K hK => ?_); rotate_left; (simp only [gA, gB, gC]; exact rfl); rfl
      go_wp2_with (fail)
      refine hK.out _ _ ⟨by simp [go_sem], by simp [go_sem], by simp [go_sem]⟩ (fun hHeldN => ?_)
      clear hK K hHeld
      have hHeld := hHeldN
      clear hHeldN
      try simp only [Act.put, pB, pC, pD]
      refine tkH (by assumption) 16 (oi := ?_) (v := ?_) ?_ ?_ ?_ ?_ ?_ ?_ ?_ ?_; rotate_left 2; (simp only [gA, gB, gC]; exact rfl); kernel_rfl; kernel_rfl; kernel_rfl; exact fun _ _ _ h => h; rfl; (intro w' hSw; (try dsimp only at hSw); go_simp; with_reducible rfl); simp only [Act.put, pB, pC, pD]
      refine onH 17 (oi := ?_) (by kernel_rfl) ?_ ?_ (fun K hK => ?_); rotate_left; (simp only [gA, gB, gC]; exact rfl); rfl
      go_wp2_with (fail)
      refine hK.out _ _ ⟨by simp [go_sem], by simp [go_sem], by simp [go_sem]⟩ (fun hHeldN => ?_)
      clear hK K hHeld hHeldN
      try simp only [Act.put, pB, pC, pD]
      refine wpAnyH_done (by kernel_rfl) ?_ _
      go_wp2_with (fail)
      exact bodyPost_ret (v := (.agg #[.int .i64 (rch true mx x), .int .i64 (rch true my y), .int .i64 mz, .int .i64 ms, .int .i64 mh, .int .i64 mt, .int .i64 (mf + f), .bool true])) (by simp [results, Try.results38, go_sem, rch]) rfl ⟨rfl, (by repeat (first | exact Below.refl _ _ | assumption | refine Below.drew ?_ | refine bdrewN ?_ _ | refine Below.setCell ?_ (by first | omega | (simp <;> omega)) _ | refine Below.alloc ?_ (by first | omega | (simp <;> omega)) _))⟩
    exact AllReadyH.nil
set_option maxRecDepth 100000 in
set_option maxHeartbeats 8000000 in
theorem done4_any (mx my mz ms mh mt mf : Int) (mr : Bool) (x y z f n : Int) (w : World) (hf : Fit mx my mz mf x y z f) : Calls Try.prog 38 #[(.agg #[.int .i64 mx, .int .i64 my, .int .i64 mz, .int .i64 ms, .int .i64 mh, .int .i64 mt, .int .i64 mf, .bool mr]), .agg #[.int .i64 4, .int .i64 x, .int .i64 y, .int .i64 z, .int .i64 f, .int .i64 n]] w fun e w' => e = .returned (.agg #[.int .i64 (rch mr mx x), .int .i64 (rch mr my y), .int .i64 mz, .int .i64 ms, .int .i64 mh, .int .i64 mt, .int .i64 (mf + f), .bool mr]) ∧ Below w.heap.size w w' := by
  obtain ⟨g1, g2, g3, g4, g5, g6, g7⟩ := hf
  have e1 := i64w g1
  have e2 := i64w g2
  have e3 := i64w g3
  have e4 := i64w g4
  have e5 := i64w g5
  have e6 := i64w g6
  have e7 := i64w g7
  cases mr
  · go_enter Try.func38, Try.ntmps38
    go_wp2_with (go_at_call 46; refine (reached_any _ _ _ _ (by assumption)).mono ?_; rintro e w' ⟨rfl, rfl⟩)
    refine wp_region_held_drew (S := (fun w' => w'.cell? ⟨w.heap.size, 7, none⟩ = some (.bool false) ∧ w'.cell? ⟨w.heap.size + 1, 1, none⟩ = some (.int .i64 x) ∧ w'.cell? ⟨w.heap.size + 1, 2, none⟩ = some (.int .i64 y))) (by kernel_rfl) ⟨by simp [go_sem], by simp [go_sem], by simp [go_sem]⟩ (fun hHeld => ?_)
    refine tkH (by assumption) 0 (oi := ?_) (v := ?_) ?_ ?_ ?_ ?_ ?_ ?_ ?_ ?_; rotate_left 2; (simp only [gA, gB, gC]; exact rfl); kernel_rfl; kernel_rfl; kernel_rfl; exact fun _ _ _ h => h; rfl; (intro w' hSw; (try dsimp only at hSw); go_simp; with_reducible rfl); simp only [Act.put, pB, pC, pD]
    refine tkH (by assumption) 1 (oi := ?_) (v := ?_) ?_ ?_ ?_ ?_ ?_ ?_ ?_ ?_; rotate_left 2; (simp only [gA, gB, gC]; exact rfl); kernel_rfl; kernel_rfl; kernel_rfl; exact fun _ _ _ h => h; rfl; (intro w' hSw; (try dsimp only at hSw); go_simp; with_reducible rfl); simp only [Act.put, pB, pC, pD]
    refine tkH (by assumption) 2 (oi := ?_) (v := ?_) ?_ ?_ ?_ ?_ ?_ ?_ ?_ ?_; rotate_left 2; (simp only [gA, gB, gC]; exact rfl); kernel_rfl; kernel_rfl; kernel_rfl; exact fun _ _ _ h => h; rfl; (intro w' hSw; (try dsimp only at hSw); go_simp; with_reducible rfl); simp only [Act.put, pB, pC, pD]
    refine tkH (by assumption) 4 (oi := ?_) (v := ?_) ?_ ?_ ?_ ?_ ?_ ?_ ?_ ?_; rotate_left 2; (simp only [gA, gB, gC]; exact rfl); kernel_rfl; kernel_rfl; kernel_rfl; exact fun _ _ _ h => h; rfl; (intro w' hSw; (try dsimp only at hSw); go_simp; with_reducible rfl); simp only [Act.put, pB, pC, pD]
    refine tkH (by assumption) 5 (oi := ?_) (v := ?_) ?_ ?_ ?_ ?_ ?_ ?_ ?_ ?_; rotate_left 2; (simp only [gA, gB, gC]; exact rfl); kernel_rfl; kernel_rfl; kernel_rfl; exact fun _ _ _ h => h; rfl; (intro w' hSw; (try dsimp only at hSw); go_simp; with_reducible rfl); simp only [Act.put, pB, pC, pD]
    refine tkH (by assumption) 7 (oi := ?_) (v := ?_) ?_ ?_ ?_ ?_ ?_ ?_ ?_ ?_; rotate_left 2; (simp only [gA, gB, gC]; exact rfl); kernel_rfl; kernel_rfl; kernel_rfl; exact fun _ _ _ h => h; rfl; (intro w' hSw; (try dsimp only at hSw); go_simp; with_reducible rfl); simp only [Act.put, pB, pC, pD]
    refine tkH (by assumption) 8 (oi := ?_) (v := ?_) ?_ ?_ ?_ ?_ ?_ ?_ ?_ ?_; rotate_left 2; (simp only [gA, gB, gC]; exact rfl); kernel_rfl; kernel_rfl; kernel_rfl; exact fun _ _ _ h => h; rfl; (intro w' hSw; (try dsimp only at hSw); go_simp; with_reducible rfl); simp only [Act.put, pB, pC, pD]
    refine tkH (by assumption) 9 (oi := ?_) (v := ?_) ?_ ?_ ?_ ?_ ?_ ?_ ?_ ?_; rotate_left 2; (simp only [gA, gB, gC]; exact rfl); kernel_rfl; kernel_rfl; kernel_rfl; exact fun _ _ _ h => h; rfl; (intro w' hSw; (try dsimp only at hSw); go_simp; with_reducible rfl); simp only [Act.put, pB, pC, pD]
    refine tkH (by assumption) 11 (oi := ?_) (v := ?_) ?_ ?_ ?_ ?_ ?_ ?_ ?_ ?_; rotate_left 2; (simp only [gA, gB, gC]; exact rfl); kernel_rfl; kernel_rfl; kernel_rfl; exact fun _ _ _ h => h; rfl; (intro w' hSw; (try dsimp only at hSw); go_simp; with_reducible rfl); simp only [Act.put, pB, pC, pD]
    refine tkH (by assumption) 12 (oi := ?_) (v := ?_) ?_ ?_ ?_ ?_ ?_ ?_ ?_ ?_; rotate_left 2; (simp only [gA, gB, gC]; exact rfl); kernel_rfl; kernel_rfl; kernel_rfl; exact fun _ _ _ h => h; rfl; (intro w' hSw; (try dsimp only at hSw); go_simp; with_reducible rfl); simp only [Act.put, pB, pC, pD]
    refine wpAnyH_ready (rs := [3, 10]) (by kernel_rfl) (by simp) ?_
    refine coH 3 (oi := ?_) ?_ ?_ (fun K hK => ?_) ?_; rotate_left; (simp only [gA, gB, gC]; exact rfl); rfl
    · skip
      go_wp2_with (fail)
      refine hK.out _ _ hHeld (fun hHeldN => ?_)
      clear hK K hHeldN
      try simp only [Act.put, pB, pC, pD]
      refine wpAnyH_ready (rs := [6, 10]) (by kernel_rfl) (by simp) ?_
      refine coH 6 (oi := ?_) ?_ ?_ (fun K hK => ?_) ?_; rotate_left; (simp only [gA, gB, gC]; exact rfl); rfl
      · skip
        go_wp2_with (go_at_call 46; refine (reached_any _ _ _ _ (by assumption)).mono ?_; rintro e w' ⟨rfl, rfl⟩)
        refine hK.out _ _ hHeld (fun hHeldN => ?_)
        clear hK K hHeldN
        try simp only [Act.put, pB, pC, pD]
        refine onH 10 (oi := ?_) (by kernel_rfl) ?_ ?_ (fun K hK => ?_); rotate_left; (simp only [gA, gB, gC]; exact rfl); rfl
        go_wp2_with (fail)
        refine hK.out _ _ hHeld (fun hHeldN => ?_)
        clear hK K hHeldN
        try simp only [Act.put, pB, pC, pD]
        refine tkH (by assumption) 14 (oi := ?_) (v := ?_) ?_ ?_ ?_ ?_ ?_ ?_ ?_ ?_; rotate_left 2; (simp only [gA, gB, gC]; exact rfl); kernel_rfl; kernel_rfl; kernel_rfl; exact fun _ _ _ h => h; rfl; (intro w' hSw; (try dsimp only at hSw); go_simp; with_reducible rfl); simp only [Act.put, pB, pC, pD]
        refine onH 13 (oi := ?_) (by kernel_rfl) ?_ ?_ (fun K hK => ?_); rotate_left; (simp only [gA, gB, gC]; exact rfl); rfl
        go_wp2_with (go_at_call 46; refine (reached_any _ _ _ _ (by assumption)).mono ?_; rintro e w' ⟨rfl, rfl⟩)
        refine hK.out _ _ hHeld (fun hHeldN => ?_)
        clear hK K hHeldN
        try simp only [Act.put, pB, pC, pD]
        refine onH 15 (oi := ?_) (by kernel_rfl) ?_ ?_ (fun K hK => ?_); rotate_left; (simp only [gA, gB, gC]; exact rfl); rfl
        go_wp2_with (fail)
        refine hK.out _ _ ⟨by simp [go_sem], by simp [go_sem], by simp [go_sem]⟩ (fun hHeldN => ?_)
        clear hK K hHeld
        have hHeld := hHeldN
        clear hHeldN
        try simp only [Act.put, pB, pC, pD]
        refine tkH (by assumption) 16 (oi := ?_) (v := ?_) ?_ ?_ ?_ ?_ ?_ ?_ ?_ ?_; rotate_left 2; (simp only [gA, gB, gC]; exact rfl); kernel_rfl; kernel_rfl; kernel_rfl; exact fun _ _ _ h => h; rfl; (intro w' hSw; (try dsimp only at hSw); go_simp; with_reducible rfl); simp only [Act.put, pB, pC, pD]
        refine onH 17 (oi := ?_) (by kernel_rfl) ?_ ?_ (fun K hK => ?_); rotate_left; (simp only [gA, gB, gC]; exact rfl); rfl
        go_wp2_with (fail)
        refine hK.out _ _ ⟨by simp [go_sem], by simp [go_sem], by simp [go_sem]⟩ (fun hHeldN => ?_)
        clear hK K hHeld hHeldN
        try simp only [Act.put, pB, pC, pD]
        refine wpAnyH_done (by kernel_rfl) ?_ _
        go_wp2_with (fail)
        exact bodyPost_ret (v := (.agg #[.int .i64 (rch false mx x), .int .i64 (rch false my y), .int .i64 mz, .int .i64 ms, .int .i64 mh, .int .i64 mt, .int .i64 (mf + f), .bool false])) (by simp [results, Try.results38, go_sem, rch]) rfl ⟨rfl, (by repeat (first | exact Below.refl _ _ | assumption | refine Below.drew ?_ | refine bdrewN ?_ _ | refine Below.setCell ?_ (by first | omega | (simp <;> omega)) _ | refine Below.alloc ?_ (by first | omega | (simp <;> omega)) _))⟩
      refine coH 10 (oi := ?_) ?_ ?_ (fun K hK => ?_) ?_; rotate_left; (simp only [gA, gB, gC]; exact rfl); rfl
      · skip
        go_wp2_with (fail)
        refine hK.out _ _ hHeld (fun hHeldN => ?_)
        clear hK K hHeldN
        try simp only [Act.put, pB, pC, pD]
        refine onH 6 (oi := ?_) (by kernel_rfl) ?_ ?_ (fun K hK => ?_); rotate_left; (simp only [gA, gB, gC]; exact rfl); rfl
        go_wp2_with (go_at_call 46; refine (reached_any _ _ _ _ (by assumption)).mono ?_; rintro e w' ⟨rfl, rfl⟩)
        refine hK.out _ _ hHeld (fun hHeldN => ?_)
        clear hK K hHeldN
        try simp only [Act.put, pB, pC, pD]
        refine tkH (by assumption) 14 (oi := ?_) (v := ?_) ?_ ?_ ?_ ?_ ?_ ?_ ?_ ?_; rotate_left 2; (simp only [gA, gB, gC]; exact rfl); kernel_rfl; kernel_rfl; kernel_rfl; exact fun _ _ _ h => h; rfl; (intro w' hSw; (try dsimp only at hSw); go_simp; with_reducible rfl); simp only [Act.put, pB, pC, pD]
        refine onH 13 (oi := ?_) (by kernel_rfl) ?_ ?_ (fun K hK => ?_); rotate_left; (simp only [gA, gB, gC]; exact rfl); rfl
        go_wp2_with (go_at_call 46; refine (reached_any _ _ _ _ (by assumption)).mono ?_; rintro e w' ⟨rfl, rfl⟩)
        refine hK.out _ _ hHeld (fun hHeldN => ?_)
        clear hK K hHeldN
        try simp only [Act.put, pB, pC, pD]
        refine onH 15 (oi := ?_) (by kernel_rfl) ?_ ?_ (fun K hK => ?_); rotate_left; (simp only [gA, gB, gC]; exact rfl); rfl
        go_wp2_with (fail)
        refine hK.out _ _ ⟨by simp [go_sem], by simp [go_sem], by simp [go_sem]⟩ (fun hHeldN => ?_)
        clear hK K hHeld
        have hHeld := hHeldN
        clear hHeldN
        try simp only [Act.put, pB, pC, pD]
        refine tkH (by assumption) 16 (oi := ?_) (v := ?_) ?_ ?_ ?_ ?_ ?_ ?_ ?_ ?_; rotate_left 2; (simp only [gA, gB, gC]; exact rfl); kernel_rfl; kernel_rfl; kernel_rfl; exact fun _ _ _ h => h; rfl; (intro w' hSw; (try dsimp only at hSw); go_simp; with_reducible rfl); simp only [Act.put, pB, pC, pD]
        refine onH 17 (oi := ?_) (by kernel_rfl) ?_ ?_ (fun K hK => ?_); rotate_left; (simp only [gA, gB, gC]; exact rfl); rfl
        go_wp2_with (fail)
        refine hK.out _ _ ⟨by simp [go_sem], by simp [go_sem], by simp [go_sem]⟩ (fun hHeldN => ?_)
        clear hK K hHeld hHeldN
        try simp only [Act.put, pB, pC, pD]
        refine wpAnyH_done (by kernel_rfl) ?_ _
        go_wp2_with (fail)
        exact bodyPost_ret (v := (.agg #[.int .i64 (rch false mx x), .int .i64 (rch false my y), .int .i64 mz, .int .i64 ms, .int .i64 mh, .int .i64 mt, .int .i64 (mf + f), .bool false])) (by simp [results, Try.results38, go_sem, rch]) rfl ⟨rfl, (by repeat (first | exact Below.refl _ _ | assumption | refine Below.drew ?_ | refine bdrewN ?_ _ | refine Below.setCell ?_ (by first | omega | (simp <;> omega)) _ | refine Below.alloc ?_ (by first | omega | (simp <;> omega)) _))⟩
      exact AllReadyH.nil
    refine coH 10 (oi := ?_) ?_ ?_ (fun K hK => ?_) ?_; rotate_left; (simp only [gA, gB, gC]; exact rfl); rfl
    · skip
      go_wp2_with (fail)
      refine hK.out _ _ hHeld (fun hHeldN => ?_)
      clear hK K hHeldN
      try simp only [Act.put, pB, pC, pD]
      refine onH 3 (oi := ?_) (by kernel_rfl) ?_ ?_ (fun K hK => ?_); rotate_left; (simp only [gA, gB, gC]; exact rfl); rfl
      go_wp2_with (fail)
      refine hK.out _ _ hHeld (fun hHeldN => ?_)
      clear hK K hHeldN
      try simp only [Act.put, pB, pC, pD]
      refine onH 6 (oi := ?_) (by kernel_rfl) ?_ ?_ (fun K hK => ?_); rotate_left; (simp only [gA, gB, gC]; exact rfl); rfl
      go_wp2_with (go_at_call 46; refine (reached_any _ _ _ _ (by assumption)).mono ?_; rintro e w' ⟨rfl, rfl⟩)
      refine hK.out _ _ hHeld (fun hHeldN => ?_)
      clear hK K hHeldN
      try simp only [Act.put, pB, pC, pD]
      refine tkH (by assumption) 14 (oi := ?_) (v := ?_) ?_ ?_ ?_ ?_ ?_ ?_ ?_ ?_; rotate_left 2; (simp only [gA, gB, gC]; exact rfl); kernel_rfl; kernel_rfl; kernel_rfl; exact fun _ _ _ h => h; rfl; (intro w' hSw; (try dsimp only at hSw); go_simp; with_reducible rfl); simp only [Act.put, pB, pC, pD]
      refine onH 13 (oi := ?_) (by kernel_rfl) ?_ ?_ (fun K hK => ?_); rotate_left; (simp only [gA, gB, gC]; exact rfl); rfl
      go_wp2_with (go_at_call 46; refine (reached_any _ _ _ _ (by assumption)).mono ?_; rintro e w' ⟨rfl, rfl⟩)
      refine hK.out _ _ hHeld (fun hHeldN => ?_)
      clear hK K hHeldN
      try simp only [Act.put, pB, pC, pD]
      refine onH 15 (oi := ?_) (by kernel_rfl) ?_ ?_ (fun K hK => ?_); rotate_left; (simp only [gA, gB, gC]; exact rfl); rfl
      go_wp2_with (fail)
      refine hK.out _ _ ⟨by simp [go_sem], by simp [go_sem], by simp [go_sem]⟩ (fun hHeldN => ?_)
      clear hK K hHeld
      have hHeld := hHeldN
      clear hHeldN
      try simp only [Act.put, pB, pC, pD]
      refine tkH (by assumption) 16 (oi := ?_) (v := ?_) ?_ ?_ ?_ ?_ ?_ ?_ ?_ ?_; rotate_left 2; (simp only [gA, gB, gC]; exact rfl); kernel_rfl; kernel_rfl; kernel_rfl; exact fun _ _ _ h => h; rfl; (intro w' hSw; (try dsimp only at hSw); go_simp; with_reducible rfl); simp only [Act.put, pB, pC, pD]
      refine onH 17 (oi := ?_) (by kernel_rfl) ?_ ?_ (fun K hK => ?_); rotate_left; (simp only [gA, gB, gC]; exact rfl); rfl
      go_wp2_with (fail)
      refine hK.out _ _ ⟨by simp [go_sem], by simp [go_sem], by simp [go_sem]⟩ (fun hHeldN => ?_)
      clear hK K hHeld hHeldN
      try simp only [Act.put, pB, pC, pD]
      refine wpAnyH_done (by kernel_rfl) ?_ _
      go_wp2_with (fail)
      exact bodyPost_ret (v := (.agg #[.int .i64 (rch false mx x), .int .i64 (rch false my y), .int .i64 mz, .int .i64 ms, .int .i64 mh, .int .i64 mt, .int .i64 (mf + f), .bool false])) (by simp [results, Try.results38, go_sem, rch]) rfl ⟨rfl, (by repeat (first | exact Below.refl _ _ | assumption | refine Below.drew ?_ | refine bdrewN ?_ _ | refine Below.setCell ?_ (by first | omega | (simp <;> omega)) _ | refine Below.alloc ?_ (by first | omega | (simp <;> omega)) _))⟩
    exact AllReadyH.nil
  · go_enter Try.func38, Try.ntmps38
    go_wp2_with (go_at_call 46; refine (reached_any _ _ _ _ (by assumption)).mono ?_; rintro e w' ⟨rfl, rfl⟩)
    refine wp_region_held_drew (S := (fun w' => w'.cell? ⟨w.heap.size, 7, none⟩ = some (.bool true) ∧ w'.cell? ⟨w.heap.size + 1, 1, none⟩ = some (.int .i64 x) ∧ w'.cell? ⟨w.heap.size + 1, 2, none⟩ = some (.int .i64 y))) (by kernel_rfl) ⟨by simp [go_sem], by simp [go_sem], by simp [go_sem]⟩ (fun hHeld => ?_)
    refine tkH (by assumption) 0 (oi := ?_) (v := ?_) ?_ ?_ ?_ ?_ ?_ ?_ ?_ ?_; rotate_left 2; (simp only [gA, gB, gC]; exact rfl); kernel_rfl; kernel_rfl; kernel_rfl; exact fun _ _ _ h => h; rfl; (intro w' hSw; (try dsimp only at hSw); go_simp; with_reducible rfl); simp only [Act.put, pB, pC, pD]
    refine tkH (by assumption) 1 (oi := ?_) (v := ?_) ?_ ?_ ?_ ?_ ?_ ?_ ?_ ?_; rotate_left 2; (simp only [gA, gB, gC]; exact rfl); kernel_rfl; kernel_rfl; kernel_rfl; exact fun _ _ _ h => h; rfl; (intro w' hSw; (try dsimp only at hSw); go_simp; with_reducible rfl); simp only [Act.put, pB, pC, pD]
    refine tkH (by assumption) 2 (oi := ?_) (v := ?_) ?_ ?_ ?_ ?_ ?_ ?_ ?_ ?_; rotate_left 2; (simp only [gA, gB, gC]; exact rfl); kernel_rfl; kernel_rfl; kernel_rfl; exact fun _ _ _ h => h; rfl; (intro w' hSw; (try dsimp only at hSw); go_simp; with_reducible rfl); simp only [Act.put, pB, pC, pD]
    refine tkH (by assumption) 4 (oi := ?_) (v := ?_) ?_ ?_ ?_ ?_ ?_ ?_ ?_ ?_; rotate_left 2; (simp only [gA, gB, gC]; exact rfl); kernel_rfl; kernel_rfl; kernel_rfl; exact fun _ _ _ h => h; rfl; (intro w' hSw; (try dsimp only at hSw); go_simp; with_reducible rfl); simp only [Act.put, pB, pC, pD]
    refine tkH (by assumption) 5 (oi := ?_) (v := ?_) ?_ ?_ ?_ ?_ ?_ ?_ ?_ ?_; rotate_left 2; (simp only [gA, gB, gC]; exact rfl); kernel_rfl; kernel_rfl; kernel_rfl; exact fun _ _ _ h => h; rfl; (intro w' hSw; (try dsimp only at hSw); go_simp; with_reducible rfl); simp only [Act.put, pB, pC, pD]
    refine tkH (by assumption) 7 (oi := ?_) (v := ?_) ?_ ?_ ?_ ?_ ?_ ?_ ?_ ?_; rotate_left 2; (simp only [gA, gB, gC]; exact rfl); kernel_rfl; kernel_rfl; kernel_rfl; exact fun _ _ _ h => h; rfl; (intro w' hSw; (try dsimp only at hSw); go_simp; with_reducible rfl); simp only [Act.put, pB, pC, pD]
    refine tkH (by assumption) 8 (oi := ?_) (v := ?_) ?_ ?_ ?_ ?_ ?_ ?_ ?_ ?_; rotate_left 2; (simp only [gA, gB, gC]; exact rfl); kernel_rfl; kernel_rfl; kernel_rfl; exact fun _ _ _ h => h; rfl; (intro w' hSw; (try dsimp only at hSw); go_simp; with_reducible rfl); simp only [Act.put, pB, pC, pD]
    refine tkH (by assumption) 9 (oi := ?_) (v := ?_) ?_ ?_ ?_ ?_ ?_ ?_ ?_ ?_; rotate_left 2; (simp only [gA, gB, gC]; exact rfl); kernel_rfl; kernel_rfl; kernel_rfl; exact fun _ _ _ h => h; rfl; (intro w' hSw; (try dsimp only at hSw); go_simp; with_reducible rfl); simp only [Act.put, pB, pC, pD]
    refine tkH (by assumption) 11 (oi := ?_) (v := ?_) ?_ ?_ ?_ ?_ ?_ ?_ ?_ ?_; rotate_left 2; (simp only [gA, gB, gC]; exact rfl); kernel_rfl; kernel_rfl; kernel_rfl; exact fun _ _ _ h => h; rfl; (intro w' hSw; (try dsimp only at hSw); go_simp; with_reducible rfl); simp only [Act.put, pB, pC, pD]
    refine tkH (by assumption) 12 (oi := ?_) (v := ?_) ?_ ?_ ?_ ?_ ?_ ?_ ?_ ?_; rotate_left 2; (simp only [gA, gB, gC]; exact rfl); kernel_rfl; kernel_rfl; kernel_rfl; exact fun _ _ _ h => h; rfl; (intro w' hSw; (try dsimp only at hSw); go_simp; with_reducible rfl); simp only [Act.put, pB, pC, pD]
    refine wpAnyH_ready (rs := [3, 10]) (by kernel_rfl) (by simp) ?_
    refine coH 3 (oi := ?_) ?_ ?_ (fun K hK => ?_) ?_; rotate_left; (simp only [gA, gB, gC]; exact rfl); rfl
    · skip
      go_wp2_with (fail)
      refine hK.out _ _ hHeld (fun hHeldN => ?_)
      clear hK K hHeldN
      try simp only [Act.put, pB, pC, pD]
      refine wpAnyH_ready (rs := [6, 10]) (by kernel_rfl) (by simp) ?_
      refine coH 6 (oi := ?_) ?_ ?_ (fun K hK => ?_) ?_; rotate_left; (simp only [gA, gB, gC]; exact rfl); rfl
      · skip
        go_wp2_with (go_at_call 46; refine (reached_any _ _ _ _ (by assumption)).mono ?_; rintro e w' ⟨rfl, rfl⟩)
        refine hK.out _ _ hHeld (fun hHeldN => ?_)
        clear hK K hHeldN
        try simp only [Act.put, pB, pC, pD]
        refine onH 10 (oi := ?_) (by kernel_rfl) ?_ ?_ (fun K hK => ?_); rotate_left; (simp only [gA, gB, gC]; exact rfl); rfl
        go_wp2_with (fail)
        refine hK.out _ _ hHeld (fun hHeldN => ?_)
        clear hK K hHeldN
        try simp only [Act.put, pB, pC, pD]
        refine tkH (by assumption) 14 (oi := ?_) (v := ?_) ?_ ?_ ?_ ?_ ?_ ?_ ?_ ?_; rotate_left 2; (simp only [gA, gB, gC]; exact rfl); kernel_rfl; kernel_rfl; kernel_rfl; exact fun _ _ _ h => h; rfl; (intro w' hSw; (try dsimp only at hSw); go_simp; with_reducible rfl); simp only [Act.put, pB, pC, pD]
        refine onH 13 (oi := ?_) (by kernel_rfl) ?_ ?_ (fun K hK => ?_); rotate_left; (simp only [gA, gB, gC]; exact rfl); rfl
        go_wp2_with (go_at_call 46; refine (reached_any _ _ _ _ (by assumption)).mono ?_; rintro e w' ⟨rfl, rfl⟩)
        refine hK.out _ _ hHeld (fun hHeldN => ?_)
        clear hK K hHeldN
        try simp only [Act.put, pB, pC, pD]
        refine onH 15 (oi := ?_) (by kernel_rfl) ?_ ?_ (fun K hK => ?_); rotate_left; (simp only [gA, gB, gC]; exact rfl); rfl
        go_wp2_with (fail)
        refine hK.out _ _ ⟨by simp [go_sem], by simp [go_sem], by simp [go_sem]⟩ (fun hHeldN => ?_)
        clear hK K hHeld
        have hHeld := hHeldN
        clear hHeldN
        try simp only [Act.put, pB, pC, pD]
        refine tkH (by assumption) 16 (oi := ?_) (v := ?_) ?_ ?_ ?_ ?_ ?_ ?_ ?_ ?_; rotate_left 2; (simp only [gA, gB, gC]; exact rfl); kernel_rfl; kernel_rfl; kernel_rfl; exact fun _ _ _ h => h; rfl; (intro w' hSw; (try dsimp only at hSw); go_simp; with_reducible rfl); simp only [Act.put, pB, pC, pD]
        refine onH 17 (oi := ?_) (by kernel_rfl) ?_ ?_ (fun K hK => ?_); rotate_left; (simp only [gA, gB, gC]; exact rfl); rfl
        go_wp2_with (fail)
        refine hK.out _ _ ⟨by simp [go_sem], by simp [go_sem], by simp [go_sem]⟩ (fun hHeldN => ?_)
        clear hK K hHeld hHeldN
        try simp only [Act.put, pB, pC, pD]
        refine wpAnyH_done (by kernel_rfl) ?_ _
        go_wp2_with (fail)
        exact bodyPost_ret (v := (.agg #[.int .i64 (rch true mx x), .int .i64 (rch true my y), .int .i64 mz, .int .i64 ms, .int .i64 mh, .int .i64 mt, .int .i64 (mf + f), .bool true])) (by simp [results, Try.results38, go_sem, rch]) rfl ⟨rfl, (by repeat (first | exact Below.refl _ _ | assumption | refine Below.drew ?_ | refine bdrewN ?_ _ | refine Below.setCell ?_ (by first | omega | (simp <;> omega)) _ | refine Below.alloc ?_ (by first | omega | (simp <;> omega)) _))⟩
      refine coH 10 (oi := ?_) ?_ ?_ (fun K hK => ?_) ?_; rotate_left; (simp only [gA, gB, gC]; exact rfl); rfl
      · skip
        go_wp2_with (fail)
        refine hK.out _ _ hHeld (fun hHeldN => ?_)
        clear hK K hHeldN
        try simp only [Act.put, pB, pC, pD]
        refine onH 6 (oi := ?_) (by kernel_rfl) ?_ ?_ (fun K hK => ?_); rotate_left; (simp only [gA, gB, gC]; exact rfl); rfl
        go_wp2_with (go_at_call 46; refine (reached_any _ _ _ _ (by assumption)).mono ?_; rintro e w' ⟨rfl, rfl⟩)
        refine hK.out _ _ hHeld (fun hHeldN => ?_)
        clear hK K hHeldN
        try simp only [Act.put, pB, pC, pD]
        refine tkH (by assumption) 14 (oi := ?_) (v := ?_) ?_ ?_ ?_ ?_ ?_ ?_ ?_ ?_; rotate_left 2; (simp only [gA, gB, gC]; exact rfl); kernel_rfl; kernel_rfl; kernel_rfl; exact fun _ _ _ h => h; rfl; (intro w' hSw; (try dsimp only at hSw); go_simp; with_reducible rfl); simp only [Act.put, pB, pC, pD]
        refine onH 13 (oi := ?_) (by kernel_rfl) ?_ ?_ (fun K hK => ?_); rotate_left; (simp only [gA, gB, gC]; exact rfl); rfl
        go_wp2_with (go_at_call 46; refine (reached_any _ _ _ _ (by assumption)).mono ?_; rintro e w' ⟨rfl, rfl⟩)
        refine hK.out _ _ hHeld (fun hHeldN => ?_)
        clear hK K hHeldN
        try simp only [Act.put, pB, pC, pD]
        refine onH 15 (oi := ?_) (by kernel_rfl) ?_ ?_ (fun K hK => ?_); rotate_left; (simp only [gA, gB, gC]; exact rfl); rfl
        go_wp2_with (fail)
        refine hK.out _ _ ⟨by simp [go_sem], by simp [go_sem], by simp [go_sem]⟩ (fun hHeldN => ?_)
        clear hK K hHeld
        have hHeld := hHeldN
        clear hHeldN
        try simp only [Act.put, pB, pC, pD]
        refine tkH (by assumption) 16 (oi := ?_) (v := ?_) ?_ ?_ ?_ ?_ ?_ ?_ ?_ ?_; rotate_left 2; (simp only [gA, gB, gC]; exact rfl); kernel_rfl; kernel_rfl; kernel_rfl; exact fun _ _ _ h => h; rfl; (intro w' hSw; (try dsimp only at hSw); go_simp; with_reducible rfl); simp only [Act.put, pB, pC, pD]
        refine onH 17 (oi := ?_) (by kernel_rfl) ?_ ?_ (fun K hK => ?_); rotate_left; (simp only [gA, gB, gC]; exact rfl); rfl
        go_wp2_with (fail)
        refine hK.out _ _ ⟨by simp [go_sem], by simp [go_sem], by simp [go_sem]⟩ (fun hHeldN => ?_)
        clear hK K hHeld hHeldN
        try simp only [Act.put, pB, pC, pD]
        refine wpAnyH_done (by kernel_rfl) ?_ _
        go_wp2_with (fail)
        exact bodyPost_ret (v := (.agg #[.int .i64 (rch true mx x), .int .i64 (rch true my y), .int .i64 mz, .int .i64 ms, .int .i64 mh, .int .i64 mt, .int .i64 (mf + f), .bool true])) (by simp [results, Try.results38, go_sem, rch]) rfl ⟨rfl, (by repeat (first | exact Below.refl _ _ | assumption | refine Below.drew ?_ | refine bdrewN ?_ _ | refine Below.setCell ?_ (by first | omega | (simp <;> omega)) _ | refine Below.alloc ?_ (by first | omega | (simp <;> omega)) _))⟩
      exact AllReadyH.nil
    refine coH 10 (oi := ?_) ?_ ?_ (fun K hK => ?_) ?_; rotate_left; (simp only [gA, gB, gC]; exact rfl); rfl
    · skip
      go_wp2_with (fail)
      refine hK.out _ _ hHeld (fun hHeldN => ?_)
      clear hK K hHeldN
      try simp only [Act.put, pB, pC, pD]
      refine onH 3 (oi := ?_) (by kernel_rfl) ?_ ?_ (fun K hK => ?_); rotate_left; (simp only [gA, gB, gC]; exact rfl); rfl
      go_wp2_with (fail)
      refine hK.out _ _ hHeld (fun hHeldN => ?_)
      clear hK K hHeldN
      try simp only [Act.put, pB, pC, pD]
      refine onH 6 (oi := ?_) (by kernel_rfl) ?_ ?_ (fun K hK => ?_); rotate_left; (simp only [gA, gB, gC]; exact rfl); rfl
      go_wp2_with (go_at_call 46; refine (reached_any _ _ _ _ (by assumption)).mono ?_; rintro e w' ⟨rfl, rfl⟩)
      refine hK.out _ _ hHeld (fun hHeldN => ?_)
      clear hK K hHeldN
      try simp only [Act.put, pB, pC, pD]
      refine tkH (by assumption) 14 (oi := ?_) (v := ?_) ?_ ?_ ?_ ?_ ?_ ?_ ?_ ?_; rotate_left 2; (simp only [gA, gB, gC]; exact rfl); kernel_rfl; kernel_rfl; kernel_rfl; exact fun _ _ _ h => h; rfl; (intro w' hSw; (try dsimp only at hSw); go_simp; with_reducible rfl); simp only [Act.put, pB, pC, pD]
      refine onH 13 (oi := ?_) (by kernel_rfl) ?_ ?_ (fun K hK => ?_); rotate_left; (simp only [gA, gB, gC]; exact rfl); rfl
      go_wp2_with (go_at_call 46; refine (reached_any _ _ _ _ (by assumption)).mono ?_; rintro e w' ⟨rfl, rfl⟩)
      refine hK.out _ _ hHeld (fun hHeldN => ?_)
      clear hK K hHeldN
      try simp only [Act.put, pB, pC, pD]
      refine onH 15 (oi := ?_) (by kernel_rfl) ?_ ?_ (fun K hK => ?_); rotate_left; (simp only [gA, gB, gC]; exact rfl); rfl
      go_wp2_with (fail)
      refine hK.out _ _ ⟨by simp [go_sem], by simp [go_sem], by simp [go_sem]⟩ (fun hHeldN => ?_)
      clear hK K hHeld
      have hHeld := hHeldN
      clear hHeldN
      try simp only [Act.put, pB, pC, pD]
      refine tkH (by assumption) 16 (oi := ?_) (v := ?_) ?_ ?_ ?_ ?_ ?_ ?_ ?_ ?_; rotate_left 2; (simp only [gA, gB, gC]; exact rfl); kernel_rfl; kernel_rfl; kernel_rfl; exact fun _ _ _ h => h; rfl; (intro w' hSw; (try dsimp only at hSw); go_simp; with_reducible rfl); simp only [Act.put, pB, pC, pD]
      refine onH 17 (oi := ?_) (by kernel_rfl) ?_ ?_ (fun K hK => ?_); rotate_left; (simp only [gA, gB, gC]; exact rfl); rfl
      go_wp2_with (fail)
      refine hK.out _ _ ⟨by simp [go_sem], by simp [go_sem], by simp [go_sem]⟩ (fun hHeldN => ?_)
      clear hK K hHeld hHeldN
      try simp only [Act.put, pB, pC, pD]
      refine wpAnyH_done (by kernel_rfl) ?_ _
      go_wp2_with (fail)
      exact bodyPost_ret (v := (.agg #[.int .i64 (rch true mx x), .int .i64 (rch true my y), .int .i64 mz, .int .i64 ms, .int .i64 mh, .int .i64 mt, .int .i64 (mf + f), .bool true])) (by simp [results, Try.results38, go_sem, rch]) rfl ⟨rfl, (by repeat (first | exact Below.refl _ _ | assumption | refine Below.drew ?_ | refine bdrewN ?_ _ | refine Below.setCell ?_ (by first | omega | (simp <;> omega)) _ | refine Below.alloc ?_ (by first | omega | (simp <;> omega)) _))⟩
    exact AllReadyH.nil
set_option maxRecDepth 100000 in
set_option maxHeartbeats 8000000 in
theorem done5_any (mx my mz ms mh mt mf : Int) (mr : Bool) (x y z f n : Int) (w : World) (hf : Fit mx my mz mf x y z f) : Calls Try.prog 38 #[(.agg #[.int .i64 mx, .int .i64 my, .int .i64 mz, .int .i64 ms, .int .i64 mh, .int .i64 mt, .int .i64 mf, .bool mr]), .agg #[.int .i64 5, .int .i64 x, .int .i64 y, .int .i64 z, .int .i64 f, .int .i64 n]] w fun e w' => e = .returned (.agg #[.int .i64 mx, .int .i64 my, .int .i64 (rch mr mz z), .int .i64 ms, .int .i64 mh, .int .i64 mt, .int .i64 mf, .bool mr]) ∧ Below w.heap.size w w' := by
  obtain ⟨g1, g2, g3, g4, g5, g6, g7⟩ := hf
  have e1 := i64w g1
  have e2 := i64w g2
  have e3 := i64w g3
  have e4 := i64w g4
  have e5 := i64w g5
  have e6 := i64w g6
  have e7 := i64w g7
  cases mr
  · go_enter Try.func38, Try.ntmps38
    go_wp2_with (go_at_call 46; refine (reached_any _ _ _ _ (by assumption)).mono ?_; rintro e w' ⟨rfl, rfl⟩)
    exact bodyPost_ret (v := (.agg #[.int .i64 mx, .int .i64 my, .int .i64 (rch false mz z), .int .i64 ms, .int .i64 mh, .int .i64 mt, .int .i64 mf, .bool false])) (by simp [results, Try.results38, go_sem, rch]) rfl ⟨rfl, (by repeat (first | exact Below.refl _ _ | assumption | refine Below.drew ?_ | refine bdrewN ?_ _ | refine Below.setCell ?_ (by first | omega | (simp <;> omega)) _ | refine Below.alloc ?_ (by first | omega | (simp <;> omega)) _))⟩
  · go_enter Try.func38, Try.ntmps38
    go_wp2_with (go_at_call 46; refine (reached_any _ _ _ _ (by assumption)).mono ?_; rintro e w' ⟨rfl, rfl⟩)
    exact bodyPost_ret (v := (.agg #[.int .i64 mx, .int .i64 my, .int .i64 (rch true mz z), .int .i64 ms, .int .i64 mh, .int .i64 mt, .int .i64 mf, .bool true])) (by simp [results, Try.results38, go_sem, rch]) rfl ⟨rfl, (by repeat (first | exact Below.refl _ _ | assumption | refine Below.drew ?_ | refine bdrewN ?_ _ | refine Below.setCell ?_ (by first | omega | (simp <;> omega)) _ | refine Below.alloc ?_ (by first | omega | (simp <;> omega)) _))⟩
set_option maxRecDepth 100000 in
set_option maxHeartbeats 8000000 in
theorem done6_any (mx my mz ms mh mt mf : Int) (mr : Bool) (x y z f n : Int) (w : World) (hf : Fit mx my mz mf x y z f) : Calls Try.prog 38 #[(.agg #[.int .i64 mx, .int .i64 my, .int .i64 mz, .int .i64 ms, .int .i64 mh, .int .i64 mt, .int .i64 mf, .bool mr]), .agg #[.int .i64 6, .int .i64 x, .int .i64 y, .int .i64 z, .int .i64 f, .int .i64 n]] w fun e w' => e = .returned (.agg #[.int .i64 mx, .int .i64 my, .int .i64 mz, .int .i64 n, .int .i64 mh, .int .i64 mt, .int .i64 mf, .bool mr]) ∧ Below w.heap.size w w' := by
  obtain ⟨g1, g2, g3, g4, g5, g6, g7⟩ := hf
  have e1 := i64w g1
  have e2 := i64w g2
  have e3 := i64w g3
  have e4 := i64w g4
  have e5 := i64w g5
  have e6 := i64w g6
  have e7 := i64w g7
  go_enter Try.func38, Try.ntmps38
  go_wp2_with (go_at_call 46; refine (reached_any _ _ _ _ (by assumption)).mono ?_; rintro e w' ⟨rfl, rfl⟩)
  exact bodyPost_ret (v := (.agg #[.int .i64 mx, .int .i64 my, .int .i64 mz, .int .i64 n, .int .i64 mh, .int .i64 mt, .int .i64 mf, .bool mr])) (by simp [results, Try.results38, go_sem, rch]) rfl ⟨rfl, (by repeat (first | exact Below.refl _ _ | assumption | refine Below.drew ?_ | refine bdrewN ?_ _ | refine Below.setCell ?_ (by first | omega | (simp <;> omega)) _ | refine Below.alloc ?_ (by first | omega | (simp <;> omega)) _))⟩
set_option maxRecDepth 100000 in
set_option maxHeartbeats 8000000 in
theorem done7_any (mx my mz ms mh mt mf : Int) (mr : Bool) (x y z f n : Int) (w : World) (hf : Fit mx my mz mf x y z f) : Calls Try.prog 38 #[(.agg #[.int .i64 mx, .int .i64 my, .int .i64 mz, .int .i64 ms, .int .i64 mh, .int .i64 mt, .int .i64 mf, .bool mr]), .agg #[.int .i64 7, .int .i64 x, .int .i64 y, .int .i64 z, .int .i64 f, .int .i64 n]] w fun e w' => e = .returned (.agg #[.int .i64 mx, .int .i64 my, .int .i64 mz, .int .i64 ms, .int .i64 mh, .int .i64 mt, .int .i64 mf, .bool mr]) ∧ Below w.heap.size w w' := by
  obtain ⟨g1, g2, g3, g4, g5, g6, g7⟩ := hf
  have e1 := i64w g1
  have e2 := i64w g2
  have e3 := i64w g3
  have e4 := i64w g4
  have e5 := i64w g5
  have e6 := i64w g6
  have e7 := i64w g7
  go_enter Try.func38, Try.ntmps38
  go_wp2_with (go_at_call 46; refine (reached_any _ _ _ _ (by assumption)).mono ?_; rintro e w' ⟨rfl, rfl⟩)
  exact bodyPost_ret (v := (.agg #[.int .i64 mx, .int .i64 my, .int .i64 mz, .int .i64 ms, .int .i64 mh, .int .i64 mt, .int .i64 mf, .bool mr])) (by simp [results, Try.results38, go_sem, rch]) rfl ⟨rfl, (by repeat (first | exact Below.refl _ _ | assumption | refine Below.drew ?_ | refine bdrewN ?_ _ | refine Below.setCell ?_ (by first | omega | (simp <;> omega)) _ | refine Below.alloc ?_ (by first | omega | (simp <;> omega)) _))⟩
set_option maxRecDepth 100000 in
set_option maxHeartbeats 8000000 in
theorem done8_any (mx my mz ms mh mt mf : Int) (mr : Bool) (x y z f n : Int) (w : World) (hf : Fit mx my mz mf x y z f) : Calls Try.prog 38 #[(.agg #[.int .i64 mx, .int .i64 my, .int .i64 mz, .int .i64 ms, .int .i64 mh, .int .i64 mt, .int .i64 mf, .bool mr]), .agg #[.int .i64 8, .int .i64 x, .int .i64 y, .int .i64 z, .int .i64 f, .int .i64 n]] w fun e w' => e = .returned (.agg #[.int .i64 mx, .int .i64 my, .int .i64 mz, .int .i64 ms, .int .i64 n, .int .i64 mt, .int .i64 mf, .bool mr]) ∧ Below w.heap.size w w' := by
  obtain ⟨g1, g2, g3, g4, g5, g6, g7⟩ := hf
  have e1 := i64w g1
  have e2 := i64w g2
  have e3 := i64w g3
  have e4 := i64w g4
  have e5 := i64w g5
  have e6 := i64w g6
  have e7 := i64w g7
  go_enter Try.func38, Try.ntmps38
  go_wp2_with (go_at_call 46; refine (reached_any _ _ _ _ (by assumption)).mono ?_; rintro e w' ⟨rfl, rfl⟩)
  exact bodyPost_ret (v := (.agg #[.int .i64 mx, .int .i64 my, .int .i64 mz, .int .i64 ms, .int .i64 n, .int .i64 mt, .int .i64 mf, .bool mr])) (by simp [results, Try.results38, go_sem, rch]) rfl ⟨rfl, (by repeat (first | exact Below.refl _ _ | assumption | refine Below.drew ?_ | refine bdrewN ?_ _ | refine Below.setCell ?_ (by first | omega | (simp <;> omega)) _ | refine Below.alloc ?_ (by first | omega | (simp <;> omega)) _))⟩
set_option maxRecDepth 100000 in
set_option maxHeartbeats 8000000 in
theorem done9_any (mx my mz ms mh mt mf : Int) (mr : Bool) (x y z f n : Int) (w : World) (hf : Fit mx my mz mf x y z f) : Calls Try.prog 38 #[(.agg #[.int .i64 mx, .int .i64 my, .int .i64 mz, .int .i64 ms, .int .i64 mh, .int .i64 mt, .int .i64 mf, .bool mr]), .agg #[.int .i64 9, .int .i64 x, .int .i64 y, .int .i64 z, .int .i64 f, .int .i64 n]] w fun e w' => e = .returned (.agg #[.int .i64 mx, .int .i64 my, .int .i64 mz, .int .i64 ms, .int .i64 mh, .int .i64 n, .int .i64 mf, .bool mr]) ∧ Below w.heap.size w w' := by
  obtain ⟨g1, g2, g3, g4, g5, g6, g7⟩ := hf
  have e1 := i64w g1
  have e2 := i64w g2
  have e3 := i64w g3
  have e4 := i64w g4
  have e5 := i64w g5
  have e6 := i64w g6
  have e7 := i64w g7
  go_enter Try.func38, Try.ntmps38
  go_wp2_with (go_at_call 46; refine (reached_any _ _ _ _ (by assumption)).mono ?_; rintro e w' ⟨rfl, rfl⟩)
  exact bodyPost_ret (v := (.agg #[.int .i64 mx, .int .i64 my, .int .i64 mz, .int .i64 ms, .int .i64 mh, .int .i64 n, .int .i64 mf, .bool mr])) (by simp [results, Try.results38, go_sem, rch]) rfl ⟨rfl, (by repeat (first | exact Below.refl _ _ | assumption | refine Below.drew ?_ | refine bdrewN ?_ _ | refine Below.setCell ?_ (by first | omega | (simp <;> omega)) _ | refine Below.alloc ?_ (by first | omega | (simp <;> omega)) _))⟩
theorem done_any (i : Nat) (m : Ma) (s : St) (w : World) (hs : SOk s) (hm : MB i m) (hi : i ≤ 10000) : Calls Try.prog 38 #[(.agg #[.int .i64 m.x, .int .i64 m.y, .int .i64 m.z, .int .i64 m.s, .int .i64 m.h, .int .i64 m.t, .int .i64 m.f, .bool m.r]), (.agg #[.int .i64 s.k, .int .i64 s.x, .int .i64 s.y, .int .i64 s.z, .int .i64 s.f, .int .i64 s.n])] w fun e w' => e = .returned (.agg #[.int .i64 (aft m s).x, .int .i64 (aft m s).y, .int .i64 (aft m s).z, .int .i64 (aft m s).s, .int .i64 (aft m s).h, .int .i64 (aft m s).t, .int .i64 (aft m s).f, .bool (aft m s).r]) ∧ Below w.heap.size w w' := by
  obtain ⟨g0, g1, g2, g3, g4, g5, _⟩ := hs
  obtain ⟨h1, h2, h3, h4, h5⟩ := hm
  have hF : Fit m.x m.y m.z m.f s.x s.y s.z s.f := ⟨by omega, by omega, by omega, by omega, by omega, by omega, by omega⟩
  rcases s with ⟨k, x, y, z, f, n⟩
  rcases m with ⟨mx, my, mz, ms, mh, mt, mf, mr⟩
  dsimp only at hF g0 ⊢
  clear h1 h2 h3 h4 h5 g1 g2 g3 g4 g5
  have h' : k = 1 ∨ k = 2 ∨ k = 3 ∨ k = 4 ∨ k = 5 ∨ k = 6 ∨ k = 7 ∨ k = 8 ∨ k = 9 := by omega
  rcases h' with rfl | rfl | rfl | rfl | rfl | rfl | rfl | rfl | rfl
  · exact done1_any mx my mz ms mh mt mf mr x y z f n w hF
  · exact done2_any mx my mz ms mh mt mf mr x y z f n w hF
  · exact done3_any mx my mz ms mh mt mf mr x y z f n w hF
  · exact done4_any mx my mz ms mh mt mf mr x y z f n w hF
  · exact done5_any mx my mz ms mh mt mf mr x y z f n w hF
  · exact done6_any mx my mz ms mh mt mf mr x y z f n w hF
  · exact done7_any mx my mz ms mh mt mf mr x y z f n w hF
  · exact done8_any mx my mz ms mh mt mf mr x y z f n w hF
  · exact done9_any mx my mz ms mh mt mf mr x y z f n w hF
end Go.Proofs.Ytgmpmaiddombeaa

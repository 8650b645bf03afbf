/- Short of the program: what it keeps, and the statuses before it. -/
import Derived.Test.YthmplflmjjccfaaQh
set_option linter.unusedSimpArgs false
set_option linter.unusedVariables false
namespace Go.Proofs.Ythmplflmjjccfaa
open Go.RowKit
def rowM (l : List Ma) : List Value := l.flatMap mV
theorem rowM_len (l : List Ma) : (rowM l).length = l.length * 8 := by
  induction l with
  | nil => rfl
  | cons a r ih => simp only [rowM, List.flatMap_cons, List.length_append, List.length_cons] at ih ⊢; rw [ih]; simp [mV]; omega
theorem rowM_app (l m : List Ma) : rowM (l ++ m) = rowM l ++ rowM m := by simp [rowM]
theorem rowM_get {l : List Ma} {i j : Nat} (hi : i < l.length) (hj : j < 8) : (rowM l)[i * 8 + j]? = (mV (l.getD i m00))[j]? := by
  induction l generalizing i with
  | nil => simp at hi
  | cons a r ih =>
    have hl : (mV a).length = 8 := rfl
    simp only [rowM, List.flatMap_cons]
    match i with
    | 0 => rw [List.getElem?_append_left (by omega)]; simp
    | i + 1 =>
      rw [List.getElem?_append_right (by omega), hl, show (i + 1) * 8 + j - 8 = i * 8 + j by omega]
      have := ih (i := i) (by simpa using hi)
      simpa [rowM] using this
/-- The statuses before each step, and at the end. -/
def stL : Ma → List St → List Ma
  | m, [] => [m]
  | m, s :: r => m :: stL (aft m s) r
theorem stL_len (m : Ma) (l : List St) : (stL m l).length = l.length + 1 := by
  induction l generalizing m with
  | nil => rfl
  | cons a r ih => simp [stL, ih]
theorem stL_snoc (m : Ma) (l : List St) (s : St) : stL m (l ++ [s]) = stL m l ++ [aft (l.foldl aft m) s] := by
  induction l generalizing m with
  | nil => rfl
  | cons a r ih => simp [stL, ih]
theorem stL_last (m : Ma) (l : List St) : (stL m l).getD l.length m00 = l.foldl aft m := by
  induction l generalizing m with
  | nil => rfl
  | cons a r ih => simpa [stL] using ih (aft m a)
theorem stL_take (m : Ma) (l : List St) (u : St) : (stL m (l ++ [u])).take (l.length + 1) = stL m l := by
  rw [stL_snoc, List.take_append_of_le_length (by rw [stL_len]; omega), List.take_of_length_le (by rw [stL_len]; omega)]
theorem own_take {w : World} {base n n' c size : Nat} {e : TypeId} {a : Option Addr} {xs : List Value} (h : w.ownsRow base e size (.slice a n c) n xs) (hn : n' ≤ n) (h0 : 0 < n) : w.ownsRow base e size (.slice a n' c) n' (xs.take (n' * size)) := by
  obtain ⟨h1, h2⟩ := h
  have hm : n' * size ≤ n * size := Nat.mul_le_mul_right _ hn
  refine ⟨by rw [List.length_take, h1]; omega, ?_⟩
  rcases h2 with ⟨h2, hx⟩ | ⟨g, cap, cur, hv, hg, hh, hc, hcm, hs, hx⟩
  · cases h2; omega
  · cases hv
    exact .inr ⟨g, c, cur, rfl, hg, hh, by omega, hcm, hs, by rw [← hx, List.take_take, Nat.min_eq_left hm]⟩
theorem rowS_take (l : List St) (u : St) : (rowS (l ++ [u])).take (l.length * 6) = rowS l := by
  rw [rowS_app, List.take_append_of_le_length (by rw [rowS_len]; omega), List.take_of_length_le (by rw [rowS_len]; omega)]
theorem rowM_stL_take (m : Ma) (l : List St) (u : St) : (rowM (stL m (l ++ [u]))).take ((l.length + 1) * 8) = rowM (stL m l) := by
  rw [stL_snoc, rowM_app, List.take_append_of_le_length (by rw [rowM_len, stL_len]; omega), List.take_of_length_le (by rw [rowM_len, stL_len]; omega)]
theorem done_fit (m : Ma) (s : St) (w : World) (g0 : 1 ≤ s.k ∧ s.k ≤ 9) (hF : Fit m.x m.y m.z m.f s.x s.y s.z s.f) : Calls Try.prog 27 #[(.agg #[.int .i64 m.x, .int .i64 m.y, .int .i64 m.z, .int .i64 m.s, .int .i64 m.h, .int .i64 m.t, .int .i64 m.f, .bool m.r]), (.agg #[.int .i64 s.k, .int .i64 s.x, .int .i64 s.y, .int .i64 s.z, .int .i64 s.f, .int .i64 s.n])] w fun e w' => e = .returned (.agg #[.int .i64 (aft m s).x, .int .i64 (aft m s).y, .int .i64 (aft m s).z, .int .i64 (aft m s).s, .int .i64 (aft m s).h, .int .i64 (aft m s).t, .int .i64 (aft m s).f, .bool (aft m s).r]) ∧ Below w.heap.size w w' := by
  rcases s with ⟨k, x, y, z, f, n⟩
  rcases m with ⟨mx, my, mz, ms, mh, mt, mf, mr⟩
  dsimp only at hF g0 ⊢
  have h' : k = 1 ∨ k = 2 ∨ k = 3 ∨ k = 4 ∨ k = 5 ∨ k = 6 ∨ k = 7 ∨ k = 8 ∨ k = 9 := by omega
  rcases h' with rfl | rfl | rfl | rfl | rfl | rfl | rfl | rfl | rfl
  · exact done1_any mx my mz ms mh mt mf mr x y z f n w hF
  · exact done2_any mx my mz ms mh mt mf mr x y z f n w hF
  · exact done3_any mx my mz ms mh mt mf mr x y z f n w hF
  · exact done4_any mx my mz ms mh mt mf mr x y z f n w hF
  · exact done5_any mx my mz ms mh mt mf mr x y z f n w hF
  · exact done6_any mx my mz ms mh mt mf mr x y z f n w hF
  · exact done7_any mx my mz ms mh mt mf mr x y z f n w hF
  · exact done8_any mx my mz ms mh mt mf mr x y z f n w hF
  · exact done9_any mx my mz ms mh mt mf mr x y z f n w hF
theorem abm_list {l : List St} (h : ∀ s ∈ l, AB s) : ABm l.length (runL l) := by
  have h1 := abm_run (T := lf l) (n := l.length) (fun i hi => h _ (by
    unfold lf
    rw [List.getD_eq_getElem?_getD, List.getElem?_eq_getElem hi]
    exact List.getElem_mem _))
  rw [runF_take l l.length (Nat.le_refl _), List.take_length] at h1
  exact h1
theorem sh_mem {l : List St} {s t : St} (h : t ∈ shL l s) : t ∈ l ∨ t = s := by
  have hp : ∀ t, t ∈ popL l s → t ∈ l := by
    intro t ht
    unfold popL at ht
    split at ht
    · exact List.dropLast_subset l ht
    · exact ht
  unfold shL at h
  split at h
  · exact .inl (hp t h)
  · rcases List.mem_append.1 h with h' | h'
    · exact .inl (hp t h')
    · exact .inr (by simpa using h')
def shortP (n : Nat) (S : Nat → St) : List St := if stepsE n S = 0 then shortO n S else []
theorem fold_succ (L : List St) (k : Nat) (hk : k < L.length) : (L.take (k + 1)).foldl shL [] = shL ((L.take k).foldl shL []) (lf L k) := by
  rw [take_succ L k hk, List.foldl_append]; rfl
end Go.Proofs.Ythmplflmjjccfaa

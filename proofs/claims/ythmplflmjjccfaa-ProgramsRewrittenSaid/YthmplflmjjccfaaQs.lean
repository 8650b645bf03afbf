/- Short forms: that one pass finds what is left when nothing can be left out any more (no walk of code here). -/
import Derived.Test.YthmplflmjjccfaaQa
set_option linter.unusedSimpArgs false
set_option linter.unusedVariables false
namespace Go.Proofs.Ythmplflmjjccfaa
open Go.RowKit
/-- The status after steps. -/
def runL (l : List St) : Ma := l.foldl aft m00
theorem runL_snoc (l : List St) (s : St) : runL (l ++ [s]) = aft (runL l) s := by simp [runL]
def timeB (s : St) : Bool := decide (s.k = 7 ∧ 0 < s.n)
/-- Two steps of one kind, the first of which only leads to a place. -/
def pairB (s t : St) : Bool := decide (s.k = t.k ∧ (s.k = 3 ∨ s.k = 5))
def lastPair (l : List St) (s : St) : Bool := match l.getLast? with | some u => pairB u s | none => false
/-- What the program does with a step. -/
def popL (l : List St) (s : St) : List St := if lastPair l s = true then l.dropLast else l
def shL (l : List St) (s : St) : List St := if aft (runL (popL l s)) s = runL (popL l s) ∧ timeB s = false then popL l s else popL l s ++ [s]
def shortL (l : List St) : List St := l.foldl shL []
/-- What the reference does in one pass. -/
def filtL : Ma → List St → List St
  | _, [] => []
  | m, s :: r => if aft m s = m ∧ timeB s = false then filtL (aft m s) r else s :: filtL (aft m s) r
def dropL : List St → List St
  | [] => []
  | [s] => [s]
  | s :: t :: r => if pairB s t = true then dropL (t :: r) else s :: dropL (t :: r)
def passL (l : List St) : List St := dropL (filtL m00 l)

/-- A step of an absolute program. -/
structure AOk (s : St) : Prop where
  k : s.k ≠ 1 ∧ s.k ≠ 2
  m : s.k = 3 → s.z = 0 ∧ s.f = 0 ∧ s.n = 0
  l : s.k = 5 → s.x = 0 ∧ s.y = 0 ∧ s.f = 0 ∧ s.n = 0
theorem aft_r {m : Ma} {s : St} (h : AOk s) (hr : m.r = false) : (aft m s).r = false := by
  unfold aft
  rw [if_neg h.k.1, if_neg h.k.2]
  (repeat' split) <;> exact hr
theorem runL_r {l : List St} (h : ∀ s ∈ l, AOk s) : (runL l).r = false := by
  suffices ∀ (l : List St) (m : Ma), (∀ s ∈ l, AOk s) → m.r = false → (l.foldl aft m).r = false from this l m00 h rfl
  intro l
  induction l with
  | nil => intro m _ hr; exact hr
  | cons a r ih => intro m h hr; exact ih _ (fun s hs => h s (by simp [hs])) (aft_r (h a (by simp)) hr)
theorem aft_pair {m : Ma} {s t : St} (hr : m.r = false) (hs : AOk s) (ht : AOk t) (hp : pairB s t = true) : aft (aft m s) t = aft m t := by
  unfold pairB at hp
  rw [decide_eq_true_eq] at hp
  obtain ⟨hk, h3 | h5⟩ := hp
  · have ht3 : t.k = 3 := by omega
    obtain ⟨_, hsf, _⟩ := hs.m h3
    obtain ⟨_, htf, _⟩ := ht.m ht3
    unfold aft rch
    simp [h3, ht3, hr, hsf, htf]
  · have ht5 : t.k = 5 := by omega
    unfold aft rch
    simp [h5, ht5, hr]
/-- A step of the kind of the last one that changes nothing is the last one. -/
theorem pair_idle {m : Ma} {u s : St} (hr : m.r = false) (hu : AOk u) (hs : AOk s) (hp : pairB u s = true) (hi : aft (aft m u) s = aft m u) : s = u := by
  rw [aft_pair hr hu hs hp] at hi
  unfold pairB at hp
  rw [decide_eq_true_eq] at hp
  obtain ⟨hk, h3 | h5⟩ := hp
  · have hs3 : s.k = 3 := by omega
    obtain ⟨a1, a2, a3⟩ := hu.m h3
    obtain ⟨b1, b2, b3⟩ := hs.m hs3
    unfold aft rch at hi
    simp [h3, hs3, hr] at hi
    rcases s with ⟨k, x, y, z, f, n⟩
    rcases u with ⟨k', x', y', z', f', n'⟩
    simp_all
  · have hs5 : s.k = 5 := by omega
    obtain ⟨a1, a2, a3, a4⟩ := hu.l h5
    obtain ⟨b1, b2, b3, b4⟩ := hs.l hs5
    unfold aft rch at hi
    simp [h5, hs5, hr] at hi
    rcases s with ⟨k, x, y, z, f, n⟩
    rcases u with ⟨k', x', y', z', f', n'⟩
    simp_all
/-- What is left so far: nothing in it can be left out. -/
inductive Good : List St → Prop where
  | nil : Good []
  | snoc {l : List St} {s : St} (h : Good l) (hs : AOk s) (hp : lastPair l s = false) (hi : ¬ (aft (runL l) s = runL l ∧ timeB s = false)) : Good (l ++ [s])
theorem Good.ok {l : List St} (h : Good l) : ∀ s ∈ l, AOk s := by
  induction h with
  | nil => intro s hs; cases hs
  | snoc h hs hp hi ih =>
    intro t ht
    rcases List.mem_append.1 ht with h' | h'
    · exact ih t h'
    · simp only [List.mem_cons, List.not_mem_nil, or_false] at h'
      rw [h']; exact hs
theorem lastPair_snoc (l : List St) (u s : St) : lastPair (l ++ [u]) s = pairB u s := by simp [lastPair]
theorem pairB_trans {u s t : St} (h : pairB s t = true) : pairB u s = pairB u t := by
  unfold pairB at h ⊢
  rw [decide_eq_true_eq] at h
  rw [h.1]
theorem lastPair_trans {l : List St} {s t : St} (h : pairB s t = true) : lastPair l s = lastPair l t := by
  unfold lastPair
  cases l.getLast? with
  | none => rfl
  | some u => exact pairB_trans h
/-- Behind what is taken off no step of the kind stands. -/
theorem pop_last {l : List St} {s : St} (h : Good l) : lastPair (popL l s) s = false ∧ Good (popL l s) := by
  unfold popL
  by_cases hp : lastPair l s = true
  · rw [if_pos hp]
    cases h with
    | nil => simp [lastPair] at hp
    | snoc h hs hq hi =>
      rename_i p u
      rw [lastPair_snoc] at hp
      rw [List.dropLast_concat]
      exact ⟨by rw [← lastPair_trans hp]; exact hq, h⟩
  · rw [if_neg hp]
    exact ⟨by simpa using hp, h⟩
theorem sh_good {l : List St} {s : St} (h : Good l) (hs : AOk s) : Good (shL l s) := by
  obtain ⟨h1, h2⟩ := pop_last (s := s) h
  unfold shL
  by_cases hi : aft (runL (popL l s)) s = runL (popL l s) ∧ timeB s = false
  · rw [if_pos hi]; exact h2
  · rw [if_neg hi]; exact .snoc h2 hs h1 hi
theorem sh_run {l : List St} {s : St} (h : Good l) (hs : AOk s) : runL (shL l s) = aft (runL l) s := by
  have hpop : aft (runL (popL l s)) s = aft (runL l) s := by
    unfold popL
    by_cases hp : lastPair l s = true
    · rw [if_pos hp]
      cases h with
      | nil => simp [lastPair] at hp
      | snoc h hu hq hi =>
        rename_i p u
        rw [lastPair_snoc] at hp
        rw [List.dropLast_concat, runL_snoc, aft_pair (runL_r h.ok) hu hs hp]
    · rw [if_neg hp]
  unfold shL
  by_cases hi : aft (runL (popL l s)) s = runL (popL l s) ∧ timeB s = false
  · rw [if_pos hi, ← hpop, hi.1]
  · rw [if_neg hi, runL_snoc, hpop]
/-- A step that changes nothing leaves all as it was. -/
theorem sh_idle {l : List St} {s : St} (h : Good l) (hs : AOk s) (hi : aft (runL l) s = runL l ∧ timeB s = false) : shL l s = l := by
  by_cases hp : lastPair l s = true
  · cases h with
    | nil => simp [lastPair] at hp
    | snoc h hu hq hn =>
      rename_i p u
      have hp' := hp
      rw [lastPair_snoc] at hp'
      have hsu : s = u := by
        rw [runL_snoc] at hi
        exact pair_idle (runL_r h.ok) hu hs hp' hi.1
      subst hsu
      unfold shL popL
      rw [if_pos hp, List.dropLast_concat, if_neg hn]
  · unfold shL popL
    rw [if_neg hp, if_pos hi]
theorem sh_pair {l : List St} {s t : St} (h : Good l) (hp : pairB s t = true) : shL (shL l s) t = shL l t := by
  have hpop : popL l s = popL l t := by unfold popL; rw [lastPair_trans hp]
  obtain ⟨h1, h2⟩ := pop_last (s := s) h
  have h3 : lastPair (popL l s) t = false := by rw [← lastPair_trans hp]; exact h1
  have hq : popL (shL l s) t = popL l t := by
    unfold shL
    by_cases hi : aft (runL (popL l s)) s = runL (popL l s) ∧ timeB s = false
    · rw [if_pos hi, ← hpop]
      rw [popL.eq_def (popL l s) t, h3]
      rfl
    · rw [if_neg hi, ← hpop]
      rw [popL.eq_def (popL l s ++ [s]) t, lastPair_snoc, if_pos hp, List.dropLast_concat]
  rw [shL.eq_def (shL l s) t, hq, ← shL.eq_def l t]
theorem fold_filt {l a : List St} (h : Good a) (hl : ∀ s ∈ l, AOk s) : (filtL (runL a) l).foldl shL a = l.foldl shL a := by
  induction l generalizing a with
  | nil => rfl
  | cons s r ih =>
    have hs := hl s (by simp)
    have hr : ∀ t ∈ r, AOk t := fun t ht => hl t (by simp [ht])
    rw [filtL]
    by_cases hi : aft (runL a) s = runL a ∧ timeB s = false
    · rw [if_pos hi, hi.1, ih h hr, List.foldl_cons, sh_idle h hs hi]
    · rw [if_neg hi, List.foldl_cons, List.foldl_cons, ← sh_run h hs, ih (sh_good h hs) hr]
theorem fold_drop {l a : List St} (h : Good a) (hl : ∀ s ∈ l, AOk s) : (dropL l).foldl shL a = l.foldl shL a := by
  induction l generalizing a with
  | nil => rfl
  | cons s r ih =>
    have hs := hl s (by simp)
    have hr : ∀ t ∈ r, AOk t := fun t ht => hl t (by simp [ht])
    cases r with
    | nil => rfl
    | cons t r =>
      rw [dropL]
      by_cases hp : pairB s t = true
      · rw [if_pos hp, ih h hr, List.foldl_cons, List.foldl_cons, List.foldl_cons, sh_pair h hp]
      · rw [if_neg hp, List.foldl_cons, List.foldl_cons, ih (sh_good h hs) hr]
theorem filt_mem {m : Ma} {l : List St} {s : St} (h : s ∈ filtL m l) : s ∈ l := by
  induction l generalizing m with
  | nil => exact h
  | cons a r ih =>
    rw [filtL] at h
    split at h
    · exact List.mem_cons_of_mem _ (ih h)
    · rcases List.mem_cons.1 h with h' | h'
      · rw [h']; simp
      · exact List.mem_cons_of_mem _ (ih h')
theorem drop_mem {l : List St} {s : St} (h : s ∈ dropL l) : s ∈ l := by
  induction l with
  | nil => exact h
  | cons a r ih =>
    cases r with
    | nil => exact h
    | cons b r =>
      rw [dropL] at h
      split at h
      · exact List.mem_cons_of_mem _ (ih h)
      · rcases List.mem_cons.1 h with h' | h'
        · rw [h']; simp
        · exact List.mem_cons_of_mem _ (ih h')
theorem pass_mem {l : List St} {s : St} (h : s ∈ passL l) : s ∈ l := filt_mem (drop_mem h)
theorem filt_len (m : Ma) (l : List St) : (filtL m l).length ≤ l.length := by
  induction l generalizing m with
  | nil => simp [filtL]
  | cons a r ih => rw [filtL]; split <;> simp <;> have := ih (aft m a) <;> omega
theorem drop_len (l : List St) : (dropL l).length ≤ l.length := by
  induction l with
  | nil => simp [dropL]
  | cons a r ih =>
    cases r with
    | nil => simp [dropL]
    | cons b r => rw [dropL]; split <;> simp at ih ⊢ <;> omega
theorem pass_len (l : List St) : (passL l).length ≤ l.length := Nat.le_trans (drop_len _) (filt_len _ _)
/-- One pass of the reference doesn't turn what the program finds. -/
theorem short_pass {l : List St} (hl : ∀ s ∈ l, AOk s) : shortL (passL l) = shortL l := by
  unfold shortL passL
  rw [fold_drop .nil (fun s hs => hl s (filt_mem hs))]
  exact fold_filt .nil hl
theorem filt_eq {m : Ma} {l : List St} (h : (filtL m l).length = l.length) : filtL m l = l := by
  induction l generalizing m with
  | nil => rfl
  | cons a r ih =>
    rw [filtL] at h ⊢
    split at h
    · have := filt_len (aft m a) r; simp at h; omega
    · rename_i hn
      rw [if_neg hn, ih (by simpa using h)]
theorem drop_eq {l : List St} (h : (dropL l).length = l.length) : dropL l = l := by
  induction l with
  | nil => rfl
  | cons a r ih =>
    cases r with
    | nil => rfl
    | cons b r =>
      rw [dropL] at h ⊢
      split at h
      · have := drop_len (b :: r); simp at h this; omega
      · rename_i hn
        rw [if_neg hn, ih (by simpa using h)]
theorem fold_same {l a : List St} (h : Good a) (hl : ∀ s ∈ l, AOk s) (hf : filtL (runL a) l = l) (hd : dropL l = l) (hb : ∀ s r, l = s :: r → lastPair a s = false) : l.foldl shL a = a ++ l := by
  induction l generalizing a with
  | nil => simp
  | cons s r ih =>
    have hs := hl s (by simp)
    have hr : ∀ t ∈ r, AOk t := fun t ht => hl t (by simp [ht])
    rw [filtL] at hf
    have hlp := hb s r rfl
    by_cases hi : aft (runL a) s = runL a ∧ timeB s = false
    · rw [if_pos hi] at hf
      have := filt_len (aft (runL a) s) r
      have h2 := congrArg List.length hf
      simp at h2; omega
    · rw [if_neg hi] at hf
      have hf' : filtL (aft (runL a) s) r = r := by simpa using hf
      have hsh : shL a s = a ++ [s] := by
        unfold shL popL
        rw [hlp]
        simp only [Bool.false_eq_true, if_false]
        rw [if_neg hi]
      rw [List.foldl_cons, hsh]
      have hd' : dropL r = r ∧ ∀ t q, r = t :: q → pairB s t = false := by
        cases r with
        | nil => exact ⟨rfl, fun t q e => by cases e⟩
        | cons t q =>
          rw [dropL] at hd
          split at hd
          · have := drop_len (t :: q)
            have h2 := congrArg List.length hd
            simp at h2 this; omega
          · rename_i hn
            exact ⟨by simpa using hd, fun t' q' e => by cases e; simpa using hn⟩
      rw [ih (.snoc h hs hlp hi) hr (by rw [runL_snoc]; exact hf') hd'.1 (fun t q e => by rw [lastPair_snoc]; exact hd'.2 t q e)]
      simp
/-- Where a pass leaves nothing out, all is left. -/
theorem short_done {l : List St} (hl : ∀ s ∈ l, AOk s) (h : (passL l).length = l.length) : shortL l = l := by
  have h1 := filt_len m00 l
  have h2 := drop_len (filtL m00 l)
  have hf : filtL m00 l = l := filt_eq (by unfold passL at h; omega)
  have hd : dropL l = l := drop_eq (by unfold passL at h; rw [hf] at h; exact h)
  have := fold_same .nil hl hf hd (fun s r _ => rfl)
  simpa [shortL] using this
/-- Each pass leaves steps of an absolute program. -/
theorem pass_ok {l : List St} (hl : ∀ s ∈ l, AOk s) : ∀ s ∈ passL l, AOk s := fun s hs => hl s (pass_mem hs)
theorem absL_ok {S : Nat → St} {n : Nat} (hok : ∀ i, i < n → SOk (S i)) : ∀ s ∈ absL S n, AOk s := by
  induction n with
  | zero => intro s hs; cases hs
  | succ n ih =>
    intro s hs
    rw [absL] at hs
    split at hs
    · exact ih (fun i hi => hok i (by omega)) s hs
    · rename_i hk
      rcases List.mem_append.1 hs with h | h
      · exact ih (fun i hi => hok i (by omega)) s h
      · simp only [List.mem_cons, List.not_mem_nil, or_false] at h
        subst h
        have ho := (hok n (by omega)).u
        obtain ⟨t, ht⟩ : ∃ t, S n = t := ⟨_, rfl⟩
        rw [ht] at hk ho ⊢
        unfold used s00 at ho
        unfold absS
        refine ⟨?_, ?_, ?_⟩
        · (repeat' split) <;> (try dsimp only) <;> omega
        · intro h3
          have hk3 : t.k = 3 := by
            revert h3
            (repeat' split) <;> (try dsimp only) <;> intro h3 <;> omega
          rw [if_pos hk3] at ho
          rw [if_pos (.inl hk3)]
          dsimp only
          rw [ho]
          exact ⟨rfl, rfl, rfl⟩
        · intro h5
          have hk5 : t.k = 5 := by
            revert h5
            (repeat' split) <;> (try dsimp only) <;> intro h5 <;> omega
          rw [if_neg (by omega), if_neg (by omega), if_pos hk5] at ho
          rw [if_neg (by omega), if_pos hk5]
          dsimp only
          rw [ho]
          exact ⟨rfl, rfl, rfl, rfl⟩
end Go.Proofs.Ythmplflmjjccfaa

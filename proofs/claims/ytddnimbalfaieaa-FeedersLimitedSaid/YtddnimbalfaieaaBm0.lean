/- What the law FeedersLimited wants: answers with their errors in one; regions by sets of done operations. -/
import Derived.Test.YtddnimbalfaieaaBe
import Derived.Test.YtddnimbalfaieaaBi
import Derived.Test.YtddnimbalfaieaaBl
set_option linter.unusedSimpArgs false
set_option linter.unusedVariables false
namespace Go.Proofs.Ytddnimbalfaieaa
open Go.RowKit
theorem absH {P : Program} {md : Region.Mode} {ops : Array Oper} {Q : Exit → Act → World → Prop} {S : World → Prop} {fuel : Nat} {listed : Array Bool} {a : Act} {w : World}
    (h : ∀ (G : Nat → Array Bool → Act → World → Prop) (A : Act), (∀ f l b v, G f l b v ↔ wpAnyH P md ops Q S f l b v) → A = a → G fuel listed A w) : wpAnyH P md ops Q S fuel listed a w :=
  (h _ a (fun _ _ _ _ => Iff.rfl) rfl)
theorem listedEq {P : Program} {md : Region.Mode} {ops : Array Oper} {Q : Exit → Act → World → Prop} {S : World → Prop} {fuel : Nat} {l l' : Array Bool} {a : Act} {w : World}
    (h : l = l') (hw : wpAnyH P md ops Q S fuel l' a w) : wpAnyH P md ops Q S fuel l a w := h ▸ hw
theorem ints_nil {w : World} {a : Option Addr} {V : Nat → Int} : IntsR w a 0 V := .inl rfl
theorem retracted_u (ab : Option Addr) (n cb : Nat) (L W H : Nat → Int) (x back : Int) (a : Option Addr) (m c : Nat) (V : Nat → Int) (w : World) (hn : n ≤ 100) (hp : BeadsR w ab n L W H) (hm : m ≤ 100) (hmc : m ≤ c) (hv : IntsR w a m V) :
    Calls Try.prog 26 #[.slice ab n cb, .int .i64 x, .int .i64 back, .slice a m c] w fun e w' => (∃ ar kr cr R, e = .returned (.tuple #[.slice ar kr cr, .int .i64 (rtE n L W H x back V m)]) ∧ IntsR w' ar kr R ∧ (rtE n L W H x back V m = 0 → kr = (rtL back V m (amtF L W H x) n).length ∧ R = fun i => (rtL back V m (amtF L W H x) n).getD i 0) ∧ (rtE n L W H x back V m ≠ 0 → kr = 0)) ∧ Below w.heap.size w w' := by
  refine (Retracted_any ab n cb L W H x back a m c V w hn hp hm hmc hv).mono ?_
  rintro e w' ⟨h1, h2, hb⟩
  refine ⟨?_, hb⟩
  by_cases hz : rtE n L W H x back V m = 0
  · obtain ⟨ao, k, co, rfl, hk, ho⟩ := h1 hz
    exact ⟨ao, k, co, _, by rw [hz], ints_of_IV ho, fun _ => ⟨hk, rfl⟩, fun h => absurd hz h⟩
  · exact ⟨none, 0, 0, fun _ => 0, h2 hz, .inl rfl, fun h => absurd h hz, fun _ => rfl⟩
theorem fastest_u (a : Option Addr) (n c : Nat) (L W H : Nat → Int) (f : Int) (w : World) (hn : n ≤ 100) (hp : BeadsR w a n L W H) :
    Calls Try.prog 27 #[.slice a n c, .int .i64 f] w fun e w' => (∃ ar kr cr R, e = .returned (.tuple #[.slice ar kr cr, .int .i64 (fsE n L W H f)]) ∧ IntsR w' ar kr R ∧ (fsE n L W H f = 0 → kr = n ∧ R = fsF W H f) ∧ (fsE n L W H f ≠ 0 → kr = 0)) ∧ Below w.heap.size w w' := by
  refine (Fastest_any a n c L W H f w hn hp).mono ?_
  rintro e w' ⟨h1, h2, hb⟩
  refine ⟨?_, hb⟩
  by_cases hz : fsE n L W H f = 0
  · obtain ⟨ao, co, rfl, ho⟩ := h1 hz
    exact ⟨ao, n, co, _, by rw [hz], ints_of_own ho, fun _ => ⟨rfl, rfl⟩, fun h => absurd hz h⟩
  · exact ⟨none, 0, 0, fun _ => 0, h2 hz, .inl rfl, fun h => absurd h hz, fun _ => rfl⟩
theorem slowed_u (a : Option Addr) (m c : Nat) (T : Nat → Int) (l : Int) (w : World) (hm : m ≤ 100) (ht : IntsR w a m T) :
    Calls Try.prog 28 #[.slice a m c, .int .i64 l] w fun e w' => (∃ ar kr cr R gv, e = .returned (.tuple #[.slice ar kr cr, .int .i64 gv, .int .i64 (tmE m T l)]) ∧ IntsR w' ar kr R ∧ (tmE m T l = 0 → (kr = m ∧ R = slF T l) ∧ gv = gwZ T l m) ∧ (tmE m T l ≠ 0 → kr = 0 ∧ gv = 0)) ∧ Below w.heap.size w w' := by
  refine (Slowed_any a m c T l w hm ht).mono ?_
  rintro e w' ⟨h1, h2, hb⟩
  refine ⟨?_, hb⟩
  by_cases hz : tmE m T l = 0
  · obtain ⟨ao, co, rfl, ho⟩ := h1 hz
    exact ⟨ao, m, co, _, _, by rw [hz], ints_of_own ho, fun _ => ⟨⟨rfl, rfl⟩, rfl⟩, fun h => absurd hz h⟩
  · exact ⟨none, 0, 0, fun _ => 0, 0, h2 hz, .inl rfl, fun h => absurd h hz, fun _ => ⟨rfl, rfl⟩⟩
def tF (x y z : Int) : Nat → Int
  | 0 => x
  | 1 => y
  | _ => z
theorem ints_tF {w : World} {g r : Nat} {x y z : Int} (h : w.heap[g]? = some (.cells #[.int .i64 x, .int .i64 y, .int .i64 z] 3 (0, 0))) (hr : r ≤ 3) : IntsR w (some ⟨g, 0, none⟩) r (tF x y z) :=
  .inr ⟨g, 0, rfl, lt_of_heap h, fun i hi => by
    rw [Nat.zero_add]
    match i, hi with
    | 0, _ => exact cell_of h rfl
    | 1, _ => exact cell_of h rfl
    | 2, _ => exact cell_of h rfl
    | j + 3, hj => omega⟩
theorem own_mutB {w : World} {base : Nat} {e : TypeId} {size : Nat} {v : Value} {n : Nat} {xs : List Value} (h : w.ownsRow base e size v n xs) {b : Nat} (o : Nat) (u : Value) (hb : v.ownBlock ≠ some b) : (w.setCell ⟨b, o, none⟩ u).ownsRow base e size v n xs := by
  obtain ⟨h1, h2⟩ := h
  refine ⟨h1, ?_⟩
  rcases h2 with h2 | ⟨g, cap, cur, hv, hg, hh, r⟩
  · exact .inl h2
  · exact .inr ⟨g, cap, cur, hv, hg, (Below.heap_setCell _ _ _ _ (by show g ≠ b; intro e; subst e; exact hb (by rw [hv]; rfl))).trans hh, r⟩
theorem bwn {w a b : World} (h : Hid (Below w.heap.size w a)) (hb : Below a.heap.size a b) : Hid (Below w.heap.size w b) := Lib.hid (h.out.trans (hb.mono h.out.size))
theorem kB {w w' : World} {a : Option Addr} {n : Nat} {L W H : Nat → Int} (h : Hid (BeadsR w a n L W H)) (hb : Below w.heap.size w w') : Hid (BeadsR w' a n L W H) := Lib.hid (h.out.kept hb)
theorem kI {w w' : World} {a : Option Addr} {n : Nat} {V : Nat → Int} (h : Hid (IntsR w a n V)) (hb : Below w.heap.size w w') : Hid (IntsR w' a n V) := Lib.hid (h.out.kept hb)
theorem kH {w w' : World} {b : Nat} {o : Obj} (hb : Below w.heap.size w w') (h : Hid (w.heap[b]? = some o)) : Hid (w'.heap[b]? = some o) := Lib.hid (heap_keep hb h.out)
end Go.Proofs.Ytddnimbalfaieaa

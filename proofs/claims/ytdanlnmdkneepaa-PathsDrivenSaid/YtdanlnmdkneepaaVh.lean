/- A region that draws its order, inside a fence that lets all by: by the law of the plain world. -/
import Derived.Test.YtdanlnmdkneepaaVg
import Derived.RangeFuncNested
import Derived.RangeFuncBound
import Derived.RangeFuncCalls
import Derived.RangeFuncLeaves
import Derived.RangeFuncBox
import Derived.Shelf.Abstract
import Derived.OwnWalkIn
import Derived.TacticsInMore
import Derived.LoopNIn
import Derived.LoopIn
set_option linter.unusedSimpArgs false
set_option linter.unusedVariables false
namespace Go.Proofs.Ytdanlnmdkneepaa
open Go.RowKit Go.Shelf

/-- A fence that lets all by. -/
structure Open_ (F : Fence) : Prop where
  calls : ∀ {n P f args w R}, Calls P f args w R → CallsIn F n P f args w R
  rows : ∀ {n P row args w R}, Rows P row args w R → RowsIn F n P row args w R
  fn : ∀ f, F.fn f
  depth : F.depth = none
theorem open_wide : Open_ Fence.wide := ⟨fun h => callsIn_wide.2 h, fun h c cs _ => by
  obtain ⟨v, w', r, s⟩ := h c cs
  exact ⟨v, w', r, stepsIn_wide.2 s⟩, fun _ => trivial, rfl⟩
theorem open_round {F : Fence} (h : Open_ F) (l : Nat) : Open_ (F.inRound l) := ⟨fun g => CallsIn.inRound l (h.calls g), fun {n P row args w R} g => (h.rows (n := n) g : RowsIn F n P row args w R), h.fn, h.depth⟩
def noDefer (o : Oper) : Bool := match o.op with | .defer _ => false | _ => true
theorem wpIn_of_wp {F : Fence} (hF : Open_ F) {n : Nat} {P : Program} {o : Oper} {a : Act} {w : World} {K : Act → World → Prop} {Q : Exit → Act → World → Prop} (hd : noDefer o = true) (h : o.wp P a w K Q) : o.wpIn F n P a w K Q := by
  refine ⟨fun f _ => hF.fn f, ?_⟩
  rw [Oper.semAt_eq F.round a.eval o (fun c hc => by simp [noDefer, hc] at hd)]
  unfold Oper.wp at h
  have hn : F.depth.isSome = true → 1 ≤ n := fun e => by rw [hF.depth] at e; cases e
  generalize (execOp a.eval o).run P w = r at *
  cases r with
  | ok x w' =>
    cases x with
    | value v => exact h
    | skip => exact h
    | defer d => exact h
    | enter f args => exact ⟨hn, hF.calls h⟩
    | row row args => exact ⟨hn, hF.rows h⟩
    | round l f t a1 b => exact h.elim
    | _ => exact h.elim
  | halt c w' =>
    cases c with
    | panic v => exact h
    | _ => exact h.elim
theorem wpAnyIn_of {F : Fence} (hF : Open_ F) {n : Nat} {P : Program} {md : Region.Mode} {ops : Array Oper} {Q : Exit → Act → World → Prop} (hQ : ¬ LetsOut Q) (hd : ∀ (i : Nat) (o : Oper), ops[i]? = some o → noDefer o = true) :
    ∀ (fuel : Nat) (listed : Array Bool) (a : Act) (w : World), wpAny P md ops Q fuel listed a w → wpAnyIn F n P md ops Q fuel listed a w
  | 0, _, _, _, h => h
  | fuel + 1, listed, a, w, h => ⟨h.1, fun i hi => by
    have h2 := h.2 i hi
    unfold wpOp at h2
    unfold wpOpIn
    split at h2
    · rename_i hn
      simp only [hn]
      exact wpAnyIn_of hF hQ hd fuel _ _ _ h2
    · rename_i o ho
      simp only [ho]
      split at h2
      · rename_i hw
        rw [if_pos hw]
        rcases h2 with h2 | h2
        · exact Oper.wpIn_mono (fun a w hh => wpAnyIn_of hF hQ hd fuel _ _ _ hh) (wpIn_of_wp hF (hd i o ho) h2)
        · exact absurd h2.2 hQ
      · rename_i hw
        rw [if_neg hw]
        exact ⟨fun f _ => hF.fn f, wpAnyIn_of hF hQ hd fuel _ _ _ h2⟩⟩
theorem noDefers {ops : Array Oper} (h : ops.all noDefer = true) : ∀ (i : Nat) (o : Oper), ops[i]? = some o → noDefer o = true := fun i o ho => by
  rw [Array.all_eq_true'] at h
  exact h o (Array.mem_of_getElem? ho)
theorem wpIn_region_heldV {F : Fence} (hF : Open_ F) {n : Nat} {P : Program} {id : Nat} {ops : Array Oper} {Q : Exit → Act → World → Prop} {S : World → Prop} {a : Act} {w : World} (hm : P.follows .mixedOrders = true) (hQ : ¬ LetsOut Q) (hd : ops.all noDefer = true) (hS : S w.drew)
    (h : S w.drew → wpAnyH P .any ops Q S ops.size (Array.replicate ops.size false) a w.drew) : (Code.region id ops true).wpIn F n P Q a w :=
  wpIn_region_any hm (wpAnyIn_of hF hQ (noDefers hd) _ _ _ _ (wpAny_of_held _ _ _ _ (h hS)))
/-- A walk that ends as it should, or not at all. -/
def onlyN (Q : Exit → Act → World → Prop) : Exit → Act → World → Prop
  | .normal, a, w => Q .normal a w
  | _, _, _ => False
theorem onlyN_out {Q : Exit → Act → World → Prop} : ¬ LetsOut (onlyN Q) := fun ⟨_, _, h⟩ => h
theorem wpIn_region_only {F : Fence} (hF : Open_ F) {n : Nat} {P : Program} {id : Nat} {ops : Array Oper} {Q : Exit → Act → World → Prop} {S : World → Prop} {a : Act} {w : World} (hm : P.follows .mixedOrders = true) (hd : ops.all noDefer = true) (hS : S w.drew)
    (h : S w.drew → wpAnyH P .any ops (onlyN Q) S ops.size (Array.replicate ops.size false) a w.drew) : (Code.region id ops true).wpIn F n P Q a w :=
  wpIn_mono (wpIn_region_heldV hF hm onlyN_out hd hS h) (fun e a w hq => by
    cases e with
    | normal => exact hq
    | _ => exact hq.elim)
end Go.Proofs.Ytdanlnmdkneepaa

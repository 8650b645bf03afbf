/- Joined, Part and Welded with their errors in one. -/
import Derived.Test.YtpgpjoghfpfhlaaFq
import Derived.Test.YtpgpjoghfpfhlaaFl
import Derived.Test.YtpgpjoghfpfhlaaJm
import Derived.Test.YtpgpjoghfpfhlaaPo
import Derived.Test.YtpgpjoghfpfhlaaRx
set_option linter.unusedSimpArgs false
set_option linter.unusedVariables false
namespace Go.Proofs.Ytpgpjoghfpfhlaa
open Go.RowKit

theorem joined_any (av af bv bf : Option Addr) (nv cv nf cf mv dv mf df : Nat) (V F W G : Nat → V3) (w : World) (ra : Row3 w av nv V) (rb : Row3 w af nf F) (rc : Row3 w bv mv W) (rd : Row3 w bf mf G) (h1 : nv ≤ 100000) (h2 : nf ≤ 100000) (h3 : mv ≤ 100000) (h4 : mf ≤ 100000)
    (E : Int) (hE : orE (fault nv V nf F) (orE (fault mv W mf G) (fault (nv + mv) (jV nv V W) (nf + mf) (jF nv nf F G))) = E) :
    Calls Try.prog 8 #[.agg #[.slice av nv cv, .slice af nf cf], .agg #[.slice bv mv dv, .slice bf mf df]] w (MeshR w E (nv + mv) (jV nv V W) (nf + mf) (jF nv nf F G)) := by
  by_cases hf : fault nv V nf F = 0
  · by_cases hg : fault mv W mf G = 0
    · exact joined_ok av af bv bf nv cv nf cf mv dv mf df V F W G w ra rb rc rd h1 h2 h3 h4 hf hg E (by rw [← hE]; simp [orE, hf, hg])
    · have e : E = orE (fault nv V nf F) (fault mv W mf G) := by rw [← hE]; simp [orE, hf, hg]
      rw [e]
      exact joined_err av af bv bf nv cv nf cf mv dv mf df V F W G w ra rb rc rd (by omega) (by omega) (by omega) (by omega) (.inr hg) _ _ _ _
  · have e : E = orE (fault nv V nf F) (fault mv W mf G) := by rw [← hE]; simp [orE, hf]
    rw [e]
    exact joined_err av af bv bf nv cv nf cf mv dv mf df V F W G w ra rb rc rd (by omega) (by omega) (by omega) (by omega) (.inl hf) _ _ _ _

theorem part_any (av af : Option Addr) (nv cv nf cf : Nat) (V F : Nat → V3) (al : Option Addr) (n cl : Nat) (L : Nat → Int) (w : World) (hv : Row3 w av nv V) (hf : Row3 w af nf F) (hnv : nv ≤ 1000000) (hnf : nf ≤ 1000000) (hl : RowI w al n L) (hn : n ≤ 1000000)
    (kn : Nat) (kv kf : Nat → V3) (E : Int) (hK : (cnt (useB (chF F L) n) nv) = kn) (hKV : (keepV (useB (chF F L) n) V nv) = kv) (hCF : (fun i => rnf (place (useB (chF F L) n)) (chF F L i)) = kf)
    (hE : orE (fault nv V nf F) (if n = 0 then 8 else orE (first (pErr nf L) n) (fault kn kv n kf)) = E) :
    Calls Try.prog 9 #[.agg #[.slice av nv cv, .slice af nf cf], .slice al n cl] w (MeshR w E kn kv n kf) := by
  by_cases h0 : fault nv V nf F = 0
  · by_cases hn0 : n = 0
    · have e : E = 8 := by rw [← hE]; simp [orE, h0, hn0]
      subst hn0
      rw [e]
      exact part_0 av af nv cv nf cf V F al cl w hv hf hnv hnf h0 _ _ _ _
    · exact part_go av af nv cv nf cf V F al n cl L w hv hf hnv hnf hl hn hn0 h0 kn kv kf E hK hKV hCF (by rw [← hE]; simp [orE, h0, hn0])
  · have e : E = fault nv V nf F := by rw [← hE]; simp [orE, h0]
    rw [e]
    exact part_f av af nv cv nf cf V F al n cl w hv hf hnv hnf h0 _ _ _ _

theorem welded_any (av af : Option Addr) (nv cv nf cf : Nat) (V F : Nat → V3) (w : World) (hv : Row3 w av nv V) (hf : Row3 w af nf F) (hnv : nv ≤ 1000000) (hnf : nf ≤ 1000000)
    (kn : Nat) (kv kf : Nat → V3) (E : Int) (hK : (cnt (useB (wF V nv F) nf) nv) = kn) (hKV : (keepV (useB (wF V nv F) nf) V nv) = kv) (hCF : (fun i => rnf (place (useB (wF V nv F) nf)) (wF V nv F i)) = kf) (hE : orE (fault nv V nf F) (fault kn kv nf kf) = E) :
    Calls Try.prog 10 #[.agg #[.slice av nv cv, .slice af nf cf]] w (MeshR w E kn kv nf kf) := by
  by_cases h0 : fault nv V nf F = 0
  · exact wel_ok av af nv cv nf cf V F w hv hf hnv hnf h0 kn kv kf E hK hKV hCF (by rw [← hE]; simp [orE, h0])
  · have e : E = fault nv V nf F := by rw [← hE]; simp [orE, h0]
    rw [e]
    exact wel_f av af nv cv nf cf V F w hv hf hnv hnf h0 _ _ _ _

theorem own_cap {w : World} {base size n c : Nat} {e : TypeId} {a : Option Addr} {xs : List Value} (h : w.ownsRow base e size (.slice a n c) n xs) : n ≤ c := by
  rcases h.2 with ⟨h1, h2⟩ | ⟨g, cap, cur, hv, _, _, hn, _⟩
  · simp at h1; omega
  · simp at hv; omega
/-- A block with a mesh's two slices. -/
def MB (w : World) (g : Nat) (a : Option Addr) (n c : Nat) (b : Option Addr) (m d : Nat) : Prop := w.heap[g]? = some (.cells #[.slice a n c, .slice b m d] 29 (0, 0))
theorem MB.kept {w w' : World} {g : Nat} {a b : Option Addr} {n c m d : Nat} (h : MB w g a n c b m d) (hb : Below w.heap.size w w') : MB w' g a n c b m d := heap_keep hb h
theorem MB.c0 {w : World} {g : Nat} {a b : Option Addr} {n c m d : Nat} (h : MB w g a n c b m d) : w.cell? ⟨g, 0, none⟩ = some (.slice a n c) := cell_of h rfl
theorem MB.c1 {w : World} {g : Nat} {a b : Option Addr} {n c m d : Nat} (h : MB w g a n c b m d) : w.cell? ⟨g, 1, none⟩ = some (.slice b m d) := cell_of h rfl
theorem MB.fr {w : World} {g o : Nat} {a b : Option Addr} {n c m d : Nat} (h : MB w g a n c b m d) : w.frozen? ⟨g, o, none⟩ = false := frozen_of h
theorem MB.lt {w : World} {g : Nat} {a b : Option Addr} {n c m d : Nat} (h : MB w g a n c b m d) : g < w.heap.size := lt_of_heap h
theorem MB.keptP {w w' : World} {P g : Nat} {a b : Option Addr} {n c m d : Nat} (h : MB w g a n c b m d) (hb : Below P w w') (hg : g < P) : MB w' g a n c b m d := (hb.block g hg).trans h
theorem MB.set {w : World} {g : Nat} {a b a' b' : Option Addr} {n c m d n' c' m' d' : Nat} (h : MB w g a n c b m d) : MB ((w.setCell ⟨g, 0, none⟩ (.slice a' n' c')).setCell ⟨g, 1, none⟩ (.slice b' m' d')) g a' n' c' b' m' d' := set2_1 (set2_0 h)
theorem MB.other {w : World} {g k o : Nat} {a b : Option Addr} {n c m d : Nat} {u : Value} (h : MB w g a n c b m d) (hne : g ≠ k) : MB (w.setCell ⟨k, o, none⟩ u) g a n c b m d := (Below.heap_setCell _ _ _ _ hne).trans h
/-- A mesh in new memory, in a block. -/
def MH (w : World) (base g : Nat) (E : Int) (n : Nat) (V : Nat → V3) (m : Nat) (F : Nat → V3) : Prop := ∃ a c b d, MB w g a (zr E n) c b (zr E m) d ∧ RowN w base a (zr E n) V ∧ RowN w base b (zr E m) F
theorem MH.kept {w w' : World} {base g n m : Nat} {E : Int} {V F : Nat → V3} (h : MH w base g E n V m F) (hb : Below w.heap.size w w') : MH w' base g E n V m F := by
  obtain ⟨a, c, b, d, h1, h2, h3⟩ := h
  exact ⟨a, c, b, d, h1.kept hb, h2.kept hb, h3.kept hb⟩
theorem MH.other {w : World} {base g n m k o : Nat} {E : Int} {V F : Nat → V3} {u : Value} (h : MH w base g E n V m F) (hne : g ≠ k) (hk : k < base) : MH (w.setCell ⟨k, o, none⟩ u) base g E n V m F := by
  obtain ⟨a, c, b, d, h1, h2, h3⟩ := h
  exact ⟨a, c, b, d, h1.other hne, h2.set (p := ⟨k, o, none⟩) hk u, h3.set (p := ⟨k, o, none⟩) hk u⟩
/-- What a call left is stored into a block. -/
theorem MH.put {w : World} {base b1 b2 g n m c d : Nat} {E : Int} {a b a' b' : Option Addr} {n' c' m' d' : Nat} {V F : Nat → V3} (h : MB w g a' n' c' b' m' d') (ha : RowN w b1 a (zr E n) V) (hb : RowN w b2 b (zr E m) F) (h1 : base ≤ b1) (h2 : base ≤ b2) (hg : g < base) :
    MH ((w.setCell ⟨g, 0, none⟩ (.slice a (zr E n) c)).setCell ⟨g, 1, none⟩ (.slice b (zr E m) d)) base g E n V m F :=
  ⟨_, _, _, _, h.set, ((ha.weak h1).set (p := ⟨g, 0, none⟩) hg _).set (p := ⟨g, 1, none⟩) hg _, ((hb.weak h2).set (p := ⟨g, 0, none⟩) hg _).set (p := ⟨g, 1, none⟩) hg _⟩
theorem MB.noMesh {w : World} {base g n m : Nat} {E : Int} {V F : Nat → V3} (h : MB w g none 0 0 none 0 0) (hE : E ≠ 0) : MH w base g E n V m F := by
  have e : ∀ n, zr E n = 0 := fun n => by simp [zr, hE]
  exact ⟨_, _, _, _, by rw [e, e]; exact h, by rw [e]; exact .inl rfl, by rw [e]; exact .inl rfl⟩
theorem orE_ne {a b : Int} (h : orE a b ≠ 0) (c : Int) : orE a (orE b c) = orE a b := by
  unfold orE at *
  split
  · rename_i h0; simp only [h0, if_true] at h; simp [h]
  · rfl
theorem orE_ne1 {a : Int} (h : a ≠ 0) (c : Int) : orE a c = a := by simp [orE, h]
theorem orE_z (c : Int) : orE 0 c = c := by simp [orE]
theorem orE_0 {a b : Int} (h : orE a b = 0) : a = 0 ∧ b = 0 := by
  unfold orE at h
  split at h
  · exact ⟨by assumption, h⟩
  · contradiction
theorem zr_z (n : Nat) : zr 0 n = n := by simp [zr]
end Go.Proofs.Ytpgpjoghfpfhlaa

/- Drawn states under way: the source, a state in a block of its own, its log's row. -/
import Derived.Test.YtkdplhhkkpkmoaaDoorZG42
import Derived.Test.YtkdplhhkkpkmoaaDoorZG43
import Derived.Test.YtkdplhhkkpkmoaaDoorZG21
import Derived.Test.YtkdplhhkkpkmoaaDoorZG22
import Derived.Test.YtkdplhhkkpkmoaaDoorZG12
import Derived.Test.YtkdplhhkkpkmoaaDoorZG16
namespace Go.Proofs.YtkdplhhkkpkmoaaDoor
open Go.ChangeShapes Go.WideShapes Go.ChangeAt Go.RowKit
set_option linter.unusedVariables false
set_option linter.unusedSimpArgs false
theorem below_grownQ {w w' : World} (h : Below w.heap.size w w') (row : Option Nat) : w.grownBy w' row := ⟨h.os, h.tape, h.output, h.size, fun k hk _ => h.block k hk⟩
theorem own_keepBQ {w w' : World} {base : Nat} {e : TypeId} {z g n cap : Nat} {xs : List Value} (h : w.ownsRow base e z (.slice (some ⟨g, 0, none⟩) n cap) n xs) (hb : w'.heap[g]? = w.heap[g]?) : w'.ownsRow base e z (.slice (some ⟨g, 0, none⟩) n cap) n xs := by
 obtain ⟨h1, h2⟩ := h
 refine ⟨h1, ?_⟩
 rcases h2 with ⟨h2, _⟩ | ⟨g', cap', cur, hv, hbg, hgc, hrest⟩
 ·cases h2
 ·have e1 : g = g' := by injection hv with e1 _ _; injection e1 with e1; injection e1
  subst e1
  exact .inr ⟨g, cap', cur, hv, hbg, by rw [hb]; exact hgc, hrest⟩
theorem own_keepG {w w' : World} {base : Nat} {e : TypeId} {z n c : Nat} {va : Option Addr} {xs : List Value} (h : w.ownsRow base e z (.slice va n c) n xs) (hb : ∀ j, (Value.slice va n c).ownBlock = some j → w'.heap[j]? = w.heap[j]?) : w'.ownsRow base e z (.slice va n c) n xs := by
 obtain ⟨h1, h2⟩ := h
 rcases h2 with h2 | ⟨g, cap, cur, hv, hbg, hgc, hrest⟩
 ·exact ⟨h1, .inl h2⟩
 ·injection hv with e1 e2 e3
  subst e1 e3
  exact own_keepBQ ⟨h1, .inr ⟨g, c, cur, rfl, hbg, hgc, hrest⟩⟩ (hb g rfl)
def Som (va : Option Addr) : Prop := ∃ b : Nat, va = some ⟨b, 0, none⟩
/-- A draw of a state under way. -/
def Ds (w0 : World) (g P r lo : Nat) (rv : Array Value) (a : Option Addr) (cap : Nat) (lc : List UInt8) (tm vt : Int) (va : Option Addr) (n vc : Nat) (l : List Ent) (p s : Nat) (w : World) : Prop :=
 SrcAt w g a cap lc p s ∧ w0.grownBy w (some g) ∧ BF P #[.int .i64 tm, .int .i64 vt, .slice va n vc] w ∧ BF r rv w ∧ w.ownsRow lo 46 2 (.slice va n vc) n (cE l) ∧ (∀ j, (Value.slice va n vc).ownBlock = some j → j ≠ P ∧ j ≠ r) ∧ l.length = n
theorem Ds.blk {w0 w : World} {g P r lo : Nat} {rv : Array Value} {a : Option Addr} {cap : Nat} {lc : List UInt8} {tm vt : Int} {va : Option Addr} {n vc : Nat} {l : List Ent} {p s : Nat} (h : Ds w0 g P r lo rv a cap lc tm vt va n vc l p s w) : ∀ j, (Value.slice va n vc).ownBlock = some j → lo ≤ j ∧ j < w.heap.size := fun j hj => h.2.2.2.2.1.lt j hj
theorem Ds.nx {w0 w w' : World} {g P r lo : Nat} {rv : Array Value} {a : Option Addr} {cap : Nat} {lc : List UInt8} {tm vt : Int} {va : Option Addr} {n vc : Nat} {l : List Ent} {p s p' s' : Nat} (h : Ds w0 g P r lo rv a cap lc tm vt va n vc l p s w) (hg : w.grownBy w' (some g)) (hA : SrcAt w' g a cap lc p' s') (hgP : g ≠ P) (hgr : g ≠ r) (hgl : g < lo) : Ds w0 g P r lo rv a cap lc tm vt va n vc l p' s' w' :=
 ⟨hA, World.grownBy.trans' h.2.1 hg, h.2.2.1.grown hg (fun e => hgP (Option.some.inj e)), h.2.2.2.1.grown hg (fun e => hgr (Option.some.inj e)), own_keepG h.2.2.2.2.1 (fun j hj => hg.block j (h.blk j hj).2 (fun e => by have := (h.blk j hj).1; have := Option.some.inj e; omega)), h.2.2.2.2.2⟩
theorem Ds.bl {w0 w w' : World} {g P r lo : Nat} {rv : Array Value} {a : Option Addr} {cap : Nat} {lc : List UInt8} {tm vt : Int} {va : Option Addr} {n vc : Nat} {l : List Ent} {p s : Nat} (h : Ds w0 g P r lo rv a cap lc tm vt va n vc l p s w) (hb : Below w.heap.size w w') : Ds w0 g P r lo rv a cap lc tm vt va n vc l p s w' :=
 ⟨ArrAt.below h.1 hb (ArrAt.lt h.1), World.grownBy.trans' h.2.1 (below_grownQ hb _), h.2.2.1.below hb, h.2.2.2.1.below hb, own_keepG h.2.2.2.2.1 (fun j hj => hb.block j (h.blk j hj).2), h.2.2.2.2.2⟩
theorem Ds.drew {w0 w : World} {g P r lo : Nat} {rv : Array Value} {a : Option Addr} {cap : Nat} {lc : List UInt8} {tm vt : Int} {va : Option Addr} {n vc : Nat} {l : List Ent} {p s : Nat} (h : Ds w0 g P r lo rv a cap lc tm vt va n vc l p s w) : Ds w0 g P r lo rv a cap lc tm vt va n vc l p s w.drew := h.bl ((Below.refl w.heap.size w).drew)
/-- A field of the state is set. -/
theorem Ds.set {w0 w : World} {g P r lo : Nat} {rv : Array Value} {a : Option Addr} {cap : Nat} {lc : List UInt8} {tm vt tm2 vt2 : Int} {va : Option Addr} {n vc : Nat} {l : List Ent} {p s : Nat} (h : Ds w0 g P r lo rv a cap lc tm vt va n vc l p s w) (hgP : g ≠ P) (hPr : P ≠ r) (h0 : w0.heap.size ≤ P) (o : Nat) (v : Value) (ho : o < 3) (he : (#[.int .i64 tm, .int .i64 vt, .slice va n vc] : Array Value).setIfInBounds o v = #[.int .i64 tm2, .int .i64 vt2, .slice va n vc]) : Ds w0 g P r lo rv a cap lc tm2 vt2 va n vc l p s (w.setCell ⟨P, o, none⟩ v) := by
 refine ⟨ArrAt.other h.1 hgP o v, grown_set h.2.1 h0 o v, ?_, h.2.2.2.1.far _ _ hPr, own_keepG h.2.2.2.2.1 (fun j hj => Below.heap_setCell _ _ _ _ (h.2.2.2.2.2.1 j hj).1), h.2.2.2.2.2⟩
 have := h.2.2.1.set o (by simpa using ho) v
 rwa [he] at this
/-- The log is a beginning of what it was. -/
theorem Ds.cut {w0 w : World} {g P r lo : Nat} {rv : Array Value} {a : Option Addr} {cap : Nat} {lc : List UInt8} {tm vt : Int} {va : Option Addr} {n vc : Nat} {l : List Ent} {p s : Nat} (h : Ds w0 g P r lo rv a cap lc tm vt va n vc l p s w) (hgP : g ≠ P) (hPr : P ≠ r) (h0 : w0.heap.size ≤ P) (k : Nat) (hk : k ≤ n) : Ds w0 g P r lo rv a cap lc tm vt va k vc (l.take k) p s (w.setCell ⟨P, 2, none⟩ (.slice va k vc)) := by
 have hown : w.ownsRow lo 46 2 (.slice va k vc) k (cE (l.take k)) := by
  rw [cE_take]
  have h5 := h.2.2.2.2.1
  obtain ⟨h1, h2⟩ := h5
  rcases h2 with ⟨hv, hx⟩ | ⟨b, c', cur, hv, hr⟩
  ·injection hv with e1 e2 e3
   subst e1 e2 e3
   have : k = 0 := by omega
   subst this
   exact ⟨by simp, .inl ⟨rfl, by simp⟩⟩
  ·injection hv with e1 e2 e3
   subst e1 e3
   exact own_take (⟨h1, .inr ⟨b, vc, cur, rfl, hr⟩⟩) hk
 have hb : (Value.slice va k vc).ownBlock = (Value.slice va n vc).ownBlock := by
  cases va with
  | none => rfl
  | some x => obtain ⟨b, o, sp⟩ := x; cases o <;> cases sp <;> rfl
 refine ⟨ArrAt.other h.1 hgP 2 _, grown_set h.2.1 h0 2 _, h.2.2.1.set 2 (by simp) _, h.2.2.2.1.far _ _ hPr, own_keepG hown (fun j hj => Below.heap_setCell _ _ _ _ (h.2.2.2.2.2.1 j (hb ▸ hj)).1), fun j hj => h.2.2.2.2.2.1 j (hb ▸ hj), ?_⟩
 rw [List.length_take, h.2.2.2.2.2.2]; omega
/-- An entry is put behind the log: the row may be a new one. -/
theorem Ds.put {w0 w w' : World} {g P r lo : Nat} {rv : Array Value} {a : Option Addr} {cap : Nat} {lc : List UInt8} {tm vt : Int} {va : Option Addr} {n vc : Nat} {l : List Ent} {p s : Nat} (h : Ds w0 g P r lo rv a cap lc tm vt va n vc l p s w) (hgP : g ≠ P) (hPr : P ≠ r) (h0 : w0.heap.size ≤ P) (hgl : g < lo) (hl0 : w0.heap.size ≤ lo) {g7 c7 H : Nat} {x : Ent} (ho : w'.ownsRow lo 46 2 (.slice (some ⟨g7, 0, none⟩) (n + 1) c7) (n + 1) (cE l ++ [.int .i64 x.1, .string x.2])) (hg : w.grownBy w' (Value.slice va n vc).ownBlock) (hat : (Value.slice va n vc).ownBlock = some g7 ∨ g7 = H) (hH : w.heap.size = H) : (BF P #[.int .i64 tm, .int .i64 vt, .slice va n vc] w') ∧ Ds w0 g P r lo rv a cap lc tm vt (some ⟨g7, 0, none⟩) (n + 1) c7 (l ++ [x]) p s (w'.setCell ⟨P, 2, none⟩ (.slice (some ⟨g7, 0, none⟩) (n + 1) c7)) := by
 have hP : BF P #[.int .i64 tm, .int .i64 vt, .slice va n vc] w' := h.2.2.1.grown hg (fun e => (h.2.2.2.2.2.1 _ e).1 rfl)
 have hr : BF r rv w' := h.2.2.2.1.grown hg (fun e => (h.2.2.2.2.2.1 _ e).2 rfl)
 have h7 : g7 ≠ P ∧ g7 ≠ r := by
  rcases hat with e | e
  ·exact h.2.2.2.2.2.1 _ e
  ·have := h.2.2.1.lt; have := h.2.2.2.1.lt; omega
 have hA : SrcAt w' g a cap lc p s := (hg.block g (ArrAt.lt h.1) (fun e => by have := (h.blk g e.symm).1; omega)).trans h.1
 have hG : w0.grownBy w' (some g) := by
  refine ⟨hg.os.trans h.2.1.os, hg.tape.trans h.2.1.tape, hg.output.trans h.2.1.output, Nat.le_trans h.2.1.size hg.size, fun k hk hne => ?_⟩
  exact (hg.block k (Nat.lt_of_lt_of_le hk h.2.1.size) (fun e => by have := (h.blk k e.symm).1; omega)).trans (h.2.1.block k hk hne)
 refine ⟨hP, ArrAt.other hA hgP 2 _, grown_set hG h0 2 _, hP.set 2 (by simp) _, hr.far _ _ (fun e => hPr e), ?_, fun j hj => by obtain rfl := Option.some.inj hj; exact h7, by rw [List.length_append, h.2.2.2.2.2.2]; rfl⟩
 rw [cE_app]
 exact own_keepG ho (fun j hj => by obtain rfl := Option.some.inj hj; exact Below.heap_setCell _ _ _ _ h7.1)
end Go.Proofs.YtkdplhhkkpkmoaaDoor

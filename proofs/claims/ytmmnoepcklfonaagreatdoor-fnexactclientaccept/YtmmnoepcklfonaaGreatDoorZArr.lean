/- Arrays in memory: a block whose cells are known. The message's schedule, as plain mathematics. -/
import Derived.Test.YtmmnoepcklfonaaGreatDoorZG1
import Derived.Deep.MidRow
import Derived.WalkSmall
namespace Go.Proofs.YtmmnoepcklfonaaGreatDoor
open Go.ChangeShapes Go.WideShapes Go.ChangeAt Go.RowKit

def U32 (l : List (BitVec 32)) : List Value := l.map fun v => Value.int .u32 (wI v)
theorem U32_len (l : List (BitVec 32)) : (U32 l).length = l.length := by simp [U32]
theorem U32_at (l : List (BitVec 32)) (k : Nat) (h : k < l.length) : (U32 l)[k]? = some (.int .u32 (wI l[k])) := by simp [U32, List.getElem?_eq_getElem h]
theorem U32_app (l m : List (BitVec 32)) : U32 (l ++ m) = U32 l ++ U32 m := by simp [U32]
theorem U32_one (l : List (BitVec 32)) : ∀ u ∈ U32 l, u.oneCell' = true := by
  intro u hu; simp [U32] at hu; obtain ⟨c, _, rfl⟩ := hu; rfl

theorem arr_second (w : World) (o : Obj) (l : List Value) (t : TypeId) : ArrAt ((w.alloc o).alloc (.cells l.toArray t)) (w.heap.size + 1) t l := by
  have h := arr_new (w.alloc o) l t
  rwa [show (w.alloc o).heap.size = w.heap.size + 1 from by simp] at h
theorem z64 : (#[Value.int IntKind.u32 0, Value.int IntKind.u32 0, Value.int IntKind.u32 0, Value.int IntKind.u32 0, Value.int IntKind.u32 0, Value.int IntKind.u32 0, Value.int IntKind.u32 0, Value.int IntKind.u32 0, Value.int IntKind.u32 0, Value.int IntKind.u32 0, Value.int IntKind.u32 0, Value.int IntKind.u32 0, Value.int IntKind.u32 0, Value.int IntKind.u32 0, Value.int IntKind.u32 0, Value.int IntKind.u32 0, Value.int IntKind.u32 0, Value.int IntKind.u32 0, Value.int IntKind.u32 0, Value.int IntKind.u32 0, Value.int IntKind.u32 0, Value.int IntKind.u32 0, Value.int IntKind.u32 0, Value.int IntKind.u32 0, Value.int IntKind.u32 0, Value.int IntKind.u32 0, Value.int IntKind.u32 0, Value.int IntKind.u32 0, Value.int IntKind.u32 0, Value.int IntKind.u32 0, Value.int IntKind.u32 0, Value.int IntKind.u32 0, Value.int IntKind.u32 0, Value.int IntKind.u32 0, Value.int IntKind.u32 0, Value.int IntKind.u32 0, Value.int IntKind.u32 0, Value.int IntKind.u32 0, Value.int IntKind.u32 0, Value.int IntKind.u32 0, Value.int IntKind.u32 0, Value.int IntKind.u32 0, Value.int IntKind.u32 0, Value.int IntKind.u32 0, Value.int IntKind.u32 0, Value.int IntKind.u32 0, Value.int IntKind.u32 0, Value.int IntKind.u32 0, Value.int IntKind.u32 0, Value.int IntKind.u32 0, Value.int IntKind.u32 0, Value.int IntKind.u32 0, Value.int IntKind.u32 0, Value.int IntKind.u32 0, Value.int IntKind.u32 0, Value.int IntKind.u32 0, Value.int IntKind.u32 0, Value.int IntKind.u32 0, Value.int IntKind.u32 0, Value.int IntKind.u32 0, Value.int IntKind.u32 0, Value.int IntKind.u32 0, Value.int IntKind.u32 0, Value.int IntKind.u32 0] : Array Value) = (U32 (List.replicate 64 0)).toArray := by kernel_rfl

def ss0 (x : BitVec 32) : BitVec 32 := rot x 7 ^^^ rot x 18 ^^^ x >>> 3
def ss1 (x : BitVec 32) : BitVec 32 := rot x 17 ^^^ rot x 19 ^^^ x >>> 10
def b32 (c : UInt8) : BitVec 32 := BitVec.ofNat 32 c.toNat
def bb (l : List UInt8) (i : Nat) : BitVec 32 := b32 (l.getD i 0)
def load4 (l : List UInt8) (i : Nat) : BitVec 32 := bb l (4 * i) <<< 24 ||| bb l (4 * i + 1) <<< 16 ||| bb l (4 * i + 2) <<< 8 ||| bb l (4 * i + 3)
def gt (l : List (BitVec 32)) (i : Nat) : BitVec 32 := l.getD i 0
def ext (l : List (BitVec 32)) (i : Nat) : BitVec 32 := gt l (i - 16) + ss0 (gt l (i - 15)) + gt l (i - 7) + ss1 (gt l (i - 2))
def sched (l : List UInt8) : Nat → List (BitVec 32)
  | 0 => (List.range 16).map (load4 l)
  | n + 1 => sched l n ++ [ext (sched l n) (16 + n)]
theorem sched_len (l : List UInt8) (n : Nat) : (sched l n).length = 16 + n := by
  induction n with
  | zero => simp [sched]
  | succ n ih => simp [sched, ih]; omega
theorem pad_at (l : List (BitVec 32)) (m i : Nat) (h : i < l.length) : (U32 (l ++ List.replicate m 0))[i]? = some (.int .u32 (wI (gt l i))) := by
  rw [U32_app, List.getElem?_append_left (by rw [U32_len]; exact h), U32_at l i h]
  unfold gt; simp [h]
theorem pad_end (l : List (BitVec 32)) (m i : Nat) (h : i = l.length) : (U32 (l ++ List.replicate (m + 1) 0))[i]? = some (.int .u32 (wI 0)) := by
  rw [U32_app, List.getElem?_append_right (by rw [U32_len]; omega), U32_len, h, Nat.sub_self]; rfl
theorem pad_set (l : List (BitVec 32)) (m i : Nat) (h : i = l.length) (v : BitVec 32) : (U32 (l ++ List.replicate (m + 1) 0)).set i (.int .u32 (wI v)) = U32 ((l ++ [v]) ++ List.replicate m 0) := by
  rw [U32_app, List.set_append_right _ _ (by rw [U32_len]; omega), U32_len, h, Nat.sub_self, List.append_assoc, U32_app]; rfl
theorem below_setCells {B b : Nat} {a : World} (hb : B ≤ b) : ∀ (vs : List Value) (o : Nat) (w : World), Below B a w → Below B a (w.setCells b o vs)
  | [], _, _, h => h
  | v :: vs, o, _, h => below_setCells hb vs (o + 1) _ (h.setCell (p := ⟨b, o, none⟩) hb v)
theorem results_cell1 {P : Program} {fn : Func} {p : Tmp} {ty : TypeId} {tmps : Array Value} {w : World} {a : Addr} {v : Value} (h : fn.results = #[.cell p ty]) (ht : tmps.getD p undef = .pointer (some a))
    (hl : (loadVar ty a).run P w = .ok v w) : (results fn tmps).run P w = .ok v w := by
  have ht' : tmps[p]?.getD undef = .pointer (some a) := by simpa using ht
  simp [results, h, ht', asAddr, hl]
theorem setCells_arr {g : Nat} {t : TypeId} : ∀ (vs : List Value) (o : Nat) (w : World) (l : List Value), ArrAt w g t l → o + vs.length ≤ l.length → ArrAt (w.setCells g o vs) g t (l.take o ++ vs ++ l.drop (o + vs.length))
  | [], o, w, l, h, _ => by simpa [World.setCells] using h
  | v :: vs, o, w, l, h, hl => by
    have hlt : o < l.length := by simp at hl; omega
    have ih := setCells_arr vs (o + 1) _ _ (h.set o v) (by simp at hl ⊢; omega)
    have e1 : (l.set o v).take (o + 1) = l.take o ++ [v] := by
      rw [List.take_succ_eq_append_getElem (by simpa using hlt), List.getElem_set_self, List.take_set_of_le (Nat.le_refl _)]
    have e2 : (l.set o v).drop (o + 1 + vs.length) = l.drop (o + (v :: vs).length) := by
      rw [List.drop_set_of_lt (by omega)]; congr 1; simp; omega
    rw [e1, e2] at ih
    show ArrAt ((w.setCell ⟨g, o, none⟩ v).setCells g (o + 1) vs) g t _
    simpa using ih
theorem ArrAt.setAll {w : World} {g : Nat} {t : TypeId} {l : List Value} (h : ArrAt w g t l) (vs : List Value) (hl : vs.length = l.length) : ArrAt (w.setCells g 0 vs) g t vs := by
  have := setCells_arr vs 0 w l h (by omega)
  rw [Nat.zero_add, hl, List.drop_length] at this
  simpa using this
theorem ArrAt.otherCells {g g' : Nat} {t : TypeId} {l : List Value} (hne : g ≠ g') : ∀ (vs : List Value) (o : Nat) (w : World), ArrAt w g t l → ArrAt (w.setCells g' o vs) g t l
  | [], _, _, h => h
  | v :: vs, o, _, h => ArrAt.otherCells hne vs (o + 1) _ (h.other hne o v)
theorem size_setCells (b : Nat) : ∀ (vs : List Value) (o : Nat) (w : World), (w.setCells b o vs).heap.size = w.heap.size
  | [], _, _ => rfl
  | v :: vs, o, w => (size_setCells b vs (o + 1) _).trans (by simp)
theorem U32_rep (n : Nat) : (U32 (List.replicate n 0)).length = n := by rw [U32_len, List.length_replicate]
theorem z8 : (#[Value.int IntKind.u32 0, Value.int IntKind.u32 0, Value.int IntKind.u32 0, Value.int IntKind.u32 0, Value.int IntKind.u32 0, Value.int IntKind.u32 0, Value.int IntKind.u32 0, Value.int IntKind.u32 0] : Array Value) = (U32 (List.replicate 8 0)).toArray := by kernel_rfl
theorem arr64 (w : World) (t : TypeId) : ArrAt (w.alloc (.cells #[Value.int IntKind.u32 0, Value.int IntKind.u32 0, Value.int IntKind.u32 0, Value.int IntKind.u32 0, Value.int IntKind.u32 0, Value.int IntKind.u32 0, Value.int IntKind.u32 0, Value.int IntKind.u32 0, Value.int IntKind.u32 0, Value.int IntKind.u32 0, Value.int IntKind.u32 0, Value.int IntKind.u32 0, Value.int IntKind.u32 0, Value.int IntKind.u32 0, Value.int IntKind.u32 0, Value.int IntKind.u32 0, Value.int IntKind.u32 0, Value.int IntKind.u32 0, Value.int IntKind.u32 0, Value.int IntKind.u32 0, Value.int IntKind.u32 0, Value.int IntKind.u32 0, Value.int IntKind.u32 0, Value.int IntKind.u32 0, Value.int IntKind.u32 0, Value.int IntKind.u32 0, Value.int IntKind.u32 0, Value.int IntKind.u32 0, Value.int IntKind.u32 0, Value.int IntKind.u32 0, Value.int IntKind.u32 0, Value.int IntKind.u32 0, Value.int IntKind.u32 0, Value.int IntKind.u32 0, Value.int IntKind.u32 0, Value.int IntKind.u32 0, Value.int IntKind.u32 0, Value.int IntKind.u32 0, Value.int IntKind.u32 0, Value.int IntKind.u32 0, Value.int IntKind.u32 0, Value.int IntKind.u32 0, Value.int IntKind.u32 0, Value.int IntKind.u32 0, Value.int IntKind.u32 0, Value.int IntKind.u32 0, Value.int IntKind.u32 0, Value.int IntKind.u32 0, Value.int IntKind.u32 0, Value.int IntKind.u32 0, Value.int IntKind.u32 0, Value.int IntKind.u32 0, Value.int IntKind.u32 0, Value.int IntKind.u32 0, Value.int IntKind.u32 0, Value.int IntKind.u32 0, Value.int IntKind.u32 0, Value.int IntKind.u32 0, Value.int IntKind.u32 0, Value.int IntKind.u32 0, Value.int IntKind.u32 0, Value.int IntKind.u32 0, Value.int IntKind.u32 0, Value.int IntKind.u32 0] t)) w.heap.size t (U32 (List.replicate 64 0)) := by
  rw [z64]; exact arr_new w _ t
theorem arr8 (w : World) (t : TypeId) : ArrAt (w.alloc (.cells #[Value.int IntKind.u32 0, Value.int IntKind.u32 0, Value.int IntKind.u32 0, Value.int IntKind.u32 0, Value.int IntKind.u32 0, Value.int IntKind.u32 0, Value.int IntKind.u32 0, Value.int IntKind.u32 0] t)) w.heap.size t (U32 (List.replicate 8 0)) := by
  rw [z8]; exact arr_new w _ t
theorem there64 (w : World) (t : TypeId) (n : Nat) (hn : n = 64) : (w.alloc (.cells #[Value.int IntKind.u32 0, Value.int IntKind.u32 0, Value.int IntKind.u32 0, Value.int IntKind.u32 0, Value.int IntKind.u32 0, Value.int IntKind.u32 0, Value.int IntKind.u32 0, Value.int IntKind.u32 0, Value.int IntKind.u32 0, Value.int IntKind.u32 0, Value.int IntKind.u32 0, Value.int IntKind.u32 0, Value.int IntKind.u32 0, Value.int IntKind.u32 0, Value.int IntKind.u32 0, Value.int IntKind.u32 0, Value.int IntKind.u32 0, Value.int IntKind.u32 0, Value.int IntKind.u32 0, Value.int IntKind.u32 0, Value.int IntKind.u32 0, Value.int IntKind.u32 0, Value.int IntKind.u32 0, Value.int IntKind.u32 0, Value.int IntKind.u32 0, Value.int IntKind.u32 0, Value.int IntKind.u32 0, Value.int IntKind.u32 0, Value.int IntKind.u32 0, Value.int IntKind.u32 0, Value.int IntKind.u32 0, Value.int IntKind.u32 0, Value.int IntKind.u32 0, Value.int IntKind.u32 0, Value.int IntKind.u32 0, Value.int IntKind.u32 0, Value.int IntKind.u32 0, Value.int IntKind.u32 0, Value.int IntKind.u32 0, Value.int IntKind.u32 0, Value.int IntKind.u32 0, Value.int IntKind.u32 0, Value.int IntKind.u32 0, Value.int IntKind.u32 0, Value.int IntKind.u32 0, Value.int IntKind.u32 0, Value.int IntKind.u32 0, Value.int IntKind.u32 0, Value.int IntKind.u32 0, Value.int IntKind.u32 0, Value.int IntKind.u32 0, Value.int IntKind.u32 0, Value.int IntKind.u32 0, Value.int IntKind.u32 0, Value.int IntKind.u32 0, Value.int IntKind.u32 0, Value.int IntKind.u32 0, Value.int IntKind.u32 0, Value.int IntKind.u32 0, Value.int IntKind.u32 0, Value.int IntKind.u32 0, Value.int IntKind.u32 0, Value.int IntKind.u32 0, Value.int IntKind.u32 0] t)).there w.heap.size 0 n := by
  have := (arr64 w t).there
  rw [U32_rep] at this
  rw [hn]; exact this
theorem there8 (w : World) (t : TypeId) (n : Nat) (hn : n = 8) : (w.alloc (.cells #[Value.int IntKind.u32 0, Value.int IntKind.u32 0, Value.int IntKind.u32 0, Value.int IntKind.u32 0, Value.int IntKind.u32 0, Value.int IntKind.u32 0, Value.int IntKind.u32 0, Value.int IntKind.u32 0] t)).there w.heap.size 0 n := by
  have := (arr8 w t).there
  rw [U32_rep] at this
  rw [hn]; exact this
end Go.Proofs.YtmmnoepcklfonaaGreatDoor

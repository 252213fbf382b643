/- Texts put together: TornM ArrM. -/
import Derived.Test.YtamjljhbnhdgdaaDoorZG2
import Derived.Test.YtamjljhbnhdgdaaDoorZG15
import Derived.Test.YtamjljhbnhdgdaaDoorZG16
import Derived.Test.YtamjljhbnhdgdaaDoorZG0
import Derived.Deep.MidRow
import Derived.WalkSmall
import Derived.Deep.QuietTactic
import Derived.BigQuiet
/- What a crash leaves of written records: a beginning of them. Plain mathematics. -/
namespace Go.Proofs.YtamjljhbnhdgdaaDoor
open Go.ChangeShapes Go.WideShapes Go.ChangeAt Go.RowKit
set_option linter.unusedVariables false
theorem wrL_app (a b : List ByteArray) : wrL (a ++ b) = wrL a ++ wrL b := by simp [wrL]
theorem wrL_cons (t : ByteArray) (l : List ByteArray) : wrL (t :: l) = frmB t.data.toList ++ wrL l := by simp [wrL]
def okR (l : List ByteArray) : Prop := ∀ t ∈ l, 1 ≤ t.size ∧ t.size ≤ 65536
theorem frs_wr : ∀ (l : List ByteArray) (r : List UInt8) (f : Nat), okR l → (wrL l ++ r).length ≤ f → frs f (wrL l ++ r) = (l ++ (frs f r).1, (wrL l).length + (frs f r).2.1, (frs f r).2.2)
 | [], r, f, _, _ => by simp [wrL]
 | t :: l, r, f, h, hf => by
  have ht := h t List.mem_cons_self
  have e : wrL (t :: l) ++ r = frmB t.data.toList ++ (wrL l ++ r) := by rw [wrL_cons, List.append_assoc]
  obtain ⟨h1, h2, h3, h4⟩ := frm_read t.data.toList (wrL l ++ r) (by rw [sizeT]; exact ht.1) (by rw [sizeT]; exact ht.2)
  have hlen : (wrL (t :: l)).length = 7 + t.size + (wrL l).length := by rw [wrL_cons, List.length_append, frmB_len, sizeT]
  rw [e] at hf ⊢
  have hl2 : (frmB t.data.toList ++ (wrL l ++ r)).length = 7 + t.size + (wrL l ++ r).length := by rw [List.length_append, frmB_len, sizeT]
  obtain ⟨f', rfl⟩ : ∃ f', f = f' + 1 := ⟨f - 1, by omega⟩
  have hne : frmB t.data.toList ++ (wrL l ++ r) ≠ [] := fun e0 => by rw [e0] at hl2; simp at hl2; omega
  have ih := frs_wr l r f' (fun x hx => h x (List.mem_cons_of_mem _ hx)) (by omega)
  have hlr : (wrL l ++ r).length = (wrL l).length + r.length := List.length_append
  have hfu : frs f' r = frs (f' + 1) r := frs_fuel f' (f' + 1) r (by omega) (by omega)
  rw [frs_step f' hne h1, h2, h3, h4, ih, hfu, hlen, sizeT]
  have et : (⟨t.data.toList.toArray⟩ : ByteArray) = t := by simp
  rw [et]
  simp only [List.cons_append, Prod.mk.injEq, true_and, and_true]
  omega
theorem frs_cut (d : List UInt8) (k f : Nat) (h1 : 1 ≤ d.length) (h2 : d.length ≤ 65536) (hk : 0 < k) (hk2 : k < 7 + d.length) (hf : k ≤ f) : frs f ((frmB d).take k) = ([], 0, 14) := by
 have hl : ((frmB d).take k).length = k := by rw [List.length_take, frmB_len]; omega
 have hne : (frmB d).take k ≠ [] := fun e => by rw [e] at hl; simp at hl; omega
 obtain ⟨f', rfl⟩ : ∃ f', f = f' + 1 := ⟨f - 1, by omega⟩
 have hc : frC ((frmB d).take k) = 14 := by
  unfold frC
  rw [hl]
  by_cases h7 : k < 7
  ·rw [if_pos h7]
  ·rw [if_neg h7]
   have hN : frN ((frmB d).take k) = d.length := by
    have h := (frm_read d [] h1 h2).2.1
    rw [List.append_nil] at h
    rw [← h]
    unfold frN
    rw [List.take_take, Nat.min_eq_left (by omega)]
   rw [hN, if_neg (by omega), if_pos (by omega)]
 rw [frs_bad f' hne (by rw [hc]; decide), hc]
theorem wr_take : ∀ (l : List ByteArray) (j : Nat), okR l → j ≤ (wrL l).length → ∃ i r, i ≤ l.length ∧ (wrL l).take j = wrL (l.take i) ++ r ∧ ∀ f, r.length ≤ f → (frs f r).1 = [] ∧ (frs f r).2.1 = 0 ∧ ((frs f r).2.2 = 0 ∨ (frs f r).2.2 = 14)
 | [], j, _, h => ⟨0, [], Nat.le_refl _, by simp [wrL], fun f _ => by rw [frs_nil]; exact ⟨rfl, rfl, .inl rfl⟩⟩
 | t :: l, j, ho, h => by
  have ht := ho t List.mem_cons_self
  rw [wrL_cons] at h ⊢
  rw [List.length_append, frmB_len, sizeT] at h
  by_cases hj : j < 7 + t.size
  ·by_cases h0 : j = 0
   ·subst h0
    exact ⟨0, [], by simp, by simp [wrL], fun f _ => by rw [frs_nil]; exact ⟨rfl, rfl, .inl rfl⟩⟩
   ·refine ⟨0, (frmB t.data.toList).take j, by simp, ?_, fun f hf => ?_⟩
    ·rw [List.take_append_of_le_length (by rw [frmB_len, sizeT]; omega)]; simp [wrL]
    ·rw [List.length_take, frmB_len, sizeT, Nat.min_eq_left (by omega)] at hf
     rw [frs_cut t.data.toList j f (by rw [sizeT]; exact ht.1) (by rw [sizeT]; exact ht.2) (by omega) (by rw [sizeT]; exact hj) hf]
     exact ⟨rfl, rfl, .inr rfl⟩
  ·obtain ⟨i, r, hi, he, hr⟩ := wr_take l (j - (7 + t.size)) (fun x hx => ho x (List.mem_cons_of_mem _ hx)) (by omega)
   refine ⟨i + 1, r, by simpa using hi, ?_, hr⟩
   rw [List.take_append, List.take_of_length_le (by rw [frmB_len, sizeT]; omega), frmB_len, sizeT, he, List.take_succ_cons, wrL_cons, List.append_assoc]
theorem apAll_bind : ∀ (a b : List ByteArray) (s : Int × Int × List Ent), apAll s (a ++ b) = (apAll s a).bind fun q => apAll q b
 | [], b, s => rfl
 | d :: a, b, s => by
  cases h : apF s.1 s.2.1 s.2.2 d with
  | none => simp only [List.cons_append, apAll, h]; rfl
  | some s2 => simp only [List.cons_append, apAll, h]; exact apAll_bind a b s2
theorem apAll_take {s F : Int × Int × List Ent} {L : List ByteArray} (h : apAll s L = some F) (k : Nat) : ∃ q, apAll s (L.take k) = some q ∧ apAll q (L.drop k) = some F := by
 rw [← List.take_append_drop k L, apAll_bind] at h
 cases e : apAll s (L.take k) with
 | none => rw [e] at h; simp at h
 | some q => rw [e] at h; exact ⟨q, rfl, by simpa using h⟩
/-- What a crash leaves: the first i of the later records, and what is read of them. -/
theorem torn {a b : List ByteArray} (ha : okR a) (hb : okR b) {j : Nat} (h1 : (wrL a).length ≤ j) (h2 : j ≤ (wrL (a ++ b)).length) : ∃ i, i ≤ b.length ∧ ∀ d : ByteArray, d.data.toList = (wrL (a ++ b)).take j → (frs d.size d.data.toList).1 = a ++ b.take i ∧ (frs d.size d.data.toList).2.1 = (wrL (a ++ b.take i)).length ∧ ¬ (frs d.size d.data.toList).2.2 = 8 ∧ (wrL (a ++ b.take i)).length ≤ d.size ∧ d.data.toList.take (wrL (a ++ b.take i)).length = wrL (a ++ b.take i) := by
 rw [wrL_app, List.length_append] at h2
 obtain ⟨i, r, hi, he, hr⟩ := wr_take b (j - (wrL a).length) hb (by omega)
 refine ⟨i, hi, fun d hd => ?_⟩
 have e : d.data.toList = wrL (a ++ b.take i) ++ r := by
  rw [hd, wrL_app, wrL_app, List.append_assoc, ← he, List.take_append, List.take_of_length_le h1]
 have hs : d.size = (wrL (a ++ b.take i) ++ r).length := by rw [← e, sizeT]
 have hok : okR (a ++ b.take i) := fun t ht => (List.mem_append.1 ht).elim (ha t) (fun h => hb t (List.mem_of_mem_take h))
 have hw := frs_wr (a ++ b.take i) r d.size hok (by omega)
 have hrr := hr d.size (by rw [hs, List.length_append]; omega)
 rw [← e] at hw
 rw [hw]
 refine ⟨by rw [hrr.1, List.append_nil], by rw [hrr.2.1]; rfl, ?_, by rw [hs, List.length_append]; omega, by rw [e]; simp⟩
 rcases hrr.2.2 with h | h <;> (show ¬ _ = _; rw [h]; decide)
theorem wrL_le {l : List ByteArray} {n : Nat} (h : rokB l = true) (hn : l.length * 1007 ≤ n) : (wrL l).length ≤ n := by
 have key : ∀ l : List ByteArray, rokB l = true → (wrL l).length ≤ l.length * 1007 := by
  intro l
  induction l with
  | nil => intro _; simp [wrL]
  | cons t l ih =>
   intro h
   unfold rokB at h
   rw [List.all_cons, Bool.and_eq_true] at h
   have h1 := in_bounds h.1
   have h2 := ih h.2
   rw [wrL_cons, List.length_append, frmB_len, sizeT, List.length_cons]
   omega
 exact Nat.le_trans (key l h) hn
theorem stoB_mk {d : ByteArray} {s : Int} (h : d.size ≤ 60000) (h0 : 0 ≤ s) (h1 : s ≤ (d.size : Int)) : stoB d s = true := by
 unfold stoB inB; simp [h, h0, h1]
theorem stoB_full {d : ByteArray} (h : d.size ≤ 60000) : stoB d (d.size : Int) = true := stoB_mk h (by omega) (Int.le_refl _)
theorem recT_sz (fs : List ByteArray) : (recT fs).size = 1 + (fieldsL fs).length := by
 have h : (recT fs).size = (be fs.length 1 ++ fieldsL fs).length := List.size_toArray
 rw [h, List.length_append, be_len]
theorem recs_ok {tm vt tm2 vt2 : Int} {l m : List Ent} (hm : stateB tm2 vt2 m = true) : okR (recsL tm vt l tm2 vt2 m) ∧ rokB (recsL tm vt l tm2 vt2 m) = true := by
 have key : ∀ t ∈ recsL tm vt l tm2 vt2 m, 1 ≤ t.size ∧ t.size ≤ 1000 := by
  have two : ∀ (f0 : ByteArray) (x : ByteArray) (r : List ByteArray), f0.size ≤ 1 → x.size ≤ 6 → (∀ y ∈ r, y.size ≤ 400) → r.length ≤ 1 → 1 ≤ (recT (f0 :: x :: r)).size ∧ (recT (f0 :: x :: r)).size ≤ 1000 := by
   intro f0 x r h1 h2 h3 h4
   have hsz := recT_sz (f0 :: x :: r)
   have hle := fieldsL_le (f0 :: x :: r) 400 (by intro y hy; rcases List.mem_cons.1 hy with rfl | hy; omega; rcases List.mem_cons.1 hy with rfl | hy; omega; exact h3 y hy)
   have fb : ∀ x : ByteArray, (fieldB x).length = 2 + x.size := fun x => by unfold fieldB; rw [List.length_append, be_len, sizeT]
   have fc : ∀ (x : ByteArray) (r : List ByteArray), fieldsL (x :: r) = fieldB x ++ fieldsL r := fun x r => by simp [fieldsL]
   have hfe : (fieldsL (f0 :: x :: r)).length = (2 + f0.size) + ((2 + x.size) + (fieldsL r).length) := by rw [fc, fc, List.length_append, List.length_append, fb, fb]
   have hr := fieldsL_le r 400 h3
   have : (2 + 400) * r.length ≤ 402 := by have := Nat.mul_le_mul_left 402 h4; omega
   omega
  intro t ht
  obtain ⟨b0, b1, b2, b3⟩ := state_parts hm
  unfold recsL at ht
  rcases List.mem_append.1 ht with ht | ht
  ·rcases List.mem_append.1 ht with ht | ht
   ·unfold tPart at ht
    split at ht
    ·simp at ht
    ·obtain rfl := List.mem_singleton.1 ht
     exact two _ _ [] (by decide) (by rw [recN_size]; simp) (by simp) (by simp)
   ·unfold cPart at ht
    split at ht
    ·obtain rfl := List.mem_singleton.1 ht
     exact two _ _ [] (by decide) (by rw [recN_size]; simp) (by simp) (by simp)
    ·simp at ht
  ·obtain ⟨e, he, rfl⟩ := List.mem_map.1 ht
   obtain ⟨i, hi, rfl⟩ := List.getElem_of_mem (List.mem_of_mem_drop he)
   exact two _ _ [m[i].2] (by decide) (by rw [recN_size]; simp) (by intro y hy; obtain rfl := List.mem_singleton.1 hy; exact (log_ent (Int.le_refl 1) b3 i hi).2) (by simp)
 refine ⟨fun t ht => ⟨(key t ht).1, by have := (key t ht).2; omega⟩, ?_⟩
 unfold rokB
 rw [List.all_eq_true]
 intro t ht
 have := key t ht
 exact decide_eq_true (by omega)
end Go.Proofs.YtamjljhbnhdgdaaDoor

/- Arrays in memory: a block whose cells are known. -/
namespace Go.Proofs.YtamjljhbnhdgdaaDoor
open Go.ChangeShapes Go.WideShapes Go.ChangeAt Go.RowKit

/-- Block g holds just the cells l, and may be written. -/
def ArrAt (w : World) (g : Nat) (t : TypeId) (l : List Value) : Prop := w.heap[g]? = some (.cells l.toArray t (0, 0))
theorem ArrAt.cell {w : World} {g : Nat} {t : TypeId} {l : List Value} (h : ArrAt w g t l) (k : Nat) : w.cell? ⟨g, k, none⟩ = l[k]? := by
 rw [cell_of_row w g k l.toArray t (0, 0) h]; simp
theorem ArrAt.frozen {w : World} {g : Nat} {t : TypeId} {l : List Value} (h : ArrAt w g t l) (k : Nat) : w.frozen? ⟨g, k, none⟩ = false :=
 frozen_of_row w g k l.toArray t h
theorem ArrAt.set {w : World} {g : Nat} {t : TypeId} {l : List Value} (h : ArrAt w g t l) (k : Nat) (u : Value) : ArrAt (w.setCell ⟨g, k, none⟩ u) g t (l.set k u) := by
 have := heap_setCell_same w g k l.toArray t u h
 unfold ArrAt; rw [this]; simp
theorem ArrAt.other {w : World} {g g' : Nat} {t : TypeId} {l : List Value} (h : ArrAt w g t l) (hne : g ≠ g') (k : Nat) (u : Value) : ArrAt (w.setCell ⟨g', k, none⟩ u) g t l :=
 (heap_setCell_other w ⟨g', k, none⟩ g u hne).trans h
theorem ArrAt.drew {w : World} {g : Nat} {t : TypeId} {l : List Value} (h : ArrAt w g t l) : ArrAt w.drew g t l := h
theorem ArrAt.drewN {w : World} {g : Nat} {t : TypeId} {l : List Value} (h : ArrAt w g t l) (n : Nat) : ArrAt (w.drewN n) g t l := h
theorem ArrAt.lt {w : World} {g : Nat} {t : TypeId} {l : List Value} (h : ArrAt w g t l) : g < w.heap.size := by
 rcases Nat.lt_or_ge g w.heap.size with hlt | hge
 ·exact hlt
 ·unfold ArrAt at h; rw [Array.getElem?_eq_none hge] at h; cases h
theorem ArrAt.alloc {w : World} {g : Nat} {t : TypeId} {l : List Value} (h : ArrAt w g t l) (o : Obj) : ArrAt (w.alloc o) g t l :=
 (Below.heap_alloc w o g h.lt).trans h
theorem ArrAt.below {w w' : World} {B g : Nat} {t : TypeId} {l : List Value} (h : ArrAt w g t l) (hb : Below B w w') (hg : g < B) : ArrAt w' g t l :=
 (hb.block g hg).trans h
theorem arr_new (w : World) (l : List Value) (t : TypeId) : ArrAt (w.alloc (.cells l.toArray t)) w.heap.size t l := heap_alloc_new w _
theorem ArrAt.range {w : World} {g : Nat} {t : TypeId} {l : List Value} (h : ArrAt w g t l) : w.rangeAt g 0 l := fun j v hv => by
 rw [Nat.zero_add, h.cell j, hv]
theorem ArrAt.there {w : World} {g : Nat} {t : TypeId} {l : List Value} (h : ArrAt w g t l) : w.there g 0 l.length := fun j hj => by
 rw [Nat.zero_add]
 exact ⟨by rw [h.cell j, List.getElem?_eq_getElem hj]; rfl, h.frozen j⟩

end Go.Proofs.YtamjljhbnhdgdaaDoor

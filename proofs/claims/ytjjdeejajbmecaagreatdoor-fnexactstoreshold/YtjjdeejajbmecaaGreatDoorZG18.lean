/- Texts put together: CmM AgM DatI AgI AgO AsP AsM AppendAny. -/
import Derived.Test.YtjjdeejajbmecaaGreatDoorZG1
import Derived.Test.YtjjdeejajbmecaaGreatDoorZG11
import Derived.Test.YtjjdeejajbmecaaGreatDoorZCluL
import Derived.Test.YtjjdeejajbmecaaGreatDoorZG0
import Derived.Test.YtjjdeejajbmecaaGreatDoorZG2
import Derived.Lib.SmallJoins
import Derived.Deep.QuietTactic
import Derived.Deep.Cut
import Derived.Deep.AppendSrc
/- The data of the entries that a node knows to be committed. Plain mathematics. -/
namespace Go.Proofs.YtjjdeejajbmecaaGreatDoor
open Go.ChangeShapes Go.WideShapes Go.ChangeAt Go.RowKit
set_option linter.unusedVariables false
def datS (l : List Ent) (k : Nat) : List ByteArray := (l.take k).map fun e => e.2
theorem datS_zero (l : List Ent) : datS l 0 = [] := by simp [datS]
theorem datS_len (l : List Ent) (k : Nat) (h : k ≤ l.length) : (datS l k).length = k := by simp [datS]; omega
theorem datS_snoc (l : List Ent) (k : Nat) (h : k < l.length) : datS l (k + 1) = datS l k ++ [l[k].2] := by
 unfold datS; rw [List.take_succ_eq_append_getElem h, List.map_append]; rfl
def CmIs (R : Bool) (l : List Ent) (cm : Int) (L : List ByteArray) (c : Int) : Prop := L = (if R then datS l cm.toNat else []) ∧ c = if R then 0 else 1
end Go.Proofs.YtjjdeejajbmecaaGreatDoor

/- Data that begin with others. Plain mathematics. -/
namespace Go.Proofs.YtjjdeejajbmecaaGreatDoor
open Go.ChangeShapes Go.WideShapes Go.ChangeAt Go.RowKit
set_option linter.unusedVariables false
theorem below_drewA {B : Nat} {a w : World} (h : Below B a w) (n : Nat) : Below B a (w.drewN n) := h.trans ⟨rfl, rfl, rfl, Nat.le_refl _, fun _ _ => rfl⟩
def begB (s D : List ByteArray) : Bool := decide (s.length ≤ D.length) && decide (s = D.take s.length)
def agB (p : Nf) (D : List ByteArray) : Bool := begB (datS p.l p.cm.toNat) D
def agreeB (N : List NdA) (D : List ByteArray) : Bool := N.all fun p => agB p.n D
/-- How many nodes do. -/
def cntB (f : Nf → Bool) (N : List NdA) : Nat := (N.filter fun p => f p.n).length
theorem cnt_snoc {f : Nf → Bool} {N : List NdA} {k : Nat} (h : k < N.length) : cntB f (N.take (k + 1)) = cntB f (N.take k) + (if f N[k].n then 1 else 0) := by
 unfold cntB
 rw [List.take_succ_eq_append_getElem h, List.filter_append, List.length_append]
 congr 1
 cases hf : f N[k].n <;> simp [hf]
theorem cnt_le {f : Nf → Bool} {N : List NdA} {k : Nat} : cntB f (N.take k) ≤ k := Nat.le_trans (List.length_filter_le _ _) (List.length_take_le _ _)
def holdsB (N : List NdA) (D : List ByteArray) : Bool := decide (N.length < 2 * cntB (fun q => begB D (datS q.l q.l.length)) N)
theorem cnt_map {f : Nf → Bool} {N N' : List NdA} (h : N.map (·.n) = N'.map (·.n)) : cntB f N = cntB f N' := by
 have e : ∀ X : List NdA, cntB f X = ((X.map (·.n)).filter f).length := fun X => by unfold cntB; rw [List.filter_map, List.length_map]; rfl
 rw [e, e, h]
theorem holds_same {c d : Clu} (h : c.same d) : holdsB c.nds c.done = holdsB d.nds d.done := by
 have l1 : c.nds.length = d.nds.length := by have e := congrArg List.length h.1; simpa using e
 unfold holdsB; rw [h.2.2.2, l1, cnt_map h.1]
theorem beg_long {s D : List ByteArray} (h : ¬ s.length ≤ D.length) : begB s D = false := by unfold begB; rw [decide_eq_false h]; rfl
theorem beg_eq {s D : List ByteArray} (h : s.length ≤ D.length) : begB s D = decide (s = D.take s.length) := by unfold begB; rw [decide_eq_true h]; rfl
theorem beg_true {s D : List ByteArray} (h : s.length ≤ D.length) (he : ∀ q (h1 : q < s.length) (h2 : q < D.length), s[q] = D[q]) : begB s D = true := by
 rw [beg_eq h]
 refine decide_eq_true (List.ext_getElem (by simp; omega) fun q h1 h2 => ?_)
 rw [List.getElem_take]
 exact he q h1 (by omega)
theorem beg_false {s D : List ByteArray} {q : Nat} {h1 : q < s.length} {h2 : q < D.length} (h : s[q] ≠ D[q]) : begB s D = false := by
 unfold begB
 rw [show decide (s = D.take s.length) = false from decide_eq_false fun e => h ?_, Bool.and_false]
 have e2 := congrArg (fun l => l[q]?) e
 simp only [List.getElem?_take, if_pos h1, List.getElem?_eq_getElem h1, List.getElem?_eq_getElem h2] at e2
 exact Option.some.inj e2
theorem datS_at {l : List Ent} {c q : Nat} (h1 : q < (datS l c).length) (h2 : q < l.length) : (datS l c)[q] = l[q].2 := by simp [datS]
/-- Rows that have room for what they hold. -/
def Clu.caps (dv : Value) (c : Clu) : Prop := (∀ p ∈ c.nds, p.n.l.length ≤ p.ec) ∧ ∀ a n k, dv = .slice a n k → n ≤ k
theorem own_caps {w : World} {lo : Nat} {t : TypeId} {z : Nat} {a : Option Addr} {n m cap : Nat} {xs : List Value} (h : w.ownsRow lo t z (.slice a n cap) m xs) : n ≤ cap := by
 rcases h.2 with ⟨h0, _⟩ | ⟨g, cap', cur, hv, hbg, hg, hnc, hcm, hcs, htake⟩
 ·injection h0 with _ h1 h2; omega
 ·injection hv with _ h1 h2; omega
theorem Clu.caps_of {w : World} {lo : Nat} {nv sv wv dv : Value} {c : Clu} (h : FOwn w lo (c.rows nv sv wv dv)) : c.caps dv := by
 refine ⟨fun p hp => ?_, fun a n k e => ?_⟩
 ·have := h.own ⟨52, 2, .slice p.ea p.n.l.length p.ec, p.n.l.length, cE p.n.l⟩ (by
   unfold Clu.rows
   refine List.mem_append_left _ (List.mem_append_left _ (List.mem_append_left _ (List.mem_append_right _ (List.mem_flatMap.2 ⟨p, hp, ?_⟩))))
   unfold nrows; exact List.mem_cons_self ..)
  exact own_caps this
 ·have := h.own ⟨9, 1, dv, c.done.length, cS c.done⟩ (by unfold Clu.rows; exact List.mem_append_right _ (List.mem_singleton.2 rfl))
  subst e
  exact own_caps this
theorem rowV_takeS {w : World} {a : Option Addr} {l : List ByteArray} (h : RowV w a (cS l)) (k : Nat) : RowV w a (cS (l.take k)) := by
 have e : cS (l.take k) = (cS l).take k := by unfold cS; rw [List.map_take]
 rw [e]
 rcases h with h | ⟨b, off, h1, h2, h3⟩
 ·exact .inl (by rw [h]; simp)
 ·refine .inr ⟨b, off, h1, h2, fun i v hv => h3 i v ?_⟩
  rw [List.getElem?_take] at hv
  split at hv
  ·exact hv
  ·cases hv
end Go.Proofs.YtjjdeejajbmecaaGreatDoor

/- The data of a row of entries: what the program answers. -/
namespace Go.Proofs.YtjjdeejajbmecaaGreatDoor
open Go.ChangeShapes Go.WideShapes Go.ChangeAt Go.RowKit
set_option linter.unusedVariables false
set_option maxHeartbeats 4000000 in
set_option maxRecDepth 100000 in
theorem idata (a : Option Addr) (cap n : Nat) (l : List (Int × ByteArray)) (HN : Hid (l.length = n)) (hn : n ≤ 1048576) (w : World) (hr : RowV w a (cE l)) :
  Calls Tryz.prog 23 #[.slice a n cap] w fun e w' => ∃ v, e = .returned v ∧ w'.ownsRow w.heap.size 9 1 v n (cS (datS l n)) ∧ Below w.heap.size w w' := by
 have HR := hide hr
 clear hr
 have B0 := hide (Below.refl w.heap.size w)
 go_enter Tryz.func23, Tryz.ntmps23
 go_wp2_with fail
 obtain ⟨i0, hi, hz0, hz1, hz2⟩ := info_parts Tryz.infL9
 go_loopw [3, 8] (fun l0 i wr => ∃ (k : Nat) (v : Value), k ≤ n ∧ i = .int .i64 k ∧ l0 = v ∧ Hid (wr.ownsRow w.heap.size 9 1 v k (cS (datS l k))) ∧ Hid (Below w.heap.size w wr)) (fun _ i _ => n - (intOf i).toNat)
 case atStart => exact ⟨0, _, by omega, rfl, rfl, (by show World.ownsRow _ _ _ _ _ _ _; rw [datS_zero]; exact World.ownsRow_nil _ _ _ _), B0⟩
 case round =>
  obtain ⟨k, v, hk, rfl, rfl, HO, B1⟩ := hrel
  by_cases hlt : k < n
  ·have hlk : k < l.length := by rw [unhide HN]; omega
   obtain ⟨b, off, rfl, hblt, hc⟩ := (unhide HR).at (by rw [cE_len]; omega)
   obtain ⟨x0, x1⟩ := row_ent hc k hlk
   obtain ⟨t, et⟩ : ∃ t, t = l[k].1 := ⟨_, rfl⟩
   obtain ⟨d, ed⟩ : ∃ d, d = l[k].2 := ⟨_, rfl⟩
   have HS : Hid (cS (datS l (k + 1)) = cS (datS l k) ++ [.string d]) := by show _ = _; rw [datS_snoc l k hlk, cS_app, ed]; rfl
   rw [← et] at x0
   rw [← ed] at x1
   have hx0 : wr.cell? ⟨b, off + k * 2, none⟩ = some (.int .i64 t) := ((unhide B1).cell (p := ⟨b, off + k * 2, none⟩) hblt).trans x0
   have hx1 : wr.cell? ⟨b, off + k * 2 + 1, none⟩ = some (.string d) := ((unhide B1).cell (p := ⟨b, off + k * 2 + 1, none⟩) hblt).trans x1
   have hlt' : (k : Int) < (n : Int) := by omega
   have hlt0 : (0 : Int) ≤ (k : Int) := by omega
   have hk6 : k ≤ 1048576 := by omega
   have hown := (unhide HO).alloc (.cells #[.int .i64 t, .string d] 52)
   have HB2 := hide ((unhide B1).alloc (unhide B1).size (.cells #[.int .i64 t, .string d] 52))
   have hbs := (unhide B1).size
   clear hc x0 x1 et ed hlk
   go_wp2_with (at_builtin; refine wpList_append_lies _ rfl (.tmp 12) (.tmp 15) 25 rfl w.heap.size 9 i0 (.string ⟨#[]⟩) 1 16 Tryz.underlying25 hi hz0 hz1 hz2 rfl (by decide) _ _ _ rfl (hown.alloc (.cells #[.string d] 9)) ⟨wr.heap.size + 1, 0, none⟩ 1 1 [.string d] rfl rfl (by have := news_new (wr.alloc (.cells #[.int .i64 t, .string d] 52)) [.string d] 9; rw [World.size_alloc] at this; exact this) (by intro u hu; simp at hu; subst hu; rfl) (by decide) (by unfold maxLen; omega) (by omega) (by simp; omega) _ rfl ?_; intro g7 c7 w7 hown7 hgrow7 hat7 hlt7; have HO7 := hide hown7; have HB7 := hide (((unhide HB2).alloc (unhide HB2).size (.cells #[.string d] 9)).grown hgrow7 (by simp; omega) (fun j hj => by have := (hown.lt j hj).1; omega)); clear hown7 hgrow7 hat7 hlt7)
   go_roundw
   case rel => exact ⟨k + 1, _, by omega, by go_num, rfl, by show World.ownsRow _ _ _ _ _ _ _; rw [unhide HS]; exact unhide HO7, HB7⟩
   case measure => simp [intOf]; omega
  ·obtain rfl : k = n := by omega
   obtain ⟨aF, cF, rfl, -⟩ := own_rowV (unhide HO)
   go_wp2_with fail
   go_ret
   exact ⟨_, rfl, unhide HO, unhide B1⟩
end Go.Proofs.YtjjdeejajbmecaaGreatDoor

/- slices.Equal of texts, impl.begins, countNodes over a closure. -/
namespace Go.Proofs.YtjjdeejajbmecaaGreatDoor
open Go.ChangeShapes Go.WideShapes Go.ChangeAt Go.RowKit
set_option linter.unusedVariables false
theorem list_ne {d e : ByteArray} (h : ¬ d = e) : ¬ d.toList = e.toList := fun x => h (by rw [ByteArray.toList_eq, ByteArray.toList_eq] at x; exact ByteArray.ext (Array.toList_inj.1 x))
set_option maxHeartbeats 4000000 in
set_option maxRecDepth 100000 in
theorem ieqls (a c : Option Addr) (cap cap2 n n2 : Nat) (l m : List ByteArray) (HN : Hid (l.length = n)) (HN2 : Hid (m.length = n2)) (hn : n ≤ 1048576) (R : Bool) (HR0 : Hid (R = decide (l = m))) (w : World) (hr : RowV w a (cS l)) (hr2 : RowV w c (cS m)) :
  Calls Tryz.prog 47 #[.slice a n cap, .slice c n2 cap2] w fun e w' => e = .returned (.bool R) ∧ Below w.heap.size w w' := by
 have HR := hide hr
 have HR2 := hide hr2
 clear hr hr2
 by_cases hnn : n = n2
 ·subst hnn
  have hne : ((n : Int) != (n : Int)) = false := by simp
  go_enter Tryz.func47, Tryz.ntmps47
  go_wp2_with fail
  go_loopw [13] (fun i wr => ∃ k : Nat, k ≤ n ∧ i = .int .i64 k ∧ Hid (∀ q (h : q < l.length) (h2 : q < m.length), q < k → l[q] = m[q]) ∧ Hid (Below w.heap.size w wr)) (fun i _ => n - (intOf i).toNat)
  case atStart => exact ⟨0, by omega, rfl, fun q _ _ h => absurd h (Nat.not_lt_zero _), Below.refl _ _⟩
  case round =>
   obtain ⟨k, hk, rfl, HF, HB⟩ := hrel
   by_cases hlt : k < n
   ·have hlk : k < l.length := by rw [unhide HN]; exact hlt
    have hmk : k < m.length := by rw [unhide HN2]; exact hlt
    obtain ⟨b, off, ha, hblt, hc⟩ := (unhide HR).at (by rw [cS_len]; omega)
    obtain ⟨b2, off2, ha2, hblt2, hc2⟩ := (unhide HR2).at (by rw [cS_len]; omega)
    subst ha ha2
    obtain ⟨d, ed⟩ : ∃ d, d = l[k] := ⟨_, rfl⟩
    obtain ⟨e, ee⟩ : ∃ e, e = m[k] := ⟨_, rfl⟩
    have x1 := hc k _ (cS_at l k hlk)
    have y1 := hc2 k _ (cS_at m k hmk)
    rw [← ed] at x1
    rw [← ee] at y1
    have hx1 : wr.cell? ⟨b, off + k, none⟩ = some (.string d) := ((unhide HB).cell (p := ⟨b, off + k, none⟩) hblt).trans x1
    have hy1 : wr.cell? ⟨b2, off2 + k, none⟩ = some (.string e) := ((unhide HB).cell (p := ⟨b2, off2 + k, none⟩) hblt2).trans y1
    have i1 : (k : Int) < (n : Int) := by omega
    have i0 : (0 : Int) ≤ (k : Int) := by omega
    by_cases heq : d = e
    ·have HF2 : Hid (∀ q (h : q < l.length) (h2 : q < m.length), q < k + 1 → l[q] = m[q]) := fun q h h2 hq => by
      by_cases e1 : q = k
      ·subst e1; rw [← ed, ← ee]; exact heq
      ·exact unhide HF q h h2 (by omega)
     subst heq
     have nd : (d.toList != d.toList) = false := by simp
     clear hc hc2 x1 y1 ed ee HF HR HR2
     go_wp2_with fail
     go_quiet (fail)
     go_wp2_with fail
     go_roundw
     case rel => exact ⟨k + 1, by omega, by go_num, HF2, below_drewA (unhide HB) _⟩
     case measure => simp [intOf]; omega
    ·obtain rfl : R = false := (unhide HR0).trans (decide_eq_false fun x => heq (by rw [ed, ee]; subst x; rfl))
     have hne2 := list_ne heq
     have nd : (d.toList != e.toList) = true := by simpa using hne2
     have nb : (d.toList == e.toList) = false := by simpa using hne2
     clear hc hc2 x1 y1 ed ee HF HR HR2 HR0 heq
     go_wp2_with fail
     go_quiet (fail)
     go_wp2_with fail
     go_ret
     exact ⟨rfl, below_drewA (unhide HB) _⟩
   ·obtain rfl : R = true := (unhide HR0).trans (decide_eq_true (List.ext_getElem (by rw [unhide HN, unhide HN2]) fun q h h2 => unhide HF q h h2 (by have := unhide HN; omega)))
    go_wp2_with fail
    go_ret
    exact ⟨rfl, unhide HB⟩
 ·obtain rfl : R = false := (unhide HR0).trans (decide_eq_false fun e => hnn (by rw [← unhide HN, ← unhide HN2, e]))
  have hne : ((n : Int) != (n2 : Int)) = true := by simp; omega
  go_enter Tryz.func47, Tryz.ntmps47
  go_wp2_with fail
  go_ret
  exact ⟨rfl, Below.refl _ _⟩
set_option maxHeartbeats 4000000 in
set_option maxRecDepth 100000 in
theorem ibegs (a b : Option Addr) (cap kb n m : Nat) (s D : List ByteArray) (HN : Hid (s.length = n)) (HM : Hid (D.length = m)) (hn : n ≤ 1048576) (hm : m ≤ 1048576) (hcap : m ≤ kb) (R : Bool) (HR : Hid (R = begB s D)) (w : World) (hr : RowV w a (cS s)) (hr2 : RowV w b (cS D)) :
  Calls Tryz.prog 22 #[.slice a n cap, .slice b m kb] w fun e w' => e = .returned (.bool R) ∧ Below w.heap.size w w' := by
 have HR1 := hide hr
 have HR2 := hide (rowV_takeS hr2 n)
 clear hr hr2
 by_cases h : n ≤ m
 ·have g : (n : Int) ≤ (m : Int) := by omega
  have g2 : (n : Int) ≤ (kb : Int) := by omega
  have g0 : (0 : Int) ≤ (n : Int) := by omega
  obtain ⟨HR3⟩ : Nonempty (Hid (R = decide (s = D.take n))) := ⟨by show _ = _; rw [unhide HR, beg_eq (by rw [unhide HN, unhide HM]; exact h), unhide HN]⟩
  have HL : Hid ((D.take n).length = n) := by show _ = _; rw [List.length_take, unhide HM]; omega
  go_enter Tryz.func22, Tryz.ntmps22
  go_wp2_with fail
  refine (ieqls a b cap _ n n s (D.take n) HN HL hn R HR3 _ (unhide HR1) (unhide HR2)).mono ?_
  rintro e w1 ⟨rfl, hb⟩
  go_wp2_with fail
  go_ret
  exact ⟨rfl, hb⟩
 ·have g : ¬ ((n : Int) ≤ (m : Int)) := by omega
  obtain rfl : R = false := by rw [unhide HR]; exact beg_long (by rw [unhide HN, unhide HM]; exact h)
  go_enter Tryz.func22, Tryz.ntmps22
  go_wp2_with fail
  go_ret
  exact ⟨rfl, Below.refl _ _⟩
end Go.Proofs.YtjjdeejajbmecaaGreatDoor

/- What holds of the nodes of a right cluster. Plain mathematics. -/
namespace Go.Proofs.YtjjdeejajbmecaaGreatDoor
open Go.ChangeShapes Go.WideShapes Go.ChangeAt Go.RowKit
set_option linter.unusedVariables false
theorem clu_ok {N : List NdA} {S : List StA} {W : List MgA} {D : List ByteArray} (h : cluB N S W D = true) : N.length ≤ 5 ∧ ∀ p ∈ N, 0 ≤ p.n.cm ∧ p.n.cm ≤ (p.n.l.length : Int) := by
 unfold cluB at h
 simp only [Bool.and_eq_true, decide_eq_true_eq] at h
 have h5 : 1 ≤ (N.length : Int) ∧ (N.length : Int) ≤ 5 := of_decide_eq_true h.1.1.1.1
 refine ⟨by omega, fun p hp => ?_⟩
 have hl : S.length = N.length := h.1.1.1.2
 have hn := h.1.1.2
 have go : ∀ (N : List NdA) (S : List StA) (i n : Nat), S.length = N.length → nodesB n i N S = true → ∀ p ∈ N, 0 ≤ p.n.cm ∧ p.n.cm ≤ (p.n.l.length : Int) := by
  intro N
  induction N with
  | nil => intro S i n _ _ p hp; cases hp
  | cons q N ih =>
   intro S i n hl hb p hp
   cases S with
   | nil => simp at hl
   | cons r S =>
    simp only [nodesB, Bool.and_eq_true] at hb
    rcases List.mem_cons.1 hp with rfl | hp
    ·have h1 := hb.1
     unfold oneB nodeB at h1
     simp only [Bool.and_eq_true] at h1
     exact of_decide_eq_true h1.1.2.1.1.1.1.2
    ·exact ih S (i + 1) n (by simpa using hl) hb.2 p hp
 exact go N S 0 N.length hl hn p hp
end Go.Proofs.YtjjdeejajbmecaaGreatDoor

/- errors.As hits at once at the target placed. -/
namespace Go.Proofs.YtjjdeejajbmecaaGreatDoor
open Go.RowKit Go.Extern.Stop Go.Stop Go.Extern
theorem plc_typeOfS (v : Value) (w : World) : (ReflectliteType.typeOf #[.iface 140 v]).run Tryz.prog w = .ok (.iface 157 (.agg #[.pointer (some ⟨10, 140, none⟩)])) w := by kernel_rfl
end Go.Proofs.YtjjdeejajbmecaaGreatDoor

/- errors.As at the target fault passes a placed error by and hits its cause. -/
namespace Go.Proofs.YtjjdeejajbmecaaGreatDoor
open Go.RowKit Go.Extern.Stop Go.Stop Go.Extern
theorem flt_assignNo (w : World) : (ReflectliteType.relation "AssignableTo" ReflectliteType.assignableTo #[.agg #[.pointer (some ⟨10, 140, none⟩)], .iface 157 (.agg #[.pointer (some ⟨10, 146, none⟩)])]).run Tryz.prog w = .ok (.bool false) w := by kernel_rfl
theorem plc_noAs (v : Value) (xT : TypeId) (w : World) : (Instr.typeAssert (.iface 140 v) xT 183 true).run Tryz.prog w = .ok (.tuple #[.nilIface, .bool false]) w := run_typeAssert_lacksB Tryz.underlying183 (by kernel_rfl) (by kernel_rfl) v xT w
theorem plc_hasUnwrap (v : Value) (xT : TypeId) (w : World) : (Instr.typeAssert (.iface 140 v) xT 162 true).run Tryz.prog w = .ok (.tuple #[.iface 140 v, .bool true]) w := run_typeAssert_hasB Tryz.underlying162 (by kernel_rfl) v xT w
theorem plc_mUnwrap (v : Value) (w : World) : (Go.method 321 140 v "Unwrap").run Tryz.prog w = .ok (141, v) w := by kernel_rfl
set_option maxHeartbeats 8000000 in
theorem flt_miss (tb : Nat) (p c : Int) (u : TypeId) (y o0 o1 : Value) (w : World) (hg : w.cell? ⟨8, 0, none⟩ = some (.iface 157 (.agg #[.pointer (some ⟨10, 126, none⟩)]))) (h0 : w.cell? ⟨tb, 0, none⟩ = some o0) (h1 : w.cell? ⟨tb, 1, none⟩ = some o1) (f0 : w.frozen? ⟨tb, 0, none⟩ = false) (f1 : w.frozen? ⟨tb, 1, none⟩ = false) :
  Calls Tryz.prog 104 #[.iface 140 (.agg #[.int .i64 p, .iface 146 (.agg #[.int .i64 c, .iface u y])]), .iface 148 (.pointer (some ⟨tb, 0, none⟩))] w fun ev w' => ev = .returned (.bool true) ∧ w' = ((((((((w.alloc (.cells #[.pointer (some ⟨tb, 0, none⟩)] 148))).alloc (.cells #[.pointer (some ⟨10, 148, none⟩), .pointer (some ⟨w.heap.size, 0, none⟩), .int .u64 150] 170)).alloc (.cells #[.pointer (some ⟨10, 148, none⟩), .pointer (some ⟨w.heap.size, 0, none⟩), .int .u64 150] 170)).alloc (.cells #[.int .i64 p, .iface 146 (.agg #[.int .i64 c, .iface u y])] 140)).alloc (.cells #[.int .i64 c, .iface u y] 146)).setCell ⟨tb, 0, none⟩ (.int .i64 c)).setCell ⟨tb, 1, none⟩ (.iface u y)) := by
 have hlt : 8 < w.heap.size := World.block_lt_of_cell? w _ hg
 have htl : tb < w.heap.size := World.block_lt_of_cell? w _ h0
 have hvo := @run_callFunc_extern Tryz.prog 110 _ (fun args => ReflectliteValue.unpack (args.getD 0 (.tuple #[]))) Tryz.func110 (by kernel_rfl) (by kernel_rfl) (by kernel_rfl) (by kernel_rfl)
 have hty := @run_callFunc_extern Tryz.prog 111 _ (ReflectliteValue.methodAny (ReflectliteValue.valueError "reflectlite.Value.Type" 0) (fun t _ _ _ => ReflectliteType.toType t)) Tryz.func111 (by kernel_rfl) (by kernel_rfl) (by kernel_rfl) (by kernel_rfl)
 have hnil := @run_callFunc_extern Tryz.prog 112 _ (ReflectliteValue.method (ReflectliteValue.valueError "reflectlite.Value.IsNil" 0) ReflectliteValue.isNil) Tryz.func112 (by kernel_rfl) (by kernel_rfl) (by kernel_rfl) (by kernel_rfl)
 have hkd := @run_callFunc_extern Tryz.prog 137 _ (ReflectliteType.abiMethod fun t => do pure (.int .u8 (← Rtype.kind t))) Tryz.func137 (by kernel_rfl) (by kernel_rfl) (by kernel_rfl) (by kernel_rfl)
 have hel := @run_callFunc_extern Tryz.prog 147 _ (ReflectliteType.method ReflectliteType.elem) Tryz.func147 (by kernel_rfl) (by kernel_rfl) (by kernel_rfl) (by kernel_rfl)
 have him := @run_callFunc_extern Tryz.prog 148 _ (ReflectliteType.relation "Implements" ReflectliteType.implements_) Tryz.func148 (by kernel_rfl) (by kernel_rfl) (by kernel_rfl) (by kernel_rfl)
 have hto := @run_callFunc_extern Tryz.prog 102 _ (ReflectliteType.typeOf) Tryz.func102 (by kernel_rfl) (by kernel_rfl) (by kernel_rfl) (by kernel_rfl)
 have has := @run_callFunc_extern Tryz.prog 145 _ (ReflectliteType.relation "AssignableTo" ReflectliteType.assignableTo) Tryz.func145 (by kernel_rfl) (by kernel_rfl) (by kernel_rfl) (by kernel_rfl)
 have hev := @run_callFunc_extern Tryz.prog 118 _ (ReflectliteValue.method (ReflectliteValue.valueError "reflectlite.Value.Elem" 0) ReflectliteValue.elem) Tryz.func118 (by kernel_rfl) (by kernel_rfl) (by kernel_rfl) (by kernel_rfl)
 have hst := @run_callFunc_extern Tryz.prog 119 _ (ReflectliteValue.set) Tryz.func119 (by kernel_rfl) (by kernel_rfl) (by kernel_rfl) (by kernel_rfl)
 have m1 := as_mKind
 have m2 := as_mElem
 have m3 := as_mImplements
 have m4 := as_mAssignableTo
 have m5 := plc_mUnwrap
 have a1 := flt_valueOfP
 have a2 := flt_typeP
 have a3 := flt_kindP
 have a4 := flt_kindS
 have a5 := flt_elemP
 have a6 := flt_implementsS
 have a7 := flt_typeOfS
 have a8 := flt_assignS
 have a9 := flt_valueOfS
 have b7 := plc_typeOfS
 have b8 := flt_assignNo
 have b1 := plc_noAs
 have b2 := plc_hasUnwrap
 have n8 := flt_isNilP ⟨w.heap.size, 0, none⟩ ⟨tb, 0, none⟩ ((w.alloc (.cells #[.pointer (some ⟨tb, 0, none⟩)] 148)).alloc (.cells #[.pointer (some ⟨10, 148, none⟩), .pointer (some ⟨w.heap.size, 0, none⟩), .int .u64 150] 170)) (by simp)
 have hg2 : ((w.alloc (.cells #[.pointer (some ⟨tb, 0, none⟩)] 148)).alloc (.cells #[.pointer (some ⟨10, 148, none⟩), .pointer (some ⟨w.heap.size, 0, none⟩), .int .u64 150] 170)).cell? ⟨8, 0, none⟩ = some (.iface 157 (.agg #[.pointer (some ⟨10, 126, none⟩)])) := by
  rw [World.cell?_alloc_lt _ _ ⟨8, 0, none⟩ (by simp <;> omega), World.cell?_alloc_lt _ _ ⟨8, 0, none⟩ hlt]; exact hg
 have el := flt_elemVP ⟨w.heap.size, 0, none⟩ ⟨tb, 0, none⟩ (((((w.alloc (.cells #[.pointer (some ⟨tb, 0, none⟩)] 148))).alloc (.cells #[.pointer (some ⟨10, 148, none⟩), .pointer (some ⟨w.heap.size, 0, none⟩), .int .u64 150] 170)).alloc (.cells #[.pointer (some ⟨10, 148, none⟩), .pointer (some ⟨w.heap.size, 0, none⟩), .int .u64 150] 170)).alloc (.cells #[.int .i64 p, .iface 146 (.agg #[.int .i64 c, .iface u y])] 140)) (by rw [World.cell?_alloc_lt _ _ ⟨w.heap.size, 0, none⟩ (by simp <;> omega), World.cell?_alloc_lt _ _ ⟨w.heap.size, 0, none⟩ (by simp <;> omega)]; simp)
 have st := flt_set tb (w.heap.size + 1 + 1 + 1 + 1) c u y o0 o1 ((((((w.alloc (.cells #[.pointer (some ⟨tb, 0, none⟩)] 148))).alloc (.cells #[.pointer (some ⟨10, 148, none⟩), .pointer (some ⟨w.heap.size, 0, none⟩), .int .u64 150] 170)).alloc (.cells #[.pointer (some ⟨10, 148, none⟩), .pointer (some ⟨w.heap.size, 0, none⟩), .int .u64 150] 170)).alloc (.cells #[.int .i64 p, .iface 146 (.agg #[.int .i64 c, .iface u y])] 140)).alloc (.cells #[.int .i64 c, .iface u y] 146))
  (by rw [World.cell?_alloc_at _ _ _ _ (by simp)]; rfl) (by rw [World.cell?_alloc_at _ _ _ _ (by simp)]; rfl)
  (by rw [World.cell?_alloc_lt _ _ ⟨tb, 0, none⟩ (by simp <;> omega), World.cell?_alloc_lt _ _ ⟨tb, 0, none⟩ (by simp <;> omega), World.cell?_alloc_lt _ _ ⟨tb, 0, none⟩ (by simp <;> omega), World.cell?_alloc_lt _ _ ⟨tb, 0, none⟩ (by simp <;> omega), World.cell?_alloc_lt _ _ ⟨tb, 0, none⟩ htl]; exact h0)
  (by rw [World.cell?_alloc_lt _ _ ⟨tb, 1, none⟩ (by simp <;> omega), World.cell?_alloc_lt _ _ ⟨tb, 1, none⟩ (by simp <;> omega), World.cell?_alloc_lt _ _ ⟨tb, 1, none⟩ (by simp <;> omega), World.cell?_alloc_lt _ _ ⟨tb, 1, none⟩ (by simp <;> omega), World.cell?_alloc_lt _ _ ⟨tb, 1, none⟩ htl]; exact h1)
  (by rw [World.frozen?_alloc_old _ _ ⟨tb, 0, none⟩ (by simp <;> omega), World.frozen?_alloc_old _ _ ⟨tb, 0, none⟩ (by simp <;> omega), World.frozen?_alloc_old _ _ ⟨tb, 0, none⟩ (by simp <;> omega), World.frozen?_alloc_old _ _ ⟨tb, 0, none⟩ (by simp <;> omega), World.frozen?_alloc_old _ _ ⟨tb, 0, none⟩ (Nat.ne_of_lt htl)]; exact f0)
  (by rw [World.frozen?_alloc_old _ _ ⟨tb, 1, none⟩ (by simp <;> omega), World.frozen?_alloc_old _ _ ⟨tb, 1, none⟩ (by simp <;> omega), World.frozen?_alloc_old _ _ ⟨tb, 1, none⟩ (by simp <;> omega), World.frozen?_alloc_old _ _ ⟨tb, 1, none⟩ (by simp <;> omega), World.frozen?_alloc_old _ _ ⟨tb, 1, none⟩ (Nat.ne_of_lt htl)]; exact f1)
 go_enter Tryz.func104, Tryz.ntmps104
 go_wp2
 refine wp_loop_rounds 2 ?_
 rw [rounds_succ]
 go_wp2
 rw [rounds_succ]
 go_wp2
 go_ret
 exact ⟨rfl, rfl⟩
end Go.Proofs.YtjjdeejajbmecaaGreatDoor

/- append of a row of bytes, empty or not, onto a row that the call owns. -/
namespace Go.Proofs.YtjjdeejajbmecaaGreatDoor
open Go.ChangeShapes Go.WideShapes Go.ChangeAt Go.RowKit

theorem append_row8 {P : Program} (w : World) {ops : Array Oper} {rest : List Oper} {o : Oper} {a : Act} {Q : Exit → Act → World → Prop} (hgd : o.guard = none) (s x : Operand) (t : TypeId)
  (ho : o.op = .call { callee := .builtin .append, args := #[s, x], argTypes := #[t, t] }) (base : Nat) (e : TypeId) (i : TypeInfo) (ht : P.underlying t = some (.slice e)) (hi : P.info? e = some i) (hz : i.zero = some (.int .u8 0)) (hsize : i.size = 1) (hby : i.bytes = 1)
  (g0 n c0 : Nat) (xs : List Value) (hs : a.eval s = .slice (some ⟨g0, 0, none⟩) n c0) (hown : w.ownsRow base e 1 (.slice (some ⟨g0, 0, none⟩) n c0) n xs)
  (sp : Option Addr) (sc : Nat) (l : List UInt8) (hx : a.eval x = .slice sp l.length sc) (hr : Row8 w sp l) (hb : n + l.length ≤ 1099511627776) (hbase : base ≤ w.heap.size)
  (h : ∀ g cap w', w'.ownsRow base e 1 (.slice (some ⟨g, 0, none⟩) (n + l.length) cap) (n + l.length) (xs ++ B8 l) → w.grownBy w' (some g0) → wpList P ops Q rest (a.put o.dst (.slice (some ⟨g, 0, none⟩) (n + l.length) cap)) w') :
  wpList P ops Q (o :: rest) a w := by
 by_cases h0 : l.length = 0
 ·obtain rfl : l = [] := List.length_eq_zero_iff.1 h0
  have hnc : n ≤ c0 := by
   rcases hown.2 with ⟨h', _⟩ | ⟨g, cap, cur, h', _, _, hnc, _⟩
   ·simp at h'
   ·simp only [Value.slice.injEq, true_and] at h'; omega
  have hsrc : Src P i.size t (.slice sp 0 sc) 0 [] w := by
   cases sp with
   | none => exact Src.ofNil w ht sc
   | some ad => exact Src.ofSlice w ht ad 0 sc [] (by simp) (fun j u hu => by simp at hu) (fun u hu => by cases hu)
  have hrun := run_append_room_src (P := P) w t t o.type e i ht hi g0 0 n c0 (.slice sp 0 sc) 0 [] hsrc (by omega) (fun j hj => by simp at hj) (fun j hj => by simp at hj)
  refine wpList_plain hgd fun K hK => ?_
  unfold Oper.wp
  simp only [List.length_nil] at hx
  simp [execOp, ho, resolve, invoke, builtin, hs, hx, hrun, Result.andThen, World.setCells]
  refine hK _ _ ?_
  have := h g0 c0 w (by simpa [B8] using hown) ⟨rfl, rfl, rfl, Nat.le_refl _, fun _ _ _ => rfl⟩
  simpa using this
 ·obtain ⟨b, off, rfl, _, hc⟩ := hr.at (by omega)
  refine wpList_append_lies w hgd s x t ho base e i (.int .u8 0) 1 1 ht hi hz hsize hby rfl (by decide) _ n xs hs hown ⟨b, off, none⟩ l.length sc (B8 l) hx (by rw [B8_len]; omega) ?_ (B8_one _) (by omega) (by unfold maxLen; omega) (by omega) hbase _ rfl ?_
  ·intro j u hu
   have hj : j < l.length := by have := (List.getElem?_eq_some_iff.1 hu).1; rwa [B8_len] at this
   rw [show (⟨b, off, none⟩ : Addr).add j = ⟨b, off + j, none⟩ from by unfold Addr.add; split <;> simp_all, hc j hj, ← hu]
   simp [B8, List.getElem?_eq_getElem hj]
  ·intro g cap w' ho1 hg1 _ _
   exact h g cap w' ho1 hg1
end Go.Proofs.YtjjdeejajbmecaaGreatDoor

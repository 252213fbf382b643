/- SameScreen: what both sides answer. Written by tools/bytt.py. -/
import Derived.Test.YtoinflfnddjggaaBytI
import Derived.Test.YtoinflfnddjggaaBytS
namespace Go.Proofs.Ytoinflfnddjggaa
open Go.ChangeShapes Go.WideShapes Go.ChangeAt Go.RowKit
set_option linter.unusedVariables false
/-- What stands while two screens' own blocks are read. -/
structure RD (w : World) (csA csB : Array Value) (wA : World) : Prop where
  SA : ∀ o, wA.cell? ⟨w.heap.size, o, none⟩ = csA[o]?
  SB : ∀ o, wA.cell? ⟨w.heap.size + 1, o, none⟩ = csB[o]?
  blw : Below w.heap.size w wA
  lt : w.heap.size + 1 < wA.heap.size
theorem RD.below {w : World} {csA csB : Array Value} {wA w' : World} (h : RD w csA csB wA) (hb : Below wA.heap.size wA w') : RD w csA csB w' :=
  ⟨fun o => (hb.cell (p := ⟨w.heap.size, o, none⟩) (Nat.lt_of_succ_lt h.lt)).trans (h.SA o), fun o => (hb.cell (p := ⟨w.heap.size + 1, o, none⟩) h.lt).trans (h.SB o), h.blw.trans (hb.mono h.blw.size), Nat.lt_of_lt_of_le h.lt hb.size⟩
theorem RD.drew {w : World} {csA csB : Array Value} {wA : World} (h : RD w csA csB wA) : RD w csA csB wA.drew := h.below (Below.refl _ _).drew
theorem RD.start (w : World) (csA csB : Array Value) (ta tb : TypeId) : RD w csA csB ((w.alloc (.cells csA ta)).alloc (.cells csB tb)) :=
  ⟨fun o => (World.cell?_alloc_past _ _ _ (by simp)).trans (World.cell?_alloc_mark w _ _ _ o), fun o => by have := World.cell?_alloc_mark (w.alloc (.cells csA ta)) csB tb (0, 0) o; rw [show (w.alloc (.cells csA ta)).heap.size = w.heap.size + 1 from by simp] at this; exact this, ((Below.refl w.heap.size w).alloc (Nat.le_refl _) _).alloc (by simp) _, by simp⟩
def ssV (okA okC : Bool) (LA LC : List UInt8) : Bool := okA && (okC && (LA == LC))
def ssC (okA okC : Bool) : Int := if okA && okC then 0 else 1
theorem sbytesI (i0 i1 i2 i3 i4 i5 i6 i7 i8 : Int) (t : ByteArray) (a : Option Addr) (cap : Nat) (l : List (Int × Int)) (b : Option Addr) (capb : Nat) (m : List ByteArray) (hl : l.length ≤ 1048576) (hcap : l.length ≤ cap) (h : (okB i0 i1 i2 i3 i4 i5 i6 i7 i8 t.data.toList l m) = true) (w : World) (hr : RowV w a (cP l)) (hs : RowV w b (cS m)) :
    Calls Try.prog 12 #[.agg #[.int .i64 i0, .int .i64 i1, .int .i64 i2, .int .i64 i3, .int .i64 i4, .int .i64 i5, .int .i64 i6, .int .i64 i7, .int .i64 i8, .string t, .slice a l.length cap, .slice b m.length capb]] w fun e w' => e = .returned (.string ⟨(sbV (okB i0 i1 i2 i3 i4 i5 i6 i7 i8 t.data.toList l m) i0 i1 i2 i3 i4 i5 i6 i7 i8 t l m).toArray⟩) ∧ Below w.heap.size w w' := by
  obtain ⟨W, H, e0, e1, -⟩ := ok_parts h
  subst e0 e1
  have T := sbytes W H i2 i3 i4 i5 i6 i7 i8 t a cap l b capb m hl hcap h w hr hs
  rw [h]
  unfold sbV
  rw [if_pos rfl, Int.toNat_natCast, Int.toNat_natCast]
  exact T
set_option maxRecDepth 100000 in
theorem ibeq {b1 b2 : Nat} {v1 v2 : Value} {x y : List UInt8} (w : World) (h1 : w.ownsRow b1 5 1 v1 x.length (B8 x)) (h2 : w.ownsRow b2 5 1 v2 y.length (B8 y)) :
    Calls Try.prog 16 #[v1, v2] w fun e w' => e = .returned (.bool ((⟨x.toArray⟩ : ByteArray).toList == (⟨y.toArray⟩ : ByteArray).toList)) ∧ w' = w := by
  have c1 := conv_own (P := Try.prog) Try.underlying41 Try.underlying5 Try.underlying9 h1
  have c2 := conv_own (P := Try.prog) Try.underlying41 Try.underlying5 Try.underlying9 h2
  obtain ⟨a1, n1, rfl, -⟩ := own_rowV h1
  obtain ⟨a2, n2, rfl, -⟩ := own_rowV h2
  clear h1 h2
  generalize (⟨x.toArray⟩ : ByteArray) = X at *
  generalize (⟨y.toArray⟩ : ByteArray) = Y at *
  go_enter Try.func16, Try.ntmps16
  go_wp2_with fail
  go_ret
  exact ⟨rfl, rfl⟩
set_option maxHeartbeats 1000000 in
set_option maxRecDepth 100000 in
theorem isame (i0 i1 i2 i3 i4 i5 i6 i7 i8 : Int) (t : ByteArray) (a : Option Addr) (cap : Nat) (l : List (Int × Int)) (b : Option Addr) (capb : Nat) (m : List ByteArray) (ht : t.size ≤ 1048576) (hl : l.length ≤ 1048576) (hm : m.length ≤ 1048576) (hz : ∀ k (h : k < m.length), m[k].size ≤ 1048576) (hcap : l.length ≤ cap) (i0q i1q i2q i3q i4q i5q i6q i7q i8q : Int) (tq : ByteArray) (aq : Option Addr) (capq : Nat) (lq : List (Int × Int)) (bq : Option Addr) (capbq : Nat) (mq : List ByteArray) (htq : tq.size ≤ 1048576) (hlq : lq.length ≤ 1048576) (hmq : mq.length ≤ 1048576) (hzq : ∀ k (h : k < mq.length), mq[k].size ≤ 1048576) (hcapq : lq.length ≤ capq) (w : World) (hr : RowV w a (cP l)) (hs : RowV w b (cS m)) (hrq : RowV w aq (cP lq)) (hsq : RowV w bq (cS mq)) :
    Calls Try.prog 7 #[.agg #[.int .i64 i0, .int .i64 i1, .int .i64 i2, .int .i64 i3, .int .i64 i4, .int .i64 i5, .int .i64 i6, .int .i64 i7, .int .i64 i8, .string t, .slice a l.length cap, .slice b m.length capb], .agg #[.int .i64 i0q, .int .i64 i1q, .int .i64 i2q, .int .i64 i3q, .int .i64 i4q, .int .i64 i5q, .int .i64 i6q, .int .i64 i7q, .int .i64 i8q, .string tq, .slice aq lq.length capq, .slice bq mq.length capbq]] w fun e w' => e = .returned (.tuple #[.bool (ssV (okB i0 i1 i2 i3 i4 i5 i6 i7 i8 t.data.toList l m) (okB i0q i1q i2q i3q i4q i5q i6q i7q i8q tq.data.toList lq mq) (sbV (okB i0 i1 i2 i3 i4 i5 i6 i7 i8 t.data.toList l m) i0 i1 i2 i3 i4 i5 i6 i7 i8 t l m) (sbV (okB i0q i1q i2q i3q i4q i5q i6q i7q i8q tq.data.toList lq mq) i0q i1q i2q i3q i4q i5q i6q i7q i8q tq lq mq)), .int .i64 (ssC (okB i0 i1 i2 i3 i4 i5 i6 i7 i8 t.data.toList l m) (okB i0q i1q i2q i3q i4q i5q i6q i7q i8q tq.data.toList lq mq))]) ∧ Below w.heap.size w w' := by
  have H1 : Hid (∀ w2 : World, Below w.heap.size w w2 → Calls Try.prog 15 #[.agg #[.int .i64 i0, .int .i64 i1, .int .i64 i2, .int .i64 i3, .int .i64 i4, .int .i64 i5, .int .i64 i6, .int .i64 i7, .int .i64 i8, .string t, .slice a l.length cap, .slice b m.length capb]] w2 fun e w' => ∃ v', e = .returned (.tuple #[v', .int .i64 (sbC (okB i0 i1 i2 i3 i4 i5 i6 i7 i8 t.data.toList l m))]) ∧ w'.ownsRow w2.heap.size 5 1 v' (sbV (okB i0 i1 i2 i3 i4 i5 i6 i7 i8 t.data.toList l m) i0 i1 i2 i3 i4 i5 i6 i7 i8 t l m).length (B8 (sbV (okB i0 i1 i2 i3 i4 i5 i6 i7 i8 t.data.toList l m) i0 i1 i2 i3 i4 i5 i6 i7 i8 t l m)) ∧ Below w2.heap.size w2 w') := fun w2 hb => isb i0 i1 i2 i3 i4 i5 i6 i7 i8 t a cap l b capb m ht hl hm hz hcap w2 (hr.below hb) (hs.below hb)
  have H2 : Hid (∀ w2 : World, Below w.heap.size w w2 → Calls Try.prog 15 #[.agg #[.int .i64 i0q, .int .i64 i1q, .int .i64 i2q, .int .i64 i3q, .int .i64 i4q, .int .i64 i5q, .int .i64 i6q, .int .i64 i7q, .int .i64 i8q, .string tq, .slice aq lq.length capq, .slice bq mq.length capbq]] w2 fun e w' => ∃ v', e = .returned (.tuple #[v', .int .i64 (sbC (okB i0q i1q i2q i3q i4q i5q i6q i7q i8q tq.data.toList lq mq))]) ∧ w'.ownsRow w2.heap.size 5 1 v' (sbV (okB i0q i1q i2q i3q i4q i5q i6q i7q i8q tq.data.toList lq mq) i0q i1q i2q i3q i4q i5q i6q i7q i8q tq lq mq).length (B8 (sbV (okB i0q i1q i2q i3q i4q i5q i6q i7q i8q tq.data.toList lq mq) i0q i1q i2q i3q i4q i5q i6q i7q i8q tq lq mq)) ∧ Below w2.heap.size w2 w') := fun w2 hb => isb i0q i1q i2q i3q i4q i5q i6q i7q i8q tq aq capq lq bq capbq mq htq hlq hmq hzq hcapq w2 (hrq.below hb) (hsq.below hb)
  clear hz hzq ht htq hl hlq hm hmq hr hrq hs hsq hcap hcapq
  generalize (okB i0 i1 i2 i3 i4 i5 i6 i7 i8 t.data.toList l m) = okA at *
  generalize (okB i0q i1q i2q i3q i4q i5q i6q i7q i8q tq.data.toList lq mq) = okC at *
  generalize (sbV okA i0 i1 i2 i3 i4 i5 i6 i7 i8 t l m) = LA at *
  generalize (sbV okC i0q i1q i2q i3q i4q i5q i6q i7q i8q tq lq mq) = LC at *
  have R0 := hide (RD.start w #[.int .i64 i0, .int .i64 i1, .int .i64 i2, .int .i64 i3, .int .i64 i4, .int .i64 i5, .int .i64 i6, .int .i64 i7, .int .i64 i8, .string t, .slice a l.length cap, .slice b m.length capb] #[.int .i64 i0q, .int .i64 i1q, .int .i64 i2q, .int .i64 i3q, .int .i64 i4q, .int .i64 i5q, .int .i64 i6q, .int .i64 i7q, .int .i64 i8q, .string tq, .slice aq lq.length capq, .slice bq mq.length capbq] 31 31)
  have KA0 := (unhide R0).SA
  have KB0 := (unhide R0).SB
  have TOK : True := trivial
  have TOL : True := trivial
  cases okA
  · rw [show ssV false okC LA LC = false from rfl, show ssC false okC = 1 from rfl]
    rw [show sbC false = 1 from rfl] at H1
    go_enter Try.func7, Try.ntmps7
    go_wp2_with (clear TOK; go_at_call 15; refine (unhide H1 _ (unhide R0).blw).mono ?_; rintro e w11 ⟨v1, rfl, ho1, hb1⟩; obtain ⟨a11, c11, rfl, -⟩ := own_rowV ho1; have HO1 := hide ho1; have R1 := hide ((unhide R0).below hb1); have KA1 := (unhide R1).SA; have KB1 := (unhide R1).SB; clear ho1; clear hb1)
    go_ret2
    exact ⟨rfl, (unhide R1).blw⟩
  rw [show sbC true = 0 from rfl] at H1
  cases okC
  · rw [show ssV true false LA LC = false from rfl, show ssC true false = 1 from rfl]
    rw [show sbC false = 1 from rfl] at H2
    go_enter Try.func7, Try.ntmps7
    go_wp2_with (first | (clear TOK; go_at_call 15; refine (unhide H1 _ (unhide R0).blw).mono ?_; rintro e w11 ⟨v1, rfl, ho1, hb1⟩; obtain ⟨a11, c11, rfl, -⟩ := own_rowV ho1; have HO1 := hide ho1; have R1 := hide ((unhide R0).below hb1); have KA1 := (unhide R1).SA; have KB1 := (unhide R1).SB; clear ho1; clear hb1) | (go_at_call 15; refine (unhide H2 _ (unhide R1).blw).mono ?_; rintro e w21 ⟨v2, rfl, ho2, hb2⟩; obtain ⟨a21, c21, rfl, -⟩ := own_rowV ho2; have HO2 := hide ho2; have R2 := hide ((unhide R1).below hb2); have KA2 := (unhide R2).SA; have KB2 := (unhide R2).SB; have HO12 := hide ((held_of (unhide HO1)).below hb2 (Nat.le_refl _)).own; clear ho2; clear hb2))
    go_ret2
    exact ⟨rfl, (unhide R2).blw⟩
  · rw [show ssV true true LA LC = (LA == LC) from rfl, show ssC true true = 0 from rfl]
    rw [show sbC true = 0 from rfl] at H2
    go_enter Try.func7, Try.ntmps7
    go_wp2_with (first | (clear TOK; go_at_call 15; refine (unhide H1 _ (unhide R0).blw).mono ?_; rintro e w11 ⟨v1, rfl, ho1, hb1⟩; obtain ⟨a11, c11, rfl, -⟩ := own_rowV ho1; have HO1 := hide ho1; have R1 := hide ((unhide R0).below hb1); have KA1 := (unhide R1).SA; have KB1 := (unhide R1).SB; clear ho1; clear hb1) | (go_at_call 15; refine (unhide H2 _ (unhide R1).blw).mono ?_; rintro e w21 ⟨v2, rfl, ho2, hb2⟩; obtain ⟨a21, c21, rfl, -⟩ := own_rowV ho2; have HO2 := hide ho2; have R2 := hide ((unhide R1).below hb2); have KA2 := (unhide R2).SA; have KB2 := (unhide R2).SB; have HO12 := hide ((held_of (unhide HO1)).below hb2 (Nat.le_refl _)).own; clear ho2; clear hb2) | (go_at_call 16; refine (ibeq _ (unhide HO12) (unhide HO2)).mono ?_; rintro e w9 ⟨rfl, rfl⟩))
    go_ret2
    exact ⟨rfl, (unhide R2).blw⟩
set_option maxHeartbeats 1000000 in
set_option maxRecDepth 100000 in
theorem ssame (i0 i1 i2 i3 i4 i5 i6 i7 i8 : Int) (t : ByteArray) (a : Option Addr) (cap : Nat) (l : List (Int × Int)) (b : Option Addr) (capb : Nat) (m : List ByteArray) (ht : t.size ≤ 1048576) (hl : l.length ≤ 1048576) (hm : m.length ≤ 1048576) (hz : ∀ k (h : k < m.length), m[k].size ≤ 1048576) (hcap : l.length ≤ cap) (i0q i1q i2q i3q i4q i5q i6q i7q i8q : Int) (tq : ByteArray) (aq : Option Addr) (capq : Nat) (lq : List (Int × Int)) (bq : Option Addr) (capbq : Nat) (mq : List ByteArray) (htq : tq.size ≤ 1048576) (hlq : lq.length ≤ 1048576) (hmq : mq.length ≤ 1048576) (hzq : ∀ k (h : k < mq.length), mq[k].size ≤ 1048576) (hcapq : lq.length ≤ capq) (w : World) (hr : RowV w a (cP l)) (hs : RowV w b (cS m)) (hrq : RowV w aq (cP lq)) (hsq : RowV w bq (cS mq)) :
    Calls Try.prog 5 #[.agg #[.int .i64 i0, .int .i64 i1, .int .i64 i2, .int .i64 i3, .int .i64 i4, .int .i64 i5, .int .i64 i6, .int .i64 i7, .int .i64 i8, .string t, .slice a l.length cap, .slice b m.length capb], .agg #[.int .i64 i0q, .int .i64 i1q, .int .i64 i2q, .int .i64 i3q, .int .i64 i4q, .int .i64 i5q, .int .i64 i6q, .int .i64 i7q, .int .i64 i8q, .string tq, .slice aq lq.length capq, .slice bq mq.length capbq]] w fun e w' => e = .returned (.tuple #[.bool (ssV (okB i0 i1 i2 i3 i4 i5 i6 i7 i8 t.data.toList l m) (okB i0q i1q i2q i3q i4q i5q i6q i7q i8q tq.data.toList lq mq) (sbV (okB i0 i1 i2 i3 i4 i5 i6 i7 i8 t.data.toList l m) i0 i1 i2 i3 i4 i5 i6 i7 i8 t l m) (sbV (okB i0q i1q i2q i3q i4q i5q i6q i7q i8q tq.data.toList lq mq) i0q i1q i2q i3q i4q i5q i6q i7q i8q tq lq mq)), .int .i64 (ssC (okB i0 i1 i2 i3 i4 i5 i6 i7 i8 t.data.toList l m) (okB i0q i1q i2q i3q i4q i5q i6q i7q i8q tq.data.toList lq mq))]) ∧ Below w.heap.size w w' := by
  have H1 : Hid (∀ w2 : World, Below w.heap.size w w2 → Calls Try.prog 11 #[.agg #[.int .i64 i0, .int .i64 i1, .int .i64 i2, .int .i64 i3, .int .i64 i4, .int .i64 i5, .int .i64 i6, .int .i64 i7, .int .i64 i8, .string t, .slice a l.length cap, .slice b m.length capb]] w2 fun e w' => e = .returned (.bool (okB i0 i1 i2 i3 i4 i5 i6 i7 i8 t.data.toList l m)) ∧ Below w2.heap.size w2 w') := fun w2 hb => sok i0 i1 i2 i3 i4 i5 i6 i7 i8 t a cap l b capb m ht hl hm hz w2 (hr.below hb) (hs.below hb)
  have G1 : Hid (∀ w2 : World, (okB i0 i1 i2 i3 i4 i5 i6 i7 i8 t.data.toList l m) = true → Below w.heap.size w w2 → Calls Try.prog 12 #[.agg #[.int .i64 i0, .int .i64 i1, .int .i64 i2, .int .i64 i3, .int .i64 i4, .int .i64 i5, .int .i64 i6, .int .i64 i7, .int .i64 i8, .string t, .slice a l.length cap, .slice b m.length capb]] w2 fun e w' => e = .returned (.string ⟨(sbV (okB i0 i1 i2 i3 i4 i5 i6 i7 i8 t.data.toList l m) i0 i1 i2 i3 i4 i5 i6 i7 i8 t l m).toArray⟩) ∧ Below w2.heap.size w2 w') := fun w2 h hb => sbytesI i0 i1 i2 i3 i4 i5 i6 i7 i8 t a cap l b capb m hl hcap h w2 (hr.below hb) (hs.below hb)
  have H2 : Hid (∀ w2 : World, Below w.heap.size w w2 → Calls Try.prog 11 #[.agg #[.int .i64 i0q, .int .i64 i1q, .int .i64 i2q, .int .i64 i3q, .int .i64 i4q, .int .i64 i5q, .int .i64 i6q, .int .i64 i7q, .int .i64 i8q, .string tq, .slice aq lq.length capq, .slice bq mq.length capbq]] w2 fun e w' => e = .returned (.bool (okB i0q i1q i2q i3q i4q i5q i6q i7q i8q tq.data.toList lq mq)) ∧ Below w2.heap.size w2 w') := fun w2 hb => sok i0q i1q i2q i3q i4q i5q i6q i7q i8q tq aq capq lq bq capbq mq htq hlq hmq hzq w2 (hrq.below hb) (hsq.below hb)
  have G2 : Hid (∀ w2 : World, (okB i0q i1q i2q i3q i4q i5q i6q i7q i8q tq.data.toList lq mq) = true → Below w.heap.size w w2 → Calls Try.prog 12 #[.agg #[.int .i64 i0q, .int .i64 i1q, .int .i64 i2q, .int .i64 i3q, .int .i64 i4q, .int .i64 i5q, .int .i64 i6q, .int .i64 i7q, .int .i64 i8q, .string tq, .slice aq lq.length capq, .slice bq mq.length capbq]] w2 fun e w' => e = .returned (.string ⟨(sbV (okB i0q i1q i2q i3q i4q i5q i6q i7q i8q tq.data.toList lq mq) i0q i1q i2q i3q i4q i5q i6q i7q i8q tq lq mq).toArray⟩) ∧ Below w2.heap.size w2 w') := fun w2 h hb => sbytesI i0q i1q i2q i3q i4q i5q i6q i7q i8q tq aq capq lq bq capbq mq hlq hcapq h w2 (hrq.below hb) (hsq.below hb)
  clear hz hzq ht htq hl hlq hm hmq hr hrq hs hsq hcap hcapq
  generalize (okB i0 i1 i2 i3 i4 i5 i6 i7 i8 t.data.toList l m) = okA at *
  generalize (okB i0q i1q i2q i3q i4q i5q i6q i7q i8q tq.data.toList lq mq) = okC at *
  generalize (sbV okA i0 i1 i2 i3 i4 i5 i6 i7 i8 t l m) = LA at *
  generalize (sbV okC i0q i1q i2q i3q i4q i5q i6q i7q i8q tq lq mq) = LC at *
  have R0 := hide (RD.start w #[.int .i64 i0, .int .i64 i1, .int .i64 i2, .int .i64 i3, .int .i64 i4, .int .i64 i5, .int .i64 i6, .int .i64 i7, .int .i64 i8, .string t, .slice a l.length cap, .slice b m.length capb] #[.int .i64 i0q, .int .i64 i1q, .int .i64 i2q, .int .i64 i3q, .int .i64 i4q, .int .i64 i5q, .int .i64 i6q, .int .i64 i7q, .int .i64 i8q, .string tq, .slice aq lq.length capq, .slice bq mq.length capbq] 31 31)
  have KA0 := (unhide R0).SA
  have KB0 := (unhide R0).SB
  have TOK : True := trivial
  have TOL : True := trivial
  cases okA
  · rw [show ssV false okC LA LC = false from rfl, show ssC false okC = 1 from rfl]
    go_enter Try.func5, Try.ntmps5
    go_wp2_with (clear TOK; go_at_call 11; refine (unhide H1 _ (unhide R0).blw).mono ?_; rintro e w11 ⟨rfl, hb1⟩; have R1 := hide ((unhide R0).below hb1); have KA1 := (unhide R1).SA; have KB1 := (unhide R1).SB; clear hb1)
    go_ret2
    exact ⟨rfl, (unhide R1).blw⟩
  cases okC
  · rw [show ssV true false LA LC = false from rfl, show ssC true false = 1 from rfl]
    go_enter Try.func5, Try.ntmps5
    go_wp2_with (first | (clear TOK; go_at_call 11; refine (unhide H1 _ (unhide R0).blw).mono ?_; rintro e w11 ⟨rfl, hb1⟩; have R1 := hide ((unhide R0).below hb1); have KA1 := (unhide R1).SA; have KB1 := (unhide R1).SB; clear hb1) | (go_at_call 11; refine (unhide H2 _ (unhide R1).blw).mono ?_; rintro e w21 ⟨rfl, hb2⟩; have R2 := hide ((unhide R1).below hb2); have KA2 := (unhide R2).SA; have KB2 := (unhide R2).SB; clear hb2))
    go_ret2
    exact ⟨rfl, (unhide R2).blw⟩
  · rw [show ssV true true LA LC = (LA == LC) from rfl, show ssC true true = 0 from rfl]
    have D1 := unhide G1
    have D2 := unhide G2
    have E1 := hide (fun w2 hb => D1 w2 rfl hb)
    have E2 := hide (fun w2 hb => D2 w2 rfl hb)
    clear D1 D2 G1 G2
    go_enter Try.func5, Try.ntmps5
    go_wp2_with (first | (clear TOK; go_at_call 11; refine (unhide H1 _ (unhide R0).blw).mono ?_; rintro e w11 ⟨rfl, hb1⟩; have R1 := hide ((unhide R0).below hb1); have KA1 := (unhide R1).SA; have KB1 := (unhide R1).SB; clear hb1) | (go_at_call 11; refine (unhide H2 _ (unhide R1).blw).mono ?_; rintro e w21 ⟨rfl, hb2⟩; have R2 := hide ((unhide R1).below hb2); have KA2 := (unhide R2).SA; have KB2 := (unhide R2).SB; clear hb2))
    clear KA0 KB0 KA1 KB1 R0 R1
    go_region_held3 (fun w' => (∀ o, w'.cell? ⟨w.heap.size, o, none⟩ = (#[.int .i64 i0, .int .i64 i1, .int .i64 i2, .int .i64 i3, .int .i64 i4, .int .i64 i5, .int .i64 i6, .int .i64 i7, .int .i64 i8, .string t, .slice a l.length cap, .slice b m.length capb] : Array Value)[o]?) ∧ (∀ o, w'.cell? ⟨w.heap.size + 1, o, none⟩ = (#[.int .i64 i0q, .int .i64 i1q, .int .i64 i2q, .int .i64 i3q, .int .i64 i4q, .int .i64 i5q, .int .i64 i6q, .int .i64 i7q, .int .i64 i8q, .string tq, .slice aq lq.length capq, .slice bq mq.length capbq] : Array Value)[o]?)) (first | exact ⟨KA2, KB2⟩ | exact K4 | exact K5) (first | (clear TOL; go_at_call 12; refine (unhide E1 _ (unhide R2).drew.blw).mono ?_; rintro e w4 ⟨rfl, hb4⟩; have R4 := hide ((unhide R2).drew.below hb4); have K4 := And.intro (unhide R4).SA (unhide R4).SB; clear hb4) | (go_at_call 12; refine (unhide E2 _ (unhide R4).blw).mono ?_; rintro e w5 ⟨rfl, hb5⟩; have R5 := hide ((unhide R4).below hb5); have K5 := And.intro (unhide R5).SA (unhide R5).SB; clear hb5))
    go_wp2_with fail
    go_ret2
    exact ⟨rfl, (unhide R5).blw⟩
end Go.Proofs.Ytoinflfnddjggaa

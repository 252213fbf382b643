/- At every argument that can be read, the law FnExactSameScreen returns true and leaves its arguments as they were: no condition. -/
import Derived.Test.YtoinflfnddjggaaSameAll
import Derived.Test.YtoinflfnddjggaaAgg12
import Derived.WalkKit
import Derived.ProofKit
import Derived.OpenShut
import Derived.ShutString
import Derived.ChangeOld
import Derived.Below
import Derived.Deep.Strs
namespace Go.Proofs.Ytoinflfnddjggaa
open Go.ChangeShapes Go.WideShapes Go.ChangeAt Go.RowKit
set_option linter.unusedVariables false

theorem own : ownKnob Try.prog.godebug = none := by kernel_rfl
theorem laidOut : laidOutB Try.prog = true := by kernel_rfl
set_option maxHeartbeats 4000000 in
set_option maxRecDepth 100000 in
theorem walk (w : World) (i0 i1 i2 i3 i4 i5 i6 i7 i8 : Int) (t : ByteArray) (wt : t.size ≤ maxLen) (a : Option Addr) (len cap : Nat) (l : List (Int × Int)) (el : l.length = len) (ml : len ≤ maxLen) (rl : RowV w a (cP l)) (b : Option Addr) (lenb capb : Nat) (m : List ByteArray) (em : m.length = lenb) (mm : lenb ≤ maxLen) (sm : ∀ k (h : k < m.length), m[k].size ≤ maxLen) (rm : RowV w b (cS m)) (i0q i1q i2q i3q i4q i5q i6q i7q i8q : Int) (tq : ByteArray) (wtq : tq.size ≤ maxLen) (aq : Option Addr) (lenq capq : Nat) (lq : List (Int × Int)) (elq : lq.length = lenq) (mlq : lenq ≤ maxLen) (rlq : RowV w aq (cP lq)) (bq : Option Addr) (lenbq capbq : Nat) (mq : List ByteArray) (emq : mq.length = lenbq) (mmq : lenbq ≤ maxLen) (smq : ∀ k (h : k < mq.length), mq[k].size ≤ maxLen) (rmq : RowV w bq (cS mq)) :
    Calls Try.prog 3 #[.agg #[.int .i64 i0, .int .i64 i1, .int .i64 i2, .int .i64 i3, .int .i64 i4, .int .i64 i5, .int .i64 i6, .int .i64 i7, .int .i64 i8, .string t, .slice a len cap, .slice b lenb capb], .agg #[.int .i64 i0q, .int .i64 i1q, .int .i64 i2q, .int .i64 i3q, .int .i64 i4q, .int .i64 i5q, .int .i64 i6q, .int .i64 i7q, .int .i64 i8q, .string tq, .slice aq lenq capq, .slice bq lenbq capbq]] w fun e w' => e = .returned (.bool true) ∧ Below w.heap.size w w' := by
  subst el em elq emq
  have HR := hide rl
  have HS := hide rm
  have HRq := hide rlq
  have HSq := hide rmq
  obtain ⟨v0, hv0⟩ : ∃ v, v = ssV (okB i0 i1 i2 i3 i4 i5 i6 i7 i8 t.data.toList l m) (okB i0q i1q i2q i3q i4q i5q i6q i7q i8q tq.data.toList lq mq) (sbV (okB i0 i1 i2 i3 i4 i5 i6 i7 i8 t.data.toList l m) i0 i1 i2 i3 i4 i5 i6 i7 i8 t l m) (sbV (okB i0q i1q i2q i3q i4q i5q i6q i7q i8q tq.data.toList lq mq) i0q i1q i2q i3q i4q i5q i6q i7q i8q tq lq mq) := ⟨_, rfl⟩
  obtain ⟨v1, hv1⟩ : ∃ v, v = ssC (okB i0 i1 i2 i3 i4 i5 i6 i7 i8 t.data.toList l m) (okB i0q i1q i2q i3q i4q i5q i6q i7q i8q tq.data.toList lq mq) := ⟨_, rfl⟩
  have HV0 := hide hv0
  have HV1 := hide hv1
  have nv0 : (v0 != v0) = false := by simp
  have nv1 : (v1 != v1) = false := by simp
  clear rl rm rlq rmq hv0 hv1
  have B0 := hide (((Below.refl w.heap.size w).alloc (Nat.le_refl _) (.cells #[.int .i64 i0, .int .i64 i1, .int .i64 i2, .int .i64 i3, .int .i64 i4, .int .i64 i5, .int .i64 i6, .int .i64 i7, .int .i64 i8, .string t, .slice a l.length cap, .slice b m.length capb] 25)).alloc (by simp) (.cells #[.int .i64 i0q, .int .i64 i1q, .int .i64 i2q, .int .i64 i3q, .int .i64 i4q, .int .i64 i5q, .int .i64 i6q, .int .i64 i7q, .int .i64 i8q, .string tq, .slice aq lq.length capq, .slice bq mq.length capbq] 25))
  have A0 := hide ((Blk.new w #[.int .i64 i0, .int .i64 i1, .int .i64 i2, .int .i64 i3, .int .i64 i4, .int .i64 i5, .int .i64 i6, .int .i64 i7, .int .i64 i8, .string t, .slice a l.length cap, .slice b m.length capb] 25).alloc (.cells #[.int .i64 i0q, .int .i64 i1q, .int .i64 i2q, .int .i64 i3q, .int .i64 i4q, .int .i64 i5q, .int .i64 i6q, .int .i64 i7q, .int .i64 i8q, .string tq, .slice aq lq.length capq, .slice bq mq.length capbq] 25))
  have C00 := (Blk.new (w.alloc (.cells #[.int .i64 i0, .int .i64 i1, .int .i64 i2, .int .i64 i3, .int .i64 i4, .int .i64 i5, .int .i64 i6, .int .i64 i7, .int .i64 i8, .string t, .slice a l.length cap, .slice b m.length capb] 25)) #[.int .i64 i0q, .int .i64 i1q, .int .i64 i2q, .int .i64 i3q, .int .i64 i4q, .int .i64 i5q, .int .i64 i6q, .int .i64 i7q, .int .i64 i8q, .string tq, .slice aq lq.length capq, .slice bq mq.length capbq] 25)
  rw [show (w.alloc (.cells #[.int .i64 i0, .int .i64 i1, .int .i64 i2, .int .i64 i3, .int .i64 i4, .int .i64 i5, .int .i64 i6, .int .i64 i7, .int .i64 i8, .string t, .slice a l.length cap, .slice b m.length capb] 25)).heap.size = w.heap.size + 1 from by simp] at C00
  have C0 := hide C00
  have KA0 := (unhide A0).S
  have KC0 := (unhide C0).S
  clear C00
  go_enter Try.func3, Try.ntmps3
  go_wp2_with fail
  refine (szScr2 i0 i1 i2 i3 i4 i5 i6 i7 i8 t a l.length cap b capb m 1048576 (Nat.le_refl _) wt ml mm sm _ ((unhide HS).below (unhide B0))).mono ?_
  rintro e w1 ⟨x1, rfl, hb1, hx⟩
  clear wt ml mm sm
  have B1 := hide ((unhide B0).trans (hb1.mono (unhide B0).size))
  have A1 := hide ((unhide A0).below hb1)
  have C1 := hide ((unhide C0).below hb1)
  have KA := (unhide A1).S
  have KC := (unhide C1).S
  clear hb1
  rcases hx with rfl | ⟨⟨y1, rfl, hy1⟩, ht, hl, hm, hz⟩
  · go_wp2_with fail
    go_ret
    exact ⟨rfl, unhide B1⟩
  have HTS := hide ht
  have HL := hide hl
  have HM := hide hm
  have HZ := hide hz
  have hx1 : ¬ (y1 : Int) < 0 := by omega
  clear ht hl hm hz A0 C0 B0
  clear KA0 KC0
  go_wp2_with fail
  clear KA KC
  refine (szScr2 i0q i1q i2q i3q i4q i5q i6q i7q i8q tq aq lq.length capq bq capbq mq y1 hy1 wtq mlq mmq smq _ ((unhide HSq).below (unhide B1))).mono ?_
  rintro e w2 ⟨x2, rfl, hb2, hx⟩
  clear wtq mlq mmq smq
  have B2 := hide ((unhide B1).trans (hb2.mono (unhide B1).size))
  have A2 := hide ((unhide A1).below hb2)
  have C2 := hide ((unhide C1).below hb2)
  have KA := (unhide A2).S
  have KC := (unhide C2).S
  clear hb2
  rcases hx with rfl | ⟨⟨y2, rfl, hy2⟩, ht, hl, hm, hz⟩
  · go_wp2_with fail
    go_ret
    exact ⟨rfl, unhide B2⟩
  have HTSq := hide ht
  have HLq := hide hl
  have HMq := hide hm
  have HZq := hide hz
  have hx2 : ¬ (y2 : Int) < 0 := by omega
  clear ht hl hm hz A1 C1 B1
  have TOK : True := trivial
  go_wp2_with fail
  go_region_held3 (fun w' => (∀ o, w'.cell? ⟨w.heap.size, o, none⟩ = (#[.int .i64 i0, .int .i64 i1, .int .i64 i2, .int .i64 i3, .int .i64 i4, .int .i64 i5, .int .i64 i6, .int .i64 i7, .int .i64 i8, .string t, .slice a l.length cap, .slice b m.length capb] : Array Value)[o]?) ∧ (∀ o, w'.cell? ⟨w.heap.size + 1, o, none⟩ = (#[.int .i64 i0q, .int .i64 i1q, .int .i64 i2q, .int .i64 i3q, .int .i64 i4q, .int .i64 i5q, .int .i64 i6q, .int .i64 i7q, .int .i64 i8q, .string tq, .slice aq lq.length capq, .slice bq mq.length capbq] : Array Value)[o]?)) (first | exact ⟨KA, KC⟩ | exact K3 | exact K4 | exact K5) (first | (clear TOK; go_at_call 6; refine (toScr i0 i1 i2 i3 i4 i5 i6 i7 i8 t a cap l b capb m (unhide HL) (unhide HM) _ ((unhide HR).below (unhide B2).drew) ((unhide HS).below (unhide B2).drew)).mono ?_; rintro e w3 ⟨g3, h3, rfl, o3, p3, hb3⟩; have B3 := hide ((unhide B2).drew.trans (hb3.mono (unhide B2).drew.size)); have A3 := hide ((unhide A2).drew.below hb3); have C3 := hide ((unhide C2).drew.below hb3); have K3 := And.intro (unhide A3).S (unhide C3).S; have HO3 := hide (rowZ_at o3); have HP3 := hide (rowZ_at p3); clear o3 p3 hb3) | (go_at_call 6; refine (toScr i0q i1q i2q i3q i4q i5q i6q i7q i8q tq aq capq lq bq capbq mq (unhide HLq) (unhide HMq) _ ((unhide HRq).below (unhide B3)) ((unhide HSq).below (unhide B3))).mono ?_; rintro e w4 ⟨g4, h4, rfl, o4, p4, hb4⟩; have B4 := hide ((unhide B3).trans (hb4.mono (unhide B3).size)); have A4 := hide ((unhide A3).below hb4); have C4 := hide ((unhide C3).below hb4); have K4 := And.intro (unhide A4).S (unhide C4).S; have HO34 := hide ((unhide HO3).below hb4); have HP34 := hide ((unhide HP3).below hb4); have HO4 := hide (rowZ_at o4); have HP4 := hide (rowZ_at p4); clear o4 p4 hb4) | (go_at_call 5; refine (ssame i0 i1 i2 i3 i4 i5 i6 i7 i8 t _ _ l _ _ m (unhide HTS) (unhide HL) (unhide HM) (unhide HZ) (Nat.le_refl _) i0q i1q i2q i3q i4q i5q i6q i7q i8q tq _ _ lq _ _ mq (unhide HTSq) (unhide HLq) (unhide HMq) (unhide HZq) (Nat.le_refl _) _ (unhide HO34) (unhide HP34) (unhide HO4) (unhide HP4)).mono ?_; rintro e w5 ⟨rfl, hb5⟩; rw [← unhide HV0, ← unhide HV1]; have B5 := hide ((unhide B4).trans (hb5.mono (unhide B4).size)); have A5 := hide ((unhide A4).below hb5); have C5 := hide ((unhide C4).below hb5); have K5 := And.intro (unhide A5).S (unhide C5).S; clear hb5))
  clear KA KC K3 K4 A2 A3 A4 C2 C3 C4 B2 B3 B4 HO3 HP3 HO34 HP34 HO4 HP4
  go_wp2_with fail
  refine (toScr i0 i1 i2 i3 i4 i5 i6 i7 i8 t a cap l b capb m (unhide HL) (unhide HM) _ ((unhide HR).below (unhide B5)) ((unhide HS).below (unhide B5))).mono ?_
  rintro e w6 ⟨g6, h6, rfl, o6, p6, hb6⟩
  have B6 := hide (((unhide B5).trans (hb6.mono (unhide B5).size)).alloc (Nat.le_trans (unhide B5).size hb6.size) (.cells #[.int .i64 i0, .int .i64 i1, .int .i64 i2, .int .i64 i3, .int .i64 i4, .int .i64 i5, .int .i64 i6, .int .i64 i7, .int .i64 i8, .string t, .slice (some ⟨g6, 0, none⟩) l.length l.length, .slice (some ⟨h6, 0, none⟩) m.length m.length] 31))
  have A6 := hide (((unhide A5).below hb6).alloc (.cells #[.int .i64 i0, .int .i64 i1, .int .i64 i2, .int .i64 i3, .int .i64 i4, .int .i64 i5, .int .i64 i6, .int .i64 i7, .int .i64 i8, .string t, .slice (some ⟨g6, 0, none⟩) l.length l.length, .slice (some ⟨h6, 0, none⟩) m.length m.length] 31))
  have C6 := hide (((unhide C5).below hb6).alloc (.cells #[.int .i64 i0, .int .i64 i1, .int .i64 i2, .int .i64 i3, .int .i64 i4, .int .i64 i5, .int .i64 i6, .int .i64 i7, .int .i64 i8, .string t, .slice (some ⟨g6, 0, none⟩) l.length l.length, .slice (some ⟨h6, 0, none⟩) m.length m.length] 31))
  have D6 := hide (Blk.new w6 #[.int .i64 i0, .int .i64 i1, .int .i64 i2, .int .i64 i3, .int .i64 i4, .int .i64 i5, .int .i64 i6, .int .i64 i7, .int .i64 i8, .string t, .slice (some ⟨g6, 0, none⟩) l.length l.length, .slice (some ⟨h6, 0, none⟩) m.length m.length] 31)
  have HO6 := hide (rowZ_at (o6.alloc (.cells #[.int .i64 i0, .int .i64 i1, .int .i64 i2, .int .i64 i3, .int .i64 i4, .int .i64 i5, .int .i64 i6, .int .i64 i7, .int .i64 i8, .string t, .slice (some ⟨g6, 0, none⟩) l.length l.length, .slice (some ⟨h6, 0, none⟩) m.length m.length] 31)))
  have HP6 := hide (rowZ_at (p6.alloc (.cells #[.int .i64 i0, .int .i64 i1, .int .i64 i2, .int .i64 i3, .int .i64 i4, .int .i64 i5, .int .i64 i6, .int .i64 i7, .int .i64 i8, .string t, .slice (some ⟨g6, 0, none⟩) l.length l.length, .slice (some ⟨h6, 0, none⟩) m.length m.length] 31)))
  have KA := (unhide A6).S
  have KC := (unhide C6).S
  clear o6 p6 hb6 K5 A5 C5 B5
  go_wp2_with fail
  refine (toScr i0q i1q i2q i3q i4q i5q i6q i7q i8q tq aq capq lq bq capbq mq (unhide HLq) (unhide HMq) _ ((unhide HRq).below (unhide B6)) ((unhide HSq).below (unhide B6))).mono ?_
  rintro e w7 ⟨g7, h7, rfl, o7, p7, hb7⟩
  have B7 := hide (((unhide B6).trans (hb7.mono (unhide B6).size)).alloc (Nat.le_trans (unhide B6).size hb7.size) (.cells #[.int .i64 i0q, .int .i64 i1q, .int .i64 i2q, .int .i64 i3q, .int .i64 i4q, .int .i64 i5q, .int .i64 i6q, .int .i64 i7q, .int .i64 i8q, .string tq, .slice (some ⟨g7, 0, none⟩) lq.length lq.length, .slice (some ⟨h7, 0, none⟩) mq.length mq.length] 31))
  have A7 := hide (((unhide A6).below hb7).alloc (.cells #[.int .i64 i0q, .int .i64 i1q, .int .i64 i2q, .int .i64 i3q, .int .i64 i4q, .int .i64 i5q, .int .i64 i6q, .int .i64 i7q, .int .i64 i8q, .string tq, .slice (some ⟨g7, 0, none⟩) lq.length lq.length, .slice (some ⟨h7, 0, none⟩) mq.length mq.length] 31))
  have C7 := hide (((unhide C6).below hb7).alloc (.cells #[.int .i64 i0q, .int .i64 i1q, .int .i64 i2q, .int .i64 i3q, .int .i64 i4q, .int .i64 i5q, .int .i64 i6q, .int .i64 i7q, .int .i64 i8q, .string tq, .slice (some ⟨g7, 0, none⟩) lq.length lq.length, .slice (some ⟨h7, 0, none⟩) mq.length mq.length] 31))
  have D7 := hide (((unhide D6).below hb7).alloc (.cells #[.int .i64 i0q, .int .i64 i1q, .int .i64 i2q, .int .i64 i3q, .int .i64 i4q, .int .i64 i5q, .int .i64 i6q, .int .i64 i7q, .int .i64 i8q, .string tq, .slice (some ⟨g7, 0, none⟩) lq.length lq.length, .slice (some ⟨h7, 0, none⟩) mq.length mq.length] 31))
  have E7 := hide (Blk.new w7 #[.int .i64 i0q, .int .i64 i1q, .int .i64 i2q, .int .i64 i3q, .int .i64 i4q, .int .i64 i5q, .int .i64 i6q, .int .i64 i7q, .int .i64 i8q, .string tq, .slice (some ⟨g7, 0, none⟩) lq.length lq.length, .slice (some ⟨h7, 0, none⟩) mq.length mq.length] 31)
  have HO67 := hide (((unhide HO6).below hb7).below ((Below.refl _ _).alloc (Nat.le_refl _) (.cells #[.int .i64 i0q, .int .i64 i1q, .int .i64 i2q, .int .i64 i3q, .int .i64 i4q, .int .i64 i5q, .int .i64 i6q, .int .i64 i7q, .int .i64 i8q, .string tq, .slice (some ⟨g7, 0, none⟩) lq.length lq.length, .slice (some ⟨h7, 0, none⟩) mq.length mq.length] 31)))
  have HP67 := hide (((unhide HP6).below hb7).below ((Below.refl _ _).alloc (Nat.le_refl _) (.cells #[.int .i64 i0q, .int .i64 i1q, .int .i64 i2q, .int .i64 i3q, .int .i64 i4q, .int .i64 i5q, .int .i64 i6q, .int .i64 i7q, .int .i64 i8q, .string tq, .slice (some ⟨g7, 0, none⟩) lq.length lq.length, .slice (some ⟨h7, 0, none⟩) mq.length mq.length] 31)))
  have HO7 := hide (rowZ_at (o7.alloc (.cells #[.int .i64 i0q, .int .i64 i1q, .int .i64 i2q, .int .i64 i3q, .int .i64 i4q, .int .i64 i5q, .int .i64 i6q, .int .i64 i7q, .int .i64 i8q, .string tq, .slice (some ⟨g7, 0, none⟩) lq.length lq.length, .slice (some ⟨h7, 0, none⟩) mq.length mq.length] 31)))
  have HP7 := hide (rowZ_at (p7.alloc (.cells #[.int .i64 i0q, .int .i64 i1q, .int .i64 i2q, .int .i64 i3q, .int .i64 i4q, .int .i64 i5q, .int .i64 i6q, .int .i64 i7q, .int .i64 i8q, .string tq, .slice (some ⟨g7, 0, none⟩) lq.length lq.length, .slice (some ⟨h7, 0, none⟩) mq.length mq.length] 31)))
  clear o7 p7 hb7 KA KC A6 C6 D6 B6 HO6 HP6
  have KD := (unhide D7).S
  have KE := (unhide E7).S
  go_wp2_with fail
  refine (isame i0 i1 i2 i3 i4 i5 i6 i7 i8 t _ _ l _ _ m (unhide HTS) (unhide HL) (unhide HM) (unhide HZ) (Nat.le_refl _) i0q i1q i2q i3q i4q i5q i6q i7q i8q tq _ _ lq _ _ mq (unhide HTSq) (unhide HLq) (unhide HMq) (unhide HZq) (Nat.le_refl _) _ (unhide HO67) (unhide HP67) (unhide HO7) (unhide HP7)).mono ?_
  rintro e w8 ⟨rfl, hb8⟩
  rw [← unhide HV0, ← unhide HV1]
  have B8' := hide ((unhide B7).trans (hb8.mono (unhide B7).size))
  have A8 := hide ((unhide A7).below hb8)
  have C8 := hide ((unhide C7).below hb8)
  have D8 := hide ((unhide D7).below hb8)
  have E8 := hide ((unhide E7).below hb8)
  have HO68 := hide ((unhide HO67).below hb8)
  have HP68 := hide ((unhide HP67).below hb8)
  have HO8 := hide ((unhide HO7).below hb8)
  have HP8 := hide ((unhide HP7).below hb8)
  clear hb8 KD KE A7 C7 D7 E7 B7 HO67 HP67 HO7 HP7
  have K8 := And.intro (unhide A8).S (And.intro (unhide C8).S (And.intro (unhide D8).S (unhide E8).S))
  have KA := K8.1
  go_wp2_with fail
  go_region_held3 (fun w' => (∀ o, w'.cell? ⟨w.heap.size, o, none⟩ = (#[.int .i64 i0, .int .i64 i1, .int .i64 i2, .int .i64 i3, .int .i64 i4, .int .i64 i5, .int .i64 i6, .int .i64 i7, .int .i64 i8, .string t, .slice a l.length cap, .slice b m.length capb] : Array Value)[o]?) ∧ (∀ o, w'.cell? ⟨w.heap.size + 1, o, none⟩ = (#[.int .i64 i0q, .int .i64 i1q, .int .i64 i2q, .int .i64 i3q, .int .i64 i4q, .int .i64 i5q, .int .i64 i6q, .int .i64 i7q, .int .i64 i8q, .string tq, .slice aq lq.length capq, .slice bq mq.length capbq] : Array Value)[o]?) ∧ (∀ o, w'.cell? ⟨w6.heap.size, o, none⟩ = (#[.int .i64 i0, .int .i64 i1, .int .i64 i2, .int .i64 i3, .int .i64 i4, .int .i64 i5, .int .i64 i6, .int .i64 i7, .int .i64 i8, .string t, .slice (some ⟨g6, 0, none⟩) l.length l.length, .slice (some ⟨h6, 0, none⟩) m.length m.length] : Array Value)[o]?) ∧ (∀ o, w'.cell? ⟨w7.heap.size, o, none⟩ = (#[.int .i64 i0q, .int .i64 i1q, .int .i64 i2q, .int .i64 i3q, .int .i64 i4q, .int .i64 i5q, .int .i64 i6q, .int .i64 i7q, .int .i64 i8q, .string tq, .slice (some ⟨g7, 0, none⟩) lq.length lq.length, .slice (some ⟨h7, 0, none⟩) mq.length mq.length] : Array Value)[o]?)) (first | exact K8 | exact K9 | exact K10) (first | (go_at_call 6; refine (toScr i0 i1 i2 i3 i4 i5 i6 i7 i8 t a cap l b capb m (unhide HL) (unhide HM) _ ((unhide HR).below (unhide B8').drew) ((unhide HS).below (unhide B8').drew)).mono ?_; rintro e w9 ⟨g9, h9, rfl, o9, p9, hb9⟩; have B9 := hide ((unhide B8').drew.trans (hb9.mono (unhide B8').drew.size)); have A9 := hide ((unhide A8).drew.below hb9); have C9 := hide ((unhide C8).drew.below hb9); have D9 := hide ((unhide D8).drew.below hb9); have E9 := hide ((unhide E8).drew.below hb9); have K9 := And.intro (unhide A9).S (And.intro (unhide C9).S (And.intro (unhide D9).S (unhide E9).S)); have HO9 := hide (rowZ_at o9); have HP9 := hide (rowZ_at p9); have HU9 := hide ((unhide HO68).below (below_undrew hb9)); have HV9 := hide ((unhide HP68).below (below_undrew hb9)); have HW9 := hide (below_undrew hb9); clear o9 p9 hb9) | (go_at_call 8; refine (eqScr i0 i1 i2 i3 i4 i5 i6 i7 i8 t _ _ _ _ l _ _ _ _ m (unhide HL) (unhide HM) _ (unhide HU9) (unhide HO9) (unhide HV9) (unhide HP9)).mono ?_; rintro e w10 ⟨rfl, hb10⟩; have B10 := hide ((unhide B9).trans (hb10.mono (unhide B9).size)); have A10 := hide ((unhide A9).below hb10); have C10 := hide ((unhide C9).below hb10); have D10 := hide ((unhide D9).below hb10); have E10 := hide ((unhide E9).below hb10); have K10 := And.intro (unhide A10).S (And.intro (unhide C10).S (And.intro (unhide D10).S (unhide E10).S)); have HW10 := hide ((unhide HW9).trans (hb10.mono (unhide HW9).size)); clear hb10))
  have HOX := hide ((unhide HO8).below (unhide HW10))
  have HPX := hide ((unhide HP8).below (unhide HW10))
  clear K8 K9 KA
  go_wp2_with fail
  go_region_held3 (fun w' => (∀ o, w'.cell? ⟨w.heap.size, o, none⟩ = (#[.int .i64 i0, .int .i64 i1, .int .i64 i2, .int .i64 i3, .int .i64 i4, .int .i64 i5, .int .i64 i6, .int .i64 i7, .int .i64 i8, .string t, .slice a l.length cap, .slice b m.length capb] : Array Value)[o]?) ∧ (∀ o, w'.cell? ⟨w.heap.size + 1, o, none⟩ = (#[.int .i64 i0q, .int .i64 i1q, .int .i64 i2q, .int .i64 i3q, .int .i64 i4q, .int .i64 i5q, .int .i64 i6q, .int .i64 i7q, .int .i64 i8q, .string tq, .slice aq lq.length capq, .slice bq mq.length capbq] : Array Value)[o]?) ∧ (∀ o, w'.cell? ⟨w6.heap.size, o, none⟩ = (#[.int .i64 i0, .int .i64 i1, .int .i64 i2, .int .i64 i3, .int .i64 i4, .int .i64 i5, .int .i64 i6, .int .i64 i7, .int .i64 i8, .string t, .slice (some ⟨g6, 0, none⟩) l.length l.length, .slice (some ⟨h6, 0, none⟩) m.length m.length] : Array Value)[o]?) ∧ (∀ o, w'.cell? ⟨w7.heap.size, o, none⟩ = (#[.int .i64 i0q, .int .i64 i1q, .int .i64 i2q, .int .i64 i3q, .int .i64 i4q, .int .i64 i5q, .int .i64 i6q, .int .i64 i7q, .int .i64 i8q, .string tq, .slice (some ⟨g7, 0, none⟩) lq.length lq.length, .slice (some ⟨h7, 0, none⟩) mq.length mq.length] : Array Value)[o]?)) (first | exact K10 | exact K11 | exact K12) (first | (go_at_call 6; refine (toScr i0q i1q i2q i3q i4q i5q i6q i7q i8q tq aq capq lq bq capbq mq (unhide HLq) (unhide HMq) _ ((unhide HRq).below (unhide B10).drew) ((unhide HSq).below (unhide B10).drew)).mono ?_; rintro e w11 ⟨g11, h11, rfl, o11, p11, hb11⟩; have B11 := hide ((unhide B10).drew.trans (hb11.mono (unhide B10).drew.size)); have A11 := hide ((unhide A10).drew.below hb11); have C11 := hide ((unhide C10).drew.below hb11); have D11 := hide ((unhide D10).drew.below hb11); have E11 := hide ((unhide E10).drew.below hb11); have K11 := And.intro (unhide A11).S (And.intro (unhide C11).S (And.intro (unhide D11).S (unhide E11).S)); have HO11 := hide (rowZ_at o11); have HP11 := hide (rowZ_at p11); have HU11 := hide ((unhide HOX).below (below_undrew hb11)); have HV11 := hide ((unhide HPX).below (below_undrew hb11)); have HW11 := hide (below_undrew hb11); clear o11 p11 hb11) | (go_at_call 8; refine (eqScr i0q i1q i2q i3q i4q i5q i6q i7q i8q tq _ _ _ _ lq _ _ _ _ mq (unhide HLq) (unhide HMq) _ (unhide HU11) (unhide HO11) (unhide HV11) (unhide HP11)).mono ?_; rintro e w12 ⟨rfl, hb12⟩; have B12 := hide ((unhide B11).trans (hb12.mono (unhide B11).size)); have A12 := hide ((unhide A11).below hb12); have C12 := hide ((unhide C11).below hb12); have D12 := hide ((unhide D11).below hb12); have E12 := hide ((unhide E11).below hb12); have K12 := And.intro (unhide A12).S (And.intro (unhide C12).S (And.intro (unhide D12).S (unhide E12).S)); have HW12 := hide ((unhide HW11).trans (hb12.mono (unhide HW11).size)); clear hb12))
  go_wp2_with fail
  go_ret
  exact ⟨rfl, unhide B12⟩

set_option maxRecDepth 100000 in
theorem lifted (os : Os) (started : os.Started) (H : Type) (enc : TypeId × Value → H) :
    ReturnsInHanded {} Try.checked os 3 .any (Rows.fnExactSameScreenSpec.pre6 enc Try.prog Try.f3 Rows.fnExactSameScreenRow.domain false) (Rows.fnExactSameScreenSpec.post enc Try.prog Try.f3 false true false false) := by
  refine returnsInHanded_of_change (C := Try.checked) own started (by kernel_rfl) Try.func3
    (ChangeSpec.witness6 (enc := enc) (C := Try.checked) false ⟨#[], #[.agg #[.int .i64 0, .int .i64 0, .int .i64 0, .int .i64 0, .int .i64 0, .int .i64 0, .int .i64 0, .int .i64 0, .int .i64 0, .string ⟨#[]⟩, .slice none 0 0, .slice none 0 0], .agg #[.int .i64 0, .int .i64 0, .int .i64 0, .int .i64 0, .int .i64 0, .int .i64 0, .int .i64 0, .int .i64 0, .int .i64 0, .string ⟨#[]⟩, .slice none 0 0, .slice none 0 0]], []⟩ 8 (by kernel_rfl) (by kernel_rfl) (by kernel_rfl) (by kernel_rfl)) ?_
  intro W base args ds gs before hval0 hW hcnd _
  have hval : ∀ (j : Nat) t v, Try.f3.params[j]? = some t → args[j]? = some v → Value.okWide Try.prog W .any base t v := hval0
  have hW' := hW
  obtain ⟨p, q, hA0, hV, rfl, hfz, hnd⟩ := hW
  have hA : DataW.TrodAll enc Try.prog W 0 (fun _ => true) true Try.f3.params.toList args.toList ds p := hA0
  rw [Try.params3] at hA hval
  obtain ⟨v0, vs0, d0, ds0, p0, q0, hargs, rfl, rfl, h0, r0⟩ := trodAll_cons hA
  obtain ⟨v1, vs1, d1, ds1, p1, q1, rfl, rfl, rfl, h1, r1⟩ := trodAll_cons r0
  obtain ⟨rfl, rfl, rfl⟩ := trodAll_nil r1
  obtain rfl : args = #[v0, v1] := by cases args; simp_all
  obtain ⟨rfl, rfl⟩ := trodVars_none hV
  have k0 := h0
  have lt0 : ∀ x ∈ p0, x.block < W.heap.size := by obtain ⟨m, hm⟩ := k0; exact DataW.trod_lt m _ _ _ hm
  have k1 := h1
  have lt1 : ∀ x ∈ p1, x.block < W.heap.size := by obtain ⟨m, hm⟩ := k1; exact DataW.trod_lt m _ _ _ hm
  obtain ⟨c0_0, c0_1, c0_2, c0_3, c0_4, c0_5, c0_6, c0_7, c0_8, c0_9, c0_10, c0_11, u0_0, u0_1, u0_2, u0_3, u0_4, u0_5, u0_6, u0_7, u0_8, u0_9, u0_10, u0_11, n0, rfl, z0_0, z0_1, z0_2, z0_3, z0_4, z0_5, z0_6, z0_7, z0_8, z0_9, z0_10, z0_11⟩ := open_agg12 Try.underlying25 (by kernel_rfl) (by kernel_rfl) (hval 0 25 v0 rfl rfl) h0
  obtain ⟨i0, e0_0, -, -⟩ := DataW.trod_int Try.underlying3 z0_0
  obtain rfl : c0_0 = .int .i64 i0 := by simpa using e0_0
  obtain ⟨i1, e0_1, -, -⟩ := DataW.trod_int Try.underlying3 z0_1
  obtain rfl : c0_1 = .int .i64 i1 := by simpa using e0_1
  obtain ⟨i2, e0_2, -, -⟩ := DataW.trod_int Try.underlying3 z0_2
  obtain rfl : c0_2 = .int .i64 i2 := by simpa using e0_2
  obtain ⟨i3, e0_3, -, -⟩ := DataW.trod_int Try.underlying3 z0_3
  obtain rfl : c0_3 = .int .i64 i3 := by simpa using e0_3
  obtain ⟨i4, e0_4, -, -⟩ := DataW.trod_int Try.underlying3 z0_4
  obtain rfl : c0_4 = .int .i64 i4 := by simpa using e0_4
  obtain ⟨i5, e0_5, -, -⟩ := DataW.trod_int Try.underlying3 z0_5
  obtain rfl : c0_5 = .int .i64 i5 := by simpa using e0_5
  obtain ⟨i6, e0_6, -, -⟩ := DataW.trod_int Try.underlying3 z0_6
  obtain rfl : c0_6 = .int .i64 i6 := by simpa using e0_6
  obtain ⟨i7, e0_7, -, -⟩ := DataW.trod_int Try.underlying3 z0_7
  obtain rfl : c0_7 = .int .i64 i7 := by simpa using e0_7
  obtain ⟨i8, e0_8, -, -⟩ := DataW.trod_int Try.underlying3 z0_8
  obtain rfl : c0_8 = .int .i64 i8 := by simpa using e0_8
  obtain ⟨t, e0_9, -, wt⟩ := DataW.trod_string Try.underlying9 z0_9
  obtain rfl : c0_9 = .string t := by simpa using e0_9
  obtain ⟨a, len, cap, l, rfl, el, ml, rl⟩ := pairs_field Try.underlying22 Try.underlying57 (by kernel_rfl) rfl rfl (by kernel_rfl) (by kernel_rfl) Try.underlying3 Try.underlying3 z0_10
  obtain ⟨b, lenb, capb, m, rfl, em, mm, sm, rm⟩ := strs_field Try.underlying23 Try.underlying9 (by kernel_rfl) z0_11
  obtain ⟨c1_0, c1_1, c1_2, c1_3, c1_4, c1_5, c1_6, c1_7, c1_8, c1_9, c1_10, c1_11, u1_0, u1_1, u1_2, u1_3, u1_4, u1_5, u1_6, u1_7, u1_8, u1_9, u1_10, u1_11, n1, rfl, z1_0, z1_1, z1_2, z1_3, z1_4, z1_5, z1_6, z1_7, z1_8, z1_9, z1_10, z1_11⟩ := open_agg12 Try.underlying25 (by kernel_rfl) (by kernel_rfl) (hval 1 25 v1 rfl rfl) h1
  obtain ⟨i0q, e1_0, -, -⟩ := DataW.trod_int Try.underlying3 z1_0
  obtain rfl : c1_0 = .int .i64 i0q := by simpa using e1_0
  obtain ⟨i1q, e1_1, -, -⟩ := DataW.trod_int Try.underlying3 z1_1
  obtain rfl : c1_1 = .int .i64 i1q := by simpa using e1_1
  obtain ⟨i2q, e1_2, -, -⟩ := DataW.trod_int Try.underlying3 z1_2
  obtain rfl : c1_2 = .int .i64 i2q := by simpa using e1_2
  obtain ⟨i3q, e1_3, -, -⟩ := DataW.trod_int Try.underlying3 z1_3
  obtain rfl : c1_3 = .int .i64 i3q := by simpa using e1_3
  obtain ⟨i4q, e1_4, -, -⟩ := DataW.trod_int Try.underlying3 z1_4
  obtain rfl : c1_4 = .int .i64 i4q := by simpa using e1_4
  obtain ⟨i5q, e1_5, -, -⟩ := DataW.trod_int Try.underlying3 z1_5
  obtain rfl : c1_5 = .int .i64 i5q := by simpa using e1_5
  obtain ⟨i6q, e1_6, -, -⟩ := DataW.trod_int Try.underlying3 z1_6
  obtain rfl : c1_6 = .int .i64 i6q := by simpa using e1_6
  obtain ⟨i7q, e1_7, -, -⟩ := DataW.trod_int Try.underlying3 z1_7
  obtain rfl : c1_7 = .int .i64 i7q := by simpa using e1_7
  obtain ⟨i8q, e1_8, -, -⟩ := DataW.trod_int Try.underlying3 z1_8
  obtain rfl : c1_8 = .int .i64 i8q := by simpa using e1_8
  obtain ⟨tq, e1_9, -, wtq⟩ := DataW.trod_string Try.underlying9 z1_9
  obtain rfl : c1_9 = .string tq := by simpa using e1_9
  obtain ⟨aq, lenq, capq, lq, rfl, elq, mlq, rlq⟩ := pairs_field Try.underlying22 Try.underlying57 (by kernel_rfl) rfl rfl (by kernel_rfl) (by kernel_rfl) Try.underlying3 Try.underlying3 z1_10
  obtain ⟨bq, lenbq, capbq, mq, rfl, emq, mmq, smq, rmq⟩ := strs_field Try.underlying23 Try.underlying9 (by kernel_rfl) z1_11
  clear hA0 hval0
  refine (walk W i0 i1 i2 i3 i4 i5 i6 i7 i8 t wt a len cap l el ml rl b lenb capb m em mm sm rm i0q i1q i2q i3q i4q i5q i6q i7q i8q tq wtq aq lenq capq lq elq mlq rlq bq lenbq capbq mq emq mmq smq rmq).mono fun e W' ⟨he, bel⟩ => ?_
  subst he
  exact ⟨_, rfl, _, _, _, [], _, [], hW', trodAll_mk1 (shut_bool Try.underlying4 _), (trodAll_cons_mk (Below.trod laidOut (by kernel_rfl) (of_decide_eq_true (by kernel_rfl)) k0 bel lt0) (trodAll_cons_mk (Below.trod laidOut (by kernel_rfl) (of_decide_eq_true (by kernel_rfl)) k1 bel lt1) trodAll_mk0)), rfl, bel.frame _, fun h => by cases h⟩

theorem over : Rows.fnExactSameScreenRow.holds Try.pinned (OpenSpec.ofChange Rows.fnExactSameScreenSpec) :=
  OpenClaim.holds_of_wide 3 Try.f3 rfl rfl rfl rfl rfl rfl rfl ⟨rfl, rfl, rfl, rfl, rfl⟩ rfl rfl rfl rfl rfl (by kernel_rfl) Try.func3 (by kernel_rfl)
    (of_decide_eq_true (by kernel_rfl)) (by unfold Func.isWrapper; first | (rw [if_pos (by decide +kernel)]; kernel_rfl) | (rw [if_neg (by decide +kernel)]; exact ⟨rfl, rfl⟩))
    (fun os started H enc _ => lifted os started H enc)

theorem proved : Rows.FnExactSameScreenSaid := over
#print axioms proved
end Go.Proofs.Ytoinflfnddjggaa

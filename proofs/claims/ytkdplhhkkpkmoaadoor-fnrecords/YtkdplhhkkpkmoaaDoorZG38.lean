/- Texts put together: HeldS RecAll. -/
import Derived.Test.YtkdplhhkkpkmoaaDoorZG14
import Derived.Test.YtkdplhhkkpkmoaaDoorZRecI
import Derived.Test.YtkdplhhkkpkmoaaDoorZRecJ
import Derived.Test.YtkdplhhkkpkmoaaDoorZRecK
import Derived.Test.YtkdplhhkkpkmoaaDoorZRecS
import Derived.Test.YtkdplhhkkpkmoaaDoorZRecT
import Derived.Test.YtkdplhhkkpkmoaaDoorZRecU
import Derived.Test.YtkdplhhkkpkmoaaDoorZSteI
import Derived.Test.YtkdplhhkkpkmoaaDoorZSteS
import Derived.Test.YtkdplhhkkpkmoaaDoorZG25
/- Rows of texts: what the laws' own helper tells of a marked row. -/
namespace Go.Proofs.YtkdplhhkkpkmoaaDoor
open Go.ChangeShapes Go.WideShapes Go.ChangeAt Go.RowKit
end Go.Proofs.YtkdplhhkkpkmoaaDoor

/- RecordsOf on both sides. -/
namespace Go.Proofs.YtkdplhhkkpkmoaaDoor
open Go.ChangeShapes Go.WideShapes Go.ChangeAt Go.RowKit
set_option linter.unusedVariables false
set_option maxHeartbeats 1000000 in
set_option maxRecDepth 100000 in
theorem irecs (tm vt : Int) (a : Option Addr) (cap n : Nat) (l : List Ent) (HN : Hid (l.length = n)) (hn : n ≤ 1048576) (HSZ : Hid (∀ k (h : k < l.length), l[k].2.size ≤ 1048576)) (tm2 vt2 : Int) (b2 o2 : Nat) (cap2 n2 : Nat) (hcap2 : n2 ≤ cap2) (hcm : cap2 ≤ 9223372036854775807) (m : List Ent) (HN2 : Hid (m.length = n2)) (hn2 : n2 ≤ 1048576) (HSZ2 : Hid (∀ k (h : k < m.length), m[k].2.size ≤ 1048576)) (L : List ByteArray) (c : Int) (HIS : Hid (RecIs tm vt l tm2 vt2 m L c)) (w : World) (hr : RowV w a (cE l)) (hr2 : RowV w (some ⟨b2, o2, none⟩) (cE m)) :
  Calls Tryd.prog 6 #[.agg #[.int .i64 tm, .int .i64 vt, .slice a n cap], .agg #[.int .i64 tm2, .int .i64 vt2, .slice (some ⟨b2, o2, none⟩) n2 cap2]] w fun e w' => ∃ v, e = .returned (.tuple #[v, .int .i64 c]) ∧ w'.ownsRow w.heap.size 9 1 v L.length (cS L) ∧ Below w.heap.size w w' := by
 rcases unhide HIS with ⟨k1, k2, hL, rfl⟩ | ⟨hb, rfl, rfl⟩
 ·have HL := hide hL
  clear HIS hL
  by_cases hc : comN l m < l.length
  ·by_cases h1 : tm = tm2
   ·subst h1
    by_cases h2 : vt = vt2
    ·exact irecs_nc tm vt a cap n l HN hn HSZ tm vt2 b2 o2 cap2 n2 hcap2 hcm m HN2 hn2 HSZ2 (hide ⟨rfl, h2⟩) hc k1 k2 L HL w hr hr2
    ·exact irecs_vc tm vt a cap n l HN hn HSZ vt2 b2 o2 cap2 n2 hcap2 hcm m HN2 hn2 HSZ2 (hide h2) hc k1 k2 L HL w hr hr2
   ·exact irecs_tc tm vt a cap n l HN hn HSZ tm2 vt2 b2 o2 cap2 n2 hcap2 hcm m HN2 hn2 HSZ2 (hide h1) hc k1 k2 L HL w hr hr2
  ·by_cases h1 : tm = tm2
   ·subst h1
    by_cases h2 : vt = vt2
    ·exact irecs_nn tm vt a cap n l HN hn HSZ tm vt2 b2 o2 cap2 n2 hcap2 hcm m HN2 hn2 HSZ2 (hide ⟨rfl, h2⟩) hc k1 k2 L HL w hr hr2
    ·exact irecs_vn tm vt a cap n l HN hn HSZ vt2 b2 o2 cap2 n2 hcap2 hcm m HN2 hn2 HSZ2 (hide h2) hc k1 k2 L HL w hr hr2
   ·exact irecs_tn tm vt a cap n l HN hn HSZ tm2 vt2 b2 o2 cap2 n2 hcap2 hcm m HN2 hn2 HSZ2 (hide h1) hc k1 k2 L HL w hr hr2
 ·clear HIS
  have B0 := hide (Go.Joins.below_alloc2 w (.cells #[.int .i64 tm, .int .i64 vt, .slice a n cap] 25) (.cells #[.int .i64 tm2, .int .i64 vt2, .slice (some ⟨b2, o2, none⟩) n2 cap2] 25))
  have A0 := hide ((BF.new w #[.int .i64 tm, .int .i64 vt, .slice a n cap] 25).alloc (.cells #[.int .i64 tm2, .int .i64 vt2, .slice (some ⟨b2, o2, none⟩) n2 cap2] 25))
  have C0 := hide (BF.new (w.alloc (.cells #[.int .i64 tm, .int .i64 vt, .slice a n cap] 25)) #[.int .i64 tm2, .int .i64 vt2, .slice (some ⟨b2, o2, none⟩) n2 cap2] 25)
  rw [show (w.alloc (.cells #[.int .i64 tm, .int .i64 vt, .slice a n cap] 25)).heap.size = w.heap.size + 1 from by simp] at C0
  have HRW1 := hide (hr.below (unhide B0))
  have HRW2 := hide (hr2.below (unhide B0))
  clear hr hr2
  rcases hb with k1 | ⟨k1, k2⟩
  ·have HK1 := hide k1.symm
   clear k1
   go_enter Tryd.func6, Tryd.ntmps6
   go_wp2_with fail
   refine (istateok tm vt a cap n l HN hn HSZ false HK1 _ (unhide HRW1)).mono ?_
   rintro e w1 ⟨rfl, hb⟩
   have B1 := hide ((unhide B0).trans (hb.mono (unhide B0).size))
   have A1 := hide ((unhide A0).below hb)
   have C1 := hide ((unhide C0).below hb)
   replace HRW1 := hide ((unhide HRW1).below hb)
   replace HRW2 := hide ((unhide HRW2).below hb)
   clear hb B0 A0 C0
   have ka1 := (unhide A1).S
   have kc1 := (unhide C1).S
   go_wp2_with fail
   go_ret2
   exact ⟨_, rfl, World.ownsRow_nil _ _ _ _, unhide B1⟩
  ·have HK1 := hide k1.symm
   have HK2 := hide k2.symm
   clear k1 k2
   go_enter Tryd.func6, Tryd.ntmps6
   go_wp2_with fail
   refine (istateok tm vt a cap n l HN hn HSZ true HK1 _ (unhide HRW1)).mono ?_
   rintro e w1 ⟨rfl, hb⟩
   have B1 := hide ((unhide B0).trans (hb.mono (unhide B0).size))
   have A1 := hide ((unhide A0).below hb)
   have C1 := hide ((unhide C0).below hb)
   replace HRW1 := hide ((unhide HRW1).below hb)
   replace HRW2 := hide ((unhide HRW2).below hb)
   clear hb B0 A0 C0
   have ka1 := (unhide A1).S
   have kc1 := (unhide C1).S
   go_wp2_with fail
   refine (istateok tm2 vt2 (some ⟨b2, o2, none⟩) cap2 n2 m HN2 hn2 HSZ2 false HK2 _ (unhide HRW2)).mono ?_
   rintro e w2 ⟨rfl, hb⟩
   have B2 := hide ((unhide B1).trans (hb.mono (unhide B1).size))
   have A2 := hide ((unhide A1).below hb)
   have C2 := hide ((unhide C1).below hb)
   replace HRW1 := hide ((unhide HRW1).below hb)
   replace HRW2 := hide ((unhide HRW2).below hb)
   clear hb B1 A1 C1
   have ka2 := (unhide A2).S
   have kc2 := (unhide C2).S
   go_wp2_with fail
   go_ret2
   exact ⟨_, rfl, World.ownsRow_nil _ _ _ _, unhide B2⟩
theorem srecs0 (tm vt : Int) (a : Option Addr) (cap n : Nat) (l : List Ent) (HN : Hid (l.length = n)) (hn : n ≤ 1048576) (HSZ : Hid (∀ k (h : k < l.length), l[k].2.size ≤ 1048576)) (tm2 vt2 : Int) (b2 o2 : Nat) (cap2 n2 : Nat) (m : List Ent) (HN2 : Hid (m.length = n2)) (hn2 : n2 ≤ 1048576) (HSZ2 : Hid (∀ k (h : k < m.length), m[k].2.size ≤ 1048576)) (k1 : stateB tm vt l = true) (k2 : stateB tm2 vt2 m = true) (L : List ByteArray) (HL : Hid (L = recsL tm vt l tm2 vt2 m)) (w : World) (hr : RowV w a (cE l)) (hr2 : RowV w (some ⟨b2, o2, none⟩) (cE m)) :
  Calls Tryd.prog 19 #[.agg #[.int .i64 tm, .int .i64 vt, .slice a n cap], .agg #[.int .i64 tm2, .int .i64 vt2, .slice (some ⟨b2, o2, none⟩) n2 cap2]] w fun e w' => ∃ v, e = .returned v ∧ w'.ownsRow w.heap.size 9 1 v L.length (cS L) ∧ Below w.heap.size w w' := by
 by_cases hc : comN l m < l.length
 ·by_cases h1 : tm = tm2
  ·subst h1
   by_cases h2 : vt = vt2
   ·exact srecs_nc tm vt a cap n l HN hn HSZ tm vt2 b2 o2 cap2 n2 m HN2 hn2 HSZ2 (hide ⟨rfl, h2⟩) hc k1 k2 L HL w hr hr2
   ·exact srecs_vc tm vt a cap n l HN hn HSZ vt2 b2 o2 cap2 n2 m HN2 hn2 HSZ2 (hide h2) hc k1 k2 L HL w hr hr2
  ·exact srecs_tc tm vt a cap n l HN hn HSZ tm2 vt2 b2 o2 cap2 n2 m HN2 hn2 HSZ2 (hide h1) hc k1 k2 L HL w hr hr2
 ·by_cases h1 : tm = tm2
  ·subst h1
   by_cases h2 : vt = vt2
   ·exact srecs_nn tm vt a cap n l HN hn HSZ tm vt2 b2 o2 cap2 n2 m HN2 hn2 HSZ2 (hide ⟨rfl, h2⟩) hc k1 k2 L HL w hr hr2
   ·exact srecs_vn tm vt a cap n l HN hn HSZ vt2 b2 o2 cap2 n2 m HN2 hn2 HSZ2 (hide h2) hc k1 k2 L HL w hr hr2
  ·exact srecs_tn tm vt a cap n l HN hn HSZ tm2 vt2 b2 o2 cap2 n2 m HN2 hn2 HSZ2 (hide h1) hc k1 k2 L HL w hr hr2
set_option maxHeartbeats 1000000 in
set_option maxRecDepth 100000 in
theorem srecs (tm vt : Int) (a : Option Addr) (cap n : Nat) (l : List Ent) (HN : Hid (l.length = n)) (hn : n ≤ 1048576) (HSZ : Hid (∀ k (h : k < l.length), l[k].2.size ≤ 1048576)) (tm2 vt2 : Int) (b2 o2 : Nat) (cap2 n2 : Nat) (m : List Ent) (HN2 : Hid (m.length = n2)) (hn2 : n2 ≤ 1048576) (HSZ2 : Hid (∀ k (h : k < m.length), m[k].2.size ≤ 1048576)) (L : List ByteArray) (c : Int) (HIS : Hid (RecIs tm vt l tm2 vt2 m L c)) (w : World) (hr : RowV w a (cE l)) (hr2 : RowV w (some ⟨b2, o2, none⟩) (cE m)) :
  Calls Tryd.prog 7 #[.agg #[.int .i64 tm, .int .i64 vt, .slice a n cap], .agg #[.int .i64 tm2, .int .i64 vt2, .slice (some ⟨b2, o2, none⟩) n2 cap2]] w fun e w' => ∃ v, e = .returned (.tuple #[v, .int .i64 c]) ∧ w'.ownsRow w.heap.size 9 1 v L.length (cS L) ∧ Below w.heap.size w w' := by
 have B0 := hide (Go.Joins.below_alloc2 w (.cells #[.int .i64 tm, .int .i64 vt, .slice a n cap] 25) (.cells #[.int .i64 tm2, .int .i64 vt2, .slice (some ⟨b2, o2, none⟩) n2 cap2] 25))
 have A0 := hide ((BF.new w #[.int .i64 tm, .int .i64 vt, .slice a n cap] 25).alloc (.cells #[.int .i64 tm2, .int .i64 vt2, .slice (some ⟨b2, o2, none⟩) n2 cap2] 25))
 have C0 := hide (BF.new (w.alloc (.cells #[.int .i64 tm, .int .i64 vt, .slice a n cap] 25)) #[.int .i64 tm2, .int .i64 vt2, .slice (some ⟨b2, o2, none⟩) n2 cap2] 25)
 rw [show (w.alloc (.cells #[.int .i64 tm, .int .i64 vt, .slice a n cap] 25)).heap.size = w.heap.size + 1 from by simp] at C0
 have HRW1 := hide (hr.below (unhide B0))
 have HRW2 := hide (hr2.below (unhide B0))
 clear hr hr2
 rcases unhide HIS with ⟨k1, k2, hL, rfl⟩ | ⟨hb, rfl, rfl⟩
 ·have HL := hide hL
  have HK1 := hide k1.symm
  have HK2 := hide k2.symm
  clear HIS hL k1 k2
  go_enter Tryd.func7, Tryd.ntmps7
  go_wp2_with fail
  refine (sstateok tm vt a cap n l HN hn HSZ true HK1 _ (unhide HRW1)).mono ?_
  rintro e w1 ⟨rfl, hb⟩
  have B1 := hide ((unhide B0).trans (hb.mono (unhide B0).size))
  have A1 := hide ((unhide A0).below hb)
  have C1 := hide ((unhide C0).below hb)
  replace HRW1 := hide ((unhide HRW1).below hb)
  replace HRW2 := hide ((unhide HRW2).below hb)
  clear hb B0 A0 C0
  have ka1 := (unhide A1).S
  have kc1 := (unhide C1).S
  go_wp2_with fail
  refine (sstateok tm2 vt2 (some ⟨b2, o2, none⟩) cap2 n2 m HN2 hn2 HSZ2 true HK2 _ (unhide HRW2)).mono ?_
  rintro e w2 ⟨rfl, hb⟩
  have B2 := hide ((unhide B1).trans (hb.mono (unhide B1).size))
  have A2 := hide ((unhide A1).below hb)
  have C2 := hide ((unhide C1).below hb)
  replace HRW1 := hide ((unhide HRW1).below hb)
  replace HRW2 := hide ((unhide HRW2).below hb)
  clear hb B1 A1 C1
  have ka2 := (unhide A2).S
  have kc2 := (unhide C2).S
  go_wp2_with fail
  refine (srecs0 tm vt a cap n l HN hn HSZ tm2 vt2 b2 o2 cap2 n2 m HN2 hn2 HSZ2 (unhide HK1).symm (unhide HK2).symm L HL _ (unhide HRW1) (unhide HRW2)).mono ?_
  rintro e w3 ⟨v, rfl, ho, hb⟩
  have B3 := hide ((unhide B2).trans (hb.mono (unhide B2).size))
  have HO := hide (Go.Joins.ownsRow_le (base' := w.heap.size) ho (unhide B2).size)
  clear hb ho
  go_wp2_with fail
  go_ret2
  exact ⟨_, rfl, unhide HO, unhide B3⟩
 ·clear HIS
  rcases hb with k1 | ⟨k1, k2⟩
  ·have HK1 := hide k1.symm
   clear k1
   go_enter Tryd.func7, Tryd.ntmps7
   go_wp2_with fail
   refine (sstateok tm vt a cap n l HN hn HSZ false HK1 _ (unhide HRW1)).mono ?_
   rintro e w1 ⟨rfl, hb⟩
   have B1 := hide ((unhide B0).trans (hb.mono (unhide B0).size))
   have A1 := hide ((unhide A0).below hb)
   have C1 := hide ((unhide C0).below hb)
   replace HRW1 := hide ((unhide HRW1).below hb)
   replace HRW2 := hide ((unhide HRW2).below hb)
   clear hb B0 A0 C0
   have ka1 := (unhide A1).S
   have kc1 := (unhide C1).S
   have HE := hide (lit_emptyR w1 9 w.heap.size (unhide B1).size)
   have B9 := hide ((unhide B1).alloc (unhide B1).size (.cells #[] 9))
   go_wp2_with fail
   go_ret2
   exact ⟨_, rfl, unhide HE, unhide B9⟩
  ·have HK1 := hide k1.symm
   have HK2 := hide k2.symm
   clear k1 k2
   go_enter Tryd.func7, Tryd.ntmps7
   go_wp2_with fail
   refine (sstateok tm vt a cap n l HN hn HSZ true HK1 _ (unhide HRW1)).mono ?_
   rintro e w1 ⟨rfl, hb⟩
   have B1 := hide ((unhide B0).trans (hb.mono (unhide B0).size))
   have A1 := hide ((unhide A0).below hb)
   have C1 := hide ((unhide C0).below hb)
   replace HRW1 := hide ((unhide HRW1).below hb)
   replace HRW2 := hide ((unhide HRW2).below hb)
   clear hb B0 A0 C0
   have ka1 := (unhide A1).S
   have kc1 := (unhide C1).S
   go_wp2_with fail
   refine (sstateok tm2 vt2 (some ⟨b2, o2, none⟩) cap2 n2 m HN2 hn2 HSZ2 false HK2 _ (unhide HRW2)).mono ?_
   rintro e w2 ⟨rfl, hb⟩
   have B2 := hide ((unhide B1).trans (hb.mono (unhide B1).size))
   have A2 := hide ((unhide A1).below hb)
   have C2 := hide ((unhide C1).below hb)
   replace HRW1 := hide ((unhide HRW1).below hb)
   replace HRW2 := hide ((unhide HRW2).below hb)
   clear hb B1 A1 C1
   have ka2 := (unhide A2).S
   have kc2 := (unhide C2).S
   have HE := hide (lit_emptyR w2 9 w.heap.size (unhide B2).size)
   have B9 := hide ((unhide B2).alloc (unhide B2).size (.cells #[] 9))
   go_wp2_with fail
   go_ret2
   exact ⟨_, rfl, unhide HE, unhide B9⟩
end Go.Proofs.YtkdplhhkkpkmoaaDoor

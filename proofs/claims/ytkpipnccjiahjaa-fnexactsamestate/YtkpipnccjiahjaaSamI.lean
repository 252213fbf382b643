/- States held against each other: what the program answers. -/
import Derived.Test.YtkpipnccjiahjaaSamM
import Derived.Test.YtkpipnccjiahjaaSteI
import Derived.Test.YtkpipnccjiahjaaEqlI
namespace Go.Proofs.Ytkpipnccjiahjaa
open Go.ChangeShapes Go.WideShapes Go.ChangeAt Go.RowKit
set_option linter.unusedVariables false
set_option maxHeartbeats 4000000 in
set_option maxRecDepth 100000 in
theorem isame (tm vt : Int) (a : Option Addr) (cap n : Nat) (l : List Ent) (HN : Hid (l.length = n)) (hn : n ≤ 1048576) (HSZ : Hid (∀ k (h : k < l.length), l[k].2.size ≤ 1048576)) (tm2 vt2 : Int) (a2 : Option Addr) (cap2 n2 : Nat) (m : List Ent) (HN2 : Hid (m.length = n2)) (hn2 : n2 ≤ 1048576) (HSZ2 : Hid (∀ k (h : k < m.length), m[k].2.size ≤ 1048576)) (R : Bool) (c : Int) (HIS : Hid (SameIs tm vt l tm2 vt2 m R c)) (w : World) (hr : RowV w a (cE l)) (hr2 : RowV w a2 (cE m)) :
    Calls Try.prog 7 #[.agg #[.int .i64 tm, .int .i64 vt, .slice a n cap], .agg #[.int .i64 tm2, .int .i64 vt2, .slice a2 n2 cap2]] w fun e w' => e = .returned (.tuple #[.bool R, .int .i64 c]) ∧ Below w.heap.size w w' := by
  have B0 := hide (Go.Joins.below_alloc2 w (.cells #[.int .i64 tm, .int .i64 vt, .slice a n cap] 30) (.cells #[.int .i64 tm2, .int .i64 vt2, .slice a2 n2 cap2] 30))
  have A0 := hide ((BF.new w #[.int .i64 tm, .int .i64 vt, .slice a n cap] 30).alloc (.cells #[.int .i64 tm2, .int .i64 vt2, .slice a2 n2 cap2] 30))
  have C0 := hide (BF.new (w.alloc (.cells #[.int .i64 tm, .int .i64 vt, .slice a n cap] 30)) #[.int .i64 tm2, .int .i64 vt2, .slice a2 n2 cap2] 30)
  rw [show (w.alloc (.cells #[.int .i64 tm, .int .i64 vt, .slice a n cap] 30)).heap.size = w.heap.size + 1 from by simp] at C0
  have HRW1 := hide (hr.below (unhide B0))
  have HRW2 := hide (hr2.below (unhide B0))
  clear hr hr2
  rcases unhide HIS with ⟨k1, k2, hR, rfl⟩ | ⟨k1 | ⟨k1, k2⟩, rfl, rfl⟩
  · have HK1 := hide k1.symm
    have HK2 := hide k2.symm
    have HP1 := hide (state_parts k1).2.2.1
    have HP2 := hide (state_parts k2).2.2.1
    have HR := hide hR
    clear HIS k1 k2 hR
    go_enter Try.func7, Try.ntmps7
    go_wp2_with fail
    refine (istateok tm vt a cap n l HN hn HSZ true HK1 _ (unhide HRW1)).mono ?_
    rintro e w1 ⟨rfl, hb⟩
    have B1 := hide ((unhide B0).trans (hb.mono (unhide B0).size))
    have A1 := hide ((unhide A0).below hb)
    have C1 := hide ((unhide C0).below hb)
    replace HRW1 := hide ((unhide HRW1).below hb)
    replace HRW2 := hide ((unhide HRW2).below hb)
    clear hb B0 A0 C0
    have ka1 := (unhide A1).S
    have kc1 := (unhide C1).S
    go_wp2_with fail
    refine (istateok tm2 vt2 a2 cap2 n2 m HN2 hn2 HSZ2 true HK2 _ (unhide HRW2)).mono ?_
    rintro e w2 ⟨rfl, hb⟩
    have B2 := hide ((unhide B1).trans (hb.mono (unhide B1).size))
    have A2 := hide ((unhide A1).below hb)
    have C2 := hide ((unhide C1).below hb)
    replace HRW1 := hide ((unhide HRW1).below hb)
    replace HRW2 := hide ((unhide HRW2).below hb)
    clear hb B1 A1 C1
    have ka2 := (unhide A2).S
    have kc2 := (unhide C2).S
    have hp1 : n ≤ 60 := by have := unhide HP1; rw [unhide HN] at this; exact this
    have hp2 : n2 ≤ 60 := by have := unhide HP2; rw [unhide HN2] at this; exact this
    clear HP1 HP2
    by_cases h1 : tm = tm2
    · by_cases h2 : vt = vt2
      · subst h1 h2
        have HR1 := hide ((unhide HR).trans sm4)
        go_wp2_with fail
        refine (iequal a a2 cap cap2 n n2 l m HN HN2 hp1 hp2 R HR1 _ (unhide HRW1) (unhide HRW2)).mono ?_
        rintro e w3 ⟨rfl, hb⟩
        have B3 := hide ((unhide B2).trans (hb.mono (unhide B2).size))
        clear hb B2 A2 C2
        go_wp2_with fail
        go_ret2
        exact ⟨rfl, unhide B3⟩
      · subst h1
        obtain rfl : R = false := (unhide HR).trans (sm2 h2)
        have hb2 : (vt == vt2) = false := by simpa using h2
        go_wp2_with fail
        go_ret2
        exact ⟨rfl, unhide B2⟩
    · obtain rfl : R = false := (unhide HR).trans (sm1 h1)
      have hb1 : (tm == tm2) = false := by simpa using h1
      go_wp2_with fail
      go_ret2
      exact ⟨rfl, unhide B2⟩
  · have HK1 := hide k1.symm
    clear HIS k1
    go_enter Try.func7, Try.ntmps7
    go_wp2_with fail
    refine (istateok tm vt a cap n l HN hn HSZ false HK1 _ (unhide HRW1)).mono ?_
    rintro e w1 ⟨rfl, hb⟩
    have B1 := hide ((unhide B0).trans (hb.mono (unhide B0).size))
    have A1 := hide ((unhide A0).below hb)
    have C1 := hide ((unhide C0).below hb)
    replace HRW1 := hide ((unhide HRW1).below hb)
    replace HRW2 := hide ((unhide HRW2).below hb)
    clear hb B0 A0 C0
    have ka1 := (unhide A1).S
    have kc1 := (unhide C1).S
    go_wp2_with fail
    go_ret2
    exact ⟨rfl, unhide B1⟩
  · have HK1 := hide k1.symm
    have HK2 := hide k2.symm
    clear HIS k1 k2
    go_enter Try.func7, Try.ntmps7
    go_wp2_with fail
    refine (istateok tm vt a cap n l HN hn HSZ true HK1 _ (unhide HRW1)).mono ?_
    rintro e w1 ⟨rfl, hb⟩
    have B1 := hide ((unhide B0).trans (hb.mono (unhide B0).size))
    have A1 := hide ((unhide A0).below hb)
    have C1 := hide ((unhide C0).below hb)
    replace HRW1 := hide ((unhide HRW1).below hb)
    replace HRW2 := hide ((unhide HRW2).below hb)
    clear hb B0 A0 C0
    have ka1 := (unhide A1).S
    have kc1 := (unhide C1).S
    go_wp2_with fail
    refine (istateok tm2 vt2 a2 cap2 n2 m HN2 hn2 HSZ2 false HK2 _ (unhide HRW2)).mono ?_
    rintro e w2 ⟨rfl, hb⟩
    have B2 := hide ((unhide B1).trans (hb.mono (unhide B1).size))
    have A2 := hide ((unhide A1).below hb)
    have C2 := hide ((unhide C1).below hb)
    replace HRW1 := hide ((unhide HRW1).below hb)
    replace HRW2 := hide ((unhide HRW2).below hb)
    clear hb B1 A1 C1
    have ka2 := (unhide A2).S
    have kc2 := (unhide C2).S
    go_wp2_with fail
    go_ret2
    exact ⟨rfl, unhide B2⟩
end Go.Proofs.Ytkpipnccjiahjaa

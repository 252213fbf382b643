/- ClientAccept: l13Take. -/
import Derived.Test.YtmmnoepcklfonaaGreatDoorZCaT
import Derived.Test.YtmmnoepcklfonaaGreatDoorZG37
namespace Go.Proofs.YtmmnoepcklfonaaGreatDoor
open Go.ChangeShapes Go.WideShapes Go.ChangeAt Go.RowKit
set_option linter.unusedVariables false
def TakTo (id : Int) (win tok : ByteArray) (nb vw vh : Int) (n : Nat) (c : Int) (L : List ByteArray) (w : World) (e : Ending) (w' : World) : Prop := (∃ aX cX, e = .returned (.tuple #[.agg #[.int .i64 id, .string win, .string tok, .int .i64 nb, .int .i64 vw, .int .i64 vh, .slice aX n cX], .int .i64 c]) ∧ RowV w' aX (cS L)) ∧ Below w.heap.size w w'
set_option maxHeartbeats 4000000 in
set_option maxRecDepth 100000 in
theorem stake_no (key : ByteArray) (id : Int) (win tok : ByteArray) (nb vw vh : Int) (a : Option Addr) (cap n : Nat) (R : List ByteArray) (HN : Hid (R.length = n)) (nbv frv : Int) (fuv : Bool) (vwv vhv : Int) (av : Option Addr) (cv nv : Nat) (l : List Rw) (HNV : Hid (l.length = nv)) (t : ByteArray) (HK6 : Hid (key.size ≤ 65536)) (HT : Hid (tokB id win nbv = true)) (S : ByteArray) (HS : Hid (S = issT key id win nbv)) (nt : (t.toList == S.toList) = false) (w : World) (hr : RowV w a (cS R)) (hrv : RowV w av (cE l)) :
    Calls Tryz.prog 19 #[.string key, .agg #[.int .i64 id, .string win, .string tok, .int .i64 nb, .int .i64 vw, .int .i64 vh, .slice a n cap], .agg #[.int .i64 nbv, .int .i64 frv, .bool fuv, .int .i64 vwv, .int .i64 vhv, .slice av nv cv], .string t] w (TakTo id win tok nb vw vh n 16 R w) := by
  have B0 := hide (Go.Joins.below_alloc3 w (.cells #[.int .i64 id, .string win, .string tok, .int .i64 nb, .int .i64 vw, .int .i64 vh, .slice a n cap] 34) (.cells #[.int .i64 nbv, .int .i64 frv, .bool fuv, .int .i64 vwv, .int .i64 vhv, .slice av nv cv] 40) (.cells #[.int .i64 0, .string ⟨#[]⟩, .string ⟨#[]⟩, .int .i64 0, .int .i64 0, .int .i64 0, .slice none 0 0] 34))
  have A0 := hide (((BF.new w #[.int .i64 id, .string win, .string tok, .int .i64 nb, .int .i64 vw, .int .i64 vh, .slice a n cap] 34).alloc (.cells #[.int .i64 nbv, .int .i64 frv, .bool fuv, .int .i64 vwv, .int .i64 vhv, .slice av nv cv] 40)).alloc (.cells #[.int .i64 0, .string ⟨#[]⟩, .string ⟨#[]⟩, .int .i64 0, .int .i64 0, .int .i64 0, .slice none 0 0] 34))
  have V0 := hide ((BF.new (w.alloc (.cells #[.int .i64 id, .string win, .string tok, .int .i64 nb, .int .i64 vw, .int .i64 vh, .slice a n cap] 34)) #[.int .i64 nbv, .int .i64 frv, .bool fuv, .int .i64 vwv, .int .i64 vhv, .slice av nv cv] 40).alloc (.cells #[.int .i64 0, .string ⟨#[]⟩, .string ⟨#[]⟩, .int .i64 0, .int .i64 0, .int .i64 0, .slice none 0 0] 34))
  have Z0 := hide (BF.new ((w.alloc (.cells #[.int .i64 id, .string win, .string tok, .int .i64 nb, .int .i64 vw, .int .i64 vh, .slice a n cap] 34)).alloc (.cells #[.int .i64 nbv, .int .i64 frv, .bool fuv, .int .i64 vwv, .int .i64 vhv, .slice av nv cv] 40)) #[.int .i64 0, .string ⟨#[]⟩, .string ⟨#[]⟩, .int .i64 0, .int .i64 0, .int .i64 0, .slice none 0 0] 34)
  rw [show (w.alloc (.cells #[.int .i64 id, .string win, .string tok, .int .i64 nb, .int .i64 vw, .int .i64 vh, .slice a n cap] 34)).heap.size = w.heap.size + 1 from by simp] at V0
  rw [show ((w.alloc (.cells #[.int .i64 id, .string win, .string tok, .int .i64 nb, .int .i64 vw, .int .i64 vh, .slice a n cap] 34)).alloc (.cells #[.int .i64 nbv, .int .i64 frv, .bool fuv, .int .i64 vwv, .int .i64 vhv, .slice av nv cv] 40)).heap.size = w.heap.size + 1 + 1 from by simp] at Z0
  have HR := hide hr
  have HRV := hide hrv
  clear hr hrv
  have ka := (unhide A0).S
  have kaf := (unhide A0).F
  have kv := (unhide V0).S
  have kz := (unhide Z0).S
  have kf := (unhide Z0).F
  have TOK0 : True := trivial
  have hl1 : w.heap.size ≤ (w.heap.size + 1 + 1) := by omega
  have hfin : ∀ W, Below w.heap.size w W → TakTo id win tok nb vw vh n 16 R w (.returned (.tuple #[.agg #[.int .i64 id, .string win, .string tok, .int .i64 nb, .int .i64 vw, .int .i64 vh, .slice a n cap], .int .i64 16])) W := fun W h => ⟨⟨a, cap, rfl, (unhide HR).below h⟩, h⟩
  go_enter Tryz.func19, Tryz.ntmps19
  go_wp2_with (first | (go_at_call 37; have TOK4 := TOK0; refine (sissue id win nbv HT key HK6 S HS _).mono ?_; rintro e w4 ⟨rfl, hb4⟩; have B4 := hide ((unhide B0).trans (hb4.mono (unhide B0).size)); have A4 := hide ((unhide A0).below hb4); have V4 := hide ((unhide V0).below hb4); have Z4 := hide ((unhide Z0).below hb4); clear ka kaf kv kz kf hb4 TOK0; have ka := (unhide A4).S; have kaf := (unhide A4).F; have kv := (unhide V4).S; have kz := (unhide Z4).S; have kf := (unhide Z4).F))
  refine bodyPost_ret (v := .tuple #[.agg #[.int .i64 id, .string win, .string tok, .int .i64 nb, .int .i64 vw, .int .i64 vh, .slice a n cap], .int .i64 16]) (by simp [results, Tryz.results19, go_sem, kz]) rfl (hfin _ ?_)
  iterate 7 refine Below.setCell ?_ (by exact hl1) _
  exact unhide B4

set_option maxHeartbeats 4000000 in
set_option maxRecDepth 100000 in
theorem stake_c (key : ByteArray) (id : Int) (win tok : ByteArray) (nb vw vh : Int) (a : Option Addr) (cap n : Nat) (R : List ByteArray) (HN : Hid (R.length = n)) (nbv frv : Int) (fuv : Bool) (vwv vhv : Int) (av : Option Addr) (cv nv : Nat) (l : List Rw) (HNV : Hid (l.length = nv)) (t : ByteArray) (HK6 : Hid (key.size ≤ 65536)) (HT : Hid (tokB id win nbv = true)) (nb2 w2 h2 : Int) (L : List ByteArray) (c : Int) (hc : c ≠ 0) (HIA : Hid (AvIs nb vw vh R nbv frv fuv vwv vhv l nb2 w2 h2 L c)) (HQ1 : Hid (true = mirB nb vw vh R)) (HQ2 : Hid (true = vwB nbv frv fuv vwv vhv l)) (HS : Hid (t = issT key id win nbv)) (w : World) (hr : RowV w a (cS R)) (hrv : RowV w av (cE l)) :
    Calls Tryz.prog 19 #[.string key, .agg #[.int .i64 id, .string win, .string tok, .int .i64 nb, .int .i64 vw, .int .i64 vh, .slice a n cap], .agg #[.int .i64 nbv, .int .i64 frv, .bool fuv, .int .i64 vwv, .int .i64 vhv, .slice av nv cv], .string t] w (TakTo id win tok nb vw vh n c R w) := by
  have B0 := hide (Go.Joins.below_alloc3 w (.cells #[.int .i64 id, .string win, .string tok, .int .i64 nb, .int .i64 vw, .int .i64 vh, .slice a n cap] 34) (.cells #[.int .i64 nbv, .int .i64 frv, .bool fuv, .int .i64 vwv, .int .i64 vhv, .slice av nv cv] 40) (.cells #[.int .i64 0, .string ⟨#[]⟩, .string ⟨#[]⟩, .int .i64 0, .int .i64 0, .int .i64 0, .slice none 0 0] 34))
  have A0 := hide (((BF.new w #[.int .i64 id, .string win, .string tok, .int .i64 nb, .int .i64 vw, .int .i64 vh, .slice a n cap] 34).alloc (.cells #[.int .i64 nbv, .int .i64 frv, .bool fuv, .int .i64 vwv, .int .i64 vhv, .slice av nv cv] 40)).alloc (.cells #[.int .i64 0, .string ⟨#[]⟩, .string ⟨#[]⟩, .int .i64 0, .int .i64 0, .int .i64 0, .slice none 0 0] 34))
  have V0 := hide ((BF.new (w.alloc (.cells #[.int .i64 id, .string win, .string tok, .int .i64 nb, .int .i64 vw, .int .i64 vh, .slice a n cap] 34)) #[.int .i64 nbv, .int .i64 frv, .bool fuv, .int .i64 vwv, .int .i64 vhv, .slice av nv cv] 40).alloc (.cells #[.int .i64 0, .string ⟨#[]⟩, .string ⟨#[]⟩, .int .i64 0, .int .i64 0, .int .i64 0, .slice none 0 0] 34))
  have Z0 := hide (BF.new ((w.alloc (.cells #[.int .i64 id, .string win, .string tok, .int .i64 nb, .int .i64 vw, .int .i64 vh, .slice a n cap] 34)).alloc (.cells #[.int .i64 nbv, .int .i64 frv, .bool fuv, .int .i64 vwv, .int .i64 vhv, .slice av nv cv] 40)) #[.int .i64 0, .string ⟨#[]⟩, .string ⟨#[]⟩, .int .i64 0, .int .i64 0, .int .i64 0, .slice none 0 0] 34)
  rw [show (w.alloc (.cells #[.int .i64 id, .string win, .string tok, .int .i64 nb, .int .i64 vw, .int .i64 vh, .slice a n cap] 34)).heap.size = w.heap.size + 1 from by simp] at V0
  rw [show ((w.alloc (.cells #[.int .i64 id, .string win, .string tok, .int .i64 nb, .int .i64 vw, .int .i64 vh, .slice a n cap] 34)).alloc (.cells #[.int .i64 nbv, .int .i64 frv, .bool fuv, .int .i64 vwv, .int .i64 vhv, .slice av nv cv] 40)).heap.size = w.heap.size + 1 + 1 from by simp] at Z0
  have HR := hide hr
  have HRV := hide hrv
  clear hr hrv
  have ka := (unhide A0).S
  have kaf := (unhide A0).F
  have kv := (unhide V0).S
  have kz := (unhide Z0).S
  have kf := (unhide Z0).F
  have TOK0 : True := trivial
  have nt : (t.toList == t.toList) = true := by simp
  have hc' : (c != 0) = true := by simpa using hc
  clear hc
  have hl1 : w.heap.size ≤ (w.heap.size + 1 + 1) := by omega
  have hfin : ∀ W, Below w.heap.size w W → TakTo id win tok nb vw vh n c R w (.returned (.tuple #[.agg #[.int .i64 id, .string win, .string tok, .int .i64 nb, .int .i64 vw, .int .i64 vh, .slice a n cap], .int .i64 c])) W := fun W h => ⟨⟨a, cap, rfl, (unhide HR).below h⟩, h⟩
  go_enter Tryz.func19, Tryz.ntmps19
  go_wp2_with (first | (go_at_call 37; have TOK4 := TOK0; refine (sissue id win nbv HT key HK6 t HS _).mono ?_; rintro e w4 ⟨rfl, hb4⟩; have B4 := hide ((unhide B0).trans (hb4.mono (unhide B0).size)); have A4 := hide ((unhide A0).below hb4); have V4 := hide ((unhide V0).below hb4); have Z4 := hide ((unhide Z0).below hb4); clear ka kaf kv kz kf hb4 TOK0; have ka := (unhide A4).S; have kaf := (unhide A4).F; have kv := (unhide V4).S; have kz := (unhide Z4).S; have kf := (unhide Z4).F) | (go_at_call 41; refine (sacc_all nb vw vh a cap n R HN nbv frv fuv vwv vhv av cv nv l HNV nb2 w2 h2 L _ HIA HQ1 HQ2 _ ((unhide HR).below (unhide B4)) ((unhide HRV).below (unhide B4))).mono ?_; rintro e w7 ⟨⟨⟨aX, cX, rfl, -⟩, hb7⟩, -⟩; have B7 := hide ((unhide B4).trans (hb7.mono (unhide B4).size)); have A7 := hide ((unhide A4).below hb7); have Z7 := hide ((unhide Z4).below hb7); have A8 := hide ((unhide A7).alloc (.cells #[.int .i64 nb2, .int .i64 w2, .int .i64 h2, .slice aX L.length cX] 32)); have Z8 := hide ((unhide Z7).alloc (.cells #[.int .i64 nb2, .int .i64 w2, .int .i64 h2, .slice aX L.length cX] 32)); have z7a := (unhide A7).lt; have z7z := (unhide Z7).lt; clear ka kaf kv kz kf hb7; have ka := (unhide A8).S; have kaf := (unhide A8).F; have kz := (unhide Z8).S; have kf := (unhide Z8).F; have ka7 := (unhide A7).S; have kaf7 := (unhide A7).F; have kz7 := (unhide Z7).S; have kf7 := (unhide Z7).F))
  refine bodyPost_ret (v := .tuple #[.agg #[.int .i64 id, .string win, .string tok, .int .i64 nb, .int .i64 vw, .int .i64 vh, .slice a n cap], .int .i64 c]) (by simp [results, Tryz.results19, go_sem, kz7, z7z, World.cell?_alloc_past]) rfl (hfin _ ?_)
  refine (fun hB => Below.alloc hB (Below.size hB) _) ?_
  iterate 7 refine Below.setCell ?_ (by exact hl1) _
  exact unhide B7

set_option maxHeartbeats 4000000 in
set_option maxRecDepth 100000 in
theorem stake_0 (key : ByteArray) (id : Int) (win tok : ByteArray) (nb vw vh : Int) (a : Option Addr) (cap n : Nat) (R : List ByteArray) (HN : Hid (R.length = n)) (nbv frv : Int) (fuv : Bool) (vwv vhv : Int) (av : Option Addr) (cv nv : Nat) (l : List Rw) (HNV : Hid (l.length = nv)) (t : ByteArray) (HK6 : Hid (key.size ≤ 65536)) (HT : Hid (tokB id win nbv = true)) (nb2 w2 h2 : Int) (L : List ByteArray) (HIA : Hid (AvIs nb vw vh R nbv frv fuv vwv vhv l nb2 w2 h2 L 0)) (HQ1 : Hid (true = mirB nb vw vh R)) (HQ2 : Hid (true = vwB nbv frv fuv vwv vhv l)) (HS : Hid (t = issT key id win nbv)) (w : World) (hr : RowV w a (cS R)) (hrv : RowV w av (cE l)) :
    Calls Tryz.prog 19 #[.string key, .agg #[.int .i64 id, .string win, .string tok, .int .i64 nb, .int .i64 vw, .int .i64 vh, .slice a n cap], .agg #[.int .i64 nbv, .int .i64 frv, .bool fuv, .int .i64 vwv, .int .i64 vhv, .slice av nv cv], .string t] w (TakTo id win t nb2 w2 h2 L.length 0 L w) := by
  have B0 := hide (Go.Joins.below_alloc3 w (.cells #[.int .i64 id, .string win, .string tok, .int .i64 nb, .int .i64 vw, .int .i64 vh, .slice a n cap] 34) (.cells #[.int .i64 nbv, .int .i64 frv, .bool fuv, .int .i64 vwv, .int .i64 vhv, .slice av nv cv] 40) (.cells #[.int .i64 0, .string ⟨#[]⟩, .string ⟨#[]⟩, .int .i64 0, .int .i64 0, .int .i64 0, .slice none 0 0] 34))
  have A0 := hide (((BF.new w #[.int .i64 id, .string win, .string tok, .int .i64 nb, .int .i64 vw, .int .i64 vh, .slice a n cap] 34).alloc (.cells #[.int .i64 nbv, .int .i64 frv, .bool fuv, .int .i64 vwv, .int .i64 vhv, .slice av nv cv] 40)).alloc (.cells #[.int .i64 0, .string ⟨#[]⟩, .string ⟨#[]⟩, .int .i64 0, .int .i64 0, .int .i64 0, .slice none 0 0] 34))
  have V0 := hide ((BF.new (w.alloc (.cells #[.int .i64 id, .string win, .string tok, .int .i64 nb, .int .i64 vw, .int .i64 vh, .slice a n cap] 34)) #[.int .i64 nbv, .int .i64 frv, .bool fuv, .int .i64 vwv, .int .i64 vhv, .slice av nv cv] 40).alloc (.cells #[.int .i64 0, .string ⟨#[]⟩, .string ⟨#[]⟩, .int .i64 0, .int .i64 0, .int .i64 0, .slice none 0 0] 34))
  have Z0 := hide (BF.new ((w.alloc (.cells #[.int .i64 id, .string win, .string tok, .int .i64 nb, .int .i64 vw, .int .i64 vh, .slice a n cap] 34)).alloc (.cells #[.int .i64 nbv, .int .i64 frv, .bool fuv, .int .i64 vwv, .int .i64 vhv, .slice av nv cv] 40)) #[.int .i64 0, .string ⟨#[]⟩, .string ⟨#[]⟩, .int .i64 0, .int .i64 0, .int .i64 0, .slice none 0 0] 34)
  rw [show (w.alloc (.cells #[.int .i64 id, .string win, .string tok, .int .i64 nb, .int .i64 vw, .int .i64 vh, .slice a n cap] 34)).heap.size = w.heap.size + 1 from by simp] at V0
  rw [show ((w.alloc (.cells #[.int .i64 id, .string win, .string tok, .int .i64 nb, .int .i64 vw, .int .i64 vh, .slice a n cap] 34)).alloc (.cells #[.int .i64 nbv, .int .i64 frv, .bool fuv, .int .i64 vwv, .int .i64 vhv, .slice av nv cv] 40)).heap.size = w.heap.size + 1 + 1 from by simp] at Z0
  have HR := hide hr
  have HRV := hide hrv
  clear hr hrv
  have ka := (unhide A0).S
  have kaf := (unhide A0).F
  have kv := (unhide V0).S
  have kz := (unhide Z0).S
  have kf := (unhide Z0).F
  have TOK0 : True := trivial
  have nt : (t.toList == t.toList) = true := by simp
  go_enter Tryz.func19, Tryz.ntmps19
  go_wp2_with (first | (go_at_call 37; have TOK4 := TOK0; refine (sissue id win nbv HT key HK6 t HS _).mono ?_; rintro e w4 ⟨rfl, hb4⟩; have B4 := hide ((unhide B0).trans (hb4.mono (unhide B0).size)); have A4 := hide ((unhide A0).below hb4); have V4 := hide ((unhide V0).below hb4); have Z4 := hide ((unhide Z0).below hb4); clear ka kaf kv kz kf hb4 TOK0; have ka := (unhide A4).S; have kaf := (unhide A4).F; have kv := (unhide V4).S; have kz := (unhide Z4).S; have kf := (unhide Z4).F) | (go_at_call 41; refine (sacc_all nb vw vh a cap n R HN nbv frv fuv vwv vhv av cv nv l HNV nb2 w2 h2 L _ HIA HQ1 HQ2 _ ((unhide HR).below (unhide B4)) ((unhide HRV).below (unhide B4))).mono ?_; rintro e w7 ⟨-, hN⟩; obtain ⟨⟨aX, cX, rfl, ho7⟩, hb7⟩ := hN rfl; clear hN; have O7 := hide (Go.Joins.ownsRow_le ho7 (show (w.heap.size + 3) ≤ _ from (unhide Z4).lt)); clear ho7; have B7 := hide ((unhide B4).trans (hb7.mono (unhide B4).size)); have A7 := hide ((unhide A4).below hb7); have Z7 := hide ((unhide Z4).below hb7); have A8 := hide ((unhide A7).alloc (.cells #[.int .i64 nb2, .int .i64 w2, .int .i64 h2, .slice aX L.length cX] 32)); have Z8 := hide ((unhide Z7).alloc (.cells #[.int .i64 nb2, .int .i64 w2, .int .i64 h2, .slice aX L.length cX] 32)); have z7a := (unhide A7).lt; have z7z := (unhide Z7).lt; clear ka kaf kv kz kf hb7; have ka := (unhide A8).S; have kaf := (unhide A8).F; have kz := (unhide Z8).S; have kf := (unhide Z8).F; have ka7 := (unhide A7).S; have kaf7 := (unhide A7).F; have kz7 := (unhide Z7).S; have kf7 := (unhide Z7).F))
  refine bodyPost_ret (v := .tuple #[.agg #[.int .i64 id, .string win, .string t, .int .i64 nb2, .int .i64 w2, .int .i64 h2, .slice aX L.length cX], .int .i64 0]) (by simp [results, Tryz.results19, go_sem, kz7, z7z, World.cell?_alloc_past]) rfl ⟨⟨_, _, rfl, ?_⟩, ?_⟩
  · refine rowZ_at (base := w.heap.size) (e := 9) (z := 1) (n := L.length) (cap := cX) ?_
    refine (Held.below (held_of (lo := w.heap.size) ?_) (Go.Joins.below_alloc1 _ _) (Nat.le_refl _)).own
    refine Go.Joins.ownsRow_le (base := (w.heap.size + 3)) ?_ (by omega)
    have hl1 : (w.heap.size + 1 + 1) < (w.heap.size + 3) := by omega
    have hl2 : w.heap.size < (w.heap.size + 3) := by omega
    iterate 12 refine ownsRow_setCell_below ?_ (by first | exact hl1 | exact hl2) _
    exact unhide O7
  · refine (fun hB => Below.alloc hB (Below.size hB) _) ?_
    have hl1 : w.heap.size ≤ (w.heap.size + 1 + 1) := by omega
    iterate 12 refine Below.setCell ?_ (by first | exact hl1 | exact Nat.le_refl _) _
    exact unhide B7

end Go.Proofs.YtmmnoepcklfonaaGreatDoor

/- ClientAccept: what the specification answers. -/
import Derived.Test.YtmmnoepcklfonaaGreatDoorZCaU
import Derived.Test.YtmmnoepcklfonaaGreatDoorZG22
import Derived.Test.YtmmnoepcklfonaaGreatDoorZCkS
import Derived.Test.YtmmnoepcklfonaaGreatDoorZVoS
namespace Go.Proofs.YtmmnoepcklfonaaGreatDoor
open Go.ChangeShapes Go.WideShapes Go.ChangeAt Go.RowKit
set_option linter.unusedVariables false
set_option maxHeartbeats 4000000 in
set_option maxRecDepth 100000 in
theorem sclacc (key : ByteArray) (id : Int) (win tok : ByteArray) (nb vw vh : Int) (a : Option Addr) (cap n : Nat) (R : List ByteArray) (HN : Hid (R.length = n)) (hn : n ≤ 1048576) (HSR : Hid (∀ k (h : k < R.length), R[k].size ≤ 1048576)) (nbv frv : Int) (fuv : Bool) (vwv vhv : Int) (av : Option Addr) (cv nv : Nat) (l : List Rw) (HNV : Hid (l.length = nv)) (hnv : nv ≤ 1048576) (HSV : Hid (∀ k (h : k < l.length), l[k].2.size ≤ 1048576)) (t : ByteArray) (HKS : Hid (key.size ≤ 1048576)) (HWS : Hid (win.size ≤ 1048576)) (id2 : Int) (win2 tok2 : ByteArray) (nb2 w2 h2 : Int) (L : List ByteArray) (c : Int) (HI : Hid (CaIs key t id win tok nb vw vh R nbv frv fuv vwv vhv l id2 win2 tok2 nb2 w2 h2 L c)) (w : World) (hr : RowV w a (cS R)) (hrv : RowV w av (cE l)) :
    Calls Tryz.prog 6 #[.string key, .agg #[.int .i64 id, .string win, .string tok, .int .i64 nb, .int .i64 vw, .int .i64 vh, .slice a n cap], .agg #[.int .i64 nbv, .int .i64 frv, .bool fuv, .int .i64 vwv, .int .i64 vhv, .slice av nv cv], .string t] w fun e w' => ∃ v, e = .returned (.tuple #[.agg #[.int .i64 id2, .string win2, .string tok2, .int .i64 nb2, .int .i64 w2, .int .i64 h2, v], .int .i64 c]) ∧ w'.ownsRow w.heap.size 9 1 v L.length (cS L) ∧ Below w.heap.size w w' := by
  have B0 := hide (Go.Joins.below_alloc3 w (.cells #[.int .i64 id, .string win, .string tok, .int .i64 nb, .int .i64 vw, .int .i64 vh, .slice a n cap] 34) (.cells #[.int .i64 nbv, .int .i64 frv, .bool fuv, .int .i64 vwv, .int .i64 vhv, .slice av nv cv] 40) (.cells #[.int .i64 0, .string ⟨#[]⟩, .string ⟨#[]⟩, .int .i64 0, .int .i64 0, .int .i64 0, .slice none 0 0] 34))
  have A0 := hide (((BF.new w #[.int .i64 id, .string win, .string tok, .int .i64 nb, .int .i64 vw, .int .i64 vh, .slice a n cap] 34).alloc (.cells #[.int .i64 nbv, .int .i64 frv, .bool fuv, .int .i64 vwv, .int .i64 vhv, .slice av nv cv] 40)).alloc (.cells #[.int .i64 0, .string ⟨#[]⟩, .string ⟨#[]⟩, .int .i64 0, .int .i64 0, .int .i64 0, .slice none 0 0] 34))
  have V0 := hide ((BF.new (w.alloc (.cells #[.int .i64 id, .string win, .string tok, .int .i64 nb, .int .i64 vw, .int .i64 vh, .slice a n cap] 34)) #[.int .i64 nbv, .int .i64 frv, .bool fuv, .int .i64 vwv, .int .i64 vhv, .slice av nv cv] 40).alloc (.cells #[.int .i64 0, .string ⟨#[]⟩, .string ⟨#[]⟩, .int .i64 0, .int .i64 0, .int .i64 0, .slice none 0 0] 34))
  have Z0 := hide (BF.new ((w.alloc (.cells #[.int .i64 id, .string win, .string tok, .int .i64 nb, .int .i64 vw, .int .i64 vh, .slice a n cap] 34)).alloc (.cells #[.int .i64 nbv, .int .i64 frv, .bool fuv, .int .i64 vwv, .int .i64 vhv, .slice av nv cv] 40)) #[.int .i64 0, .string ⟨#[]⟩, .string ⟨#[]⟩, .int .i64 0, .int .i64 0, .int .i64 0, .slice none 0 0] 34)
  rw [show (w.alloc (.cells #[.int .i64 id, .string win, .string tok, .int .i64 nb, .int .i64 vw, .int .i64 vh, .slice a n cap] 34)).heap.size = w.heap.size + 1 from by simp] at V0
  rw [show ((w.alloc (.cells #[.int .i64 id, .string win, .string tok, .int .i64 nb, .int .i64 vw, .int .i64 vh, .slice a n cap] 34)).alloc (.cells #[.int .i64 nbv, .int .i64 frv, .bool fuv, .int .i64 vwv, .int .i64 vhv, .slice av nv cv] 40)).heap.size = w.heap.size + 1 + 1 from by simp] at Z0
  have HR := hide hr
  have HRV := hide hrv
  have HNI := hide hn
  have HNVI := hide hnv
  clear hr hrv hn hnv
  have ka := (unhide A0).S
  have kaf := (unhide A0).F
  have kv := (unhide V0).S
  have kz := (unhide Z0).S
  have kf := (unhide Z0).F
  have TOK0 : True := trivial
  rcases unhide HI with ⟨h, e1, e2, e3, e4, e5, e6, e7, e8⟩ | ⟨h1, h2', h, e1, e2, e3, e4, e5, e6, e7, e8⟩ | ⟨h1, h2', h, hv, ht, e1, e2, e3, e4, e5, e6, e7, e8⟩ | ⟨h1, h2', h, hv, ht, e1, e2, e3, hA⟩
  · subst e1 e2 e3 e4 e5 e6 e7 e8
    clear HI
    by_cases b0 : 65536 < key.size
    · clear h
      have b0' : (65536 : Int) < (key.size : Int) := by omega
      go_enter Tryz.func6, Tryz.ntmps6
      go_wp2_with fail
      refine bodyPost_ret (v := .tuple #[.agg #[.int .i64 0, .string ⟨#[]⟩, .string ⟨#[]⟩, .int .i64 0, .int .i64 0, .int .i64 0, .slice none 0 0], .int .i64 2]) (by simp [results, Tryz.results6, go_sem, kz]) rfl ?_
      have hl1 : w.heap.size ≤ (w.heap.size + 1 + 1) := by omega
      exact ⟨_, rfl, World.ownsRow_nil _ _ _ _, by (repeat refine Below.setCell ?_ (by exact hl1) _); exact unhide B0⟩
    · have b1 : (65536 : Int) < (t.size : Int) := by omega
      have b0' : ¬ (65536 : Int) < (key.size : Int) := by omega
      clear h b0
      go_enter Tryz.func6, Tryz.ntmps6
      go_wp2_with fail
      refine bodyPost_ret (v := .tuple #[.agg #[.int .i64 0, .string ⟨#[]⟩, .string ⟨#[]⟩, .int .i64 0, .int .i64 0, .int .i64 0, .slice none 0 0], .int .i64 2]) (by simp [results, Tryz.results6, go_sem, kz]) rfl ?_
      have hl1 : w.heap.size ≤ (w.heap.size + 1 + 1) := by omega
      exact ⟨_, rfl, World.ownsRow_nil _ _ _ _, by (repeat refine Below.setCell ?_ (by exact hl1) _); exact unhide B0⟩
  · subst e1 e2 e3 e4 e5 e6 e7 e8
    have b0 : ¬ (65536 : Int) < (key.size : Int) := by omega
    have b1 : ¬ (65536 : Int) < (t.size : Int) := by omega
    clear HI h1 h2'
    obtain ⟨q1, hq1⟩ : ∃ q, q = clB key id win tok nb vw vh R := ⟨_, rfl⟩
    have HQ1 := hide hq1
    cases q1 with
    | false =>
      clear hq1 h
      go_enter Tryz.func6, Tryz.ntmps6
      go_wp2_with (first | (go_at_call 17; have TOK4 := TOK0; refine (scliok key _ _ _ _ _ _ a cap n _ HN (unhide HNI) HSR HKS HWS false HQ1 _ ((unhide HR).below (unhide B0))).mono ?_; rintro e w4 ⟨rfl, hb4⟩; have B4 := hide ((unhide B0).trans (hb4.mono (unhide B0).size)); have A4 := hide ((unhide A0).below hb4); have V4 := hide ((unhide V0).below hb4); have Z4 := hide ((unhide Z0).below hb4); clear ka kaf kv kz kf hb4 TOK0; have ka := (unhide A4).S; have kaf := (unhide A4).F; have kv := (unhide V4).S; have kz := (unhide Z4).S; have kf := (unhide Z4).F))
      refine bodyPost_ret (v := .tuple #[.agg #[.int .i64 0, .string ⟨#[]⟩, .string ⟨#[]⟩, .int .i64 0, .int .i64 0, .int .i64 0, .slice none 0 0], .int .i64 1]) (by simp [results, Tryz.results6, go_sem, kz]) rfl ?_
      have hl1 : w.heap.size ≤ (w.heap.size + 1 + 1) := by omega
      exact ⟨_, rfl, World.ownsRow_nil _ _ _ _, by (repeat refine Below.setCell ?_ (by exact hl1) _); exact unhide B4⟩
    | true =>
      have HQ2 : Hid (false = vwB nbv frv fuv vwv vhv l) := by show _ = _; rw [← hq1, Bool.true_and] at h; exact h.symm
      clear hq1 h
      go_enter Tryz.func6, Tryz.ntmps6
      go_wp2_with (first | (go_at_call 17; have TOK4 := TOK0; refine (scliok key _ _ _ _ _ _ a cap n _ HN (unhide HNI) HSR HKS HWS true HQ1 _ ((unhide HR).below (unhide B0))).mono ?_; rintro e w4 ⟨rfl, hb4⟩; have B4 := hide ((unhide B0).trans (hb4.mono (unhide B0).size)); have A4 := hide ((unhide A0).below hb4); have V4 := hide ((unhide V0).below hb4); have Z4 := hide ((unhide Z0).below hb4); clear ka kaf kv kz kf hb4 TOK0; have ka := (unhide A4).S; have kaf := (unhide A4).F; have kv := (unhide V4).S; have kz := (unhide Z4).S; have kf := (unhide Z4).F) | (go_at_call 18; have TOK5 := TOK4; refine (svwok nbv frv fuv vwv vhv av cv nv l HNV (unhide HNVI) HSV false HQ2 _ ((unhide HRV).below (unhide B4))).mono ?_; rintro e w5 ⟨rfl, hb5⟩; have B5 := hide ((unhide B4).trans (hb5.mono (unhide B4).size)); have A5 := hide ((unhide A4).below hb5); have V5 := hide ((unhide V4).below hb5); have Z5 := hide ((unhide Z4).below hb5); clear ka kaf kv kz kf hb5 TOK4; have ka := (unhide A5).S; have kaf := (unhide A5).F; have kv := (unhide V5).S; have kz := (unhide Z5).S; have kf := (unhide Z5).F))
      refine bodyPost_ret (v := .tuple #[.agg #[.int .i64 0, .string ⟨#[]⟩, .string ⟨#[]⟩, .int .i64 0, .int .i64 0, .int .i64 0, .slice none 0 0], .int .i64 1]) (by simp [results, Tryz.results6, go_sem, kz]) rfl ?_
      have hl1 : w.heap.size ≤ (w.heap.size + 1 + 1) := by omega
      exact ⟨_, rfl, World.ownsRow_nil _ _ _ _, by (repeat refine Below.setCell ?_ (by exact hl1) _); exact unhide B5⟩
  · subst e1 e2 e3 e4 e5 e6 e7 e8
    have b0 : ¬ (65536 : Int) < (key.size : Int) := by omega
    have b1 : ¬ (65536 : Int) < (t.size : Int) := by omega
    have HK6 := hide h1
    have HQ1 := hide h.symm
    have HQ2 := hide hv.symm
    have HTB := hide ht.symm
    have HTK := hide (ca_tok h hv t)
    have HT := hide (unhide HTK).1
    obtain ⟨S, hS⟩ : ∃ S, S = issT key id2 win2 nbv := ⟨_, rfl⟩
    have nt : (t.toList == S.toList) = false := by
      rw [eq_list, hS]
      have e := (unhide HTK).2
      rw [← unhide HTB] at e
      exact decide_eq_false (fun h => of_decide_eq_false e.symm h.symm)
    have HS := hide hS
    clear HI h h1 h2' hv ht hS HTK HTB
    go_enter Tryz.func6, Tryz.ntmps6
    go_wp2_with (first | (go_at_call 17; have TOK4 := TOK0; refine (scliok key _ _ _ _ _ _ a cap n _ HN (unhide HNI) HSR HKS HWS true HQ1 _ ((unhide HR).below (unhide B0))).mono ?_; rintro e w4 ⟨rfl, hb4⟩; have B4 := hide ((unhide B0).trans (hb4.mono (unhide B0).size)); have A4 := hide ((unhide A0).below hb4); have V4 := hide ((unhide V0).below hb4); have Z4 := hide ((unhide Z0).below hb4); clear ka kaf kv kz kf hb4 TOK0; have ka := (unhide A4).S; have kaf := (unhide A4).F; have kv := (unhide V4).S; have kz := (unhide Z4).S; have kf := (unhide Z4).F) | (go_at_call 18; have TOK5 := TOK4; refine (svwok nbv frv fuv vwv vhv av cv nv l HNV (unhide HNVI) HSV true HQ2 _ ((unhide HRV).below (unhide B4))).mono ?_; rintro e w5 ⟨rfl, hb5⟩; have B5 := hide ((unhide B4).trans (hb5.mono (unhide B4).size)); have A5 := hide ((unhide A4).below hb5); have V5 := hide ((unhide V4).below hb5); have Z5 := hide ((unhide Z4).below hb5); clear ka kaf kv kz kf hb5 TOK4; have ka := (unhide A5).S; have kaf := (unhide A5).F; have kv := (unhide V5).S; have kz := (unhide Z5).S; have kf := (unhide Z5).F) | (go_at_call 19; refine (stake_no key id2 win2 tok2 nb2 w2 h2 a cap n L HN nbv frv fuv vwv vhv av cv nv l HNV t HK6 HT S HS nt _ ((unhide HR).below (unhide B5)) ((unhide HRV).below (unhide B5))).mono ?_; rintro e w6 ⟨⟨aX, cX, rfl, hrX⟩, hb6⟩; have B6 := hide ((unhide B5).trans (hb6.mono (unhide B5).size)); have Z6 := hide ((unhide Z5).below hb6); have HRX := hide (hrX.below (Go.Joins.below_alloc1 _ (.cells #[.int .i64 id2, .string win2, .string tok2, .int .i64 nb2, .int .i64 w2, .int .i64 h2, .slice aX n cX] 34))); have B7 := hide ((unhide B6).alloc (unhide B6).size (.cells #[.int .i64 id2, .string win2, .string tok2, .int .i64 nb2, .int .i64 w2, .int .i64 h2, .slice aX n cX] 34)); have Z7 := hide ((unhide Z6).alloc (.cells #[.int .i64 id2, .string win2, .string tok2, .int .i64 nb2, .int .i64 w2, .int .i64 h2, .slice aX n cX] 34)); clear ka kaf kv kz kf hb6 hrX TOK5; have kz := (unhide Z7).S; have kf := (unhide Z7).F; have kz6 := (unhide Z6).S; have kf6 := (unhide Z6).F) | (go_at_call 20; refine (s13own _ _ _ _ _ _ aX cX n _ HN (unhide HNI) _ (unhide HRX)).mono ?_; rintro e w8 ⟨v8, rfl, ho8, hb8⟩; obtain ⟨a8, c8, rfl, -⟩ := own_rowV ho8; have B8 := hide ((unhide B7).trans (hb8.mono (unhide B7).size)); have Z8 := hide ((unhide Z7).below hb8); have O8 := hide (Go.Joins.ownsRow_le ho8 (show (w.heap.size + 3) ≤ _ from (by have := (unhide Z7).lt; omega))); clear kz kf kz6 kf6 hb8 ho8; have kz := (unhide Z8).S; have kf := (unhide Z8).F))
    refine bodyPost_ret (v := .tuple #[.agg #[.int .i64 id2, .string win2, .string tok2, .int .i64 nb2, .int .i64 w2, .int .i64 h2, .slice a8 n c8], .int .i64 16]) (by simp [results, Tryz.results6, go_sem, kz]) rfl ⟨_, rfl, ?_, ?_⟩
    · rw [unhide HN]; refine Go.Joins.ownsRow_le (base := (w.heap.size + 3)) ?_ (by omega)
      have hl1 : (w.heap.size + 1 + 1) < (w.heap.size + 3) := by omega
      iterate 7 refine ownsRow_setCell_below ?_ (by exact hl1) _
      exact unhide O8
    · have hl1 : w.heap.size ≤ (w.heap.size + 1 + 1) := by omega
      iterate 7 refine Below.setCell ?_ (by exact hl1) _
      exact unhide B8
  · subst e1 e2
    have HIA := hide hA
    have HM := hide (cl_mirOf h).symm
    have b0 : ¬ (65536 : Int) < (key.size : Int) := by omega
    have b1 : ¬ (65536 : Int) < (t.size : Int) := by omega
    have HK6 := hide h1
    have HQ1 := hide h.symm
    have HQ2 := hide hv.symm
    have HTB := hide ht.symm
    have HTK := hide (ca_tok h hv t)
    have HT := hide (unhide HTK).1
    have hS : t = issT key id2 win2 nbv := by
      have e := (unhide HTK).2
      rw [← unhide HTB] at e
      exact (of_decide_eq_true e.symm).symm
    have HL10 := hide (av_len hA)
    by_cases hc : c = 0
    · subst hc
      rw [if_pos rfl] at e3
      subst e3
      have HS := hide hS
      clear HI h h1 h2' hv ht hS HTK HTB hA
      go_enter Tryz.func6, Tryz.ntmps6
      go_wp2_with (first | (go_at_call 17; have TOK4 := TOK0; refine (scliok key _ _ _ _ _ _ a cap n _ HN (unhide HNI) HSR HKS HWS true HQ1 _ ((unhide HR).below (unhide B0))).mono ?_; rintro e w4 ⟨rfl, hb4⟩; have B4 := hide ((unhide B0).trans (hb4.mono (unhide B0).size)); have A4 := hide ((unhide A0).below hb4); have V4 := hide ((unhide V0).below hb4); have Z4 := hide ((unhide Z0).below hb4); clear ka kaf kv kz kf hb4 TOK0; have ka := (unhide A4).S; have kaf := (unhide A4).F; have kv := (unhide V4).S; have kz := (unhide Z4).S; have kf := (unhide Z4).F) | (go_at_call 18; have TOK5 := TOK4; refine (svwok nbv frv fuv vwv vhv av cv nv l HNV (unhide HNVI) HSV true HQ2 _ ((unhide HRV).below (unhide B4))).mono ?_; rintro e w5 ⟨rfl, hb5⟩; have B5 := hide ((unhide B4).trans (hb5.mono (unhide B4).size)); have A5 := hide ((unhide A4).below hb5); have V5 := hide ((unhide V4).below hb5); have Z5 := hide ((unhide Z4).below hb5); clear ka kaf kv kz kf hb5 TOK4; have ka := (unhide A5).S; have kaf := (unhide A5).F; have kv := (unhide V5).S; have kz := (unhide Z5).S; have kf := (unhide Z5).F) | (go_at_call 19; refine (stake_0 key id2 win2 tok nb vw vh a cap n R HN nbv frv fuv vwv vhv av cv nv l HNV tok2 HK6 HT nb2 w2 h2 L HIA HM HQ2 HS _ ((unhide HR).below (unhide B5)) ((unhide HRV).below (unhide B5))).mono ?_; rintro e w6 ⟨⟨aX, cX, rfl, hrX⟩, hb6⟩; have B6 := hide ((unhide B5).trans (hb6.mono (unhide B5).size)); have Z6 := hide ((unhide Z5).below hb6); have HRX := hide (hrX.below (Go.Joins.below_alloc1 _ (.cells #[.int .i64 id2, .string win2, .string tok2, .int .i64 nb2, .int .i64 w2, .int .i64 h2, .slice aX L.length cX] 34))); have B7 := hide ((unhide B6).alloc (unhide B6).size (.cells #[.int .i64 id2, .string win2, .string tok2, .int .i64 nb2, .int .i64 w2, .int .i64 h2, .slice aX L.length cX] 34)); have Z7 := hide ((unhide Z6).alloc (.cells #[.int .i64 id2, .string win2, .string tok2, .int .i64 nb2, .int .i64 w2, .int .i64 h2, .slice aX L.length cX] 34)); clear ka kaf kv kz kf hb6 hrX TOK5; have kz := (unhide Z7).S; have kf := (unhide Z7).F; have kz6 := (unhide Z6).S; have kf6 := (unhide Z6).F) | (go_at_call 20; refine (s13own _ _ _ _ _ _ aX cX L.length _ (show Hid (L.length = L.length) from rfl) (by have := unhide HL10; omega) _ (unhide HRX)).mono ?_; rintro e w8 ⟨v8, rfl, ho8, hb8⟩; obtain ⟨a8, c8, rfl, -⟩ := own_rowV ho8; have B8 := hide ((unhide B7).trans (hb8.mono (unhide B7).size)); have Z8 := hide ((unhide Z7).below hb8); have O8 := hide (Go.Joins.ownsRow_le ho8 (show (w.heap.size + 3) ≤ _ from (by have := (unhide Z7).lt; omega))); clear kz kf kz6 kf6 hb8 ho8; have kz := (unhide Z8).S; have kf := (unhide Z8).F))
      refine bodyPost_ret (v := .tuple #[.agg #[.int .i64 id2, .string win2, .string tok2, .int .i64 nb2, .int .i64 w2, .int .i64 h2, .slice a8 L.length c8], .int .i64 0]) (by simp [results, Tryz.results6, go_sem, kz]) rfl ⟨_, rfl, ?_, ?_⟩
      · refine Go.Joins.ownsRow_le (base := (w.heap.size + 3)) ?_ (by omega)
        have hl1 : (w.heap.size + 1 + 1) < (w.heap.size + 3) := by omega
        iterate 7 refine ownsRow_setCell_below ?_ (by exact hl1) _
        exact unhide O8
      · have hl1 : w.heap.size ≤ (w.heap.size + 1 + 1) := by omega
        iterate 7 refine Below.setCell ?_ (by exact hl1) _
        exact unhide B8
    · rw [if_neg hc] at e3
      subst e3
      obtain ⟨f1, f2, f3, f4⟩ := av_c hA hc (cl_mirOf h) hv
      subst f1 f2 f3 f4
      have HS := hide hS
      clear HI h h1 h2' hv ht hS HTK HTB hA
      have hc2 := hc
      have HC := hide hc
      clear hc hc2
      go_enter Tryz.func6, Tryz.ntmps6
      go_wp2_with (first | (go_at_call 17; have TOK4 := TOK0; refine (scliok key _ _ _ _ _ _ a cap n _ HN (unhide HNI) HSR HKS HWS true HQ1 _ ((unhide HR).below (unhide B0))).mono ?_; rintro e w4 ⟨rfl, hb4⟩; have B4 := hide ((unhide B0).trans (hb4.mono (unhide B0).size)); have A4 := hide ((unhide A0).below hb4); have V4 := hide ((unhide V0).below hb4); have Z4 := hide ((unhide Z0).below hb4); clear ka kaf kv kz kf hb4 TOK0; have ka := (unhide A4).S; have kaf := (unhide A4).F; have kv := (unhide V4).S; have kz := (unhide Z4).S; have kf := (unhide Z4).F) | (go_at_call 18; have TOK5 := TOK4; refine (svwok nbv frv fuv vwv vhv av cv nv l HNV (unhide HNVI) HSV true HQ2 _ ((unhide HRV).below (unhide B4))).mono ?_; rintro e w5 ⟨rfl, hb5⟩; have B5 := hide ((unhide B4).trans (hb5.mono (unhide B4).size)); have A5 := hide ((unhide A4).below hb5); have V5 := hide ((unhide V4).below hb5); have Z5 := hide ((unhide Z4).below hb5); clear ka kaf kv kz kf hb5 TOK4; have ka := (unhide A5).S; have kaf := (unhide A5).F; have kv := (unhide V5).S; have kz := (unhide Z5).S; have kf := (unhide Z5).F) | (go_at_call 19; refine (stake_c key id2 win2 tok2 nb2 w2 h2 a cap n L HN nbv frv fuv vwv vhv av cv nv l HNV t HK6 HT nb2 w2 h2 L c (unhide HC) HIA HM HQ2 HS _ ((unhide HR).below (unhide B5)) ((unhide HRV).below (unhide B5))).mono ?_; rintro e w6 ⟨⟨aX, cX, rfl, hrX⟩, hb6⟩; have B6 := hide ((unhide B5).trans (hb6.mono (unhide B5).size)); have Z6 := hide ((unhide Z5).below hb6); have HRX := hide (hrX.below (Go.Joins.below_alloc1 _ (.cells #[.int .i64 id2, .string win2, .string tok2, .int .i64 nb2, .int .i64 w2, .int .i64 h2, .slice aX n cX] 34))); have B7 := hide ((unhide B6).alloc (unhide B6).size (.cells #[.int .i64 id2, .string win2, .string tok2, .int .i64 nb2, .int .i64 w2, .int .i64 h2, .slice aX n cX] 34)); have Z7 := hide ((unhide Z6).alloc (.cells #[.int .i64 id2, .string win2, .string tok2, .int .i64 nb2, .int .i64 w2, .int .i64 h2, .slice aX n cX] 34)); clear ka kaf kv kz kf hb6 hrX TOK5; have kz := (unhide Z7).S; have kf := (unhide Z7).F; have kz6 := (unhide Z6).S; have kf6 := (unhide Z6).F) | (go_at_call 20; refine (s13own _ _ _ _ _ _ aX cX n _ HN (unhide HNI) _ (unhide HRX)).mono ?_; rintro e w8 ⟨v8, rfl, ho8, hb8⟩; obtain ⟨a8, c8, rfl, -⟩ := own_rowV ho8; have B8 := hide ((unhide B7).trans (hb8.mono (unhide B7).size)); have Z8 := hide ((unhide Z7).below hb8); have O8 := hide (Go.Joins.ownsRow_le ho8 (show (w.heap.size + 3) ≤ _ from (by have := (unhide Z7).lt; omega))); clear kz kf kz6 kf6 hb8 ho8; have kz := (unhide Z8).S; have kf := (unhide Z8).F))
      refine bodyPost_ret (v := .tuple #[.agg #[.int .i64 id2, .string win2, .string tok2, .int .i64 nb2, .int .i64 w2, .int .i64 h2, .slice a8 n c8], .int .i64 c]) (by simp [results, Tryz.results6, go_sem, kz]) rfl ⟨_, rfl, ?_, ?_⟩
      · rw [unhide HN]; refine Go.Joins.ownsRow_le (base := (w.heap.size + 3)) ?_ (by omega)
        have hl1 : (w.heap.size + 1 + 1) < (w.heap.size + 3) := by omega
        iterate 7 refine ownsRow_setCell_below ?_ (by exact hl1) _
        exact unhide O8
      · have hl1 : w.heap.size ≤ (w.heap.size + 1 + 1) := by omega
        iterate 7 refine Below.setCell ?_ (by exact hl1) _
        exact unhide B8
end Go.Proofs.YtmmnoepcklfonaaGreatDoor

/- ClientAccept: what the program answers. -/
import Derived.Test.YtmmnoepcklfonaaGreatDoorZG20
import Derived.Test.YtmmnoepcklfonaaGreatDoorZG22
import Derived.Test.YtmmnoepcklfonaaGreatDoorZG26
import Derived.Test.YtmmnoepcklfonaaGreatDoorZAvE
namespace Go.Proofs.YtmmnoepcklfonaaGreatDoor
open Go.ChangeShapes Go.WideShapes Go.ChangeAt Go.RowKit
set_option linter.unusedVariables false
set_option maxHeartbeats 4000000 in
set_option maxRecDepth 100000 in
theorem iclacc (key : ByteArray) (id : Int) (win tok : ByteArray) (nb vw vh : Int) (a : Option Addr) (cap n : Nat) (R : List ByteArray) (HN : Hid (R.length = n)) (hn : n ≤ 1048576) (HSR : Hid (∀ k (h : k < R.length), R[k].size ≤ 1048576)) (nbv frv : Int) (fuv : Bool) (vwv vhv : Int) (av : Option Addr) (cv nv : Nat) (l : List Rw) (HNV : Hid (l.length = nv)) (hnv : nv ≤ 1048576) (HSV : Hid (∀ k (h : k < l.length), l[k].2.size ≤ 1048576)) (t : ByteArray) (HKS : Hid (key.size ≤ 1048576)) (HWS : Hid (win.size ≤ 1048576)) (id2 : Int) (win2 tok2 : ByteArray) (nb2 w2 h2 : Int) (L : List ByteArray) (c : Int) (HI : Hid (CaIs key t id win tok nb vw vh R nbv frv fuv vwv vhv l id2 win2 tok2 nb2 w2 h2 L c)) (w : World) (hr : RowV w a (cS R)) (hrv : RowV w av (cE l)) (hp : PowIn w) (hk : KIn w) :
    Calls Tryz.prog 9 #[.string key, .agg #[.int .i64 id, .string win, .string tok, .int .i64 nb, .int .i64 vw, .int .i64 vh, .slice a n cap], .agg #[.int .i64 nbv, .int .i64 frv, .bool fuv, .int .i64 vwv, .int .i64 vhv, .slice av nv cv], .string t] w fun e w' => ∃ v, e = .returned (.tuple #[.agg #[.int .i64 id2, .string win2, .string tok2, .int .i64 nb2, .int .i64 w2, .int .i64 h2, v], .int .i64 c]) ∧ w'.ownsRow w.heap.size 9 1 v L.length (cS L) ∧ Below w.heap.size w w' := by
  have B0 := hide (Go.Joins.below_alloc3 w (.cells #[.int .i64 id, .string win, .string tok, .int .i64 nb, .int .i64 vw, .int .i64 vh, .slice a n cap] 34) (.cells #[.int .i64 nbv, .int .i64 frv, .bool fuv, .int .i64 vwv, .int .i64 vhv, .slice av nv cv] 40) (.cells #[.int .i64 0, .string ⟨#[]⟩, .string ⟨#[]⟩, .int .i64 0, .int .i64 0, .int .i64 0, .slice none 0 0] 34))
  have A0 := hide (((BF.new w #[.int .i64 id, .string win, .string tok, .int .i64 nb, .int .i64 vw, .int .i64 vh, .slice a n cap] 34).alloc (.cells #[.int .i64 nbv, .int .i64 frv, .bool fuv, .int .i64 vwv, .int .i64 vhv, .slice av nv cv] 40)).alloc (.cells #[.int .i64 0, .string ⟨#[]⟩, .string ⟨#[]⟩, .int .i64 0, .int .i64 0, .int .i64 0, .slice none 0 0] 34))
  have V0 := hide ((BF.new (w.alloc (.cells #[.int .i64 id, .string win, .string tok, .int .i64 nb, .int .i64 vw, .int .i64 vh, .slice a n cap] 34)) #[.int .i64 nbv, .int .i64 frv, .bool fuv, .int .i64 vwv, .int .i64 vhv, .slice av nv cv] 40).alloc (.cells #[.int .i64 0, .string ⟨#[]⟩, .string ⟨#[]⟩, .int .i64 0, .int .i64 0, .int .i64 0, .slice none 0 0] 34))
  have Z0 := hide (BF.new ((w.alloc (.cells #[.int .i64 id, .string win, .string tok, .int .i64 nb, .int .i64 vw, .int .i64 vh, .slice a n cap] 34)).alloc (.cells #[.int .i64 nbv, .int .i64 frv, .bool fuv, .int .i64 vwv, .int .i64 vhv, .slice av nv cv] 40)) #[.int .i64 0, .string ⟨#[]⟩, .string ⟨#[]⟩, .int .i64 0, .int .i64 0, .int .i64 0, .slice none 0 0] 34)
  rw [show (w.alloc (.cells #[.int .i64 id, .string win, .string tok, .int .i64 nb, .int .i64 vw, .int .i64 vh, .slice a n cap] 34)).heap.size = w.heap.size + 1 from by simp] at V0
  rw [show ((w.alloc (.cells #[.int .i64 id, .string win, .string tok, .int .i64 nb, .int .i64 vw, .int .i64 vh, .slice a n cap] 34)).alloc (.cells #[.int .i64 nbv, .int .i64 frv, .bool fuv, .int .i64 vwv, .int .i64 vhv, .slice av nv cv] 40)).heap.size = w.heap.size + 1 + 1 from by simp] at Z0
  have HP := hide hp
  have HK := hide hk
  clear hp hk
  have HR := hide hr
  have HRV := hide hrv
  have HNI := hide hn
  have HNVI := hide hnv
  clear hr hrv hn hnv
  have ka := (unhide A0).S
  have kaf := (unhide A0).F
  have kv := (unhide V0).S
  have kz := (unhide Z0).S
  have kf := (unhide Z0).F
  have TOK0 : True := trivial
  rcases unhide HI with ⟨h, e1, e2, e3, e4, e5, e6, e7, e8⟩ | ⟨h1, h2', h, e1, e2, e3, e4, e5, e6, e7, e8⟩ | ⟨h1, h2', h, hv, ht, e1, e2, e3, e4, e5, e6, e7, e8⟩ | ⟨h1, h2', h, hv, ht, e1, e2, e3, hA⟩
  · subst e1 e2 e3 e4 e5 e6 e7 e8
    clear HI
    by_cases b0 : 65536 < key.size
    · clear h
      have b0' : (65536 : Int) < (key.size : Int) := by omega
      go_enter Tryz.func9, Tryz.ntmps9
      go_wp2_with fail
      refine bodyPost_ret (v := .tuple #[.agg #[.int .i64 0, .string ⟨#[]⟩, .string ⟨#[]⟩, .int .i64 0, .int .i64 0, .int .i64 0, .slice none 0 0], .int .i64 2]) (by simp [results, Tryz.results9, go_sem, kz]) rfl ?_
      have hl1 : w.heap.size ≤ (w.heap.size + 1 + 1) := by omega
      exact ⟨_, rfl, World.ownsRow_nil _ _ _ _, by (repeat refine Below.setCell ?_ (by exact hl1) _); exact unhide B0⟩
    · have b1 : (65536 : Int) < (t.size : Int) := by omega
      have b0' : ¬ (65536 : Int) < (key.size : Int) := by omega
      clear h b0
      go_enter Tryz.func9, Tryz.ntmps9
      go_wp2_with fail
      refine bodyPost_ret (v := .tuple #[.agg #[.int .i64 0, .string ⟨#[]⟩, .string ⟨#[]⟩, .int .i64 0, .int .i64 0, .int .i64 0, .slice none 0 0], .int .i64 2]) (by simp [results, Tryz.results9, go_sem, kz]) rfl ?_
      have hl1 : w.heap.size ≤ (w.heap.size + 1 + 1) := by omega
      exact ⟨_, rfl, World.ownsRow_nil _ _ _ _, by (repeat refine Below.setCell ?_ (by exact hl1) _); exact unhide B0⟩
  · subst e1 e2 e3 e4 e5 e6 e7 e8
    have b0 : ¬ (65536 : Int) < (key.size : Int) := by omega
    have b1 : ¬ (65536 : Int) < (t.size : Int) := by omega
    clear HI h1 h2'
    obtain ⟨q1, hq1⟩ : ∃ q, q = clB key id win tok nb vw vh R := ⟨_, rfl⟩
    have HQ1 := hide hq1
    cases q1 with
    | false =>
      clear hq1 h
      go_enter Tryz.func9, Tryz.ntmps9
      go_wp2_with (first | (go_at_call 23; have TOK4 := TOK0; refine (icliok key _ _ _ _ _ _ a cap n _ HN (unhide HNI) HSR HKS HWS false HQ1 _ ((unhide HR).below (unhide B0)) ((unhide HP).below (unhide B0) (unhide HP).pos) ((unhide HK).below (unhide B0) (unhide HK).pos)).mono ?_; rintro e w4 ⟨rfl, hb4⟩; have B4 := hide ((unhide B0).trans (hb4.mono (unhide B0).size)); have A4 := hide ((unhide A0).below hb4); have V4 := hide ((unhide V0).below hb4); have Z4 := hide ((unhide Z0).below hb4); clear ka kaf kv kz kf hb4 TOK0; have ka := (unhide A4).S; have kaf := (unhide A4).F; have kv := (unhide V4).S; have kz := (unhide Z4).S; have kf := (unhide Z4).F))
      refine bodyPost_ret (v := .tuple #[.agg #[.int .i64 0, .string ⟨#[]⟩, .string ⟨#[]⟩, .int .i64 0, .int .i64 0, .int .i64 0, .slice none 0 0], .int .i64 1]) (by simp [results, Tryz.results9, go_sem, kz]) rfl ?_
      have hl1 : w.heap.size ≤ (w.heap.size + 1 + 1) := by omega
      exact ⟨_, rfl, World.ownsRow_nil _ _ _ _, by (repeat refine Below.setCell ?_ (by exact hl1) _); exact unhide B4⟩
    | true =>
      have HQ2 : Hid (false = vwB nbv frv fuv vwv vhv l) := by show _ = _; rw [← hq1, Bool.true_and] at h; exact h.symm
      clear hq1 h
      go_enter Tryz.func9, Tryz.ntmps9
      go_wp2_with (first | (go_at_call 23; have TOK4 := TOK0; refine (icliok key _ _ _ _ _ _ a cap n _ HN (unhide HNI) HSR HKS HWS true HQ1 _ ((unhide HR).below (unhide B0)) ((unhide HP).below (unhide B0) (unhide HP).pos) ((unhide HK).below (unhide B0) (unhide HK).pos)).mono ?_; rintro e w4 ⟨rfl, hb4⟩; have B4 := hide ((unhide B0).trans (hb4.mono (unhide B0).size)); have A4 := hide ((unhide A0).below hb4); have V4 := hide ((unhide V0).below hb4); have Z4 := hide ((unhide Z0).below hb4); clear ka kaf kv kz kf hb4 TOK0; have ka := (unhide A4).S; have kaf := (unhide A4).F; have kv := (unhide V4).S; have kz := (unhide Z4).S; have kf := (unhide Z4).F) | (go_at_call 24; have TOK5 := TOK4; refine (ivwok nbv frv fuv vwv vhv av cv nv l HNV (unhide HNVI) HSV false HQ2 _ ((unhide HRV).below (unhide B4))).mono ?_; rintro e w5 ⟨rfl, hb5⟩; have B5 := hide ((unhide B4).trans (hb5.mono (unhide B4).size)); have A5 := hide ((unhide A4).below hb5); have V5 := hide ((unhide V4).below hb5); have Z5 := hide ((unhide Z4).below hb5); clear ka kaf kv kz kf hb5 TOK4; have ka := (unhide A5).S; have kaf := (unhide A5).F; have kv := (unhide V5).S; have kz := (unhide Z5).S; have kf := (unhide Z5).F))
      refine bodyPost_ret (v := .tuple #[.agg #[.int .i64 0, .string ⟨#[]⟩, .string ⟨#[]⟩, .int .i64 0, .int .i64 0, .int .i64 0, .slice none 0 0], .int .i64 1]) (by simp [results, Tryz.results9, go_sem, kz]) rfl ?_
      have hl1 : w.heap.size ≤ (w.heap.size + 1 + 1) := by omega
      exact ⟨_, rfl, World.ownsRow_nil _ _ _ _, by (repeat refine Below.setCell ?_ (by exact hl1) _); exact unhide B5⟩
  · subst e1 e2 e3 e4 e5 e6 e7 e8
    have b0 : ¬ (65536 : Int) < (key.size : Int) := by omega
    have b1 : ¬ (65536 : Int) < (t.size : Int) := by omega
    have HK6 := hide h1
    have HQ1 := hide h.symm
    have HQ2 := hide hv.symm
    have HTB := hide ht.symm
    have HTK := hide (ca_tok h hv t)
    clear HI h h1 h2' hv ht
    go_enter Tryz.func9, Tryz.ntmps9
    go_wp2_with (first | (go_at_call 23; have TOK4 := TOK0; refine (icliok key _ _ _ _ _ _ a cap n _ HN (unhide HNI) HSR HKS HWS true HQ1 _ ((unhide HR).below (unhide B0)) ((unhide HP).below (unhide B0) (unhide HP).pos) ((unhide HK).below (unhide B0) (unhide HK).pos)).mono ?_; rintro e w4 ⟨rfl, hb4⟩; have B4 := hide ((unhide B0).trans (hb4.mono (unhide B0).size)); have A4 := hide ((unhide A0).below hb4); have V4 := hide ((unhide V0).below hb4); have Z4 := hide ((unhide Z0).below hb4); clear ka kaf kv kz kf hb4 TOK0; have ka := (unhide A4).S; have kaf := (unhide A4).F; have kv := (unhide V4).S; have kz := (unhide Z4).S; have kf := (unhide Z4).F) | (go_at_call 24; have TOK5 := TOK4; refine (ivwok nbv frv fuv vwv vhv av cv nv l HNV (unhide HNVI) HSV true HQ2 _ ((unhide HRV).below (unhide B4))).mono ?_; rintro e w5 ⟨rfl, hb5⟩; have B5 := hide ((unhide B4).trans (hb5.mono (unhide B4).size)); have A5 := hide ((unhide A4).below hb5); have V5 := hide ((unhide V4).below hb5); have Z5 := hide ((unhide Z4).below hb5); clear ka kaf kv kz kf hb5 TOK4; have ka := (unhide A5).S; have kaf := (unhide A5).F; have kv := (unhide V5).S; have kz := (unhide Z5).S; have kf := (unhide Z5).F) | (go_at_call 25; have TOK6 := TOK5; refine (ihasT _ _ _ _ _ _ a n cap key nbv _ HKS HWS false HTB _ ((unhide HP).below (unhide B5) (unhide HP).pos) ((unhide HK).below (unhide B5) (unhide HK).pos)).mono ?_; rintro e w6 ⟨rfl, hb6⟩; have B6 := hide ((unhide B5).trans (hb6.mono (unhide B5).size)); have A6 := hide ((unhide A5).below hb6); have V6 := hide ((unhide V5).below hb6); have Z6 := hide ((unhide Z5).below hb6); clear ka kaf kv kz kf hb6 TOK5; have ka := (unhide A6).S; have kaf := (unhide A6).F; have kv := (unhide V6).S; have kz := (unhide Z6).S; have kf := (unhide Z6).F) | (go_at_call 26; have TOK7 := TOK6; refine (icopC _ _ _ _ _ _ a cap n _ HN (unhide HNI) _ ((unhide HR).below (unhide B6))).mono ?_; rintro e w7 ⟨v7, rfl, ho7, hb7⟩; have B7 := hide ((unhide B6).trans (hb7.mono (unhide B6).size)); have A7 := hide ((unhide A6).below hb7); have V7 := hide ((unhide V6).below hb7); have Z7 := hide ((unhide Z6).below hb7); obtain ⟨a7, c7, rfl, -⟩ := own_rowV ho7; have O7 := hide (Go.Joins.ownsRow_le ho7 (show (w.heap.size + 3) ≤ _ from (unhide Z6).lt)); clear ho7; clear ka kaf kv kz kf hb7 TOK6; have ka := (unhide A7).S; have kaf := (unhide A7).F; have kv := (unhide V7).S; have kz := (unhide Z7).S; have kf := (unhide Z7).F))
    refine bodyPost_ret (v := .tuple #[.agg #[.int .i64 id2, .string win2, .string tok2, .int .i64 nb2, .int .i64 w2, .int .i64 h2, .slice a7 n c7], .int .i64 16]) (by simp [results, Tryz.results9, go_sem, kz]) rfl ⟨_, rfl, ?_, ?_⟩
    · rw [unhide HN]
      refine Go.Joins.ownsRow_le (base := (w.heap.size + 3)) ?_ (by omega)
      have hl1 : (w.heap.size + 1 + 1) < (w.heap.size + 3) := by omega
      iterate 7 refine ownsRow_setCell_below ?_ (by exact hl1) _
      exact unhide O7
    · have hl1 : w.heap.size ≤ (w.heap.size + 1 + 1) := by omega
      iterate 7 refine Below.setCell ?_ (by exact hl1) _
      exact unhide B7
  · subst e1 e2
    have HIA := hide hA
    have b0 : ¬ (65536 : Int) < (key.size : Int) := by omega
    have b1 : ¬ (65536 : Int) < (t.size : Int) := by omega
    have HK6 := hide h1
    have HQ1 := hide h.symm
    have HQ2 := hide hv.symm
    have HTB := hide ht.symm
    have HTK := hide (ca_tok h hv t)
    clear HI h h1 h2' hv ht hA
    by_cases hc : c = 0
    · subst hc
      rw [if_pos rfl] at e3
      subst e3
      go_enter Tryz.func9, Tryz.ntmps9
      go_wp2_with (first | (go_at_call 23; have TOK4 := TOK0; refine (icliok key _ _ _ _ _ _ a cap n _ HN (unhide HNI) HSR HKS HWS true HQ1 _ ((unhide HR).below (unhide B0)) ((unhide HP).below (unhide B0) (unhide HP).pos) ((unhide HK).below (unhide B0) (unhide HK).pos)).mono ?_; rintro e w4 ⟨rfl, hb4⟩; have B4 := hide ((unhide B0).trans (hb4.mono (unhide B0).size)); have A4 := hide ((unhide A0).below hb4); have V4 := hide ((unhide V0).below hb4); have Z4 := hide ((unhide Z0).below hb4); clear ka kaf kv kz kf hb4 TOK0; have ka := (unhide A4).S; have kaf := (unhide A4).F; have kv := (unhide V4).S; have kz := (unhide Z4).S; have kf := (unhide Z4).F) | (go_at_call 24; have TOK5 := TOK4; refine (ivwok nbv frv fuv vwv vhv av cv nv l HNV (unhide HNVI) HSV true HQ2 _ ((unhide HRV).below (unhide B4))).mono ?_; rintro e w5 ⟨rfl, hb5⟩; have B5 := hide ((unhide B4).trans (hb5.mono (unhide B4).size)); have A5 := hide ((unhide A4).below hb5); have V5 := hide ((unhide V4).below hb5); have Z5 := hide ((unhide Z4).below hb5); clear ka kaf kv kz kf hb5 TOK4; have ka := (unhide A5).S; have kaf := (unhide A5).F; have kv := (unhide V5).S; have kz := (unhide Z5).S; have kf := (unhide Z5).F) | (go_at_call 25; have TOK6 := TOK5; refine (ihasT _ _ _ _ _ _ a n cap key nbv _ HKS HWS true HTB _ ((unhide HP).below (unhide B5) (unhide HP).pos) ((unhide HK).below (unhide B5) (unhide HK).pos)).mono ?_; rintro e w6 ⟨rfl, hb6⟩; have B6 := hide ((unhide B5).trans (hb6.mono (unhide B5).size)); have A6 := hide ((unhide A5).below hb6); have V6 := hide ((unhide V5).below hb6); have Z6 := hide ((unhide Z5).below hb6); clear ka kaf kv kz kf hb6 TOK5; have ka := (unhide A6).S; have kaf := (unhide A6).F; have kv := (unhide V6).S; have kz := (unhide Z6).S; have kf := (unhide Z6).F) | (go_at_call 27; refine (iaccept _ _ _ a cap n _ HN (unhide HNI) HSR nbv frv fuv vwv vhv av cv nv l HNV (unhide HNVI) HSV _ _ _ L _ HIA _ ((unhide HR).below (unhide B6)) ((unhide HRV).below (unhide B6))).mono ?_; rintro e w7 ⟨v7, rfl, ho7, hb7⟩; obtain ⟨a7, c7, rfl, -⟩ := own_rowV ho7; have O7 := hide (Go.Joins.ownsRow_le ho7 (show (w.heap.size + 3) ≤ _ from (unhide Z6).lt)); have B7 := hide ((unhide B6).trans (hb7.mono (unhide B6).size)); have A7 := hide ((unhide A6).below hb7); have Z7 := hide ((unhide Z6).below hb7); have B8 := hide ((unhide B7).alloc (unhide B7).size (.cells #[.int .i64 nb2, .int .i64 w2, .int .i64 h2, .slice a7 L.length c7] 32)); have A8 := hide ((unhide A7).alloc (.cells #[.int .i64 nb2, .int .i64 w2, .int .i64 h2, .slice a7 L.length c7] 32)); have Z8 := hide ((unhide Z7).alloc (.cells #[.int .i64 nb2, .int .i64 w2, .int .i64 h2, .slice a7 L.length c7] 32)); have z7a := (unhide A7).lt; have z7z := (unhide Z7).lt; clear ka kaf kv kz kf hb7 ho7; have ka := (unhide A8).S; have kaf := (unhide A8).F; have kz := (unhide Z8).S; have kf := (unhide Z8).F; have ka7 := (unhide A7).S; have kaf7 := (unhide A7).F; have kz7 := (unhide Z7).S; have kf7 := (unhide Z7).F))
      refine bodyPost_ret (v := .tuple #[.agg #[.int .i64 id2, .string win2, .string tok2, .int .i64 nb2, .int .i64 w2, .int .i64 h2, .slice a7 L.length c7], .int .i64 0]) (by simp [results, Tryz.results9, go_sem, kz7, z7z, World.cell?_alloc_past]) rfl ⟨_, rfl, ?_, ?_⟩
      · refine (Held.below (held_of (lo := w.heap.size) ?_) (Go.Joins.below_alloc1 _ _) (Nat.le_refl _)).own
        refine Go.Joins.ownsRow_le (base := (w.heap.size + 3)) ?_ (by omega)
        have hl1 : (w.heap.size + 1 + 1) < (w.heap.size + 3) := by omega
        have hl2 : w.heap.size < (w.heap.size + 3) := by omega
        iterate 12 refine ownsRow_setCell_below ?_ (by first | exact hl1 | exact hl2) _
        exact unhide O7
      · refine (fun hB => Below.alloc hB (Below.size hB) _) ?_
        have hl1 : w.heap.size ≤ (w.heap.size + 1 + 1) := by omega
        iterate 12 refine Below.setCell ?_ (by first | exact hl1 | exact Nat.le_refl _) _
        exact unhide B7
    · rw [if_neg hc] at e3
      subst e3
      have hc' : (c == 0) = false := by simpa using hc
      clear hc
      go_enter Tryz.func9, Tryz.ntmps9
      go_wp2_with (first | (go_at_call 23; have TOK4 := TOK0; refine (icliok key _ _ _ _ _ _ a cap n _ HN (unhide HNI) HSR HKS HWS true HQ1 _ ((unhide HR).below (unhide B0)) ((unhide HP).below (unhide B0) (unhide HP).pos) ((unhide HK).below (unhide B0) (unhide HK).pos)).mono ?_; rintro e w4 ⟨rfl, hb4⟩; have B4 := hide ((unhide B0).trans (hb4.mono (unhide B0).size)); have A4 := hide ((unhide A0).below hb4); have V4 := hide ((unhide V0).below hb4); have Z4 := hide ((unhide Z0).below hb4); clear ka kaf kv kz kf hb4 TOK0; have ka := (unhide A4).S; have kaf := (unhide A4).F; have kv := (unhide V4).S; have kz := (unhide Z4).S; have kf := (unhide Z4).F) | (go_at_call 24; have TOK5 := TOK4; refine (ivwok nbv frv fuv vwv vhv av cv nv l HNV (unhide HNVI) HSV true HQ2 _ ((unhide HRV).below (unhide B4))).mono ?_; rintro e w5 ⟨rfl, hb5⟩; have B5 := hide ((unhide B4).trans (hb5.mono (unhide B4).size)); have A5 := hide ((unhide A4).below hb5); have V5 := hide ((unhide V4).below hb5); have Z5 := hide ((unhide Z4).below hb5); clear ka kaf kv kz kf hb5 TOK4; have ka := (unhide A5).S; have kaf := (unhide A5).F; have kv := (unhide V5).S; have kz := (unhide Z5).S; have kf := (unhide Z5).F) | (go_at_call 25; have TOK6 := TOK5; refine (ihasT _ _ _ _ _ _ a n cap key nbv _ HKS HWS true HTB _ ((unhide HP).below (unhide B5) (unhide HP).pos) ((unhide HK).below (unhide B5) (unhide HK).pos)).mono ?_; rintro e w6 ⟨rfl, hb6⟩; have B6 := hide ((unhide B5).trans (hb6.mono (unhide B5).size)); have A6 := hide ((unhide A5).below hb6); have V6 := hide ((unhide V5).below hb6); have Z6 := hide ((unhide Z5).below hb6); clear ka kaf kv kz kf hb6 TOK5; have ka := (unhide A6).S; have kaf := (unhide A6).F; have kv := (unhide V6).S; have kz := (unhide Z6).S; have kf := (unhide Z6).F) | (go_at_call 27; refine (iaccept _ _ _ a cap n _ HN (unhide HNI) HSR nbv frv fuv vwv vhv av cv nv l HNV (unhide HNVI) HSV _ _ _ L _ HIA _ ((unhide HR).below (unhide B6)) ((unhide HRV).below (unhide B6))).mono ?_; rintro e w7 ⟨v7, rfl, ho7, hb7⟩; obtain ⟨a7, c7, rfl, -⟩ := own_rowV ho7; have O7 := hide (Go.Joins.ownsRow_le ho7 (show (w.heap.size + 3) ≤ _ from (unhide Z6).lt)); have B7 := hide ((unhide B6).trans (hb7.mono (unhide B6).size)); have A7 := hide ((unhide A6).below hb7); have Z7 := hide ((unhide Z6).below hb7); have B8 := hide ((unhide B7).alloc (unhide B7).size (.cells #[.int .i64 nb2, .int .i64 w2, .int .i64 h2, .slice a7 L.length c7] 32)); have A8 := hide ((unhide A7).alloc (.cells #[.int .i64 nb2, .int .i64 w2, .int .i64 h2, .slice a7 L.length c7] 32)); have Z8 := hide ((unhide Z7).alloc (.cells #[.int .i64 nb2, .int .i64 w2, .int .i64 h2, .slice a7 L.length c7] 32)); have z7a := (unhide A7).lt; have z7z := (unhide Z7).lt; clear ka kaf kv kz kf hb7 ho7; have ka := (unhide A8).S; have kaf := (unhide A8).F; have kz := (unhide Z8).S; have kf := (unhide Z8).F; have ka7 := (unhide A7).S; have kaf7 := (unhide A7).F; have kz7 := (unhide Z7).S; have kf7 := (unhide Z7).F))
      refine bodyPost_ret (v := .tuple #[.agg #[.int .i64 id2, .string win2, .string tok2, .int .i64 nb2, .int .i64 w2, .int .i64 h2, .slice a7 L.length c7], .int .i64 c]) (by simp [results, Tryz.results9, go_sem, kz7, z7z, World.cell?_alloc_past]) rfl ⟨_, rfl, ?_, ?_⟩
      · refine (Held.below (held_of (lo := w.heap.size) ?_) (Go.Joins.below_alloc1 _ _) (Nat.le_refl _)).own
        refine Go.Joins.ownsRow_le (base := (w.heap.size + 3)) ?_ (by omega)
        have hl1 : (w.heap.size + 1 + 1) < (w.heap.size + 3) := by omega
        have hl2 : w.heap.size < (w.heap.size + 3) := by omega
        iterate 11 refine ownsRow_setCell_below ?_ (by first | exact hl1 | exact hl2) _
        exact unhide O7
      · refine (fun hB => Below.alloc hB (Below.size hB) _) ?_
        have hl1 : w.heap.size ≤ (w.heap.size + 1 + 1) := by omega
        iterate 11 refine Below.setCell ?_ (by first | exact hl1 | exact Nat.le_refl _) _
        exact unhide B7
end Go.Proofs.YtmmnoepcklfonaaGreatDoor

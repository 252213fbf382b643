/- AcceptView: what the program answers. -/
import Derived.Test.YtmmnoepcklfonaaGreatDoorZG21
import Derived.Test.YtmmnoepcklfonaaGreatDoorZAvD
import Derived.Test.YtmmnoepcklfonaaGreatDoorZVoJ
namespace Go.Proofs.YtmmnoepcklfonaaGreatDoor
open Go.ChangeShapes Go.WideShapes Go.ChangeAt Go.RowKit
set_option linter.unusedVariables false
set_option maxHeartbeats 4000000 in
set_option maxRecDepth 100000 in
theorem iaccept (nb vw vh : Int) (a : Option Addr) (cap n : Nat) (R : List ByteArray) (HN : Hid (R.length = n)) (hn : n ≤ 1048576) (HSR : Hid (∀ k (h : k < R.length), R[k].size ≤ 1048576)) (nbv frv : Int) (fuv : Bool) (vwv vhv : Int) (av : Option Addr) (cv nv : Nat) (l : List Rw) (HNV : Hid (l.length = nv)) (hnv : nv ≤ 1048576) (HSV : Hid (∀ k (h : k < l.length), l[k].2.size ≤ 1048576)) (nb2 w2 h2 : Int) (L : List ByteArray) (c : Int) (HI : Hid (AvIs nb vw vh R nbv frv fuv vwv vhv l nb2 w2 h2 L c)) (w : World) (hr : RowV w a (cS R)) (hrv : RowV w av (cE l)) :
    Calls Tryz.prog 27 #[.agg #[.int .i64 nb, .int .i64 vw, .int .i64 vh, .slice a n cap], .agg #[.int .i64 nbv, .int .i64 frv, .bool fuv, .int .i64 vwv, .int .i64 vhv, .slice av nv cv]] w fun e w' => ∃ v, e = .returned (.tuple #[.agg #[.int .i64 nb2, .int .i64 w2, .int .i64 h2, v], .int .i64 c]) ∧ w'.ownsRow w.heap.size 9 1 v L.length (cS L) ∧ Below w.heap.size w w' := by
  have B0 := hide (Go.Joins.below_alloc3 w (.cells #[.int .i64 nb, .int .i64 vw, .int .i64 vh, .slice a n cap] 32) (.cells #[.int .i64 nbv, .int .i64 frv, .bool fuv, .int .i64 vwv, .int .i64 vhv, .slice av nv cv] 40) (.cells #[.int .i64 0, .int .i64 0, .int .i64 0, .slice none 0 0] 32))
  have A0 := hide (((BF.new w #[.int .i64 nb, .int .i64 vw, .int .i64 vh, .slice a n cap] 32).alloc (.cells #[.int .i64 nbv, .int .i64 frv, .bool fuv, .int .i64 vwv, .int .i64 vhv, .slice av nv cv] 40)).alloc (.cells #[.int .i64 0, .int .i64 0, .int .i64 0, .slice none 0 0] 32))
  have V0 := hide ((BF.new (w.alloc (.cells #[.int .i64 nb, .int .i64 vw, .int .i64 vh, .slice a n cap] 32)) #[.int .i64 nbv, .int .i64 frv, .bool fuv, .int .i64 vwv, .int .i64 vhv, .slice av nv cv] 40).alloc (.cells #[.int .i64 0, .int .i64 0, .int .i64 0, .slice none 0 0] 32))
  have Z0 := hide (BF.new ((w.alloc (.cells #[.int .i64 nb, .int .i64 vw, .int .i64 vh, .slice a n cap] 32)).alloc (.cells #[.int .i64 nbv, .int .i64 frv, .bool fuv, .int .i64 vwv, .int .i64 vhv, .slice av nv cv] 40)) #[.int .i64 0, .int .i64 0, .int .i64 0, .slice none 0 0] 32)
  rw [show (w.alloc (.cells #[.int .i64 nb, .int .i64 vw, .int .i64 vh, .slice a n cap] 32)).heap.size = w.heap.size + 1 from by simp] at V0
  rw [show ((w.alloc (.cells #[.int .i64 nb, .int .i64 vw, .int .i64 vh, .slice a n cap] 32)).alloc (.cells #[.int .i64 nbv, .int .i64 frv, .bool fuv, .int .i64 vwv, .int .i64 vhv, .slice av nv cv] 40)).heap.size = w.heap.size + 1 + 1 from by simp] at Z0
  have HR := hide hr
  have HRV := hide hrv
  have HNI := hide hn
  have HNVI := hide hnv
  clear hr hrv hn hnv
  have hC := (unhide HI).1
  obtain ⟨q1, hq1⟩ : ∃ q, q = mirB nb vw vh R := ⟨_, rfl⟩
  have HQ1 := hide hq1
  obtain ⟨q2, hq2⟩ : ∃ q, q = vwB nbv frv fuv vwv vhv l := ⟨_, rfl⟩
  have HQ2 := hide hq2
  rw [← hq1, ← hq2] at hC
  clear hq1 hq2
  cases q1 with
  | false =>
    have hc : c = 1 := hC
    obtain ⟨rfl, rfl, rfl, rfl⟩ := (unhide HI).2.1 hc
    subst hc
    clear HI hC
    go_enter Tryz.func27, Tryz.ntmps27
    go_wp2_with (go_at_call 45; refine (imirok nb vw vh a cap n R HN (unhide HNI) HSR false HQ1 _ ((unhide HR).below (unhide B0))).mono ?_; rintro e w4 ⟨rfl, hb4⟩; have B4 := hide ((unhide B0).trans (hb4.mono (unhide B0).size)); have A4 := hide ((unhide A0).below hb4); have V4 := hide ((unhide V0).below hb4); have Z4 := hide ((unhide Z0).below hb4); have ka4 := (unhide A4).S; have kv4 := (unhide V4).S; have kz4 := (unhide Z4).S; have kf4 := (unhide Z4).F; clear hb4)
    refine bodyPost_ret (v := .tuple #[.agg #[.int .i64 0, .int .i64 0, .int .i64 0, .slice none 0 0], .int .i64 1]) (by simp [results, Tryz.results27, go_sem, kz4]) rfl ?_
    have hl1 : w.heap.size ≤ (w.heap.size + 1 + 1) := by omega
    exact ⟨_, rfl, World.ownsRow_nil _ _ _ _, by (repeat refine Below.setCell ?_ (by exact hl1) _); exact unhide B4⟩
  | true =>
    cases q2 with
    | false =>
      have hc : c = 1 := hC
      obtain ⟨rfl, rfl, rfl, rfl⟩ := (unhide HI).2.1 hc
      subst hc
      clear HI hC
      go_enter Tryz.func27, Tryz.ntmps27
      go_wp2_with (first | (go_at_call 45; refine (imirok nb vw vh a cap n R HN (unhide HNI) HSR true HQ1 _ ((unhide HR).below (unhide B0))).mono ?_; rintro e w4 ⟨rfl, hb4⟩; have B4 := hide ((unhide B0).trans (hb4.mono (unhide B0).size)); have A4 := hide ((unhide A0).below hb4); have V4 := hide ((unhide V0).below hb4); have Z4 := hide ((unhide Z0).below hb4); have ka4 := (unhide A4).S; have kv4 := (unhide V4).S; have kz4 := (unhide Z4).S; have kf4 := (unhide Z4).F; clear hb4) | (go_at_call 24; refine (ivwok nbv frv fuv vwv vhv av cv nv l HNV (unhide HNVI) HSV false HQ2 _ ((unhide HRV).below (unhide B4))).mono ?_; rintro e w5 ⟨rfl, hb5⟩; have B5 := hide ((unhide B4).trans (hb5.mono (unhide B4).size)); have A5 := hide ((unhide A4).below hb5); have V5 := hide ((unhide V4).below hb5); have Z5 := hide ((unhide Z4).below hb5); have ka5 := (unhide A5).S; have kv5 := (unhide V5).S; have kz5 := (unhide Z5).S; have kf5 := (unhide Z5).F; clear ka4 kv4 kz4 kf4; clear hb5))
      refine bodyPost_ret (v := .tuple #[.agg #[.int .i64 0, .int .i64 0, .int .i64 0, .slice none 0 0], .int .i64 1]) (by simp [results, Tryz.results27, go_sem, kz5]) rfl ?_
      have hl1 : w.heap.size ≤ (w.heap.size + 1 + 1) := by omega
      exact ⟨_, rfl, World.ownsRow_nil _ _ _ _, by (repeat refine Below.setCell ?_ (by exact hl1) _); exact unhide B5⟩
    | true =>
      by_cases hle : nbv ≤ nb
      · have hc : c = 15 := by rw [hC]; unfold avC; simp [hle]
        obtain ⟨e1, e2, e3, e4⟩ := (unhide HI).2.2.1 (.inl hc)
        subst e1 e2 e3 e4 hc
        clear HI hC
        go_enter Tryz.func27, Tryz.ntmps27
        go_wp2_with (first | (go_at_call 45; refine (imirok _ _ _ a cap n _ HN (unhide HNI) HSR true HQ1 _ ((unhide HR).below (unhide B0))).mono ?_; rintro e w4 ⟨rfl, hb4⟩; have B4 := hide ((unhide B0).trans (hb4.mono (unhide B0).size)); have A4 := hide ((unhide A0).below hb4); have V4 := hide ((unhide V0).below hb4); have Z4 := hide ((unhide Z0).below hb4); have ka4 := (unhide A4).S; have kv4 := (unhide V4).S; have kz4 := (unhide Z4).S; have kf4 := (unhide Z4).F; clear hb4) | (go_at_call 24; refine (ivwok nbv frv fuv vwv vhv av cv nv l HNV (unhide HNVI) HSV true HQ2 _ ((unhide HRV).below (unhide B4))).mono ?_; rintro e w5 ⟨rfl, hb5⟩; have B5 := hide ((unhide B4).trans (hb5.mono (unhide B4).size)); have A5 := hide ((unhide A4).below hb5); have V5 := hide ((unhide V4).below hb5); have Z5 := hide ((unhide Z4).below hb5); have ka5 := (unhide A5).S; have kv5 := (unhide V5).S; have kz5 := (unhide Z5).S; have kf5 := (unhide Z5).F; clear ka4 kv4 kz4 kf4; clear hb5) | (go_at_call 54; refine (imcopied _ _ _ a cap n _ HN (unhide HNI) _ ((unhide HR).below (unhide B5))).mono ?_; rintro e w6 ⟨v6, rfl, ho6, hb6⟩; obtain ⟨a6, c6, rfl, -⟩ := own_rowV ho6; have B6 := hide ((unhide B5).trans (hb6.mono (unhide B5).size)); have A6 := hide ((unhide A5).below hb6); have V6 := hide ((unhide V5).below hb6); have Z6 := hide ((unhide Z5).below hb6); have ka6 := (unhide A6).S; have kv6 := (unhide V6).S; have kz6 := (unhide Z6).S; have kf6 := (unhide Z6).F; clear ka5 kv5 kz5 kf5; have O6 := hide (Go.Joins.ownsRow_le ho6 (show (w.heap.size + 3) ≤ _ from (unhide Z5).lt)); clear hb6 ho6))
        refine bodyPost_ret (v := .tuple #[.agg #[.int .i64 nb2, .int .i64 w2, .int .i64 h2, .slice a6 n c6], .int .i64 15]) (by simp [results, Tryz.results27, go_sem, kz6]) rfl ⟨_, rfl, ?_, ?_⟩
        · rw [unhide HN]
          refine Go.Joins.ownsRow_le (base := (w.heap.size + 3)) ?_ (by omega)
          have hl1 : (w.heap.size + 1 + 1) < (w.heap.size + 3) := by omega
          repeat refine ownsRow_setCell_below ?_ (by exact hl1) _
          exact unhide O6
        · have hl1 : w.heap.size ≤ (w.heap.size + 1 + 1) := by omega
          repeat refine Below.setCell ?_ (by exact hl1) _
          exact unhide B6
      · have hCC : c = if fuv || (decide (frv = nb) && (decide (vwv = vw) && decide (vhv = vh))) then 0 else 19 := by rw [hC]; unfold avC; simp [hle]
        clear hC
        obtain ⟨hv1, hv2, hv3, -, -⟩ := vw_parts (unhide HQ2).symm
        obtain ⟨W, H, eW, eH, hW1, hW2, hH1, hH10⟩ := sizeB_nat hv2
        subst eH
        have HYY : Hid (∀ k (h : k < l.length), 0 ≤ l[k].1 ∧ l[k].1 < (H : Int)) := fun k h => by
          have h1 := step_parts (rise_at hv3 k h)
          have h2 := prev_ge k fun i hi => rise_at hv3 i (by omega)
          rw [yAt_at l k h] at h1
          omega
        clear hv1 hv2 hv3 eW hW1 hW2 hH1
        cases fuv with
        | true =>
          have hc : c = 0 := by rw [hCC]; rfl
          obtain ⟨e1, e2, e3, e4⟩ := (unhide HI).2.2.2 hc
          have HLL : Hid (L = setsL (baseL H R) l nv) := by show _ = _; rw [e4, unhide HNV]; simp
          have HLN : Hid (L.length = H) := by show _ = _; rw [unhide HLL, setsL_len, baseL_len]
          subst e1 e2 e3 hc
          clear HI hCC e4
          go_enter Tryz.func27, Tryz.ntmps27
          go_wp2_with (first | (go_at_call 45; refine (imirok nb vw vh a cap n R HN (unhide HNI) HSR true HQ1 _ ((unhide HR).below (unhide B0))).mono ?_; rintro e w4 ⟨rfl, hb4⟩; have B4 := hide ((unhide B0).trans (hb4.mono (unhide B0).size)); have A4 := hide ((unhide A0).below hb4); have V4 := hide ((unhide V0).below hb4); have Z4 := hide ((unhide Z0).below hb4); have ka4 := (unhide A4).S; have kv4 := (unhide V4).S; have kz4 := (unhide Z4).S; have kf4 := (unhide Z4).F; clear hb4) | (go_at_call 24; refine (ivwok _ _ _ _ _ av cv nv l HNV (unhide HNVI) HSV true HQ2 _ ((unhide HRV).below (unhide B4))).mono ?_; rintro e w5 ⟨rfl, hb5⟩; have B5 := hide ((unhide B4).trans (hb5.mono (unhide B4).size)); have A5 := hide ((unhide A4).below hb5); have V5 := hide ((unhide V4).below hb5); have Z5 := hide ((unhide Z4).below hb5); have ka5 := (unhide A5).S; have kv5 := (unhide V5).S; have kz5 := (unhide Z5).S; have kf5 := (unhide Z5).F; clear ka4 kv4 kz4 kf4; clear hb5) | (go_at_call 56; refine (ishown nb vw vh a cap n R HN _ _ _ _ H hH10 av cv nv l HNV (unhide HNVI) HYY _ ((unhide HR).below (unhide B5)) ((unhide HRV).below (unhide B5))).mono ?_; rintro e w6 ⟨v6, rfl, ho6, hb6⟩; obtain ⟨a6, c6, rfl, -⟩ := own_rowV ho6; have B6 := hide ((unhide B5).trans (hb6.mono (unhide B5).size)); have A6 := hide ((unhide A5).below hb6); have V6 := hide ((unhide V5).below hb6); have Z6 := hide ((unhide Z5).below hb6); have ka6 := (unhide A6).S; have kv6 := (unhide V6).S; have kz6 := (unhide Z6).S; have kf6 := (unhide Z6).F; clear ka5 kv5 kz5 kf5; have O6 := hide (Go.Joins.ownsRow_le ho6 (show (w.heap.size + 3) ≤ _ from (unhide Z5).lt)); clear hb6 ho6))
          refine bodyPost_ret (v := .tuple #[.agg #[.int .i64 nb2, .int .i64 w2, .int .i64 (H : Int), .slice a6 H c6], .int .i64 0]) (by simp [results, Tryz.results27, go_sem, kz6]) rfl ⟨_, rfl, ?_, ?_⟩
          · rw [unhide HLN, unhide HLL]
            refine Go.Joins.ownsRow_le (base := (w.heap.size + 3)) ?_ (by omega)
            have hl1 : (w.heap.size + 1 + 1) < (w.heap.size + 3) := by omega
            repeat refine ownsRow_setCell_below ?_ (by exact hl1) _
            exact unhide O6
          · have hl1 : w.heap.size ≤ (w.heap.size + 1 + 1) := by omega
            repeat refine Below.setCell ?_ (by exact hl1) _
            exact unhide B6
        | false =>
          obtain ⟨G, hG⟩ : ∃ G, G = (decide (frv = nb) && (decide (vwv = vw) && decide ((H : Int) = vh))) := ⟨_, rfl⟩
          have HG := hide hG
          have hCC2 : c = if G then 0 else 19 := by rw [hCC, hG]; rfl
          clear hG hCC
          cases G with
          | false =>
            have hc : c = 19 := hCC2
            obtain ⟨e1, e2, e3, e4⟩ := (unhide HI).2.2.1 (.inr hc)
            subst e1 e2 e3 e4 hc
            clear HI hCC2
            go_enter Tryz.func27, Tryz.ntmps27
            go_wp2_with (first | (go_at_call 45; refine (imirok _ _ _ a cap n _ HN (unhide HNI) HSR true HQ1 _ ((unhide HR).below (unhide B0))).mono ?_; rintro e w4 ⟨rfl, hb4⟩; have B4 := hide ((unhide B0).trans (hb4.mono (unhide B0).size)); have A4 := hide ((unhide A0).below hb4); have V4 := hide ((unhide V0).below hb4); have Z4 := hide ((unhide Z0).below hb4); have ka4 := (unhide A4).S; have kv4 := (unhide V4).S; have kz4 := (unhide Z4).S; have kf4 := (unhide Z4).F; clear hb4) | (go_at_call 24; refine (ivwok nbv frv _ _ _ av cv nv l HNV (unhide HNVI) HSV true HQ2 _ ((unhide HRV).below (unhide B4))).mono ?_; rintro e w5 ⟨rfl, hb5⟩; have B5 := hide ((unhide B4).trans (hb5.mono (unhide B4).size)); have A5 := hide ((unhide A4).below hb5); have V5 := hide ((unhide V4).below hb5); have Z5 := hide ((unhide Z4).below hb5); have ka5 := (unhide A5).S; have kv5 := (unhide V5).S; have kz5 := (unhide Z5).S; have kf5 := (unhide Z5).F; clear ka4 kv4 kz4 kf4; clear hb5) | (go_at_call 55; refine (igoes _ _ _ _ _ _ rfl _ _ _ _ rfl false HG _).mono ?_; rintro e w6 ⟨rfl, hb6⟩; have B6 := hide ((unhide B5).trans (hb6.mono (unhide B5).size)); have A6 := hide ((unhide A5).below hb6); have V6 := hide ((unhide V5).below hb6); have Z6 := hide ((unhide Z5).below hb6); have ka6 := (unhide A6).S; have kv6 := (unhide V6).S; have kz6 := (unhide Z6).S; have kf6 := (unhide Z6).F; clear ka5 kv5 kz5 kf5; clear hb6) | (go_at_call 54; refine (imcopied _ _ _ a cap n _ HN (unhide HNI) _ ((unhide HR).below (unhide B6))).mono ?_; rintro e w7 ⟨v7, rfl, ho7, hb7⟩; obtain ⟨a7, c7, rfl, -⟩ := own_rowV ho7; have B7 := hide ((unhide B6).trans (hb7.mono (unhide B6).size)); have A7 := hide ((unhide A6).below hb7); have V7 := hide ((unhide V6).below hb7); have Z7 := hide ((unhide Z6).below hb7); have ka7 := (unhide A7).S; have kv7 := (unhide V7).S; have kz7 := (unhide Z7).S; have kf7 := (unhide Z7).F; clear ka6 kv6 kz6 kf6; have O7 := hide (Go.Joins.ownsRow_le ho7 (show (w.heap.size + 3) ≤ _ from (unhide Z6).lt)); clear hb7 ho7))
            refine bodyPost_ret (v := .tuple #[.agg #[.int .i64 nb2, .int .i64 w2, .int .i64 h2, .slice a7 n c7], .int .i64 19]) (by simp [results, Tryz.results27, go_sem, kz7]) rfl ⟨_, rfl, ?_, ?_⟩
            · rw [unhide HN]
              refine Go.Joins.ownsRow_le (base := (w.heap.size + 3)) ?_ (by omega)
              have hl1 : (w.heap.size + 1 + 1) < (w.heap.size + 3) := by omega
              repeat refine ownsRow_setCell_below ?_ (by exact hl1) _
              exact unhide O7
            · have hl1 : w.heap.size ≤ (w.heap.size + 1 + 1) := by omega
              repeat refine Below.setCell ?_ (by exact hl1) _
              exact unhide B7
          | true =>
            have hc : c = 0 := hCC2
            obtain ⟨e1, e2, e3, e4⟩ := (unhide HI).2.2.2 hc
            have HLL : Hid (L = setsL (baseL H R) l nv) := by show _ = _; rw [e4, unhide HNV]; simp
            have HLN : Hid (L.length = H) := by show _ = _; rw [unhide HLL, setsL_len, baseL_len]
            subst e1 e2 e3 hc
            clear HI hCC2 e4
            go_enter Tryz.func27, Tryz.ntmps27
            go_wp2_with (first | (go_at_call 45; refine (imirok nb vw vh a cap n R HN (unhide HNI) HSR true HQ1 _ ((unhide HR).below (unhide B0))).mono ?_; rintro e w4 ⟨rfl, hb4⟩; have B4 := hide ((unhide B0).trans (hb4.mono (unhide B0).size)); have A4 := hide ((unhide A0).below hb4); have V4 := hide ((unhide V0).below hb4); have Z4 := hide ((unhide Z0).below hb4); have ka4 := (unhide A4).S; have kv4 := (unhide V4).S; have kz4 := (unhide Z4).S; have kf4 := (unhide Z4).F; clear hb4) | (go_at_call 24; refine (ivwok _ _ _ _ _ av cv nv l HNV (unhide HNVI) HSV true HQ2 _ ((unhide HRV).below (unhide B4))).mono ?_; rintro e w5 ⟨rfl, hb5⟩; have B5 := hide ((unhide B4).trans (hb5.mono (unhide B4).size)); have A5 := hide ((unhide A4).below hb5); have V5 := hide ((unhide V4).below hb5); have Z5 := hide ((unhide Z4).below hb5); have ka5 := (unhide A5).S; have kv5 := (unhide V5).S; have kz5 := (unhide Z5).S; have kf5 := (unhide Z5).F; clear ka4 kv4 kz4 kf4; clear hb5) | (go_at_call 55; refine (igoes _ _ _ _ _ _ rfl nb vw vh _ rfl true HG _).mono ?_; rintro e w6 ⟨rfl, hb6⟩; have B6 := hide ((unhide B5).trans (hb6.mono (unhide B5).size)); have A6 := hide ((unhide A5).below hb6); have V6 := hide ((unhide V5).below hb6); have Z6 := hide ((unhide Z5).below hb6); have ka6 := (unhide A6).S; have kv6 := (unhide V6).S; have kz6 := (unhide Z6).S; have kf6 := (unhide Z6).F; clear ka5 kv5 kz5 kf5; clear hb6) | (go_at_call 56; refine (ishown nb vw vh a cap n R HN _ _ _ _ H hH10 av cv nv l HNV (unhide HNVI) HYY _ ((unhide HR).below (unhide B6)) ((unhide HRV).below (unhide B6))).mono ?_; rintro e w7 ⟨v7, rfl, ho7, hb7⟩; obtain ⟨a7, c7, rfl, -⟩ := own_rowV ho7; have B7 := hide ((unhide B6).trans (hb7.mono (unhide B6).size)); have A7 := hide ((unhide A6).below hb7); have V7 := hide ((unhide V6).below hb7); have Z7 := hide ((unhide Z6).below hb7); have ka7 := (unhide A7).S; have kv7 := (unhide V7).S; have kz7 := (unhide Z7).S; have kf7 := (unhide Z7).F; clear ka6 kv6 kz6 kf6; have O7 := hide (Go.Joins.ownsRow_le ho7 (show (w.heap.size + 3) ≤ _ from (unhide Z6).lt)); clear hb7 ho7))
            refine bodyPost_ret (v := .tuple #[.agg #[.int .i64 nb2, .int .i64 w2, .int .i64 (H : Int), .slice a7 H c7], .int .i64 0]) (by simp [results, Tryz.results27, go_sem, kz7]) rfl ⟨_, rfl, ?_, ?_⟩
            · rw [unhide HLN, unhide HLL]
              refine Go.Joins.ownsRow_le (base := (w.heap.size + 3)) ?_ (by omega)
              have hl1 : (w.heap.size + 1 + 1) < (w.heap.size + 3) := by omega
              repeat refine ownsRow_setCell_below ?_ (by exact hl1) _
              exact unhide O7
            · have hl1 : w.heap.size ≤ (w.heap.size + 1 + 1) := by omega
              repeat refine Below.setCell ?_ (by exact hl1) _
              exact unhide B7
end Go.Proofs.YtmmnoepcklfonaaGreatDoor

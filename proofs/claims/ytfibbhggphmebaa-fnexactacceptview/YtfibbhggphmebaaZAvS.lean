/- AcceptView: what the specification answers. -/
import Derived.Test.YtfibbhggphmebaaZAvP
import Derived.Test.YtfibbhggphmebaaZVoS
import Derived.Test.YtfibbhggphmebaaZMrS
namespace Go.Proofs.Ytfibbhggphmebaa
open Go.ChangeShapes Go.WideShapes Go.ChangeAt Go.RowKit
set_option linter.unusedVariables false
set_option maxHeartbeats 4000000 in
set_option maxRecDepth 100000 in
theorem saccept (nb vw vh : Int) (a : Option Addr) (cap n : Nat) (R : List ByteArray) (HN : Hid (R.length = n)) (hn : n ≤ 1048576) (HSR : Hid (∀ k (h : k < R.length), R[k].size ≤ 1048576)) (nbv frv : Int) (fuv : Bool) (vwv vhv : Int) (av : Option Addr) (cv nv : Nat) (l : List Rw) (HNV : Hid (l.length = nv)) (hnv : nv ≤ 1048576) (HSV : Hid (∀ k (h : k < l.length), l[k].2.size ≤ 1048576)) (nb2 w2 h2 : Int) (L : List ByteArray) (c : Int) (HI : Hid (AvIs nb vw vh R nbv frv fuv vwv vhv l nb2 w2 h2 L c)) (w : World) (hr : RowV w a (cS R)) (hrv : RowV w av (cE l)) :
    Calls Try.prog 6 #[.agg #[.int .i64 nb, .int .i64 vw, .int .i64 vh, .slice a n cap], .agg #[.int .i64 nbv, .int .i64 frv, .bool fuv, .int .i64 vwv, .int .i64 vhv, .slice av nv cv]] w fun e w' => ∃ v, e = .returned (.tuple #[.agg #[.int .i64 nb2, .int .i64 w2, .int .i64 h2, v], .int .i64 c]) ∧ w'.ownsRow w.heap.size 9 1 v L.length (cS L) ∧ Below w.heap.size w w' := by
  have B0 := hide (Go.Joins.below_alloc3 w (.cells #[.int .i64 nb, .int .i64 vw, .int .i64 vh, .slice a n cap] 30) (.cells #[.int .i64 nbv, .int .i64 frv, .bool fuv, .int .i64 vwv, .int .i64 vhv, .slice av nv cv] 36) (.cells #[.int .i64 0, .int .i64 0, .int .i64 0, .slice none 0 0] 30))
  have A0 := hide (((BF.new w #[.int .i64 nb, .int .i64 vw, .int .i64 vh, .slice a n cap] 30).alloc (.cells #[.int .i64 nbv, .int .i64 frv, .bool fuv, .int .i64 vwv, .int .i64 vhv, .slice av nv cv] 36)).alloc (.cells #[.int .i64 0, .int .i64 0, .int .i64 0, .slice none 0 0] 30))
  have V0 := hide ((BF.new (w.alloc (.cells #[.int .i64 nb, .int .i64 vw, .int .i64 vh, .slice a n cap] 30)) #[.int .i64 nbv, .int .i64 frv, .bool fuv, .int .i64 vwv, .int .i64 vhv, .slice av nv cv] 36).alloc (.cells #[.int .i64 0, .int .i64 0, .int .i64 0, .slice none 0 0] 30))
  have Z0 := hide (BF.new ((w.alloc (.cells #[.int .i64 nb, .int .i64 vw, .int .i64 vh, .slice a n cap] 30)).alloc (.cells #[.int .i64 nbv, .int .i64 frv, .bool fuv, .int .i64 vwv, .int .i64 vhv, .slice av nv cv] 36)) #[.int .i64 0, .int .i64 0, .int .i64 0, .slice none 0 0] 30)
  rw [show (w.alloc (.cells #[.int .i64 nb, .int .i64 vw, .int .i64 vh, .slice a n cap] 30)).heap.size = w.heap.size + 1 from by simp] at V0
  rw [show ((w.alloc (.cells #[.int .i64 nb, .int .i64 vw, .int .i64 vh, .slice a n cap] 30)).alloc (.cells #[.int .i64 nbv, .int .i64 frv, .bool fuv, .int .i64 vwv, .int .i64 vhv, .slice av nv cv] 36)).heap.size = w.heap.size + 1 + 1 from by simp] at Z0
  have HR := hide hr
  have HRV := hide hrv
  have HNI := hide hn
  have HNVI := hide hnv
  clear hr hrv hn hnv
  have hC := (unhide HI).1
  obtain ⟨q1, hq1⟩ : ∃ q, q = mirB nb vw vh R := ⟨_, rfl⟩
  have HQ1 := hide hq1
  obtain ⟨q2, hq2⟩ : ∃ q, q = vwB nbv frv fuv vwv vhv l := ⟨_, rfl⟩
  have HQ2 := hide hq2
  rw [← hq1, ← hq2] at hC
  clear hq1 hq2
  cases q1 with
  | false =>
    have hc : c = 1 := hC
    obtain ⟨rfl, rfl, rfl, rfl⟩ := (unhide HI).2.1 hc
    subst hc
    clear HI hC
    go_enter Try.func6, Try.ntmps6
    go_wp2_with (go_at_call 17; refine (smirok nb vw vh a cap n R HN (unhide HNI) HSR false HQ1 _ ((unhide HR).below (unhide B0))).mono ?_; rintro e w4 ⟨rfl, hb4⟩; have B4 := hide ((unhide B0).trans (hb4.mono (unhide B0).size)); have A4 := hide ((unhide A0).below hb4); have V4 := hide ((unhide V0).below hb4); have Z4 := hide ((unhide Z0).below hb4); have ka4 := (unhide A4).S; have kv4 := (unhide V4).S; have kz4 := (unhide Z4).S; have kf4 := (unhide Z4).F; clear hb4)
    refine bodyPost_ret (v := .tuple #[.agg #[.int .i64 0, .int .i64 0, .int .i64 0, .slice none 0 0], .int .i64 1]) (by simp [results, Try.results6, go_sem, kz4]) rfl ?_
    have hl1 : w.heap.size ≤ (w.heap.size + 1 + 1) := by omega
    exact ⟨_, rfl, World.ownsRow_nil _ _ _ _, by (repeat refine Below.setCell ?_ (by exact hl1) _); exact unhide B4⟩
  | true =>
    cases q2 with
    | false =>
      have hc : c = 1 := hC
      obtain ⟨rfl, rfl, rfl, rfl⟩ := (unhide HI).2.1 hc
      subst hc
      clear HI hC
      go_enter Try.func6, Try.ntmps6
      go_wp2_with (first | (go_at_call 17; refine (smirok nb vw vh a cap n R HN (unhide HNI) HSR true HQ1 _ ((unhide HR).below (unhide B0))).mono ?_; rintro e w4 ⟨rfl, hb4⟩; have B4 := hide ((unhide B0).trans (hb4.mono (unhide B0).size)); have A4 := hide ((unhide A0).below hb4); have V4 := hide ((unhide V0).below hb4); have Z4 := hide ((unhide Z0).below hb4); have ka4 := (unhide A4).S; have kv4 := (unhide V4).S; have kz4 := (unhide Z4).S; have kf4 := (unhide Z4).F; clear hb4) | (go_at_call 18; refine (svwok nbv frv fuv vwv vhv av cv nv l HNV (unhide HNVI) HSV false HQ2 _ ((unhide HRV).below (unhide B4))).mono ?_; rintro e w5 ⟨rfl, hb5⟩; have B5 := hide ((unhide B4).trans (hb5.mono (unhide B4).size)); have A5 := hide ((unhide A4).below hb5); have V5 := hide ((unhide V4).below hb5); have Z5 := hide ((unhide Z4).below hb5); have ka5 := (unhide A5).S; have kv5 := (unhide V5).S; have kz5 := (unhide Z5).S; have kf5 := (unhide Z5).F; clear ka4 kv4 kz4 kf4; clear hb5))
      refine bodyPost_ret (v := .tuple #[.agg #[.int .i64 0, .int .i64 0, .int .i64 0, .slice none 0 0], .int .i64 1]) (by simp [results, Try.results6, go_sem, kz5]) rfl ?_
      have hl1 : w.heap.size ≤ (w.heap.size + 1 + 1) := by omega
      exact ⟨_, rfl, World.ownsRow_nil _ _ _ _, by (repeat refine Below.setCell ?_ (by exact hl1) _); exact unhide B5⟩
    | true =>
      have hRn : n ≤ 10 := by rw [← unhide HN]; exact mir_len (unhide HQ1).symm
      obtain ⟨hv1, hv2, hv3, hv4, hv5⟩ := vw_parts (unhide HQ2).symm
      obtain ⟨W, H, eW, eH, hW1, hW2, hH1, hH10⟩ := sizeB_nat hv2
      subst eH
      have hnv10 : nv ≤ 10 := by have := rise_len (by omega) hv3; have := unhide HNV; omega
      have HYY : Hid (∀ k (h : k < l.length), 0 ≤ l[k].1 ∧ l[k].1 < (H : Int)) := fun k h => by
        have h1 := step_parts (rise_at hv3 k h)
        have h2 := prev_ge k fun i hi => rise_at hv3 i (by omega)
        rw [yAt_at l k h] at h1
        omega
      have HV3 := hide hv3
      have HV4 := hide hv4
      have HV5 := hide hv5
      clear hv1 hv2 hv3 hv4 hv5 eW hW1 hW2
      by_cases hle : nbv ≤ nb
      · have hc : c = 15 := by rw [hC]; unfold avC; simp [hle]
        obtain ⟨e1, e2, e3, e4⟩ := (unhide HI).2.2.1 (.inl hc)
        subst e1 e2 e3 e4 hc
        clear HI hC
        have HLE := hide hle
        clear hle
        go_enter Try.func6, Try.ntmps6
        go_wp2_with (first | (go_at_call 17; refine (smirok _ _ _ a cap n _ HN (unhide HNI) HSR true HQ1 _ ((unhide HR).below (unhide B0))).mono ?_; rintro e w4 ⟨rfl, hb4⟩; have B4 := hide ((unhide B0).trans (hb4.mono (unhide B0).size)); have A4 := hide ((unhide A0).below hb4); have V4 := hide ((unhide V0).below hb4); have Z4 := hide ((unhide Z0).below hb4); have ka4 := (unhide A4).S; have kv4 := (unhide V4).S; have kz4 := (unhide Z4).S; have kf4 := (unhide Z4).F; clear hb4) | (go_at_call 18; refine (svwok _ _ _ _ _ av cv nv l HNV (unhide HNVI) HSV true HQ2 _ ((unhide HRV).below (unhide B4))).mono ?_; rintro e w5 ⟨rfl, hb5⟩; have B5 := hide ((unhide B4).trans (hb5.mono (unhide B4).size)); have A5 := hide ((unhide A4).below hb5); have V5 := hide ((unhide V4).below hb5); have Z5 := hide ((unhide Z4).below hb5); have ka5 := (unhide A5).S; have kv5 := (unhide V5).S; have kz5 := (unhide Z5).S; have kf5 := (unhide Z5).F; clear ka4 kv4 kz4 kf4; clear hb5) | (go_at_call 19; refine (sacc_late _ _ _ a cap n _ _ _ _ _ H av cv nv l (by have := unhide HLE; omega) _ ((unhide HR).below (unhide B5)) ((unhide HRV).below (unhide B5))).mono ?_; rintro e w6 ⟨⟨aX, cX, rfl, hrX⟩, hb6⟩; have B6 := hide ((unhide B5).trans (hb6.mono (unhide B5).size)); have Z6 := hide ((unhide Z5).below hb6); have HRX := hide (hrX.below (Go.Joins.below_alloc1 _ (.cells #[.int .i64 nb2, .int .i64 w2, .int .i64 h2, .slice aX n cX] 30))); have B7 := hide ((unhide B6).alloc (unhide B6).size (.cells #[.int .i64 nb2, .int .i64 w2, .int .i64 h2, .slice aX n cX] 30)); have Z7 := hide ((unhide Z6).alloc (.cells #[.int .i64 nb2, .int .i64 w2, .int .i64 h2, .slice aX n cX] 30)); have kz7 := (unhide Z6).S; have kf7 := (unhide Z6).F; clear ka5 kv5 kz5 kf5; clear hb6 hrX) | (go_at_call 20; refine (smown _ _ _ aX cX n _ HN (by omega) _ (unhide HRX)).mono ?_; rintro e w8 ⟨v8, rfl, ho8, hb8⟩; obtain ⟨a8, c8, rfl, -⟩ := own_rowV ho8; have B8 := hide ((unhide B7).trans (hb8.mono (unhide B7).size)); have Z8 := hide ((unhide Z7).below hb8); have kz8 := (unhide Z8).S; have kf8 := (unhide Z8).F; have O8 := hide (Go.Joins.ownsRow_le ho8 (show (w.heap.size + 3) ≤ _ from (by have := (unhide Z7).lt; omega))); clear kz7 kf7 hb8 ho8))
        refine bodyPost_ret (v := .tuple #[.agg #[.int .i64 nb2, .int .i64 w2, .int .i64 h2, .slice a8 n c8], .int .i64 15]) (by simp [results, Try.results6, go_sem, kz8]) rfl ⟨_, rfl, ?_, ?_⟩
        · rw [unhide HN]
          refine Go.Joins.ownsRow_le (base := (w.heap.size + 3)) ?_ (by omega)
          have hl1 : (w.heap.size + 1 + 1) < (w.heap.size + 3) := by omega
          repeat refine ownsRow_setCell_below ?_ (by exact hl1) _
          exact unhide O8
        · have hl1 : w.heap.size ≤ (w.heap.size + 1 + 1) := by omega
          repeat refine Below.setCell ?_ (by exact hl1) _
          exact unhide B8
      · have hCC : c = if fuv || (decide (frv = nb) && (decide (vwv = vw) && decide ((H : Int) = vh))) then 0 else 19 := by rw [hC]; unfold avC; simp [hle]
        have HLE := hide hle
        clear hC hle
        cases fuv with
        | true =>
          have hc : c = 0 := by rw [hCC]; rfl
          obtain ⟨e1, e2, e3, e4⟩ := (unhide HI).2.2.2 hc
          have hnH : nv = H := by have := unhide HV4 rfl; have := unhide HNV; omega
          have HLL : Hid (L = celL l) := by show _ = _; rw [e4, unhide HNV, hnH, Int.toNat_natCast]; exact sets_full _ (baseL_len _ _) (unhide HV3) ((unhide HNV).trans hnH)
          have HLN : Hid (L.length = nv) := by show _ = _; rw [unhide HLL, celL_len]; exact unhide HNV
          have HCN : Hid ((celL l).length = nv) := by show _ = _; rw [celL_len]; exact unhide HNV
          subst e1 e2 e3 hc
          clear HI hCC e4 hnH
          go_enter Try.func6, Try.ntmps6
          go_wp2_with (first | (go_at_call 17; refine (smirok _ _ _ a cap n R HN (unhide HNI) HSR true HQ1 _ ((unhide HR).below (unhide B0))).mono ?_; rintro e w4 ⟨rfl, hb4⟩; have B4 := hide ((unhide B0).trans (hb4.mono (unhide B0).size)); have A4 := hide ((unhide A0).below hb4); have V4 := hide ((unhide V0).below hb4); have Z4 := hide ((unhide Z0).below hb4); have ka4 := (unhide A4).S; have kv4 := (unhide V4).S; have kz4 := (unhide Z4).S; have kf4 := (unhide Z4).F; clear hb4) | (go_at_call 18; refine (svwok _ _ _ _ _ av cv nv l HNV (unhide HNVI) HSV true HQ2 _ ((unhide HRV).below (unhide B4))).mono ?_; rintro e w5 ⟨rfl, hb5⟩; have B5 := hide ((unhide B4).trans (hb5.mono (unhide B4).size)); have A5 := hide ((unhide A4).below hb5); have V5 := hide ((unhide V4).below hb5); have Z5 := hide ((unhide Z4).below hb5); have ka5 := (unhide A5).S; have kv5 := (unhide V5).S; have kz5 := (unhide Z5).S; have kf5 := (unhide Z5).F; clear ka4 kv4 kz4 kf4; clear hb5) | (go_at_call 19; refine (sacc_full nb vw vh a cap n R _ _ _ _ H av cv nv l HNV hnv10 (by have := unhide HLE; omega) rfl _ ((unhide HR).below (unhide B5)) ((unhide HRV).below (unhide B5))).mono ?_; rintro e w6 ⟨⟨aX, cX, rfl, hrX⟩, hb6⟩; have B6 := hide ((unhide B5).trans (hb6.mono (unhide B5).size)); have Z6 := hide ((unhide Z5).below hb6); have HRX := hide (hrX.below (Go.Joins.below_alloc1 _ (.cells #[.int .i64 nb2, .int .i64 w2, .int .i64 (H : Int), .slice aX nv cX] 30))); have B7 := hide ((unhide B6).alloc (unhide B6).size (.cells #[.int .i64 nb2, .int .i64 w2, .int .i64 (H : Int), .slice aX nv cX] 30)); have Z7 := hide ((unhide Z6).alloc (.cells #[.int .i64 nb2, .int .i64 w2, .int .i64 (H : Int), .slice aX nv cX] 30)); have kz7 := (unhide Z6).S; have kf7 := (unhide Z6).F; clear ka5 kv5 kz5 kf5; clear hb6 hrX) | (go_at_call 20; refine (smown _ _ _ aX cX nv (celL l) HCN (by omega) _ (unhide HRX)).mono ?_; rintro e w8 ⟨v8, rfl, ho8, hb8⟩; obtain ⟨a8, c8, rfl, -⟩ := own_rowV ho8; have B8 := hide ((unhide B7).trans (hb8.mono (unhide B7).size)); have Z8 := hide ((unhide Z7).below hb8); have kz8 := (unhide Z8).S; have kf8 := (unhide Z8).F; have O8 := hide (Go.Joins.ownsRow_le ho8 (show (w.heap.size + 3) ≤ _ from (by have := (unhide Z7).lt; omega))); clear kz7 kf7 hb8 ho8))
          refine bodyPost_ret (v := .tuple #[.agg #[.int .i64 nb2, .int .i64 w2, .int .i64 (H : Int), .slice a8 nv c8], .int .i64 0]) (by simp [results, Try.results6, go_sem, kz8]) rfl ⟨_, rfl, ?_, ?_⟩
          · rw [unhide HLN, unhide HLL]
            refine Go.Joins.ownsRow_le (base := (w.heap.size + 3)) ?_ (by omega)
            have hl1 : (w.heap.size + 1 + 1) < (w.heap.size + 3) := by omega
            repeat refine ownsRow_setCell_below ?_ (by exact hl1) _
            exact unhide O8
          · have hl1 : w.heap.size ≤ (w.heap.size + 1 + 1) := by omega
            repeat refine Below.setCell ?_ (by exact hl1) _
            exact unhide B8
        | false =>
          obtain ⟨G, hG⟩ : ∃ G, G = (decide (frv = nb) && (decide (vwv = vw) && decide ((H : Int) = vh))) := ⟨_, rfl⟩
          have hCC2 : c = if G then 0 else 19 := by rw [hCC, hG]; rfl
          clear hCC
          cases G with
          | false =>
            have hc : c = 19 := hCC2
            have HG := hide hG.symm
            obtain ⟨e1, e2, e3, e4⟩ := (unhide HI).2.2.1 (.inr hc)
            subst e1 e2 e3 e4 hc
            clear HI hCC2 hG
            go_enter Try.func6, Try.ntmps6
            go_wp2_with (first | (go_at_call 17; refine (smirok _ _ _ a cap n _ HN (unhide HNI) HSR true HQ1 _ ((unhide HR).below (unhide B0))).mono ?_; rintro e w4 ⟨rfl, hb4⟩; have B4 := hide ((unhide B0).trans (hb4.mono (unhide B0).size)); have A4 := hide ((unhide A0).below hb4); have V4 := hide ((unhide V0).below hb4); have Z4 := hide ((unhide Z0).below hb4); have ka4 := (unhide A4).S; have kv4 := (unhide V4).S; have kz4 := (unhide Z4).S; have kf4 := (unhide Z4).F; clear hb4) | (go_at_call 18; refine (svwok _ _ _ _ _ av cv nv l HNV (unhide HNVI) HSV true HQ2 _ ((unhide HRV).below (unhide B4))).mono ?_; rintro e w5 ⟨rfl, hb5⟩; have B5 := hide ((unhide B4).trans (hb5.mono (unhide B4).size)); have A5 := hide ((unhide A4).below hb5); have V5 := hide ((unhide V4).below hb5); have Z5 := hide ((unhide Z4).below hb5); have ka5 := (unhide A5).S; have kv5 := (unhide V5).S; have kz5 := (unhide Z5).S; have kf5 := (unhide Z5).F; clear ka4 kv4 kz4 kf4; clear hb5) | (go_at_call 19; refine (sacc_view _ _ _ a cap n _ _ _ _ _ H av cv nv l (by have := unhide HLE; omega) rfl HG _ ((unhide HR).below (unhide B5)) ((unhide HRV).below (unhide B5))).mono ?_; rintro e w6 ⟨⟨aX, cX, rfl, hrX⟩, hb6⟩; have B6 := hide ((unhide B5).trans (hb6.mono (unhide B5).size)); have Z6 := hide ((unhide Z5).below hb6); have HRX := hide (hrX.below (Go.Joins.below_alloc1 _ (.cells #[.int .i64 nb2, .int .i64 w2, .int .i64 h2, .slice aX n cX] 30))); have B7 := hide ((unhide B6).alloc (unhide B6).size (.cells #[.int .i64 nb2, .int .i64 w2, .int .i64 h2, .slice aX n cX] 30)); have Z7 := hide ((unhide Z6).alloc (.cells #[.int .i64 nb2, .int .i64 w2, .int .i64 h2, .slice aX n cX] 30)); have kz7 := (unhide Z6).S; have kf7 := (unhide Z6).F; clear ka5 kv5 kz5 kf5; clear hb6 hrX) | (go_at_call 20; refine (smown _ _ _ aX cX n _ HN (by omega) _ (unhide HRX)).mono ?_; rintro e w8 ⟨v8, rfl, ho8, hb8⟩; obtain ⟨a8, c8, rfl, -⟩ := own_rowV ho8; have B8 := hide ((unhide B7).trans (hb8.mono (unhide B7).size)); have Z8 := hide ((unhide Z7).below hb8); have kz8 := (unhide Z8).S; have kf8 := (unhide Z8).F; have O8 := hide (Go.Joins.ownsRow_le ho8 (show (w.heap.size + 3) ≤ _ from (by have := (unhide Z7).lt; omega))); clear kz7 kf7 hb8 ho8))
            refine bodyPost_ret (v := .tuple #[.agg #[.int .i64 nb2, .int .i64 w2, .int .i64 h2, .slice a8 n c8], .int .i64 19]) (by simp [results, Try.results6, go_sem, kz8]) rfl ⟨_, rfl, ?_, ?_⟩
            · rw [unhide HN]
              refine Go.Joins.ownsRow_le (base := (w.heap.size + 3)) ?_ (by omega)
              have hl1 : (w.heap.size + 1 + 1) < (w.heap.size + 3) := by omega
              repeat refine ownsRow_setCell_below ?_ (by exact hl1) _
              exact unhide O8
            · have hl1 : w.heap.size ≤ (w.heap.size + 1 + 1) := by omega
              repeat refine Below.setCell ?_ (by exact hl1) _
              exact unhide B8
          | true =>
            have hc : c = 0 := hCC2
            have hG2 := hG.symm
            simp only [Bool.and_eq_true, decide_eq_true_eq] at hG2
            obtain ⟨g1, g2, g3⟩ := hG2
            obtain ⟨e1, e2, e3, e4⟩ := (unhide HI).2.2.2 hc
            have hnH : n = H := by
              have hm := (unhide HQ1).symm
              unfold mirB at hm
              rw [if_neg (by have := unhide HV5 rfl; omega)] at hm
              simp only [Bool.and_eq_true] at hm
              have h3 := hm.2.2
              unfold rowsB at h3
              rw [Bool.and_eq_true, decide_eq_true_eq] at h3
              have h4 := h3.1
              have h5 := unhide HN
              omega
            have HNH := hide hnH
            have HLL : Hid (L = setsL R l nv) := by show _ = _; rw [e4, unhide HNV, Int.toNat_natCast, ← hnH, ← unhide HN, baseL_same]
            have HLN : Hid (L.length = n) := by show _ = _; rw [unhide HLL, setsL_len]; exact unhide HN
            have HCN : Hid ((setsL R l nv).length = n) := by show _ = _; rw [setsL_len]; exact unhide HN
            have E2 := hide e2
            have E3 := hide e3
            have G1 := hide g1
            have G2 := hide g2
            have G3 := hide g3
            subst e1 hc
            have hw2 : w2 = vw := e2.trans g2
            have hh2 : h2 = vh := e3.trans g3
            subst hw2 hh2
            clear HI hCC2 e4 hnH hG g1 g2 g3 e2 e3
            go_enter Try.func6, Try.ntmps6
            go_wp2_with (first | (go_at_call 17; refine (smirok _ _ _ a cap n R HN (unhide HNI) HSR true HQ1 _ ((unhide HR).below (unhide B0))).mono ?_; rintro e w4 ⟨rfl, hb4⟩; have B4 := hide ((unhide B0).trans (hb4.mono (unhide B0).size)); have A4 := hide ((unhide A0).below hb4); have V4 := hide ((unhide V0).below hb4); have Z4 := hide ((unhide Z0).below hb4); have ka4 := (unhide A4).S; have kv4 := (unhide V4).S; have kz4 := (unhide Z4).S; have kf4 := (unhide Z4).F; clear hb4) | (go_at_call 18; refine (svwok _ _ _ _ _ av cv nv l HNV (unhide HNVI) HSV true HQ2 _ ((unhide HRV).below (unhide B4))).mono ?_; rintro e w5 ⟨rfl, hb5⟩; have B5 := hide ((unhide B4).trans (hb5.mono (unhide B4).size)); have A5 := hide ((unhide A4).below hb5); have V5 := hide ((unhide V4).below hb5); have Z5 := hide ((unhide Z4).below hb5); have ka5 := (unhide A5).S; have kv5 := (unhide V5).S; have kz5 := (unhide Z5).S; have kf5 := (unhide Z5).F; clear ka4 kv4 kz4 kf4; clear hb5) | (go_at_call 19; refine (sacc_diff nb _ _ a cap n R _ _ _ _ H av cv nv l HN HNH (by omega) hH10 HNV hnv10 (by have := unhide HLE; omega) rfl (unhide G1) (unhide G2) (unhide G3) HYY _ ((unhide HR).below (unhide B5)) ((unhide HRV).below (unhide B5))).mono ?_; rintro e w6 ⟨⟨aX, cX, rfl, hrX⟩, hb6⟩; have B6 := hide ((unhide B5).trans (hb6.mono (unhide B5).size)); have Z6 := hide ((unhide Z5).below hb6); have HRX := hide (hrX.below (Go.Joins.below_alloc1 _ (.cells #[.int .i64 nb2, .int .i64 w2, .int .i64 h2, .slice aX n cX] 30))); have B7 := hide ((unhide B6).alloc (unhide B6).size (.cells #[.int .i64 nb2, .int .i64 w2, .int .i64 h2, .slice aX n cX] 30)); have Z7 := hide ((unhide Z6).alloc (.cells #[.int .i64 nb2, .int .i64 w2, .int .i64 h2, .slice aX n cX] 30)); have kz7 := (unhide Z6).S; have kf7 := (unhide Z6).F; clear ka5 kv5 kz5 kf5; clear hb6 hrX) | (go_at_call 20; refine (smown _ _ _ aX cX n (setsL R l nv) HCN (by omega) _ (unhide HRX)).mono ?_; rintro e w8 ⟨v8, rfl, ho8, hb8⟩; obtain ⟨a8, c8, rfl, -⟩ := own_rowV ho8; have B8 := hide ((unhide B7).trans (hb8.mono (unhide B7).size)); have Z8 := hide ((unhide Z7).below hb8); have kz8 := (unhide Z8).S; have kf8 := (unhide Z8).F; have O8 := hide (Go.Joins.ownsRow_le ho8 (show (w.heap.size + 3) ≤ _ from (by have := (unhide Z7).lt; omega))); clear kz7 kf7 hb8 ho8))
            refine bodyPost_ret (v := .tuple #[.agg #[.int .i64 nb2, .int .i64 w2, .int .i64 h2, .slice a8 n c8], .int .i64 0]) (by simp [results, Try.results6, go_sem, kz8]) rfl ⟨_, rfl, ?_, ?_⟩
            · rw [unhide HLN, unhide HLL]
              refine Go.Joins.ownsRow_le (base := (w.heap.size + 3)) ?_ (by omega)
              have hl1 : (w.heap.size + 1 + 1) < (w.heap.size + 3) := by omega
              repeat refine ownsRow_setCell_below ?_ (by exact hl1) _
              exact unhide O8
            · have hl1 : w.heap.size ≤ (w.heap.size + 1 + 1) := by omega
              repeat refine Below.setCell ?_ (by exact hl1) _
              exact unhide B8
end Go.Proofs.Ytfibbhggphmebaa

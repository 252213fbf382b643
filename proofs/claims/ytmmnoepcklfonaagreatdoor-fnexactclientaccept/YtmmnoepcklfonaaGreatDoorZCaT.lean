/- ClientAccept: l11Accept at any right view. -/
import Derived.Test.YtmmnoepcklfonaaGreatDoorZG20
import Derived.Test.YtmmnoepcklfonaaGreatDoorZAvP
namespace Go.Proofs.YtmmnoepcklfonaaGreatDoor
open Go.ChangeShapes Go.WideShapes Go.ChangeAt Go.RowKit
set_option linter.unusedVariables false
set_option maxHeartbeats 4000000 in
set_option maxRecDepth 100000 in
theorem sacc_all (nb vw vh : Int) (a : Option Addr) (cap n : Nat) (R : List ByteArray) (HN : Hid (R.length = n)) (nbv frv : Int) (fuv : Bool) (vwv vhv : Int) (av : Option Addr) (cv nv : Nat) (l : List Rw) (HNV : Hid (l.length = nv)) (nb2 w2 h2 : Int) (L : List ByteArray) (c : Int) (HI : Hid (AvIs nb vw vh R nbv frv fuv vwv vhv l nb2 w2 h2 L c)) (HQ1 : Hid (true = mirB nb vw vh R)) (HQ2 : Hid (true = vwB nbv frv fuv vwv vhv l)) (w : World) (hr : RowV w a (cS R)) (hrv : RowV w av (cE l)) :
    Calls Tryz.prog 41 #[.agg #[.int .i64 nb, .int .i64 vw, .int .i64 vh, .slice a n cap], .agg #[.int .i64 nbv, .int .i64 frv, .bool fuv, .int .i64 vwv, .int .i64 vhv, .slice av nv cv]] w (fun e w' => AccTo nb2 w2 h2 L.length c L w e w' ∧ (c = 0 → AccNew nb2 w2 h2 L.length c L w e w')) := by
  have hC := (unhide HI).1
  rw [← unhide HQ1, ← unhide HQ2] at hC
  have hRn : n ≤ 10 := by rw [← unhide HN]; exact mir_len (unhide HQ1).symm
  obtain ⟨hv1, hv2, hv3, hv4, hv5⟩ := vw_parts (unhide HQ2).symm
  obtain ⟨W, H, eW, eH, hW1, hW2, hH1, hH10⟩ := sizeB_nat hv2
  subst eH
  have hnv10 : nv ≤ 10 := by have := rise_len (by omega) hv3; have := unhide HNV; omega
  have HYY : Hid (∀ k (h : k < l.length), 0 ≤ l[k].1 ∧ l[k].1 < (H : Int)) := fun k h => by
    have h1 := step_parts (rise_at hv3 k h)
    have h2 := prev_ge k fun i hi => rise_at hv3 i (by omega)
    rw [yAt_at l k h] at h1
    omega
  by_cases hle : nbv ≤ nb
  · have hc : c = 15 := by rw [hC]; unfold avC; simp [hle]
    obtain ⟨e1, e2, e3, e4⟩ := (unhide HI).2.2.1 (.inl hc)
    subst e1 e2 e3 e4 hc
    have T := sacc_late nb2 w2 h2 a cap n L nbv frv fuv vwv H av cv nv l hle w hr hrv
    exact T.mono fun _ _ h => ⟨by rw [unhide HN]; exact h, fun h0 => absurd h0 (by decide)⟩
  · have hCC : c = if fuv || (decide (frv = nb) && (decide (vwv = vw) && decide ((H : Int) = vh))) then 0 else 19 := by rw [hC]; unfold avC; simp [hle]
    cases fuv with
    | true =>
      have hc : c = 0 := by rw [hCC]; rfl
      obtain ⟨e1, e2, e3, e4⟩ := (unhide HI).2.2.2 hc
      have hnH : nv = H := by have := hv4 rfl; have := unhide HNV; omega
      have hLL : L = celL l := by rw [e4, unhide HNV, hnH, Int.toNat_natCast]; exact sets_full _ (baseL_len _ _) hv3 ((unhide HNV).trans hnH)
      have hLN : L.length = nv := by rw [hLL, celL_len]; exact unhide HNV
      subst e1 e2 e3 hc
      rw [hLN, hLL]
      exact (sacc_fullN nb vw vh a cap n R _ _ _ _ H av cv nv l HNV hnv10 hle rfl w hr hrv).mono fun _ _ h => ⟨h.to, fun _ => h⟩
    | false =>
      obtain ⟨G, hG⟩ : ∃ G, G = (decide (frv = nb) && (decide (vwv = vw) && decide ((H : Int) = vh))) := ⟨_, rfl⟩
      have hCC2 : c = if G then 0 else 19 := by rw [hCC, hG]; rfl
      cases G with
      | false =>
        have hc : c = 19 := hCC2
        have HG := hide hG.symm
        obtain ⟨e1, e2, e3, e4⟩ := (unhide HI).2.2.1 (.inr hc)
        subst e1 e2 e3 e4 hc
        have T := sacc_view nb2 w2 h2 a cap n L nbv frv false vwv H av cv nv l hle rfl HG w hr hrv
        exact T.mono fun _ _ h => ⟨by rw [unhide HN]; exact h, fun h0 => absurd h0 (by decide)⟩
      | true =>
        have hc : c = 0 := hCC2
        have hG2 := hG.symm
        simp only [Bool.and_eq_true, decide_eq_true_eq] at hG2
        obtain ⟨g1, g2, g3⟩ := hG2
        obtain ⟨e1, e2, e3, e4⟩ := (unhide HI).2.2.2 hc
        have hnH : n = H := by
          have hm := (unhide HQ1).symm
          unfold mirB at hm
          rw [if_neg (by have := hv5 rfl; omega)] at hm
          simp only [Bool.and_eq_true] at hm
          have h3 := hm.2.2
          unfold rowsB at h3
          rw [Bool.and_eq_true, decide_eq_true_eq] at h3
          have h4 := h3.1
          have h5 := unhide HN
          omega
        have hLL : L = setsL R l nv := by rw [e4, unhide HNV, Int.toNat_natCast, ← hnH, ← unhide HN, baseL_same]
        have hLN : L.length = n := by rw [hLL, setsL_len]; exact unhide HN
        subst e1 hc
        have hw2 : w2 = vw := e2.trans g2
        have hh2 : h2 = vh := e3.trans g3
        subst hw2 hh2
        rw [hLN, hLL]
        exact (sacc_diffN nb _ _ a cap n R _ _ _ _ H av cv nv l HN (hide hnH) (by omega) hH10 HNV hnv10 hle rfl g1 g2 g3 HYY w hr hrv).mono fun _ _ h => ⟨h.to, fun _ => h⟩
end Go.Proofs.YtmmnoepcklfonaaGreatDoor

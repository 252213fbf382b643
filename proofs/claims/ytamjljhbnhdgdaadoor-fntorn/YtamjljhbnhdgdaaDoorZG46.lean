/- Texts put together: SapX SapY. -/
import Derived.Test.YtamjljhbnhdgdaaDoorZSapW
import Derived.Test.YtamjljhbnhdgdaaDoorZG15
/- spec.l07Apply of any text: what the specification answers. -/
namespace Go.Proofs.YtamjljhbnhdgdaaDoor
open Go.ChangeShapes Go.WideShapes Go.ChangeAt Go.RowKit
set_option linter.unusedVariables false
/-- What l07Apply answers, as apF tells it. -/
def SapTo (o : Option (Int × Int × List Ent)) (w w' : World) (e : Ending) : Prop :=
 match o with
 | none => ∃ x y a n c, e = .returned (.tuple #[.agg #[.int .i64 x, .int .i64 y, .slice a n c], .bool false])
 | some (tm2, vt2, l2) => ∃ v, e = .returned (.tuple #[.agg #[.int .i64 tm2, .int .i64 vt2, v], .bool true]) ∧ w'.ownsRow w.heap.size 62 2 v l2.length (cE l2)
theorem sapTo_no {o : Option (Int × Int × List Ent)} {w w' : World} {x y : Int} {a : Option Addr} {n c : Nat} (h : o = none) : SapTo o w w' (.returned (.tuple #[.agg #[.int .i64 x, .int .i64 y, .slice a n c], .bool false])) := by
 rw [h]; exact ⟨_, _, _, _, _, rfl⟩
theorem sapTo_yes {tm vt tm2 vt2 : Int} {l l2 : List Ent} {t : ByteArray} {w w' : World} {e : Ending} {R : Bool} {n : Nat} (h : apR tm vt l t = some (tm2, vt2, l2)) (hR : R = stateB tm2 vt2 l2) (htm : tm ≤ tm2) (hn : l2.length = n) (he : ∃ v, e = .returned (.tuple #[.agg #[.int .i64 tm2, .int .i64 vt2, v], .bool R]) ∧ w'.ownsRow w.heap.size 62 2 v n (cE l2)) : SapTo (apF tm vt l t) w w' e := by
 obtain ⟨v, rfl, ho⟩ := he
 subst hn
 cases hb : stateB tm2 vt2 l2 with
 | true => rw [apF_ok h ⟨hb, htm⟩, hR, hb]; exact ⟨v, rfl, ho⟩
 | false =>
  obtain ⟨a2, c2, rfl, -⟩ := ownZ_rowV ho
  rw [hR, hb]; exact sapTo_no (apF_bad h (fun h2 => by rw [hb] at h2; cases h2.1))
theorem recP_L {t f0 f1 : ByteArray} {r : List ByteArray} {q : Nat} (h : rfOf t.data.toList = some (f0 :: f1 :: r)) (hs : f1.size ≤ 20000) (hq : f1.size = 3 * q) : (q ≤ 4096 → recP t = some (f0, numsR f1.data.toList q, r)) ∧ (¬ q ≤ 4096 → recP t = none) := by
 have hl : f1.data.toList.length = f1.size := by simp
 have h3 : f1.size / 3 = q := by omega
 refine ⟨fun h4 => ?_, fun h4 => ?_⟩
 ·have hk := rn_ok (l := f1.data.toList) (by omega) (by omega) (by omega)
  rw [recP_some h hk.2, hk.1, hl, h3]
 ·have hk := rn_many (l := f1.data.toList) (by omega) (by omega) (by omega)
  exact recP_num h (by rw [hk.2]; decide)
theorem apR_no {tm vt : Int} {l : List Ent} {t f0 f1 : ByteArray} {r : List ByteArray} {q : Nat} (h : rfOf t.data.toList = some (f0 :: f1 :: r)) (hs : f1.size ≤ 20000) (hq : f1.size = 3 * q) (hk : apK tm vt l f0 (numsR f1.data.toList q) r = none) : apF tm vt l t = none := by
 apply apF_none
 have h1 := recP_L h hs hq
 unfold apR
 by_cases h4 : q ≤ 4096
 ·rw [h1.1 h4]; exact hk
 ·rw [h1.2 h4]
theorem apR_yes {tm vt : Int} {l : List Ent} {t f0 f1 : ByteArray} {r : List ByteArray} {q : Nat} (h : rfOf t.data.toList = some (f0 :: f1 :: r)) (hs : f1.size ≤ 20000) (hq : f1.size = 3 * q) (hk : q ≤ 4096) {L : List Int} (hL : numsR f1.data.toList q = L) : apR tm vt l t = apK tm vt l f0 L r := by
 have h1 := (recP_L h hs hq).1 hk
 unfold apR
 rw [h1, hL]
theorem len1 {L : List Int} (h : L.length = 1) : ∃ x, L = [x] := by
 match L, h with | [x], _ => exact ⟨x, rfl⟩
theorem len2 {L : List Int} (h : L.length = 2) : ∃ x y, L = [x, y] := by
 match L, h with | [x, y], _ => exact ⟨x, y, rfl⟩
set_option maxHeartbeats 1000000 in
theorem sapply (tm vt : Int) (a : Option Addr) (cap n : Nat) (l : List (Int × ByteArray)) (HN : Hid (l.length = n)) (hn : n < 1048576) (HSZ : Hid (∀ k (h : k < l.length), l[k].2.size ≤ 1048576)) (t : ByteArray) (ht : t.size ≤ 65536) (w : World) (hr : RowV w a (cE l)) :
  Calls Tryd.prog 27 #[.agg #[.int .i64 tm, .int .i64 vt, .slice a n cap], .string t] w fun e w' => SapTo (apF tm vt l t) w w' e ∧ Below w.heap.size w w' := by
 have hnl := unhide HN
 cases hrf : rfOf t.data.toList with
 | none =>
  refine (sap_few tm vt a cap n t ht (fun m hm => by rw [hrf] at hm; cases hm) w).mono ?_
  rintro e w' ⟨rfl, hb⟩
  exact ⟨sapTo_no (apF_none (by unfold apR; rw [recP_none hrf])), hb⟩
 | some m =>
  by_cases hm : m.length < 2
  ·refine (sap_few tm vt a cap n t ht (fun m' hm' => by rw [hrf] at hm'; injection hm' with hm'; rw [← hm']; exact hm) w).mono ?_
   rintro e w' ⟨rfl, hb⟩
   exact ⟨sapTo_no (apF_none (by unfold apR; rw [recP_few hrf hm])), hb⟩
  ·obtain ⟨f0, f1, r, rfl⟩ : ∃ f0 f1 r, m = f0 :: f1 :: r := by
    match m, hm with
    | [], h => exact absurd (by decide) h
    | [_], h => exact absurd (Nat.lt_succ_self 1) h
    | f0 :: f1 :: r, _ => exact ⟨f0, f1, r, rfl⟩
   have H : Hid (rfOf t.data.toList = some (f0 :: f1 :: r)) := hrf
   have hsz := ap_fields t ht _ hrf
   have hf1 : f1.size ≤ 20000 := hsz 1 (by simp)
   have hl1 : f1.data.toList.length = f1.size := by simp
   by_cases h3 : f1.size % 3 = 0
   ·obtain ⟨q, hq⟩ : ∃ q, f1.size = 3 * q := ⟨f1.size / 3, by omega⟩
    have hqn := numsR_len f1.data.toList q
    have NO : apK tm vt l f0 (numsR f1.data.toList q) r = none → ∀ (P : Ending → World → Prop), (∀ e w', P e w' → e = .returned (.tuple #[.agg #[.int .i64 tm, .int .i64 vt, .slice a n cap], .bool false]) ∧ Below w.heap.size w w') → Calls Tryd.prog 27 #[.agg #[.int .i64 tm, .int .i64 vt, .slice a n cap], .string t] w P → Calls Tryd.prog 27 #[.agg #[.int .i64 tm, .int .i64 vt, .slice a n cap], .string t] w fun e w' => SapTo (apF tm vt l t) w w' e ∧ Below w.heap.size w w' := by
     intro hk P hP hC
     refine hC.mono ?_
     intro e w' hp
     obtain ⟨rfl, hb⟩ := hP e w' hp
     exact ⟨sapTo_no (apR_no hrf hf1 hq hk), hb⟩
    by_cases h_t : f0 = ⟨#[116]⟩
    ·by_cases hz : r.length = 0
     ·by_cases h2 : q = 2
      ·obtain ⟨x, y, hL⟩ := len2 (hqn.trans h2)
       have hR : apR tm vt l t = some (x, y, l) := by
        rw [apR_yes hrf hf1 hq (by omega) hL, List.length_eq_zero_iff.1 hz]
        show (if f0 = ⟨#[116]⟩ then some (x, y, l) else none) = _
        rw [if_pos h_t]
       by_cases hx : x < tm
       ·refine (sap_t3 tm vt a cap n l HN (by omega) t f0 f1 r ht H q hq (by omega) [x, y] hL 2 rfl (by decide) h_t hz x y rfl rfl hx w hr).mono ?_
        rintro e w' ⟨rfl, hb⟩
        exact ⟨sapTo_no (apF_bad hR (fun h => by omega)), hb⟩
       ·refine (sap_t4 tm vt a cap n l HN (by omega) t f0 f1 r ht H q hq (by omega) [x, y] hL 2 rfl (by decide) h_t hz x y rfl rfl hx HSZ _ rfl w hr).mono ?_
        rintro e w' ⟨he, hb⟩
        exact ⟨sapTo_yes hR rfl (by omega) hnl he, hb⟩
      ·refine NO (apK_no (by simp [hqn, h2]) (by simp [h_t]) (by simp [h_t])) _ (fun _ _ h => h) (sap_t2 tm vt a cap n l HN (by omega) t f0 f1 r ht H q hq (by omega) _ rfl q hqn (by omega) h_t hz h2 w hr)
     ·refine NO (apK_no (by simp [hz]) (by simp [h_t]) (by simp [h_t])) _ (fun _ _ h => h) (sap_t1 tm vt a cap n l HN (by omega) t f0 f1 r ht H q hq (by omega) _ rfl q hqn (by omega) h_t hz w hr)
    ·by_cases h_c : f0 = ⟨#[99]⟩
     ·by_cases hz : r.length = 0
      ·by_cases h2 : q = 1
       ·obtain ⟨x, hL⟩ := len1 (hqn.trans h2)
        have hR : apR tm vt l t = if f0 = ⟨#[99]⟩ ∧ 0 ≤ x ∧ x ≤ (l.length : Int) - 1 then some (tm, vt, l.take x.toNat) else none := by
         rw [apR_yes hrf hf1 hq (by omega) hL, List.length_eq_zero_iff.1 hz]; rfl
        cases hx : inB x 0 ((n : Int) - 1) with
        | false =>
         refine (sap_c3 tm vt a cap n l HN (by omega) t f0 f1 r ht H q hq (by omega) [x] hL 1 rfl (by decide) h_c hz x rfl rfl hx w hr).mono ?_
         rintro e w' ⟨rfl, hb⟩
         refine ⟨sapTo_no (apF_none ?_), hb⟩
         rw [hR, if_neg (fun h => by unfold inB at hx; rw [hnl] at h; simp at hx; omega)]
        | true =>
         have hx2 : 0 ≤ x ∧ x ≤ (n : Int) - 1 := by unfold inB at hx; simp at hx; omega
         obtain ⟨c0, hc⟩ : ∃ c0 : Nat, x = (c0 : Int) := ⟨x.toNat, by omega⟩
         subst hc
         rw [if_pos ⟨h_c, hx2.1, by rw [hnl]; exact hx2.2⟩] at hR
         have hR2 : apR tm vt l t = some (tm, vt, l.take c0) := hR
         refine (sap_c4 tm vt a cap n l HN (by omega) t f0 f1 r ht H q hq (by omega) [(c0 : Int)] hL 1 rfl (by decide) h_c hz c0 rfl rfl (by omega) (fun k h => by rw [List.getElem_take]; exact unhide HSZ _ _) _ rfl w hr).mono ?_
         rintro e w' ⟨he, hb⟩
         exact ⟨sapTo_yes hR2 rfl (by omega) (by rw [List.length_take]; omega) he, hb⟩
       ·refine NO (apK_no (by simp [h_t]) (by simp [hqn, h2]) (by simp [h_c])) _ (fun _ _ h => h) (sap_c2 tm vt a cap n l HN (by omega) t f0 f1 r ht H q hq (by omega) _ rfl q hqn (by omega) h_c hz h2 w hr)
      ·refine NO (apK_no (by simp [h_t]) (by simp [hz]) (by simp [h_c])) _ (fun _ _ h => h) (sap_c1 tm vt a cap n l HN (by omega) t f0 f1 r ht H q hq (by omega) _ rfl q hqn (by omega) h_c hz w hr)
     ·by_cases h_e : f0 = ⟨#[101]⟩
      ·by_cases hz : r.length = 1
       ·by_cases h2 : q = 1
        ·obtain ⟨x, hL⟩ := len1 (hqn.trans h2)
         obtain ⟨d, rfl⟩ : ∃ d, r = [d] := by match r, hz with | [d], _ => exact ⟨d, rfl⟩
         have hR : apR tm vt l t = some (tm, vt, l ++ [(x, d)]) := by
          rw [apR_yes hrf hf1 hq (by omega) hL]
          show (if f0 = ⟨#[101]⟩ then some (tm, vt, l ++ [(x, d)]) else none) = _
          rw [if_pos h_e]
         have hd : d.size ≤ 20000 := hsz 2 (by simp)
         refine (sap_e3 tm vt a cap n l HN (by omega) t f0 f1 [d] ht H q hq (by omega) [x] hL 1 rfl (by decide) h_e d rfl x rfl rfl hn (fun k h => ?_) _ rfl w hr).mono ?_
         ·by_cases hk2 : k < l.length
          ·rw [List.getElem_append_left hk2]; exact unhide HSZ k hk2
          ·rw [List.getElem_append_right (by omega)]
           simp at h ⊢
           omega
         ·rintro e w' ⟨he, hb⟩
          exact ⟨sapTo_yes hR rfl (by omega) (by rw [List.length_append]; simp; omega) he, hb⟩
        ·refine NO (apK_no (by simp [h_t]) (by simp [h_c]) (by simp [hqn, h2])) _ (fun _ _ h => h) (sap_e2 tm vt a cap n l HN (by omega) t f0 f1 r ht H q hq (by omega) _ rfl q hqn (by omega) h_e hz h2 w hr)
       ·refine NO (apK_no (by simp [h_t]) (by simp [h_c]) (by simp [hz])) _ (fun _ _ h => h) (sap_e1 tm vt a cap n l HN (by omega) t f0 f1 r ht H q hq (by omega) _ rfl q hqn (by omega) h_e hz w hr)
      ·refine NO (apK_no (by simp [h_t]) (by simp [h_c]) (by simp [h_e])) _ (fun _ _ h => h) (sap_other tm vt a cap n l HN (by omega) t f0 f1 r ht H q hq (by omega) _ rfl q hqn (by omega) h_t h_c h_e w hr)
   ·refine (sap_form tm vt a cap n t f0 f1 r ht H h3 (by omega) w).mono ?_
    rintro e w' ⟨rfl, hb⟩
    refine ⟨sapTo_no (apF_none ?_), hb⟩
    have hk := rn_form (l := f1.data.toList) (by omega) (by omega)
    unfold apR; rw [recP_num hrf (by rw [hk.2]; decide)]
end Go.Proofs.YtamjljhbnhdgdaaDoor

/- spec.ApplyRecord: what the specification answers. -/
namespace Go.Proofs.YtamjljhbnhdgdaaDoor
open Go.ChangeShapes Go.WideShapes Go.ChangeAt Go.RowKit
set_option linter.unusedVariables false
set_option maxHeartbeats 4000000 in
set_option maxRecDepth 100000 in
theorem sapp (tm vt : Int) (a : Option Addr) (cap n : Nat) (l : List (Int × ByteArray)) (HN : Hid (l.length = n)) (hn : n ≤ 1048576) (HSZ : Hid (∀ k (h : k < l.length), l[k].2.size ≤ 1048576)) (t : ByteArray) (sz : Nat) (hsz : sz = t.size) (htm : sz ≤ 1048576) (tm' vt' : Int) (l' : List (Int × ByteArray)) (n' : Nat) (c : Int) (HIS : Hid (ApIs tm vt l t tm' vt' l' c)) (HN' : Hid (l'.length = n')) (hn' : Hid (n' ≤ 1048576)) (w : World) (hr : RowV w a (cE l)) :
  Calls Tryd.prog 13 #[.agg #[.int .i64 tm, .int .i64 vt, .slice a n cap], .string t] w fun e w' => ∃ v, e = .returned (.tuple #[.agg #[.int .i64 tm', .int .i64 vt', v], .int .i64 c]) ∧ w'.ownsRow w.heap.size 62 2 v n' (cE l') ∧ Below w.heap.size w w' := by
 have B0 := hide (Go.Joins.below_alloc2 w (.cells #[.int .i64 tm, .int .i64 vt, .slice a n cap] 25) (.cells #[.int .i64 0, .int .i64 0, .slice none 0 0] 25))
 have A0 := hide ((BF.new w #[.int .i64 tm, .int .i64 vt, .slice a n cap] 25).alloc (.cells #[.int .i64 0, .int .i64 0, .slice none 0 0] 25))
 have Z0 := hide (BF.new (w.alloc (.cells #[.int .i64 tm, .int .i64 vt, .slice a n cap] 25)) #[.int .i64 0, .int .i64 0, .slice none 0 0] 25)
 rw [show (w.alloc (.cells #[.int .i64 tm, .int .i64 vt, .slice a n cap] 25)).heap.size = w.heap.size + 1 from by simp] at Z0
 have HR := hide hr
 have la : (t.size : Int) = (sz : Int) := by rw [hsz]
 have his := unhide HIS
 unfold ApIs at his
 rw [← hsz] at his
 have HTS := hide hsz
 have kz0 := (unhide Z0).S
 have kzf0 := (unhide Z0).F
 clear hr hsz HIS
 go_enter Tryd.func13, Tryd.ntmps13
 by_cases hlong : 65536 < sz
 ·rw [if_pos hlong] at his
  simp at his
  obtain ⟨rfl, rfl, rfl, rfl⟩ := his
  obtain rfl : n' = 0 := (unhide HN').symm
  have dl : (65536 : Int) < (sz : Int) := by omega
  go_wp2_with fail
  refine bodyPost_ret (v := .tuple #[.agg #[.int .i64 0, .int .i64 0, .slice none 0 0], .int .i64 2]) (by simp [results, Tryd.results13, go_sem, kz0]) rfl ⟨_, rfl, World.ownsRow_nil _ _ _ _, ?_⟩
  exact unhide B0
 rw [if_neg hlong] at his
 have dl : ¬ (65536 : Int) < (sz : Int) := by omega
 have hs6 : sz ≤ 65536 := by omega
 obtain ⟨R, hRR⟩ : ∃ R, R = stateB tm vt l := ⟨_, rfl⟩
 rw [← hRR] at his
 have HRR := hide hRR
 have HI := hide his
 clear hRR his hlong
 go_wp2_with fail
 refine (sstateok tm vt a cap n l HN hn HSZ R HRR _ ((unhide HR).below (unhide B0))).mono ?_
 rintro e w1 ⟨rfl, hb1⟩
 have B1 := hide ((unhide B0).trans (hb1.mono (unhide B0).size))
 have A1 := hide ((unhide A0).below hb1)
 have Z1 := hide ((unhide Z0).below hb1)
 clear hb1 B0 A0 Z0 kz0 kzf0
 have ka := (unhide A1).S
 have kz := (unhide Z1).S
 have kzf := (unhide Z1).F
 cases R with
 | false =>
  obtain ⟨rfl, rfl, rfl, rfl⟩ : tm' = 0 ∧ vt' = 0 ∧ l' = [] ∧ c = 1 := by have := unhide HI; simpa using this
  obtain rfl : n' = 0 := (unhide HN').symm
  go_wp2_with fail
  refine bodyPost_ret (v := .tuple #[.agg #[.int .i64 0, .int .i64 0, .slice none 0 0], .int .i64 1]) (by simp [results, Tryd.results13, go_sem, kz]) rfl ⟨_, rfl, World.ownsRow_nil _ _ _ _, ?_⟩
  iterate 3 refine Below.setCell ?_ (by show w.heap.size ≤ w.heap.size + 1; omega) _
  exact unhide B1
 | true =>
  have hn60 : n ≤ 60 := by have h := (state_parts (unhide HRR).symm).2.2.1; have := unhide HN; omega
  go_wp2_with fail
  refine (sapply tm vt a cap n l HN (by omega) HSZ t (by rw [← unhide HTS]; exact hs6) _ ((unhide HR).below (unhide B1))).mono ?_
  rintro e w2 ⟨hto, hb2⟩
  have B2 := hide ((unhide B1).trans (hb2.mono (unhide B1).size))
  have A2 := hide ((unhide A1).below hb2)
  have Z2 := hide ((unhide Z1).below hb2)
  clear hb2 ka kz kzf
  cases hF : apF tm vt l t with
  | none =>
   rw [hF] at hto
   obtain ⟨x, y, a2, n2, c2, rfl⟩ := hto
   obtain ⟨rfl, rfl, rfl, rfl⟩ : tm = tm' ∧ vt = vt' ∧ l = l' ∧ 3 = c := by
    have h := unhide HI
    rw [hF] at h
    simp at h
    exact ⟨h.1.symm, h.2.1.symm, h.2.2.1.symm, h.2.2.2.symm⟩
   obtain rfl : n = n' := (unhide HN).symm.trans (unhide HN')
   clear hF HI B1 A1 Z1
   have B3 := hide ((unhide B2).alloc (unhide B2).size (.cells #[.int .i64 x, .int .i64 y, .slice a2 n2 c2] 25))
   have A3 := hide ((unhide A2).alloc (.cells #[.int .i64 x, .int .i64 y, .slice a2 n2 c2] 25))
   have Z3 := hide ((unhide Z2).alloc (.cells #[.int .i64 x, .int .i64 y, .slice a2 n2 c2] 25))
   have ka := (unhide A3).S
   clear B2 A2 Z2
   go_wp2_with fail
   refine (sown tm vt a cap n l HN hn _ ((unhide HR).below (unhide B3))).mono ?_
   rintro e w3 ⟨v3, rfl, ho3, hb3⟩
   obtain ⟨a3, c3, rfl, -⟩ := ownZ_rowV ho3
   have B4 := hide ((unhide B3).trans (hb3.mono (unhide B3).size))
   have Z4 := hide ((unhide Z3).below hb3)
   have nz : (Value.slice a3 n c3).ownBlock ≠ some (w.heap.size + 1) := fun h => by have := (ho3.lt _ h).1; have := (unhide Z3).lt; omega
   have kz := (unhide Z4).S
   have kzf := (unhide Z4).F
   obtain ⟨wz, hvz, hFZ, hbz⟩ := put3 w3 (unhide Z4) (.int .i64 tm) (.int .i64 vt) (.slice a3 n c3)
   have hfz : ∀ k, k ≠ w.heap.size + 1 → wz.heap[k]? = w3.heap[k]? := fun k hk => by rw [hvz]; iterate 3 rw [Below.heap_setCell _ _ _ _ hk]
   have OZ := hide (own_low (own_far ho3 hfz nz) (unhide B3).size)
   have BZ := hide ((unhide B4).trans (hbz.mono (Nat.le_succ _)))
   have kf := hFZ.S
   clear hb3 ho3 B3 A3 Z3 ka hfz hbz
   go_wp2_with fail
   rw [← hvz]
   refine bodyPost_ret (v := .tuple #[.agg #[.int .i64 tm, .int .i64 vt, .slice a3 n c3], .int .i64 3]) (by simp [results, Tryd.results13, go_sem, kf]) rfl ⟨_, rfl, unhide OZ, unhide BZ⟩
  | some q =>
   obtain ⟨tm2, vt2, l2⟩ := q
   rw [hF] at hto
   obtain ⟨v2, rfl, ho2⟩ := hto
   obtain ⟨a2, c2, rfl, hr2⟩ := ownZ_rowV ho2
   obtain ⟨rfl, rfl, rfl, rfl⟩ : tm2 = tm' ∧ vt2 = vt' ∧ l2 = l' ∧ 0 = c := by
    have h := unhide HI
    rw [hF] at h
    simp at h
    exact ⟨h.1.symm, h.2.1.symm, h.2.2.1.symm, h.2.2.2.symm⟩
   have en := unhide HN'
   rw [en] at ho2 ⊢
   clear hF HI B1 A1 Z1 en
   have B3 := hide ((unhide B2).alloc (unhide B2).size (.cells #[.int .i64 tm2, .int .i64 vt2, .slice a2 n' c2] 25))
   have Z3 := hide ((unhide Z2).alloc (.cells #[.int .i64 tm2, .int .i64 vt2, .slice a2 n' c2] 25))
   have P3 := hide (BF.new w2 #[.int .i64 tm2, .int .i64 vt2, .slice a2 n' c2] 25)
   have hr3 := hide (hr2.below (Go.Joins.below_alloc1 w2 (.cells #[.int .i64 tm2, .int .i64 vt2, .slice a2 n' c2] 25)))
   have ka := (unhide P3).S
   clear B2 A2 Z2 ho2 hr2
   go_wp2_with fail
   refine (sown tm2 vt2 a2 c2 n' l2 HN' (unhide hn') _ (unhide hr3)).mono ?_
   rintro e w3 ⟨v3, rfl, ho3, hb3⟩
   obtain ⟨a3, c3, rfl, -⟩ := ownZ_rowV ho3
   have B4 := hide ((unhide B3).trans (hb3.mono (unhide B3).size))
   have Z4 := hide ((unhide Z3).below hb3)
   have nz : (Value.slice a3 n' c3).ownBlock ≠ some (w.heap.size + 1) := fun h => by have := (ho3.lt _ h).1; have := (unhide Z3).lt; omega
   have kz := (unhide Z4).S
   have kzf := (unhide Z4).F
   obtain ⟨wz, hvz, hFZ, hbz⟩ := put3 w3 (unhide Z4) (.int .i64 tm2) (.int .i64 vt2) (.slice a3 n' c3)
   have hfz : ∀ k, k ≠ w.heap.size + 1 → wz.heap[k]? = w3.heap[k]? := fun k hk => by rw [hvz]; iterate 3 rw [Below.heap_setCell _ _ _ _ hk]
   have OZ := hide (own_low (own_far ho3 hfz nz) (unhide B3).size)
   have BZ := hide ((unhide B4).trans (hbz.mono (Nat.le_succ _)))
   have kf := hFZ.S
   clear hb3 ho3 B3 Z3 P3 ka hfz hbz
   go_wp2_with fail
   rw [← hvz]
   refine bodyPost_ret (v := .tuple #[.agg #[.int .i64 tm2, .int .i64 vt2, .slice a3 n' c3], .int .i64 0]) (by simp [results, Tryd.results13, go_sem, kf]) rfl ⟨_, rfl, unhide OZ, unhide BZ⟩
end Go.Proofs.YtamjljhbnhdgdaaDoor

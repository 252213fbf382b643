/- Texts put together: SapX FrmS. -/
import Derived.Test.YtfogppnijdjakaaGreatDoorZSapW
import Derived.Test.YtfogppnijdjakaaGreatDoorZG17
import Derived.Test.YtfogppnijdjakaaGreatDoorZG12
/- spec.l07Apply of any text: what the specification answers. -/
namespace Go.Proofs.YtfogppnijdjakaaGreatDoor
open Go.ChangeShapes Go.WideShapes Go.ChangeAt Go.RowKit
set_option linter.unusedVariables false
/-- What l07Apply answers, as apF tells it. -/
def SapTo (o : Option (Int × Int × List Ent)) (w w' : World) (e : Ending) : Prop :=
 match o with
 | none => ∃ x y a n c, e = .returned (.tuple #[.agg #[.int .i64 x, .int .i64 y, .slice a n c], .bool false])
 | some (tm2, vt2, l2) => ∃ v, e = .returned (.tuple #[.agg #[.int .i64 tm2, .int .i64 vt2, v], .bool true]) ∧ w'.ownsRow w.heap.size 103 2 v l2.length (cE l2)
theorem sapTo_no {o : Option (Int × Int × List Ent)} {w w' : World} {x y : Int} {a : Option Addr} {n c : Nat} (h : o = none) : SapTo o w w' (.returned (.tuple #[.agg #[.int .i64 x, .int .i64 y, .slice a n c], .bool false])) := by
 rw [h]; exact ⟨_, _, _, _, _, rfl⟩
theorem sapTo_yes {tm vt tm2 vt2 : Int} {l l2 : List Ent} {t : ByteArray} {w w' : World} {e : Ending} {R : Bool} {n : Nat} (h : apR tm vt l t = some (tm2, vt2, l2)) (hR : R = stateB tm2 vt2 l2) (htm : tm ≤ tm2) (hn : l2.length = n) (he : ∃ v, e = .returned (.tuple #[.agg #[.int .i64 tm2, .int .i64 vt2, v], .bool R]) ∧ w'.ownsRow w.heap.size 103 2 v n (cE l2)) : SapTo (apF tm vt l t) w w' e := by
 obtain ⟨v, rfl, ho⟩ := he
 subst hn
 cases hb : stateB tm2 vt2 l2 with
 | true => rw [apF_ok h ⟨hb, htm⟩, hR, hb]; exact ⟨v, rfl, ho⟩
 | false =>
  obtain ⟨a2, c2, rfl, -⟩ := ownZ_rowV ho
  rw [hR, hb]; exact sapTo_no (apF_bad h (fun h2 => by rw [hb] at h2; cases h2.1))
theorem recP_L {t f0 f1 : ByteArray} {r : List ByteArray} {q : Nat} (h : rfOf t.data.toList = some (f0 :: f1 :: r)) (hs : f1.size ≤ 20000) (hq : f1.size = 3 * q) : (q ≤ 4096 → recP t = some (f0, numsR f1.data.toList q, r)) ∧ (¬ q ≤ 4096 → recP t = none) := by
 have hl : f1.data.toList.length = f1.size := by simp
 have h3 : f1.size / 3 = q := by omega
 refine ⟨fun h4 => ?_, fun h4 => ?_⟩
 ·have hk := rn_ok (l := f1.data.toList) (by omega) (by omega) (by omega)
  rw [recP_some h hk.2, hk.1, hl, h3]
 ·have hk := rn_many (l := f1.data.toList) (by omega) (by omega) (by omega)
  exact recP_num h (by rw [hk.2]; decide)
theorem apR_no {tm vt : Int} {l : List Ent} {t f0 f1 : ByteArray} {r : List ByteArray} {q : Nat} (h : rfOf t.data.toList = some (f0 :: f1 :: r)) (hs : f1.size ≤ 20000) (hq : f1.size = 3 * q) (hk : apK tm vt l f0 (numsR f1.data.toList q) r = none) : apF tm vt l t = none := by
 apply apF_none
 have h1 := recP_L h hs hq
 unfold apR
 by_cases h4 : q ≤ 4096
 ·rw [h1.1 h4]; exact hk
 ·rw [h1.2 h4]
theorem apR_yes {tm vt : Int} {l : List Ent} {t f0 f1 : ByteArray} {r : List ByteArray} {q : Nat} (h : rfOf t.data.toList = some (f0 :: f1 :: r)) (hs : f1.size ≤ 20000) (hq : f1.size = 3 * q) (hk : q ≤ 4096) {L : List Int} (hL : numsR f1.data.toList q = L) : apR tm vt l t = apK tm vt l f0 L r := by
 have h1 := (recP_L h hs hq).1 hk
 unfold apR
 rw [h1, hL]
theorem len1 {L : List Int} (h : L.length = 1) : ∃ x, L = [x] := by
 match L, h with | [x], _ => exact ⟨x, rfl⟩
theorem len2 {L : List Int} (h : L.length = 2) : ∃ x y, L = [x, y] := by
 match L, h with | [x, y], _ => exact ⟨x, y, rfl⟩
set_option maxHeartbeats 1000000 in
theorem sapply (tm vt : Int) (a : Option Addr) (cap n : Nat) (l : List (Int × ByteArray)) (HN : Hid (l.length = n)) (hn : n < 1048576) (HSZ : Hid (∀ k (h : k < l.length), l[k].2.size ≤ 1048576)) (t : ByteArray) (ht : t.size ≤ 65536) (w : World) (hr : RowV w a (cE l)) :
  Calls Tryz.prog 59 #[.agg #[.int .i64 tm, .int .i64 vt, .slice a n cap], .string t] w fun e w' => SapTo (apF tm vt l t) w w' e ∧ Below w.heap.size w w' := by
 have hnl := unhide HN
 cases hrf : rfOf t.data.toList with
 | none =>
  refine (sap_few tm vt a cap n t ht (fun m hm => by rw [hrf] at hm; cases hm) w).mono ?_
  rintro e w' ⟨rfl, hb⟩
  exact ⟨sapTo_no (apF_none (by unfold apR; rw [recP_none hrf])), hb⟩
 | some m =>
  by_cases hm : m.length < 2
  ·refine (sap_few tm vt a cap n t ht (fun m' hm' => by rw [hrf] at hm'; injection hm' with hm'; rw [← hm']; exact hm) w).mono ?_
   rintro e w' ⟨rfl, hb⟩
   exact ⟨sapTo_no (apF_none (by unfold apR; rw [recP_few hrf hm])), hb⟩
  ·obtain ⟨f0, f1, r, rfl⟩ : ∃ f0 f1 r, m = f0 :: f1 :: r := by
    match m, hm with
    | [], h => exact absurd (by decide) h
    | [_], h => exact absurd (Nat.lt_succ_self 1) h
    | f0 :: f1 :: r, _ => exact ⟨f0, f1, r, rfl⟩
   have H : Hid (rfOf t.data.toList = some (f0 :: f1 :: r)) := hrf
   have hsz := ap_fields t ht _ hrf
   have hf1 : f1.size ≤ 20000 := hsz 1 (by simp)
   have hl1 : f1.data.toList.length = f1.size := by simp
   by_cases h3 : f1.size % 3 = 0
   ·obtain ⟨q, hq⟩ : ∃ q, f1.size = 3 * q := ⟨f1.size / 3, by omega⟩
    have hqn := numsR_len f1.data.toList q
    have NO : apK tm vt l f0 (numsR f1.data.toList q) r = none → ∀ (P : Ending → World → Prop), (∀ e w', P e w' → e = .returned (.tuple #[.agg #[.int .i64 tm, .int .i64 vt, .slice a n cap], .bool false]) ∧ Below w.heap.size w w') → Calls Tryz.prog 59 #[.agg #[.int .i64 tm, .int .i64 vt, .slice a n cap], .string t] w P → Calls Tryz.prog 59 #[.agg #[.int .i64 tm, .int .i64 vt, .slice a n cap], .string t] w fun e w' => SapTo (apF tm vt l t) w w' e ∧ Below w.heap.size w w' := by
     intro hk P hP hC
     refine hC.mono ?_
     intro e w' hp
     obtain ⟨rfl, hb⟩ := hP e w' hp
     exact ⟨sapTo_no (apR_no hrf hf1 hq hk), hb⟩
    by_cases h_t : f0 = ⟨#[116]⟩
    ·by_cases hz : r.length = 0
     ·by_cases h2 : q = 2
      ·obtain ⟨x, y, hL⟩ := len2 (hqn.trans h2)
       have hR : apR tm vt l t = some (x, y, l) := by
        rw [apR_yes hrf hf1 hq (by omega) hL, List.length_eq_zero_iff.1 hz]
        show (if f0 = ⟨#[116]⟩ then some (x, y, l) else none) = _
        rw [if_pos h_t]
       by_cases hx : x < tm
       ·refine (sap_t3 tm vt a cap n l HN (by omega) t f0 f1 r ht H q hq (by omega) [x, y] hL 2 rfl (by decide) h_t hz x y rfl rfl hx w hr).mono ?_
        rintro e w' ⟨rfl, hb⟩
        exact ⟨sapTo_no (apF_bad hR (fun h => by omega)), hb⟩
       ·refine (sap_t4 tm vt a cap n l HN (by omega) t f0 f1 r ht H q hq (by omega) [x, y] hL 2 rfl (by decide) h_t hz x y rfl rfl hx HSZ _ rfl w hr).mono ?_
        rintro e w' ⟨he, hb⟩
        exact ⟨sapTo_yes hR rfl (by omega) hnl he, hb⟩
      ·refine NO (apK_no (by simp [hqn, h2]) (by simp [h_t]) (by simp [h_t])) _ (fun _ _ h => h) (sap_t2 tm vt a cap n l HN (by omega) t f0 f1 r ht H q hq (by omega) _ rfl q hqn (by omega) h_t hz h2 w hr)
     ·refine NO (apK_no (by simp [hz]) (by simp [h_t]) (by simp [h_t])) _ (fun _ _ h => h) (sap_t1 tm vt a cap n l HN (by omega) t f0 f1 r ht H q hq (by omega) _ rfl q hqn (by omega) h_t hz w hr)
    ·by_cases h_c : f0 = ⟨#[99]⟩
     ·by_cases hz : r.length = 0
      ·by_cases h2 : q = 1
       ·obtain ⟨x, hL⟩ := len1 (hqn.trans h2)
        have hR : apR tm vt l t = if f0 = ⟨#[99]⟩ ∧ 0 ≤ x ∧ x ≤ (l.length : Int) - 1 then some (tm, vt, l.take x.toNat) else none := by
         rw [apR_yes hrf hf1 hq (by omega) hL, List.length_eq_zero_iff.1 hz]; rfl
        cases hx : inB x 0 ((n : Int) - 1) with
        | false =>
         refine (sap_c3 tm vt a cap n l HN (by omega) t f0 f1 r ht H q hq (by omega) [x] hL 1 rfl (by decide) h_c hz x rfl rfl hx w hr).mono ?_
         rintro e w' ⟨rfl, hb⟩
         refine ⟨sapTo_no (apF_none ?_), hb⟩
         rw [hR, if_neg (fun h => by unfold inB at hx; rw [hnl] at h; simp at hx; omega)]
        | true =>
         have hx2 : 0 ≤ x ∧ x ≤ (n : Int) - 1 := by unfold inB at hx; simp at hx; omega
         obtain ⟨c0, hc⟩ : ∃ c0 : Nat, x = (c0 : Int) := ⟨x.toNat, by omega⟩
         subst hc
         rw [if_pos ⟨h_c, hx2.1, by rw [hnl]; exact hx2.2⟩] at hR
         have hR2 : apR tm vt l t = some (tm, vt, l.take c0) := hR
         refine (sap_c4 tm vt a cap n l HN (by omega) t f0 f1 r ht H q hq (by omega) [(c0 : Int)] hL 1 rfl (by decide) h_c hz c0 rfl rfl (by omega) (fun k h => by rw [List.getElem_take]; exact unhide HSZ _ _) _ rfl w hr).mono ?_
         rintro e w' ⟨he, hb⟩
         exact ⟨sapTo_yes hR2 rfl (by omega) (by rw [List.length_take]; omega) he, hb⟩
       ·refine NO (apK_no (by simp [h_t]) (by simp [hqn, h2]) (by simp [h_c])) _ (fun _ _ h => h) (sap_c2 tm vt a cap n l HN (by omega) t f0 f1 r ht H q hq (by omega) _ rfl q hqn (by omega) h_c hz h2 w hr)
      ·refine NO (apK_no (by simp [h_t]) (by simp [hz]) (by simp [h_c])) _ (fun _ _ h => h) (sap_c1 tm vt a cap n l HN (by omega) t f0 f1 r ht H q hq (by omega) _ rfl q hqn (by omega) h_c hz w hr)
     ·by_cases h_e : f0 = ⟨#[101]⟩
      ·by_cases hz : r.length = 1
       ·by_cases h2 : q = 1
        ·obtain ⟨x, hL⟩ := len1 (hqn.trans h2)
         obtain ⟨d, rfl⟩ : ∃ d, r = [d] := by match r, hz with | [d], _ => exact ⟨d, rfl⟩
         have hR : apR tm vt l t = some (tm, vt, l ++ [(x, d)]) := by
          rw [apR_yes hrf hf1 hq (by omega) hL]
          show (if f0 = ⟨#[101]⟩ then some (tm, vt, l ++ [(x, d)]) else none) = _
          rw [if_pos h_e]
         have hd : d.size ≤ 20000 := hsz 2 (by simp)
         refine (sap_e3 tm vt a cap n l HN (by omega) t f0 f1 [d] ht H q hq (by omega) [x] hL 1 rfl (by decide) h_e d rfl x rfl rfl hn (fun k h => ?_) _ rfl w hr).mono ?_
         ·by_cases hk2 : k < l.length
          ·rw [List.getElem_append_left hk2]; exact unhide HSZ k hk2
          ·rw [List.getElem_append_right (by omega)]
           simp at h ⊢
           omega
         ·rintro e w' ⟨he, hb⟩
          exact ⟨sapTo_yes hR rfl (by omega) (by rw [List.length_append]; simp; omega) he, hb⟩
        ·refine NO (apK_no (by simp [h_t]) (by simp [h_c]) (by simp [hqn, h2])) _ (fun _ _ h => h) (sap_e2 tm vt a cap n l HN (by omega) t f0 f1 r ht H q hq (by omega) _ rfl q hqn (by omega) h_e hz h2 w hr)
       ·refine NO (apK_no (by simp [h_t]) (by simp [h_c]) (by simp [hz])) _ (fun _ _ h => h) (sap_e1 tm vt a cap n l HN (by omega) t f0 f1 r ht H q hq (by omega) _ rfl q hqn (by omega) h_e hz w hr)
      ·refine NO (apK_no (by simp [h_t]) (by simp [h_c]) (by simp [h_e])) _ (fun _ _ h => h) (sap_other tm vt a cap n l HN (by omega) t f0 f1 r ht H q hq (by omega) _ rfl q hqn (by omega) h_t h_c h_e w hr)
   ·refine (sap_form tm vt a cap n t f0 f1 r ht H h3 (by omega) w).mono ?_
    rintro e w' ⟨rfl, hb⟩
    refine ⟨sapTo_no (apF_none ?_), hb⟩
    have hk := rn_form (l := f1.data.toList) (by omega) (by omega)
    unfold apR; rw [recP_num hrf (by rw [hk.2]; decide)]
end Go.Proofs.YtfogppnijdjakaaGreatDoor

/- spec.l02Frames and spec.ReadFrames: what the specification answers at every row of bytes. -/
namespace Go.Proofs.YtfogppnijdjakaaGreatDoor
open Go.ChangeShapes Go.WideShapes Go.ChangeAt Go.RowKit
set_option linter.unusedVariables false
abbrev oFrmS0 : Oper := { dst := some 52, op := .move (.tmp 0), type := 9, pos := "l02_codec.go:78", after := #[], guard := none }
abbrev oFrmS1 : Oper := { dst := some 53, op := .move (.tmp 6), type := 3, pos := "l02_codec.go:78", after := #[], guard := none }
abbrev oFrmS2 : Oper := { dst := some 54, op := .move (.tmp 6), type := 3, pos := "l02_codec.go:78", after := #[], guard := none }
abbrev oFrmS3 : Oper := { dst := some 55, op := .binOp .add 3 (.tmp 54) (.const (.int .i64 3)) 3, type := 3, pos := "l02_codec.go:78", after := #[{ on := 2, ground := .data }], guard := none }
abbrev oFrmS4 : Oper := { dst := some 56, op := .slice 9 (.tmp 52) (some (.tmp 53)) (some (.tmp 55)) none, type := 9, pos := "l02_codec.go:78", after := #[{ on := 0, ground := .data }, { on := 1, ground := .data }, { on := 3, ground := .data }], guard := none }
abbrev oFrmS5 : Oper := { dst := some 57, op := .move (.tmp 8), type := 9, pos := "l02_codec.go:78", after := #[], guard := none }
abbrev oFrmS6 : Oper := { dst := some 58, op := .binOp .add 9 (.tmp 56) (.tmp 57) 9, type := 9, pos := "l02_codec.go:78", after := #[{ on := 4, ground := .data }, { on := 5, ground := .data }], guard := none }
abbrev oFrmS7 : Oper := { dst := some 61, op := .move (.tmp 0), type := 9, pos := "l02_codec.go:78", after := #[], guard := none }
abbrev oFrmS8 : Oper := { dst := some 62, op := .move (.tmp 6), type := 3, pos := "l02_codec.go:78", after := #[], guard := none }
abbrev oFrmS9 : Oper := { dst := some 63, op := .binOp .add 3 (.tmp 62) (.const (.int .i64 3)) 3, type := 3, pos := "l02_codec.go:78", after := #[{ on := 10, ground := .data }], guard := none }
abbrev oFrmS10 : Oper := { dst := some 64, op := .move (.tmp 6), type := 3, pos := "l02_codec.go:78", after := #[], guard := none }
abbrev oFrmS11 : Oper := { dst := some 65, op := .binOp .add 3 (.tmp 64) (.const (.int .i64 7)) 3, type := 3, pos := "l02_codec.go:78", after := #[{ on := 12, ground := .data }], guard := none }
abbrev oFrmS12 : Oper := { dst := some 66, op := .slice 9 (.tmp 61) (some (.tmp 63)) (some (.tmp 65)) none, type := 9, pos := "l02_codec.go:78", after := #[{ on := 9, ground := .data }, { on := 11, ground := .data }, { on := 13, ground := .data }], guard := none }
abbrev oFrmS13 : Oper := { dst := some 59, op := .convert 9 94 (.tmp 58), type := 94, pos := "l02_codec.go:78", after := #[{ on := 6, ground := .data }], guard := none }
abbrev oFrmS14 : Oper := { dst := some 60, op := .call { callee := .value (.func 77), args := #[.tmp 59], argTypes := #[94] }, type := 3, pos := "l02_codec.go:78", after := #[{ on := 7, ground := .data }], guard := none }
abbrev oFrmS15 : Oper := { dst := some 67, op := .call { callee := .value (.func 76), args := #[.tmp 66], argTypes := #[9] }, type := 3, pos := "l02_codec.go:78", after := #[{ on := 14, ground := .data }, { on := 8, ground := .chain }], guard := none }
abbrev oFrmS16 : Oper := { dst := some 68, op := .binOp .neq 3 (.tmp 60) (.tmp 67) 3, type := 4, pos := "l02_codec.go:78", after := #[{ on := 8, ground := .data }, { on := 15, ground := .data }], guard := none }
set_option maxHeartbeats 4000000 in
set_option maxRecDepth 100000 in
theorem sframes (s : ByteArray) (hs : s.size ≤ 65536) (w : World) :
  Calls Tryz.prog 58 #[.string s] w fun e w' => ∃ v, e = .returned (.tuple #[v, .int .i64 ((frs s.size s.data.toList).2.1 : Int), .int .i64 (frs s.size s.data.toList).2.2]) ∧ w'.ownsRow w.heap.size 9 1 v (frs s.size s.data.toList).1.length (cS (frs s.size s.data.toList).1) ∧ Below w.heap.size w w' := by
 obtain ⟨i0, hi, hz0, hz1, hz2⟩ := info_parts Tryz.infL9
 obtain ⟨L, eL⟩ : ∃ L, L = s.data.toList := ⟨_, rfl⟩
 have HLS : Hid (L.length = s.size) := by show _ = _; rw [eL, sizeT]
 obtain ⟨R, hR⟩ : ∃ R, R = frs s.size L := ⟨_, rfl⟩
 rw [← eL, ← hR]
 have HL := hide eL
 have HRR := hide hR
 clear eL hR
 go_enter Tryz.func58, Tryz.ntmps58
 go_wp2_with fail
 go_loopw [5, 6] (fun v pv wr => ∃ (p f : Nat) (m : List ByteArray), pv = .int .i64 p ∧ p ≤ s.size ∧ s.size - p ≤ f ∧ m.length ≤ p ∧ Hid ((m ++ (frs f (L.drop p)).1, p + (frs f (L.drop p)).2.1, (frs f (L.drop p)).2.2) = R) ∧ Hid (wr.ownsRow w.heap.size 9 1 v m.length (cS m)) ∧ Hid (Below w.heap.size w wr)) (fun _ i _ => s.size - (intOf i).toNat)
 case atStart => exact ⟨0, s.size, [], rfl, by omega, by omega, by simp, by show _ = _; rw [unhide HRR, List.drop_zero, Nat.zero_add, List.nil_append], lit_emptyT _ _ _ (Nat.le_refl _), (Below.refl _ _).alloc (Nat.le_refl _) _⟩
 case round =>
  clear HRR
  obtain ⟨p, f, m, rfl, hp, hf, hmp, HI, HO, HB⟩ := hrel
  have hz := (unhide HB).size
  obtain ⟨rr, er⟩ : ∃ rr, rr = L.drop p := ⟨_, rfl⟩
  have hrl : rr.length = s.size - p := by rw [er, List.length_drop, unhide HLS]
  rw [← er] at HI
  by_cases h0 : p < s.size
  ·have h0' : (p : Int) < (s.size : Int) := by omega
   have hne : rr ≠ [] := fun h => by rw [h] at hrl; simp at hrl; omega
   obtain ⟨f', rfl⟩ : ∃ f', f = f' + 1 := ⟨f - 1, by omega⟩
   have hbad : ¬ frC rr = 0 → (m, p, frC rr) = R := fun h => by have := unhide HI; rw [frs_bad f' hne h] at this; simpa using this
   by_cases h7 : s.size - p < 7
   ·have a1 : (s.size : Int) - (p : Int) < 7 := by omega
    have hc : frC rr = 14 := by unfold frC; rw [hrl, if_pos h7]
    have HI2 := hide (hbad (by rw [hc]; decide))
    rw [hc] at HI2
    clear hbad hne hrl er HI h7 hc
    go_wp2_with fail
    go_ret3
    exact ⟨_, by rw [← unhide HI2]; rfl, by rw [← unhide HI2]; exact unhide HO, unhide HB⟩
   ·have a1 : ¬ (s.size : Int) - (p : Int) < 7 := by omega
    obtain ⟨p3, ep3⟩ : ∃ p3, p3 = p + 3 := ⟨_, rfl⟩
    obtain ⟨p7, ep7⟩ : ∃ p7, p7 = p + 7 := ⟨_, rfl⟩
    have a3 : (p : Int) + 3 = (p3 : Int) := by omega
    have a7 : (p : Int) + 7 = (p7 : Int) := by omega
    have b3 : (p3 : Int) ≤ (s.size : Int) := by omega
    have b7 : (p7 : Int) ≤ (s.size : Int) := by omega
    have d3 : p ≤ p3 := by omega
    have d7 : p3 ≤ p7 := by omega
    have c3 : (0 : Int) ≤ (p3 : Int) := by omega
    have c7 : (0 : Int) ≤ (p7 : Int) := by omega
    have e3 : (p : Int) ≤ (p3 : Int) := by omega
    have e7 : (p3 : Int) ≤ (p7 : Int) := by omega
    obtain ⟨x1, ex1⟩ : ∃ x1, s.extract p p3 = x1 := ⟨_, rfl⟩
    have HPS : Hid (x1.size = 3) := by show _ = _; rw [← ex1, cut_sizeT _ _ _ (by omega)]; omega
    have hx3 : x1.data.toList = rr.take 3 := by rw [← ex1, cut_listT, ← unhide HL, ← er, show p3 - p = 3 from by omega]
    obtain ⟨y, hy⟩ : ∃ y : Nat, y = ofBE x1.data.toList := ⟨_, rfl⟩
    have hy1 : y = frN rr := by rw [hy, hx3]; rfl
    have hy2 : y < 16777216 := by have := ofBE_lt x1.data.toList 3; rw [List.take_of_length_le (by rw [sizeT]; exact Nat.le_of_eq (unhide HPS)), ← hy] at this; exact this
    have y0 : (y : Int) ≤ 16777216 := by omega
    have HY := hide hy
    have TOK1 : True := trivial
    by_cases hy3 : y < 1 ∨ 65536 < y
    ·have hc : frC rr = 8 := by unfold frC; rw [hrl, if_neg h7, ← hy1, if_pos hy3]
     have HI2 := hide (hbad (by rw [hc]; decide))
     rw [hc] at HI2
     by_cases q1 : y < 1
     ·have n1 : (y : Int) < 1 := by omega
      clear hbad hne hrl er HI h7 hc hy hy1 hy2 hx3 hy3 ep3 ep7
      go_wp2_with (have hq := TOK1; go_at_call 76; have h3 := snumberOf x1 (by rw [unhide HPS]; decide) wr; rw [← unhide HY] at h3; refine h3.mono ?_; clear h3 TOK1; rintro e w2 ⟨rfl, hw⟩; subst w2)
      go_ret3
      exact ⟨_, by rw [← unhide HI2]; rfl, by rw [← unhide HI2]; exact unhide HO, unhide HB⟩
     ·have n1 : ¬ (y : Int) < 1 := by omega
      have n2 : (65536 : Int) < (y : Int) := by omega
      clear hbad hne hrl er HI h7 hc hy hy1 hy2 hx3 hy3 ep3 ep7
      go_wp2_with (have hq := TOK1; go_at_call 76; have h3 := snumberOf x1 (by rw [unhide HPS]; decide) wr; rw [← unhide HY] at h3; refine h3.mono ?_; clear h3 TOK1; rintro e w2 ⟨rfl, hw⟩; subst w2)
      go_ret3
      exact ⟨_, by rw [← unhide HI2]; rfl, by rw [← unhide HI2]; exact unhide HO, unhide HB⟩
    ·have n1 : ¬ (y : Int) < 1 := by omega
     have n2 : ¬ (65536 : Int) < (y : Int) := by omega
     by_cases h8 : s.size - p - 7 < y
     ·have n3 : (s.size : Int) - (p : Int) - 7 < (y : Int) := by omega
      have hc : frC rr = 14 := by unfold frC; rw [hrl, if_neg h7, ← hy1, if_neg hy3, if_pos h8]
      have HI2 := hide (hbad (by rw [hc]; decide))
      rw [hc] at HI2
      clear hbad hne hrl er HI h7 hc hy hy1 hy2 hx3 hy3 ep3 ep7
      go_wp2_with (have hq := TOK1; go_at_call 76; have h3 := snumberOf x1 (by rw [unhide HPS]; decide) wr; rw [← unhide HY] at h3; refine h3.mono ?_; clear h3 TOK1; rintro e w2 ⟨rfl, hw⟩; subst w2)
      go_ret3
      exact ⟨_, by rw [← unhide HI2]; rfl, by rw [← unhide HI2]; exact unhide HO, unhide HB⟩
     ·have n3 : ¬ (s.size : Int) - (p : Int) - 7 < (y : Int) := by omega
      obtain ⟨p8, ep8⟩ : ∃ p8, p8 = p7 + y := ⟨_, rfl⟩
      have a8 : (p7 : Int) + (y : Int) = (p8 : Int) := by omega
      have b8 : (p8 : Int) ≤ (s.size : Int) := by omega
      have d8 : p7 ≤ p8 := by omega
      have c8 : (0 : Int) ≤ (p8 : Int) := by omega
      have e8 : (p7 : Int) ≤ (p8 : Int) := by omega
      obtain ⟨x, ex⟩ : ∃ x, s.extract p7 p8 = x := ⟨_, rfl⟩
      obtain ⟨x4, ex4⟩ : ∃ x4, s.extract p3 p7 = x4 := ⟨_, rfl⟩
      have hxd : x.data.toList = frD rr := by
       unfold frD
       rw [← ex, ← hy1, cut_listT, ← unhide HL, er, List.drop_drop, ep7, show p8 - (p + 7) = y from by omega]
      have HP4 : Hid (x4.size = 4) := by show _ = _; rw [← ex4, cut_sizeT _ _ _ (by omega)]; omega
      have hx4 : x4.data.toList = (rr.drop 3).take 4 := by rw [← ex4, cut_listT, ← unhide HL, er, List.drop_drop, ep3, show p7 - (p + 3) = 4 from by omega]
      obtain ⟨P1, hP1⟩ : ∃ P : ByteArray, x1 ++ x = P := ⟨_, rfl⟩
      have hPl : P1.data.toList = rr.take 3 ++ frD rr := by rw [← hP1, cat_listT, hx3, hxd]
      have hz3 : x1.size = 3 := unhide HPS
      have hz8 : x.size = y := by rw [← ex, cut_sizeT _ _ _ (by omega)]; omega
      have hPs : P1.size ≤ 65536 := by rw [← hP1, ByteArray.size_append, hz3, hz8]; omega
      have kk3 : IntKind.i64.wrap (p3 : Int) = (p3 : Int) := wrapi _ (by omega) (by omega)
      have kk7 : IntKind.i64.wrap (p7 : Int) = (p7 : Int) := wrapi _ (by omega) (by omega)
      have kk0 : (0 : Int) ≤ (p : Int) := by omega
      have kkn : (p3 : Nat) ≤ s.size := by omega
      have kkm : (p7 : Nat) ≤ s.size := by omega
      have q1 := fun w' : World => Go.Lib.run_convert_string_bytes w' 9 94 5 P1 Tryz.underlying9 Tryz.underlying94 Tryz.underlying5
      have hk1 : ¬ 9223372036854775807 < x1.size + x.size := by omega
      obtain ⟨S, hS⟩ : ∃ S, S = chk P1.data.toList := ⟨_, rfl⟩
      obtain ⟨S4, hS4⟩ : ∃ S4, S4 = ofBE x4.data.toList := ⟨_, rfl⟩
      have HS := hide hS
      have HS4 := hide hS4
      have HPZ := hide hPs
      by_cases heq : S = (S4 : Int)
      ·have hc : frC rr = 0 := by
        unfold frC; rw [hrl, if_neg h7, ← hy1, if_neg hy3, if_neg h8]
        exact if_pos (by rw [hy1]; show chk (rr.take 3 ++ frD rr) = _; rw [← hPl, ← hS, heq, hS4, hx4])
       have hi2 := unhide HI
       rw [frs_step f' hne hc] at hi2
       have hT : frT rr = L.drop p8 := by unfold frT; rw [er, List.drop_drop, List.drop_drop, ← er, ← hy1]; congr 1; omega
       have hX : (⟨(frD rr).toArray⟩ : ByteArray) = x := by rw [← hxd]
       rw [hT, hX, ← hy1] at hi2
       have HI2 : Hid (((m ++ [x]) ++ (frs f' (L.drop p8)).1, p8 + (frs f' (L.drop p8)).2.1, (frs f' (L.drop p8)).2.2) = R) := by
        show _ = _
        rw [← hi2, List.append_assoc, List.singleton_append, show p8 + (frs f' (L.drop p8)).2.1 = p + (7 + y + (frs f' (L.drop p8)).2.1) from by omega]
       have hne2 : (S != (S4 : Int)) = false := by rw [heq]; simp
       have g1 : p8 ≤ s.size := by omega
       have g2 : s.size - p8 ≤ f' := by omega
       have g3 : m.length + 1 ≤ p8 := by omega
       have g4 : p < p8 := by omega
       obtain ⟨z, ez⟩ : ∃ z, z = 7 + y := ⟨_, rfl⟩
       have t1 : (7 : Int) + (y : Int) = (z : Int) := by omega
       have t2 : (p : Int) + (z : Int) = (p8 : Int) := by omega
       have t3 : (z : Int) ≤ 1048576 := by omega
       clear hbad hne hrl er HI h7 hc hy hy1 hy2 hx3 hy3 ep3 ep7 ep8 hxd hx4 hPl hz3 hz8 hPs hS hS4 heq hi2 hT hX ez h8
       go_wp2_with (have hq := TOK1; go_at_call 76; have h3 := snumberOf x1 (by rw [unhide HPS]; decide) wr; rw [← unhide HY] at h3; refine h3.mono ?_; clear h3 TOK1; rintro e w2 ⟨rfl, hw⟩; subst w2)
       refine wp_region_held_drew (S := fun _ => True) (by kernel_rfl) trivial (fun hHeld => ?_)
       refine wtv 0 (oi := oFrmS0) ?_
       refine wtv 1 (oi := oFrmS1) ?_
       refine wtv 2 (oi := oFrmS2) ?_
       refine wtv 3 (oi := oFrmS3) ?_
       refine wtv 4 (oi := oFrmS4) ?_
       refine wtv 5 (oi := oFrmS5) ?_
       refine wtv 6 (oi := oFrmS6) ?_
       refine wtv 9 (oi := oFrmS7) ?_
       refine wtv 10 (oi := oFrmS8) ?_
       refine wtv 11 (oi := oFrmS9) ?_
       refine wtv 12 (oi := oFrmS10) ?_
       refine wtv 13 (oi := oFrmS11) ?_
       refine wtv 14 (oi := oFrmS12) ?_
       refine wpAnyH_ready (rs := [7]) (by kernel_rfl) (by simp) ?_
       refine AllReadyH.cons (o := oFrmS13) rfl (fun K hK => ?_) AllReadyH.nil
       go_simp
       refine hK.out _ _ ?_ (fun hHeld7 => ?_)
       ·trivial
       clear hK K
       try simp only [Act.put, qqA, qqB, qqC]
       refine wpAnyH_ready (rs := [8]) (by kernel_rfl) (by simp) ?_
       refine AllReadyH.cons (o := oFrmS14) rfl (fun K hK => ?_) AllReadyH.nil
       go_simp
       refine (check16n _ _ P1.size P1.data.toList (sizeT P1) (unhide HPZ) _ (bytes_rowT _ P1)).mono ?_
       rintro e w4 ⟨rfl, hw⟩
       rw [← unhide HS]
       have HB4 : Hid (Below w.heap.size w w4) := by rw [hw]; exact (unhide HB).drew.trans ((bytes_belowT _ P1).mono (unhide HB).drew.size)
       have HO4 := hide (show w4.ownsRow w.heap.size 9 1 _ m.length (cS m) from (by rw [hw]; exact ((held_of (unhide HO).drew).below (bytes_belowT _ P1) (Nat.le_refl _)).own))
       have hz4 := (unhide HB4).size
       clear hw
       go_wp2_with fail
       refine hK.out _ _ ?_ (fun hHeld8 => ?_)
       ·trivial
       clear hK K
       try simp only [Act.put, qqA, qqB, qqC]
       refine wpAnyH_ready (rs := [15]) (by kernel_rfl) (by simp) ?_
       refine AllReadyH.cons (o := oFrmS15) rfl (fun K hK => ?_) AllReadyH.nil
       go_simp
       have h4 := snumberOf x4 (by rw [unhide HP4]; decide) w4
       rw [← unhide HS4] at h4
       refine h4.mono ?_
       clear h4
       rintro e w5 ⟨rfl, hw⟩
       subst w5
       go_wp2_with fail
       refine hK.out _ _ ?_ (fun hHeld15 => ?_)
       ·trivial
       clear hK K
       try simp only [Act.put, qqA, qqB, qqC]
       refine wtv 16 (oi := oFrmS16) ?_
       refine wpAnyH_done (by kernel_rfl) ?_ _
       have hown := unhide HO4
       go_wp2_with (at_builtin; refine wpList_append_lies _ rfl (.tmp 71) (.tmp 73) 25 rfl w.heap.size 9 i0 (.string ⟨#[]⟩) 1 16 Tryz.underlying25 hi hz0 hz1 hz2 rfl (by decide) _ _ _ rfl (hown.alloc _) ⟨w4.heap.size, 0, none⟩ 1 1 (cS [x]) rfl rfl (by exact news_new w4 (cS [x]) 9) (cS_one _) (by decide) (by unfold maxLen; omega) (by omega) (by simp; omega) _ rfl ?_; intro g5 d5 w5 hown2 hgrow2 hat2 hlt2; have HB5 := hide (below_app (unhide HB4) hz4 hown (Nat.le_refl _) hgrow2); have HO5 := hide (own_appF (l := m) (m := [x]) hown2 rfl); clear hown2 hgrow2 hat2 hlt2)
       go_roundw
       case rel => exact ⟨p8, f', m ++ [x], by go_num, g1, g2, by rw [List.length_append]; exact g3, HI2, HO5, HB5⟩
       case measure => simp [intOf]; omega
      ·have hc : frC rr = 8 := by
        unfold frC; rw [hrl, if_neg h7, ← hy1, if_neg hy3, if_neg h8]
        exact if_neg (by rw [hy1]; show ¬ chk (rr.take 3 ++ frD rr) = _; rw [← hPl, ← hS, ← hx4, ← hS4]; exact heq)
       have HI2 := hide (hbad (by rw [hc]; decide))
       rw [hc] at HI2
       have hne2 : (S != (S4 : Int)) = true := bne_iff_ne.2 heq
       clear hbad hne hrl er HI h7 hc hy hy1 hy2 hx3 hy3 ep3 ep7 ep8 hxd hx4 hPl hz3 hz8 hPs hS hS4 heq h8
       go_wp2_with (have hq := TOK1; go_at_call 76; have h3 := snumberOf x1 (by rw [unhide HPS]; decide) wr; rw [← unhide HY] at h3; refine h3.mono ?_; clear h3 TOK1; rintro e w2 ⟨rfl, hw⟩; subst w2)
       refine wp_region_held_drew (S := fun _ => True) (by kernel_rfl) trivial (fun hHeld => ?_)
       refine wtv 0 (oi := oFrmS0) ?_
       refine wtv 1 (oi := oFrmS1) ?_
       refine wtv 2 (oi := oFrmS2) ?_
       refine wtv 3 (oi := oFrmS3) ?_
       refine wtv 4 (oi := oFrmS4) ?_
       refine wtv 5 (oi := oFrmS5) ?_
       refine wtv 6 (oi := oFrmS6) ?_
       refine wtv 9 (oi := oFrmS7) ?_
       refine wtv 10 (oi := oFrmS8) ?_
       refine wtv 11 (oi := oFrmS9) ?_
       refine wtv 12 (oi := oFrmS10) ?_
       refine wtv 13 (oi := oFrmS11) ?_
       refine wtv 14 (oi := oFrmS12) ?_
       refine wpAnyH_ready (rs := [7]) (by kernel_rfl) (by simp) ?_
       refine AllReadyH.cons (o := oFrmS13) rfl (fun K hK => ?_) AllReadyH.nil
       go_simp
       refine hK.out _ _ ?_ (fun hHeld7 => ?_)
       ·trivial
       clear hK K
       try simp only [Act.put, qqA, qqB, qqC]
       refine wpAnyH_ready (rs := [8]) (by kernel_rfl) (by simp) ?_
       refine AllReadyH.cons (o := oFrmS14) rfl (fun K hK => ?_) AllReadyH.nil
       go_simp
       refine (check16n _ _ P1.size P1.data.toList (sizeT P1) (unhide HPZ) _ (bytes_rowT _ P1)).mono ?_
       rintro e w4 ⟨rfl, hw⟩
       rw [← unhide HS]
       have HB4 : Hid (Below w.heap.size w w4) := by rw [hw]; exact (unhide HB).drew.trans ((bytes_belowT _ P1).mono (unhide HB).drew.size)
       have HO4 := hide (show w4.ownsRow w.heap.size 9 1 _ m.length (cS m) from (by rw [hw]; exact ((held_of (unhide HO).drew).below (bytes_belowT _ P1) (Nat.le_refl _)).own))
       have hz4 := (unhide HB4).size
       clear hw
       go_wp2_with fail
       refine hK.out _ _ ?_ (fun hHeld8 => ?_)
       ·trivial
       clear hK K
       try simp only [Act.put, qqA, qqB, qqC]
       refine wpAnyH_ready (rs := [15]) (by kernel_rfl) (by simp) ?_
       refine AllReadyH.cons (o := oFrmS15) rfl (fun K hK => ?_) AllReadyH.nil
       go_simp
       have h4 := snumberOf x4 (by rw [unhide HP4]; decide) w4
       rw [← unhide HS4] at h4
       refine h4.mono ?_
       clear h4
       rintro e w5 ⟨rfl, hw⟩
       subst w5
       go_wp2_with fail
       refine hK.out _ _ ?_ (fun hHeld15 => ?_)
       ·trivial
       clear hK K
       try simp only [Act.put, qqA, qqB, qqC]
       refine wtv 16 (oi := oFrmS16) ?_
       refine wpAnyH_done (by kernel_rfl) ?_ _
       go_wp2_with fail
       go_ret3
       exact ⟨_, by rw [← unhide HI2]; rfl, by rw [← unhide HI2]; exact unhide HO4, unhide HB4⟩
  ·have ep : p = s.size := by omega
   have h0' : ¬ (p : Int) < (s.size : Int) := by omega
   have hrr : rr = [] := List.eq_nil_of_length_eq_zero (by omega)
   have hi2 := unhide HI
   rw [hrr, frs_nil] at hi2
   simp only [List.append_nil, Nat.add_zero] at hi2
   have HI2 := hide hi2
   clear hi2 hrr HI er hrl ep
   go_wp2_with fail
   go_ret3
   exact ⟨_, by rw [← unhide HI2]; rfl, by rw [← unhide HI2]; exact unhide HO, unhide HB⟩
end Go.Proofs.YtfogppnijdjakaaGreatDoor

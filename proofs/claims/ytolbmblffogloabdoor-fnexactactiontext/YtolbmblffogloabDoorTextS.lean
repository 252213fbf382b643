/- spec's l03Text and ActionText: what the specification answers. -/
import Derived.Test.YtolbmblffogloabDoorTextD
import Derived.Test.YtolbmblffogloabDoorActS
import Derived.Test.YtolbmblffogloabDoorStepI
namespace Go.Proofs.YtolbmblffogloabDoor
open Go.ChangeShapes Go.WideShapes Go.ChangeAt Go.RowKit
set_option linter.unusedVariables false
def textS (kd n : Int) (pr : Bool) (l : List Int) (t : ByteArray) : ByteArray := ⟨(textL kd n pr l t.data.toList).toArray⟩
theorem ba_ext {a : ByteArray} {l : List UInt8} (h : a.data.toList = l) : (⟨l.toArray⟩ : ByteArray) = a := by
  subst h; apply ByteArray.ext; simp
theorem ba_app (a b : ByteArray) : (a ++ b).data.toList = a.data.toList ++ b.data.toList := by simp
theorem dig_list (n : Nat) : (digS n).data.toList = Lib.decDigits n := by unfold digS; simp
theorem size_alloc (w : World) (o : Obj) : (w.alloc o).heap.size = w.heap.size + 1 := by simp
/-- What a right action's parts are bounded by. -/
theorem act_parts {kd n : Int} {pr : Bool} {l : List Int} {t : ByteArray} (h : actB kd n pr l t.data.toList = true) :
    (kd = 1 ∧ runeB n = true) ∨ (kd = 2 ∧ 0 ≤ n ∧ n ≤ 13) ∨ (kd = 3 ∧ 0 ≤ n ∧ n ≤ 99) ∨ (kd = 4 ∧ 64 ≤ n ∧ n ≤ 126 ∧ l.length ≤ 8 ∧ ∀ k (hk : k < l.length), -1 ≤ l[k] ∧ l[k] ≤ 9999) ∨ (kd = 5 ∧ t.size ≤ 40) := by
  by_cases h1 : kd = 1
  · subst h1; rw [actB_1, Bool.and_eq_true] at h; exact .inl ⟨rfl, h.1⟩
  by_cases h2 : kd = 2
  · subst h2; rw [actB_2, Bool.and_eq_true] at h
    have := of_decide_eq_true h.1
    exact .inr (.inl ⟨rfl, by omega, by omega⟩)
  by_cases h3 : kd = 3
  · subst h3; rw [actB_3, Bool.and_eq_true] at h
    have := of_decide_eq_true h.1
    exact .inr (.inr (.inl ⟨rfl, by omega, by omega⟩))
  by_cases h4 : kd = 4
  · subst h4; rw [actB_4, Bool.and_eq_true, Bool.and_eq_true] at h
    have hn := of_decide_eq_true h.1
    have ha := h.2.1
    unfold argsB at ha
    rw [Bool.and_eq_true] at ha
    have hl := of_decide_eq_true ha.1
    refine .inr (.inr (.inr (.inl ⟨rfl, hn.1, hn.2, hl.2, fun k hk => ?_⟩)))
    have := List.all_eq_true.1 ha.2 l[k] (List.getElem_mem hk)
    exact of_decide_eq_true this
  by_cases h5 : kd = 5
  · subst h5; rw [actB_5, Bool.and_eq_true, Bool.and_eq_true] at h
    have ht := h.2.2
    unfold titleB at ht
    rw [Bool.and_eq_true] at ht
    have := of_decide_eq_true ht.1
    rw [text_len] at this
    exact .inr (.inr (.inr (.inr ⟨rfl, this⟩)))
  unfold actB at h
  rw [if_neg h1, if_neg h2, if_neg h3, if_neg h4, if_neg h5] at h
  cases h
set_option maxHeartbeats 400000 in
set_option maxRecDepth 100000 in
theorem stext1 (n : Int) (pr : Bool) (a : Option Addr) (cap : Nat) (l : List Int) (t : ByteArray) (hr : runeB n = true) (w : World) :
    Calls Tryd.prog 61 #[.agg #[.int .i64 1, .int .i64 n, .bool pr, .slice a l.length cap, .string t]] w fun e w' => e = .returned (.string (textS 1 n pr l t)) ∧ Below w.heap.size w w' := by
  have HV : Hid (textS 1 n pr l t = Utf8.encode n) := ba_ext rfl
  have HRU := hide hr
  clear hr
  go_enter Tryd.func61, Tryd.ntmps61
  go_wp2_with (go_at_call 89; refine (sutf n (unhide HRU) _).mono ?_; rintro e w2 ⟨rfl, hb⟩)
  go_ret
  exact ⟨ret_string (unhide HV).symm, ((Below.refl _ _).alloc (Nat.le_refl _) _).trans (hb.mono (by simp))⟩
set_option maxHeartbeats 400000 in
set_option maxRecDepth 100000 in
theorem stext2 (n : Int) (pr : Bool) (a : Option Addr) (cap : Nat) (l : List Int) (t : ByteArray) (h0 : 0 ≤ n) (h1 : n ≤ 13) (w : World) :
    Calls Tryd.prog 61 #[.agg #[.int .i64 2, .int .i64 n, .bool pr, .slice a l.length cap, .string t]] w fun e w' => e = .returned (.string (textS 2 n pr l t)) ∧ Below w.heap.size w w' := by
  have HV : Hid (textS 2 n pr l t = ⟨#[ub n]⟩) := ba_ext rfl
  have hw := wrap8 n h0 (by omega)
  have hc := fun w' => conv1 w' n h0 (by omega)
  go_enter Tryd.func61, Tryd.ntmps61
  have hcx := hc (w.alloc (.cells #[.int .i64 2, .int .i64 n, .bool pr, .slice a l.length cap, .string t] 54))
  simp only [size_alloc] at hcx
  go_wp2_with fail
  go_ret
  exact ⟨ret_string (unhide HV).symm, Go.Joins.below_alloc2 w _ _⟩
set_option maxHeartbeats 400000 in
set_option maxRecDepth 100000 in
theorem stext3 (n : Int) (pr : Bool) (a : Option Addr) (cap : Nat) (l : List Int) (t : ByteArray) (h0 : 0 ≤ n) (h1 : n ≤ 99) (w : World) :
    Calls Tryd.prog 61 #[.agg #[.int .i64 3, .int .i64 n, .bool pr, .slice a l.length cap, .string t]] w fun e w' => e = .returned (.string (textS 3 n pr l t)) ∧ Below w.heap.size w w' := by
  have HV : Hid (textS 3 n pr l t = ⟨#[27]⟩ ++ ⟨#[ub n]⟩) := ba_ext rfl
  have hw := wrap8 n h0 (by omega)
  have hc := fun w' => conv1 w' n h0 (by omega)
  go_enter Tryd.func61, Tryd.ntmps61
  have hcx := hc (w.alloc (.cells #[.int .i64 3, .int .i64 n, .bool pr, .slice a l.length cap, .string t] 54))
  simp only [size_alloc] at hcx
  go_wp2_with fail
  go_ret
  exact ⟨ret_string (unhide HV).symm, Go.Joins.below_alloc2 w _ _⟩
set_option maxHeartbeats 400000 in
set_option maxRecDepth 100000 in
theorem stext5 (n : Int) (pr : Bool) (a : Option Addr) (cap : Nat) (l : List Int) (t : ByteArray) (h1 : t.size ≤ 40) (w : World) :
    Calls Tryd.prog 61 #[.agg #[.int .i64 5, .int .i64 n, .bool pr, .slice a l.length cap, .string t]] w fun e w' => e = .returned (.string (textS 5 n pr l t)) ∧ Below w.heap.size w w' := by
  have HV : Hid (textS 5 n pr l t = ⟨#[27, 93]⟩ ++ t ++ ⟨#[7]⟩) := ba_ext (by rw [ba_app, ba_app]; rfl)
  go_enter Tryd.func61, Tryd.ntmps61
  go_wp2_with fail
  go_ret
  exact ⟨ret_string (unhide HV).symm, (Below.refl _ _).alloc (Nat.le_refl _) _⟩
set_option maxHeartbeats 400000 in
set_option maxRecDepth 100000 in
theorem stext4 (n : Int) (pr : Bool) (a : Option Addr) (cap : Nat) (l : List Int) (t : ByteArray) (h64 : 64 ≤ n) (h126 : n ≤ 126) (h8 : l.length ≤ 8) (hin : ∀ k (hk : k < l.length), -1 ≤ l[k] ∧ l[k] ≤ 9999) (w : World) (hr : RowV w a (cI l)) :
    Calls Tryd.prog 61 #[.agg #[.int .i64 4, .int .i64 n, .bool pr, .slice a l.length cap, .string t]] w fun e w' => e = .returned (.string (textS 4 n pr l t)) ∧ Below w.heap.size w w' := by
  have HR := hide hr
  have HIN := hide hin
  have hw := wrap8 n (by omega) (by omega)
  have hc := fun w' => conv1 w' n (by omega) (by omega)
  clear hr hin
  obtain ⟨len, hlen⟩ : ∃ len, len = l.length := ⟨_, rfl⟩
  have HL := hide hlen
  have h8' : len ≤ 8 := by omega
  rw [← hlen]
  clear hlen h8
  cases pr
  · go_enter Tryd.func61, Tryd.ntmps61
    go_wp2_with fail
    go_loopw [3, 4] (fun s i wr => ∃ (k : Nat) (S : ByteArray), k ≤ len ∧ i = .int .i64 k ∧ s = .string S ∧ S.size ≤ 3 + 5 * k ∧ Hid (S.data.toList = [27, 91] ++ (privL false ++ argsTo l k)) ∧ Hid (Below (w.heap.size + 1) (w.alloc (.cells #[.int .i64 4, .int .i64 n, .bool false, .slice a len cap, .string t] 54)) wr)) (fun _ i _ => len - (intOf i).toNat)
    case atStart => exact ⟨0, ⟨#[27, 91]⟩, by omega, rfl, by first | rfl | (congr 1), by decide, by first | rfl | (show _ = _; rw [ba_app]; rfl), Below.refl _ _⟩
    case round =>
      obtain ⟨k, S, hk, rfl, rfl, hS, HS, HB⟩ := hrel
      have hcb := fun o => (bcellB (unhide HB)).1 w.heap.size o (Nat.lt_succ_self _)
      have hz : w.heap.size < wr.heap.size := by have := (unhide HB).size; simp at this; omega
      have HW : Hid (Below w.heap.size w wr) := ((Below.refl _ _).alloc (Nat.le_refl _) _).trans ((unhide HB).mono (Nat.le_succ _))
      by_cases hlt : k < len
      · have hltl : k < l.length := by rw [← unhide HL]; exact hlt
        obtain ⟨b, off, ha, hblt, hcr⟩ := (unhide HR).at (by rw [cI_len]; omega)
        subst ha
        obtain ⟨x, hx⟩ : ∃ x, x = l[k] := ⟨_, rfl⟩
        have hc1 : wr.cell? ⟨b, off + k, none⟩ = some (.int .i64 x) := by rw [hx]; exact ((unhide HW).cell (p := ⟨b, off + k, none⟩) hblt).trans (hcr k _ (cI_at l k hltl))
        have hx1 : -1 ≤ x := by rw [hx]; exact (unhide HIN k hltl).1
        have hx2 : x ≤ 9999 := by rw [hx]; exact (unhide HIN k hltl).2
        have hlt' : (k : Int) < (len : Int) := by omega
        have HX : Hid (l.getD k 0 = x) := by show _ = _; rw [hx]; simp [hltl]
        clear hcr hx hltl HR HIN
        have P0 := unhide HS
        by_cases h0 : k = 0
        · subst h0
          rw [Nat.add_zero] at hc1
          by_cases hneg : x < 0
          · have HN : Hid (S.data.toList = [27, 91] ++ (privL false ++ argsTo l (0 + 1))) := by
              show _ = _; rw [P0]; simp only [argsTo, unhide HX, argPart, if_pos hneg, if_true]; simp
            clear P0 HS
            go_wp2_with fail
            go_roundw
            case rel => exact ⟨0 + 1, S, by omega, by go_num, rfl, by omega, HN, HB⟩
            case measure => simp [intOf]; omega
          · have HN : Hid ((S ++ digS x.toNat).data.toList = [27, 91] ++ (privL false ++ argsTo l (0 + 1))) := by
              show _ = _; rw [ba_app, P0, dig_list]; simp only [argsTo, unhide HX, argPart, if_neg hneg, if_true]; simp
            have hds := digS_size x.toNat (by omega)
            have hxn : ((x.toNat : Nat) : Int) = x := by omega
            have HD := hide (sdig x.toNat (by omega))
            rw [hxn] at HD
            clear P0 HS hxn
            go_wp2_with (go_at_call 90; refine ((unhide HD) _).mono ?_; rintro e w2 ⟨rfl, hb⟩; have HB2 := hide ((unhide HB).trans (hb.mono hz)); clear hb)
            go_roundw
            case rel => exact ⟨0 + 1, S ++ digS x.toNat, by omega, by go_num, rfl, by rw [ByteArray.size_append]; omega, HN, HB2⟩
            case measure => simp [intOf]; omega
        · have hk0 : (0 : Int) < (k : Int) := by omega
          by_cases hneg : x < 0
          · have HN : Hid ((S ++ ⟨#[59]⟩).data.toList = [27, 91] ++ (privL false ++ argsTo l (k + 1))) := by
              show _ = _; rw [ba_app, P0]; simp only [argsTo, unhide HX, argPart, if_pos hneg, if_neg h0]; simp
            clear P0 HS
            go_wp2_with fail
            go_roundw
            case rel => exact ⟨k + 1, S ++ ⟨#[59]⟩, by omega, by go_num, rfl, by rw [ByteArray.size_append]; show _ + 1 ≤ _; omega, HN, HB⟩
            case measure => simp [intOf]; omega
          · have HN : Hid ((S ++ ⟨#[59]⟩ ++ digS x.toNat).data.toList = [27, 91] ++ (privL false ++ argsTo l (k + 1))) := by
              show _ = _; rw [ba_app, ba_app, P0, dig_list]; simp only [argsTo, unhide HX, argPart, if_neg hneg, if_neg h0]; simp
            have hds := digS_size x.toNat (by omega)
            have hxn : ((x.toNat : Nat) : Int) = x := by omega
            have HD := hide (sdig x.toNat (by omega))
            rw [hxn] at HD
            clear P0 HS hxn
            go_wp2_with (go_at_call 90; refine ((unhide HD) _).mono ?_; rintro e w2 ⟨rfl, hb⟩; have HB2 := hide ((unhide HB).trans (hb.mono hz)); clear hb)
            go_roundw
            case rel => exact ⟨k + 1, S ++ ⟨#[59]⟩ ++ digS x.toNat, by omega, by go_num, rfl, by rw [ByteArray.size_append, ByteArray.size_append]; show _ + 1 + _ ≤ _; omega, HN, HB2⟩
            case measure => simp [intOf]; omega
      · have ek : k = len := by omega
        have HV : Hid (textS 4 n false l t = S ++ ⟨#[ub n]⟩) := ba_ext (by
          rw [ba_app, unhide HS, ek, unhide HL]; rfl)
        have hcw := hc wr
        clear HS
        go_wp2_with fail
        go_ret
        exact ⟨ret_string (unhide HV).symm, (unhide HW).alloc (by omega) _⟩
  · go_enter Tryd.func61, Tryd.ntmps61
    go_wp2_with fail
    go_loopw [3, 4] (fun s i wr => ∃ (k : Nat) (S : ByteArray), k ≤ len ∧ i = .int .i64 k ∧ s = .string S ∧ S.size ≤ 3 + 5 * k ∧ Hid (S.data.toList = [27, 91] ++ (privL true ++ argsTo l k)) ∧ Hid (Below (w.heap.size + 1) (w.alloc (.cells #[.int .i64 4, .int .i64 n, .bool true, .slice a len cap, .string t] 54)) wr)) (fun _ i _ => len - (intOf i).toNat)
    case atStart => exact ⟨0, ⟨#[27, 91]⟩ ++ ⟨#[63]⟩, by omega, rfl, by first | rfl | (congr 1), by decide, by first | rfl | (show _ = _; rw [ba_app]; rfl), Below.refl _ _⟩
    case round =>
      obtain ⟨k, S, hk, rfl, rfl, hS, HS, HB⟩ := hrel
      have hcb := fun o => (bcellB (unhide HB)).1 w.heap.size o (Nat.lt_succ_self _)
      have hz : w.heap.size < wr.heap.size := by have := (unhide HB).size; simp at this; omega
      have HW : Hid (Below w.heap.size w wr) := ((Below.refl _ _).alloc (Nat.le_refl _) _).trans ((unhide HB).mono (Nat.le_succ _))
      by_cases hlt : k < len
      · have hltl : k < l.length := by rw [← unhide HL]; exact hlt
        obtain ⟨b, off, ha, hblt, hcr⟩ := (unhide HR).at (by rw [cI_len]; omega)
        subst ha
        obtain ⟨x, hx⟩ : ∃ x, x = l[k] := ⟨_, rfl⟩
        have hc1 : wr.cell? ⟨b, off + k, none⟩ = some (.int .i64 x) := by rw [hx]; exact ((unhide HW).cell (p := ⟨b, off + k, none⟩) hblt).trans (hcr k _ (cI_at l k hltl))
        have hx1 : -1 ≤ x := by rw [hx]; exact (unhide HIN k hltl).1
        have hx2 : x ≤ 9999 := by rw [hx]; exact (unhide HIN k hltl).2
        have hlt' : (k : Int) < (len : Int) := by omega
        have HX : Hid (l.getD k 0 = x) := by show _ = _; rw [hx]; simp [hltl]
        clear hcr hx hltl HR HIN
        have P0 := unhide HS
        by_cases h0 : k = 0
        · subst h0
          rw [Nat.add_zero] at hc1
          by_cases hneg : x < 0
          · have HN : Hid (S.data.toList = [27, 91] ++ (privL true ++ argsTo l (0 + 1))) := by
              show _ = _; rw [P0]; simp only [argsTo, unhide HX, argPart, if_pos hneg, if_true]; simp
            clear P0 HS
            go_wp2_with fail
            go_roundw
            case rel => exact ⟨0 + 1, S, by omega, by go_num, rfl, by omega, HN, HB⟩
            case measure => simp [intOf]; omega
          · have HN : Hid ((S ++ digS x.toNat).data.toList = [27, 91] ++ (privL true ++ argsTo l (0 + 1))) := by
              show _ = _; rw [ba_app, P0, dig_list]; simp only [argsTo, unhide HX, argPart, if_neg hneg, if_true]; simp
            have hds := digS_size x.toNat (by omega)
            have hxn : ((x.toNat : Nat) : Int) = x := by omega
            have HD := hide (sdig x.toNat (by omega))
            rw [hxn] at HD
            clear P0 HS hxn
            go_wp2_with (go_at_call 90; refine ((unhide HD) _).mono ?_; rintro e w2 ⟨rfl, hb⟩; have HB2 := hide ((unhide HB).trans (hb.mono hz)); clear hb)
            go_roundw
            case rel => exact ⟨0 + 1, S ++ digS x.toNat, by omega, by go_num, rfl, by rw [ByteArray.size_append]; omega, HN, HB2⟩
            case measure => simp [intOf]; omega
        · have hk0 : (0 : Int) < (k : Int) := by omega
          by_cases hneg : x < 0
          · have HN : Hid ((S ++ ⟨#[59]⟩).data.toList = [27, 91] ++ (privL true ++ argsTo l (k + 1))) := by
              show _ = _; rw [ba_app, P0]; simp only [argsTo, unhide HX, argPart, if_pos hneg, if_neg h0]; simp
            clear P0 HS
            go_wp2_with fail
            go_roundw
            case rel => exact ⟨k + 1, S ++ ⟨#[59]⟩, by omega, by go_num, rfl, by rw [ByteArray.size_append]; show _ + 1 ≤ _; omega, HN, HB⟩
            case measure => simp [intOf]; omega
          · have HN : Hid ((S ++ ⟨#[59]⟩ ++ digS x.toNat).data.toList = [27, 91] ++ (privL true ++ argsTo l (k + 1))) := by
              show _ = _; rw [ba_app, ba_app, P0, dig_list]; simp only [argsTo, unhide HX, argPart, if_neg hneg, if_neg h0]; simp
            have hds := digS_size x.toNat (by omega)
            have hxn : ((x.toNat : Nat) : Int) = x := by omega
            have HD := hide (sdig x.toNat (by omega))
            rw [hxn] at HD
            clear P0 HS hxn
            go_wp2_with (go_at_call 90; refine ((unhide HD) _).mono ?_; rintro e w2 ⟨rfl, hb⟩; have HB2 := hide ((unhide HB).trans (hb.mono hz)); clear hb)
            go_roundw
            case rel => exact ⟨k + 1, S ++ ⟨#[59]⟩ ++ digS x.toNat, by omega, by go_num, rfl, by rw [ByteArray.size_append, ByteArray.size_append]; show _ + 1 + _ ≤ _; omega, HN, HB2⟩
            case measure => simp [intOf]; omega
      · have ek : k = len := by omega
        have HV : Hid (textS 4 n true l t = S ++ ⟨#[ub n]⟩) := ba_ext (by
          rw [ba_app, unhide HS, ek, unhide HL]; rfl)
        have hcw := hc wr
        clear HS
        go_wp2_with fail
        go_ret
        exact ⟨ret_string (unhide HV).symm, (unhide HW).alloc (by omega) _⟩
end Go.Proofs.YtolbmblffogloabDoor

/- argsText: what the program makes of an action's arguments. -/
import Derived.Test.YtolbmblffogloabDoorTextS
import Derived.Test.YtolbmblffogloabDoorShelf
import Derived.Deep.AppendLies
namespace Go.Proofs.YtolbmblffogloabDoor
open Go.ChangeShapes Go.WideShapes Go.ChangeAt Go.RowKit
set_option linter.unusedVariables false
theorem Tryd.infT5 : (Tryd.prog.info? 5).map (fun i => (i.zero, i.size, i.bytes)) = some (some (.int .u8 0), 1, 1) := by kernel_rfl
theorem nil_ownB (w : World) (base : Nat) (e : TypeId) : w.ownsRow base e 1 (.slice none 0 0) ([] : List UInt8).length (B8 []) := ⟨rfl, .inl ⟨rfl, rfl⟩⟩
/-- The table of powers lies in its variable. -/
def PowIn (w : World) : Prop := Lib.TabIs Tryd.prog w "internal/strconv.uint64pow10" .u64 Lib.pow10Tab
theorem pow_named : Tryd.prog.globalNamed "internal/strconv.uint64pow10" = some 8 := by kernel_rfl
theorem PowIn.below {w w' : World} {B : Nat} (h : PowIn w) (hb : Below B w w') (h0 : 8 < B) : PowIn w' := by
  unfold PowIn Lib.TabIs World.var? at h ⊢
  rw [pow_named] at h ⊢
  simp only [Option.bind_some] at h ⊢
  rw [hb.block _ h0]
  exact h
theorem itoa_pos {x : Int} (h : 0 ≤ x) : Lib.itoa x = Lib.decDigits x.toNat := by unfold Lib.itoa; rw [if_neg (by omega)]
theorem iappint (B : Nat) (l : List UInt8) (x : Int) (h0 : 0 ≤ x) (h1 : x ≤ 9999) (sv : Value) (w : World) (hown : w.ownsRow B 5 1 sv l.length (B8 l)) (hB : B ≤ w.heap.size) (hl : l.length ≤ 1000) (hg : 8 < B) (ht : PowIn w) :
    Calls Tryd.prog 91 #[sv, .int .i64 x, .int .i64 10] w fun e w' => ∃ v', e = .returned v' ∧ w'.ownsRow B 5 1 v' (l ++ Lib.decDigits x.toNat).length (B8 (l ++ Lib.decDigits x.toNat)) ∧ Below B w w' := by
  have h := Any.strconv_AppendInt_10 Tryd.laysAI B l.length x (by omega) (by omega) sv (B8 l) w hown hB (by omega) (fun w' hb => ht.below hb hg)
  refine Calls.mono (show Calls Tryd.prog 91 #[sv, .int .i64 x, .int .i64 10] w _ from h) ?_
  rintro e w' ⟨v', rfl, ho, hb, _⟩
  rw [itoa_pos h0] at ho
  exact ⟨v', rfl, by rw [B8_app, List.length_append]; exact ho, hb⟩
set_option maxHeartbeats 400000 in
set_option maxRecDepth 100000 in
theorem iargstext (kd n : Int) (pr : Bool) (a : Option Addr) (cap : Nat) (l : List Int) (t : ByteArray) (h8 : l.length ≤ 8) (hin : ∀ k (hk : k < l.length), -1 ≤ l[k] ∧ l[k] ≤ 9999) (w : World) (hr : RowV w a (cI l)) (hp : PowIn w) (hg : 8 < w.heap.size) :
    Calls Tryd.prog 63 #[.agg #[.int .i64 kd, .int .i64 n, .bool pr, .slice a l.length cap, .string t]] w fun e w' => e = .returned (.string ⟨(privL pr ++ argsTo l l.length).toArray⟩) ∧ Below w.heap.size w w' := by
  obtain ⟨i0, hi, hz0, hz1, hz2⟩ := info_parts Tryd.infT5
  have HR := hide hr
  have HIN := hide hin
  have HP := hide hp
  have HG := hide hg
  clear hr hin hp hg
  obtain ⟨len, hlen⟩ : ∃ len, len = l.length := ⟨_, rfl⟩
  have HL := hide hlen
  have h8' : len ≤ 8 := by omega
  rw [show Calls Tryd.prog 63 #[.agg #[.int .i64 kd, .int .i64 n, .bool pr, .slice a l.length cap, .string t]] w = Calls Tryd.prog 63 #[.agg #[.int .i64 kd, .int .i64 n, .bool pr, .slice a len cap, .string t]] w by rw [hlen]]
  clear hlen h8
  cases pr
  · go_enter Tryd.func63, Tryd.ntmps63
    go_wp2_with fail
    go_loopw [3, 14] (fun v i wr => ∃ (k : Nat) (m : List UInt8), k ≤ len ∧ i = .int .i64 k ∧ m.length ≤ 1 + 5 * k ∧ Hid (m = privL false ++ argsTo l k) ∧ Hid (wr.ownsRow (w.heap.size + 1) 5 1 v m.length (B8 m)) ∧ Hid (Below (w.heap.size + 1) (w.alloc (.cells #[.int .i64 kd, .int .i64 n, .bool false, .slice a len cap, .string t] 54)) wr)) (fun _ i _ => len - (intOf i).toNat)
    case atStart => exact ⟨0, [], by omega, rfl, by simp, rfl, nil_ownB _ _ _, Below.refl _ _⟩
    case round =>
      obtain ⟨k, m, hk, rfl, hm, HM, HO, HB⟩ := hrel
      have hz : w.heap.size + 1 ≤ wr.heap.size := by have := (unhide HB).size; simp at this; omega
      have HW : Hid (Below w.heap.size w wr) := ((Below.refl _ _).alloc (Nat.le_refl _) _).trans ((unhide HB).mono (Nat.le_succ _))
      by_cases hlt : k < len
      · have hltl : k < l.length := by rw [← unhide HL]; exact hlt
        obtain ⟨b, off, ha, hblt, hcr⟩ := (unhide HR).at (by rw [cI_len]; omega)
        subst ha
        obtain ⟨x, hx⟩ : ∃ x, x = l[k] := ⟨_, rfl⟩
        have hc1 : wr.cell? ⟨b, off + k, none⟩ = some (.int .i64 x) := by rw [hx]; exact ((unhide HW).cell (p := ⟨b, off + k, none⟩) hblt).trans (hcr k _ (cI_at l k hltl))
        have hx1 : -1 ≤ x := by rw [hx]; exact (unhide HIN k hltl).1
        have hx2 : x ≤ 9999 := by rw [hx]; exact (unhide HIN k hltl).2
        have hlt' : (k : Int) < (len : Int) := by omega
        have HX : Hid (l.getD k 0 = x) := by show _ = _; rw [hx]; simp [hltl]
        have hdl := dig_len x.toNat (by omega)
        clear hcr hx hltl HR HIN
        have P0 := unhide HM
        have hown := unhide HO
        by_cases h0 : k = 0
        · subst h0
          rw [Nat.add_zero] at hc1
          by_cases hneg : x < 0
          · obtain rfl : x = -1 := by omega
            have HN : Hid (m = privL false ++ argsTo l (0 + 1)) := by
              show _ = _; rw [P0]; simp only [argsTo, unhide HX, argPart, if_pos hneg, if_true]; simp
            clear P0 HM hown
            go_wp2_with fail
            go_roundw
            case rel => exact ⟨0 + 1, m, by omega, by go_num, by omega, HN, HO, HB⟩
            case measure => simp [intOf]; omega
          · have hxb : (x != -1) = true := by rw [bne_iff_ne]; omega
            have HN : Hid (m ++ Lib.decDigits x.toNat = privL false ++ argsTo l (0 + 1)) := by
              show _ = _; rw [P0]; simp only [argsTo, unhide HX, argPart, if_neg hneg, if_true]; simp
            clear P0 HM hown
            go_wp2_with (go_at_call 91; refine (iappint (w.heap.size + 1) (m) x (by omega) (by omega) _ _ (unhide HO) (Nat.le_trans (Nat.le_of_eq (by simp)) (unhide HB).size) (by first | omega | (rw [List.length_append]; simp; omega)) (Nat.lt_succ_of_lt (unhide HG)) ((unhide HP).below (((Below.refl w.heap.size w).alloc (Nat.le_refl _) _).trans ((unhide HB).mono (Nat.le_succ _))) (unhide HG))).mono ?_; rintro e w3 ⟨v3, rfl, ho3, hb3⟩; have HO3 := hide ho3; have HB3 := hide ((unhide HB).trans hb3); clear ho3 hb3)
            go_roundw
            case rel => exact ⟨0 + 1, m ++ Lib.decDigits x.toNat, by omega, by go_num, by rw [List.length_append]; omega, HN, HO3, HB3⟩
            case measure => simp [intOf]; omega
        · have hk0 : (0 : Int) < (k : Int) := by omega
          by_cases hneg : x < 0
          · obtain rfl : x = -1 := by omega
            have HN : Hid (m ++ [59] = privL false ++ argsTo l (k + 1)) := by
              show _ = _; rw [P0]; simp only [argsTo, unhide HX, argPart, if_pos hneg, if_neg h0]; simp
            clear P0 HM
            go_wp2_with (at_builtin; refine wpList_append_lies _ rfl (.tmp 21) (.tmp 22) 22 rfl (w.heap.size + 1) 5 i0 (.int .u8 0) 1 1 Tryd.underlying22 hi hz0 hz1 hz2 rfl (by decide) _ _ _ rfl (hown.alloc _) ⟨wr.heap.size, 0, none⟩ 1 1 (B8 [59]) rfl rfl (by have h := news_new wr (B8 [59]) 5; (try rw [size_alloc] at h); exact h) (B8_one _) (by decide) (by unfold maxLen; omega) (by omega) (by first | (simp; done) | (simp; omega)) _ rfl ?_; intro g2 c2 w2 hown2 hgrow2 hat2 hlt2; have HB2 := hide (below_app (unhide HB) hz hown (Nat.le_refl _) hgrow2); have HO2 : Hid (w2.ownsRow (w.heap.size + 1) 5 1 (.slice (some ⟨g2, 0, none⟩) (m.length + 1) c2) (m ++ [59]).length (B8 (m ++ [59]))) := own_app hown2 rfl; clear hown2 hgrow2 hat2 hlt2)
            go_roundw
            case rel => exact ⟨k + 1, m ++ [59], by omega, by go_num, by rw [List.length_append]; simp; omega, HN, HO2, HB2⟩
            case measure => simp [intOf]; omega
          · have hxb : (x != -1) = true := by rw [bne_iff_ne]; omega
            have HN : Hid ((m ++ [59]) ++ Lib.decDigits x.toNat = privL false ++ argsTo l (k + 1)) := by
              show _ = _; rw [P0]; simp only [argsTo, unhide HX, argPart, if_neg hneg, if_neg h0]; simp
            clear P0 HM
            go_wp2_with (first | (at_builtin; refine wpList_append_lies _ rfl (.tmp 21) (.tmp 22) 22 rfl (w.heap.size + 1) 5 i0 (.int .u8 0) 1 1 Tryd.underlying22 hi hz0 hz1 hz2 rfl (by decide) _ _ _ rfl (hown.alloc _) ⟨wr.heap.size, 0, none⟩ 1 1 (B8 [59]) rfl rfl (by have h := news_new wr (B8 [59]) 5; (try rw [size_alloc] at h); exact h) (B8_one _) (by decide) (by unfold maxLen; omega) (by omega) (by first | (simp; done) | (simp; omega)) _ rfl ?_; intro g2 c2 w2 hown2 hgrow2 hat2 hlt2; have HB2 := hide (below_app (unhide HB) hz hown (Nat.le_refl _) hgrow2); have HO2 : Hid (w2.ownsRow (w.heap.size + 1) 5 1 (.slice (some ⟨g2, 0, none⟩) (m.length + 1) c2) (m ++ [59]).length (B8 (m ++ [59]))) := own_app hown2 rfl; clear hown2 hgrow2 hat2 hlt2) | (go_at_call 91; refine (iappint (w.heap.size + 1) (m ++ [59]) x (by omega) (by omega) _ _ (unhide HO2) (Nat.le_trans (Nat.le_of_eq (by simp)) (unhide HB2).size) (by first | omega | (rw [List.length_append]; simp; omega)) (Nat.lt_succ_of_lt (unhide HG)) ((unhide HP).below (((Below.refl w.heap.size w).alloc (Nat.le_refl _) _).trans ((unhide HB2).mono (Nat.le_succ _))) (unhide HG))).mono ?_; rintro e w3 ⟨v3, rfl, ho3, hb3⟩; have HO3 := hide ho3; have HB3 := hide ((unhide HB2).trans hb3); clear ho3 hb3))
            go_roundw
            case rel => exact ⟨k + 1, (m ++ [59]) ++ Lib.decDigits x.toNat, by omega, by go_num, by rw [List.length_append, List.length_append]; simp; omega, HN, HO3, HB3⟩
            case measure => simp [intOf]; omega
      · have ek : k = len := by omega
        have HV : Hid (m = privL false ++ argsTo l l.length) := by show _ = _; rw [unhide HM, ek, unhide HL]
        have hcv := conv_own (P := Tryd.prog) Tryd.underlying22 Tryd.underlying5 Tryd.underlying9 (unhide HO)
        clear HM
        go_wp2_with fail
        go_ret
        exact ⟨ret_string (by rw [unhide HV]), unhide HW⟩
  · obtain ⟨m0, hm0, hl0⟩ : ∃ m0 : List UInt8, m0 = [] ∧ m0.length = 0 := ⟨[], rfl, rfl⟩
    have hn0 : World.ownsRow (w.alloc (.cells #[.int .i64 kd, .int .i64 n, .bool true, .slice a len cap, .string t] 54)) (w.heap.size + 1) 5 1 (.slice none 0 0) m0.length (B8 m0) := by rw [hm0]; exact nil_ownB _ _ _
    have HM0 := hide hm0
    have hl1 : m0.length ≤ 0 := by omega
    clear hm0 hl0
    have hb0 := Below.refl (w.heap.size + 1) (w.alloc (.cells #[.int .i64 kd, .int .i64 n, .bool true, .slice a len cap, .string t] 54))
    go_enter Tryd.func63, Tryd.ntmps63
    go_wp2_with (at_builtin; refine wpList_append_lies _ rfl (.tmp 8) (.tmp 9) 22 rfl (w.heap.size + 1) 5 i0 (.int .u8 0) 1 1 Tryd.underlying22 hi hz0 hz1 hz2 rfl (by decide) _ _ _ rfl (hn0.alloc _) ⟨w.heap.size + 1, 0, none⟩ 1 1 (B8 [63]) rfl rfl (by have h := news_new (w.alloc (.cells #[.int .i64 kd, .int .i64 n, .bool true, .slice a len cap, .string t] 54)) (B8 [63]) 5; (try rw [size_alloc] at h); exact h) (B8_one _) (by decide) (by unfold maxLen; omega) (by omega) (by first | (simp; done) | (simp; omega)) _ rfl ?_; intro g2 c2 w2 hown2 hgrow2 hat2 hlt2; have HB2 := hide (below_app hb0 (by simp) hn0 (Nat.le_refl _) hgrow2); have HO2 : Hid (w2.ownsRow (w.heap.size + 1) 5 1 (.slice (some ⟨g2, 0, none⟩) (m0.length + 1) c2) (m0 ++ [63]).length (B8 (m0 ++ [63]))) := own_app hown2 rfl; have hcw := fun o => (bcellB (unhide HB2)).1 w.heap.size o (Nat.lt_succ_self _); clear hown2 hgrow2 hat2 hlt2)
    clear hn0 hb0
    go_loopw [3, 14] (fun v i wr => ∃ (k : Nat) (m : List UInt8), k ≤ len ∧ i = .int .i64 k ∧ m.length ≤ 1 + 5 * k ∧ Hid (m = privL true ++ argsTo l k) ∧ Hid (wr.ownsRow (w.heap.size + 1) 5 1 v m.length (B8 m)) ∧ Hid (Below (w.heap.size + 1) (w.alloc (.cells #[.int .i64 kd, .int .i64 n, .bool true, .slice a len cap, .string t] 54)) wr)) (fun _ i _ => len - (intOf i).toNat)
    case atStart => exact ⟨0, m0 ++ [63], by omega, rfl, by rw [unhide HM0]; decide, by show _ = _; rw [unhide HM0]; rfl, HO2, HB2⟩
    case round =>
      clear HO2 HB2 hcw
      obtain ⟨k, m, hk, rfl, hm, HM, HO, HB⟩ := hrel
      have hz : w.heap.size + 1 ≤ wr.heap.size := by have := (unhide HB).size; simp at this; omega
      have HW : Hid (Below w.heap.size w wr) := ((Below.refl _ _).alloc (Nat.le_refl _) _).trans ((unhide HB).mono (Nat.le_succ _))
      by_cases hlt : k < len
      · have hltl : k < l.length := by rw [← unhide HL]; exact hlt
        obtain ⟨b, off, ha, hblt, hcr⟩ := (unhide HR).at (by rw [cI_len]; omega)
        subst ha
        obtain ⟨x, hx⟩ : ∃ x, x = l[k] := ⟨_, rfl⟩
        have hc1 : wr.cell? ⟨b, off + k, none⟩ = some (.int .i64 x) := by rw [hx]; exact ((unhide HW).cell (p := ⟨b, off + k, none⟩) hblt).trans (hcr k _ (cI_at l k hltl))
        have hx1 : -1 ≤ x := by rw [hx]; exact (unhide HIN k hltl).1
        have hx2 : x ≤ 9999 := by rw [hx]; exact (unhide HIN k hltl).2
        have hlt' : (k : Int) < (len : Int) := by omega
        have HX : Hid (l.getD k 0 = x) := by show _ = _; rw [hx]; simp [hltl]
        have hdl := dig_len x.toNat (by omega)
        clear hcr hx hltl HR HIN
        have P0 := unhide HM
        have hown := unhide HO
        by_cases h0 : k = 0
        · subst h0
          rw [Nat.add_zero] at hc1
          by_cases hneg : x < 0
          · obtain rfl : x = -1 := by omega
            have HN : Hid (m = privL true ++ argsTo l (0 + 1)) := by
              show _ = _; rw [P0]; simp only [argsTo, unhide HX, argPart, if_pos hneg, if_true]; simp
            clear P0 HM hown
            go_wp2_with fail
            go_roundw
            case rel => exact ⟨0 + 1, m, by omega, by go_num, by omega, HN, HO, HB⟩
            case measure => simp [intOf]; omega
          · have hxb : (x != -1) = true := by rw [bne_iff_ne]; omega
            have HN : Hid (m ++ Lib.decDigits x.toNat = privL true ++ argsTo l (0 + 1)) := by
              show _ = _; rw [P0]; simp only [argsTo, unhide HX, argPart, if_neg hneg, if_true]; simp
            clear P0 HM hown
            go_wp2_with (go_at_call 91; refine (iappint (w.heap.size + 1) (m) x (by omega) (by omega) _ _ (unhide HO) (Nat.le_trans (Nat.le_of_eq (by simp)) (unhide HB).size) (by first | omega | (rw [List.length_append]; simp; omega)) (Nat.lt_succ_of_lt (unhide HG)) ((unhide HP).below (((Below.refl w.heap.size w).alloc (Nat.le_refl _) _).trans ((unhide HB).mono (Nat.le_succ _))) (unhide HG))).mono ?_; rintro e w3 ⟨v3, rfl, ho3, hb3⟩; have HO3 := hide ho3; have HB3 := hide ((unhide HB).trans hb3); clear ho3 hb3)
            go_roundw
            case rel => exact ⟨0 + 1, m ++ Lib.decDigits x.toNat, by omega, by go_num, by rw [List.length_append]; omega, HN, HO3, HB3⟩
            case measure => simp [intOf]; omega
        · have hk0 : (0 : Int) < (k : Int) := by omega
          by_cases hneg : x < 0
          · obtain rfl : x = -1 := by omega
            have HN : Hid (m ++ [59] = privL true ++ argsTo l (k + 1)) := by
              show _ = _; rw [P0]; simp only [argsTo, unhide HX, argPart, if_pos hneg, if_neg h0]; simp
            clear P0 HM
            go_wp2_with (at_builtin; refine wpList_append_lies _ rfl (.tmp 21) (.tmp 22) 22 rfl (w.heap.size + 1) 5 i0 (.int .u8 0) 1 1 Tryd.underlying22 hi hz0 hz1 hz2 rfl (by decide) _ _ _ rfl (hown.alloc _) ⟨wr.heap.size, 0, none⟩ 1 1 (B8 [59]) rfl rfl (by have h := news_new wr (B8 [59]) 5; (try rw [size_alloc] at h); exact h) (B8_one _) (by decide) (by unfold maxLen; omega) (by omega) (by first | (simp; done) | (simp; omega)) _ rfl ?_; intro g2 c2 w2 hown2 hgrow2 hat2 hlt2; have HB2 := hide (below_app (unhide HB) hz hown (Nat.le_refl _) hgrow2); have HO2 : Hid (w2.ownsRow (w.heap.size + 1) 5 1 (.slice (some ⟨g2, 0, none⟩) (m.length + 1) c2) (m ++ [59]).length (B8 (m ++ [59]))) := own_app hown2 rfl; clear hown2 hgrow2 hat2 hlt2)
            go_roundw
            case rel => exact ⟨k + 1, m ++ [59], by omega, by go_num, by rw [List.length_append]; simp; omega, HN, HO2, HB2⟩
            case measure => simp [intOf]; omega
          · have hxb : (x != -1) = true := by rw [bne_iff_ne]; omega
            have HN : Hid ((m ++ [59]) ++ Lib.decDigits x.toNat = privL true ++ argsTo l (k + 1)) := by
              show _ = _; rw [P0]; simp only [argsTo, unhide HX, argPart, if_neg hneg, if_neg h0]; simp
            clear P0 HM
            go_wp2_with (first | (at_builtin; refine wpList_append_lies _ rfl (.tmp 21) (.tmp 22) 22 rfl (w.heap.size + 1) 5 i0 (.int .u8 0) 1 1 Tryd.underlying22 hi hz0 hz1 hz2 rfl (by decide) _ _ _ rfl (hown.alloc _) ⟨wr.heap.size, 0, none⟩ 1 1 (B8 [59]) rfl rfl (by have h := news_new wr (B8 [59]) 5; (try rw [size_alloc] at h); exact h) (B8_one _) (by decide) (by unfold maxLen; omega) (by omega) (by first | (simp; done) | (simp; omega)) _ rfl ?_; intro g2 c2 w2 hown2 hgrow2 hat2 hlt2; have HB2 := hide (below_app (unhide HB) hz hown (Nat.le_refl _) hgrow2); have HO2 : Hid (w2.ownsRow (w.heap.size + 1) 5 1 (.slice (some ⟨g2, 0, none⟩) (m.length + 1) c2) (m ++ [59]).length (B8 (m ++ [59]))) := own_app hown2 rfl; clear hown2 hgrow2 hat2 hlt2) | (go_at_call 91; refine (iappint (w.heap.size + 1) (m ++ [59]) x (by omega) (by omega) _ _ (unhide HO2) (Nat.le_trans (Nat.le_of_eq (by simp)) (unhide HB2).size) (by first | omega | (rw [List.length_append]; simp; omega)) (Nat.lt_succ_of_lt (unhide HG)) ((unhide HP).below (((Below.refl w.heap.size w).alloc (Nat.le_refl _) _).trans ((unhide HB2).mono (Nat.le_succ _))) (unhide HG))).mono ?_; rintro e w3 ⟨v3, rfl, ho3, hb3⟩; have HO3 := hide ho3; have HB3 := hide ((unhide HB2).trans hb3); clear ho3 hb3))
            go_roundw
            case rel => exact ⟨k + 1, (m ++ [59]) ++ Lib.decDigits x.toNat, by omega, by go_num, by rw [List.length_append, List.length_append]; simp; omega, HN, HO3, HB3⟩
            case measure => simp [intOf]; omega
      · have ek : k = len := by omega
        have HV : Hid (m = privL true ++ argsTo l l.length) := by show _ = _; rw [unhide HM, ek, unhide HL]
        have hcv := conv_own (P := Tryd.prog) Tryd.underlying22 Tryd.underlying5 Tryd.underlying9 (unhide HO)
        clear HM
        go_wp2_with fail
        go_ret
        exact ⟨ret_string (by rw [unhide HV]), unhide HW⟩
end Go.Proofs.YtolbmblffogloabDoor

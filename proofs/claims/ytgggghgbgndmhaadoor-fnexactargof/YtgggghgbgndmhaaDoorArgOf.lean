/- ArgOf: what both texts answer. -/
import Derived.Test.YtgggghgbgndmhaaDoorActI
import Derived.Test.YtgggghgbgndmhaaDoorActS
namespace Go.Proofs.YtgggghgbgndmhaaDoor
open Go.ChangeShapes Go.WideShapes Go.ChangeAt Go.RowKit
set_option linter.unusedVariables false
def pickArg (l : List Int) (i o : Int) : Int := if (l.length : Int) ≤ i then o else if l.getD i.toNat 0 < 0 then o else l.getD i.toNat 0
def argC (v : Bool) (i o : Int) : Int := if v then (if inB i 0 7 && inB o (-1) 9999 then 0 else 4) else 1
def argV (v : Bool) (l : List Int) (i o : Int) : Int := if v then (if inB i 0 7 && inB o (-1) 9999 then pickArg l i o else 0) else 0
theorem pick_out {l : List Int} {k : Nat} {o : Int} (h : ¬ k < l.length) : pickArg l k o = o := by unfold pickArg; rw [if_pos (by omega)]
theorem pick_neg {l : List Int} {k : Nat} {o : Int} (h : k < l.length) (h2 : l[k] < 0) : pickArg l k o = o := by
  unfold pickArg; rw [if_neg (by omega), Int.toNat_natCast, show l.getD k 0 = l[k] from by simp [h], if_pos h2]
theorem pick_in {l : List Int} {k : Nat} {o : Int} (h : k < l.length) (h2 : ¬ l[k] < 0) : pickArg l k o = l[k] := by
  unfold pickArg; rw [if_neg (by omega), Int.toNat_natCast, show l.getD k 0 = l[k] from by simp [h], if_neg h2]
/-- In an action that is right no argument is less than -1. -/
theorem act_least {kd n : Int} {pr : Bool} {l : List Int} {t : List UInt8} (h : actB kd n pr l t = true) (k : Nat) (hk : k < l.length) : -1 ≤ l[k] := by
  by_cases h4 : kd = 4
  · subst h4
    rw [actB_4] at h
    simp only [Bool.and_eq_true] at h
    have ha := h.2.1
    unfold argsB allArgs at ha
    simp only [Bool.and_eq_true, List.all_eq_true] at ha
    have := ha.2 l[k] (List.getElem_mem hk)
    unfold inB at this
    simp at this
    omega
  · rw [act_args h4 (bare_not (by omega))] at h
    cases h
set_option maxHeartbeats 400000 in
set_option maxRecDepth 100000 in
theorem sl03arg (k : Nat) (o : Int) (kd n : Int) (pr : Bool) (a : Option Addr) (cap : Nat) (l : List Int) (t : ByteArray) (hk : k ≤ 7) (hl : l.length ≤ 1048576) (w : World) (hr : RowV w a (cI l)) :
    Calls Tryd.prog 25 #[.agg #[.int .i64 kd, .int .i64 n, .bool pr, .slice a l.length cap, .string t], .int .i64 (k : Int), .int .i64 o] w fun e w' => e = .returned (.int .i64 (pickArg l k o)) ∧ Below w.heap.size w w' := by
  by_cases hlt : k < l.length
  · obtain ⟨b, off, ha, hblt, hc⟩ := hr.at (by rw [cI_len]; omega)
    subst ha
    obtain ⟨x, hx⟩ : ∃ x, x = l[k] := ⟨_, rfl⟩
    have hc1 : w.cell? ⟨b, off + k, none⟩ = some (.int .i64 x) := by rw [hx]; exact hc k _ (cI_at l k hlt)
    have hne : ¬ b = w.heap.size := by omega
    have hlt' : (k : Int) < (l.length : Int) := by omega
    by_cases h0 : x < 0
    · have HV : Hid (pickArg l k o = o) := pick_neg hlt (by rw [← hx]; exact h0)
      clear hc hx hr
      go_enter Tryd.func25, Tryd.ntmps25
      go_wp2_with fail
      go_ret
      exact ⟨ret_int (unhide HV).symm, (Below.refl _ _).alloc (Nat.le_refl _) _⟩
    · have HV : Hid (pickArg l k o = x) := by show _ = _; rw [pick_in hlt (by rw [← hx]; exact h0), hx]
      clear hc hx hr
      go_enter Tryd.func25, Tryd.ntmps25
      go_wp2_with fail
      go_ret
      exact ⟨ret_int (unhide HV).symm, (Below.refl _ _).alloc (Nat.le_refl _) _⟩
  · have HV : Hid (pickArg l k o = o) := pick_out hlt
    have hlt' : ¬ (k : Int) < (l.length : Int) := by omega
    clear hr
    go_enter Tryd.func25, Tryd.ntmps25
    go_wp2_with fail
    go_ret
    exact ⟨ret_int (unhide HV).symm, (Below.refl _ _).alloc (Nat.le_refl _) _⟩
set_option maxHeartbeats 400000 in
set_option maxRecDepth 100000 in
theorem sargof (i o : Int) (kd n : Int) (pr : Bool) (a : Option Addr) (cap : Nat) (l : List Int) (t : ByteArray) (hl : l.length ≤ 1048576) (ht : t.size ≤ 1048576) (w : World) (hr : RowV w a (cI l)) :
    Calls Tryd.prog 14 #[.agg #[.int .i64 kd, .int .i64 n, .bool pr, .slice a l.length cap, .string t], .int .i64 i, .int .i64 o] w fun e w' => e = .returned (.tuple #[.int .i64 (argV (actB kd n pr l t.data.toList) l i o), .int .i64 (argC (actB kd n pr l t.data.toList) i o)]) ∧ Below w.heap.size w w' := by
  have B0 := hide ((Below.refl w.heap.size w).alloc (Nat.le_refl _) (.cells #[.int .i64 kd, .int .i64 n, .bool pr, .slice a l.length cap, .string t] 38))
  have HR := hide hr
  have HL := hide hl
  have HTS := hide ht
  have HA : Hid (actB kd n pr l t.data.toList = true → ∀ q (hq : q < l.length), -1 ≤ l[q]) := fun h q hq => act_least h q hq
  clear hr hl ht
  obtain ⟨v, hv⟩ : ∃ v, actB kd n pr l t.data.toList = v := ⟨_, rfl⟩
  rw [hv] at HA ⊢
  cases v
  · have HV : Hid (argV false l i o = 0 ∧ argC false i o = 1) := ⟨rfl, rfl⟩
    go_enter Tryd.func14, Tryd.ntmps14
    go_wp2_with (go_at_call 23; refine (sactok _ _ _ _ _ _ l t rfl (unhide HL) (unhide HTS) _ ((unhide HR).below (unhide B0))).mono ?_; rintro e w2 ⟨rfl, hb2⟩; rw [hv]; have C2 := hide hb2; obtain ⟨hc, -⟩ := bcell hb2; clear hb2)
    go_ret2
    rw [(unhide HV).1, (unhide HV).2]
    exact ⟨rfl, (unhide B0).trans ((unhide C2).mono (unhide B0).size)⟩
  cases hi : inB i 0 7
  · have HV : Hid (argV true l i o = 0 ∧ argC true i o = 4) := by unfold argV argC; rw [hi]; exact ⟨rfl, rfl⟩
    go_enter Tryd.func14, Tryd.ntmps14
    go_wp2_with (first | (go_at_call 23; refine (sactok _ _ _ _ _ _ l t rfl (unhide HL) (unhide HTS) _ ((unhide HR).below (unhide B0))).mono ?_; rintro e w2 ⟨rfl, hb2⟩; rw [hv]; have C2 := hide hb2; obtain ⟨hc, -⟩ := bcell hb2; clear hb2) | (go_at_call 24; refine (sin _ _ _ _).mono ?_; rintro e w3 ⟨rfl, hw⟩; subst w3; first | rw [hi] | rw [ho]))
    go_ret2
    rw [(unhide HV).1, (unhide HV).2]
    exact ⟨rfl, (unhide B0).trans ((unhide C2).mono (unhide B0).size)⟩
  obtain ⟨k, hk7, rfl⟩ : ∃ k : Nat, k ≤ 7 ∧ i = (k : Int) := by
    unfold inB at hi; simp at hi; exact ⟨i.toNat, by omega, by omega⟩
  cases ho : inB o (-1) 9999
  · have HV : Hid (argV true l k o = 0 ∧ argC true k o = 4) := by unfold argV argC; rw [hi, ho]; exact ⟨rfl, rfl⟩
    go_enter Tryd.func14, Tryd.ntmps14
    go_wp2_with (first | (go_at_call 23; refine (sactok _ _ _ _ _ _ l t rfl (unhide HL) (unhide HTS) _ ((unhide HR).below (unhide B0))).mono ?_; rintro e w2 ⟨rfl, hb2⟩; rw [hv]; have C2 := hide hb2; obtain ⟨hc, -⟩ := bcell hb2; clear hb2) | (go_at_call 24; refine (sin _ _ _ _).mono ?_; rintro e w3 ⟨rfl, hw⟩; subst w3; first | rw [hi] | rw [ho]))
    go_ret2
    rw [(unhide HV).1, (unhide HV).2]
    exact ⟨rfl, (unhide B0).trans ((unhide C2).mono (unhide B0).size)⟩
  · have HV : Hid (argV true l k o = pickArg l k o ∧ argC true k o = 0) := by unfold argV argC; rw [hi, ho]; exact ⟨rfl, rfl⟩
    go_enter Tryd.func14, Tryd.ntmps14
    go_wp2_with (first | (go_at_call 23; refine (sactok _ _ _ _ _ _ l t rfl (unhide HL) (unhide HTS) _ ((unhide HR).below (unhide B0))).mono ?_; rintro e w2 ⟨rfl, hb2⟩; rw [hv]; have C2 := hide hb2; obtain ⟨hc, -⟩ := bcell hb2; clear hb2) | (go_at_call 24; refine (sin _ _ _ _).mono ?_; rintro e w3 ⟨rfl, hw⟩; subst w3; first | rw [hi] | rw [ho]) | (go_at_call 25; refine (sl03arg k o _ _ _ _ _ l t hk7 (unhide HL) _ (((unhide HR).below (unhide B0)).below (unhide C2))).mono ?_; rintro e w4 ⟨rfl, hb4⟩; have C4 := hide hb4; clear hb4))
    go_ret2
    rw [(unhide HV).1, (unhide HV).2]
    exact ⟨rfl, ((unhide B0).trans ((unhide C2).mono (unhide B0).size)).trans ((unhide C4).mono (Nat.le_trans (unhide B0).size (unhide C2).size))⟩
set_option maxHeartbeats 400000 in
set_option maxRecDepth 100000 in
theorem iargat (k : Nat) (o : Int) (a : Option Addr) (cap : Nat) (l : List Int) (hl : l.length ≤ 1048576) (hk : k ≤ 7) (hA : ∀ q (hq : q < l.length), -1 ≤ l[q]) (w : World) (hr : RowV w a (cI l)) :
    Calls Tryd.prog 29 #[.slice a l.length cap, .int .i64 (k : Int), .int .i64 o] w fun e w' => e = .returned (.int .i64 (pickArg l k o)) ∧ w' = w := by
  by_cases hlt : k < l.length
  · obtain ⟨b, off, ha, hblt, hcr⟩ := hr.at (by rw [cI_len]; omega)
    subst ha
    obtain ⟨x, hx⟩ : ∃ x, x = l[k] := ⟨_, rfl⟩
    have hc1 : w.cell? ⟨b, off + k, none⟩ = some (.int .i64 x) := by rw [hx]; exact hcr k _ (cI_at l k hlt)
    have hlt' : (k : Int) < (l.length : Int) := by omega
    have hx1 : -1 ≤ x := by rw [hx]; exact hA k hlt
    by_cases h0 : x < 0
    · obtain rfl : x = -1 := by omega
      have HV : Hid (pickArg l k o = o) := pick_neg hlt (by rw [← hx]; exact h0)
      clear hx hcr hA hr
      go_enter Tryd.func29, Tryd.ntmps29
      go_wp2_with fail
      go_ret
      exact ⟨ret_int (unhide HV).symm, rfl⟩
    · have HV : Hid (pickArg l k o = x) := by show _ = _; rw [pick_in hlt (by rw [← hx]; exact h0), hx]
      have hx2 : (x == -1) = false := by rw [beq_eq_false_iff_ne]; omega
      clear hx hcr hA hr
      go_enter Tryd.func29, Tryd.ntmps29
      go_wp2_with fail
      go_ret
      exact ⟨ret_int (unhide HV).symm, rfl⟩
  · have HV : Hid (pickArg l k o = o) := pick_out hlt
    have hlt' : ¬ (k : Int) < (l.length : Int) := by omega
    clear hA hr
    go_enter Tryd.func29, Tryd.ntmps29
    go_wp2_with fail
    go_ret
    exact ⟨ret_int (unhide HV).symm, rfl⟩
set_option maxHeartbeats 400000 in
set_option maxRecDepth 100000 in
theorem iargof (i o : Int) (kd n : Int) (pr : Bool) (a : Option Addr) (cap : Nat) (l : List Int) (t : ByteArray) (hl : l.length ≤ 1048576) (ht : t.size ≤ 1048576) (w : World) (hr : RowV w a (cI l)) (hT : StepsIn w) :
    Calls Tryd.prog 16 #[.agg #[.int .i64 kd, .int .i64 n, .bool pr, .slice a l.length cap, .string t], .int .i64 i, .int .i64 o] w fun e w' => e = .returned (.tuple #[.int .i64 (argV (actB kd n pr l t.data.toList) l i o), .int .i64 (argC (actB kd n pr l t.data.toList) i o)]) ∧ Below w.heap.size w w' := by
  have B0 := hide ((Below.refl w.heap.size w).alloc (Nat.le_refl _) (.cells #[.int .i64 kd, .int .i64 n, .bool pr, .slice a l.length cap, .string t] 38))
  have HR := hide hr
  have HL := hide hl
  have HTS := hide ht
  have HP := hide hT.pos
  have HT := hide hT
  clear hT
  have HA : Hid (actB kd n pr l t.data.toList = true → ∀ q (hq : q < l.length), -1 ≤ l[q]) := fun h q hq => act_least h q hq
  clear hr hl ht
  obtain ⟨v, hv⟩ : ∃ v, actB kd n pr l t.data.toList = v := ⟨_, rfl⟩
  rw [hv] at HA ⊢
  cases v
  · have HV : Hid (argV false l i o = 0 ∧ argC false i o = 1) := ⟨rfl, rfl⟩
    go_enter Tryd.func16, Tryd.ntmps16
    go_wp2_with (go_at_call 27; refine (iactok _ _ _ _ _ _ l t rfl (unhide HL) (unhide HTS) _ ((unhide HR).below (unhide B0)) ((unhide HT).below (unhide B0) (unhide HP))).mono ?_; rintro e w2 ⟨rfl, hb2⟩; rw [hv]; have C2 := hide hb2; obtain ⟨hc, -⟩ := bcell hb2; clear hb2)
    go_ret2
    rw [(unhide HV).1, (unhide HV).2]
    exact ⟨rfl, (unhide B0).trans ((unhide C2).mono (unhide B0).size)⟩
  cases hi : inB i 0 7
  · have HV : Hid (argV true l i o = 0 ∧ argC true i o = 4) := by unfold argV argC; rw [hi]; exact ⟨rfl, rfl⟩
    by_cases h0 : i < 0
    · skip
      go_enter Tryd.func16, Tryd.ntmps16
      go_wp2_with (first | (go_at_call 27; refine (iactok _ _ _ _ _ _ l t rfl (unhide HL) (unhide HTS) _ ((unhide HR).below (unhide B0)) ((unhide HT).below (unhide B0) (unhide HP))).mono ?_; rintro e w2 ⟨rfl, hb2⟩; rw [hv]; have C2 := hide hb2; obtain ⟨hc, -⟩ := bcell hb2; clear hb2) | (go_at_call 28; refine (iarg _ _).mono ?_; rintro e w3 ⟨rfl, hw⟩; subst w3; first | rw [ho] | skip))
      go_ret2
      rw [(unhide HV).1, (unhide HV).2]
      exact ⟨rfl, (unhide B0).trans ((unhide C2).mono (unhide B0).size)⟩
    · have h7 : 8 ≤ i := by
        unfold inB at hi; simp at hi; omega
      go_enter Tryd.func16, Tryd.ntmps16
      go_wp2_with (first | (go_at_call 27; refine (iactok _ _ _ _ _ _ l t rfl (unhide HL) (unhide HTS) _ ((unhide HR).below (unhide B0)) ((unhide HT).below (unhide B0) (unhide HP))).mono ?_; rintro e w2 ⟨rfl, hb2⟩; rw [hv]; have C2 := hide hb2; obtain ⟨hc, -⟩ := bcell hb2; clear hb2) | (go_at_call 28; refine (iarg _ _).mono ?_; rintro e w3 ⟨rfl, hw⟩; subst w3; first | rw [ho] | skip))
      go_ret2
      rw [(unhide HV).1, (unhide HV).2]
      exact ⟨rfl, (unhide B0).trans ((unhide C2).mono (unhide B0).size)⟩
  obtain ⟨k, hk7, rfl⟩ : ∃ k : Nat, k ≤ 7 ∧ i = (k : Int) := by
    unfold inB at hi; simp at hi; exact ⟨i.toNat, by omega, by omega⟩
  cases ho : inB o (-1) 9999
  · have HV : Hid (argV true l k o = 0 ∧ argC true k o = 4) := by unfold argV argC; rw [hi, ho]; exact ⟨rfl, rfl⟩
    go_enter Tryd.func16, Tryd.ntmps16
    go_wp2_with (first | (go_at_call 27; refine (iactok _ _ _ _ _ _ l t rfl (unhide HL) (unhide HTS) _ ((unhide HR).below (unhide B0)) ((unhide HT).below (unhide B0) (unhide HP))).mono ?_; rintro e w2 ⟨rfl, hb2⟩; rw [hv]; have C2 := hide hb2; obtain ⟨hc, -⟩ := bcell hb2; clear hb2) | (go_at_call 28; refine (iarg _ _).mono ?_; rintro e w3 ⟨rfl, hw⟩; subst w3; first | rw [hi] | rw [ho]))
    go_ret2
    rw [(unhide HV).1, (unhide HV).2]
    exact ⟨rfl, (unhide B0).trans ((unhide C2).mono (unhide B0).size)⟩
  · have HVC : Hid (argV true l k o = pickArg l k o ∧ argC true k o = 0) := by unfold argV argC; rw [hi, ho]; exact ⟨rfl, rfl⟩
    have HAA := hide (unhide HA rfl)
    clear HA
    go_enter Tryd.func16, Tryd.ntmps16
    go_wp2_with (first | (go_at_call 27; refine (iactok _ _ _ _ _ _ l t rfl (unhide HL) (unhide HTS) _ ((unhide HR).below (unhide B0)) ((unhide HT).below (unhide B0) (unhide HP))).mono ?_; rintro e w2 ⟨rfl, hb2⟩; rw [hv]; have C2 := hide hb2; obtain ⟨hc, -⟩ := bcell hb2; clear hb2) | (go_at_call 28; refine (iarg _ _).mono ?_; rintro e w3 ⟨rfl, hw⟩; subst w3; rw [ho]) | (go_at_call 29; refine (iargat k o _ _ l (unhide HL) hk7 (unhide HAA) _ ((unhide HR).below ((unhide B0).trans ((unhide C2).mono (unhide B0).size)))).mono ?_; rintro e w3 ⟨rfl, hw⟩; subst w3))
    go_ret2
    rw [(unhide HVC).1, (unhide HVC).2]
    exact ⟨rfl, (unhide B0).trans ((unhide C2).mono (unhide B0).size)⟩
end Go.Proofs.YtgggghgbgndmhaaDoor

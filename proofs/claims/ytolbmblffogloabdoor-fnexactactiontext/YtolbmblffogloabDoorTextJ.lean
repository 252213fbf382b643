/- ActionText: what both texts answer. -/
import Derived.Test.YtolbmblffogloabDoorTextI
import Derived.Test.YtolbmblffogloabDoorActI
import Derived.Deep.RegionHeld3
namespace Go.Proofs.YtolbmblffogloabDoor
open Go.ChangeShapes Go.WideShapes Go.ChangeAt Go.RowKit
set_option linter.unusedVariables false
def atS (v : Bool) (x : ByteArray) : ByteArray := if v then x else ⟨#[]⟩
def atC (v : Bool) : Int := if v then 0 else 1
theorem stext (kd n : Int) (pr : Bool) (a : Option Addr) (cap : Nat) (l : List Int) (t : ByteArray) (h : actB kd n pr l t.data.toList = true) (w : World) (hr : RowV w a (cI l)) :
    Calls Tryd.prog 61 #[.agg #[.int .i64 kd, .int .i64 n, .bool pr, .slice a l.length cap, .string t]] w fun e w' => e = .returned (.string (textS kd n pr l t)) ∧ Below w.heap.size w w' := by
  rcases act_parts h with ⟨rfl, h1⟩ | ⟨rfl, h1, h2⟩ | ⟨rfl, h1, h2⟩ | ⟨rfl, h1, h2, h3, h4⟩ | ⟨rfl, h1⟩
  · exact stext1 n pr a cap l t h1 w
  · exact stext2 n pr a cap l t h1 h2 w
  · exact stext3 n pr a cap l t h1 h2 w
  · exact stext4 n pr a cap l t h1 h2 h3 h4 w hr
  · exact stext5 n pr a cap l t h1 w
set_option maxHeartbeats 400000 in
set_option maxRecDepth 100000 in
theorem sactext (kd n : Int) (pr : Bool) (a : Option Addr) (cap : Nat) (l : List Int) (t : ByteArray) (hl : l.length ≤ 1048576) (ht : t.size ≤ 1048576) (w : World) (hr : RowV w a (cI l)) :
    Calls Tryd.prog 36 #[.agg #[.int .i64 kd, .int .i64 n, .bool pr, .slice a l.length cap, .string t]] w fun e w' => e = .returned (.tuple #[.string (atS (actB kd n pr l t.data.toList) (textS kd n pr l t)), .int .i64 (atC (actB kd n pr l t.data.toList))]) ∧ Below w.heap.size w w' := by
  have B0 := hide ((Below.refl w.heap.size w).alloc (Nat.le_refl _) (.cells #[.int .i64 kd, .int .i64 n, .bool pr, .slice a l.length cap, .string t] 54))
  have HR := hide hr
  have HL := hide hl
  have HTS := hide ht
  have HA : Hid (actB kd n pr l t.data.toList = true → actB kd n pr l t.data.toList = true) := fun h => h
  clear hr hl ht
  obtain ⟨X, hX⟩ : ∃ X, textS kd n pr l t = X := ⟨_, rfl⟩
  have HX := hide hX
  rw [hX]
  clear hX
  obtain ⟨v, hv⟩ : ∃ v, actB kd n pr l t.data.toList = v := ⟨_, rfl⟩
  have HV := hide hv
  rw [hv]
  cases v
  · have HQ : Hid (atS false X = ⟨#[]⟩ ∧ atC false = 1) := ⟨rfl, rfl⟩
    go_enter Tryd.func36, Tryd.ntmps36
    go_wp2_with (go_at_call 32; refine (sactok _ _ _ _ _ _ l t rfl (unhide HL) (unhide HTS) _ ((unhide HR).below (unhide B0))).mono ?_; rintro e w2 ⟨rfl, hb2⟩; rw [hv]; have C2 := hide hb2; clear hb2)
    go_ret2
    rw [(unhide HQ).1, (unhide HQ).2]
    exact ⟨rfl, (unhide B0).trans ((unhide C2).mono (unhide B0).size)⟩
  · have HQ : Hid (atS true X = X ∧ atC true = 0) := ⟨rfl, rfl⟩
    go_enter Tryd.func36, Tryd.ntmps36
    go_wp2_with (first | (go_at_call 32; refine (sactok _ _ _ _ _ _ l t rfl (unhide HL) (unhide HTS) _ ((unhide HR).below (unhide B0))).mono ?_; rintro e w2 ⟨rfl, hb2⟩; rw [hv]; have C2 := hide hb2; obtain ⟨hc, -⟩ := bcell hb2; clear hb2) | (go_at_call 61; refine (stext _ _ _ _ _ l t (unhide HV) _ (((unhide HR).below (unhide B0)).below (unhide C2))).mono ?_; rintro e w3 ⟨rfl, hb3⟩; rw [unhide HX]; have C3 := hide hb3; clear hb3))
    go_ret2
    rw [(unhide HQ).1, (unhide HQ).2]
    exact ⟨rfl, ((unhide B0).trans ((unhide C2).mono (unhide B0).size)).trans ((unhide C3).mono (Nat.le_trans (unhide B0).size (unhide C2).size))⟩
theorem wrap32z (n : Int) (h0 : 0 ≤ n) (h1 : n ≤ 1114111) : IntKind.i32.wrap n = n := by
  simp only [IntKind.wrap, IntKind.signed, IntKind.bits]
  simp
  omega
theorem text_1 (n : Int) (pr : Bool) (l : List Int) (t : ByteArray) : textS 1 n pr l t = Utf8.encode n := ba_ext rfl
theorem text_2 {n : Int} (pr : Bool) (l : List Int) (t : ByteArray) (h0 : 0 ≤ n) (h : n < 128) : textS 2 n pr l t = Utf8.encode n := by rw [enc_small h0 h]; exact ba_ext rfl
theorem text_3 (n : Int) (pr : Bool) (l : List Int) (t : ByteArray) : textS 3 n pr l t = ⟨#[27]⟩ ++ ⟨#[ub n]⟩ := ba_ext rfl
theorem text_4 (n : Int) (pr : Bool) (l : List Int) (t : ByteArray) : textS 4 n pr l t = ⟨#[27]⟩ ++ ⟨#[91]⟩ ++ ⟨(privL pr ++ argsTo l l.length).toArray⟩ ++ ⟨#[ub n]⟩ := ba_ext (by simp only [ba_app]; rfl)
theorem text_5 (n : Int) (pr : Bool) (l : List Int) (t : ByteArray) : textS 5 n pr l t = ⟨#[27]⟩ ++ ⟨#[93]⟩ ++ t ++ ⟨#[7]⟩ := ba_ext (by simp only [ba_app]; rfl)
set_option maxHeartbeats 400000 in
set_option maxRecDepth 100000 in
theorem iactext1 (n : Int) (pr : Bool) (a : Option Addr) (cap : Nat) (l : List Int) (t : ByteArray) (hl : l.length ≤ 1048576) (ht : t.size ≤ 1048576) (hv : actB 1 n pr l t.data.toList = true) (hn : runeB n = true) (w : World) (hr : RowV w a (cI l)) (hT : StepsIn w) (hp : PowIn w) :
    Calls Tryd.prog 37 #[.agg #[.int .i64 1, .int .i64 n, .bool pr, .slice a l.length cap, .string t]] w fun e w' => e = .returned (.tuple #[.string (textS 1 n pr l t), .int .i64 0]) ∧ Below w.heap.size w w' := by
  have B0 := hide ((Below.refl w.heap.size w).alloc (Nat.le_refl _) (.cells #[.int .i64 1, .int .i64 n, .bool pr, .slice a l.length cap, .string t] 54))
  have HR := hide hr
  have HL := hide hl
  have HTS := hide ht
  have HG := hide (show 8 < w.heap.size from by
    unfold PowIn Lib.TabIs World.var? at hp
    rw [pow_named] at hp
    rcases Nat.lt_or_ge 8 w.heap.size with h | h
    · exact h
    · simp only [Option.bind_some] at hp; rw [Array.getElem?_eq_none h] at hp; cases hp)
  have HPW := hide hp
  have HP := hide hT.pos
  have HT := hide hT
  clear hr hl hT hp
  have hb := of_decide_eq_true hn
  have hw := wrap32z n (by omega) (by omega)
  have HX := hide (text_1 n pr l t)
  clear hb hn
  go_enter Tryd.func37, Tryd.ntmps37
  go_wp2_with (first | (go_at_call 34; refine (iactok _ _ _ _ _ _ l t rfl (unhide HL) (unhide HTS) _ ((unhide HR).below (unhide B0)) ((unhide HT).below (unhide B0) (unhide HP))).mono ?_; rintro e w2 ⟨rfl, hb2⟩; rw [hv]; have C2 := hide hb2; clear hb2) | (go_at_call 62; refine (ibyte 27 (by decide) (by decide) _).mono ?_; rintro e w3 ⟨rfl, hb3⟩; have C3 := hide ((unhide C2).trans (hb3.mono (unhide C2).size)); have hc := fun o => (bcellB (unhide C3)).1 w.heap.size o (by simp); clear hb3))
  go_ret2
  rw [unhide HX]
  exact ⟨rfl, (unhide B0).trans ((unhide C3).mono (unhide B0).size)⟩
set_option maxHeartbeats 400000 in
set_option maxRecDepth 100000 in
theorem iactext2 (n : Int) (pr : Bool) (a : Option Addr) (cap : Nat) (l : List Int) (t : ByteArray) (hl : l.length ≤ 1048576) (ht : t.size ≤ 1048576) (hv : actB 2 n pr l t.data.toList = true) (h0 : 0 ≤ n) (h1 : n ≤ 13) (w : World) (hr : RowV w a (cI l)) (hT : StepsIn w) (hp : PowIn w) :
    Calls Tryd.prog 37 #[.agg #[.int .i64 2, .int .i64 n, .bool pr, .slice a l.length cap, .string t]] w fun e w' => e = .returned (.tuple #[.string (textS 2 n pr l t), .int .i64 0]) ∧ Below w.heap.size w w' := by
  have B0 := hide ((Below.refl w.heap.size w).alloc (Nat.le_refl _) (.cells #[.int .i64 2, .int .i64 n, .bool pr, .slice a l.length cap, .string t] 54))
  have HR := hide hr
  have HL := hide hl
  have HTS := hide ht
  have HG := hide (show 8 < w.heap.size from by
    unfold PowIn Lib.TabIs World.var? at hp
    rw [pow_named] at hp
    rcases Nat.lt_or_ge 8 w.heap.size with h | h
    · exact h
    · simp only [Option.bind_some] at hp; rw [Array.getElem?_eq_none h] at hp; cases hp)
  have HPW := hide hp
  have HP := hide hT.pos
  have HT := hide hT
  clear hr hl hT hp
  have hw := wrap32z n h0 (by omega)
  have HX := hide (text_2 pr l t h0 (by omega))
  go_enter Tryd.func37, Tryd.ntmps37
  go_wp2_with (first | (go_at_call 34; refine (iactok _ _ _ _ _ _ l t rfl (unhide HL) (unhide HTS) _ ((unhide HR).below (unhide B0)) ((unhide HT).below (unhide B0) (unhide HP))).mono ?_; rintro e w2 ⟨rfl, hb2⟩; rw [hv]; have C2 := hide hb2; clear hb2) | (go_at_call 62; refine (ibyte 27 (by decide) (by decide) _).mono ?_; rintro e w3 ⟨rfl, hb3⟩; have C3 := hide ((unhide C2).trans (hb3.mono (unhide C2).size)); have hc := fun o => (bcellB (unhide C3)).1 w.heap.size o (by simp); clear hb3))
  go_ret2
  rw [unhide HX]
  exact ⟨rfl, (unhide B0).trans ((unhide C3).mono (unhide B0).size)⟩
set_option maxHeartbeats 400000 in
set_option maxRecDepth 100000 in
theorem iactext3 (n : Int) (pr : Bool) (a : Option Addr) (cap : Nat) (l : List Int) (t : ByteArray) (hl : l.length ≤ 1048576) (ht : t.size ≤ 1048576) (hv : actB 3 n pr l t.data.toList = true) (h0 : 0 ≤ n) (h1 : n ≤ 99) (w : World) (hr : RowV w a (cI l)) (hT : StepsIn w) (hp : PowIn w) :
    Calls Tryd.prog 37 #[.agg #[.int .i64 3, .int .i64 n, .bool pr, .slice a l.length cap, .string t]] w fun e w' => e = .returned (.tuple #[.string (textS 3 n pr l t), .int .i64 0]) ∧ Below w.heap.size w w' := by
  have B0 := hide ((Below.refl w.heap.size w).alloc (Nat.le_refl _) (.cells #[.int .i64 3, .int .i64 n, .bool pr, .slice a l.length cap, .string t] 54))
  have HR := hide hr
  have HL := hide hl
  have HTS := hide ht
  have HG := hide (show 8 < w.heap.size from by
    unfold PowIn Lib.TabIs World.var? at hp
    rw [pow_named] at hp
    rcases Nat.lt_or_ge 8 w.heap.size with h | h
    · exact h
    · simp only [Option.bind_some] at hp; rw [Array.getElem?_eq_none h] at hp; cases hp)
  have HPW := hide hp
  have HP := hide hT.pos
  have HT := hide hT
  clear hr hl hT hp
  have HX := hide (text_3 n pr l t)
  have e27 : ub 27 = 27 := by decide
  go_enter Tryd.func37, Tryd.ntmps37
  go_wp2_with (go_at_call 34; refine (iactok _ _ _ _ _ _ l t rfl (unhide HL) (unhide HTS) _ ((unhide HR).below (unhide B0)) ((unhide HT).below (unhide B0) (unhide HP))).mono ?_; rintro e w2 ⟨rfl, hb2⟩; rw [hv]; have C2 := hide hb2; clear hb2)
  go_wp2_with (go_at_call 62; refine (ibyte 27 (by decide) (by decide) _).mono ?_; rintro e w3 ⟨rfl, hb3⟩; have C3 := hide ((unhide C2).trans (hb3.mono (unhide C2).size)); have hc := fun o => (bcellB (unhide C3)).1 w.heap.size o (by simp); clear hb3)
  go_wp2_with (go_at_call 62; refine (ibyte n (by omega) (by omega) _).mono ?_; rintro e w4 ⟨rfl, hb4⟩; have C4 := hide ((unhide C3).trans (hb4.mono (unhide C3).size)); clear hb4)
  go_ret2
  rw [unhide HX]
  exact ⟨rfl, (unhide B0).trans ((unhide C4).mono (unhide B0).size)⟩
set_option maxHeartbeats 400000 in
set_option maxRecDepth 100000 in
theorem iactext5 (n : Int) (pr : Bool) (a : Option Addr) (cap : Nat) (l : List Int) (t : ByteArray) (hl : l.length ≤ 1048576) (ht : t.size ≤ 1048576) (hv : actB 5 n pr l t.data.toList = true) (h40 : t.size ≤ 40) (w : World) (hr : RowV w a (cI l)) (hT : StepsIn w) (hp : PowIn w) :
    Calls Tryd.prog 37 #[.agg #[.int .i64 5, .int .i64 n, .bool pr, .slice a l.length cap, .string t]] w fun e w' => e = .returned (.tuple #[.string (textS 5 n pr l t), .int .i64 0]) ∧ Below w.heap.size w w' := by
  have B0 := hide ((Below.refl w.heap.size w).alloc (Nat.le_refl _) (.cells #[.int .i64 5, .int .i64 n, .bool pr, .slice a l.length cap, .string t] 54))
  have HR := hide hr
  have HL := hide hl
  have HTS := hide ht
  have HG := hide (show 8 < w.heap.size from by
    unfold PowIn Lib.TabIs World.var? at hp
    rw [pow_named] at hp
    rcases Nat.lt_or_ge 8 w.heap.size with h | h
    · exact h
    · simp only [Option.bind_some] at hp; rw [Array.getElem?_eq_none h] at hp; cases hp)
  have HPW := hide hp
  have HP := hide hT.pos
  have HT := hide hT
  clear hr hl hT hp
  have HX := hide (text_5 n pr l t)
  have e7 : ub 7 = 7 := by decide
  have e27 : ub 27 = 27 := by decide
  go_enter Tryd.func37, Tryd.ntmps37
  go_wp2_with (go_at_call 34; refine (iactok _ _ _ _ _ _ l t rfl (unhide HL) (unhide HTS) _ ((unhide HR).below (unhide B0)) ((unhide HT).below (unhide B0) (unhide HP))).mono ?_; rintro e w2 ⟨rfl, hb2⟩; rw [hv]; have C2 := hide hb2; clear hb2)
  go_wp2_with (go_at_call 62; refine (ibyte 27 (by decide) (by decide) _).mono ?_; rintro e w3 ⟨rfl, hb3⟩; have C3 := hide ((unhide C2).trans (hb3.mono (unhide C2).size)); have hc := fun o => (bcellB (unhide C3)).1 w.heap.size o (by simp); clear hb3)
  have K3 : Hid (w3.cell? ⟨w.heap.size, 4, none⟩ = some (.string t)) := (hc 4).trans (World.cell?_alloc_mark w _ _ _ 4)
  have K3d : Hid (w3.drew.cell? ⟨w.heap.size, 4, none⟩ = some (.string t)) := unhide K3
  have hk1 : ¬ 9223372036854775807 < 1 + 1 + t.size := by omega
  have hk2 : ¬ 9223372036854775807 < 1 + 1 + t.size + 1 := by omega
  go_wp2_with fail
  go_region_held3 (fun w' => w'.cell? ⟨w.heap.size, 4, none⟩ = some (.string t)) (first | with_reducible exact unhide K3 | with_reducible exact unhide K3d | with_reducible exact unhide K4) ((go_at_call 62; refine (ibyte 7 (by decide) (by decide) _).mono ?_; rintro e w4 ⟨rfl, hb4⟩; have C4 := hide ((unhide C3).trans ((below_undrew hb4).mono (unhide C3).size)); have K4 : Hid (w4.cell? ⟨w.heap.size, 4, none⟩ = some (.string t)) := ((bcellB (unhide C4)).1 w.heap.size 4 (by simp)).trans (World.cell?_alloc_mark w _ _ _ 4); clear hb4))
  go_wp2_with fail
  go_ret2
  rw [unhide HX]
  exact ⟨rfl, (unhide B0).trans ((unhide C4).mono (unhide B0).size)⟩
set_option maxHeartbeats 400000 in
set_option maxRecDepth 100000 in
theorem iargstextA (A : ByteArray) (kd n : Int) (pr : Bool) (a : Option Addr) (cap : Nat) (l : List Int) (t : ByteArray) (hA : A = ⟨(privL pr ++ argsTo l l.length).toArray⟩) (h8 : l.length ≤ 8) (hin : ∀ k (hk : k < l.length), -1 ≤ l[k] ∧ l[k] ≤ 9999) (w : World) (hr : RowV w a (cI l)) (hp : PowIn w) (hg : 8 < w.heap.size) :
    Calls Tryd.prog 63 #[.agg #[.int .i64 kd, .int .i64 n, .bool pr, .slice a l.length cap, .string t]] w fun e w' => e = .returned (.string A) ∧ Below w.heap.size w w' := by
  subst hA; exact iargstext kd n pr a cap l t h8 hin w hr hp hg
theorem args_size {pr : Bool} {l : List Int} {A : ByteArray} (hA : A = ⟨(privL pr ++ argsTo l l.length).toArray⟩) (h8 : l.length ≤ 8) (hin : ∀ k (hk : k < l.length), -1 ≤ l[k] ∧ l[k] ≤ 9999) : A.size ≤ 41 := by
  have h := argsTo_le l (fun k hk => (hin k hk).2) l.length
  have e : A.size = (privL pr ++ argsTo l l.length).length := by rw [hA]; simp [ByteArray.size]
  have e2 : (privL pr).length ≤ 1 := by unfold privL; split <;> simp
  rw [e, List.length_append]
  omega
theorem five_at {w w' : World} {B : Nat} {kd n : Int} {pr : Bool} {v : Value} {t : ByteArray} {T : TypeId} (hb : Below B (w.alloc (.cells #[.int .i64 kd, .int .i64 n, .bool pr, v, .string t] T)) w') (h : w.heap.size < B) :
    w'.cell? ⟨w.heap.size, 0, none⟩ = some (.int .i64 kd) ∧ w'.cell? ⟨w.heap.size, 1, none⟩ = some (.int .i64 n) ∧ w'.cell? ⟨w.heap.size, 2, none⟩ = some (.bool pr) ∧ w'.cell? ⟨w.heap.size, 3, none⟩ = some v ∧ w'.cell? ⟨w.heap.size, 4, none⟩ = some (.string t) :=
  ⟨((bcellB hb).1 w.heap.size 0 h).trans (World.cell?_alloc_mark w _ _ _ 0), ((bcellB hb).1 w.heap.size 1 h).trans (World.cell?_alloc_mark w _ _ _ 1), ((bcellB hb).1 w.heap.size 2 h).trans (World.cell?_alloc_mark w _ _ _ 2), ((bcellB hb).1 w.heap.size 3 h).trans (World.cell?_alloc_mark w _ _ _ 3), ((bcellB hb).1 w.heap.size 4 h).trans (World.cell?_alloc_mark w _ _ _ 4)⟩
set_option maxHeartbeats 400000 in
set_option maxRecDepth 100000 in
theorem iactext4 (n : Int) (pr : Bool) (a : Option Addr) (cap : Nat) (l : List Int) (t : ByteArray) (hl : l.length ≤ 1048576) (ht : t.size ≤ 1048576) (hv : actB 4 n pr l t.data.toList = true) (h64 : 64 ≤ n) (h126 : n ≤ 126) (h8 : l.length ≤ 8) (hin : ∀ k (hk : k < l.length), -1 ≤ l[k] ∧ l[k] ≤ 9999) (w : World) (hr : RowV w a (cI l)) (hT : StepsIn w) (hp : PowIn w) :
    Calls Tryd.prog 37 #[.agg #[.int .i64 4, .int .i64 n, .bool pr, .slice a l.length cap, .string t]] w fun e w' => e = .returned (.tuple #[.string (textS 4 n pr l t), .int .i64 0]) ∧ Below w.heap.size w w' := by
  have B0 := hide ((Below.refl w.heap.size w).alloc (Nat.le_refl _) (.cells #[.int .i64 4, .int .i64 n, .bool pr, .slice a l.length cap, .string t] 54))
  have HR := hide hr
  have HL := hide hl
  have HTS := hide ht
  have HG := hide (show 8 < w.heap.size from by
    unfold PowIn Lib.TabIs World.var? at hp
    rw [pow_named] at hp
    rcases Nat.lt_or_ge 8 w.heap.size with h | h
    · exact h
    · simp only [Option.bind_some] at hp; rw [Array.getElem?_eq_none h] at hp; cases hp)
  have HPW := hide hp
  have HP := hide hT.pos
  have HT := hide hT
  clear hr hl hT hp
  obtain ⟨A, hA⟩ : ∃ A : ByteArray, A = ⟨(privL pr ++ argsTo l l.length).toArray⟩ := ⟨_, rfl⟩
  have hAs := args_size hA h8 hin
  have HX : Hid (textS 4 n pr l t = ⟨#[27]⟩ ++ ⟨#[91]⟩ ++ A ++ ⟨#[ub n]⟩) := by show _ = _; rw [text_4, hA]
  have HAE := hide hA
  have H8 := hide h8
  have HIN := hide hin
  clear hA h8 hin
  have e27 : ub 27 = 27 := by decide
  go_enter Tryd.func37, Tryd.ntmps37
  go_wp2_with (go_at_call 34; refine (iactok _ _ _ _ _ _ l t rfl (unhide HL) (unhide HTS) _ ((unhide HR).below (unhide B0)) ((unhide HT).below (unhide B0) (unhide HP))).mono ?_; rintro e w2 ⟨rfl, hb2⟩; rw [hv]; have C2 := hide hb2; clear hb2)
  go_wp2_with (go_at_call 62; refine (ibyte 27 (by decide) (by decide) _).mono ?_; rintro e w3 ⟨rfl, hb3⟩; have C3 := hide ((unhide C2).trans (hb3.mono (unhide C2).size)); have hc := fun o => (bcellB (unhide C3)).1 w.heap.size o (by simp); clear hb3)
  have K3 := hide (five_at (unhide C3) (by simp))
  have K3d := hide (five_at (unhide C3).drew (by simp))
  have B3 := hide ((unhide B0).trans ((unhide C3).mono (unhide B0).size))
  have hk1 : ¬ 9223372036854775807 < 1 + 1 + A.size := by omega
  have hk2 : ¬ 9223372036854775807 < 1 + 1 + A.size + 1 := by omega
  go_wp2_with fail
  go_region_held3 (fun w' => w'.cell? ⟨w.heap.size, 0, none⟩ = some (.int .i64 4) ∧ w'.cell? ⟨w.heap.size, 1, none⟩ = some (.int .i64 n) ∧ w'.cell? ⟨w.heap.size, 2, none⟩ = some (.bool pr) ∧ w'.cell? ⟨w.heap.size, 3, none⟩ = some (.slice a l.length cap) ∧ w'.cell? ⟨w.heap.size, 4, none⟩ = some (.string t)) (first | with_reducible exact unhide K3 | with_reducible exact unhide K3d | with_reducible exact unhide K4 | with_reducible exact unhide K5) (first | (go_at_call 63; refine (iargstextA A _ _ _ _ _ l t (unhide HAE) (unhide H8) (unhide HIN) _ ((unhide HR).below (unhide B3).drew) ((unhide HPW).below (unhide B3).drew (unhide HG)) (Nat.lt_of_lt_of_le (unhide HG) (unhide B3).drew.size)).mono ?_; rintro e w4 ⟨rfl, hb4⟩; have C4 := hide ((unhide C3).trans ((below_undrew hb4).mono (unhide C3).size)); have K4 := hide (five_at (unhide C4) (by simp)); clear hb4) | (go_at_call 62; have hq := C4; clear hq; refine (ibyte n (by omega) (by omega) _).mono ?_; rintro e w5 ⟨rfl, hb5⟩; have C5 := hide ((unhide C4).trans (hb5.mono (unhide C4).size)); have K5 := hide (five_at (unhide C5) (by simp)); clear hb5))
  go_wp2_with fail
  go_ret2
  rw [unhide HX]
  exact ⟨rfl, (unhide B0).trans ((unhide C5).mono (unhide B0).size)⟩
theorem iactext_bad (kd n : Int) (pr : Bool) (a : Option Addr) (cap : Nat) (l : List Int) (t : ByteArray) (hl : l.length ≤ 1048576) (ht : t.size ≤ 1048576) (hv : actB kd n pr l t.data.toList = false) (w : World) (hr : RowV w a (cI l)) (hT : StepsIn w) :
    Calls Tryd.prog 37 #[.agg #[.int .i64 kd, .int .i64 n, .bool pr, .slice a l.length cap, .string t]] w fun e w' => e = .returned (.tuple #[.string ⟨#[]⟩, .int .i64 1]) ∧ Below w.heap.size w w' := by
  have B0 := hide ((Below.refl w.heap.size w).alloc (Nat.le_refl _) (.cells #[.int .i64 kd, .int .i64 n, .bool pr, .slice a l.length cap, .string t] 54))
  have HR := hide hr
  have HL := hide hl
  have HTS := hide ht
  have HP := hide hT.pos
  have HT := hide hT
  clear hr hl hT
  go_enter Tryd.func37, Tryd.ntmps37
  go_wp2_with (go_at_call 34; refine (iactok _ _ _ _ _ _ l t rfl (unhide HL) (unhide HTS) _ ((unhide HR).below (unhide B0)) ((unhide HT).below (unhide B0) (unhide HP))).mono ?_; rintro e w2 ⟨rfl, hb2⟩; rw [hv]; have C2 := hide hb2; clear hb2)
  go_ret2
  exact ⟨rfl, (unhide B0).trans ((unhide C2).mono (unhide B0).size)⟩
theorem iactext (kd n : Int) (pr : Bool) (a : Option Addr) (cap : Nat) (l : List Int) (t : ByteArray) (hl : l.length ≤ 1048576) (ht : t.size ≤ 1048576) (w : World) (hr : RowV w a (cI l)) (hT : StepsIn w) (hp : PowIn w) :
    Calls Tryd.prog 37 #[.agg #[.int .i64 kd, .int .i64 n, .bool pr, .slice a l.length cap, .string t]] w fun e w' => e = .returned (.tuple #[.string (atS (actB kd n pr l t.data.toList) (textS kd n pr l t)), .int .i64 (atC (actB kd n pr l t.data.toList))]) ∧ Below w.heap.size w w' := by
  cases hv : actB kd n pr l t.data.toList
  · exact iactext_bad kd n pr a cap l t hl ht hv w hr hT
  · rcases act_parts hv with ⟨rfl, h1⟩ | ⟨rfl, h1, h2⟩ | ⟨rfl, h1, h2⟩ | ⟨rfl, h1, h2, h3, h4⟩ | ⟨rfl, h1⟩
    · exact iactext1 n pr a cap l t hl ht hv h1 w hr hT hp
    · exact iactext2 n pr a cap l t hl ht hv h1 h2 w hr hT hp
    · exact iactext3 n pr a cap l t hl ht hv h1 h2 w hr hT hp
    · exact iactext4 n pr a cap l t hl ht hv h1 h2 h3 h4 w hr hT hp
    · exact iactext5 n pr a cap l t hl ht hv h1 w hr hT hp
end Go.Proofs.YtolbmblffogloabDoor

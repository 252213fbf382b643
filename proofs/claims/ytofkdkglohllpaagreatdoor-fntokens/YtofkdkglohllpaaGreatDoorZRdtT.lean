/- ReadToken: the tables of its road; where the last blank stands; a number's text. -/
import Derived.Test.YtofkdkglohllpaaGreatDoorZRtkN
import Derived.Test.YtofkdkglohllpaaGreatDoorZItoI
import Derived.Test.YtofkdkglohllpaaGreatDoorZG16
import Derived.BigQuiet
import Derived.Lib.SmallJoins
namespace Go.Proofs.YtofkdkglohllpaaGreatDoor
open Go.ChangeShapes Go.WideShapes Go.ChangeAt Go.RowKit
set_option linter.unusedVariables false
def ErrV (g : Nat) (w : World) : Prop := ∃ te pe, w.cell? ⟨g, 0, none⟩ = some (.iface te pe)
theorem ErrV.below {g : Nat} {w w' : World} (h : ErrV g w) (hb : Below w.heap.size w w') : ErrV g w' := by
  obtain ⟨te, pe, h⟩ := h
  refine ⟨te, pe, (hb.cell (p := ⟨g, 0, none⟩) ?_).trans h⟩
  rcases Nat.lt_or_ge g w.heap.size with h2 | h2
  · exact h2
  · unfold World.cell? at h; rw [Array.getElem?_eq_none h2] at h; cases h
theorem sp_named : Tryz.prog.globalNamed "strings.asciiSpace" = some 0 := by kernel_rfl
def SpIn (w : World) : Prop := Lib.TabIs Tryz.prog w "strings.asciiSpace" .u8 Lib.asciiSpaceTab
theorem SpIn.below {w w' : World} (h : SpIn w) (hb : Below w.heap.size w w') : SpIn w' := by
  have hp : 0 < w.heap.size := by
    unfold SpIn Lib.TabIs World.var? at h
    rw [sp_named] at h
    rcases Nat.lt_or_ge 0 w.heap.size with h2 | h2
    · exact h2
    · simp only [Option.bind_some] at h; rw [Array.getElem?_eq_none h2] at h; cases h
  unfold SpIn Lib.TabIs World.var? at h ⊢
  rw [sp_named] at h ⊢
  simp only [Option.bind_some] at h ⊢
  rw [hb.block _ hp]
  exact h
/-- All tables and variables that ReadToken's road reads. -/
structure TokW (w : World) : Prop where
  pw : PowIn w
  kw : KIn w
  sw : SpIn w
  ww : Lib.WhiteTab 2 w
  es : ErrV 5 w
  er : ErrV 6 w
theorem TokW.below {w w' : World} (h : TokW w) (hb : Below w.heap.size w w') : TokW w' :=
  ⟨h.pw.below hb h.pw.pos, h.kw.below hb h.kw.pos, h.sw.below hb, WhiteTab_below h.ww hb, h.es.below hb, h.er.below hb⟩
set_option maxHeartbeats 4000000 in
set_option maxRecDepth 100000 in
theorem icut_no (t : ByteArray) (HT : Hid (t.size ≤ 65536)) (hn : Lib.lastIndexByte t 32 = -1) (w : World) :
    Calls Tryz.prog 17 #[.string t] w fun e w' => e = .returned (.tuple #[.string ⟨#[]⟩, .string t]) ∧ w' = w := by
  go_enter Tryz.func17, Tryz.ntmps17
  go_wp2_with fail
  refine (Tryz.strings_LastIndexByte t 32 (by have := unhide HT; omega) _).mono ?_
  rintro e w1 ⟨rfl, hw⟩
  subst w1
  rw [hn]
  clear hn
  go_wp2_with fail
  go_ret2
  exact ⟨rfl, rfl⟩
set_option maxHeartbeats 4000000 in
set_option maxRecDepth 100000 in
theorem icut_ok (t : ByteArray) (HT : Hid (t.size ≤ 65536)) (k : Nat) (hn : Lib.lastIndexByte t 32 = (k : Int)) (hk : k < t.size) (A : ByteArray) (HA : t.extract 0 k = A) (B : ByteArray) (HB : t.extract (k + 1) t.size = B) (w : World) :
    Calls Tryz.prog 17 #[.string t] w fun e w' => e = .returned (.tuple #[.string A, .string B]) ∧ Below w.heap.size w w' := by
  have h1 : ¬ (k : Int) < 0 := by omega
  have h2 : (k : Int) ≤ (t.size : Int) := by omega
  have h3 : (k : Int) + 1 ≤ (t.size : Int) := by omega
  have h4 : (0 : Int) ≤ (k : Int) := by omega
  have h5 : (0 : Int) ≤ (k : Int) + 1 := by omega
  have h6 : (t.size : Int) ≤ 65536 := by have := unhide HT; omega
  have h7 : IntKind.i64.wrap ((k : Int) + 1) = ((k + 1 : Nat) : Int) := by rw [IntKind.wrap_i64]; omega
  have h8 : wrap64 ((k : Int) + 1) = ((k + 1 : Nat) : Int) := by unfold wrap64; omega
  have h9 : ((k + 1 : Nat) : Int) ≤ (t.size : Int) := by omega
  go_enter Tryz.func17, Tryz.ntmps17
  go_wp2_with fail
  refine (Tryz.strings_LastIndexByte t 32 (by omega) _).mono ?_
  rintro e w1 ⟨rfl, hw⟩
  subst w1
  rw [hn]
  clear hn
  go_wp2_with fail
  go_quiet (fail)
  go_wp2_with fail
  go_ret2
  exact ⟨rfl, by first | exact Below.refl _ _ | exact (Below.refl _ _).drew | exact below_drewN _ _⟩
theorem zz3_atoi : ∀ k : Fin 202, (match Lib.atoiAll (zz3 k.val) with | .ok v => decide (v = (k.val : Int) - 1) | _ => false) = true := by decide +kernel
theorem atoi_zt {y : Int} (h0 : -1 ≤ y) (h1 : y ≤ 200) : Lib.atoiAll (zt y).data.toList = .ok y := by
  have h := zz3_atoi ⟨(y + 1).toNat, by omega⟩
  have e : (zt y).data.toList = zz3 (y + 1).toNat := by unfold zt; rw [zz3_eq y h0 h1]
  rw [e]
  revert h
  show (match Lib.atoiAll (zz3 (y + 1).toNat) with | .ok v => decide (v = (((y + 1).toNat : Nat) : Int) - 1) | _ => false) = true → _
  cases Lib.atoiAll (zz3 (y + 1).toNat) with
  | ok v => intro h; have := of_decide_eq_true h; rw [show v = y by omega]
  | «syntax» => intro h; cases h
  | range => intro h; cases h
theorem trim_le (l p : List UInt8) : (Lib.trimPrefix l p).length ≤ l.length := by
  unfold Lib.trimPrefix; split
  · rw [List.length_drop]; omega
  · exact Nat.le_refl _
theorem zt_len {y : Int} (h0 : -1 ≤ y) (h1 : y ≤ 200) : (zt y).data.toList.length ≤ 3 := by
  have h := (zz3_all ⟨(y + 1).toNat, by omega⟩).2.2
  have e : (zt y).data.toList = zz3 (y + 1).toNat := by unfold zt; rw [zz3_eq y h0 h1]
  rw [e]; exact h
/-- What readNumber answers of a text. -/
def RnIs (s : ByteArray) (x : Int) (b : Bool) : Prop := (b = true → zt x = s) ∧ ∀ y : Int, -1 ≤ y → y ≤ 200 → zt y = s → b = true ∧ x = y
theorem rn_long {s : ByteArray} (h : 18 < (Lib.trimPrefix s.data.toList [45]).length) : RnIs s 0 false := by
  refine ⟨fun h => (by cases h), fun y h0 h1 e => ?_⟩
  have h2 := trim_le s.data.toList [45]
  have h3 := zt_len h0 h1
  rw [e] at h3
  omega
theorem rn_err {s : ByteArray} (h : ∀ v, Lib.atoiAll s.data.toList ≠ .ok v) : RnIs s 0 false :=
  ⟨fun h => (by cases h), fun y h0 h1 e => absurd (by rw [← e]; exact atoi_zt h0 h1) (h y)⟩
theorem rn_ne {s : ByteArray} {v : Int} (h : Lib.atoiAll s.data.toList = .ok v) (hn : zt v ≠ s) : RnIs s 0 false := by
  refine ⟨fun h => (by cases h), fun y h0 h1 e => ?_⟩
  have h2 := atoi_zt h0 h1
  rw [e, h] at h2
  injection h2 with h2
  rw [h2] at hn
  exact absurd e hn
theorem rn_yes {s : ByteArray} {v : Int} (h : Lib.atoiAll s.data.toList = .ok v) (hn : zt v = s) : RnIs s v true := by
  refine ⟨fun _ => hn, fun y h0 h1 e => ⟨rfl, ?_⟩⟩
  have h2 := atoi_zt h0 h1
  rw [e, h] at h2
  injection h2
def RnPost (s : ByteArray) (w : World) (e : Ending) (w' : World) : Prop := ∃ (x : Int) (b : Bool), e = .returned (.tuple #[.int .i64 x, .bool b]) ∧ RnIs s x b ∧ Below w.heap.size w w'
theorem ne_text {a b : ByteArray} (h : a ≠ b) : (a.toList == b.toList) = false := by
  rw [beq_eq_false_iff_ne, ByteArray.toList_eq, ByteArray.toList_eq]; exact fun e => h (ba_eq e)
set_option maxHeartbeats 4000000 in
set_option maxRecDepth 100000 in
theorem irn (s : ByteArray) (HS : Hid (s.size ≤ 65536)) (w : World) (ht : TokW w) : Calls Tryz.prog 33 #[.string s] w (RnPost s w) := by
  have HT := hide ht
  clear ht
  obtain ⟨d, hd⟩ : ∃ d : ByteArray, d = ⟨(Lib.trimPrefix s.data.toList [45]).toArray⟩ := ⟨_, rfl⟩
  have hdl : d.size = (Lib.trimPrefix s.data.toList [45]).length := by rw [hd]; show (Lib.trimPrefix s.data.toList [45]).toArray.size = _; simp
  have HD := hide hd
  have HDL := hide hdl
  clear hd hdl
  by_cases h18 : 18 < d.size
  · have h18' : (18 : Int) < (d.size : Int) := by omega
    have HR := hide (rn_long (s := s) (by rw [← unhide HDL]; exact h18))
    clear h18
    go_enter Tryz.func33, Tryz.ntmps33
    go_wp2_with fail
    refine (Tryz.strings_TrimPrefix s ⟨#[45]⟩ _).mono ?_
    rintro e w1 ⟨rfl, hw⟩
    subst w1
    rw [show (⟨(Lib.trimPrefix s.data.toList (⟨#[45]⟩ : ByteArray).data.toList).toArray⟩ : ByteArray) = d from (unhide HD).symm]
    go_wp2_with fail
    go_ret2
    exact ⟨_, _, rfl, unhide HR, Below.refl _ _⟩
  have h18' : ¬ (18 : Int) < (d.size : Int) := by omega
  clear h18
  have hcases : (∃ v, Lib.atoiAll s.data.toList = .ok v) ∨ Lib.atoiAll s.data.toList = .«syntax» ∨ Lib.atoiAll s.data.toList = .range := by
    cases Lib.atoiAll s.data.toList with
    | ok v => exact .inl ⟨v, rfl⟩
    | «syntax» => exact .inr (.inl rfl)
    | range => exact .inr (.inr rfl)
  rcases hcases with ⟨v, hv⟩ | hv | hv
  · have HV := hide hv
    have HBD := hide (Lib.atoiAll_bounds hv)
    by_cases he : zt v = s
    · have HR := hide (rn_yes hv he)
      have ne : (s.toList != s.toList) = false := by simp
      have HE := hide he
      clear he hv
      go_enter Tryz.func33, Tryz.ntmps33
      go_wp2_with fail
      refine (Tryz.strings_TrimPrefix s ⟨#[45]⟩ _).mono ?_
      rintro e w1 ⟨rfl, hw⟩
      subst w1
      rw [show (⟨(Lib.trimPrefix s.data.toList (⟨#[45]⟩ : ByteArray).data.toList).toArray⟩ : ByteArray) = d from (unhide HD).symm]
      go_wp2_with fail
      refine (Tryz.strconv_Atoi_ok s (by have := unhide HS; omega) v (unhide HV) _).mono ?_
      rintro e w2 ⟨rfl, hw⟩
      have B2 : Hid (Below w.heap.size w w2) := by
        rcases hw with rfl | ⟨q, rfl⟩
        · exact Below.refl _ _
        · exact Go.Lib.bytesWorld_below _ _ _
      clear hw
      go_wp2_with fail
      refine Calls.mono (Tryz.strconv_Itoa v (unhide HBD).1 (unhide HBD).2 _ ((unhide HT).below (unhide B2)).pw) ?_
      rintro e w3 ⟨rfl, k, os, hw3⟩
      have B3 : Hid (Below w.heap.size w w3) := by rw [hw3]; exact (unhide B2).trans (Go.Lib.below_grow w.heap.size w2 (unhide B2).size k os)
      clear hw3
      rw [show (⟨(Lib.itoa v).toArray⟩ : ByteArray) = s from unhide HE]
      go_wp2_with fail
      go_ret2
      exact ⟨_, _, rfl, unhide HR, unhide B3⟩
    · have HR := hide (rn_ne hv he)
      obtain ⟨z, hz⟩ : ∃ z, z = zt v := ⟨_, rfl⟩
      have ne : (z.toList == s.toList) = false := ne_text (by rw [hz]; exact he)
      have HE := hide hz
      clear he hv hz
      go_enter Tryz.func33, Tryz.ntmps33
      go_wp2_with fail
      refine (Tryz.strings_TrimPrefix s ⟨#[45]⟩ _).mono ?_
      rintro e w1 ⟨rfl, hw⟩
      subst w1
      rw [show (⟨(Lib.trimPrefix s.data.toList (⟨#[45]⟩ : ByteArray).data.toList).toArray⟩ : ByteArray) = d from (unhide HD).symm]
      go_wp2_with fail
      refine (Tryz.strconv_Atoi_ok s (by have := unhide HS; omega) v (unhide HV) _).mono ?_
      rintro e w2 ⟨rfl, hw⟩
      have B2 : Hid (Below w.heap.size w w2) := by
        rcases hw with rfl | ⟨q, rfl⟩
        · exact Below.refl _ _
        · exact Go.Lib.bytesWorld_below _ _ _
      clear hw
      go_wp2_with fail
      refine Calls.mono (Tryz.strconv_Itoa v (unhide HBD).1 (unhide HBD).2 _ ((unhide HT).below (unhide B2)).pw) ?_
      rintro e w3 ⟨rfl, k, os, hw3⟩
      have B3 : Hid (Below w.heap.size w w3) := by rw [hw3]; exact (unhide B2).trans (Go.Lib.below_grow w.heap.size w2 (unhide B2).size k os)
      clear hw3
      rw [show (⟨(Lib.itoa v).toArray⟩ : ByteArray) = z from (unhide HE).symm]
      go_wp2_with fail
      go_ret2
      exact ⟨_, _, rfl, unhide HR, unhide B3⟩
  · have HV := hide hv
    have HR := hide (rn_err (s := s) (by intro v; rw [hv]; intro h; cases h))
    clear hv
    go_enter Tryz.func33, Tryz.ntmps33
    go_wp2_with fail
    refine (Tryz.strings_TrimPrefix s ⟨#[45]⟩ _).mono ?_
    rintro e w1 ⟨rfl, hw⟩
    subst w1
    rw [show (⟨(Lib.trimPrefix s.data.toList (⟨#[45]⟩ : ByteArray).data.toList).toArray⟩ : ByteArray) = d from (unhide HD).symm]
    go_wp2_with fail
    obtain ⟨te, pe, hev⟩ := (unhide HT).es
    refine (Tryz.strconv_Atoi_syntax s (by have := unhide HS; omega) (unhide HV) _ _ hev (.inr ⟨te, pe, rfl⟩)).mono ?_
    rintro e w2 ⟨N, rfl, -, -, hb2⟩
    have B2 := hide hb2
    clear hb2 hev
    go_wp2_with fail
    go_ret2
    exact ⟨_, _, rfl, unhide HR, unhide B2⟩
  · have HV := hide hv
    have HR := hide (rn_err (s := s) (by intro v; rw [hv]; intro h; cases h))
    clear hv
    go_enter Tryz.func33, Tryz.ntmps33
    go_wp2_with fail
    refine (Tryz.strings_TrimPrefix s ⟨#[45]⟩ _).mono ?_
    rintro e w1 ⟨rfl, hw⟩
    subst w1
    rw [show (⟨(Lib.trimPrefix s.data.toList (⟨#[45]⟩ : ByteArray).data.toList).toArray⟩ : ByteArray) = d from (unhide HD).symm]
    go_wp2_with fail
    obtain ⟨te, pe, hev⟩ := (unhide HT).er
    refine (Tryz.strconv_Atoi_range s (by have := unhide HS; omega) (unhide HV) _ _ hev (.inr ⟨te, pe, rfl⟩)).mono ?_
    rintro e w2 ⟨N, rfl, -, -, hb2⟩
    have B2 := hide hb2
    clear hb2 hev
    go_wp2_with fail
    go_ret2
    exact ⟨_, _, rfl, unhide HR, unhide B2⟩
end Go.Proofs.YtofkdkglohllpaaGreatDoor

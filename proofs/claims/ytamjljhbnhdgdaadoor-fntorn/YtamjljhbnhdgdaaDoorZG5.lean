/- Texts put together: SplitI ReadFI ApM. -/
import Derived.Test.YtamjljhbnhdgdaaDoorZG4
import Derived.Test.YtamjljhbnhdgdaaDoorZG2
import Derived.Test.YtamjljhbnhdgdaaDoorZG3
/- impl.splitFields: the fields of a row of bytes. -/
namespace Go.Proofs.YtamjljhbnhdgdaaDoor
open Go.ChangeShapes Go.WideShapes Go.ChangeAt Go.RowKit
/-- The first k fields and what stands behind them. -/
def fldN (l : List UInt8) : Nat → Option (List ByteArray × List UInt8)
 | 0 => some ([], l)
 | k + 1 => (fldN l k).bind fun p => (fld p.2).bind fun q => some (p.1 ++ [⟨q.1.toArray⟩], q.2)
theorem fldN_len (l : List UInt8) : ∀ k m r, fldN l k = some (m, r) → m.length = k ∧ r.length ≤ l.length
 | 0, m, r, h => by simp only [fldN, Option.some.injEq, Prod.mk.injEq] at h; obtain ⟨rfl, rfl⟩ := h; simp
 | k + 1, m, r, h => by
  simp only [fldN] at h
  cases hk : fldN l k with
  | none => rw [hk] at h; simp at h
  | some p =>
   obtain ⟨m', r'⟩ := p
   have ih := fldN_len l k m' r' hk
   rw [hk, Option.bind_some] at h
   cases hf : fld r' with
   | none => simp only [hf] at h; simp at h
   | some q =>
    obtain ⟨x, y⟩ := q
    simp only [hf, Option.bind_some, Option.some.injEq, Prod.mk.injEq] at h
    obtain ⟨rfl, rfl⟩ := h
    obtain ⟨h2, hy, hle, ex, er⟩ := fld_some hf
    refine ⟨by simp [ih.1], ?_⟩
    rw [er, List.length_drop, List.length_drop]; omega
theorem fldN_none (l : List UInt8) (k : Nat) (h : fldN l k = none) : ∀ j, fldN l (k + j) = none
 | 0 => h
 | j + 1 => by rw [← Nat.add_assoc]; simp only [fldN]; rw [fldN_none l k h j]; rfl
theorem nil_ownS (w : World) (base : Nat) (t : TypeId) : w.ownsRow base t 1 (.slice none 0 0) ([] : List ByteArray).length (cS []) := World.ownsRow_nil w base t 1
theorem own_appS {w : World} {base : Nat} {e : TypeId} {v : Value} {l m : List ByteArray} {n : Nat} (h : w.ownsRow base e 1 v (l.length + n) (cS l ++ cS m)) (hn : m.length = n) : w.ownsRow base e 1 v (l ++ m).length (cS (l ++ m)) := by
 rw [cS_app, List.length_append, hn]; exact h
theorem row8_low {w w' : World} {B b o : Nat} {l : List UInt8} (h : Row8 w (some ⟨b, o, none⟩) l) (hB : b < B) (hb : Below B w w') : Row8 w' (some ⟨b, o, none⟩) l := by
 rcases h with h | ⟨b', off, e, hlt, hc⟩
 ·exact .inl h
 ·simp only [Option.some.injEq, Addr.mk.injEq, and_true] at e
  obtain ⟨rfl, rfl⟩ := e
  exact .inr ⟨b, o, rfl, Nat.lt_of_lt_of_le hlt hb.size, fun i hi => (hb.cell (p := ⟨b, o + i, none⟩) hB).trans (hc i hi)⟩
/-- What splitFields answers of n fields in l. -/
def SplitR (l : List UInt8) (n : Nat) (w : World) (e : Ending) (w' : World) : Prop :=
 ((∃ m v, fldN l n = some (m, []) ∧ e = .returned (.tuple #[v, .nilIface]) ∧ w'.ownsRow w.heap.size 9 1 v m.length (cS m))
  ∨ ((∀ m, fldN l n ≠ some (m, [])) ∧ ∃ u y, e = .returned (.tuple #[.slice none 0 0, .iface 107 (.agg #[.int .i64 3, .iface u y])]))) ∧ Below w.heap.size w w'
set_option maxHeartbeats 400000 in
set_option maxRecDepth 100000 in
theorem isplitGo (b off cap len n : Nat) (l : List UInt8) (el : l.length = len) (hc : len ≤ cap) (h1 : 1 ≤ len) (hl : len ≤ 65536) (en : n = ofBE (l.take 1)) (h60 : n ≤ 60) (w : World) (hE : ErrsIn w) (hr : Row8 w (some ⟨b, off, none⟩) l) :
  Calls Tryd.prog 63 #[.slice (some ⟨b, off, none⟩) len cap] w fun e w' => SplitR (l.drop 1) n w e w' := by
 obtain ⟨i0, hi, hz0, hz1, hz2⟩ := info_parts Tryd.infL9
 have HTL : Hid ((l.take 1).length = 1) := by show _ = _; rw [List.length_take]; omega
 have HDL : Hid ((l.drop 1).length = len - 1) := by show _ = _; rw [List.length_drop, el]
 have HLow : Hid (b < w.heap.size) := by
  obtain ⟨b', off', e, hlt, _⟩ := hr.at (by omega)
  simp only [Option.some.injEq, Addr.mk.injEq, and_true] at e
  show _ < _; rw [e.1]; exact hlt
 have T1 := itake b off cap 1 l len el h1 hc w hr
 change Calls _ _ #[_, .int .i64 1] _ _ at T1
 obtain ⟨q0, eq0⟩ : ∃ q0, q0 = l.drop 1 := ⟨_, rfl⟩
 have hq1 : len - 1 ≤ cap - 1 := by omega
 have hq2 : len - 1 ≤ 65536 := by omega
 rw [← eq0] at T1 HDL ⊢
 clear eq0 hc h1 hl el
 have HEY := hide en
 have HE := hide hE
 have n1 : ¬ (60 : Int) < (n : Int) := by omega
 clear en hr hE
 go_enter Tryd.func63, Tryd.ntmps63
 go_wp2_with (first | (have hq := HT; go_at_call 62; have h3 := inumber (some ⟨b, off, none⟩) cap (l.take 1) (by rw [unhide HTL]; decide) _ (unhide HT); rw [unhide HTL, ← unhide HEY] at h3; refine h3.mono ?_; clear h3; rintro e w2 ⟨rfl, hw⟩; subst w2) | (go_at_call 61; refine T1.mono ?_; clear T1; rintro e w1 ⟨o2, rfl, ht, hd, hb⟩; have HT := hide ht; have HR2 := hide hd; have HB := hide hb; have HE1 := hide ((unhide HE).below hb); clear ht hd hb))
 go_loopw [5, 7, 30] (fun r v i wr => ∃ (k o q cq : Nat) (m : List ByteArray) (rr : List UInt8), k ≤ n ∧ i = .int .i64 k ∧ r = .slice (some ⟨b, o, none⟩) q cq ∧ q ≤ cq ∧ q ≤ 65536 ∧ m.length ≤ k ∧ Hid (fldN q0 k = some (m, rr)) ∧ Hid (rr.length = q) ∧ Hid (Row8 wr (some ⟨b, o, none⟩) rr) ∧ Hid (wr.ownsRow w.heap.size 9 1 v m.length (cS m)) ∧ Hid (Below w.heap.size w wr)) (fun _ _ i _ => n - (intOf i).toNat)
 case atStart => exact ⟨0, o2, len - 1, cap - 1, [], q0, by omega, rfl, rfl, hq1, hq2, Nat.le_refl _, rfl, HDL, HR2, nil_ownS _ _ _, HB⟩
 case round =>
  obtain ⟨k, o, q, cq, m, rr, hk, rfl, rfl, hcq, hq3, hm, HF, HL, HRR, HO, HBr⟩ := hrel
  have HEr := hide ((unhide HE).below (unhide HBr))
  by_cases hlt : k < n
  ·have hj : (k : Int) < (n : Int) := by omega
   cases hf : fld rr with
   | none =>
    have HN : Hid (∀ m, fldN q0 n ≠ some (m, [])) := by
     have h0 : fldN q0 (k + 1) = none := by simp only [fldN]; rw [unhide HF]; simp [hf]
     have h1 := fldN_none q0 (k + 1) h0 (n - (k + 1))
     rw [show k + 1 + (n - (k + 1)) = n by omega] at h1
     show ∀ m, _ ≠ _
     intro m h; rw [h1] at h; cases h
    have T2 := itakefieldNo b o cq q rr (unhide HL) hcq hf wr (unhide HEr) (unhide HRR)
    clear hf HEr HRR HO HE1 HE HT HR2
    go_wp2_with (go_at_call 69; refine T2.mono ?_; clear T2; rintro e w3 ⟨⟨u, y, rfl⟩, hb3⟩; have HB3 := hide ((unhide HBr).trans (hb3.mono (unhide HBr).size)); clear hb3)
    go_ret2
    exact ⟨.inr ⟨unhide HN, _, _, rfl⟩, unhide HB3⟩
   | some p =>
    obtain ⟨x, r2⟩ := p
    have HN : Hid (fldN q0 (k + 1) = some (m ++ [⟨x.toArray⟩], r2)) := by show _ = _; simp only [fldN]; rw [unhide HF]; simp [hf]
    have T2 := itakefieldOk b o cq q rr x r2 (unhide HL) hcq hf wr (unhide HRR)
    obtain ⟨f2, fy, fle, fx, fr⟩ := fld_some hf
    rw [unhide HL] at f2 fle
    have xq : x.length ≤ 65536 := by rw [fx, List.length_take]; omega
    have rq : r2.length ≤ q := by rw [fr, List.length_drop, List.length_drop, unhide HL]; omega
    have xr : r2.length ≤ cq - 2 - x.length := by rw [fr, fx, List.length_drop, List.length_drop, List.length_take, List.length_drop, unhide HL]; omega
    obtain ⟨xl, exl⟩ : ∃ xl, xl = x.length := ⟨_, rfl⟩
    obtain ⟨rl, erl⟩ : ∃ rl, rl = r2.length := ⟨_, rfl⟩
    obtain ⟨c1, ec1⟩ : ∃ c1, c1 = cq - 2 := ⟨_, rfl⟩
    obtain ⟨c2, ec2⟩ : ∃ c2, c2 = cq - 2 - x.length := ⟨_, rfl⟩
    rw [← ec2, ← exl, ← erl, ← ec1] at T2
    rw [← ec2, ← erl] at xr
    rw [← erl] at rq
    have HRL : Hid (r2.length = rl) := erl.symm
    have HXL := hide exl
    clear hf HEr HRR HE1 HE HT HR2 f2 fy fle fx fr xq exl erl ec1 ec2
    go_wp2_with (first | (at_builtin; (refine wpList_append_lies _ rfl (.tmp 41) (.tmp 44) 27 rfl w.heap.size 9 i0 (.string ⟨#[]⟩) 1 16 Tryd.underlying27 hi hz0 hz1 hz2 rfl (by decide) _ _ _ rfl ((unhide HO3).alloc _) ⟨w3.heap.size, 0, none⟩ 1 1 (cS [⟨x.toArray⟩]) rfl rfl (by exact news_new w3 (cS [⟨x.toArray⟩]) 9) (cS_one _) (by decide) (by unfold maxLen; omega) (by omega) (by simp; omega) _ rfl ?_; intro g2 d2 w2 hown2 hgrow2 hat2 hlt2; have HB2 := hide (below_app (unhide HB3) (unhide HB3).size (unhide HO3) (Nat.le_refl _) hgrow2); have HR4 : Hid (Row8 w2 (some ⟨b, o4, none⟩) r2) := row8_low (unhide HR3) (unhide HLow) (below_app (Below.refl _ _) (unhide HB3).size (unhide HO3) (Nat.le_refl _) hgrow2); have HO2 := hide (own_appS (l := m) (m := [⟨x.toArray⟩]) hown2 rfl); clear hown2 hgrow2 hat2 hlt2)) | (go_at_call 69; refine T2.mono ?_; clear T2; rintro e w3 ⟨o3, o4, rfl, hx, hr3, hb3⟩; have HB3 := hide ((unhide HBr).trans (hb3.mono (unhide HBr).size)); have hcv := conv_row8 (P := Tryd.prog) (src := 22) (dst := 9) (e := 5) (cap := c1) Tryd.underlying22 Tryd.underlying5 Tryd.underlying9 hx; rw [← unhide HXL] at hcv; have HR3 := hide hr3; have HO3 := hide ((held_of (unhide HO)).below hb3 (Nat.le_refl _)).own; have hz := (unhide HB3).size; clear hx hr3 hb3))
    go_roundw
    case rel => exact ⟨k + 1, o4, rl, c2, m ++ [⟨x.toArray⟩], r2, by omega, by go_num, rfl, xr, Nat.le_trans rq hq3, by rw [List.length_append]; exact Nat.add_le_add_right hm 1, HN, HRL, HR4, HO2, HB2⟩
    case measure => simp [intOf]; omega
  ·have ek : k = n := by omega
   subst ek
   have hj : ¬ (k : Int) < (k : Int) := by omega
   clear hlt
   by_cases hq4 : q = 0
   ·subst hq4
    have HN : Hid (fldN q0 k = some (m, [])) := by
     have h0 : rr = [] := List.eq_nil_of_length_eq_zero (unhide HL)
     show _ = _; rw [unhide HF, h0]
    go_wp2_with fail
    go_ret2
    exact ⟨.inl ⟨m, _, unhide HN, rfl, unhide HO⟩, unhide HBr⟩
   ·have HN : Hid (∀ m, fldN q0 k ≠ some (m, [])) := by
     show ∀ m, _ ≠ _
     intro m2 h; rw [unhide HF] at h
     simp only [Option.some.injEq, Prod.mk.injEq] at h
     have := unhide HL; rw [h.2] at this; simp at this; omega
    have hq5 : (0 : Int) < (q : Int) := by omega
    obtain ⟨u3, y3, c3⟩ := (unhide HEr).behind
    go_wp2_with fail
    go_region_held3 (fun w' => w'.cell? ⟨9, 0, none⟩ = some (.iface u3 y3)) (go_keep) (fail)
    go_wp2_with fail
    go_ret2
    exact ⟨.inr ⟨unhide HN, _, _, rfl⟩, (unhide HBr).drew⟩
end Go.Proofs.YtamjljhbnhdgdaaDoor

/- impl.ReadFields: what the program answers at every row of bytes. -/
namespace Go.Proofs.YtamjljhbnhdgdaaDoor
open Go.ChangeShapes Go.WideShapes Go.ChangeAt Go.RowKit
/-- The fields that bytes hold, if they hold fields. -/
def rfOf (l : List UInt8) : Option (List ByteArray) :=
 if l.length < 1 then none else if 60 < ofBE (l.take 1) then none else (fldN (l.drop 1) (ofBE (l.take 1))).bind fun p => if p.2 = [] then some p.1 else none
def rfL (l : List UInt8) : List ByteArray := if 65536 < l.length then [] else (rfOf l).getD []
def rfC (l : List UInt8) : Int := if 65536 < l.length then 2 else if (rfOf l).isSome then 0 else 3
/-- splitFields of too few bytes or too many fields. -/
theorem isplitShort (a : Option Addr) (cap : Nat) (w : World) (hE : ErrsIn w) :
  Calls Tryd.prog 63 #[.slice a 0 cap] w fun e w' => (∃ u y, e = .returned (.tuple #[.slice none 0 0, .iface 107 (.agg #[.int .i64 3, .iface u y])])) ∧ Below w.heap.size w w' := by
 obtain ⟨u1, y1, c1⟩ := hE.cut
 have T1 := itakeNo a 0 cap 1 (by decide) u1 y1 w c1
 change Calls _ _ #[_, .int .i64 1] _ _ at T1
 clear hE
 go_enter Tryd.func63, Tryd.ntmps63
 go_wp2_with (go_at_call 61; refine T1.mono ?_; clear T1; rintro e w1 ⟨rfl, hb⟩)
 go_ret2
 exact ⟨⟨_, _, rfl⟩, hb⟩
set_option maxHeartbeats 400000 in
set_option maxRecDepth 100000 in
theorem isplitMany (b off cap len n : Nat) (l : List UInt8) (el : l.length = len) (hc : len ≤ cap) (h1 : 1 ≤ len) (en : n = ofBE (l.take 1)) (h60 : 60 < n) (w : World) (hE : ErrsIn w) (hr : Row8 w (some ⟨b, off, none⟩) l) :
  Calls Tryd.prog 63 #[.slice (some ⟨b, off, none⟩) len cap] w fun e w' => (∃ u y, e = .returned (.tuple #[.slice none 0 0, .iface 107 (.agg #[.int .i64 3, .iface u y])])) ∧ Below w.heap.size w w' := by
 have HTL : Hid ((l.take 1).length = 1) := by show _ = _; rw [List.length_take]; omega
 have T1 := itake b off cap 1 l len el h1 hc w hr
 change Calls _ _ #[_, .int .i64 1] _ _ at T1
 have HEY := hide en
 have HE := hide hE
 have n1 : (60 : Int) < (n : Int) := by omega
 clear en hr hE
 go_enter Tryd.func63, Tryd.ntmps63
 go_wp2_with (first | (have hq := HT; go_at_call 62; have h3 := inumber (some ⟨b, off, none⟩) cap (l.take 1) (by rw [unhide HTL]; decide) _ (unhide HT); rw [unhide HTL, ← unhide HEY] at h3; refine h3.mono ?_; clear h3; rintro e w2 ⟨rfl, hw⟩; subst w2; obtain ⟨u2, y2, c2⟩ := (unhide HE1).bounds; clear HE1) | (go_at_call 61; refine T1.mono ?_; clear T1; rintro e w1 ⟨o2, rfl, ht, hd, hb⟩; have HT := hide ht; have HB := hide hb; have HE1 := hide ((unhide HE).below hb); clear ht hd hb))
 go_region_held3 (fun w' => w'.cell? ⟨7, 0, none⟩ = some (.iface u2 y2)) (go_keep) (fail)
 go_wp2
 go_ret2
 exact ⟨⟨_, _, rfl⟩, (unhide HB).drew⟩
/-- splitFields at every row of at most MaxText bytes. -/
theorem isplit (a : Option Addr) (cap len : Nat) (l : List UInt8) (el : l.length = len) (hc : len ≤ cap) (hl : len ≤ 65536) (w : World) (hE : ErrsIn w) (hr : Row8 w a l) :
  Calls Tryd.prog 63 #[.slice a len cap] w fun e w' => (match rfOf l with
   | some m => ∃ v, e = .returned (.tuple #[v, .nilIface]) ∧ w'.ownsRow w.heap.size 9 1 v m.length (cS m)
   | none => ∃ u y, e = .returned (.tuple #[.slice none 0 0, .iface 107 (.agg #[.int .i64 3, .iface u y])])) ∧ Below w.heap.size w w' := by
 by_cases h1 : len < 1
 ·have h0 : len = 0 := by omega
  have hn : rfOf l = none := by unfold rfOf; rw [el, if_pos h1]
  subst h0
  rw [hn]
  exact isplitShort a cap w hE
 obtain ⟨b, off, rfl, _⟩ := hr.at (by omega)
 by_cases h60 : 60 < ofBE (l.take 1)
 ·have hn : rfOf l = none := by unfold rfOf; rw [el, if_neg h1, if_pos h60]
  rw [hn]
  exact isplitMany b off cap len _ l el hc (by omega) rfl h60 w hE hr
 ·refine (isplitGo b off cap len _ l el hc (by omega) hl rfl (by omega) w hE hr).mono ?_
  rintro e w' ⟨h, hb⟩
  refine ⟨?_, hb⟩
  have hR : rfOf l = (fldN (l.drop 1) (ofBE (l.take 1))).bind fun p => if p.2 = [] then some p.1 else none := by unfold rfOf; rw [el, if_neg h1, if_neg h60]
  rcases h with ⟨m, v, h2, rfl, ho⟩ | ⟨h2, u, y, rfl⟩
  ·have : rfOf l = some m := by rw [hR, h2]; rfl
   rw [this]; exact ⟨v, rfl, ho⟩
  ·have : rfOf l = none := by
    rw [hR]
    cases hk : fldN (l.drop 1) (ofBE (l.take 1)) with
    | none => rfl
    | some p =>
     obtain ⟨m, r⟩ := p
     by_cases hr0 : r = []
     ·subst hr0; exact absurd hk (h2 m)
     ·simp [hr0]
   rw [this]; exact ⟨u, y, rfl⟩
end Go.Proofs.YtamjljhbnhdgdaaDoor

/- What a record makes of a state. Plain mathematics. -/
namespace Go.Proofs.YtamjljhbnhdgdaaDoor
open Go.ChangeShapes Go.WideShapes Go.ChangeAt Go.RowKit
/-- The parts of a record: its letter, its numbers, what is behind them. -/
def recP (t : ByteArray) : Option (ByteArray × List Int × List ByteArray) :=
 match rfOf t.data.toList with
 | some (f0 :: f1 :: r) => if rnC f1.data.toList = 0 then some (f0, rnL f1.data.toList, r) else none
 | _ => none
/-- What its parts make of a state, right or not. -/
def apK (tm vt : Int) (l : List Ent) (f : ByteArray) : List Int → List ByteArray → Option (Int × Int × List Ent)
 | [x, y], [] => if f = ⟨#[116]⟩ then some (x, y, l) else none
 | [x], [] => if f = ⟨#[99]⟩ ∧ 0 ≤ x ∧ x ≤ (l.length : Int) - 1 then some (tm, vt, l.take x.toNat) else none
 | [x], [d] => if f = ⟨#[101]⟩ then some (tm, vt, l ++ [(x, d)]) else none
 | _, _ => none
def apR (tm vt : Int) (l : List Ent) (t : ByteArray) : Option (Int × Int × List Ent) :=
 match recP t with
 | some (f, ns, r) => apK tm vt l f ns r
 | none => none
/-- What it makes of a right state, if that is right and of no lower term. -/
def apF (tm vt : Int) (l : List Ent) (t : ByteArray) : Option (Int × Int × List Ent) :=
 match apR tm vt l t with
 | some (tm2, vt2, l2) => if stateB tm2 vt2 l2 = true ∧ tm ≤ tm2 then some (tm2, vt2, l2) else none
 | none => none
theorem recP_none {t : ByteArray} (h : rfOf t.data.toList = none) : recP t = none := by unfold recP; rw [h]
theorem recP_few {t : ByteArray} {m : List ByteArray} (h : rfOf t.data.toList = some m) (hm : m.length < 2) : recP t = none := by
 unfold recP; rw [h]
 match m, hm with
 | [], _ => rfl
 | [_], _ => rfl
theorem recP_num {t f0 f1 : ByteArray} {r : List ByteArray} (h : rfOf t.data.toList = some (f0 :: f1 :: r)) (hc : ¬ rnC f1.data.toList = 0) : recP t = none := by
 unfold recP; rw [h]; simp [hc]
theorem recP_some {t f0 f1 : ByteArray} {r : List ByteArray} (h : rfOf t.data.toList = some (f0 :: f1 :: r)) (hc : rnC f1.data.toList = 0) : recP t = some (f0, rnL f1.data.toList, r) := by
 unfold recP; rw [h]; simp [hc]
end Go.Proofs.YtamjljhbnhdgdaaDoor

/- Texts put together: ReadFI ApM ReadNumI. -/
import Derived.Test.YtkdplhhkkpkmoaaDoorZSplitI
import Derived.Test.YtkdplhhkkpkmoaaDoorZG2
import Derived.Test.YtkdplhhkkpkmoaaDoorZG4
import Derived.Test.YtkdplhhkkpkmoaaDoorZFldI
import Derived.Test.YtkdplhhkkpkmoaaDoorZG5
/- impl.ReadFields: what the program answers at every row of bytes. -/
namespace Go.Proofs.YtkdplhhkkpkmoaaDoor
open Go.ChangeShapes Go.WideShapes Go.ChangeAt Go.RowKit
/-- The fields that bytes hold, if they hold fields. -/
def rfOf (l : List UInt8) : Option (List ByteArray) :=
 if l.length < 1 then none else if 60 < ofBE (l.take 1) then none else (fldN (l.drop 1) (ofBE (l.take 1))).bind fun p => if p.2 = [] then some p.1 else none
def rfL (l : List UInt8) : List ByteArray := if 65536 < l.length then [] else (rfOf l).getD []
def rfC (l : List UInt8) : Int := if 65536 < l.length then 2 else if (rfOf l).isSome then 0 else 3
/-- splitFields of too few bytes or too many fields. -/
theorem isplitShort (a : Option Addr) (cap : Nat) (w : World) (hE : ErrsIn w) :
  Calls Tryd.prog 50 #[.slice a 0 cap] w fun e w' => (∃ u y, e = .returned (.tuple #[.slice none 0 0, .iface 86 (.agg #[.int .i64 3, .iface u y])])) ∧ Below w.heap.size w w' := by
 obtain ⟨u1, y1, c1⟩ := hE.cut
 have T1 := itakeNo a 0 cap 1 (by decide) u1 y1 w c1
 change Calls _ _ #[_, .int .i64 1] _ _ at T1
 clear hE
 go_enter Tryd.func50, Tryd.ntmps50
 go_wp2_with (go_at_call 56; refine T1.mono ?_; clear T1; rintro e w1 ⟨rfl, hb⟩)
 go_ret2
 exact ⟨⟨_, _, rfl⟩, hb⟩
set_option maxHeartbeats 400000 in
set_option maxRecDepth 100000 in
theorem isplitMany (b off cap len n : Nat) (l : List UInt8) (el : l.length = len) (hc : len ≤ cap) (h1 : 1 ≤ len) (en : n = ofBE (l.take 1)) (h60 : 60 < n) (w : World) (hE : ErrsIn w) (hr : Row8 w (some ⟨b, off, none⟩) l) :
  Calls Tryd.prog 50 #[.slice (some ⟨b, off, none⟩) len cap] w fun e w' => (∃ u y, e = .returned (.tuple #[.slice none 0 0, .iface 86 (.agg #[.int .i64 3, .iface u y])])) ∧ Below w.heap.size w w' := by
 have HTL : Hid ((l.take 1).length = 1) := by show _ = _; rw [List.length_take]; omega
 have T1 := itake b off cap 1 l len el h1 hc w hr
 change Calls _ _ #[_, .int .i64 1] _ _ at T1
 have HEY := hide en
 have HE := hide hE
 have n1 : (60 : Int) < (n : Int) := by omega
 clear en hr hE
 go_enter Tryd.func50, Tryd.ntmps50
 go_wp2_with (first | (have hq := HT; go_at_call 57; have h3 := inumber (some ⟨b, off, none⟩) cap (l.take 1) (by rw [unhide HTL]; decide) _ (unhide HT); rw [unhide HTL, ← unhide HEY] at h3; refine h3.mono ?_; clear h3; rintro e w2 ⟨rfl, hw⟩; subst w2; obtain ⟨u2, y2, c2⟩ := (unhide HE1).bounds; clear HE1) | (go_at_call 56; refine T1.mono ?_; clear T1; rintro e w1 ⟨o2, rfl, ht, hd, hb⟩; have HT := hide ht; have HB := hide hb; have HE1 := hide ((unhide HE).below hb); clear ht hd hb))
 go_region_held3 (fun w' => w'.cell? ⟨6, 0, none⟩ = some (.iface u2 y2)) (go_keep) (fail)
 go_wp2
 go_ret2
 exact ⟨⟨_, _, rfl⟩, (unhide HB).drew⟩
/-- splitFields at every row of at most MaxText bytes. -/
theorem isplit (a : Option Addr) (cap len : Nat) (l : List UInt8) (el : l.length = len) (hc : len ≤ cap) (hl : len ≤ 65536) (w : World) (hE : ErrsIn w) (hr : Row8 w a l) :
  Calls Tryd.prog 50 #[.slice a len cap] w fun e w' => (match rfOf l with
   | some m => ∃ v, e = .returned (.tuple #[v, .nilIface]) ∧ w'.ownsRow w.heap.size 9 1 v m.length (cS m)
   | none => ∃ u y, e = .returned (.tuple #[.slice none 0 0, .iface 86 (.agg #[.int .i64 3, .iface u y])])) ∧ Below w.heap.size w w' := by
 by_cases h1 : len < 1
 ·have h0 : len = 0 := by omega
  have hn : rfOf l = none := by unfold rfOf; rw [el, if_pos h1]
  subst h0
  rw [hn]
  exact isplitShort a cap w hE
 obtain ⟨b, off, rfl, _⟩ := hr.at (by omega)
 by_cases h60 : 60 < ofBE (l.take 1)
 ·have hn : rfOf l = none := by unfold rfOf; rw [el, if_neg h1, if_pos h60]
  rw [hn]
  exact isplitMany b off cap len _ l el hc (by omega) rfl h60 w hE hr
 ·refine (isplitGo b off cap len _ l el hc (by omega) hl rfl (by omega) w hE hr).mono ?_
  rintro e w' ⟨h, hb⟩
  refine ⟨?_, hb⟩
  have hR : rfOf l = (fldN (l.drop 1) (ofBE (l.take 1))).bind fun p => if p.2 = [] then some p.1 else none := by unfold rfOf; rw [el, if_neg h1, if_neg h60]
  rcases h with ⟨m, v, h2, rfl, ho⟩ | ⟨h2, u, y, rfl⟩
  ·have : rfOf l = some m := by rw [hR, h2]; rfl
   rw [this]; exact ⟨v, rfl, ho⟩
  ·have : rfOf l = none := by
    rw [hR]
    cases hk : fldN (l.drop 1) (ofBE (l.take 1)) with
    | none => rfl
    | some p =>
     obtain ⟨m, r⟩ := p
     by_cases hr0 : r = []
     ·subst hr0; exact absurd hk (h2 m)
     ·simp [hr0]
   rw [this]; exact ⟨u, y, rfl⟩
end Go.Proofs.YtkdplhhkkpkmoaaDoor

/- What a record makes of a state. Plain mathematics. -/
namespace Go.Proofs.YtkdplhhkkpkmoaaDoor
open Go.ChangeShapes Go.WideShapes Go.ChangeAt Go.RowKit
/-- The parts of a record: its letter, its numbers, what is behind them. -/
def recP (t : ByteArray) : Option (ByteArray × List Int × List ByteArray) :=
 match rfOf t.data.toList with
 | some (f0 :: f1 :: r) => if rnC f1.data.toList = 0 then some (f0, rnL f1.data.toList, r) else none
 | _ => none
/-- What its parts make of a state, right or not. -/
def apK (tm vt : Int) (l : List Ent) (f : ByteArray) : List Int → List ByteArray → Option (Int × Int × List Ent)
 | [x, y], [] => if f = ⟨#[116]⟩ then some (x, y, l) else none
 | [x], [] => if f = ⟨#[99]⟩ ∧ 0 ≤ x ∧ x ≤ (l.length : Int) - 1 then some (tm, vt, l.take x.toNat) else none
 | [x], [d] => if f = ⟨#[101]⟩ then some (tm, vt, l ++ [(x, d)]) else none
 | _, _ => none
def apR (tm vt : Int) (l : List Ent) (t : ByteArray) : Option (Int × Int × List Ent) :=
 match recP t with
 | some (f, ns, r) => apK tm vt l f ns r
 | none => none
/-- What it makes of a right state, if that is right and of no lower term. -/
def apF (tm vt : Int) (l : List Ent) (t : ByteArray) : Option (Int × Int × List Ent) :=
 match apR tm vt l t with
 | some (tm2, vt2, l2) => if stateB tm2 vt2 l2 = true ∧ tm ≤ tm2 then some (tm2, vt2, l2) else none
 | none => none
theorem recP_some {t f0 f1 : ByteArray} {r : List ByteArray} (h : rfOf t.data.toList = some (f0 :: f1 :: r)) (hc : rnC f1.data.toList = 0) : recP t = some (f0, rnL f1.data.toList, r) := by
 unfold recP; rw [h]; simp [hc]
end Go.Proofs.YtkdplhhkkpkmoaaDoor

/- ReadNumbers: what the program answers at every row of bytes. -/
namespace Go.Proofs.YtkdplhhkkpkmoaaDoor
open Go.ChangeShapes Go.WideShapes Go.ChangeAt Go.RowKit
theorem Tryd.infR3 : (Tryd.prog.info? 3).map (fun i => (i.zero, i.size, i.bytes)) = some (some (.int .i64 0), 1, 8) := by kernel_rfl
set_option maxHeartbeats 400000 in
set_option maxRecDepth 100000 in
theorem ireadnums (a : Option Addr) (cap : Nat) (l : List UInt8) (hl : l.length ≤ 1048576) (hcap : l.length ≤ cap) (w : World) (hr : RowV w a (B8 l)) :
  Calls Tryd.prog 51 #[.slice a l.length cap] w fun e w' => ∃ v', e = .returned (.tuple #[v', .int .i64 (rnC l)]) ∧ w'.ownsRow w.heap.size 3 1 v' (rnL l).length (cI (rnL l)) ∧ Below w.heap.size w w' := by
 obtain ⟨i0, hi, hz0, hz1, hz2⟩ := info_parts Tryd.infR3
 have HR := hide (rowV_8 hr)
 clear hr
 by_cases long : 65536 < l.length
 ·have HV := hide (rn_long long)
  go_enter Tryd.func51, Tryd.ntmps51
  go_wp2_with fail
  go_ret2
  rw [(unhide HV).1, (unhide HV).2]
  exact ⟨_, rfl, nil_ownI _ _ _, Below.refl _ _⟩
 by_cases form : l.length % 3 = 0
 ·have t1 : ((l.length : Int) % 3 != 0) = false := by rw [bne_eq_false_iff_eq]; omega
  have t2 : ((l.length : Int).tmod 3 != 0) = false := by rw [Int.tmod_eq_emod_of_nonneg (by omega), bne_eq_false_iff_eq]; omega
  by_cases many : 4096 < l.length / 3
  ·have HV := hide (rn_many long form many)
   have t3 : 4096 < (l.length : Int) / 3 := by omega
   clear form
   go_enter Tryd.func51, Tryd.ntmps51
   go_wp2_with fail
   go_ret2
   rw [(unhide HV).1, (unhide HV).2]
   exact ⟨_, rfl, nil_ownI _ _ _, Below.refl _ _⟩
  ·have HV := hide (rn_ok long form many)
   obtain ⟨n, hn⟩ : ∃ n, n = l.length / 3 := ⟨_, rfl⟩
   have HN : Hid (l.length = 3 * n) := by show _ = _; omega
   have t3 : ¬ 4096 < (l.length : Int) / 3 := by omega
   have hn4 : n ≤ 4096 := by omega
   rw [← hn] at HV
   clear form hn many
   go_enter Tryd.func51, Tryd.ntmps51
   go_wp2_with fail
   go_loopw [4, 5] (fun v i wr => ∃ (k j : Nat) (m : List Int), k ≤ n ∧ Hid (j = 3 * k) ∧ i = .int .i64 j ∧ Hid (m = numsR l k) ∧ m.length ≤ 4096 ∧ Hid (wr.ownsRow w.heap.size 3 1 v m.length (cI m)) ∧ Hid (Below w.heap.size w wr)) (fun _ i _ => l.length - (intOf i).toNat)
   case atStart => exact ⟨0, 0, [], by omega, rfl, rfl, rfl, by simp, nil_ownI _ _ _, Below.refl _ _⟩
   case round =>
    obtain ⟨k, j, m, hk, HJ, rfl, HM, hm, HO, HB⟩ := hrel
    have ej := unhide HJ
    have en := unhide HN
    by_cases hlt : k < n
    ·obtain ⟨b, off, ha, hblt, hc⟩ := ((unhide HR).below (unhide HB)).at (by omega)
     subst ha
     have HP : Hid (Row8 wr (some ⟨b, off + j, none⟩) (chunk l k)) := by
      have := row8_part hblt hc j 3 (by omega); rw [ej] at this; rw [ej]; exact this
     have HPL : Hid ((chunk l k).length = 3) := part_len l (3 * k) 3 (by omega)
     have hj1 : (j : Int) < (l.length : Int) := by omega
     obtain ⟨b_, hbb⟩ : ∃ b_, b_ = j + 3 := ⟨_, rfl⟩
     have a4 : (j : Int) + 3 = (b_ : Int) := by omega
     have a5 : (0 : Int) ≤ (b_ : Int) := by omega
     have a6 : (b_ : Int) ≤ (cap : Int) := by omega
     have a7 : j ≤ b_ := by omega
     have a8 : b_ - j = 3 := by omega
     have a9 : (j : Int) ≤ 1048576 := by omega
     have a10 : ¬ cap = j := by omega
     have hm' : m.length ≤ k := by rw [unhide HM, numsR_len]; omega
     have HBB : Hid (b_ = 3 * (k + 1)) := by show _ = _; omega
     obtain ⟨y, hy⟩ : ∃ y : Nat, y = ofBE (chunk l k) := ⟨_, rfl⟩
     have hy2 : y < 16777216 := by have := ofBE_lt (chunk l k) 3; rw [List.take_of_length_le (by rw [unhide HPL]; exact Nat.le_refl _), ← hy] at this; exact this
     have HS : Hid (numsR l (k + 1) = m ++ [(y : Int) - 1]) := by show _ = _; rw [numsR_snoc, unhide HM, hy]
     have hy3 : (y : Int) ≤ 16777216 := by omega
     have HY := hide hy
     have hown := unhide HO
     have hz := (unhide HB).size
     clear hc ej en hbb HO hy hy2 HR hblt
     go_wp2_with (first | (go_at_call 57; have h3 := inumber (some ⟨b, off + j, none⟩) (cap - j) (chunk l k) (by rw [unhide HPL]; decide) wr (unhide HP); rw [unhide HPL, ← unhide HY] at h3; refine h3.mono ?_; clear h3; rintro e w2 ⟨rfl, hw⟩; subst w2) | (at_builtin; refine wpList_append_lies _ rfl (.tmp 23) (.tmp 31) 61 rfl w.heap.size 3 i0 (.int .i64 0) 1 8 Tryd.underlying61 hi hz0 hz1 hz2 rfl (by decide) _ _ _ rfl (hown.alloc _) ⟨wr.heap.size, 0, none⟩ 1 1 (cI [(y : Int) - 1]) rfl rfl (by exact news_new wr (cI [(y : Int) - 1]) 3) (cI_one _) (by decide) (by unfold maxLen; omega) (by omega) (by simp; omega) _ rfl ?_; intro g2 c2 w2 hown2 hgrow2 hat2 hlt2; have HB2 := hide (below_app (unhide HB) (by omega) hown (Nat.le_refl _) hgrow2); have HO2 := hide (own_appI (l := m) (m := [(y : Int) - 1]) hown2 rfl); clear hown2 hgrow2 hat2 hlt2 hown HB))
     go_roundw
     case rel => exact ⟨k + 1, b_, m ++ [(y : Int) - 1], by omega, unhide HBB, by go_num, (unhide HS).symm, by rw [List.length_append]; simp; omega, HO2, HB2⟩
     case measure => simp [intOf]; omega
    ·have ek : k = n := by omega
     have hj1 : ¬ (j : Int) < (l.length : Int) := by omega
     rw [ek] at HM
     clear ej en
     go_wp2_with fail
     go_ret2
     rw [(unhide HV).1, (unhide HV).2, ← unhide HM]
     exact ⟨_, rfl, unhide HO, unhide HB⟩
 ·have HV := hide (rn_form long form)
  have t1 : ((l.length : Int) % 3 != 0) = true := by rw [bne_iff_ne]; omega
  have t2 : ((l.length : Int).tmod 3 != 0) = true := by rw [Int.tmod_eq_emod_of_nonneg (by omega), bne_iff_ne]; omega
  clear form
  go_enter Tryd.func51, Tryd.ntmps51
  go_wp2_with fail
  go_ret2
  rw [(unhide HV).1, (unhide HV).2]
  exact ⟨_, rfl, nil_ownI _ _ _, Below.refl _ _⟩
theorem ireadnumsH (a : Option Addr) (cap : Nat) (l : List UInt8) (r : List Int) (c : Int) (hr : r = rnL l) (hc : c = rnC l) (hl : l.length ≤ 1048576) (hcap : l.length ≤ cap) (w : World) (hrow : RowV w a (B8 l)) :
  Calls Tryd.prog 51 #[.slice a l.length cap] w fun e w' => ∃ v', e = .returned (.tuple #[v', .int .i64 c]) ∧ w'.ownsRow w.heap.size 3 1 v' r.length (cI r) ∧ Below w.heap.size w w' := by
 subst hr hc; exact ireadnums a cap l hl hcap w hrow
end Go.Proofs.YtkdplhhkkpkmoaaDoor

/- Texts put together: ReadFI ApM. -/
import Derived.Test.YtialpepklejejaaDoorZSplitI
import Derived.Test.YtialpepklejejaaDoorZG3
import Derived.Test.YtialpepklejejaaDoorZG7
/- impl.ReadFields: what the program answers at every row of bytes. -/
namespace Go.Proofs.YtialpepklejejaaDoor
open Go.ChangeShapes Go.WideShapes Go.ChangeAt Go.RowKit
/-- The fields that bytes hold, if they hold fields. -/
def rfOf (l : List UInt8) : Option (List ByteArray) :=
  if l.length < 1 then none else if 60 < ofBE (l.take 1) then none else (fldN (l.drop 1) (ofBE (l.take 1))).bind fun p => if p.2 = [] then some p.1 else none
def rfL (l : List UInt8) : List ByteArray := if 65536 < l.length then [] else (rfOf l).getD []
def rfC (l : List UInt8) : Int := if 65536 < l.length then 2 else if (rfOf l).isSome then 0 else 3
/-- splitFields of too few bytes or too many fields. -/
theorem isplitShort (a : Option Addr) (cap : Nat) (w : World) (hE : ErrsIn w) :
    Calls Tryd.prog 54 #[.slice a 0 cap] w fun e w' => (∃ u y, e = .returned (.tuple #[.slice none 0 0, .iface 81 (.agg #[.int .i64 3, .iface u y])])) ∧ Below w.heap.size w w' := by
  obtain ⟨u1, y1, c1⟩ := hE.cut
  have T1 := itakeNo a 0 cap 1 (by decide) u1 y1 w c1
  change Calls _ _ #[_, .int .i64 1] _ _ at T1
  clear hE
  go_enter Tryd.func54, Tryd.ntmps54
  go_wp2_with (go_at_call 47; refine T1.mono ?_; clear T1; rintro e w1 ⟨rfl, hb⟩)
  go_ret2
  exact ⟨⟨_, _, rfl⟩, hb⟩
set_option maxHeartbeats 400000 in
set_option maxRecDepth 100000 in
theorem isplitMany (b off cap len n : Nat) (l : List UInt8) (el : l.length = len) (hc : len ≤ cap) (h1 : 1 ≤ len) (en : n = ofBE (l.take 1)) (h60 : 60 < n) (w : World) (hE : ErrsIn w) (hr : Row8 w (some ⟨b, off, none⟩) l) :
    Calls Tryd.prog 54 #[.slice (some ⟨b, off, none⟩) len cap] w fun e w' => (∃ u y, e = .returned (.tuple #[.slice none 0 0, .iface 81 (.agg #[.int .i64 3, .iface u y])])) ∧ Below w.heap.size w w' := by
  have HTL : Hid ((l.take 1).length = 1) := by show _ = _; rw [List.length_take]; omega
  have T1 := itake b off cap 1 l len el h1 hc w hr
  change Calls _ _ #[_, .int .i64 1] _ _ at T1
  have HEY := hide en
  have HE := hide hE
  have n1 : (60 : Int) < (n : Int) := by omega
  clear en hr hE
  go_enter Tryd.func54, Tryd.ntmps54
  go_wp2_with (first | (have hq := HT; go_at_call 48; have h3 := inumber (some ⟨b, off, none⟩) cap (l.take 1) (by rw [unhide HTL]; decide) _ (unhide HT); rw [unhide HTL, ← unhide HEY] at h3; refine h3.mono ?_; clear h3; rintro e w2 ⟨rfl, hw⟩; subst w2; obtain ⟨u2, y2, c2⟩ := (unhide HE1).bounds; clear HE1) | (go_at_call 47; refine T1.mono ?_; clear T1; rintro e w1 ⟨o2, rfl, ht, hd, hb⟩; have HT := hide ht; have HB := hide hb; have HE1 := hide ((unhide HE).below hb); clear ht hd hb))
  go_region_held3 (fun w' => w'.cell? ⟨6, 0, none⟩ = some (.iface u2 y2)) (go_keep) (fail)
  go_wp2
  go_ret2
  exact ⟨⟨_, _, rfl⟩, (unhide HB).drew⟩
/-- splitFields at every row of at most MaxText bytes. -/
theorem isplit (a : Option Addr) (cap len : Nat) (l : List UInt8) (el : l.length = len) (hc : len ≤ cap) (hl : len ≤ 65536) (w : World) (hE : ErrsIn w) (hr : Row8 w a l) :
    Calls Tryd.prog 54 #[.slice a len cap] w fun e w' => (match rfOf l with
      | some m => ∃ v, e = .returned (.tuple #[v, .nilIface]) ∧ w'.ownsRow w.heap.size 9 1 v m.length (cS m)
      | none => ∃ u y, e = .returned (.tuple #[.slice none 0 0, .iface 81 (.agg #[.int .i64 3, .iface u y])])) ∧ Below w.heap.size w w' := by
  by_cases h1 : len < 1
  · have h0 : len = 0 := by omega
    have hn : rfOf l = none := by unfold rfOf; rw [el, if_pos h1]
    subst h0
    rw [hn]
    exact isplitShort a cap w hE
  obtain ⟨b, off, rfl, _⟩ := hr.at (by omega)
  by_cases h60 : 60 < ofBE (l.take 1)
  · have hn : rfOf l = none := by unfold rfOf; rw [el, if_neg h1, if_pos h60]
    rw [hn]
    exact isplitMany b off cap len _ l el hc (by omega) rfl h60 w hE hr
  · refine (isplitGo b off cap len _ l el hc (by omega) hl rfl (by omega) w hE hr).mono ?_
    rintro e w' ⟨h, hb⟩
    refine ⟨?_, hb⟩
    have hR : rfOf l = (fldN (l.drop 1) (ofBE (l.take 1))).bind fun p => if p.2 = [] then some p.1 else none := by unfold rfOf; rw [el, if_neg h1, if_neg h60]
    rcases h with ⟨m, v, h2, rfl, ho⟩ | ⟨h2, u, y, rfl⟩
    · have : rfOf l = some m := by rw [hR, h2]; rfl
      rw [this]; exact ⟨v, rfl, ho⟩
    · have : rfOf l = none := by
        rw [hR]
        cases hk : fldN (l.drop 1) (ofBE (l.take 1)) with
        | none => rfl
        | some p =>
          obtain ⟨m, r⟩ := p
          by_cases hr0 : r = []
          · subst hr0; exact absurd hk (h2 m)
          · simp [hr0]
      rw [this]; exact ⟨u, y, rfl⟩
end Go.Proofs.YtialpepklejejaaDoor

/- What a record makes of a state. Plain mathematics. -/
namespace Go.Proofs.YtialpepklejejaaDoor
open Go.ChangeShapes Go.WideShapes Go.ChangeAt Go.RowKit
/-- The parts of a record: its letter, its numbers, what is behind them. -/
def recP (t : ByteArray) : Option (ByteArray × List Int × List ByteArray) :=
  match rfOf t.data.toList with
  | some (f0 :: f1 :: r) => if rnC f1.data.toList = 0 then some (f0, rnL f1.data.toList, r) else none
  | _ => none
/-- What its parts make of a state, right or not. -/
def apK (tm vt : Int) (l : List Ent) (f : ByteArray) : List Int → List ByteArray → Option (Int × Int × List Ent)
  | [x, y], [] => if f = ⟨#[116]⟩ then some (x, y, l) else none
  | [x], [] => if f = ⟨#[99]⟩ ∧ 0 ≤ x ∧ x ≤ (l.length : Int) - 1 then some (tm, vt, l.take x.toNat) else none
  | [x], [d] => if f = ⟨#[101]⟩ then some (tm, vt, l ++ [(x, d)]) else none
  | _, _ => none
def apR (tm vt : Int) (l : List Ent) (t : ByteArray) : Option (Int × Int × List Ent) :=
  match recP t with
  | some (f, ns, r) => apK tm vt l f ns r
  | none => none
/-- What it makes of a right state, if that is right and of no lower term. -/
def apF (tm vt : Int) (l : List Ent) (t : ByteArray) : Option (Int × Int × List Ent) :=
  match apR tm vt l t with
  | some (tm2, vt2, l2) => if stateB tm2 vt2 l2 = true ∧ tm ≤ tm2 then some (tm2, vt2, l2) else none
  | none => none
theorem recP_none {t : ByteArray} (h : rfOf t.data.toList = none) : recP t = none := by unfold recP; rw [h]
theorem recP_few {t : ByteArray} {m : List ByteArray} (h : rfOf t.data.toList = some m) (hm : m.length < 2) : recP t = none := by
  unfold recP; rw [h]
  match m, hm with
  | [], _ => rfl
  | [_], _ => rfl
theorem recP_num {t f0 f1 : ByteArray} {r : List ByteArray} (h : rfOf t.data.toList = some (f0 :: f1 :: r)) (hc : ¬ rnC f1.data.toList = 0) : recP t = none := by
  unfold recP; rw [h]; simp [hc]
theorem recP_some {t f0 f1 : ByteArray} {r : List ByteArray} (h : rfOf t.data.toList = some (f0 :: f1 :: r)) (hc : rnC f1.data.toList = 0) : recP t = some (f0, rnL f1.data.toList, r) := by
  unfold recP; rw [h]; simp [hc]
end Go.Proofs.YtialpepklejejaaDoor

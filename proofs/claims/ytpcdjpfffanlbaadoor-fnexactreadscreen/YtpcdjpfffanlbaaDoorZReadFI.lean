/- impl.ReadFields: what the program answers at every row of bytes. -/
import Derived.Test.YtpcdjpfffanlbaaDoorZSplitI
namespace Go.Proofs.YtpcdjpfffanlbaaDoor
open Go.ChangeShapes Go.WideShapes Go.ChangeAt Go.RowKit
/-- The fields that bytes hold, if they hold fields. -/
def rfOf (l : List UInt8) : Option (List ByteArray) :=
 if l.length < 1 then none else if 60 < ofBE (l.take 1) then none else (fldN (l.drop 1) (ofBE (l.take 1))).bind fun p => if p.2 = [] then some p.1 else none
def rfL (l : List UInt8) : List ByteArray := if 65536 < l.length then [] else (rfOf l).getD []
def rfC (l : List UInt8) : Int := if 65536 < l.length then 2 else if (rfOf l).isSome then 0 else 3
/-- splitFields of too few bytes or too many fields. -/
theorem isplitShort (a : Option Addr) (cap : Nat) (w : World) (hE : ErrsIn w) :
  Calls Tryd.prog 27 #[.slice a 0 cap] w fun e w' => (∃ u y, e = .returned (.tuple #[.slice none 0 0, .iface 72 (.agg #[.int .i64 3, .iface u y])])) ∧ Below w.heap.size w w' := by
 obtain ⟨u1, y1, c1⟩ := hE.cut
 have T1 := itakeNo a 0 cap 1 (by decide) u1 y1 w c1
 change Calls _ _ #[_, .int .i64 1] _ _ at T1
 clear hE
 go_enter Tryd.func27, Tryd.ntmps27
 go_wp2_with (go_at_call 42; refine T1.mono ?_; clear T1; rintro e w1 ⟨rfl, hb⟩)
 go_ret2
 exact ⟨⟨_, _, rfl⟩, hb⟩
set_option maxHeartbeats 400000 in
set_option maxRecDepth 100000 in
theorem isplitMany (b off cap len n : Nat) (l : List UInt8) (el : l.length = len) (hc : len ≤ cap) (h1 : 1 ≤ len) (en : n = ofBE (l.take 1)) (h60 : 60 < n) (w : World) (hE : ErrsIn w) (hr : Row8 w (some ⟨b, off, none⟩) l) :
  Calls Tryd.prog 27 #[.slice (some ⟨b, off, none⟩) len cap] w fun e w' => (∃ u y, e = .returned (.tuple #[.slice none 0 0, .iface 72 (.agg #[.int .i64 3, .iface u y])])) ∧ Below w.heap.size w w' := by
 have HTL : Hid ((l.take 1).length = 1) := by show _ = _; rw [List.length_take]; omega
 have T1 := itake b off cap 1 l len el h1 hc w hr
 change Calls _ _ #[_, .int .i64 1] _ _ at T1
 have HEY := hide en
 have HE := hide hE
 have n1 : (60 : Int) < (n : Int) := by omega
 clear en hr hE
 go_enter Tryd.func27, Tryd.ntmps27
 go_wp2_with (first | (have hq := HT; go_at_call 43; have h3 := inumber (some ⟨b, off, none⟩) cap (l.take 1) (by rw [unhide HTL]; decide) _ (unhide HT); rw [unhide HTL, ← unhide HEY] at h3; refine h3.mono ?_; clear h3; rintro e w2 ⟨rfl, hw⟩; subst w2; obtain ⟨u2, y2, c2⟩ := (unhide HE1).bounds; clear HE1) | (go_at_call 42; refine T1.mono ?_; clear T1; rintro e w1 ⟨o2, rfl, ht, hd, hb⟩; have HT := hide ht; have HB := hide hb; have HE1 := hide ((unhide HE).below hb); clear ht hd hb))
 go_region_held3 (fun w' => w'.cell? ⟨0, 0, none⟩ = some (.iface u2 y2)) (go_keep) (fail)
 go_wp2
 go_ret2
 exact ⟨⟨_, _, rfl⟩, (unhide HB).drew⟩
/-- splitFields at every row of at most MaxText bytes. -/
theorem isplit (a : Option Addr) (cap len : Nat) (l : List UInt8) (el : l.length = len) (hc : len ≤ cap) (hl : len ≤ 65536) (w : World) (hE : ErrsIn w) (hr : Row8 w a l) :
  Calls Tryd.prog 27 #[.slice a len cap] w fun e w' => (match rfOf l with
   | some m => ∃ v, e = .returned (.tuple #[v, .nilIface]) ∧ w'.ownsRow w.heap.size 9 1 v m.length (cS m)
   | none => ∃ u y, e = .returned (.tuple #[.slice none 0 0, .iface 72 (.agg #[.int .i64 3, .iface u y])])) ∧ Below w.heap.size w w' := by
 by_cases h1 : len < 1
 ·have h0 : len = 0 := by omega
  have hn : rfOf l = none := by unfold rfOf; rw [el, if_pos h1]
  subst h0
  rw [hn]
  exact isplitShort a cap w hE
 obtain ⟨b, off, rfl, _⟩ := hr.at (by omega)
 by_cases h60 : 60 < ofBE (l.take 1)
 ·have hn : rfOf l = none := by unfold rfOf; rw [el, if_neg h1, if_pos h60]
  rw [hn]
  exact isplitMany b off cap len _ l el hc (by omega) rfl h60 w hE hr
 ·refine (isplitGo b off cap len _ l el hc (by omega) hl rfl (by omega) w hE hr).mono ?_
  rintro e w' ⟨h, hb⟩
  refine ⟨?_, hb⟩
  have hR : rfOf l = (fldN (l.drop 1) (ofBE (l.take 1))).bind fun p => if p.2 = [] then some p.1 else none := by unfold rfOf; rw [el, if_neg h1, if_neg h60]
  rcases h with ⟨m, v, h2, rfl, ho⟩ | ⟨h2, u, y, rfl⟩
  ·have : rfOf l = some m := by rw [hR, h2]; rfl
   rw [this]; exact ⟨v, rfl, ho⟩
  ·have : rfOf l = none := by
    rw [hR]
    cases hk : fldN (l.drop 1) (ofBE (l.take 1)) with
    | none => rfl
    | some p =>
     obtain ⟨m, r⟩ := p
     by_cases hr0 : r = []
     ·subst hr0; exact absurd hk (h2 m)
     ·simp [hr0]
   rw [this]; exact ⟨u, y, rfl⟩
set_option maxHeartbeats 400000 in
set_option maxRecDepth 100000 in
/-- ReadFields: what the program answers at every row of bytes. -/
theorem ireadfields (a : Option Addr) (cap : Nat) (l : List UInt8) (hl : l.length ≤ 1048576) (hcap : l.length ≤ cap) (w : World) (hE : ErrsIn w) (hr : Row8 w a l) :
  Calls Tryd.prog 13 #[.slice a l.length cap] w fun e w' => ∃ v', e = .returned (.tuple #[v', .int .i64 (rfC l)]) ∧ w'.ownsRow w.heap.size 9 1 v' (rfL l).length (cS (rfL l)) ∧ Below w.heap.size w w' := by
 by_cases long : 65536 < l.length
 ·have e1 : rfC l = 2 := by unfold rfC; rw [if_pos long]
  have e2 : rfL l = [] := by unfold rfL; rw [if_pos long]
  rw [e1, e2]
  have h1 : (65536 : Int) < (l.length : Int) := by omega
  clear hr hE
  go_enter Tryd.func13, Tryd.ntmps13
  go_wp2_with fail
  go_ret2
  exact ⟨_, rfl, nil_ownS _ _ _, Below.refl _ _⟩
 obtain ⟨len, el⟩ : ∃ len, l.length = len := ⟨_, rfl⟩
 rw [el] at long hl hcap ⊢
 have h1 : ¬ (65536 : Int) < (len : Int) := by omega
 have T := isplit a cap len l el hcap (by omega) w hE hr
 cases h : rfOf l with
 | none =>
  have e1 : rfC l = 3 := by unfold rfC; rw [el, if_neg long, h]; rfl
  have e2 : rfL l = [] := by unfold rfL; rw [el, if_neg long, h]; rfl
  rw [h] at T
  rw [e1, e2]
  have HE := hide hE
  clear hr hE h e1 e2 el
  go_enter Tryd.func13, Tryd.ntmps13
  go_wp2_with (first | (have hq := HB; go_at_call 28; refine (ifcode 3 u y _ ((unhide HE).below (unhide HB)).type).mono ?_; rintro e w3 ⟨rfl, hb3⟩; have HB3 := hide ((unhide HB).trans (hb3.mono (unhide HB).size)); clear hb3) | (go_at_call 27; refine T.mono ?_; clear T; rintro e w1 ⟨⟨u, y, rfl⟩, hb⟩; have HB := hide hb; clear hb))
  go_ret2
  exact ⟨_, rfl, nil_ownS _ _ _, unhide HB3⟩
 | some m =>
  have e1 : rfC l = 0 := by unfold rfC; rw [el, if_neg long, h]; rfl
  have e2 : rfL l = m := by unfold rfL; rw [el, if_neg long, h]; rfl
  rw [h] at T
  rw [e1, e2]
  clear hr hE h e1 e2 el
  go_enter Tryd.func13, Tryd.ntmps13
  go_wp2_with (go_at_call 27; refine T.mono ?_; clear T; rintro e w1 ⟨⟨v, rfl, ho⟩, hb⟩; have HO := hide ho; have HB := hide hb; clear ho hb)
  go_ret2
  exact ⟨_, rfl, unhide HO, unhide HB⟩
end Go.Proofs.YtpcdjpfffanlbaaDoor

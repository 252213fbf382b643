/- FieldsBytes: what the program answers at every list of texts. -/
import Derived.Test.YtkdplhhkkpkmoaaDoorZG3
import Derived.Test.YtkdplhhkkpkmoaaDoorZG25
import Derived.Lib.AppendStr
namespace Go.Proofs.YtkdplhhkkpkmoaaDoor
open Go.ChangeShapes Go.WideShapes Go.ChangeAt Go.RowKit
theorem Tryd.infF5 : (Tryd.prog.info? 5).map (fun i => (i.zero, i.size, i.bytes)) = some (some (.int .u8 0), 1, 1) := by kernel_rfl
set_option maxHeartbeats 400000 in
set_option maxRecDepth 100000 in
theorem ifault (a : Option Addr) (cap : Nat) (l : List ByteArray) (hl : l.length ≤ 1048576) (hsz : ∀ k (h : k < l.length), l[k].size ≤ 1048576) (w : World) (hr : RowV w a (cS l)) :
  Calls Tryd.prog 42 #[.slice a l.length cap] w fun e w' => e = .returned (.int .i64 (ffC l)) ∧ w' = w := by
 have HR := hide hr
 have HZ := hide hsz
 have HCL := hide (cS_len l)
 clear hr hsz
 by_cases many : 60 < l.length
 ·have HV := hide (ff_many many)
  go_enter Tryd.func42, Tryd.ntmps42
  go_wp2_with fail
  go_ret
  exact ⟨ret_int (unhide HV).symm, rfl⟩
 ·have HMA := hide many
  go_enter Tryd.func42, Tryd.ntmps42
  go_wp2_with fail
  go_loop [3, 11] (fun s i => ∃ (k y : Nat), k ≤ l.length ∧ i = .int .i64 k ∧ s = .int .i64 (y : Int) ∧ y ≤ 1 + 20002 * k ∧ Hid (y = fsum (l.take k)) ∧ Hid (∀ q (h : q < l.length), q < k → l[q].size ≤ 20000)) (fun _ i => l.length - (intOf i).toNat)
  case atStart => exact ⟨0, 1, by omega, rfl, rfl, by omega, rfl, fun q _ h => absurd h (Nat.not_lt_zero _)⟩
  case round =>
   obtain ⟨k, y, hk, rfl, rfl, hy, HY, HF⟩ := hrel
   by_cases hlt : k < l.length
   ·obtain ⟨b, off, ha, hblt, hc⟩ := (unhide HR).at (by rw [unhide HCL]; omega)
    subst ha
    have hc1 : w.cell? ⟨b, off + k, none⟩ = some (.string l[k]) := hc k _ (cS_at l k hlt)
    have hlt' : (k : Int) < (l.length : Int) := by omega
    have hsk := unhide HZ k hlt
    by_cases hf : l[k].size ≤ 20000
    ·have HY2 : Hid (y + (2 + l[k].size) = fsum (l.take (k + 1))) := by show _ = _; rw [fsum_snoc l k hlt, unhide HY]
     have HF2 : Hid (∀ q (h : q < l.length), q < k + 1 → l[q].size ≤ 20000) := fun q h hq => by
      by_cases e : q = k
      ·subst e; exact hf
      ·exact unhide HF q h (by omega)
     clear hc HR HCL HF HZ
     go_wp2_with fail
     go_round
     case rel => exact ⟨k + 1, y + (2 + l[k].size), by omega, by go_num, by go_num, by omega, unhide HY2, HF2⟩
     case measure => simp [intOf]; omega
    ·have HV := hide (ff_range (unhide HMA) (fun h => hf (h k hlt)))
     clear hc
     go_wp2_with fail
     go_ret
     exact ⟨ret_int (unhide HV).symm, rfl⟩
   ·have HS := hide (show allShort l from fun q hq => unhide HF q hq (by omega))
    rw [List.take_of_length_le (by omega)] at HY
    by_cases full : 65536 < y
    ·have HV := hide (ff_full (unhide HMA) (unhide HS) (by rw [← unhide HY]; exact full))
     go_wp2_with fail
     go_ret
     exact ⟨ret_int (unhide HV).symm, rfl⟩
    ·have HV := hide (ff_ok (unhide HMA) (unhide HS) (by rw [← unhide HY]; exact full))
     go_wp2_with fail
     go_ret
     exact ⟨ret_int (unhide HV).symm, rfl⟩
theorem ff_cases (l : List ByteArray) : (¬ 60 < l.length ∧ allShort l ∧ ¬ 65536 < fsum l ∧ ffC l = 0) ∨ ((ffC l != 0) = true ∧ (¬ 4096 < l.length → fbL l = [] ∧ fbC l = ffC l)) := by
 by_cases a : 60 < l.length
 ·right; refine ⟨by rw [ff_many a]; rfl, fun h => ?_⟩; have := fb_many h a; exact ⟨this.1, by rw [this.2, ff_many a]⟩
 by_cases b : allShort l
 ·by_cases c : 65536 < fsum l
  ·right; refine ⟨by rw [ff_full a b c]; rfl, fun _ => ?_⟩; have := fb_full a b c; exact ⟨this.1, by rw [this.2, ff_full a b c]⟩
  ·left; exact ⟨a, b, c, ff_ok a b c⟩
 ·right; refine ⟨by rw [ff_range a b]; rfl, fun _ => ?_⟩; have := fb_range a b; exact ⟨this.1, by rw [this.2, ff_range a b]⟩
set_option maxHeartbeats 400000 in
set_option maxRecDepth 100000 in
theorem ifields (a : Option Addr) (cap : Nat) (l : List ByteArray) (hl : l.length ≤ 1048576) (hsz : ∀ k (h : k < l.length), l[k].size ≤ 1048576) (w : World) (hr : RowV w a (cS l)) :
  Calls Tryd.prog 29 #[.slice a l.length cap] w fun e w' => ∃ v', e = .returned (.tuple #[v', .int .i64 (fbC l)]) ∧ w'.ownsRow w.heap.size 5 1 v' (fbL l).length (B8 (fbL l)) ∧ Below w.heap.size w w' := by
 obtain ⟨i0, hi, hz0, hz1, hz2⟩ := info_parts Tryd.infF5
 have HR := hide hr
 have HZ := hide hsz
 have HCL := hide (cS_len l)
 clear hr hsz
 by_cases long : 4096 < l.length
 ·have HV := hide (fb_long long)
  go_enter Tryd.func29, Tryd.ntmps29
  go_wp2_with fail
  go_ret2
  rw [(unhide HV).1, (unhide HV).2]
  exact ⟨_, rfl, nil_own8 _ _ _, Below.refl _ _⟩
 rcases ff_cases l with ⟨h60, hshort, hfull, hz⟩ | ⟨hz, hfb⟩
 ·have HV := hide (fb_ok h60 hshort hfull)
  have HS := hide hshort
  have HFU := hide hfull
  clear hshort hfull
  go_enter Tryd.func29, Tryd.ntmps29
  go_wp2_with (first | (go_at_call 42; refine (ifault _ _ l hl (unhide HZ) _ (unhide HR)).mono ?_; rintro e w2 ⟨rfl, hw⟩; subst w2; rw [hz]) | (go_at_call 43; refine (iappend w.heap.size _ [] l.length 1 (by omega) (by decide) (by simp) _ (nil_own8 _ _ _) (Nat.le_refl _)).mono ?_; rintro e w3 ⟨v3, rfl, ho3, hb3⟩; rw [List.nil_append] at ho3))
  have HO3 := hide ho3
  have HB3 := hide hb3
  clear ho3 hb3
  go_loopw [5, 21] (fun v i wr => ∃ (k : Nat) (m : List UInt8), k ≤ l.length ∧ i = .int .i64 k ∧ Hid (m = be l.length 1 ++ fieldsL (l.take k)) ∧ m.length ≤ 65536 ∧ Hid (wr.ownsRow w.heap.size 5 1 v m.length (B8 m)) ∧ Hid (Below w.heap.size w wr)) (fun _ i _ => l.length - (intOf i).toNat)
  case atStart => exact ⟨0, be l.length 1, by omega, rfl, by show _ = _; simp [fieldsL], by rw [be_len]; decide, HO3, HB3⟩
  case round =>
   clear HO3 HB3
   obtain ⟨k, m, hk, rfl, HM, hm, HO, HB⟩ := hrel
   by_cases hlt : k < l.length
   ·obtain ⟨b, off, ha, hblt, hc⟩ := (unhide HR).at (by rw [unhide HCL]; omega)
    subst ha
    have hc1 : wr.cell? ⟨b, off + k, none⟩ = some (.string l[k]) := ((unhide HB).cell (p := ⟨b, off + k, none⟩) hblt).trans (hc k _ (cS_at l k hlt))
    have hlt' : (k : Int) < (l.length : Int) := by omega
    have hsk := unhide HS k hlt
    have HM2 : Hid (m ++ be l[k].size 2 ++ l[k].data.toList = be l.length 1 ++ fieldsL (l.take (k + 1))) := by show _ = _; rw [fieldsL_snoc l k hlt, unhide HM]; simp [fieldB]
    have HLE : Hid ((m ++ be l[k].size 2 ++ l[k].data.toList).length ≤ 65536) := by
     show _ ≤ _
     have h1 := fsum_mono l (k + 1)
     have h2 := unhide HFU
     rw [unhide HM2, List.length_append, be_len]; unfold fsum at h1 h2; omega
    have HSZ := hide (unhide HB).size
    clear hc HR HCL HM HZ HS HFU
    go_wp2_with (first | (go_at_call 43; refine (iappend w.heap.size _ m l[k].size 2 (by omega) (by decide) (by omega) _ (unhide HO) (unhide HSZ)).mono ?_; rintro e w3 ⟨v3, rfl, ho3, hb3⟩; have hb4 := (unhide HB).trans hb3; have hz4 := hb4.size) | (refine Go.Lib.wpList_append_own_string _ rfl (.tmp 28) (.tmp 29) 22 9 rfl w.heap.size 5 i0 Tryd.underlying22 Tryd.underlying9 hi hz0 hz1 hz2 _ _ _ rfl ho3 l[k] rfl (by rw [List.length_append, be_len]; unfold maxLen; omega) (by rw [List.length_append, be_len]; omega) hz4 ?_; intro v5 w5 ho5 hg5 _; have HB5 := hide (hb4.grown hg5 hz4 (fun j hj => (ho3.lt j hj).1)); have HO5 : Hid (w5.ownsRow w.heap.size 5 1 v5 (m ++ be l[k].size 2 ++ l[k].data.toList).length (B8 (m ++ be l[k].size 2 ++ l[k].data.toList))) := own_app ho5 (by rw [Array.length_toList]; rfl); clear ho3 hb3 hb4 ho5 hg5))
    go_roundw
    case rel => exact ⟨k + 1, m ++ be l[k].size 2 ++ l[k].data.toList, by omega, by go_num, unhide HM2, unhide HLE, HO5, HB5⟩
    case measure => simp [intOf]; omega
   ·rw [List.take_of_length_le (by omega)] at HM
    go_wp2_with fail
    go_ret2
    rw [(unhide HV).1, (unhide HV).2, ← unhide HM]
    exact ⟨_, rfl, unhide HO, unhide HB⟩
 ·have HV := hide (hfb long)
  obtain ⟨c, hc⟩ : ∃ c, c = ffC l := ⟨_, rfl⟩
  rw [← hc] at hz HV
  have HC := hide hc
  clear hfb hc
  go_enter Tryd.func29, Tryd.ntmps29
  go_wp2_with (go_at_call 42; refine (ifault _ _ l hl (unhide HZ) _ (unhide HR)).mono ?_; rintro e w2 ⟨rfl, hw⟩; subst w2; rw [← unhide HC])
  go_ret2
  rw [(unhide HV).1, (unhide HV).2]
  exact ⟨_, rfl, nil_own8 _ _ _, Below.refl _ _⟩
theorem ifieldsH (a : Option Addr) (cap : Nat) (l : List ByteArray) (r : List UInt8) (c : Int) (hr : r = fbL l) (hc : c = fbC l) (hl : l.length ≤ 1048576) (hsz : ∀ k (h : k < l.length), l[k].size ≤ 1048576) (w : World) (hrow : RowV w a (cS l)) :
  Calls Tryd.prog 29 #[.slice a l.length cap] w fun e w' => ∃ v', e = .returned (.tuple #[v', .int .i64 c]) ∧ w'.ownsRow w.heap.size 5 1 v' r.length (B8 r) ∧ Below w.heap.size w w' := by
 subst hr hc; exact ifields a cap l hl hsz w hrow
end Go.Proofs.YtkdplhhkkpkmoaaDoor

/- takeFrame and splitFrames: what the program answers, with the named error behind each fault. -/
import Derived.Test.YtamjljhbnhdgdaaDoorZG33
import Derived.Test.YtamjljhbnhdgdaaDoorZG7
namespace Go.Proofs.YtamjljhbnhdgdaaDoor
open Go.RowKit Go.Extern.Stop Go.Stop Go.Extern Go.ChangeShapes Go.WideShapes Go.ChangeAt
set_option linter.unusedVariables false
/-- What the listed variables hold that reading frames asks for, each by its address. -/
structure ErrsX (w : World) (xc xb xs : Addr) : Prop where
 type : w.cell? ⟨6, 0, none⟩ = some (.iface 96 (.agg #[.pointer (some ⟨10, 51, none⟩)]))
 cut : w.cell? ⟨5, 0, none⟩ = some (.iface 145 (.pointer (some xc)))
 bounds : w.cell? ⟨7, 0, none⟩ = some (.iface 145 (.pointer (some xb)))
 sum : w.cell? ⟨8, 0, none⟩ = some (.iface 145 (.pointer (some xs)))
 bc : ∃ c t, w.heap[xc.block]? = some (.cells c t (0, 0))
 bb : ∃ c t, w.heap[xb.block]? = some (.cells c t (0, 0))
 bs : ∃ c t, w.heap[xs.block]? = some (.cells c t (0, 0))
theorem ErrsX.below {w w' : World} {xc xb xs : Addr} (h : ErrsX w xc xb xs) (hb : Below w.heap.size w w') : ErrsX w' xc xb xs :=
 ⟨cell_later hb h.type, cell_later hb h.cut, cell_later hb h.bounds, cell_later hb h.sum, blk_old hb h.bc, blk_old hb h.bb, blk_old hb h.bs⟩
theorem ErrsX.R {w : World} {xc xb xs : Addr} (h : ErrsX w xc xb xs) : ErrsR w := ⟨h.type, ⟨_, _, h.cut⟩, ⟨_, _, h.bounds⟩, ⟨_, _, h.sum⟩⟩
set_option maxHeartbeats 2000000 in
set_option maxRecDepth 100000 in
theorem itxA (a : Option Addr) (cap len : Nat) (h7 : len < 7) (w : World) {xc xb xs : Addr} (hE : ErrsX w xc xb xs) :
  Calls Tryd.prog 51 #[.slice a len cap] w fun e w' => (e = .returned (.tuple #[.slice none 0 0, .slice none 0 0, .iface 107 (.agg #[.int .i64 14, .iface 145 (.pointer (some xc))])])) ∧ Below w.heap.size w w' := by
 have c1 := hE.cut
 have T1 := itakeNo a len cap 7 h7 145 (.pointer (some xc)) w c1
 change Calls _ _ #[_, .int .i64 7] _ _ at T1
 clear hE
 go_enter Tryd.func51, Tryd.ntmps51
 go_wp2_with (go_at_call 61; refine T1.mono ?_; clear T1; rintro e w1 ⟨rfl, hb⟩)
 go_ret3
 exact ⟨rfl, hb⟩
set_option maxHeartbeats 2000000 in
set_option maxRecDepth 100000 in
theorem itxB (b off cap len y : Nat) (l : List UInt8) (el : l.length = len) (hc : len ≤ cap) (h7 : 7 ≤ len) (ey : y = ofBE (l.take 3)) (hbad : y < 1 ∨ 65536 < y) (w : World) {xc xb xs : Addr} (hE : ErrsX w xc xb xs) (hr : Row8 w (some ⟨b, off, none⟩) l) :
  Calls Tryd.prog 51 #[.slice (some ⟨b, off, none⟩) len cap] w fun e w' => (e = .returned (.tuple #[.slice none 0 0, .slice none 0 0, .iface 107 (.agg #[.int .i64 8, .iface 145 (.pointer (some xb))])])) ∧ Below w.heap.size w w' := by
 have HTL : Hid ((l.take 3).length = 3) := by show _ = _; rw [List.length_take]; omega
 have HDL : Hid ((l.drop 7).length = len - 7) := by show _ = _; rw [List.length_drop, el]
 have T1 := itake b off cap 7 l len el h7 hc w hr
 change Calls _ _ #[_, .int .i64 7] _ _ at T1
 have HEY : Hid (y = ofBE (l.take 3)) := ey
 have HE := hide hE
 obtain ⟨m, em⟩ : ∃ m, m = len - 7 := ⟨_, rfl⟩
 obtain ⟨cp, ecp⟩ : ∃ cp, cp = cap - 7 := ⟨_, rfl⟩
 have cap7 : 7 ≤ cap := by omega
 have cap7' : (7 : Int) ≤ (cap : Int) := by omega
 rw [← em, ← ecp] at T1
 clear ey hr em ecp hE
 by_cases q1 : y < 1
 ·have n1 : (y : Int) < 1 := by omega
  clear hbad
  go_enter Tryd.func51, Tryd.ntmps51
  go_wp2_with (first | (have hq := HT3; go_at_call 62; have h3 := inumber (some ⟨b, off, none⟩) cap (l.take 3) (by rw [unhide HTL]; decide) _ (unhide HT3); rw [unhide HTL, ← unhide HEY] at h3; refine h3.mono ?_; clear h3; rintro e w2 ⟨rfl, hw⟩; subst w2; have c2 := (unhide HE1).bounds; clear HE1 HT3) | (go_at_call 61; refine T1.mono ?_; clear T1; rintro e w1 ⟨o2, rfl, ht, hd, hb⟩; have HT7 := hide ht; have HT3 := hide (show Row8 w1 (some ⟨b, off, none⟩) (l.take 3) from (by have := row8_take ht 3; rwa [List.take_take] at this)); have HR2 := hide hd; have HB := hide hb; have HE1 := hide ((unhide HE).below hb); clear ht hd hb))
  go_region_held3 (fun w' => w'.cell? ⟨7, 0, none⟩ = some (.iface 145 (.pointer (some xb)))) (go_keep) (fail)
  go_wp2
  go_ret3
  exact ⟨rfl, (unhide HB).drew⟩
 ·have n1 : ¬ (y : Int) < 1 := by omega
  have n2 : (65536 : Int) < (y : Int) := by omega
  clear hbad
  go_enter Tryd.func51, Tryd.ntmps51
  go_wp2_with (first | (have hq := HT3; go_at_call 62; have h3 := inumber (some ⟨b, off, none⟩) cap (l.take 3) (by rw [unhide HTL]; decide) _ (unhide HT3); rw [unhide HTL, ← unhide HEY] at h3; refine h3.mono ?_; clear h3; rintro e w2 ⟨rfl, hw⟩; subst w2; have c2 := (unhide HE1).bounds; clear HE1 HT3) | (go_at_call 61; refine T1.mono ?_; clear T1; rintro e w1 ⟨o2, rfl, ht, hd, hb⟩; have HT7 := hide ht; have HT3 := hide (show Row8 w1 (some ⟨b, off, none⟩) (l.take 3) from (by have := row8_take ht 3; rwa [List.take_take] at this)); have HR2 := hide hd; have HB := hide hb; have HE1 := hide ((unhide HE).below hb); clear ht hd hb))
  go_region_held3 (fun w' => w'.cell? ⟨7, 0, none⟩ = some (.iface 145 (.pointer (some xb)))) (go_keep) (fail)
  go_wp2
  go_ret3
  exact ⟨rfl, (unhide HB).drew⟩
set_option maxHeartbeats 2000000 in
set_option maxRecDepth 100000 in
theorem itxD (b off cap len y : Nat) (l : List UInt8) (el : l.length = len) (hc : len ≤ cap) (h7 : 7 ≤ len) (ey : y = ofBE (l.take 3)) (n1' : ¬ y < 1) (n2' : ¬ 65536 < y) (hcut : len - 7 < y) (w : World) {xc xb xs : Addr} (hE : ErrsX w xc xb xs) (hr : Row8 w (some ⟨b, off, none⟩) l) :
  Calls Tryd.prog 51 #[.slice (some ⟨b, off, none⟩) len cap] w fun e w' => (e = .returned (.tuple #[.slice none 0 0, .slice none 0 0, .iface 107 (.agg #[.int .i64 14, .iface 145 (.pointer (some xc))])])) ∧ Below w.heap.size w w' := by
 have HTL : Hid ((l.take 3).length = 3) := by show _ = _; rw [List.length_take]; omega
 have HDL : Hid ((l.drop 7).length = len - 7) := by show _ = _; rw [List.length_drop, el]
 have T1 := itake b off cap 7 l len el h7 hc w hr
 change Calls _ _ #[_, .int .i64 7] _ _ at T1
 have HEY : Hid (y = ofBE (l.take 3)) := ey
 have HE := hide hE
 obtain ⟨m, em⟩ : ∃ m, m = len - 7 := ⟨_, rfl⟩
 obtain ⟨cp, ecp⟩ : ∃ cp, cp = cap - 7 := ⟨_, rfl⟩
 have cap7 : 7 ≤ cap := by omega
 have cap7' : (7 : Int) ≤ (cap : Int) := by omega
 have n1 : ¬ (y : Int) < 1 := by omega
 have n2 : ¬ (65536 : Int) < (y : Int) := by omega
 rw [← em] at hcut
 rw [← em, ← ecp] at T1
 clear ey hr em ecp hE
 go_enter Tryd.func51, Tryd.ntmps51
 go_wp2_with (first | (have hq := HNO; go_at_call 61; have c1 := (unhide HE1).cut; refine (itakeNo (some ⟨b, o2, none⟩) m cp y hcut 145 (.pointer (some xc)) _ c1).mono ?_; rintro e w3 ⟨rfl, hb3⟩; have HB3 := hide ((unhide HB).trans (hb3.mono (unhide HB).size)); clear hb3 HR2 c1 HNO) | (have hq := HT3; go_at_call 62; have h3 := inumber (some ⟨b, off, none⟩) cap (l.take 3) (by rw [unhide HTL]; decide) _ (unhide HT3); rw [unhide HTL, ← unhide HEY] at h3; refine h3.mono ?_; clear h3; rintro e w2 ⟨rfl, hw⟩; subst w2; have HNO := hide trivial; clear HT3) | (go_at_call 61; refine T1.mono ?_; clear T1; rintro e w1 ⟨o2, rfl, ht, hd, hb⟩; have HT7 := hide ht; have HT3 := hide (show Row8 w1 (some ⟨b, off, none⟩) (l.take 3) from (by have := row8_take ht 3; rwa [List.take_take] at this)); have HR2 := hide hd; have HB := hide hb; have HE1 := hide ((unhide HE).below hb); clear ht hd hb))
 go_ret3
 exact ⟨rfl, unhide HB3⟩
set_option maxHeartbeats 2000000 in
set_option maxRecDepth 100000 in
theorem itxE (b off cap len y : Nat) (l : List UInt8) (el : l.length = len) (hc : len ≤ cap) (h7 : 7 ≤ len) (ey : y = ofBE (l.take 3)) (n1' : ¬ y < 1) (n2' : ¬ 65536 < y) (hl : len ≤ 65536) (hfit0 : ¬ len - 7 < y) (hne : ¬ chk (l.take 3 ++ (l.drop 7).take y) = ((ofBE ((l.drop 3).take 4) : Nat) : Int)) (w : World) {xc xb xs : Addr} (hE : ErrsX w xc xb xs) (hr : Row8 w (some ⟨b, off, none⟩) l) :
  Calls Tryd.prog 51 #[.slice (some ⟨b, off, none⟩) len cap] w fun e w' => (e = .returned (.tuple #[.slice none 0 0, .slice none 0 0, .iface 107 (.agg #[.int .i64 8, .iface 145 (.pointer (some xs))])])) ∧ Below w.heap.size w w' := by
 have HTL : Hid ((l.take 3).length = 3) := by show _ = _; rw [List.length_take]; omega
 have HDL : Hid ((l.drop 7).length = len - 7) := by show _ = _; rw [List.length_drop, el]
 have T1 := itake b off cap 7 l len el h7 hc w hr
 change Calls _ _ #[_, .int .i64 7] _ _ at T1
 have HEY : Hid (y = ofBE (l.take 3)) := ey
 have HE := hide hE
 obtain ⟨m, em⟩ : ∃ m, m = len - 7 := ⟨_, rfl⟩
 obtain ⟨cp, ecp⟩ : ∃ cp, cp = cap - 7 := ⟨_, rfl⟩
 have cap7 : 7 ≤ cap := by omega
 have cap7' : (7 : Int) ≤ (cap : Int) := by omega
 have n1 : ¬ (y : Int) < 1 := by omega
 have n2 : ¬ (65536 : Int) < (y : Int) := by omega
 have hfit : y ≤ m := by omega
 have hc2 : m ≤ cp := by omega
 have hsumle : 3 + y ≤ 65536 := by omega
 have HXL : Hid (((l.drop 7).take y).length = y) := by show _ = _; rw [List.length_take, List.length_drop]; omega
 have H4L : Hid (((l.drop 3).take 4).length = 4) := by show _ = _; rw [List.length_take, List.length_drop]; omega
 obtain ⟨S, hS⟩ : ∃ S, S = chk (l.take 3 ++ (l.drop 7).take y) := ⟨_, rfl⟩
 obtain ⟨S4, hS4⟩ : ∃ S4, S4 = ofBE ((l.drop 3).take 4) := ⟨_, rfl⟩
 have HS := hide hS
 have HS4 := hide hS4
 rw [← hS, ← hS4] at hne
 have hne2 : (S != (S4 : Int)) = true := bne_iff_ne.2 hne
 rw [← em, ← ecp] at T1
 rw [← em] at HDL
 clear ey hr em ecp hE hS hS4 hfit0 hne
 go_enter Tryd.func51, Tryd.ntmps51
 go_wp2_with (first | (have hq := HNO; go_at_call 61; refine (itake b o2 cp y (l.drop 7) m (unhide HDL) hfit hc2 _ (unhide HR2)).mono ?_; rintro e w3 ⟨o3, rfl, hx, hrr, hb3⟩; have HX := hide hx; have HRR := hide hrr; have HB3 := hide ((unhide HB).trans (hb3.mono (unhide HB).size)); have HY3 := hide ((unhide HT3).below hb3); have HY7 := hide ((unhide HT7).below hb3); have HE3 := hide ((unhide HE1).below hb3); clear hx hrr hb3 HR2 HNO HT3 HT7 HE1) | (have hq := HT3; go_at_call 62; have h3 := inumber (some ⟨b, off, none⟩) cap (l.take 3) (by rw [unhide HTL]; decide) _ (unhide HT3); rw [unhide HTL, ← unhide HEY] at h3; refine h3.mono ?_; clear h3; rintro e w2 ⟨rfl, hw⟩; subst w2; have HNO := hide trivial) | (go_at_call 61; refine T1.mono ?_; clear T1; rintro e w1 ⟨o2, rfl, ht, hd, hb⟩; have HT7 := hide ht; have HT3 := hide (show Row8 w1 (some ⟨b, off, none⟩) (l.take 3) from (by have := row8_take ht 3; rwa [List.take_take] at this)); have HR2 := hide hd; have HB := hide hb; have HE1 := hide ((unhide HE).below hb); clear ht hd hb))
 go_region_held3 (fun _ => True) (trivial) (first | (have hq := HK; go_at_call 62; have h4 := inumber (some ⟨b, off + 3, none⟩) (cap - 3) ((l.drop 3).take 4) (by rw [unhide H4L]; decide) _ (unhide HK); rw [unhide H4L, ← unhide HS4] at h4; refine h4.mono ?_; clear h4; rintro e w5 ⟨rfl, hw⟩; subst w5) | (go_at_call 49; refine (iframesum (some ⟨b, off, none⟩) (some ⟨b, o2, none⟩) cap cp 3 y (l.take 3) ((l.drop 7).take y) (unhide HTL) (unhide HXL) (by decide) hsumle _ ((unhide HY3).below (Below.refl _ _).drew) ((unhide HX).below (Below.refl _ _).drew)).mono ?_; rintro e w4 ⟨rfl, hb4⟩; rw [← unhide HS]; have HB4 := hide ((unhide HB3).drew.trans (hb4.mono (unhide HB3).drew.size)); have HK := hide (show Row8 w4 (some ⟨b, off + 3, none⟩) ((l.drop 3).take 4) from (by have := row8_drop (((unhide HY7).below (Below.refl _ _).drew).below hb4) 3; rwa [List.drop_take] at this)); have HR4 := hide (((unhide HRR).below (Below.refl _ _).drew).below hb4); have HD4 := hide (((unhide HX).below (Below.refl _ _).drew).below hb4); have HE4 := hide ((unhide HE3).below (below_undrew hb4)); clear hb4))
 all_goals
  have c2 := (unhide HE4).sum
  clear HE4
  go_wp2_with fail
  go_region_held3 (fun w' => w'.cell? ⟨8, 0, none⟩ = some (.iface 145 (.pointer (some xs)))) (go_keep) (fail)
  go_wp2
  go_ret3
  exact ⟨rfl, (unhide HB4).drew⟩
theorem itxNo (b off cap len : Nat) (l : List UInt8) (el : l.length = len) (hc : len ≤ cap) (hl : len ≤ 65536) (h : ¬ frC l = 0) (w : World) {xc xb xs : Addr} (hE : ErrsX w xc xb xs) (hr : Row8 w (some ⟨b, off, none⟩) l) :
  Calls Tryd.prog 51 #[.slice (some ⟨b, off, none⟩) len cap] w fun e w' => (∃ x, (frC l = 14 ∧ x = xc ∨ frC l = 8 ∧ (x = xb ∨ x = xs)) ∧ e = .returned (.tuple #[.slice none 0 0, .slice none 0 0, .iface 107 (.agg #[.int .i64 (frC l), .iface 145 (.pointer (some x))])])) ∧ Below w.heap.size w w' := by
 unfold frC frN at h ⊢
 rw [el] at h ⊢
 by_cases h7 : len < 7
 ·rw [if_pos h7]; exact (itxA _ cap len h7 w hE).mono (fun e w' ⟨h, hb⟩ => ⟨⟨xc, .inl ⟨rfl, rfl⟩, h⟩, hb⟩)
 ·rw [if_neg h7] at h ⊢
  by_cases h1 : ofBE (l.take 3) < 1 ∨ 65536 < ofBE (l.take 3)
  ·rw [if_pos h1]; exact (itxB b off cap len _ l el hc (by omega) rfl h1 w hE hr).mono (fun e w' ⟨h, hb⟩ => ⟨⟨xb, .inr ⟨rfl, .inl rfl⟩, h⟩, hb⟩)
  ·rw [if_neg h1] at h ⊢
   by_cases h2 : len - 7 < ofBE (l.take 3)
   ·rw [if_pos h2]; exact (itxD b off cap len _ l el hc (by omega) rfl (by omega) (by omega) h2 w hE hr).mono (fun e w' ⟨h, hb⟩ => ⟨⟨xc, .inl ⟨rfl, rfl⟩, h⟩, hb⟩)
   ·rw [if_neg h2] at h ⊢
    by_cases h3 : chk (l.take 3 ++ (l.drop 7).take (ofBE (l.take 3))) = ((ofBE ((l.drop 3).take 4) : Nat) : Int)
    ·rw [if_pos h3] at h; exact absurd rfl h
    ·rw [if_neg h3]; exact (itxE b off cap len _ l el hc (by omega) rfl (by omega) (by omega) hl h2 h3 w hE hr).mono (fun e w' ⟨h, hb⟩ => ⟨⟨xs, .inr ⟨rfl, .inr rfl⟩, h⟩, hb⟩)
/-- What splitFrames answers. -/
def SplX (xc xb xs : Addr) (r : List ByteArray × Nat × Int) (w : World) (e : Ending) (w' : World) : Prop :=
 ∃ v, w'.ownsRow w.heap.size 9 1 v r.1.length (cS r.1) ∧ Below w.heap.size w w' ∧
  ((r.2.2 = 0 ∧ e = .returned (.tuple #[v, .nilIface])) ∨ (∃ x, (r.2.2 = 14 ∧ x = xc ∨ r.2.2 = 8 ∧ (x = xb ∨ x = xs)) ∧ e = .returned (.tuple #[v, .iface 113 (.agg #[.int .i64 (r.2.1 : Int), .iface 107 (.agg #[.int .i64 r.2.2, .iface 145 (.pointer (some x))])])])))
set_option maxHeartbeats 2000000 in
set_option maxRecDepth 100000 in
theorem isplitx (b off cap len : Nat) (l : List UInt8) (el : l.length = len) (hc : len ≤ cap) (hl : len ≤ 65536) (w : World) (hblt : b < w.heap.size) {xc xb xs : Addr} (hE : ErrsX w xc xb xs) (hr : Row8 w (some ⟨b, off, none⟩) l) :
  Calls Tryd.prog 40 #[.slice (some ⟨b, off, none⟩) len cap] w fun e w' => SplX xc xb xs (frs len l) w e w' := by
 obtain ⟨i0, hi, hz0, hz1, hz2⟩ := info_parts Tryd.infL9
 have HR0 := hide hr
 have HE := hide hE
 have HL0 := hide el
 have h63 : (len : Int) ≤ 65536 := by omega
 obtain ⟨R, hR⟩ : ∃ R, R = frs len l := ⟨_, rfl⟩
 rw [← hR]
 have HRR := hide hR
 clear hr hE el hR
 go_enter Tryd.func40, Tryd.ntmps40
 go_wp2_with fail
 go_loopw [4, 5] (fun v r wr => ∃ (o q cq f : Nat) (m : List ByteArray) (rr : List UInt8), r = .slice (some ⟨b, o, none⟩) q cq ∧ q ≤ cq ∧ q ≤ len ∧ q ≤ f ∧ m.length + q ≤ len ∧ Hid (rr.length = q) ∧ Hid ((m ++ (frs f rr).1, len - q + (frs f rr).2.1, (frs f rr).2.2) = R) ∧ Hid (Row8 wr (some ⟨b, o, none⟩) rr) ∧ Hid (wr.ownsRow w.heap.size 9 1 v m.length (cS m)) ∧ Hid (Below w.heap.size w wr)) (fun _ r _ => sliceLen r)
 case atStart => exact ⟨off, len, cap, len, [], l, rfl, hc, Nat.le_refl _, Nat.le_refl _, by simp, HL0, by show _ = _; rw [unhide HRR, Nat.sub_self, Nat.zero_add, List.nil_append], HR0, nil_ownT _ _ _, Below.refl _ _⟩
 case round =>
  clear HR0 HL0 HRR
  obtain ⟨o, q, cq, f, m, rr, rfl, hcq, hql, hqf, hmq, HL, HI, HR, HO, HB⟩ := hrel
  by_cases h0 : q = 0
  ·subst h0
   have hrr : rr = [] := List.eq_nil_of_length_eq_zero (unhide HL)
   have hi2 := unhide HI
   rw [hrr, frs_nil] at hi2
   simp only [List.append_nil, Nat.sub_zero, Nat.add_zero] at hi2
   have HI2 := hide hi2
   clear hi2 hrr HI HL HR
   go_wp2_with fail
   go_ret2
   exact ⟨_, by rw [← unhide HI2]; exact unhide HO, unhide HB, .inl ⟨by rw [← unhide HI2], rfl⟩⟩
  ·obtain ⟨f', rfl⟩ : ∃ f', f = f' + 1 := ⟨f - 1, by omega⟩
   have hne : rr ≠ [] := fun h => by have := unhide HL; rw [h] at this; simp at this; omega
   have h0' : (0 : Int) < (q : Int) := by omega
   have HEr := hide ((unhide HE).below (unhide HB))
   by_cases hf : frC rr = 0
   ·have hi2 := unhide HI
    rw [frs_step f' hne hf] at hi2
    have T2 := itfOk b o cq q rr (unhide HL) hcq (by omega) hf wr (unhide HEr).R (unhide HR)
    have htl := frT_len hf
    have hdl := frD_len hf
    obtain ⟨f7, f1, f65, f4, _⟩ := frC_ok hf
    rw [unhide HL] at htl f4
    obtain ⟨x, ex⟩ : ∃ x, x = frD rr := ⟨_, rfl⟩
    obtain ⟨r2, er⟩ : ∃ r2, r2 = frT rr := ⟨_, rfl⟩
    obtain ⟨y, ey⟩ : ∃ y, y = frN rr := ⟨_, rfl⟩
    rw [← ex, ← er, ← ey] at T2 hi2
    rw [← er, ← ey] at htl
    rw [← ex, ← ey] at hdl
    rw [← ey] at f1 f65 f4
    obtain ⟨q2, eq2⟩ : ∃ q2, q2 = q - 7 - y := ⟨_, rfl⟩
    rw [← eq2] at T2
    have HL2 : Hid (r2.length = q2) := by show _ = _; omega
    have HI2 : Hid (((m ++ [⟨x.toArray⟩]) ++ (frs f' r2).1, len - q2 + (frs f' r2).2.1, (frs f' r2).2.2) = R) := by
     show _ = _
     rw [← hi2, List.append_assoc, List.singleton_append, show len - q2 + (frs f' r2).2.1 = len - q + (7 + y + (frs f' r2).2.1) from by omega]
    have HXL := hide hdl
    have g1 : q2 ≤ len := by omega
    have g2 : q2 ≤ f' := by omega
    have g3 : m.length + 1 + q2 ≤ len := by omega
    have g4 : q2 < q := by omega
    clear hi2 hf htl hdl ex er ey eq2 HI HL HEr hne f7 f1 f65 f4
    go_wp2_with (first | (at_builtin; (refine wpList_append_lies _ rfl (.tmp 30) (.tmp 33) 27 rfl w.heap.size 9 i0 (.string ⟨#[]⟩) 1 16 Tryd.underlying27 hi hz0 hz1 hz2 rfl (by decide) _ _ _ rfl ((unhide HO3).alloc _) ⟨w3.heap.size, 0, none⟩ 1 1 (cS [⟨x.toArray⟩]) rfl rfl (by exact news_new w3 (cS [⟨x.toArray⟩]) 9) (cS_one _) (by decide) (by unfold maxLen; omega) (by omega) (by simp; omega) _ rfl ?_; intro g5 d2 w2 hown2 hgrow2 hat2 hlt2; have HB2 := hide (below_app (unhide HB3) (unhide HB3).size (unhide HO3) (Nat.le_refl _) hgrow2); have HR4 : Hid (Row8 w2 (some ⟨b, o4, none⟩) r2) := row8_lowT (unhide HR3) hblt (below_app (Below.refl _ _) (unhide HB3).size (unhide HO3) (Nat.le_refl _) hgrow2); have HO2 := hide (own_appT (l := m) (m := [⟨x.toArray⟩]) hown2 rfl); clear hown2 hgrow2 hat2 hlt2)) | (go_at_call 51; refine T2.mono ?_; clear T2; rintro e w3 ⟨⟨o3, o4, c1, c2, rfl, hc2, hx, hr3⟩, hb3⟩; have HB3 := hide ((unhide HB).trans (hb3.mono (unhide HB).size)); have hcv := conv_row8 (P := Tryd.prog) (src := 22) (dst := 9) (e := 5) (cap := c1) Tryd.underlying22 Tryd.underlying5 Tryd.underlying9 hx; rw [unhide HXL] at hcv; have HR3 := hide hr3; have HO3 := hide ((held_of (unhide HO)).below hb3 (Nat.le_refl _)).own; have hz := (unhide HB3).size; clear hx hr3 hb3))
    go_roundw
    case rel => exact ⟨o4, q2, c2, f', m ++ [⟨x.toArray⟩], r2, rfl, hc2, g1, g2, by rw [List.length_append]; exact g3, HL2, HI2, HR4, HO2, HB2⟩
    case measure => simp [sliceLen]; omega
   ·have hi2 := unhide HI
    rw [frs_bad f' hne hf] at hi2
    simp only [List.append_nil, Nat.add_zero] at hi2
    have T2 := itxNo b o cq q rr (unhide HL) hcq (by omega) hf wr (unhide HEr) (unhide HR)
    obtain ⟨c, ec⟩ : ∃ c, c = frC rr := ⟨_, rfl⟩
    rw [← ec] at T2 hi2 hf
    have HI2 := hide hi2
    have HF := hide hf
    have hsub : (len : Int) - (q : Int) = ((len - q : Nat) : Int) := by omega
    clear hi2 hf ec HI HL HR HEr hne
    go_wp2_with (go_at_call 51; refine T2.mono ?_; clear T2; rintro e w3 ⟨⟨x, hx, rfl⟩, hb3⟩; have HX := hide hx; clear hx; have HB3 := hide ((unhide HB).trans (hb3.mono (unhide HB).size)); have HO3 := hide ((held_of (unhide HO)).below hb3 (Nat.le_refl _)).own; clear hb3)
    go_ret2
    exact ⟨_, by rw [← unhide HI2]; exact unhide HO3, unhide HB3, .inr ⟨x, by rw [← unhide HI2]; exact unhide HX, by rw [← unhide HI2]; rfl⟩⟩
end Go.Proofs.YtamjljhbnhdgdaaDoor

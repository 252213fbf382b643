/- impl.takeFrame, and impl.faultCode of a placed fault. -/
import Derived.Test.YtialpepklejejaaDoorZG24
import Derived.Test.YtialpepklejejaaDoorZG6
import Derived.Test.YtialpepklejejaaDoorZG13
import Derived.Test.YtialpepklejejaaDoorZConI
namespace Go.Proofs.YtialpepklejejaaDoor
open Go.RowKit Go.Extern.Stop Go.Stop Go.Extern Go.ChangeShapes Go.WideShapes Go.ChangeAt
set_option linter.unusedVariables false
theorem flt_missB (tb : Nat) (p c : Int) (u : TypeId) (y o0 o1 : Value) (w : World) (hg : w.cell? ⟨8, 0, none⟩ = some (.iface 93 (.agg #[.pointer (some ⟨10, 40, none⟩)]))) (h0 : w.cell? ⟨tb, 0, none⟩ = some o0) (h1 : w.cell? ⟨tb, 1, none⟩ = some o1) (f0 : w.frozen? ⟨tb, 0, none⟩ = false) (f1 : w.frozen? ⟨tb, 1, none⟩ = false) :
    Calls Tryd.prog 42 #[.iface 74 (.agg #[.int .i64 p, .iface 81 (.agg #[.int .i64 c, .iface u y])]), .iface 83 (.pointer (some ⟨tb, 0, none⟩))] w fun ev w' => ev = .returned (.bool true) ∧ w'.cell? ⟨tb, 0, none⟩ = some (.int .i64 c) ∧ Below tb w w' := by
  have htl : tb < w.heap.size := World.block_lt_of_cell? w _ h0
  refine (flt_miss tb p c u y o0 o1 w hg h0 h1 f0 f1).mono ?_
  rintro ev w' ⟨rfl, rfl⟩
  refine ⟨rfl, ?_, ?_⟩
  · refine Eq.trans (by apply World.cell?_setCell_other; simp) ?_
    apply World.cell?_setCell_same (u := o0)
    rw [World.cell?_alloc_lt _ _ ⟨tb, 0, none⟩ (by simp <;> omega), World.cell?_alloc_lt _ _ ⟨tb, 0, none⟩ (by simp <;> omega), World.cell?_alloc_lt _ _ ⟨tb, 0, none⟩ (by simp <;> omega), World.cell?_alloc_lt _ _ ⟨tb, 0, none⟩ (by simp <;> omega), World.cell?_alloc_lt _ _ ⟨tb, 0, none⟩ htl]; exact h0
  · exact (((((((Below.refl tb w).alloc (Nat.le_of_lt htl) _).alloc (by simp <;> omega) _).alloc (by simp <;> omega) _).alloc (by simp <;> omega) _).alloc (by simp <;> omega) _).setCell (Nat.le_refl _) _).setCell (Nat.le_refl _) _
theorem ifcodeP (p c : Int) (u : TypeId) (y : Value) (w : World) (hg : w.cell? ⟨8, 0, none⟩ = some (.iface 93 (.agg #[.pointer (some ⟨10, 40, none⟩)]))) :
    Calls Tryd.prog 29 #[.iface 74 (.agg #[.int .i64 p, .iface 81 (.agg #[.int .i64 c, .iface u y])])] w fun e w' => e = .returned (.int .i64 c) ∧ Below w.heap.size w w' := by
  have hlt : 8 < w.heap.size := World.block_lt_of_cell? w _ hg
  go_enter Tryd.func29, Tryd.ntmps29
  have g1 : (w.alloc (Obj.cells #[Value.int IntKind.i64 0, Value.nilIface] 81)).cell? ⟨8, 0, none⟩ = some (.iface 93 (.agg #[.pointer (some ⟨10, 40, none⟩)])) := by
    rw [World.cell?_alloc_lt _ _ ⟨8, 0, none⟩ hlt]; exact hg
  have g2 : (w.alloc (Obj.cells #[Value.int IntKind.i64 0, Value.nilIface] 81)).cell? ⟨w.heap.size, 0, none⟩ = some (.int .i64 0) := by simp
  have g3 : (w.alloc (Obj.cells #[Value.int IntKind.i64 0, Value.nilIface] 81)).cell? ⟨w.heap.size, 1, none⟩ = some .nilIface := by simp
  have g4 : ∀ o, (w.alloc (Obj.cells #[Value.int IntKind.i64 0, Value.nilIface] 81)).frozen? ⟨w.heap.size, o, none⟩ = false := by intro o; simp
  go_wp2_with (go_at_call 42; refine (flt_missB w.heap.size p c u y (.int .i64 0) .nilIface _ g1 g2 g3 (g4 0) (g4 1)).mono ?_; rintro e w1 ⟨rfl, hc, hb⟩)
  go_ret
  exact ⟨rfl, ((Below.refl _ _).alloc (Nat.le_refl _) _).trans hb⟩
/-- What the listed variables hold that reading frames asks for. -/
structure ErrsR (w : World) : Prop where
  type : w.cell? ⟨8, 0, none⟩ = some (.iface 93 (.agg #[.pointer (some ⟨10, 40, none⟩)]))
  cut : ∃ u y, w.cell? ⟨0, 0, none⟩ = some (.iface u y)
  bounds : ∃ u y, w.cell? ⟨6, 0, none⟩ = some (.iface u y)
  sum : ∃ u y, w.cell? ⟨7, 0, none⟩ = some (.iface u y)
theorem ErrsR.below {w w' : World} (h : ErrsR w) (hb : Below w.heap.size w w') : ErrsR w' := by
  obtain ⟨t, ⟨u1, y1, c1⟩, ⟨u2, y2, c2⟩, ⟨u3, y3, c3⟩⟩ := h
  exact ⟨cell_later hb t, ⟨u1, y1, cell_later hb c1⟩, ⟨u2, y2, cell_later hb c2⟩, ⟨u3, y3, cell_later hb c3⟩⟩
set_option maxHeartbeats 1000000 in
set_option maxRecDepth 100000 in
theorem itfA (a : Option Addr) (cap len : Nat) (h7 : len < 7) (w : World) (hE : ErrsR w) :
    Calls Tryd.prog 39 #[.slice a len cap] w fun e w' => (∃ u z, e = .returned (.tuple #[.slice none 0 0, .slice none 0 0, .iface 81 (.agg #[.int .i64 14, .iface u z])])) ∧ Below w.heap.size w w' := by
  obtain ⟨u1, y1, c1⟩ := hE.cut
  have T1 := itakeNo a len cap 7 h7 u1 y1 w c1
  change Calls _ _ #[_, .int .i64 7] _ _ at T1
  clear hE
  go_enter Tryd.func39, Tryd.ntmps39
  go_wp2_with (go_at_call 47; refine T1.mono ?_; clear T1; rintro e w1 ⟨rfl, hb⟩)
  go_ret3
  exact ⟨⟨_, _, rfl⟩, hb⟩
set_option maxHeartbeats 1000000 in
set_option maxRecDepth 100000 in
theorem itfB (b off cap len y : Nat) (l : List UInt8) (el : l.length = len) (hc : len ≤ cap) (h7 : 7 ≤ len) (ey : y = ofBE (l.take 3)) (hbad : y < 1 ∨ 65536 < y) (w : World) (hE : ErrsR w) (hr : Row8 w (some ⟨b, off, none⟩) l) :
    Calls Tryd.prog 39 #[.slice (some ⟨b, off, none⟩) len cap] w fun e w' => (∃ u z, e = .returned (.tuple #[.slice none 0 0, .slice none 0 0, .iface 81 (.agg #[.int .i64 8, .iface u z])])) ∧ Below w.heap.size w w' := by
  have HTL : Hid ((l.take 3).length = 3) := by show _ = _; rw [List.length_take]; omega
  have HDL : Hid ((l.drop 7).length = len - 7) := by show _ = _; rw [List.length_drop, el]
  have T1 := itake b off cap 7 l len el h7 hc w hr
  change Calls _ _ #[_, .int .i64 7] _ _ at T1
  have HEY : Hid (y = ofBE (l.take 3)) := ey
  have HE := hide hE
  obtain ⟨m, em⟩ : ∃ m, m = len - 7 := ⟨_, rfl⟩
  obtain ⟨cp, ecp⟩ : ∃ cp, cp = cap - 7 := ⟨_, rfl⟩
  have cap7 : 7 ≤ cap := by omega
  have cap7' : (7 : Int) ≤ (cap : Int) := by omega
  rw [← em, ← ecp] at T1
  clear ey hr em ecp hE
  by_cases q1 : y < 1
  · have n1 : (y : Int) < 1 := by omega
    clear hbad
    go_enter Tryd.func39, Tryd.ntmps39
    go_wp2_with (first | (have hq := HT3; go_at_call 48; have h3 := inumber (some ⟨b, off, none⟩) cap (l.take 3) (by rw [unhide HTL]; decide) _ (unhide HT3); rw [unhide HTL, ← unhide HEY] at h3; refine h3.mono ?_; clear h3; rintro e w2 ⟨rfl, hw⟩; subst w2; obtain ⟨u2, y2, c2⟩ := (unhide HE1).bounds; clear HE1 HT3) | (go_at_call 47; refine T1.mono ?_; clear T1; rintro e w1 ⟨o2, rfl, ht, hd, hb⟩; have HT7 := hide ht; have HT3 := hide (show Row8 w1 (some ⟨b, off, none⟩) (l.take 3) from (by have := row8_take ht 3; rwa [List.take_take] at this)); have HR2 := hide hd; have HB := hide hb; have HE1 := hide ((unhide HE).below hb); clear ht hd hb))
    go_region_held3 (fun w' => w'.cell? ⟨6, 0, none⟩ = some (.iface u2 y2)) (go_keep) (fail)
    go_wp2
    go_ret3
    exact ⟨⟨_, _, rfl⟩, (unhide HB).drew⟩
  · have n1 : ¬ (y : Int) < 1 := by omega
    have n2 : (65536 : Int) < (y : Int) := by omega
    clear hbad
    go_enter Tryd.func39, Tryd.ntmps39
    go_wp2_with (first | (have hq := HT3; go_at_call 48; have h3 := inumber (some ⟨b, off, none⟩) cap (l.take 3) (by rw [unhide HTL]; decide) _ (unhide HT3); rw [unhide HTL, ← unhide HEY] at h3; refine h3.mono ?_; clear h3; rintro e w2 ⟨rfl, hw⟩; subst w2; obtain ⟨u2, y2, c2⟩ := (unhide HE1).bounds; clear HE1 HT3) | (go_at_call 47; refine T1.mono ?_; clear T1; rintro e w1 ⟨o2, rfl, ht, hd, hb⟩; have HT7 := hide ht; have HT3 := hide (show Row8 w1 (some ⟨b, off, none⟩) (l.take 3) from (by have := row8_take ht 3; rwa [List.take_take] at this)); have HR2 := hide hd; have HB := hide hb; have HE1 := hide ((unhide HE).below hb); clear ht hd hb))
    go_region_held3 (fun w' => w'.cell? ⟨6, 0, none⟩ = some (.iface u2 y2)) (go_keep) (fail)
    go_wp2
    go_ret3
    exact ⟨⟨_, _, rfl⟩, (unhide HB).drew⟩
set_option maxHeartbeats 1000000 in
set_option maxRecDepth 100000 in
theorem itfD (b off cap len y : Nat) (l : List UInt8) (el : l.length = len) (hc : len ≤ cap) (h7 : 7 ≤ len) (ey : y = ofBE (l.take 3)) (n1' : ¬ y < 1) (n2' : ¬ 65536 < y) (hcut : len - 7 < y) (w : World) (hE : ErrsR w) (hr : Row8 w (some ⟨b, off, none⟩) l) :
    Calls Tryd.prog 39 #[.slice (some ⟨b, off, none⟩) len cap] w fun e w' => (∃ u z, e = .returned (.tuple #[.slice none 0 0, .slice none 0 0, .iface 81 (.agg #[.int .i64 14, .iface u z])])) ∧ Below w.heap.size w w' := by
  have HTL : Hid ((l.take 3).length = 3) := by show _ = _; rw [List.length_take]; omega
  have HDL : Hid ((l.drop 7).length = len - 7) := by show _ = _; rw [List.length_drop, el]
  have T1 := itake b off cap 7 l len el h7 hc w hr
  change Calls _ _ #[_, .int .i64 7] _ _ at T1
  have HEY : Hid (y = ofBE (l.take 3)) := ey
  have HE := hide hE
  obtain ⟨m, em⟩ : ∃ m, m = len - 7 := ⟨_, rfl⟩
  obtain ⟨cp, ecp⟩ : ∃ cp, cp = cap - 7 := ⟨_, rfl⟩
  have cap7 : 7 ≤ cap := by omega
  have cap7' : (7 : Int) ≤ (cap : Int) := by omega
  have n1 : ¬ (y : Int) < 1 := by omega
  have n2 : ¬ (65536 : Int) < (y : Int) := by omega
  rw [← em] at hcut
  rw [← em, ← ecp] at T1
  clear ey hr em ecp hE
  go_enter Tryd.func39, Tryd.ntmps39
  go_wp2_with (first | (have hq := HNO; go_at_call 47; obtain ⟨u1, y1, c1⟩ := (unhide HE1).cut; refine (itakeNo (some ⟨b, o2, none⟩) m cp y hcut u1 y1 _ c1).mono ?_; rintro e w3 ⟨rfl, hb3⟩; have HB3 := hide ((unhide HB).trans (hb3.mono (unhide HB).size)); clear hb3 HR2 c1 HNO) | (have hq := HT3; go_at_call 48; have h3 := inumber (some ⟨b, off, none⟩) cap (l.take 3) (by rw [unhide HTL]; decide) _ (unhide HT3); rw [unhide HTL, ← unhide HEY] at h3; refine h3.mono ?_; clear h3; rintro e w2 ⟨rfl, hw⟩; subst w2; have HNO := hide trivial; clear HT3) | (go_at_call 47; refine T1.mono ?_; clear T1; rintro e w1 ⟨o2, rfl, ht, hd, hb⟩; have HT7 := hide ht; have HT3 := hide (show Row8 w1 (some ⟨b, off, none⟩) (l.take 3) from (by have := row8_take ht 3; rwa [List.take_take] at this)); have HR2 := hide hd; have HB := hide hb; have HE1 := hide ((unhide HE).below hb); clear ht hd hb))
  go_ret3
  exact ⟨⟨_, _, rfl⟩, unhide HB3⟩
set_option maxHeartbeats 1000000 in
set_option maxRecDepth 100000 in
theorem itfE (b off cap len y : Nat) (l : List UInt8) (el : l.length = len) (hc : len ≤ cap) (h7 : 7 ≤ len) (ey : y = ofBE (l.take 3)) (n1' : ¬ y < 1) (n2' : ¬ 65536 < y) (hl : len ≤ 65536) (hfit0 : ¬ len - 7 < y) (hne : ¬ chk (l.take 3 ++ (l.drop 7).take y) = ((ofBE ((l.drop 3).take 4) : Nat) : Int)) (w : World) (hE : ErrsR w) (hr : Row8 w (some ⟨b, off, none⟩) l) :
    Calls Tryd.prog 39 #[.slice (some ⟨b, off, none⟩) len cap] w fun e w' => (∃ u z, e = .returned (.tuple #[.slice none 0 0, .slice none 0 0, .iface 81 (.agg #[.int .i64 8, .iface u z])])) ∧ Below w.heap.size w w' := by
  have HTL : Hid ((l.take 3).length = 3) := by show _ = _; rw [List.length_take]; omega
  have HDL : Hid ((l.drop 7).length = len - 7) := by show _ = _; rw [List.length_drop, el]
  have T1 := itake b off cap 7 l len el h7 hc w hr
  change Calls _ _ #[_, .int .i64 7] _ _ at T1
  have HEY : Hid (y = ofBE (l.take 3)) := ey
  have HE := hide hE
  obtain ⟨m, em⟩ : ∃ m, m = len - 7 := ⟨_, rfl⟩
  obtain ⟨cp, ecp⟩ : ∃ cp, cp = cap - 7 := ⟨_, rfl⟩
  have cap7 : 7 ≤ cap := by omega
  have cap7' : (7 : Int) ≤ (cap : Int) := by omega
  have n1 : ¬ (y : Int) < 1 := by omega
  have n2 : ¬ (65536 : Int) < (y : Int) := by omega
  have hfit : y ≤ m := by omega
  have hc2 : m ≤ cp := by omega
  have hsumle : 3 + y ≤ 65536 := by omega
  have HXL : Hid (((l.drop 7).take y).length = y) := by show _ = _; rw [List.length_take, List.length_drop]; omega
  have H4L : Hid (((l.drop 3).take 4).length = 4) := by show _ = _; rw [List.length_take, List.length_drop]; omega
  obtain ⟨S, hS⟩ : ∃ S, S = chk (l.take 3 ++ (l.drop 7).take y) := ⟨_, rfl⟩
  obtain ⟨S4, hS4⟩ : ∃ S4, S4 = ofBE ((l.drop 3).take 4) := ⟨_, rfl⟩
  have HS := hide hS
  have HS4 := hide hS4
  rw [← hS, ← hS4] at hne
  have hne2 : (S != (S4 : Int)) = true := bne_iff_ne.2 hne
  rw [← em, ← ecp] at T1
  rw [← em] at HDL
  clear ey hr em ecp hE hS hS4 hfit0 hne
  go_enter Tryd.func39, Tryd.ntmps39
  go_wp2_with (first | (have hq := HNO; go_at_call 47; refine (itake b o2 cp y (l.drop 7) m (unhide HDL) hfit hc2 _ (unhide HR2)).mono ?_; rintro e w3 ⟨o3, rfl, hx, hrr, hb3⟩; have HX := hide hx; have HRR := hide hrr; have HB3 := hide ((unhide HB).trans (hb3.mono (unhide HB).size)); have HY3 := hide ((unhide HT3).below hb3); have HY7 := hide ((unhide HT7).below hb3); have HE3 := hide ((unhide HE1).below hb3); clear hx hrr hb3 HR2 HNO HT3 HT7 HE1) | (have hq := HT3; go_at_call 48; have h3 := inumber (some ⟨b, off, none⟩) cap (l.take 3) (by rw [unhide HTL]; decide) _ (unhide HT3); rw [unhide HTL, ← unhide HEY] at h3; refine h3.mono ?_; clear h3; rintro e w2 ⟨rfl, hw⟩; subst w2; have HNO := hide trivial) | (go_at_call 47; refine T1.mono ?_; clear T1; rintro e w1 ⟨o2, rfl, ht, hd, hb⟩; have HT7 := hide ht; have HT3 := hide (show Row8 w1 (some ⟨b, off, none⟩) (l.take 3) from (by have := row8_take ht 3; rwa [List.take_take] at this)); have HR2 := hide hd; have HB := hide hb; have HE1 := hide ((unhide HE).below hb); clear ht hd hb))
  go_region_held3 (fun _ => True) (trivial) (first | (have hq := HK; go_at_call 48; have h4 := inumber (some ⟨b, off + 3, none⟩) (cap - 3) ((l.drop 3).take 4) (by rw [unhide H4L]; decide) _ (unhide HK); rw [unhide H4L, ← unhide HS4] at h4; refine h4.mono ?_; clear h4; rintro e w5 ⟨rfl, hw⟩; subst w5) | (go_at_call 49; refine (iframesum (some ⟨b, off, none⟩) (some ⟨b, o2, none⟩) cap cp 3 y (l.take 3) ((l.drop 7).take y) (unhide HTL) (unhide HXL) (by decide) hsumle _ ((unhide HY3).below (Below.refl _ _).drew) ((unhide HX).below (Below.refl _ _).drew)).mono ?_; rintro e w4 ⟨rfl, hb4⟩; rw [← unhide HS]; have HB4 := hide ((unhide HB3).drew.trans (hb4.mono (unhide HB3).drew.size)); have HK := hide (show Row8 w4 (some ⟨b, off + 3, none⟩) ((l.drop 3).take 4) from (by have := row8_drop (((unhide HY7).below (Below.refl _ _).drew).below hb4) 3; rwa [List.drop_take] at this)); have HR4 := hide (((unhide HRR).below (Below.refl _ _).drew).below hb4); have HD4 := hide (((unhide HX).below (Below.refl _ _).drew).below hb4); have HE4 := hide ((unhide HE3).below (below_undrew hb4)); clear hb4))
  all_goals
    obtain ⟨u2, y2, c2⟩ := (unhide HE4).sum
    clear HE4
    go_wp2_with fail
    go_region_held3 (fun w' => w'.cell? ⟨7, 0, none⟩ = some (.iface u2 y2)) (go_keep) (fail)
    go_wp2
    go_ret3
    exact ⟨⟨_, _, rfl⟩, (unhide HB4).drew⟩
set_option maxHeartbeats 1000000 in
set_option maxRecDepth 100000 in
theorem itfF (b off cap len y : Nat) (l : List UInt8) (el : l.length = len) (hc : len ≤ cap) (h7 : 7 ≤ len) (ey : y = ofBE (l.take 3)) (n1' : ¬ y < 1) (n2' : ¬ 65536 < y) (hl : len ≤ 65536) (hfit0 : ¬ len - 7 < y) (heq : chk (l.take 3 ++ (l.drop 7).take y) = ((ofBE ((l.drop 3).take 4) : Nat) : Int)) (w : World) (hE : ErrsR w) (hr : Row8 w (some ⟨b, off, none⟩) l) :
    Calls Tryd.prog 39 #[.slice (some ⟨b, off, none⟩) len cap] w fun e w' => (∃ o1 o2 c1 c2, e = .returned (.tuple #[.slice (some ⟨b, o1, none⟩) y c1, .slice (some ⟨b, o2, none⟩) (len - 7 - y) c2, .nilIface]) ∧ len - 7 - y ≤ c2 ∧ Row8 w' (some ⟨b, o1, none⟩) ((l.drop 7).take y) ∧ Row8 w' (some ⟨b, o2, none⟩) ((l.drop 7).drop y)) ∧ Below w.heap.size w w' := by
  have HTL : Hid ((l.take 3).length = 3) := by show _ = _; rw [List.length_take]; omega
  have HDL : Hid ((l.drop 7).length = len - 7) := by show _ = _; rw [List.length_drop, el]
  have T1 := itake b off cap 7 l len el h7 hc w hr
  change Calls _ _ #[_, .int .i64 7] _ _ at T1
  have HEY : Hid (y = ofBE (l.take 3)) := ey
  have HE := hide hE
  obtain ⟨m, em⟩ : ∃ m, m = len - 7 := ⟨_, rfl⟩
  obtain ⟨cp, ecp⟩ : ∃ cp, cp = cap - 7 := ⟨_, rfl⟩
  have cap7 : 7 ≤ cap := by omega
  have cap7' : (7 : Int) ≤ (cap : Int) := by omega
  have n1 : ¬ (y : Int) < 1 := by omega
  have n2 : ¬ (65536 : Int) < (y : Int) := by omega
  have hfit : y ≤ m := by omega
  have hc2 : m ≤ cp := by omega
  have hsumle : 3 + y ≤ 65536 := by omega
  have HXL : Hid (((l.drop 7).take y).length = y) := by show _ = _; rw [List.length_take, List.length_drop]; omega
  have H4L : Hid (((l.drop 3).take 4).length = 4) := by show _ = _; rw [List.length_take, List.length_drop]; omega
  obtain ⟨S, hS⟩ : ∃ S, S = chk (l.take 3 ++ (l.drop 7).take y) := ⟨_, rfl⟩
  obtain ⟨S4, hS4⟩ : ∃ S4, S4 = ofBE ((l.drop 3).take 4) := ⟨_, rfl⟩
  have HS := hide hS
  have HS4 := hide hS4
  rw [← hS, ← hS4] at heq
  have hne2 : (S != (S4 : Int)) = false := by rw [heq]; simp
  rw [← em, ← ecp] at T1
  rw [← em] at HDL ⊢
  clear ey hr em ecp hE hS hS4 hfit0 heq
  go_enter Tryd.func39, Tryd.ntmps39
  go_wp2_with (first | (have hq := HNO; go_at_call 47; refine (itake b o2 cp y (l.drop 7) m (unhide HDL) hfit hc2 _ (unhide HR2)).mono ?_; rintro e w3 ⟨o3, rfl, hx, hrr, hb3⟩; have HX := hide hx; have HRR := hide hrr; have HB3 := hide ((unhide HB).trans (hb3.mono (unhide HB).size)); have HY3 := hide ((unhide HT3).below hb3); have HY7 := hide ((unhide HT7).below hb3); have HE3 := hide ((unhide HE1).below hb3); clear hx hrr hb3 HR2 HNO HT3 HT7 HE1) | (have hq := HT3; go_at_call 48; have h3 := inumber (some ⟨b, off, none⟩) cap (l.take 3) (by rw [unhide HTL]; decide) _ (unhide HT3); rw [unhide HTL, ← unhide HEY] at h3; refine h3.mono ?_; clear h3; rintro e w2 ⟨rfl, hw⟩; subst w2; have HNO := hide trivial) | (go_at_call 47; refine T1.mono ?_; clear T1; rintro e w1 ⟨o2, rfl, ht, hd, hb⟩; have HT7 := hide ht; have HT3 := hide (show Row8 w1 (some ⟨b, off, none⟩) (l.take 3) from (by have := row8_take ht 3; rwa [List.take_take] at this)); have HR2 := hide hd; have HB := hide hb; have HE1 := hide ((unhide HE).below hb); clear ht hd hb))
  go_region_held3 (fun _ => True) (trivial) (first | (have hq := HK; go_at_call 48; have h4 := inumber (some ⟨b, off + 3, none⟩) (cap - 3) ((l.drop 3).take 4) (by rw [unhide H4L]; decide) _ (unhide HK); rw [unhide H4L, ← unhide HS4] at h4; refine h4.mono ?_; clear h4; rintro e w5 ⟨rfl, hw⟩; subst w5) | (go_at_call 49; refine (iframesum (some ⟨b, off, none⟩) (some ⟨b, o2, none⟩) cap cp 3 y (l.take 3) ((l.drop 7).take y) (unhide HTL) (unhide HXL) (by decide) hsumle _ ((unhide HY3).below (Below.refl _ _).drew) ((unhide HX).below (Below.refl _ _).drew)).mono ?_; rintro e w4 ⟨rfl, hb4⟩; rw [← unhide HS]; have HB4 := hide ((unhide HB3).drew.trans (hb4.mono (unhide HB3).drew.size)); have HK := hide (show Row8 w4 (some ⟨b, off + 3, none⟩) ((l.drop 3).take 4) from (by have := row8_drop (((unhide HY7).below (Below.refl _ _).drew).below hb4) 3; rwa [List.drop_take] at this)); have HR4 := hide (((unhide HRR).below (Below.refl _ _).drew).below hb4); have HD4 := hide (((unhide HX).below (Below.refl _ _).drew).below hb4); have HE4 := hide ((unhide HE3).below (below_undrew hb4)); clear hb4))
  all_goals
    go_wp2_with fail
    go_ret3
    exact ⟨⟨o2, o3, cp, cp - y, rfl, by omega, unhide HD4, unhide HR4⟩, unhide HB4⟩
end Go.Proofs.YtialpepklejejaaDoor

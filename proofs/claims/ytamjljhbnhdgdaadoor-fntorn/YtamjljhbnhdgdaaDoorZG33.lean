/- Texts put together: FrmI FrmJ. -/
import Derived.Test.YtamjljhbnhdgdaaDoorZG31
import Derived.Test.YtamjljhbnhdgdaaDoorZG4
import Derived.Test.YtamjljhbnhdgdaaDoorZG1
import Derived.Test.YtamjljhbnhdgdaaDoorZConI
import Derived.Test.YtamjljhbnhdgdaaDoorZG2
/- impl.takeFrame, and impl.faultCode of a placed fault. -/
namespace Go.Proofs.YtamjljhbnhdgdaaDoor
open Go.RowKit Go.Extern.Stop Go.Stop Go.Extern Go.ChangeShapes Go.WideShapes Go.ChangeAt
set_option linter.unusedVariables false
theorem flt_missB (tb : Nat) (p c : Int) (u : TypeId) (y o0 o1 : Value) (w : World) (hg : w.cell? ⟨6, 0, none⟩ = some (.iface 96 (.agg #[.pointer (some ⟨10, 51, none⟩)]))) (h0 : w.cell? ⟨tb, 0, none⟩ = some o0) (h1 : w.cell? ⟨tb, 1, none⟩ = some o1) (f0 : w.frozen? ⟨tb, 0, none⟩ = false) (f1 : w.frozen? ⟨tb, 1, none⟩ = false) :
  Calls Tryd.prog 50 #[.iface 113 (.agg #[.int .i64 p, .iface 107 (.agg #[.int .i64 c, .iface u y])]), .iface 109 (.pointer (some ⟨tb, 0, none⟩))] w fun ev w' => ev = .returned (.bool true) ∧ w'.cell? ⟨tb, 0, none⟩ = some (.int .i64 c) ∧ Below tb w w' := by
 have htl : tb < w.heap.size := World.block_lt_of_cell? w _ h0
 refine (flt_miss tb p c u y o0 o1 w hg h0 h1 f0 f1).mono ?_
 rintro ev w' ⟨rfl, rfl⟩
 refine ⟨rfl, ?_, ?_⟩
 ·refine Eq.trans (by apply World.cell?_setCell_other; simp) ?_
  apply World.cell?_setCell_same (u := o0)
  rw [World.cell?_alloc_lt _ _ ⟨tb, 0, none⟩ (by simp <;> omega), World.cell?_alloc_lt _ _ ⟨tb, 0, none⟩ (by simp <;> omega), World.cell?_alloc_lt _ _ ⟨tb, 0, none⟩ (by simp <;> omega), World.cell?_alloc_lt _ _ ⟨tb, 0, none⟩ (by simp <;> omega), World.cell?_alloc_lt _ _ ⟨tb, 0, none⟩ htl]; exact h0
 ·exact (((((((Below.refl tb w).alloc (Nat.le_of_lt htl) _).alloc (by simp <;> omega) _).alloc (by simp <;> omega) _).alloc (by simp <;> omega) _).alloc (by simp <;> omega) _).setCell (Nat.le_refl _) _).setCell (Nat.le_refl _) _
theorem ifcodeP (p c : Int) (u : TypeId) (y : Value) (w : World) (hg : w.cell? ⟨6, 0, none⟩ = some (.iface 96 (.agg #[.pointer (some ⟨10, 51, none⟩)]))) :
  Calls Tryd.prog 39 #[.iface 113 (.agg #[.int .i64 p, .iface 107 (.agg #[.int .i64 c, .iface u y])])] w fun e w' => e = .returned (.int .i64 c) ∧ Below w.heap.size w w' := by
 have hlt : 6 < w.heap.size := World.block_lt_of_cell? w _ hg
 go_enter Tryd.func39, Tryd.ntmps39
 have g1 : (w.alloc (Obj.cells #[Value.int IntKind.i64 0, Value.nilIface] 107)).cell? ⟨6, 0, none⟩ = some (.iface 96 (.agg #[.pointer (some ⟨10, 51, none⟩)])) := by
  rw [World.cell?_alloc_lt _ _ ⟨6, 0, none⟩ hlt]; exact hg
 have g2 : (w.alloc (Obj.cells #[Value.int IntKind.i64 0, Value.nilIface] 107)).cell? ⟨w.heap.size, 0, none⟩ = some (.int .i64 0) := by simp
 have g3 : (w.alloc (Obj.cells #[Value.int IntKind.i64 0, Value.nilIface] 107)).cell? ⟨w.heap.size, 1, none⟩ = some .nilIface := by simp
 have g4 : ∀ o, (w.alloc (Obj.cells #[Value.int IntKind.i64 0, Value.nilIface] 107)).frozen? ⟨w.heap.size, o, none⟩ = false := by intro o; simp
 go_wp2_with (go_at_call 50; refine (flt_missB w.heap.size p c u y (.int .i64 0) .nilIface _ g1 g2 g3 (g4 0) (g4 1)).mono ?_; rintro e w1 ⟨rfl, hc, hb⟩)
 go_ret
 exact ⟨rfl, ((Below.refl _ _).alloc (Nat.le_refl _) _).trans hb⟩
/-- What the listed variables hold that reading frames asks for. -/
structure ErrsR (w : World) : Prop where
 type : w.cell? ⟨6, 0, none⟩ = some (.iface 96 (.agg #[.pointer (some ⟨10, 51, none⟩)]))
 cut : ∃ u y, w.cell? ⟨5, 0, none⟩ = some (.iface u y)
 bounds : ∃ u y, w.cell? ⟨7, 0, none⟩ = some (.iface u y)
 sum : ∃ u y, w.cell? ⟨8, 0, none⟩ = some (.iface u y)
theorem ErrsR.below {w w' : World} (h : ErrsR w) (hb : Below w.heap.size w w') : ErrsR w' := by
 obtain ⟨t, ⟨u1, y1, c1⟩, ⟨u2, y2, c2⟩, ⟨u3, y3, c3⟩⟩ := h
 exact ⟨cell_later hb t, ⟨u1, y1, cell_later hb c1⟩, ⟨u2, y2, cell_later hb c2⟩, ⟨u3, y3, cell_later hb c3⟩⟩
set_option maxHeartbeats 1000000 in
set_option maxRecDepth 100000 in
theorem itfF (b off cap len y : Nat) (l : List UInt8) (el : l.length = len) (hc : len ≤ cap) (h7 : 7 ≤ len) (ey : y = ofBE (l.take 3)) (n1' : ¬ y < 1) (n2' : ¬ 65536 < y) (hl : len ≤ 65536) (hfit0 : ¬ len - 7 < y) (heq : chk (l.take 3 ++ (l.drop 7).take y) = ((ofBE ((l.drop 3).take 4) : Nat) : Int)) (w : World) (hE : ErrsR w) (hr : Row8 w (some ⟨b, off, none⟩) l) :
  Calls Tryd.prog 51 #[.slice (some ⟨b, off, none⟩) len cap] w fun e w' => (∃ o1 o2 c1 c2, e = .returned (.tuple #[.slice (some ⟨b, o1, none⟩) y c1, .slice (some ⟨b, o2, none⟩) (len - 7 - y) c2, .nilIface]) ∧ len - 7 - y ≤ c2 ∧ Row8 w' (some ⟨b, o1, none⟩) ((l.drop 7).take y) ∧ Row8 w' (some ⟨b, o2, none⟩) ((l.drop 7).drop y)) ∧ Below w.heap.size w w' := by
 have HTL : Hid ((l.take 3).length = 3) := by show _ = _; rw [List.length_take]; omega
 have HDL : Hid ((l.drop 7).length = len - 7) := by show _ = _; rw [List.length_drop, el]
 have T1 := itake b off cap 7 l len el h7 hc w hr
 change Calls _ _ #[_, .int .i64 7] _ _ at T1
 have HEY : Hid (y = ofBE (l.take 3)) := ey
 have HE := hide hE
 obtain ⟨m, em⟩ : ∃ m, m = len - 7 := ⟨_, rfl⟩
 obtain ⟨cp, ecp⟩ : ∃ cp, cp = cap - 7 := ⟨_, rfl⟩
 have cap7 : 7 ≤ cap := by omega
 have cap7' : (7 : Int) ≤ (cap : Int) := by omega
 have n1 : ¬ (y : Int) < 1 := by omega
 have n2 : ¬ (65536 : Int) < (y : Int) := by omega
 have hfit : y ≤ m := by omega
 have hc2 : m ≤ cp := by omega
 have hsumle : 3 + y ≤ 65536 := by omega
 have HXL : Hid (((l.drop 7).take y).length = y) := by show _ = _; rw [List.length_take, List.length_drop]; omega
 have H4L : Hid (((l.drop 3).take 4).length = 4) := by show _ = _; rw [List.length_take, List.length_drop]; omega
 obtain ⟨S, hS⟩ : ∃ S, S = chk (l.take 3 ++ (l.drop 7).take y) := ⟨_, rfl⟩
 obtain ⟨S4, hS4⟩ : ∃ S4, S4 = ofBE ((l.drop 3).take 4) := ⟨_, rfl⟩
 have HS := hide hS
 have HS4 := hide hS4
 rw [← hS, ← hS4] at heq
 have hne2 : (S != (S4 : Int)) = false := by rw [heq]; simp
 rw [← em, ← ecp] at T1
 rw [← em] at HDL ⊢
 clear ey hr em ecp hE hS hS4 hfit0 heq
 go_enter Tryd.func51, Tryd.ntmps51
 go_wp2_with (first | (have hq := HNO; go_at_call 61; refine (itake b o2 cp y (l.drop 7) m (unhide HDL) hfit hc2 _ (unhide HR2)).mono ?_; rintro e w3 ⟨o3, rfl, hx, hrr, hb3⟩; have HX := hide hx; have HRR := hide hrr; have HB3 := hide ((unhide HB).trans (hb3.mono (unhide HB).size)); have HY3 := hide ((unhide HT3).below hb3); have HY7 := hide ((unhide HT7).below hb3); have HE3 := hide ((unhide HE1).below hb3); clear hx hrr hb3 HR2 HNO HT3 HT7 HE1) | (have hq := HT3; go_at_call 62; have h3 := inumber (some ⟨b, off, none⟩) cap (l.take 3) (by rw [unhide HTL]; decide) _ (unhide HT3); rw [unhide HTL, ← unhide HEY] at h3; refine h3.mono ?_; clear h3; rintro e w2 ⟨rfl, hw⟩; subst w2; have HNO := hide trivial) | (go_at_call 61; refine T1.mono ?_; clear T1; rintro e w1 ⟨o2, rfl, ht, hd, hb⟩; have HT7 := hide ht; have HT3 := hide (show Row8 w1 (some ⟨b, off, none⟩) (l.take 3) from (by have := row8_take ht 3; rwa [List.take_take] at this)); have HR2 := hide hd; have HB := hide hb; have HE1 := hide ((unhide HE).below hb); clear ht hd hb))
 go_region_held3 (fun _ => True) (trivial) (first | (have hq := HK; go_at_call 62; have h4 := inumber (some ⟨b, off + 3, none⟩) (cap - 3) ((l.drop 3).take 4) (by rw [unhide H4L]; decide) _ (unhide HK); rw [unhide H4L, ← unhide HS4] at h4; refine h4.mono ?_; clear h4; rintro e w5 ⟨rfl, hw⟩; subst w5) | (go_at_call 49; refine (iframesum (some ⟨b, off, none⟩) (some ⟨b, o2, none⟩) cap cp 3 y (l.take 3) ((l.drop 7).take y) (unhide HTL) (unhide HXL) (by decide) hsumle _ ((unhide HY3).below (Below.refl _ _).drew) ((unhide HX).below (Below.refl _ _).drew)).mono ?_; rintro e w4 ⟨rfl, hb4⟩; rw [← unhide HS]; have HB4 := hide ((unhide HB3).drew.trans (hb4.mono (unhide HB3).drew.size)); have HK := hide (show Row8 w4 (some ⟨b, off + 3, none⟩) ((l.drop 3).take 4) from (by have := row8_drop (((unhide HY7).below (Below.refl _ _).drew).below hb4) 3; rwa [List.drop_take] at this)); have HR4 := hide (((unhide HRR).below (Below.refl _ _).drew).below hb4); have HD4 := hide (((unhide HX).below (Below.refl _ _).drew).below hb4); have HE4 := hide ((unhide HE3).below (below_undrew hb4)); clear hb4))
 all_goals
  go_wp2_with fail
  go_ret3
  exact ⟨⟨o2, o3, cp, cp - y, rfl, by omega, unhide HD4, unhide HR4⟩, unhide HB4⟩
end Go.Proofs.YtamjljhbnhdgdaaDoor

/- impl.splitFrames and impl.ReadFrames: what the program answers at every row of bytes. -/
namespace Go.Proofs.YtamjljhbnhdgdaaDoor
open Go.RowKit Go.Extern.Stop Go.Stop Go.Extern Go.ChangeShapes Go.WideShapes Go.ChangeAt
set_option linter.unusedVariables false
theorem itfOk (b off cap len : Nat) (l : List UInt8) (el : l.length = len) (hc : len ≤ cap) (hl : len ≤ 65536) (h : frC l = 0) (w : World) (hE : ErrsR w) (hr : Row8 w (some ⟨b, off, none⟩) l) :
  Calls Tryd.prog 51 #[.slice (some ⟨b, off, none⟩) len cap] w fun e w' => (∃ o1 o2 c1 c2, e = .returned (.tuple #[.slice (some ⟨b, o1, none⟩) (frN l) c1, .slice (some ⟨b, o2, none⟩) (len - 7 - frN l) c2, .nilIface]) ∧ len - 7 - frN l ≤ c2 ∧ Row8 w' (some ⟨b, o1, none⟩) (frD l) ∧ Row8 w' (some ⟨b, o2, none⟩) (frT l)) ∧ Below w.heap.size w w' := by
 obtain ⟨h1, h2, h3, h4, h5⟩ := frC_ok h
 rw [el] at h1 h4
 exact itfF b off cap len (frN l) l el hc h1 rfl (by omega) (by omega) hl (by omega) h5 w hE hr
def sliceLen : Value → Nat
 | .slice _ n _ => n
 | _ => 0
theorem nil_ownT (w : World) (base : Nat) (t : TypeId) : w.ownsRow base t 1 (.slice none 0 0) ([] : List ByteArray).length (cS []) := World.ownsRow_nil w base t 1
theorem own_appT {w : World} {base : Nat} {e : TypeId} {v : Value} {l m : List ByteArray} {n : Nat} (h : w.ownsRow base e 1 v (l.length + n) (cS l ++ cS m)) (hn : m.length = n) : w.ownsRow base e 1 v (l ++ m).length (cS (l ++ m)) := by
 rw [cS_app, List.length_append, hn]; exact h
theorem row8_lowT {w w' : World} {B b o : Nat} {l : List UInt8} (h : Row8 w (some ⟨b, o, none⟩) l) (hB : b < B) (hb : Below B w w') : Row8 w' (some ⟨b, o, none⟩) l := by
 rcases h with h | ⟨b', off, e, hlt, hc⟩
 ·exact .inl h
 ·simp only [Option.some.injEq, Addr.mk.injEq, and_true] at e
  obtain ⟨rfl, rfl⟩ := e
  exact .inr ⟨b, o, rfl, Nat.lt_of_lt_of_le hlt hb.size, fun i hi => (hb.cell (p := ⟨b, o + i, none⟩) hB).trans (hc i hi)⟩
/-- What splitFrames answers. -/
def SplR (r : List ByteArray × Nat × Int) (w : World) (e : Ending) (w' : World) : Prop :=
 ∃ v, w'.ownsRow w.heap.size 9 1 v r.1.length (cS r.1) ∧ Below w.heap.size w w' ∧
  ((r.2.2 = 0 ∧ e = .returned (.tuple #[v, .nilIface])) ∨ (¬ r.2.2 = 0 ∧ ∃ u z, e = .returned (.tuple #[v, .iface 113 (.agg #[.int .i64 (r.2.1 : Int), .iface 107 (.agg #[.int .i64 r.2.2, .iface u z])])])))
end Go.Proofs.YtamjljhbnhdgdaaDoor

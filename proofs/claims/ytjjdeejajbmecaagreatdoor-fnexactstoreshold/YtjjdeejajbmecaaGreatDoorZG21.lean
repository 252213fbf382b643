/- Texts put together: IsX StoI. -/
import Derived.Test.YtjjdeejajbmecaaGreatDoorZFrmX
import Derived.Test.YtjjdeejajbmecaaGreatDoorZG5
import Derived.Lib.SmallJoins
import Derived.Test.YtjjdeejajbmecaaGreatDoorZG10
import Derived.Test.YtjjdeejajbmecaaGreatDoorZG7
/- errors.Is of a placed fault whose cause is of errors.New's make; storeCode of it. Go's own text is walked. -/
namespace Go.Proofs.YtjjdeejajbmecaaGreatDoor
open Go.ChangeShapes Go.WideShapes Go.ChangeAt Go.RowKit Go.Extern.Stop Go.Stop Go.Extern
set_option linter.unusedVariables false
theorem plc_noIs (v : Value) (xT : TypeId) (w : World) : (Instr.typeAssert (.iface 140 v) xT 159 true).run Tryz.prog w = .ok (.tuple #[.nilIface, .bool false]) w := run_typeAssert_lacksB Tryz.underlying159 (by kernel_rfl) (by kernel_rfl) v xT w
theorem flt_noIs (v : Value) (xT : TypeId) (w : World) : (Instr.typeAssert (.iface 146 v) xT 159 true).run Tryz.prog w = .ok (.tuple #[.nilIface, .bool false]) w := run_typeAssert_lacksB Tryz.underlying159 (by kernel_rfl) (by kernel_rfl) v xT w
theorem flt_hasUnwrap (v : Value) (xT : TypeId) (w : World) : (Instr.typeAssert (.iface 146 v) xT 162 true).run Tryz.prog w = .ok (.tuple #[.iface 146 v, .bool true]) w := run_typeAssert_hasB Tryz.underlying162 (by kernel_rfl) v xT w
theorem flt_mUnwrap (v : Value) (w : World) : (Go.method 321 146 v "Unwrap").run Tryz.prog w = .ok (143, v) w := by kernel_rfl
set_option maxHeartbeats 4000000 in
set_option maxRecDepth 100000 in
theorem iisx (p c : Int) (a b : Addr) (R : Bool) (w : World) (h : (R = true ∧ a = b) ∨ (R = false ∧ a ≠ b ∧ (∃ c t, w.heap[a.block]? = some (.cells c t (0, 0))) ∧ ∃ c t, w.heap[b.block]? = some (.cells c t (0, 0)))) :
  Calls Tryz.prog 98 #[.iface 140 (.agg #[.int .i64 p, .iface 146 (.agg #[.int .i64 c, .iface 190 (.pointer (some a))])]), .iface 190 (.pointer (some b))] w fun e w' => e = .returned (.bool R) ∧ Below w.heap.size w w' := by
 obtain ⟨i, hi, hcmp⟩ := Option.map_eq_some_iff.1 Tryz.eComp
 obtain ⟨j, hj, hjs⟩ := Option.map_eq_some_iff.1 Tryz.eSize
 have tT := typeOfE
 have cT := compOfE
 have mR := methOfE
 have l1 := fun v xT w => (lackE v xT w).1
 have l2 := fun v xT w => (lackE v xT w).2.1
 have l3 := fun v xT w => (lackE v xT w).2.2
 have p1 := plc_noIs
 have p2 := plc_hasUnwrap
 have p3 := plc_mUnwrap
 have q1 := flt_noIs
 have q2 := flt_hasUnwrap
 have q3 := flt_mUnwrap
 have n1 := run_eql_iface_types (P := Tryz.prog) 140 190 (.agg #[.int .i64 p, .iface 146 (.agg #[.int .i64 c, .iface 190 (.pointer (some a))])]) (.pointer (some b)) Tryz.underlying126 (by decide)
 have n2 := run_eql_iface_types (P := Tryz.prog) 146 190 (.agg #[.int .i64 c, .iface 190 (.pointer (some a))]) (.pointer (some b)) Tryz.underlying126 (by decide)
 have HB := hide (Go.Joins.below_alloc2 w (.cells #[.int .i64 p, .iface 146 (.agg #[.int .i64 c, .iface 190 (.pointer (some a))])] 140) (.cells #[.int .i64 c, .iface 190 (.pointer (some a))] 146))
 rcases h with ⟨rfl, rfl⟩ | ⟨rfl, hne, ha0, hb0⟩
 ·have heq := fun w => run_eql_iface_ptr_same (P := Tryz.prog) w a Tryz.underlying126 Tryz.underlying190 hi hcmp hj
  go_enter Tryz.func98, Tryz.ntmps98
  go_wp2
  refine wp_loop_rounds 3 ?_
  rw [rounds_succ]
  go_wp2
  rw [rounds_succ]
  go_wp2
  rw [rounds_succ]
  go_wp2
  go_ret
  exact ⟨rfl, unhide HB⟩
 ·obtain ⟨ca, ta, ha⟩ := blk_old (unhide HB) ha0
  obtain ⟨cb, tb, hb⟩ := blk_old (unhide HB) hb0
  have heq := run_eql_iface_ptr_other (P := Tryz.prog) _ Tryz.underlying126 Tryz.underlying190 hi hcmp hj (by rw [hjs]; decide) hne ha hb
  clear ha hb ha0 hb0
  go_enter Tryz.func98, Tryz.ntmps98
  go_wp2
  refine wp_loop_rounds 3 ?_
  rw [rounds_succ]
  go_wp2
  rw [rounds_succ]
  go_wp2
  rw [rounds_succ]
  go_wp2
  go_ret
  exact ⟨rfl, unhide HB⟩
set_option maxHeartbeats 4000000 in
set_option maxRecDepth 100000 in
/-- storeCode of a placed fault whose cause is none of the five: its own code. -/
theorem icodex (p c : Int) (a : Addr) {x0 x1 x2 x3 x4 : Addr} (w : World) (h : StE w x0 x1 x2 x3 x4) (hg : w.cell? ⟨8, 0, none⟩ = some (.iface 157 (.agg #[.pointer (some ⟨10, 126, none⟩)]))) (hba : ∃ c t, w.heap[a.block]? = some (.cells c t (0, 0))) (hn : a ≠ x0 ∧ a ≠ x1 ∧ a ≠ x2 ∧ a ≠ x3 ∧ a ≠ x4) :
  Calls Tryz.prog 92 #[.iface 140 (.agg #[.int .i64 p, .iface 146 (.agg #[.int .i64 c, .iface 190 (.pointer (some a))])])] w fun e w' => e = .returned (.int .i64 c) ∧ Below w.heap.size w w' := by
 have HS := hide h
 have HG := hide hg
 have HA := hide hba
 have HN := hide hn
 have c0 := h.g0
 clear h hg hba hn
 go_enter Tryz.func92, Tryz.ntmps92
 go_wp2_with fail
 refine (iisx p c a x0 false w (.inr ⟨rfl, (unhide HN).1, unhide HA, (unhide HS).b0⟩)).mono ?_
 rintro e w1 ⟨rfl, hb1⟩
 have B1 := hide hb1
 clear c0 hb1
 have c1 := ((unhide HS).below (unhide B1)).g1
 go_wp2_with fail
 refine (iisx p c a x1 false w1 (.inr ⟨rfl, (unhide HN).2.1, blk_old (unhide B1) (unhide HA), ((unhide HS).below (unhide B1)).b1⟩)).mono ?_
 rintro e w2 ⟨rfl, hb2⟩
 have B2 := hide ((unhide B1).trans (hb2.mono (unhide B1).size))
 clear c1 hb2
 have c2 := ((unhide HS).below (unhide B2)).g2
 go_wp2_with fail
 refine (iisx p c a x2 false w2 (.inr ⟨rfl, (unhide HN).2.2.1, blk_old (unhide B2) (unhide HA), ((unhide HS).below (unhide B2)).b2⟩)).mono ?_
 rintro e w3 ⟨rfl, hb3⟩
 have B3 := hide ((unhide B2).trans (hb3.mono (unhide B2).size))
 clear c2 hb3
 have c3 := ((unhide HS).below (unhide B3)).g3
 go_wp2_with fail
 refine (iisx p c a x3 false w3 (.inr ⟨rfl, (unhide HN).2.2.2.1, blk_old (unhide B3) (unhide HA), ((unhide HS).below (unhide B3)).b3⟩)).mono ?_
 rintro e w4 ⟨rfl, hb4⟩
 have B4 := hide ((unhide B3).trans (hb4.mono (unhide B3).size))
 clear c3 hb4
 have c4 := ((unhide HS).below (unhide B4)).g4
 go_wp2_with fail
 refine (iisx p c a x4 false w4 (.inr ⟨rfl, (unhide HN).2.2.2.2, blk_old (unhide B4) (unhide HA), ((unhide HS).below (unhide B4)).b4⟩)).mono ?_
 rintro e w5 ⟨rfl, hb5⟩
 have B5 := hide ((unhide B4).trans (hb5.mono (unhide B4).size))
 clear c4 hb5
 go_wp2_with fail
 refine (ifcodeP p c _ _ w5 (cell_later (unhide B5) (unhide HG))).mono ?_
 rintro e w6 ⟨rfl, hb6⟩
 have B6 := hide ((unhide B5).trans (hb6.mono (unhide B5).size))
 clear hb6
 go_wp2_with fail
 go_ret
 exact ⟨rfl, unhide B6⟩
set_option maxHeartbeats 1000000 in
set_option maxRecDepth 100000 in
theorem iis_nil (b : Addr) (w : World) : Calls Tryz.prog 98 #[.nilIface, .iface 190 (.pointer (some b))] w fun e w' => e = .returned (.bool false) ∧ w' = w := by
 have n1 := fun w => run_eql_iface_nil_left (P := Tryz.prog) w 190 (.pointer (some b)) Tryz.underlying126
 go_enter Tryz.func98, Tryz.ntmps98
 go_wp2
 go_ret
 exact ⟨rfl, rfl⟩
/-- What wholeRecords answers: the frames, and an error if a sum is not right. -/
def WhX (xb xs : Addr) (r : List ByteArray × Nat × Int) (w : World) (e : Ending) (w' : World) : Prop :=
 ∃ v, w'.ownsRow w.heap.size 9 1 v r.1.length (cS r.1) ∧ Below w.heap.size w w' ∧
  ((¬ r.2.2 = 8 ∧ e = .returned (.tuple #[v, .nilIface])) ∨ (r.2.2 = 8 ∧ ∃ x, (x = xb ∨ x = xs) ∧ e = .returned (.tuple #[v, .iface 140 (.agg #[.int .i64 (r.2.1 : Int), .iface 146 (.agg #[.int .i64 8, .iface 190 (.pointer (some x))])])])))
theorem to_textX (w : World) (t : ByteArray) : ∃ w' cap, (convert 9 102 (.string t)).run Tryz.prog w = .ok (.slice (some ⟨w.heap.size, 0, none⟩) t.size cap) w' ∧ Row8 w' (some ⟨w.heap.size, 0, none⟩) t.data.toList ∧ t.size ≤ cap ∧ Below w.heap.size w w' ∧ w.heap.size < w'.heap.size :=
 ⟨_, _, Go.Lib.run_convert_string_bytes w 9 102 5 t Tryz.underlying9 Tryz.underlying102 Tryz.underlying5, bytes_rowT w t, grownCap_ge _ _ _ _, bytes_belowT w t, by rw [Go.Lib.bytesWorld_size]; omega⟩
set_option maxHeartbeats 4000000 in
set_option maxRecDepth 100000 in
theorem iwhole (t : ByteArray) (sz : Nat) (hsz : sz = t.size) (ht : sz ≤ 65536) {xc xb xs : Addr} (w : World) (hE : ErrsX w xc xb xs) (hn : xb ≠ xc ∧ xs ≠ xc) :
  Calls Tryz.prog 91 #[.string t] w fun e w' => WhX xb xs (frs sz t.data.toList) w e w' := by
 obtain ⟨wc, cap0, h1, h2, h3, h4, h5⟩ := to_textX w t
 rw [← hsz] at h1 h3
 have T := isplitx w.heap.size 0 cap0 sz t.data.toList (by rw [sizeT, hsz]) h3 ht wc h5 (hE.below h4) h2
 have BC := hide h4
 have HE := hide hE
 obtain ⟨r, hr⟩ : ∃ r, r = frs sz t.data.toList := ⟨_, rfl⟩
 rw [← hr] at T ⊢
 clear h2 h3 h4 h5 hE hr hsz
 go_enter Tryz.func91, Tryz.ntmps91
 go_wp2_with fail
 refine T.mono ?_
 clear T h1
 rintro e w1 ⟨v, ho, hb, hor⟩
 have B1 := hide ((unhide BC).trans (hb.mono (unhide BC).size))
 have O1 := hide (Go.Joins.ownsRow_le ho (unhide BC).size)
 obtain ⟨av, cv, rfl, -⟩ := own_rowV ho
 have cE := ((unhide HE).below (unhide B1)).cut
 clear ho hb
 rcases hor with ⟨h0, rfl⟩ | ⟨x, hx, rfl⟩
 ·have H8 : Hid (¬ r.2.2 = 8) := by show ¬ _; rw [h0]; decide
  clear h0
  go_wp2_with fail
  refine (iis_nil xc w1).mono ?_
  rintro e w2 ⟨rfl, hw⟩
  subst hw
  go_wp2_with fail
  go_ret2
  exact ⟨_, unhide O1, unhide B1, .inl ⟨unhide H8, rfl⟩⟩
 ·have HX := hide hx
  have XE := hide ((unhide HE).below (unhide B1))
  obtain ⟨q, hq⟩ : ∃ q : Int, q = (r.2.1 : Int) := ⟨_, rfl⟩
  obtain ⟨c, hc⟩ : ∃ c : Int, c = r.2.2 := ⟨_, rfl⟩
  rw [← hq, ← hc]
  have HQ := hide hq
  have HC := hide hc
  rcases hx with ⟨h14, rfl⟩ | ⟨h8, hx2⟩
  ·have H8 : Hid (¬ r.2.2 = 8) := by show ¬ _; rw [h14]; decide
   clear h14 hq hc HX
   go_wp2_with fail
   refine (iisx q c x x true w1 (.inl ⟨rfl, rfl⟩)).mono ?_
   rintro e w2 ⟨rfl, hb2⟩
   have B2 := hide ((unhide B1).trans (hb2.mono (unhide B1).size))
   have O2 := hide (((held_of (unhide O1)).below hb2 (Nat.le_refl _)).own)
   clear hb2
   go_wp2_with fail
   go_ret2
   exact ⟨_, unhide O2, unhide B2, .inl ⟨unhide H8, rfl⟩⟩
  ·have H8 := hide h8
   have HX2 := hide hx2
   have hne : x ≠ xc := by rcases hx2 with rfl | rfl; exact hn.1; exact hn.2
   have hbx : ∃ c t, w1.heap[x.block]? = some (.cells c t (0, 0)) := by rcases hx2 with rfl | rfl; exact (unhide XE).bb; exact (unhide XE).bs
   have T2 := hide (iisx q c x xc false w1 (.inr ⟨rfl, hne, hbx, (unhide XE).bc⟩))
   clear h8 hx2 hq hc HX hne hbx hn
   go_wp2_with fail
   refine (unhide T2).mono ?_
   rintro e w2 ⟨rfl, hb2⟩
   have B2 := hide ((unhide B1).trans (hb2.mono (unhide B1).size))
   have O2 := hide (((held_of (unhide O1)).below hb2 (Nat.le_refl _)).own)
   clear hb2
   go_wp2_with fail
   go_ret2
   exact ⟨_, unhide O2, unhide B2, .inr ⟨unhide H8, x, unhide HX2, by rw [unhide HQ, unhide HC, unhide H8]; rfl⟩⟩
end Go.Proofs.YtjjdeejajbmecaaGreatDoor

/- Stores: what the program answers. -/
namespace Go.Proofs.YtjjdeejajbmecaaGreatDoor
open Go.ChangeShapes Go.WideShapes Go.ChangeAt Go.RowKit
set_option linter.unusedVariables false
set_option maxHeartbeats 1000000 in
set_option maxRecDepth 100000 in
theorem istoreok (d : ByteArray) (s : Int) (hd : Hid (d.size ≤ maxLen)) (R : Bool) (HR : Hid (R = stoB d s)) (w : World) : Calls Tryz.prog 90 #[.agg #[.string d, .int .i64 s]] w fun e w' => e = .returned (.bool R) ∧ Below w.heap.size w w' := by
 have HB := hide (Go.Joins.below_alloc1 w (.cells #[.string d, .int .i64 s] 48))
 have h1 := unhide hd
 unfold maxLen at h1
 obtain ⟨a, ha⟩ : ∃ a : Nat, a = d.size := ⟨_, rfl⟩
 have HA := hide ha
 rw [← ha] at h1
 have la : (d.size : Int) = (a : Int) := by rw [ha]
 clear ha
 by_cases c1 : a ≤ 60000
 ·have HS : Hid (R = inB s 0 (a : Int)) := by
   show R = _
   rw [unhide HR, stoB, ← unhide HA, decide_eq_true c1, Bool.true_and]
  go_enter Tryz.func90, Tryz.ntmps90
  go_wp2_with fail
  refine (iwi s 0 (a : Int) R HS _).mono ?_
  rintro e w1 ⟨rfl, rfl⟩
  go_wp2_with fail
  go_ret
  exact ⟨rfl, unhide HB⟩
 ·have HS : R = false := by rw [unhide HR, stoB, ← unhide HA, decide_eq_false c1, Bool.false_and]
  subst HS
  go_enter Tryz.func90, Tryz.ntmps90
  go_wp2_with fail
  go_ret
  exact ⟨rfl, unhide HB⟩
set_option maxHeartbeats 1000000 in
set_option maxRecDepth 100000 in
theorem isure (d : ByteArray) (a : Nat) (ha : Hid (d.size = a)) (hd : a ≤ 60000) (w : World) : Calls Tryz.prog 94 #[.string d] w fun e w' => e = .returned (.agg #[.string d, .int .i64 (a : Int)]) ∧ Below w.heap.size w w' := by
 have la : (d.size : Int) = (a : Int) := by rw [unhide ha]
 go_enter Tryz.func94, Tryz.ntmps94
 go_wp2_with fail
 refine bodyPost_ret (v := .agg #[.string d, .int .i64 (a : Int)]) (by simp [results, Tryz.results94, go_sem]) rfl ⟨rfl, ?_⟩
 first | exact Go.Joins.below_alloc2 w _ _ | exact Go.Joins.below_alloc1 w _
end Go.Proofs.YtjjdeejajbmecaaGreatDoor

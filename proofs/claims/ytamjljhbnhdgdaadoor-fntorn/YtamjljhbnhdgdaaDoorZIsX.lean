/- errors.Is of a placed fault whose cause is of errors.New's make; storeCode of it. Go's own text is walked. -/
import Derived.Test.YtamjljhbnhdgdaaDoorZFrmX
import Derived.Test.YtamjljhbnhdgdaaDoorZG2
import Derived.Lib.SmallJoins
namespace Go.Proofs.YtamjljhbnhdgdaaDoor
open Go.ChangeShapes Go.WideShapes Go.ChangeAt Go.RowKit Go.Extern.Stop Go.Stop Go.Extern
set_option linter.unusedVariables false
theorem plc_noIs (v : Value) (xT : TypeId) (w : World) : (Instr.typeAssert (.iface 113 v) xT 98 true).run Tryd.prog w = .ok (.tuple #[.nilIface, .bool false]) w := run_typeAssert_lacksB Tryd.underlying98 (by kernel_rfl) (by kernel_rfl) v xT w
theorem flt_noIs (v : Value) (xT : TypeId) (w : World) : (Instr.typeAssert (.iface 107 v) xT 98 true).run Tryd.prog w = .ok (.tuple #[.nilIface, .bool false]) w := run_typeAssert_lacksB Tryd.underlying98 (by kernel_rfl) (by kernel_rfl) v xT w
theorem flt_hasUnwrap (v : Value) (xT : TypeId) (w : World) : (Instr.typeAssert (.iface 107 v) xT 101 true).run Tryd.prog w = .ok (.tuple #[.iface 107 v, .bool true]) w := run_typeAssert_hasB Tryd.underlying101 (by kernel_rfl) v xT w
theorem flt_mUnwrap (v : Value) (w : World) : (Go.method 276 107 v "Unwrap").run Tryd.prog w = .ok (100, v) w := by kernel_rfl
set_option maxHeartbeats 4000000 in
set_option maxRecDepth 100000 in
theorem iisx (p c : Int) (a b : Addr) (R : Bool) (w : World) (h : (R = true ∧ a = b) ∨ (R = false ∧ a ≠ b ∧ (∃ c t, w.heap[a.block]? = some (.cells c t (0, 0))) ∧ ∃ c t, w.heap[b.block]? = some (.cells c t (0, 0)))) :
  Calls Tryd.prog 19 #[.iface 113 (.agg #[.int .i64 p, .iface 107 (.agg #[.int .i64 c, .iface 145 (.pointer (some a))])]), .iface 145 (.pointer (some b))] w fun e w' => e = .returned (.bool R) ∧ Below w.heap.size w w' := by
 obtain ⟨i, hi, hcmp⟩ := Option.map_eq_some_iff.1 Tryd.eComp
 obtain ⟨j, hj, hjs⟩ := Option.map_eq_some_iff.1 Tryd.eSize
 have tT := typeOfE
 have cT := compOfE
 have mR := methOfE
 have l1 := fun v xT w => (lackE v xT w).1
 have l2 := fun v xT w => (lackE v xT w).2.1
 have l3 := fun v xT w => (lackE v xT w).2.2
 have p1 := plc_noIs
 have p2 := plc_hasUnwrap
 have p3 := plc_mUnwrap
 have q1 := flt_noIs
 have q2 := flt_hasUnwrap
 have q3 := flt_mUnwrap
 have n1 := run_eql_iface_types (P := Tryd.prog) 113 145 (.agg #[.int .i64 p, .iface 107 (.agg #[.int .i64 c, .iface 145 (.pointer (some a))])]) (.pointer (some b)) Tryd.underlying51 (by decide)
 have n2 := run_eql_iface_types (P := Tryd.prog) 107 145 (.agg #[.int .i64 c, .iface 145 (.pointer (some a))]) (.pointer (some b)) Tryd.underlying51 (by decide)
 have HB := hide (Go.Joins.below_alloc2 w (.cells #[.int .i64 p, .iface 107 (.agg #[.int .i64 c, .iface 145 (.pointer (some a))])] 113) (.cells #[.int .i64 c, .iface 145 (.pointer (some a))] 107))
 rcases h with ⟨rfl, rfl⟩ | ⟨rfl, hne, ha0, hb0⟩
 ·have heq := fun w => run_eql_iface_ptr_same (P := Tryd.prog) w a Tryd.underlying51 Tryd.underlying145 hi hcmp hj
  go_enter Tryd.func19, Tryd.ntmps19
  go_wp2
  refine wp_loop_rounds 3 ?_
  rw [rounds_succ]
  go_wp2
  rw [rounds_succ]
  go_wp2
  rw [rounds_succ]
  go_wp2
  go_ret
  exact ⟨rfl, unhide HB⟩
 ·obtain ⟨ca, ta, ha⟩ := blk_old (unhide HB) ha0
  obtain ⟨cb, tb, hb⟩ := blk_old (unhide HB) hb0
  have heq := run_eql_iface_ptr_other (P := Tryd.prog) _ Tryd.underlying51 Tryd.underlying145 hi hcmp hj (by rw [hjs]; decide) hne ha hb
  clear ha hb ha0 hb0
  go_enter Tryd.func19, Tryd.ntmps19
  go_wp2
  refine wp_loop_rounds 3 ?_
  rw [rounds_succ]
  go_wp2
  rw [rounds_succ]
  go_wp2
  rw [rounds_succ]
  go_wp2
  go_ret
  exact ⟨rfl, unhide HB⟩
set_option maxHeartbeats 4000000 in
set_option maxRecDepth 100000 in
/-- storeCode of a placed fault whose cause is none of the five: its own code. -/
theorem icodex (p c : Int) (a : Addr) {x0 x1 x2 x3 x4 : Addr} (w : World) (h : StE w x0 x1 x2 x3 x4) (hg : w.cell? ⟨6, 0, none⟩ = some (.iface 96 (.agg #[.pointer (some ⟨10, 51, none⟩)]))) (hba : ∃ c t, w.heap[a.block]? = some (.cells c t (0, 0))) (hn : a ≠ x0 ∧ a ≠ x1 ∧ a ≠ x2 ∧ a ≠ x3 ∧ a ≠ x4) :
  Calls Tryd.prog 20 #[.iface 113 (.agg #[.int .i64 p, .iface 107 (.agg #[.int .i64 c, .iface 145 (.pointer (some a))])])] w fun e w' => e = .returned (.int .i64 c) ∧ Below w.heap.size w w' := by
 have HS := hide h
 have HG := hide hg
 have HA := hide hba
 have HN := hide hn
 have c0 := h.g0
 clear h hg hba hn
 go_enter Tryd.func20, Tryd.ntmps20
 go_wp2_with fail
 refine (iisx p c a x0 false w (.inr ⟨rfl, (unhide HN).1, unhide HA, (unhide HS).b0⟩)).mono ?_
 rintro e w1 ⟨rfl, hb1⟩
 have B1 := hide hb1
 clear c0 hb1
 have c1 := ((unhide HS).below (unhide B1)).g1
 go_wp2_with fail
 refine (iisx p c a x1 false w1 (.inr ⟨rfl, (unhide HN).2.1, blk_old (unhide B1) (unhide HA), ((unhide HS).below (unhide B1)).b1⟩)).mono ?_
 rintro e w2 ⟨rfl, hb2⟩
 have B2 := hide ((unhide B1).trans (hb2.mono (unhide B1).size))
 clear c1 hb2
 have c2 := ((unhide HS).below (unhide B2)).g2
 go_wp2_with fail
 refine (iisx p c a x2 false w2 (.inr ⟨rfl, (unhide HN).2.2.1, blk_old (unhide B2) (unhide HA), ((unhide HS).below (unhide B2)).b2⟩)).mono ?_
 rintro e w3 ⟨rfl, hb3⟩
 have B3 := hide ((unhide B2).trans (hb3.mono (unhide B2).size))
 clear c2 hb3
 have c3 := ((unhide HS).below (unhide B3)).g3
 go_wp2_with fail
 refine (iisx p c a x3 false w3 (.inr ⟨rfl, (unhide HN).2.2.2.1, blk_old (unhide B3) (unhide HA), ((unhide HS).below (unhide B3)).b3⟩)).mono ?_
 rintro e w4 ⟨rfl, hb4⟩
 have B4 := hide ((unhide B3).trans (hb4.mono (unhide B3).size))
 clear c3 hb4
 have c4 := ((unhide HS).below (unhide B4)).g4
 go_wp2_with fail
 refine (iisx p c a x4 false w4 (.inr ⟨rfl, (unhide HN).2.2.2.2, blk_old (unhide B4) (unhide HA), ((unhide HS).below (unhide B4)).b4⟩)).mono ?_
 rintro e w5 ⟨rfl, hb5⟩
 have B5 := hide ((unhide B4).trans (hb5.mono (unhide B4).size))
 clear c4 hb5
 go_wp2_with fail
 refine (ifcodeP p c _ _ w5 (cell_later (unhide B5) (unhide HG))).mono ?_
 rintro e w6 ⟨rfl, hb6⟩
 have B6 := hide ((unhide B5).trans (hb6.mono (unhide B5).size))
 clear hb6
 go_wp2_with fail
 go_ret
 exact ⟨rfl, unhide B6⟩
set_option maxHeartbeats 1000000 in
set_option maxRecDepth 100000 in
theorem iis_nil (b : Addr) (w : World) : Calls Tryd.prog 19 #[.nilIface, .iface 145 (.pointer (some b))] w fun e w' => e = .returned (.bool false) ∧ w' = w := by
 have n1 := fun w => run_eql_iface_nil_left (P := Tryd.prog) w 145 (.pointer (some b)) Tryd.underlying51
 go_enter Tryd.func19, Tryd.ntmps19
 go_wp2
 go_ret
 exact ⟨rfl, rfl⟩
/-- What wholeRecords answers: the frames, and an error if a sum is not right. -/
def WhX (xb xs : Addr) (r : List ByteArray × Nat × Int) (w : World) (e : Ending) (w' : World) : Prop :=
 ∃ v, w'.ownsRow w.heap.size 9 1 v r.1.length (cS r.1) ∧ Below w.heap.size w w' ∧
  ((¬ r.2.2 = 8 ∧ e = .returned (.tuple #[v, .nilIface])) ∨ (r.2.2 = 8 ∧ ∃ x, (x = xb ∨ x = xs) ∧ e = .returned (.tuple #[v, .iface 113 (.agg #[.int .i64 (r.2.1 : Int), .iface 107 (.agg #[.int .i64 8, .iface 145 (.pointer (some x))])])])))
theorem to_textX (w : World) (t : ByteArray) : ∃ w' cap, (convert 9 22 (.string t)).run Tryd.prog w = .ok (.slice (some ⟨w.heap.size, 0, none⟩) t.size cap) w' ∧ Row8 w' (some ⟨w.heap.size, 0, none⟩) t.data.toList ∧ t.size ≤ cap ∧ Below w.heap.size w w' ∧ w.heap.size < w'.heap.size :=
 ⟨_, _, Go.Lib.run_convert_string_bytes w 9 22 5 t Tryd.underlying9 Tryd.underlying22 Tryd.underlying5, bytes_rowT w t, grownCap_ge _ _ _ _, bytes_belowT w t, by rw [Go.Lib.bytesWorld_size]; omega⟩
set_option maxHeartbeats 4000000 in
set_option maxRecDepth 100000 in
theorem iwhole (t : ByteArray) (sz : Nat) (hsz : sz = t.size) (ht : sz ≤ 65536) {xc xb xs : Addr} (w : World) (hE : ErrsX w xc xb xs) (hn : xb ≠ xc ∧ xs ≠ xc) :
  Calls Tryd.prog 22 #[.string t] w fun e w' => WhX xb xs (frs sz t.data.toList) w e w' := by
 obtain ⟨wc, cap0, h1, h2, h3, h4, h5⟩ := to_textX w t
 rw [← hsz] at h1 h3
 have T := isplitx w.heap.size 0 cap0 sz t.data.toList (by rw [sizeT, hsz]) h3 ht wc h5 (hE.below h4) h2
 have BC := hide h4
 have HE := hide hE
 obtain ⟨r, hr⟩ : ∃ r, r = frs sz t.data.toList := ⟨_, rfl⟩
 rw [← hr] at T ⊢
 clear h2 h3 h4 h5 hE hr hsz
 go_enter Tryd.func22, Tryd.ntmps22
 go_wp2_with fail
 refine T.mono ?_
 clear T h1
 rintro e w1 ⟨v, ho, hb, hor⟩
 have B1 := hide ((unhide BC).trans (hb.mono (unhide BC).size))
 have O1 := hide (Go.Joins.ownsRow_le ho (unhide BC).size)
 obtain ⟨av, cv, rfl, -⟩ := own_rowV ho
 have cE := ((unhide HE).below (unhide B1)).cut
 clear ho hb
 rcases hor with ⟨h0, rfl⟩ | ⟨x, hx, rfl⟩
 ·have H8 : Hid (¬ r.2.2 = 8) := by show ¬ _; rw [h0]; decide
  clear h0
  go_wp2_with fail
  refine (iis_nil xc w1).mono ?_
  rintro e w2 ⟨rfl, hw⟩
  subst hw
  go_wp2_with fail
  go_ret2
  exact ⟨_, unhide O1, unhide B1, .inl ⟨unhide H8, rfl⟩⟩
 ·have HX := hide hx
  have XE := hide ((unhide HE).below (unhide B1))
  obtain ⟨q, hq⟩ : ∃ q : Int, q = (r.2.1 : Int) := ⟨_, rfl⟩
  obtain ⟨c, hc⟩ : ∃ c : Int, c = r.2.2 := ⟨_, rfl⟩
  rw [← hq, ← hc]
  have HQ := hide hq
  have HC := hide hc
  rcases hx with ⟨h14, rfl⟩ | ⟨h8, hx2⟩
  ·have H8 : Hid (¬ r.2.2 = 8) := by show ¬ _; rw [h14]; decide
   clear h14 hq hc HX
   go_wp2_with fail
   refine (iisx q c x x true w1 (.inl ⟨rfl, rfl⟩)).mono ?_
   rintro e w2 ⟨rfl, hb2⟩
   have B2 := hide ((unhide B1).trans (hb2.mono (unhide B1).size))
   have O2 := hide (((held_of (unhide O1)).below hb2 (Nat.le_refl _)).own)
   clear hb2
   go_wp2_with fail
   go_ret2
   exact ⟨_, unhide O2, unhide B2, .inl ⟨unhide H8, rfl⟩⟩
  ·have H8 := hide h8
   have HX2 := hide hx2
   have hne : x ≠ xc := by rcases hx2 with rfl | rfl; exact hn.1; exact hn.2
   have hbx : ∃ c t, w1.heap[x.block]? = some (.cells c t (0, 0)) := by rcases hx2 with rfl | rfl; exact (unhide XE).bb; exact (unhide XE).bs
   have T2 := hide (iisx q c x xc false w1 (.inr ⟨rfl, hne, hbx, (unhide XE).bc⟩))
   clear h8 hx2 hq hc HX hne hbx hn
   go_wp2_with fail
   refine (unhide T2).mono ?_
   rintro e w2 ⟨rfl, hb2⟩
   have B2 := hide ((unhide B1).trans (hb2.mono (unhide B1).size))
   have O2 := hide (((held_of (unhide O1)).below hb2 (Nat.le_refl _)).own)
   clear hb2
   go_wp2_with fail
   go_ret2
   exact ⟨_, unhide O2, unhide B2, .inr ⟨unhide H8, x, unhide HX2, by rw [unhide HQ, unhide HC, unhide H8]; rfl⟩⟩
end Go.Proofs.YtamjljhbnhdgdaaDoor

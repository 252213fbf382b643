/- Texts put together: StE ByteS. -/
import Derived.Test.YtialpepklejejaaDoorZG10
import Derived.Test.YtialpepklejejaaDoorZG3
import Derived.Test.YtialpepklejejaaDoorZG0
/- The named errors of stores: what the listed variables hold; storeCode. -/
namespace Go.Proofs.YtialpepklejejaaDoor
open Go.ChangeShapes Go.WideShapes Go.ChangeAt Go.RowKit
set_option linter.unusedVariables false
/-- Five named errors, each of its own. -/
structure StE (w : World) (x0 x1 x2 x3 x4 : Addr) : Prop where
  g0 : w.cell? ⟨1, 0, none⟩ = some (.iface 126 (.pointer (some x0)))
  g1 : w.cell? ⟨2, 0, none⟩ = some (.iface 126 (.pointer (some x1)))
  g2 : w.cell? ⟨3, 0, none⟩ = some (.iface 126 (.pointer (some x2)))
  g3 : w.cell? ⟨4, 0, none⟩ = some (.iface 126 (.pointer (some x3)))
  g4 : w.cell? ⟨5, 0, none⟩ = some (.iface 126 (.pointer (some x4)))
  b0 : ∃ c t, w.heap[x0.block]? = some (.cells c t (0, 0))
  b1 : ∃ c t, w.heap[x1.block]? = some (.cells c t (0, 0))
  b2 : ∃ c t, w.heap[x2.block]? = some (.cells c t (0, 0))
  b3 : ∃ c t, w.heap[x3.block]? = some (.cells c t (0, 0))
  b4 : ∃ c t, w.heap[x4.block]? = some (.cells c t (0, 0))
  ne : [x0, x1, x2, x3, x4].Pairwise (· ≠ ·)
theorem cell_old {w w' : World} {a : Addr} {v : Value} (hb : Below w.heap.size w w') (h : w.cell? a = some v) : w'.cell? a = some v := (hb.cell (p := a) (World.block_lt_of_cell? w _ h)).trans h
theorem blk_old {w w' : World} {n : Nat} (hb : Below w.heap.size w w') (h : ∃ c t, w.heap[n]? = some (.cells c t (0, 0))) : ∃ c t, w'.heap[n]? = some (.cells c t (0, 0)) := by
  obtain ⟨c, t, h⟩ := h
  exact ⟨c, t, (hb.block n (by obtain ⟨h1, -⟩ := Array.getElem?_eq_some_iff.1 h; exact h1)).trans h⟩
theorem StE.below {w w' : World} {x0 x1 x2 x3 x4 : Addr} (h : StE w x0 x1 x2 x3 x4) (hb : Below w.heap.size w w') : StE w' x0 x1 x2 x3 x4 :=
  ⟨cell_old hb h.g0, cell_old hb h.g1, cell_old hb h.g2, cell_old hb h.g3, cell_old hb h.g4, blk_old hb h.b0, blk_old hb h.b1, blk_old hb h.b2, blk_old hb h.b3, blk_old hb h.b4, h.ne⟩
theorem StE.pairs {w : World} {x0 x1 x2 x3 x4 : Addr} (h : StE w x0 x1 x2 x3 x4) : (x0 ≠ x1 ∧ x0 ≠ x2 ∧ x0 ≠ x3 ∧ x0 ≠ x4) ∧ (x1 ≠ x2 ∧ x1 ≠ x3 ∧ x1 ≠ x4) ∧ (x2 ≠ x3 ∧ x2 ≠ x4) ∧ x3 ≠ x4 := by
  have := h.ne; simp at this; exact this
set_option maxHeartbeats 1000000 in
set_option maxRecDepth 100000 in
theorem icode0 (w : World) : Calls Tryd.prog 17 #[.nilIface] w fun e w' => e = .returned (.int .i64 0) ∧ w' = w := by
  go_enter Tryd.func17, Tryd.ntmps17
  go_wp2_with fail
  go_ret
  exact ⟨rfl, rfl⟩
set_option maxHeartbeats 1000000 in
set_option maxRecDepth 100000 in
theorem icode_0 {x0 x1 x2 x3 x4 : Addr} (w : World) (h : StE w x0 x1 x2 x3 x4) : Calls Tryd.prog 17 #[.iface 126 (.pointer (some x0))] w fun e w' => e = .returned (.int .i64 3) ∧ w' = w := by
  have hp := h.pairs
  have HE := hide h
  have c0 := h.g0
  have T0 := hide (iis x0 x0 true w (.inl ⟨rfl, rfl⟩))
  clear h hp HE
  go_enter Tryd.func17, Tryd.ntmps17
  go_wp2_with fail
  refine (unhide T0).mono ?_
  rintro e w0 ⟨rfl, hw⟩
  subst hw
  go_wp2_with fail
  go_ret
  exact ⟨rfl, rfl⟩
set_option maxHeartbeats 1000000 in
set_option maxRecDepth 100000 in
theorem icode_1 {x0 x1 x2 x3 x4 : Addr} (w : World) (h : StE w x0 x1 x2 x3 x4) : Calls Tryd.prog 17 #[.iface 126 (.pointer (some x1))] w fun e w' => e = .returned (.int .i64 3) ∧ w' = w := by
  have hp := h.pairs
  have HE := hide h
  have c0 := h.g0
  have c1 := h.g1
  have T0 := hide (iis x1 x0 false w (.inr ⟨rfl, hp.1.1.symm, (unhide HE).b1, (unhide HE).b0⟩))
  have T1 := hide (iis x1 x1 true w (.inl ⟨rfl, rfl⟩))
  clear h hp HE
  go_enter Tryd.func17, Tryd.ntmps17
  go_wp2_with fail
  refine (unhide T0).mono ?_
  rintro e w0 ⟨rfl, hw⟩
  subst hw
  go_wp2_with fail
  refine (unhide T1).mono ?_
  rintro e w1 ⟨rfl, hw⟩
  subst hw
  go_wp2_with fail
  go_ret
  exact ⟨rfl, rfl⟩
set_option maxHeartbeats 1000000 in
set_option maxRecDepth 100000 in
theorem icode_2 {x0 x1 x2 x3 x4 : Addr} (w : World) (h : StE w x0 x1 x2 x3 x4) : Calls Tryd.prog 17 #[.iface 126 (.pointer (some x2))] w fun e w' => e = .returned (.int .i64 3) ∧ w' = w := by
  have hp := h.pairs
  have HE := hide h
  have c0 := h.g0
  have c1 := h.g1
  have c2 := h.g2
  have T0 := hide (iis x2 x0 false w (.inr ⟨rfl, hp.1.2.1.symm, (unhide HE).b2, (unhide HE).b0⟩))
  have T1 := hide (iis x2 x1 false w (.inr ⟨rfl, hp.2.1.1.symm, (unhide HE).b2, (unhide HE).b1⟩))
  have T2 := hide (iis x2 x2 true w (.inl ⟨rfl, rfl⟩))
  clear h hp HE
  go_enter Tryd.func17, Tryd.ntmps17
  go_wp2_with fail
  refine (unhide T0).mono ?_
  rintro e w0 ⟨rfl, hw⟩
  subst hw
  go_wp2_with fail
  refine (unhide T1).mono ?_
  rintro e w1 ⟨rfl, hw⟩
  subst hw
  go_wp2_with fail
  refine (unhide T2).mono ?_
  rintro e w2 ⟨rfl, hw⟩
  subst hw
  go_wp2_with fail
  go_ret
  exact ⟨rfl, rfl⟩
set_option maxHeartbeats 1000000 in
set_option maxRecDepth 100000 in
theorem icode_3 {x0 x1 x2 x3 x4 : Addr} (w : World) (h : StE w x0 x1 x2 x3 x4) : Calls Tryd.prog 17 #[.iface 126 (.pointer (some x3))] w fun e w' => e = .returned (.int .i64 4) ∧ w' = w := by
  have hp := h.pairs
  have HE := hide h
  have c0 := h.g0
  have c1 := h.g1
  have c2 := h.g2
  have c3 := h.g3
  have T0 := hide (iis x3 x0 false w (.inr ⟨rfl, hp.1.2.2.1.symm, (unhide HE).b3, (unhide HE).b0⟩))
  have T1 := hide (iis x3 x1 false w (.inr ⟨rfl, hp.2.1.2.1.symm, (unhide HE).b3, (unhide HE).b1⟩))
  have T2 := hide (iis x3 x2 false w (.inr ⟨rfl, hp.2.2.1.1.symm, (unhide HE).b3, (unhide HE).b2⟩))
  have T3 := hide (iis x3 x3 true w (.inl ⟨rfl, rfl⟩))
  clear h hp HE
  go_enter Tryd.func17, Tryd.ntmps17
  go_wp2_with fail
  refine (unhide T0).mono ?_
  rintro e w0 ⟨rfl, hw⟩
  subst hw
  go_wp2_with fail
  refine (unhide T1).mono ?_
  rintro e w1 ⟨rfl, hw⟩
  subst hw
  go_wp2_with fail
  refine (unhide T2).mono ?_
  rintro e w2 ⟨rfl, hw⟩
  subst hw
  go_wp2_with fail
  refine (unhide T3).mono ?_
  rintro e w3 ⟨rfl, hw⟩
  subst hw
  go_wp2_with fail
  go_ret
  exact ⟨rfl, rfl⟩
set_option maxHeartbeats 1000000 in
set_option maxRecDepth 100000 in
theorem icode_4 {x0 x1 x2 x3 x4 : Addr} (w : World) (h : StE w x0 x1 x2 x3 x4) : Calls Tryd.prog 17 #[.iface 126 (.pointer (some x4))] w fun e w' => e = .returned (.int .i64 7) ∧ w' = w := by
  have hp := h.pairs
  have HE := hide h
  have c0 := h.g0
  have c1 := h.g1
  have c2 := h.g2
  have c3 := h.g3
  have c4 := h.g4
  have T0 := hide (iis x4 x0 false w (.inr ⟨rfl, hp.1.2.2.2.symm, (unhide HE).b4, (unhide HE).b0⟩))
  have T1 := hide (iis x4 x1 false w (.inr ⟨rfl, hp.2.1.2.2.symm, (unhide HE).b4, (unhide HE).b1⟩))
  have T2 := hide (iis x4 x2 false w (.inr ⟨rfl, hp.2.2.1.2.symm, (unhide HE).b4, (unhide HE).b2⟩))
  have T3 := hide (iis x4 x3 false w (.inr ⟨rfl, hp.2.2.2.symm, (unhide HE).b4, (unhide HE).b3⟩))
  have T4 := hide (iis x4 x4 true w (.inl ⟨rfl, rfl⟩))
  clear h hp HE
  go_enter Tryd.func17, Tryd.ntmps17
  go_wp2_with fail
  refine (unhide T0).mono ?_
  rintro e w0 ⟨rfl, hw⟩
  subst hw
  go_wp2_with fail
  refine (unhide T1).mono ?_
  rintro e w1 ⟨rfl, hw⟩
  subst hw
  go_wp2_with fail
  refine (unhide T2).mono ?_
  rintro e w2 ⟨rfl, hw⟩
  subst hw
  go_wp2_with fail
  refine (unhide T3).mono ?_
  rintro e w3 ⟨rfl, hw⟩
  subst hw
  go_wp2_with fail
  refine (unhide T4).mono ?_
  rintro e w4 ⟨rfl, hw⟩
  subst hw
  go_wp2_with fail
  go_ret
  exact ⟨rfl, rfl⟩
end Go.Proofs.YtialpepklejejaaDoor

/- Slices of bytes: a copy owns its memory and holds the same bytes; two rows are held against each other. -/
namespace Go.Proofs.YtialpepklejejaaDoor
open Go.ChangeShapes Go.WideShapes Go.ChangeAt Go.RowKit
theorem Tryd.inf5 : (Tryd.prog.info? 5).map (fun i => (i.zero, i.size, i.bytes)) = some (some (.int .u8 0), 1, 1) := by kernel_rfl

def fill8 (l : List UInt8) (k : Nat) : List Value := B8 (l.take k) ++ List.replicate (l.length - k) (.int .u8 0)
theorem fill8_zero (l : List UInt8) : fill8 l 0 = (madeCells (Value.int .u8 0).cells (l.length * 1)).toList := by
  show _ = (madeCells #[Value.int .u8 0] (l.length * 1)).toList
  rw [toList_madeCells_one]; simp [fill8, B8]
theorem fill8_all (l : List UInt8) (k : Nat) (h : l.length ≤ k) : fill8 l k = B8 l := by
  unfold fill8; rw [List.take_of_length_le h, show l.length - k = 0 from by omega]; simp
theorem fill8_set (l : List UInt8) (k : Nat) (h : k < l.length) : (fill8 l k).set k (.int .u8 (l[k].toNat : Int)) = fill8 l (k + 1) := by
  have e1 : (B8 (l.take k)).length = k := by rw [B8_len, List.length_take]; omega
  unfold fill8
  rw [List.set_append_right _ _ (by omega), e1, Nat.sub_self, List.take_succ_eq_append_getElem h, B8_app]
  obtain ⟨m, hm⟩ : ∃ m, l.length - k = m + 1 := ⟨l.length - k - 1, by omega⟩
  rw [hm, show l.length - (k + 1) = m from by omega]
  simp [List.replicate_succ, B8]
theorem fill8_at (l : List UInt8) (k : Nat) (h : k < l.length) : (fill8 l k)[k]? = some (.int .u8 0) := by
  have e1 : (B8 (l.take k)).length = k := by rw [B8_len, List.length_take]; omega
  unfold fill8
  rw [List.getElem?_append_right (by omega), e1, Nat.sub_self]
  obtain ⟨m, hm⟩ : ∃ m, l.length - k = m + 1 := ⟨l.length - k - 1, by omega⟩
  rw [hm]; rfl

end Go.Proofs.YtialpepklejejaaDoor

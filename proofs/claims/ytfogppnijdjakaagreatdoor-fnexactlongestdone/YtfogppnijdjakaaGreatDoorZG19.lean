/- Texts put together: ConI FrmI FrmJ. -/
import Derived.Test.YtfogppnijdjakaaGreatDoorZG18
import Derived.Test.YtfogppnijdjakaaGreatDoorZG0
import Derived.Test.YtfogppnijdjakaaGreatDoorZG9
import Derived.Test.YtfogppnijdjakaaGreatDoorZG12
import Derived.Lib.AppendZerosOnto
import Derived.Test.YtfogppnijdjakaaGreatDoorZG10
import Derived.Test.YtfogppnijdjakaaGreatDoorZG2
/- slices.Grow of nil, slices.Concat of two rows of bytes, impl.frameSumOf. -/
namespace Go.Proofs.YtfogppnijdjakaaGreatDoor
open Go.ChangeShapes Go.WideShapes Go.ChangeAt Go.RowKit
set_option linter.unusedVariables false
theorem Tryz.infC5 : (Tryz.prog.info? 5).map (fun i => (i.zero, i.size, i.bytes)) = some (some (.int .u8 0), 1, 1) := by kernel_rfl
theorem zero_cells (n : Nat) : (Builtin.zeroCells (Value.int .u8 0).cells n).size = n := by simp [Builtin.zeroCells, Value.cells]
set_option maxHeartbeats 1000000 in
set_option maxRecDepth 100000 in
theorem igrow (n : Nat) (h0 : 0 < n) (hn : n ≤ 1048576) (w : World) :
  Calls Tryz.prog 127 #[.slice none 0 0, .int .i64 (n : Int)] w fun e w' => ∃ g c, e = .returned (.slice (some ⟨g, 0, none⟩) 0 c) ∧ w'.ownsRow w.heap.size 5 1 (.slice (some ⟨g, 0, none⟩) 0 c) 0 (B8 []) ∧ Below w.heap.size w w' := by
 obtain ⟨i0, hi, hz0, hz1, hz2⟩ := info_parts Tryz.infC5
 have h1 : ¬ ((n : Int) < 0) := by omega
 have h2 : (0 : Int) < (n : Int) := by omega
 have hold : (Builtin.firstCells i0.size 0 (.slice none 0 0)).run Tryz.prog w.drew = .ok ([] : List Value).toArray w.drew := run_firstCells_none w.drew i0.size 0 0 0
 have hrz : ∀ ty, (Builtin.append_ #[94, 3] ty #[.slice none 0 0, .int .i64 (n : Int)]).run Tryz.prog w = .ok (.slice (some ⟨w.heap.size, 0, none⟩) n (grownCap w n 0 5)) (w.drew.alloc (.cells (([] : List Value).toArray ++ Builtin.zeroCells (Value.int .u8 0).cells n ++ Builtin.zeroCells (Value.int .u8 0).cells (grownCap w n 0 5 - n)) 5)) := fun ty => by
  have h := Lib.run_append_grow_zeros w 94 3 ty 5 i0 (.int .u8 0) .i64 .i64 Tryz.underlying94 Tryz.underlying3 hi hz0 none 0 0 [] hold n h0 (by omega) (by omega) (by omega) (by rw [hz2]; omega) (by rw [hz2]; exact growslice_fits (by omega) (by omega))
  rw [Nat.zero_add] at h
  exact h
 have hGn : n ≤ grownCap w n 0 5 := grownCap_ge w _ _ _
 have hGm : grownCap w n 0 5 ≤ maxLen := grownCap_le_maxLen w n 0 5 (by unfold maxLen; omega)
 obtain ⟨G, hG⟩ : ∃ G, G = grownCap w n 0 5 := ⟨_, rfl⟩
 rw [← hG] at hrz hGn hGm
 obtain ⟨Z, hZ⟩ : ∃ Z, Z = (([] : List Value).toArray ++ Builtin.zeroCells (Value.int .u8 0).cells n ++ Builtin.zeroCells (Value.int .u8 0).cells (G - n)) := ⟨_, rfl⟩
 have hZs : Z.size = G := by rw [hZ, Array.size_append, Array.size_append, zero_cells, zero_cells]; simp; omega
 rw [← hZ] at hrz
 have HOWN : Hid ((w.alloc (.cells Z 5)).ownsRow w.heap.size 5 1 (.slice (some ⟨w.heap.size, 0, none⟩) 0 G) 0 (B8 [])) := by
  exact ⟨rfl, .inr ⟨w.heap.size, G, _, rfl, Nat.le_refl _, heap_alloc_new w _, Nat.zero_le _, hGm, by rw [hZs, Nat.mul_one], rfl⟩⟩
 have hG63 : (G : Int) ≤ 9223372036854775807 := by unfold maxLen at hGm; omega
 have hGn' : (0 : Int) ≤ (G : Int) := by omega
 clear hold hG hGm hZ hZs
 go_enter Tryz.func127, Tryz.ntmps127
 go_wp2_with (at_builtin; refine Lib.wpList_append_run _ rfl _ _ _ _ rfl _ _ rfl rfl _ _ (hrz _) ?_)
 all_goals (go_ret; exact ⟨_, _, rfl, (unhide HOWN).drew, ((Below.refl w.heap.size w).alloc (Nat.le_refl _) _).drew⟩)
/-- The first k of two lengths, summed. -/
def sum2 (n1 n2 : Nat) : Nat → Nat
 | 0 => 0
 | 1 => n1
 | _ => n1 + n2
set_option maxHeartbeats 2000000 in
set_option maxRecDepth 100000 in
theorem iconcat (s N : Nat) (a1 a2 : Option Addr) (c1 c2 : Nat) (x y : List UInt8) (hN : (x ++ y).length = N) (hx0 : 0 < x.length) (hx : x.length ≤ 65536) (hy : y.length ≤ 65536) (w : World) (hs : s < w.heap.size) (k0 : w.cell? ⟨s, 0, none⟩ = some (.slice a1 x.length c1)) (k1 : w.cell? ⟨s, 1, none⟩ = some (.slice a2 y.length c2)) (hr1 : Row8 w a1 x) (hr2 : Row8 w a2 y) :
  Calls Tryz.prog 122 #[.slice (some ⟨s, 0, none⟩) 2 2] w fun e w' => ∃ g c, e = .returned (.slice (some ⟨g, 0, none⟩) N c) ∧ w'.ownsRow w.heap.size 5 1 (.slice (some ⟨g, 0, none⟩) N c) N (B8 (x ++ y)) ∧ Below w.heap.size w w' := by
 obtain ⟨i0, hi, hz0, hz1, hz2⟩ := info_parts Tryz.infC5
 have HNN := hide hN
 clear hN
 have HR1 := hide hr1
 have HR2 := hide hr2
 obtain ⟨n1, e1⟩ : ∃ n, n = x.length := ⟨_, rfl⟩
 obtain ⟨n2, e2⟩ : ∃ n, n = y.length := ⟨_, rfl⟩
 rw [← e1] at k0 hx0 hx
 rw [← e2] at k1 hy
 have E1 := hide e1
 have E2 := hide e2
 have K0 := hide k0
 have K1 := hide k1
 clear hr1 hr2 e1 e2 k0 k1
 go_enter Tryz.func122, Tryz.ntmps122
 go_wp2_with fail
 go_loopw [3, 11] (fun v i wr => ∃ k : Nat, k ≤ 2 ∧ i = .int .i64 k ∧ v = .int .i64 ((sum2 n1 n2 k : Nat) : Int) ∧ wr = w) (fun _ i _ => 2 - (intOf i).toNat)
 case atStart => exact ⟨0, by omega, rfl, rfl, rfl⟩
 case round =>
  obtain ⟨k, hk, rfl, rfl, rfl⟩ := hrel
  by_cases h0 : k = 0
  ·subst h0
   have q0 := unhide K0
   have s0 : ((sum2 n1 n2 0 : Nat) : Int) = 0 := rfl
   rw [s0]
   have hn : ¬ (n1 : Int) < 0 := by omega
   go_wp2_with fail
   go_roundw
   case rel => exact ⟨1, by omega, by go_num, by show Value.int .i64 _ = Value.int .i64 ((n1 : Nat) : Int); first | rfl | (congr 1; omega), trivial⟩
   case measure => simp [intOf]
  ·by_cases h1 : k = 1
   ·subst h1
    have q1 := unhide K1
    have s1 : ((sum2 n1 n2 1 : Nat) : Int) = (n1 : Int) := rfl
    rw [s1]
    have hn : ¬ (n1 : Int) + (n2 : Int) < 0 := by omega
    go_wp2_with fail
    go_roundw
    case rel => exact ⟨2, by omega, by go_num, by show Value.int .i64 _ = Value.int .i64 ((n1 + n2 : Nat) : Int); first | rfl | (congr 1; omega), trivial⟩
    case measure => simp [intOf]
   ·obtain rfl : k = 2 := by omega
    have s2 : ((sum2 n1 n2 2 : Nat) : Int) = ((n1 + n2 : Nat) : Int) := rfl
    rw [s2]
    have T := igrow (n1 + n2) (by omega) (by omega) wr
    rw [show ((n1 + n2 : Nat) : Int) = (n1 : Int) + (n2 : Int) from by omega] at T
    have HG := hide T
    clear T
    go_wp2_with fail
    refine (unhide HG).mono ?_
    rintro e w2 ⟨g, c, rfl, o2, hb2⟩
    have HO2 := hide o2
    have HB2 := hide hb2
    clear o2 hb2 HG
    go_wp2_with fail
    go_loopw [6, 27] (fun v i w3 => ∃ (k g c n : Nat) (l : List UInt8), k ≤ 2 ∧ i = .int .i64 k ∧ v = .slice (some ⟨g, 0, none⟩) n c ∧ Hid (l.length = n) ∧ n ≤ 131072 ∧ Hid (l = if k = 0 then [] else if k = 1 then x else x ++ y) ∧ Hid (w3.ownsRow wr.heap.size 5 1 (.slice (some ⟨g, 0, none⟩) n c) n (B8 l)) ∧ Hid (Below wr.heap.size wr w3)) (fun _ i _ => 2 - (intOf i).toNat)
    case atStart => exact ⟨0, g, c, 0, [], by omega, rfl, rfl, rfl, by omega, rfl, HO2, HB2⟩
    case round =>
     clear HO2 HB2
     rename World => w3
     obtain ⟨k, g, c, n, l, hk, rfl, rfl, HL, hn, HLE, HO, HB⟩ := hrel
     by_cases h0 : k = 0
     ·subst h0
      have q0 : w3.cell? ⟨s, 0, none⟩ = some (.slice a1 n1 c1) := ((unhide HB).cell (p := ⟨s, 0, none⟩) hs).trans (unhide K0)
      have hz := (unhide HB).size
      have R1 := hide ((unhide HR1).below (unhide HB))
      go_wp2_with (at_builtin; refine append_row8 _ rfl (.tmp 31) (.tmp 32) 94 rfl wr.heap.size 5 i0 Tryz.underlying94 hi hz0 hz1 hz2 g n c (B8 l) rfl (unhide HO) a1 c1 x (by rw [← unhide E1]; rfl) (unhide R1) (by rw [← unhide E1]; omega) hz ?_; intro g4 c4 w4 o4 hg4; rw [← unhide E1] at o4 ⊢; have HO4 := hide o4; have HB4 := hide ((unhide HB).grown hg4 (unhide HB).size (fun j hj => by injection hj with hj; subst hj; exact ((unhide HO).lt _ rfl).1)); clear o4 hg4)
      go_roundw
      case rel => exact ⟨1, g4, c4, n + n1, l ++ x, by omega, by go_num, rfl, by show (l ++ x).length = _; rw [List.length_append, unhide HL, ← unhide E1], by have := unhide HL; rw [unhide HLE] at this; simp at this; omega, by show l ++ x = _; rw [unhide HLE]; simp, by rw [show B8 (l ++ x) = B8 l ++ B8 x from by simp [B8]]; exact HO4, HB4⟩
      case measure => simp [intOf]
     ·by_cases h1 : k = 1
      ·subst h1
       have q1 : w3.cell? ⟨s, 1, none⟩ = some (.slice a2 n2 c2) := ((unhide HB).cell (p := ⟨s, 1, none⟩) hs).trans (unhide K1)
       have hz := (unhide HB).size
       have R2 := hide ((unhide HR2).below (unhide HB))
       go_wp2_with (at_builtin; refine append_row8 _ rfl (.tmp 31) (.tmp 32) 94 rfl wr.heap.size 5 i0 Tryz.underlying94 hi hz0 hz1 hz2 g n c (B8 l) rfl (unhide HO) a2 c2 y (by rw [← unhide E2]; rfl) (unhide R2) (by rw [← unhide E2]; omega) hz ?_; intro g4 c4 w4 o4 hg4; rw [← unhide E2] at o4 ⊢; have HO4 := hide o4; have HB4 := hide ((unhide HB).grown hg4 (unhide HB).size (fun j hj => by injection hj with hj; subst hj; exact ((unhide HO).lt _ rfl).1)); clear o4 hg4)
       go_roundw
       case rel => exact ⟨2, g4, c4, n + n2, l ++ y, by omega, by go_num, rfl, by show (l ++ y).length = _; rw [List.length_append, unhide HL, ← unhide E2], by have := unhide HL; rw [unhide HLE] at this; simp at this; have := unhide E1; omega, by show l ++ y = _; rw [unhide HLE]; simp, by rw [show B8 (l ++ y) = B8 l ++ B8 y from by simp [B8]]; exact HO4, HB4⟩
       case measure => simp [intOf]
      ·obtain rfl : k = 2 := by omega
       have hle : l = x ++ y := by rw [unhide HLE]; simp
       have hn2 : n = N := by rw [← unhide HL, hle]; exact unhide HNN
       rw [hle] at HO
       clear hle HLE HL
       subst hn2
       go_wp2_with fail
       go_ret
       exact ⟨g, c, rfl, unhide HO, unhide HB⟩
set_option maxHeartbeats 1000000 in
theorem iframesum (a1 a2 : Option Addr) (c1 c2 n1 n2 : Nat) (x y : List UInt8) (e1 : x.length = n1) (e2 : y.length = n2) (hx0 : 0 < n1) (hxy : n1 + n2 ≤ 65536) (w : World) (hr1 : Row8 w a1 x) (hr2 : Row8 w a2 y) :
  Calls Tryz.prog 114 #[.slice a1 n1 c1, .slice a2 n2 c2] w fun e w' => e = .returned (.int .i64 (chk (x ++ y))) ∧ Below w.heap.size w w' := by
 obtain ⟨N, hN⟩ : ∃ N, (x ++ y).length = N := ⟨_, rfl⟩
 have hNl : N ≤ 65536 := by rw [← hN, List.length_append]; omega
 have hb0 : Below w.heap.size w (w.alloc (.cells #[.slice a1 n1 c1, .slice a2 n2 c2] 94)) := (Below.refl _ _).alloc (Nat.le_refl _) _
 have HT := hide (iconcat w.heap.size N a1 a2 c1 c2 x y hN (by omega) (by omega) (by omega) (w.alloc (.cells #[.slice a1 n1 c1, .slice a2 n2 c2] 94)) (by simp) (by rw [e1]; exact World.cell?_alloc_mark w _ _ _ 0) (by rw [e2]; exact World.cell?_alloc_mark w _ _ _ 1) (hr1.below hb0) (hr2.below hb0))
 have HB0 := hide hb0
 have HN := hide hN
 clear hb0 hr1 hr2 hxy hN e1 e2
 go_enter Tryz.func114, Tryz.ntmps114
 go_wp2_with fail
 refine (unhide HT).mono ?_
 rintro e w2 ⟨g, c, rfl, o2, hb2⟩
 have HR := hide (rowV_8 (row_at o2))
 have HB := hide ((unhide HB0).trans (hb2.mono (unhide HB0).size))
 clear o2 hb2
 go_wp2_with fail
 have hc := icheck (some ⟨g, 0, none⟩) c (x ++ y) (by rw [unhide HN]; omega) w2 (unhide HR)
 rw [chkA_ok (by rw [unhide HN]; omega), unhide HN] at hc
 refine hc.mono ?_
 rintro e w3 ⟨rfl, rfl⟩
 go_wp2_with fail
 go_ret
 exact ⟨rfl, unhide HB⟩
end Go.Proofs.YtfogppnijdjakaaGreatDoor

/- impl.takeFrame, and impl.faultCode of a placed fault. -/
namespace Go.Proofs.YtfogppnijdjakaaGreatDoor
open Go.RowKit Go.Extern.Stop Go.Stop Go.Extern Go.ChangeShapes Go.WideShapes Go.ChangeAt
set_option linter.unusedVariables false
theorem flt_missB (tb : Nat) (p c : Int) (u : TypeId) (y o0 o1 : Value) (w : World) (hg : w.cell? ⟨8, 0, none⟩ = some (.iface 161 (.agg #[.pointer (some ⟨10, 130, none⟩)]))) (h0 : w.cell? ⟨tb, 0, none⟩ = some o0) (h1 : w.cell? ⟨tb, 1, none⟩ = some o1) (f0 : w.frozen? ⟨tb, 0, none⟩ = false) (f1 : w.frozen? ⟨tb, 1, none⟩ = false) :
  Calls Tryz.prog 109 #[.iface 144 (.agg #[.int .i64 p, .iface 150 (.agg #[.int .i64 c, .iface u y])]), .iface 152 (.pointer (some ⟨tb, 0, none⟩))] w fun ev w' => ev = .returned (.bool true) ∧ w'.cell? ⟨tb, 0, none⟩ = some (.int .i64 c) ∧ Below tb w w' := by
 have htl : tb < w.heap.size := World.block_lt_of_cell? w _ h0
 refine (flt_miss tb p c u y o0 o1 w hg h0 h1 f0 f1).mono ?_
 rintro ev w' ⟨rfl, rfl⟩
 refine ⟨rfl, ?_, ?_⟩
 ·refine Eq.trans (by apply World.cell?_setCell_other; simp) ?_
  apply World.cell?_setCell_same (u := o0)
  rw [World.cell?_alloc_lt _ _ ⟨tb, 0, none⟩ (by simp <;> omega), World.cell?_alloc_lt _ _ ⟨tb, 0, none⟩ (by simp <;> omega), World.cell?_alloc_lt _ _ ⟨tb, 0, none⟩ (by simp <;> omega), World.cell?_alloc_lt _ _ ⟨tb, 0, none⟩ (by simp <;> omega), World.cell?_alloc_lt _ _ ⟨tb, 0, none⟩ htl]; exact h0
 ·exact (((((((Below.refl tb w).alloc (Nat.le_of_lt htl) _).alloc (by simp <;> omega) _).alloc (by simp <;> omega) _).alloc (by simp <;> omega) _).alloc (by simp <;> omega) _).setCell (Nat.le_refl _) _).setCell (Nat.le_refl _) _
theorem ifcodeP (p c : Int) (u : TypeId) (y : Value) (w : World) (hg : w.cell? ⟨8, 0, none⟩ = some (.iface 161 (.agg #[.pointer (some ⟨10, 130, none⟩)]))) :
  Calls Tryz.prog 104 #[.iface 144 (.agg #[.int .i64 p, .iface 150 (.agg #[.int .i64 c, .iface u y])])] w fun e w' => e = .returned (.int .i64 c) ∧ Below w.heap.size w w' := by
 have hlt : 8 < w.heap.size := World.block_lt_of_cell? w _ hg
 go_enter Tryz.func104, Tryz.ntmps104
 have g1 : (w.alloc (Obj.cells #[Value.int IntKind.i64 0, Value.nilIface] 150)).cell? ⟨8, 0, none⟩ = some (.iface 161 (.agg #[.pointer (some ⟨10, 130, none⟩)])) := by
  rw [World.cell?_alloc_lt _ _ ⟨8, 0, none⟩ hlt]; exact hg
 have g2 : (w.alloc (Obj.cells #[Value.int IntKind.i64 0, Value.nilIface] 150)).cell? ⟨w.heap.size, 0, none⟩ = some (.int .i64 0) := by simp
 have g3 : (w.alloc (Obj.cells #[Value.int IntKind.i64 0, Value.nilIface] 150)).cell? ⟨w.heap.size, 1, none⟩ = some .nilIface := by simp
 have g4 : ∀ o, (w.alloc (Obj.cells #[Value.int IntKind.i64 0, Value.nilIface] 150)).frozen? ⟨w.heap.size, o, none⟩ = false := by intro o; simp
 go_wp2_with (go_at_call 109; refine (flt_missB w.heap.size p c u y (.int .i64 0) .nilIface _ g1 g2 g3 (g4 0) (g4 1)).mono ?_; rintro e w1 ⟨rfl, hc, hb⟩)
 go_ret
 exact ⟨rfl, ((Below.refl _ _).alloc (Nat.le_refl _) _).trans hb⟩
/-- What the listed variables hold that reading frames asks for. -/
structure ErrsR (w : World) : Prop where
 type : w.cell? ⟨8, 0, none⟩ = some (.iface 161 (.agg #[.pointer (some ⟨10, 130, none⟩)]))
 cut : ∃ u y, w.cell? ⟨0, 0, none⟩ = some (.iface u y)
 bounds : ∃ u y, w.cell? ⟨6, 0, none⟩ = some (.iface u y)
 sum : ∃ u y, w.cell? ⟨7, 0, none⟩ = some (.iface u y)
theorem ErrsR.below {w w' : World} (h : ErrsR w) (hb : Below w.heap.size w w') : ErrsR w' := by
 obtain ⟨t, ⟨u1, y1, c1⟩, ⟨u2, y2, c2⟩, ⟨u3, y3, c3⟩⟩ := h
 exact ⟨cell_later hb t, ⟨u1, y1, cell_later hb c1⟩, ⟨u2, y2, cell_later hb c2⟩, ⟨u3, y3, cell_later hb c3⟩⟩
set_option maxHeartbeats 1000000 in
set_option maxRecDepth 100000 in
theorem itfF (b off cap len y : Nat) (l : List UInt8) (el : l.length = len) (hc : len ≤ cap) (h7 : 7 ≤ len) (ey : y = ofBE (l.take 3)) (n1' : ¬ y < 1) (n2' : ¬ 65536 < y) (hl : len ≤ 65536) (hfit0 : ¬ len - 7 < y) (heq : chk (l.take 3 ++ (l.drop 7).take y) = ((ofBE ((l.drop 3).take 4) : Nat) : Int)) (w : World) (hE : ErrsR w) (hr : Row8 w (some ⟨b, off, none⟩) l) :
  Calls Tryz.prog 106 #[.slice (some ⟨b, off, none⟩) len cap] w fun e w' => (∃ o1 o2 c1 c2, e = .returned (.tuple #[.slice (some ⟨b, o1, none⟩) y c1, .slice (some ⟨b, o2, none⟩) (len - 7 - y) c2, .nilIface]) ∧ len - 7 - y ≤ c2 ∧ Row8 w' (some ⟨b, o1, none⟩) ((l.drop 7).take y) ∧ Row8 w' (some ⟨b, o2, none⟩) ((l.drop 7).drop y)) ∧ Below w.heap.size w w' := by
 have HTL : Hid ((l.take 3).length = 3) := by show _ = _; rw [List.length_take]; omega
 have HDL : Hid ((l.drop 7).length = len - 7) := by show _ = _; rw [List.length_drop, el]
 have T1 := itake b off cap 7 l len el h7 hc w hr
 change Calls _ _ #[_, .int .i64 7] _ _ at T1
 have HEY : Hid (y = ofBE (l.take 3)) := ey
 have HE := hide hE
 obtain ⟨m, em⟩ : ∃ m, m = len - 7 := ⟨_, rfl⟩
 obtain ⟨cp, ecp⟩ : ∃ cp, cp = cap - 7 := ⟨_, rfl⟩
 have cap7 : 7 ≤ cap := by omega
 have cap7' : (7 : Int) ≤ (cap : Int) := by omega
 have n1 : ¬ (y : Int) < 1 := by omega
 have n2 : ¬ (65536 : Int) < (y : Int) := by omega
 have hfit : y ≤ m := by omega
 have hc2 : m ≤ cp := by omega
 have hsumle : 3 + y ≤ 65536 := by omega
 have HXL : Hid (((l.drop 7).take y).length = y) := by show _ = _; rw [List.length_take, List.length_drop]; omega
 have H4L : Hid (((l.drop 3).take 4).length = 4) := by show _ = _; rw [List.length_take, List.length_drop]; omega
 obtain ⟨S, hS⟩ : ∃ S, S = chk (l.take 3 ++ (l.drop 7).take y) := ⟨_, rfl⟩
 obtain ⟨S4, hS4⟩ : ∃ S4, S4 = ofBE ((l.drop 3).take 4) := ⟨_, rfl⟩
 have HS := hide hS
 have HS4 := hide hS4
 rw [← hS, ← hS4] at heq
 have hne2 : (S != (S4 : Int)) = false := by rw [heq]; simp
 rw [← em, ← ecp] at T1
 rw [← em] at HDL ⊢
 clear ey hr em ecp hE hS hS4 hfit0 heq
 go_enter Tryz.func106, Tryz.ntmps106
 go_wp2_with (first | (have hq := HNO; go_at_call 112; refine (itake b o2 cp y (l.drop 7) m (unhide HDL) hfit hc2 _ (unhide HR2)).mono ?_; rintro e w3 ⟨o3, rfl, hx, hrr, hb3⟩; have HX := hide hx; have HRR := hide hrr; have HB3 := hide ((unhide HB).trans (hb3.mono (unhide HB).size)); have HY3 := hide ((unhide HT3).below hb3); have HY7 := hide ((unhide HT7).below hb3); have HE3 := hide ((unhide HE1).below hb3); clear hx hrr hb3 HR2 HNO HT3 HT7 HE1) | (have hq := HT3; go_at_call 113; have h3 := inumber (some ⟨b, off, none⟩) cap (l.take 3) (by rw [unhide HTL]; decide) _ (unhide HT3); rw [unhide HTL, ← unhide HEY] at h3; refine h3.mono ?_; clear h3; rintro e w2 ⟨rfl, hw⟩; subst w2; have HNO := hide trivial) | (go_at_call 112; refine T1.mono ?_; clear T1; rintro e w1 ⟨o2, rfl, ht, hd, hb⟩; have HT7 := hide ht; have HT3 := hide (show Row8 w1 (some ⟨b, off, none⟩) (l.take 3) from (by have := row8_take ht 3; rwa [List.take_take] at this)); have HR2 := hide hd; have HB := hide hb; have HE1 := hide ((unhide HE).below hb); clear ht hd hb))
 go_region_held3 (fun _ => True) (trivial) (first | (have hq := HK; go_at_call 113; have h4 := inumber (some ⟨b, off + 3, none⟩) (cap - 3) ((l.drop 3).take 4) (by rw [unhide H4L]; decide) _ (unhide HK); rw [unhide H4L, ← unhide HS4] at h4; refine h4.mono ?_; clear h4; rintro e w5 ⟨rfl, hw⟩; subst w5) | (go_at_call 114; refine (iframesum (some ⟨b, off, none⟩) (some ⟨b, o2, none⟩) cap cp 3 y (l.take 3) ((l.drop 7).take y) (unhide HTL) (unhide HXL) (by decide) hsumle _ ((unhide HY3).below (Below.refl _ _).drew) ((unhide HX).below (Below.refl _ _).drew)).mono ?_; rintro e w4 ⟨rfl, hb4⟩; rw [← unhide HS]; have HB4 := hide ((unhide HB3).drew.trans (hb4.mono (unhide HB3).drew.size)); have HK := hide (show Row8 w4 (some ⟨b, off + 3, none⟩) ((l.drop 3).take 4) from (by have := row8_drop (((unhide HY7).below (Below.refl _ _).drew).below hb4) 3; rwa [List.drop_take] at this)); have HR4 := hide (((unhide HRR).below (Below.refl _ _).drew).below hb4); have HD4 := hide (((unhide HX).below (Below.refl _ _).drew).below hb4); have HE4 := hide ((unhide HE3).below (below_undrew hb4)); clear hb4))
 all_goals
  go_wp2_with fail
  go_ret3
  exact ⟨⟨o2, o3, cp, cp - y, rfl, by omega, unhide HD4, unhide HR4⟩, unhide HB4⟩
end Go.Proofs.YtfogppnijdjakaaGreatDoor

/- impl.splitFrames and impl.ReadFrames: what the program answers at every row of bytes. -/
namespace Go.Proofs.YtfogppnijdjakaaGreatDoor
open Go.RowKit Go.Extern.Stop Go.Stop Go.Extern Go.ChangeShapes Go.WideShapes Go.ChangeAt
set_option linter.unusedVariables false
theorem itfOk (b off cap len : Nat) (l : List UInt8) (el : l.length = len) (hc : len ≤ cap) (hl : len ≤ 65536) (h : frC l = 0) (w : World) (hE : ErrsR w) (hr : Row8 w (some ⟨b, off, none⟩) l) :
  Calls Tryz.prog 106 #[.slice (some ⟨b, off, none⟩) len cap] w fun e w' => (∃ o1 o2 c1 c2, e = .returned (.tuple #[.slice (some ⟨b, o1, none⟩) (frN l) c1, .slice (some ⟨b, o2, none⟩) (len - 7 - frN l) c2, .nilIface]) ∧ len - 7 - frN l ≤ c2 ∧ Row8 w' (some ⟨b, o1, none⟩) (frD l) ∧ Row8 w' (some ⟨b, o2, none⟩) (frT l)) ∧ Below w.heap.size w w' := by
 obtain ⟨h1, h2, h3, h4, h5⟩ := frC_ok h
 rw [el] at h1 h4
 exact itfF b off cap len (frN l) l el hc h1 rfl (by omega) (by omega) hl (by omega) h5 w hE hr
def sliceLen : Value → Nat
 | .slice _ n _ => n
 | _ => 0
theorem nil_ownT (w : World) (base : Nat) (t : TypeId) : w.ownsRow base t 1 (.slice none 0 0) ([] : List ByteArray).length (cS []) := World.ownsRow_nil w base t 1
theorem own_appT {w : World} {base : Nat} {e : TypeId} {v : Value} {l m : List ByteArray} {n : Nat} (h : w.ownsRow base e 1 v (l.length + n) (cS l ++ cS m)) (hn : m.length = n) : w.ownsRow base e 1 v (l ++ m).length (cS (l ++ m)) := by
 rw [cS_app, List.length_append, hn]; exact h
theorem row8_lowT {w w' : World} {B b o : Nat} {l : List UInt8} (h : Row8 w (some ⟨b, o, none⟩) l) (hB : b < B) (hb : Below B w w') : Row8 w' (some ⟨b, o, none⟩) l := by
 rcases h with h | ⟨b', off, e, hlt, hc⟩
 ·exact .inl h
 ·simp only [Option.some.injEq, Addr.mk.injEq, and_true] at e
  obtain ⟨rfl, rfl⟩ := e
  exact .inr ⟨b, o, rfl, Nat.lt_of_lt_of_le hlt hb.size, fun i hi => (hb.cell (p := ⟨b, o + i, none⟩) hB).trans (hc i hi)⟩
/-- What splitFrames answers. -/
def SplR (r : List ByteArray × Nat × Int) (w : World) (e : Ending) (w' : World) : Prop :=
 ∃ v, w'.ownsRow w.heap.size 9 1 v r.1.length (cS r.1) ∧ Below w.heap.size w w' ∧
  ((r.2.2 = 0 ∧ e = .returned (.tuple #[v, .nilIface])) ∨ (¬ r.2.2 = 0 ∧ ∃ u z, e = .returned (.tuple #[v, .iface 144 (.agg #[.int .i64 (r.2.1 : Int), .iface 150 (.agg #[.int .i64 r.2.2, .iface u z])])])))
end Go.Proofs.YtfogppnijdjakaaGreatDoor

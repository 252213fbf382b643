/- Slices of bytes: a copy owns its memory and holds the same bytes; two rows are held against each other. -/
import Derived.Test.YtpcdjpfffanlbaaDoorZBase
namespace Go.Proofs.YtpcdjpfffanlbaaDoor
open Go.ChangeShapes Go.WideShapes Go.ChangeAt Go.RowKit
theorem Tryd.inf5 : (Tryd.prog.info? 5).map (fun i => (i.zero, i.size, i.bytes)) = some (some (.int .u8 0), 1, 1) := by kernel_rfl

def fill8 (l : List UInt8) (k : Nat) : List Value := B8 (l.take k) ++ List.replicate (l.length - k) (.int .u8 0)
theorem fill8_zero (l : List UInt8) : fill8 l 0 = (madeCells (Value.int .u8 0).cells (l.length * 1)).toList := by
 show _ = (madeCells #[Value.int .u8 0] (l.length * 1)).toList
 rw [toList_madeCells_one]; simp [fill8, B8]
theorem fill8_all (l : List UInt8) (k : Nat) (h : l.length ≤ k) : fill8 l k = B8 l := by
 unfold fill8; rw [List.take_of_length_le h, show l.length - k = 0 from by omega]; simp
theorem fill8_set (l : List UInt8) (k : Nat) (h : k < l.length) : (fill8 l k).set k (.int .u8 (l[k].toNat : Int)) = fill8 l (k + 1) := by
 have e1 : (B8 (l.take k)).length = k := by rw [B8_len, List.length_take]; omega
 unfold fill8
 rw [List.set_append_right _ _ (by omega), e1, Nat.sub_self, List.take_succ_eq_append_getElem h, B8_app]
 obtain ⟨m, hm⟩ : ∃ m, l.length - k = m + 1 := ⟨l.length - k - 1, by omega⟩
 rw [hm, show l.length - (k + 1) = m from by omega]
 simp [List.replicate_succ, B8]
theorem fill8_at (l : List UInt8) (k : Nat) (h : k < l.length) : (fill8 l k)[k]? = some (.int .u8 0) := by
 have e1 : (B8 (l.take k)).length = k := by rw [B8_len, List.length_take]; omega
 unfold fill8
 rw [List.getElem?_append_right (by omega), e1, Nat.sub_self]
 obtain ⟨m, hm⟩ : ∃ m, l.length - k = m + 1 := ⟨l.length - k - 1, by omega⟩
 rw [hm]; rfl

set_option maxHeartbeats 400000 in
set_option maxRecDepth 100000 in
theorem copy8 (a : Option Addr) (cap : Nat) (l : List UInt8) (hl : l.length ≤ 1048576) (w : World) (hr : Row8 w a l) :
  Calls Tryd.prog 5 #[.slice a l.length cap] w fun e w' => e = .returned (.slice (some ⟨w.heap.size, 0, none⟩) l.length l.length) ∧
   w'.ownsRow w.heap.size 5 1 (.slice (some ⟨w.heap.size, 0, none⟩) l.length l.length) l.length (B8 l) ∧ Below w.heap.size w w' := by
 obtain ⟨i0, hi, hz0, hz1, hz2⟩ := info_parts Tryd.inf5
 go_enter Tryd.func5, Tryd.ntmps5
 go_wp2_with (at_make; refine wpList_make_full _ rfl _ _ 22 rfl w.heap.size 5 i0 (.int .u8 0) 1 Tryd.underlying22 hi hz0 hz1 .i64 .i64 _ _ l.length rfl rfl rfl rfl (by rw [hz2]; omega) (by unfold maxLen; omega) (Nat.le_refl _) ?_; intro w1 hown hgrow)
 rw [← fill8_zero] at hown
 have hb1 := (Below.refl w.heap.size w).grown hgrow (Nat.le_refl _) (fun k hk => by cases hk)
 clear hgrow
 have HR := hide hr
 clear hr
 go_loopw [4] (fun i wr => ∃ k : Nat, k ≤ l.length ∧ i = .int .i64 k ∧ wr.ownsRow w.heap.size 5 1 (.slice (some ⟨w.heap.size, 0, none⟩) l.length l.length) l.length (fill8 l k) ∧ Below w.heap.size w wr) (fun i _ => l.length - (intOf i).toNat)
 case atStart => exact ⟨0, by omega, rfl, hown, hb1⟩
 case round =>
  clear hown hb1
  obtain ⟨k, hk, rfl, hown, hb⟩ := hrel
  by_cases hlt : k < l.length
  ·obtain ⟨b, off, ha, hblt, hc⟩ := (unhide HR).at (by omega)
   subst ha
   have hc1 : wr.cell? ⟨b, off + k, none⟩ = some (.int .u8 (l[k].toNat : Int)) := (hb.cell (p := ⟨b, off + k, none⟩) hblt).trans (hc k hlt)
   have hc2 : wr.cell? ⟨w.heap.size, k, none⟩ = some (.int .u8 0) := by rw [hown.cellAt k (by omega), fill8_at l k hlt]
   have hf2 := hown.frozenAt k
   have hlt' : (k : Int) < (l.length : Int) := by omega
   have R := hown.stored k (.int .u8 (l[k].toNat : Int))
   rw [fill8_set l k hlt] at R
   have R2 : Below w.heap.size w (wr.setCell ⟨w.heap.size, k, none⟩ (.int .u8 (l[k].toNat : Int))) := hb.setCell (p := ⟨w.heap.size, k, none⟩) (Nat.le_refl _) _
   have R1 := R.1
   clear hc R hown hb HR hblt
   go_wp2_with fail
   go_roundw
   case rel => exact ⟨k + 1, by omega, by go_num, R1, R2⟩
   case measure => simp [intOf]; omega
  ·rw [fill8_all l k (by omega)] at hown
   go_wp2_with fail
   go_ret
   exact ⟨rfl, hown, hb⟩

set_option maxHeartbeats 400000 in
set_option maxRecDepth 100000 in
theorem same8 (a c : Option Addr) (cap cap2 : Nat) (l : List UInt8) (hl : l.length ≤ 1048576) (w : World) (hr : Row8 w a l) (hr2 : Row8 w c l) :
  Calls Tryd.prog 8 #[.slice a l.length cap, .slice c l.length cap2] w fun e w' => e = .returned (.bool true) ∧ Below w.heap.size w w' := by
 have HR := hide hr
 have HR2 := hide hr2
 clear hr hr2
 have hne : ((l.length : Int) != (l.length : Int)) = false := by simp
 go_enter Tryd.func8, Tryd.ntmps8
 go_wp2_with fail
 go_loopw [5] (fun i wr => ∃ k : Nat, k ≤ l.length ∧ i = .int .i64 k ∧ Below w.heap.size w wr) (fun i _ => l.length - (intOf i).toNat)
 case atStart => exact ⟨0, by omega, rfl, Below.refl _ _⟩
 case round =>
  obtain ⟨k, hk, rfl, hb⟩ := hrel
  by_cases hlt : k < l.length
  ·obtain ⟨b, off, ha, hblt, hc⟩ := (unhide HR).at (by omega)
   obtain ⟨b2, off2, ha2, hblt2, hc2⟩ := (unhide HR2).at (by omega)
   subst ha ha2
   have hc1 : wr.cell? ⟨b, off + k, none⟩ = some (.int .u8 (l[k].toNat : Int)) := (hb.cell (p := ⟨b, off + k, none⟩) hblt).trans (hc k hlt)
   have hc3 : wr.cell? ⟨b2, off2 + k, none⟩ = some (.int .u8 (l[k].toNat : Int)) := (hb.cell (p := ⟨b2, off2 + k, none⟩) hblt2).trans (hc2 k hlt)
   have hlt' : (k : Int) < (l.length : Int) := by omega
   have hlt0 : (0 : Int) ≤ (k : Int) := by omega
   have hne2 : ((l[k].toNat : Int) != (l[k].toNat : Int)) = false := by simp
   clear hc hc2 HR HR2
   go_wp2_with fail
   go_region_held3 (fun w' => w'.cell? ⟨b, off + k, none⟩ = some (.int .u8 (l[k].toNat : Int)) ∧ w'.cell? ⟨b2, off2 + k, none⟩ = some (.int .u8 (l[k].toNat : Int))) (go_keep) (fail)
   all_goals
    go_wp2_with fail
    go_roundw
    case rel => exact ⟨k + 1, by omega, by go_num, hb.drew⟩
    case measure => simp [intOf]; omega
  ·go_wp2_with fail
   go_ret
   exact ⟨rfl, hb⟩
end Go.Proofs.YtpcdjpfffanlbaaDoor

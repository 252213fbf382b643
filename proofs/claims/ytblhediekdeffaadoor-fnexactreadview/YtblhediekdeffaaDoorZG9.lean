/- Texts put together: VbI NumI. -/
import Derived.Test.YtblhediekdeffaaDoorZG7
import Derived.Test.YtblhediekdeffaaDoorZG8
import Derived.Lib.SmallJoins
import Derived.Test.YtblhediekdeffaaDoorZG2
/- The bytes of a view: the program's small functions. -/
namespace Go.Proofs.YtblhediekdeffaaDoor
open Go.ChangeShapes Go.WideShapes Go.ChangeAt Go.RowKit
set_option linter.unusedVariables false
set_option maxHeartbeats 4000000 in
set_option maxRecDepth 100000 in
theorem ibit (b : Bool) (x : Int) (HX : Hid (x = bitI b)) (w : World) : Calls Tryd.prog 30 #[.bool b] w fun e w' => e = .returned (.int .i64 x) ∧ w' = w := by
  cases b
  · obtain rfl : x = 0 := unhide HX
    go_enter Tryd.func30, Tryd.ntmps30
    go_wp2_with fail
    go_ret
    exact ⟨rfl, rfl⟩
  · obtain rfl : x = 1 := unhide HX
    go_enter Tryd.func30, Tryd.ntmps30
    go_wp2_with fail
    go_ret
    exact ⟨rfl, rfl⟩
set_option maxHeartbeats 4000000 in
set_option maxRecDepth 100000 in
theorem irowX (Y : Nat) (hY : Y < 256) (d : ByteArray) (hd : d.size ≤ 1048576) (X : ByteArray) (HX : Hid (X = rowX ((Y : Int), d))) (w : World) : Calls Tryd.prog 31 #[.agg #[.int .i64 (Y : Int), .string d]] w fun e w' => e = .returned (.string X) ∧ Below w.heap.size w w' := by
  have B0 := hide (Go.Joins.below_alloc1 w (.cells #[.int .i64 (Y : Int), .string d] 51))
  have A0 := hide (BF.new w #[.int .i64 (Y : Int), .string d] 51)
  obtain ⟨Bt, hBt⟩ : ∃ Bt : ByteArray, Bt = ⟨(be Y 1).toArray⟩ := ⟨_, rfl⟩
  have hB1 : Bt.size ≤ 1 := by rw [hBt]; show (be Y 1).toArray.size ≤ 1; simp [be]
  have HXX : Hid (Bt ++ d = X) := by show _ = _; rw [unhide HX, hBt]; rfl
  have HBT := hide hBt
  have hsum : ¬ 9223372036854775807 < Bt.size + d.size := by omega
  clear HX hBt
  go_enter Tryd.func31, Tryd.ntmps31
  go_wp2_with fail
  refine wp_region_held_drew (S := (fun w' => ∀ o, w'.cell? ⟨w.heap.size, o, none⟩ = (#[.int .i64 (Y : Int), .string d] : Array Value)[o]?)) (by kernel_rfl) (unhide A0).S (fun hHeld => ?_)
  have B1 := hide ((unhide B0).drew)
  have A1 := hide ((unhide A0).drew)
  clear A0 B0
  generalize (w.alloc (.cells #[.int .i64 (Y : Int), .string d] 51)).drew = w1 at B1 A1 hHeld ⊢
  refine wtk (i := 0) (oi := { dst := some 3, op := .fieldAddr 51 (.tmp 1) 0, type := 0, pos := "l11_view.go:213", after := #[], guard := none }) (v := ?_) rfl (Or.inl ⟨by rfl, ?_⟩) (by assumption) ?_
  rotate_left 1
  · (intro w' hSw; (try dsimp only at hSw); go_simp; try with_reducible rfl)
  try simp only [Act.put, qqA, qqB, qqC]
  refine wtk (i := 1) (oi := { dst := some 4, op := .load 3 (.tmp 3), type := 3, pos := "l11_view.go:213", after := #[{ on := 0, ground := .data }], guard := none }) (v := ?_) rfl (Or.inl ⟨by rfl, ?_⟩) (by assumption) ?_
  rotate_left 1
  · (intro w' hSw; (try dsimp only at hSw); go_simp; try with_reducible rfl)
  try simp only [Act.put, qqA, qqB, qqC]
  refine wtk (i := 4) (oi := { dst := some 7, op := .fieldAddr 51 (.tmp 1) 1, type := 0, pos := "l11_view.go:213", after := #[], guard := none }) (v := ?_) rfl (Or.inl ⟨by rfl, ?_⟩) (by assumption) ?_
  rotate_left 1
  · (intro w' hSw; (try dsimp only at hSw); go_simp; try with_reducible rfl)
  try simp only [Act.put, qqA, qqB, qqC]
  refine wtk (i := 5) (oi := { dst := some 8, op := .load 9 (.tmp 7), type := 9, pos := "l11_view.go:213", after := #[{ on := 4, ground := .data }], guard := none }) (v := ?_) rfl (Or.inl ⟨by rfl, ?_⟩) (by assumption) ?_
  rotate_left 1
  · (intro w' hSw; (try dsimp only at hSw); go_simp; try with_reducible rfl)
  try simp only [Act.put, qqA, qqB, qqC]
  refine wpAnyH_ready (rs := [2]) (by kernel_rfl) (by simp) ?_
  refine AllReadyH.cons (o := { dst := some 5, op := .call { callee := .value (.func 50), args := #[.const (.slice none 0 0), .tmp 4, .const (.int .i64 1)], argTypes := #[22, 3, 3] }, type := 22, pos := "l11_view.go:213", after := #[{ on := 1, ground := .data }], guard := none }) rfl (fun K hK => ?_) AllReadyH.nil
  go_simp
  refine (iappend w1.heap.size (.slice none 0 0) [] Y 1 (by omega) (by decide) (by simp) _ (World.ownsRow_nil _ _ _ _) (Nat.le_refl _)).mono ?_
  rintro e w2 ⟨v2, rfl, ho2, hb2⟩
  have B2 := hide ((unhide B1).trans (hb2.mono (unhide B1).size))
  have A2 := hide ((unhide A1).below hb2)
  rw [List.nil_append] at ho2
  have hcv := conv_own (P := Tryd.prog) (src := 22) (dst := 9) Tryd.underlying22 Tryd.underlying5 Tryd.underlying9 ho2
  rw [← unhide HBT] at hcv
  have HCV := hide hcv
  clear hb2 ho2 hcv B1 A1
  go_wp2_with fail
  refine hK.out _ _ ?_ (fun hHeld2 => ?_)
  · exact (unhide A2).S
  clear hK K
  try simp only [Act.put, qqA, qqB, qqC]
  refine wpAnyH_ready (rs := [3]) (by kernel_rfl) (by simp) ?_
  refine AllReadyH.cons (o := { dst := some 6, op := .convert 22 9 (.tmp 5), type := 9, pos := "l11_view.go:213", after := #[{ on := 2, ground := .data }], guard := none }) rfl (fun K hK => ?_) AllReadyH.nil
  have hcv := unhide HCV
  go_simp
  clear hcv
  refine hK.out _ _ ?_ (fun hHeld3 => ?_)
  · exact (unhide A2).S
  clear hK K
  try simp only [Act.put, qqA, qqB, qqC]
  refine wtk (i := 6) (oi := { dst := some 9, op := .binOp .add 9 (.tmp 6) (.tmp 8) 9, type := 9, pos := "l11_view.go:213", after := #[{ on := 3, ground := .data }, { on := 5, ground := .data }], guard := none }) (v := ?_) rfl (Or.inl ⟨by rfl, ?_⟩) (by assumption) ?_
  rotate_left 1
  · (intro w' hSw; (try dsimp only at hSw); go_simp; try with_reducible rfl)
  try simp only [Act.put, qqA, qqB, qqC]
  refine wtk (i := 7) (oi := { dst := some 2, op := .assign (.tmp 9), type := 9, pos := "l11_view.go:213", after := #[{ on := 6, ground := .data }, { on := 2, ground := .chain }, { on := 0, ground := .phase }, { on := 1, ground := .phase }, { on := 2, ground := .phase }, { on := 3, ground := .phase }, { on := 4, ground := .phase }, { on := 5, ground := .phase }, { on := 6, ground := .phase }], guard := none }) (v := ?_) rfl (Or.inl ⟨by rfl, ?_⟩) (by assumption) ?_
  rotate_left 1
  · (intro w' hSw; (try dsimp only at hSw); go_simp; try with_reducible rfl)
  try simp only [Act.put, qqA, qqB, qqC]
  refine wpAnyH_done (by kernel_rfl) ?_ _
  go_wp2_with fail
  go_ret
  exact ⟨ret_string (unhide HXX), unhide B2⟩
end Go.Proofs.YtblhediekdeffaaDoor

/- numberOf: the number of a row of bytes. -/
namespace Go.Proofs.YtblhediekdeffaaDoor
open Go.ChangeShapes Go.WideShapes Go.ChangeAt Go.RowKit
set_option maxHeartbeats 400000 in
set_option maxRecDepth 100000 in
/-- numberOf: the number of at most four bytes. -/
theorem inumber (a : Option Addr) (cap : Nat) (l : List UInt8) (hl : l.length ≤ 4) (w : World) (hr : Row8 w a l) :
    Calls Tryd.prog 27 #[.slice a l.length cap] w fun e w' => e = .returned (.int .i64 ((ofBE l : Nat) : Int)) ∧ w' = w := by
  have HR := hide hr
  clear hr
  go_enter Tryd.func27, Tryd.ntmps27
  go_wp2_with fail
  go_loop [3, 8] (fun r i => ∃ k y : Nat, k ≤ l.length ∧ i = .int .i64 k ∧ r = .int .i64 (y : Int) ∧ Hid (y = ofBE (l.take k))) (fun _ i => l.length - (intOf i).toNat)
  case atStart => exact ⟨0, 0, by omega, rfl, rfl, rfl⟩
  case round =>
    obtain ⟨k, y, hk, rfl, rfl, HY⟩ := hrel
    have hy : y < 256 ^ k := by have := ofBE_lt l k; rw [← unhide HY] at this; exact this
    by_cases hlt : k < l.length
    · obtain ⟨b, off, ha, hblt, hc⟩ := (unhide HR).at (by omega)
      subst ha
      have hy2 : y < 16777216 := Nat.lt_of_lt_of_le hy (Nat.le_trans (Nat.pow_le_pow_right (by decide) (show k ≤ 3 by omega)) (by decide))
      have hc1 := hc k hlt
      have hlt' : (k : Int) < (l.length : Int) := by omega
      have hcv := l[k].toNat_lt
      have h2 : bits BinOp.or IntKind.i64 ((y : Int) * 256) (l[k].toNat : Int) = ((y * 256 + l[k].toNat : Nat) : Int) := or_byte y l[k].toNat (by omega) (by omega)
      have c0 : (l[k].toNat : Int) ≤ 255 := by omega
      have y0 : (y : Int) ≤ 16777216 := by omega
      clear hc HR hy hblt hcv hy2
      go_wp2_with fail
      go_round
      case rel => exact ⟨k + 1, y * 256 + l[k].toNat, by omega, by go_num, rfl, by show _ = _; rw [ofBE_snoc l k hlt, unhide HY]⟩
      case measure => simp [intOf]; omega
    · have HV : Hid (((ofBE l : Nat) : Int) = (y : Int)) := by show _ = _; rw [unhide HY, List.take_of_length_le (by omega)]
      clear hy
      go_wp2_with fail
      go_ret
      exact ⟨ret_int (unhide HV).symm, rfl⟩
end Go.Proofs.YtblhediekdeffaaDoor

/- ViewBytes: what the specification answers. -/
import Derived.Test.YtpbnjncbbllpdaaZVbJ
import Derived.Test.YtpbnjncbbllpdaaZVoS
import Derived.Test.YtpbnjncbbllpdaaZNumbersS
import Derived.Test.YtpbnjncbbllpdaaZFieldsS
import Derived.Test.YtpbnjncbbllpdaaZAppS
import Derived.Laws.OwnMore
namespace Go.Proofs.Ytpbnjncbbllpdaa
open Go.ChangeShapes Go.WideShapes Go.ChangeAt Go.RowKit
set_option linter.unusedVariables false
set_option maxHeartbeats 4000000 in
set_option maxRecDepth 100000 in
theorem sbit (b : Bool) (x : Int) (HX : Hid (x = bitI b)) (w : World) : Calls Try.prog 29 #[.bool b] w fun e w' => e = .returned (.int .i64 x) ∧ w' = w := by
  cases b
  · obtain rfl : x = 0 := unhide HX
    go_enter Try.func29, Try.ntmps29
    go_wp2_with fail
    go_ret
    exact ⟨rfl, rfl⟩
  · obtain rfl : x = 1 := unhide HX
    go_enter Try.func29, Try.ntmps29
    go_wp2_with fail
    go_ret
    exact ⟨rfl, rfl⟩
set_option maxHeartbeats 4000000 in
set_option maxRecDepth 100000 in
theorem sl11bytes (nb fr : Int) (fu : Bool) (vw vh : Int) (a : Option Addr) (cap n : Nat) (l : List Rw) (HN : Hid (l.length = n)) (HQ : Hid (true = vwB nb fr fu vw vh l)) (r : List UInt8) (HRR : Hid (r = fbL (vbF nb fr fu vw vh l))) (w : World) (hr : RowV w a (cE l)) :
    Calls Try.prog 15 #[.agg #[.int .i64 nb, .int .i64 fr, .bool fu, .int .i64 vw, .int .i64 vh, .slice a n cap]] w fun e w' => e = .returned (.string ⟨r.toArray⟩) ∧ Below w.heap.size w w' := by
  have B0 := hide (Go.Joins.below_alloc1 w (.cells #[.int .i64 nb, .int .i64 fr, .bool fu, .int .i64 vw, .int .i64 vh, .slice a n cap] 31))
  have A0 := hide (BF.new w #[.int .i64 nb, .int .i64 fr, .bool fu, .int .i64 vw, .int .i64 vh, .slice a n cap] 31)
  have HR := hide hr
  clear hr
  obtain ⟨i0, hi, hz0, hz1, hz2⟩ := info_parts Try.infL9
  obtain ⟨hl10, hfit, hy, hz, hfc, hbig⟩ := vb_parts (unhide HQ).symm
  have hn10 : n ≤ 10 := by rw [← unhide HN]; exact hl10
  have HY := hide hy
  have HZ := hide hz
  have HBIG := hide (vb_short (unhide HQ).symm)
  obtain ⟨b, hb⟩ : ∃ b, b = bitI fu := ⟨_, rfl⟩
  have HB := hide hb
  rw [← hb] at hfit
  have HFIT := hide hfit
  obtain ⟨X0, hX0⟩ : ∃ X0 : ByteArray, X0 = ⟨(numsL [nb, fr, b, vw, vh]).toArray⟩ := ⟨_, rfl⟩
  have HX0 := hide hX0
  clear hy hz hfc hb hfit hX0 hl10 hbig
  go_enter Try.func15, Try.ntmps15
  go_wp2_with fail
  refine wp_region_held_drew (S := (fun w' => ∀ o, w'.cell? ⟨w.heap.size, o, none⟩ = (#[.int .i64 nb, .int .i64 fr, .bool fu, .int .i64 vw, .int .i64 vh, .slice a n cap] : Array Value)[o]?)) (by kernel_rfl) (unhide A0).S (fun hHeld => ?_)
  have B3 := hide ((unhide B0).drew)
  have A3 := hide ((unhide A0).drew)
  clear A0 B0
  generalize (w.alloc (.cells #[.int .i64 nb, .int .i64 fr, .bool fu, .int .i64 vw, .int .i64 vh, .slice a n cap] 31)).drew = w3 at B3 A3 hHeld ⊢
  refine wtk (i := 0) (oi := { dst := some 5, op := .fieldAddr 31 (.tmp 1) 0, type := 0, pos := "l11_view.go:132", after := #[], guard := none }) (v := ?_) rfl (Or.inl ⟨by rfl, ?_⟩) (by assumption) ?_
  rotate_left 1
  · (intro w' hSw; (try dsimp only at hSw); go_simp; try with_reducible rfl)
  try simp only [Act.put, qqA, qqB, qqC]
  refine wtk (i := 1) (oi := { dst := some 6, op := .load 3 (.tmp 5), type := 3, pos := "l11_view.go:132", after := #[{ on := 0, ground := .data }], guard := none }) (v := ?_) rfl (Or.inl ⟨by rfl, ?_⟩) (by assumption) ?_
  rotate_left 1
  · (intro w' hSw; (try dsimp only at hSw); go_simp; try with_reducible rfl)
  try simp only [Act.put, qqA, qqB, qqC]
  refine wtk (i := 2) (oi := { dst := some 7, op := .fieldAddr 31 (.tmp 1) 1, type := 0, pos := "l11_view.go:132", after := #[], guard := none }) (v := ?_) rfl (Or.inl ⟨by rfl, ?_⟩) (by assumption) ?_
  rotate_left 1
  · (intro w' hSw; (try dsimp only at hSw); go_simp; try with_reducible rfl)
  try simp only [Act.put, qqA, qqB, qqC]
  refine wtk (i := 3) (oi := { dst := some 8, op := .load 3 (.tmp 7), type := 3, pos := "l11_view.go:132", after := #[{ on := 2, ground := .data }], guard := none }) (v := ?_) rfl (Or.inl ⟨by rfl, ?_⟩) (by assumption) ?_
  rotate_left 1
  · (intro w' hSw; (try dsimp only at hSw); go_simp; try with_reducible rfl)
  try simp only [Act.put, qqA, qqB, qqC]
  refine wtk (i := 4) (oi := { dst := some 9, op := .fieldAddr 31 (.tmp 1) 2, type := 0, pos := "l11_view.go:132", after := #[], guard := none }) (v := ?_) rfl (Or.inl ⟨by rfl, ?_⟩) (by assumption) ?_
  rotate_left 1
  · (intro w' hSw; (try dsimp only at hSw); go_simp; try with_reducible rfl)
  try simp only [Act.put, qqA, qqB, qqC]
  refine wtk (i := 5) (oi := { dst := some 10, op := .load 4 (.tmp 9), type := 4, pos := "l11_view.go:132", after := #[{ on := 4, ground := .data }], guard := none }) (v := ?_) rfl (Or.inl ⟨by rfl, ?_⟩) (by assumption) ?_
  rotate_left 1
  · (intro w' hSw; (try dsimp only at hSw); go_simp; try with_reducible rfl)
  try simp only [Act.put, qqA, qqB, qqC]
  refine wtk (i := 7) (oi := { dst := some 12, op := .fieldAddr 31 (.tmp 1) 3, type := 0, pos := "l11_view.go:132", after := #[], guard := none }) (v := ?_) rfl (Or.inl ⟨by rfl, ?_⟩) (by assumption) ?_
  rotate_left 1
  · (intro w' hSw; (try dsimp only at hSw); go_simp; try with_reducible rfl)
  try simp only [Act.put, qqA, qqB, qqC]
  refine wtk (i := 8) (oi := { dst := some 13, op := .load 3 (.tmp 12), type := 3, pos := "l11_view.go:132", after := #[{ on := 7, ground := .data }], guard := none }) (v := ?_) rfl (Or.inl ⟨by rfl, ?_⟩) (by assumption) ?_
  rotate_left 1
  · (intro w' hSw; (try dsimp only at hSw); go_simp; try with_reducible rfl)
  try simp only [Act.put, qqA, qqB, qqC]
  refine wtk (i := 9) (oi := { dst := some 14, op := .fieldAddr 31 (.tmp 1) 4, type := 0, pos := "l11_view.go:132", after := #[], guard := none }) (v := ?_) rfl (Or.inl ⟨by rfl, ?_⟩) (by assumption) ?_
  rotate_left 1
  · (intro w' hSw; (try dsimp only at hSw); go_simp; try with_reducible rfl)
  try simp only [Act.put, qqA, qqB, qqC]
  refine wtk (i := 10) (oi := { dst := some 15, op := .load 3 (.tmp 14), type := 3, pos := "l11_view.go:132", after := #[{ on := 9, ground := .data }], guard := none }) (v := ?_) rfl (Or.inl ⟨by rfl, ?_⟩) (by assumption) ?_
  rotate_left 1
  · (intro w' hSw; (try dsimp only at hSw); go_simp; try with_reducible rfl)
  try simp only [Act.put, qqA, qqB, qqC]
  refine wpAnyH_ready (rs := [6]) (by kernel_rfl) (by simp) ?_
  refine AllReadyH.cons (o := { dst := some 11, op := .call { callee := .value (.func 29), args := #[.tmp 10], argTypes := #[4] }, type := 3, pos := "l11_view.go:132", after := #[{ on := 5, ground := .data }], guard := none }) rfl (fun K hK => ?_) AllReadyH.nil
  go_simp
  refine (sbit fu b HB _).mono ?_
  rintro e w4 ⟨rfl, hw4⟩
  subst w4
  go_wp2_with fail
  refine hK.out _ _ ?_ (fun hHeld6 => ?_)
  · exact (unhide A3).S
  clear hK K
  try simp only [Act.put, qqA, qqB, qqC]
  refine wpAnyH_ready (rs := [11]) (by kernel_rfl) (by simp) ?_
  refine AllReadyH.cons (o := { dst := some 16, op := .buildSlice 57 5 #[(0, .tmp 6), (1, .tmp 8), (2, .tmp 11), (3, .tmp 13), (4, .tmp 15)], type := 57, pos := "l11_view.go:132", after := #[{ on := 1, ground := .data }, { on := 3, ground := .data }, { on := 6, ground := .data }, { on := 8, ground := .data }, { on := 10, ground := .data }], guard := none }) rfl (fun K hK => ?_) AllReadyH.nil
  obtain ⟨G, hG⟩ : ∃ G, G = w3.heap.size := ⟨_, rfl⟩
  have B4 := hide ((unhide B3).alloc (unhide B3).size (.cells #[.int .i64 nb, .int .i64 fr, .int .i64 b, .int .i64 vw, .int .i64 vh] 3))
  have A4 := hide ((unhide A3).alloc (.cells #[.int .i64 nb, .int .i64 fr, .int .i64 b, .int .i64 vw, .int .i64 vh] 3))
  have R4 : Hid (RowV (w3.alloc (.cells #[.int .i64 nb, .int .i64 fr, .int .i64 b, .int .i64 vw, .int .i64 vh] 3)) (some ⟨G, 0, none⟩) (cI [nb, fr, b, vw, vh])) := by rw [hG]; exact rowZ_at (base := w3.heap.size) (e := 3) (z := 1) (n := 5) (cap := 5) (by have h := World.ownsRow_lit (e := 3) (base := w3.heap.size) (size := 1) w3 #[.int .i64 nb, .int .i64 fr, .int .i64 b, .int .i64 vw, .int .i64 vh] 5 (Nat.le_refl _) (by unfold maxLen; omega) (by simp); exact h)
  go_simp
  refine hK.out _ _ ?_ (fun hHeld11 => ?_)
  · exact (unhide A4).S
  clear hK K
  try simp only [Act.put, qqA, qqB, qqC]
  rw [← hG]
  clear hG B3 A3
  generalize w3.alloc (.cells #[.int .i64 nb, .int .i64 fr, .int .i64 b, .int .i64 vw, .int .i64 vh] 3) = w5 at B4 A4 R4 hHeld11 ⊢
  refine wpAnyH_ready (rs := [12]) (by kernel_rfl) (by simp) ?_
  refine AllReadyH.cons (o := { dst := some 17, op := .call { callee := .value (.func 28), args := #[.tmp 16], argTypes := #[57] }, type := 26, pos := "l11_view.go:132", after := #[{ on := 11, ground := .data }, { on := 6, ground := .chain }], guard := none }) rfl (fun K hK => ?_) AllReadyH.nil
  go_simp
  refine (snums (some ⟨G, 0, none⟩) 5 [nb, fr, b, vw, vh] (by simp) (unhide HFIT) _ (unhide R4)).mono ?_
  rintro e w6 ⟨v6, rfl, ho6, hb6⟩
  have hcv := conv_own (P := Try.prog) (src := 26) (dst := 9) Try.underlying26 Try.underlying5 Try.underlying9 ho6
  rw [← unhide HX0] at hcv
  have HCV := hide hcv
  have B6 := hide ((unhide B4).trans (hb6.mono (unhide B4).size))
  have A6 := hide ((unhide A4).below hb6)
  clear hb6 ho6 hcv B4 A4 R4
  go_wp2_with fail
  refine hK.out _ _ ?_ (fun hHeld12 => ?_)
  · exact (unhide A6).S
  clear hK K
  try simp only [Act.put, qqA, qqB, qqC]
  refine wpAnyH_ready (rs := [13]) (by kernel_rfl) (by simp) ?_
  refine AllReadyH.cons (o := { dst := some 18, op := .convert 26 9 (.tmp 17), type := 9, pos := "l11_view.go:132", after := #[{ on := 12, ground := .data }], guard := none }) rfl (fun K hK => ?_) AllReadyH.nil
  have hcv := unhide HCV
  go_simp
  clear hcv
  refine hK.out _ _ ?_ (fun hHeld13 => ?_)
  · exact (unhide A6).S
  clear hK K
  try simp only [Act.put, qqA, qqB, qqC]
  refine wpAnyH_ready (rs := [14]) (by kernel_rfl) (by simp) ?_
  refine AllReadyH.cons (o := { dst := some 19, op := .buildSlice 44 1 #[(0, .tmp 18)], type := 44, pos := "l11_view.go:132", after := #[{ on := 13, ground := .data }], guard := none }) rfl (fun K hK => ?_) AllReadyH.nil
  obtain ⟨g7, hg7⟩ : ∃ g7, g7 = w6.heap.size := ⟨_, rfl⟩
  have B7 := hide ((unhide B6).alloc (unhide B6).size (.cells #[.string X0] 9))
  have A7 := hide ((unhide A6).alloc (.cells #[.string X0] 9))
  have zA := (unhide A6).lt
  have E7 : Hid ((w6.alloc (.cells #[.string X0] 9)).ownsRow (w.heap.size + 1) 9 1 (.slice (some ⟨g7, 0, none⟩) 1 1) 1 (cS (vbF nb fr fu vw vh (l.take 0)))) := by
    have h := World.ownsRow_lit (e := 9) (base := w.heap.size + 1) (size := 1) w6 #[.string X0] 1 zA (by unfold maxLen; omega) (by simp)
    rw [← hg7] at h
    show World.ownsRow _ _ _ _ _ _ _
    have e : cS (vbF nb fr fu vw vh (l.take 0)) = [.string X0] := by rw [unhide HX0, unhide HB]; rfl
    rw [e]; exact h
  go_simp
  refine hK.out _ _ ?_ (fun hHeld13 => ?_)
  · exact (unhide A7).S
  clear hK K
  try simp only [Act.put, qqA, qqB, qqC]
  rw [← hg7]
  clear hg7 zA B6 A6 HCV
  generalize w6.alloc (.cells #[.string X0] 9) = w7 at B7 A7 E7 hHeld13 ⊢
  refine wtk (i := 15) (oi := { dst := some 3, op := .assign (.tmp 19), type := 44, pos := "l11_view.go:132", after := #[{ on := 14, ground := .data }, { on := 12, ground := .chain }, { on := 0, ground := .phase }, { on := 1, ground := .phase }, { on := 2, ground := .phase }, { on := 3, ground := .phase }, { on := 4, ground := .phase }, { on := 5, ground := .phase }, { on := 6, ground := .phase }, { on := 7, ground := .phase }, { on := 8, ground := .phase }, { on := 9, ground := .phase }, { on := 10, ground := .phase }, { on := 11, ground := .phase }, { on := 12, ground := .phase }, { on := 13, ground := .phase }, { on := 14, ground := .phase }], guard := none }) (v := ?_) rfl (Or.inl ⟨by rfl, ?_⟩) (by assumption) ?_
  rotate_left 1
  · (intro w' hSw; (try dsimp only at hSw); go_simp; try with_reducible rfl)
  try simp only [Act.put, qqA, qqB, qqC]
  refine wpAnyH_done (by kernel_rfl) ?_ _
  go_wp2_with fail
  go_loopw [3, 4] (fun l0 i wr => ∃ (k : Nat) (aV : Option Addr) (cV : Nat), k ≤ n ∧ i = .int .i64 (k : Int) ∧ l0 = .slice aV (k + 1) cV ∧ Hid (wr.ownsRow (w.heap.size + 1) 9 1 (.slice aV (k + 1) cV) (k + 1) (cS (vbF nb fr fu vw vh (l.take k)))) ∧ Hid (Below w.heap.size w wr) ∧ Hid (BF w.heap.size #[.int .i64 nb, .int .i64 fr, .bool fu, .int .i64 vw, .int .i64 vh, .slice a n cap] wr)) (fun _ i _ => n - (intOf i).toNat)
  case atStart => exact ⟨0, _, _, by omega, rfl, rfl, E7, B7, A7⟩
  case round =>
    clear E7 B7 A7
    obtain ⟨k, aV, cV, hk, rfl, rfl, HO, B1, HA⟩ := hrel
    have ka := (unhide HA).S
    by_cases hlt : k < n
    · have hlk : k < l.length := by rw [unhide HN]; omega
      obtain ⟨b1, off, ha1, hblt, hc⟩ := (unhide HR).at (by rw [cE_len]; omega)
      subst ha1
      obtain ⟨x0, x1⟩ := row_ent hc k hlk
      obtain ⟨hy0, hy9⟩ := unhide HY k hlk
      obtain ⟨Y, hYY⟩ : ∃ Y : Nat, Y = l[k].1.toNat := ⟨_, rfl⟩
      have eY : l[k].1 = (Y : Int) := by omega
      obtain ⟨d, ed⟩ : ∃ d, d = l[k].2 := ⟨_, rfl⟩
      have hd6 : d.size ≤ 96 := by rw [ed]; exact unhide HZ k hlk
      have hY256 : Y < 256 := by omega
      obtain ⟨Bt, hBt⟩ : ∃ Bt : ByteArray, Bt = ⟨(be Y 1).toArray⟩ := ⟨_, rfl⟩
      have hB1 : Bt.size ≤ 1 := by rw [hBt]; show (be Y 1).toArray.size ≤ 1; simp [be]
      obtain ⟨X, hX⟩ : ∃ X, X = rowX ((Y : Int), d) := ⟨_, rfl⟩
      have hXX : Bt ++ d = X := by rw [hX, hBt]; rfl
      have HBT := hide hBt
      have hsum : ¬ 9223372036854775807 < Bt.size + d.size := by omega
      have HSN : Hid (cS (vbF nb fr fu vw vh (l.take (k + 1))) = cS (vbF nb fr fu vw vh (l.take k)) ++ [.string X]) := by
        show _ = _
        rw [vbF_snoc _ _ _ _ _ l k hlk, cS_app, hX, show l[k] = ((Y : Int), d) from by rw [← eY, ed]]; rfl
      rw [eY] at x0
      rw [← ed] at x1
      have HC0 := hide x0
      have HC1 := hide x1
      have hlt' : (k : Int) < (n : Int) := by omega
      have hlt0 : (0 : Int) ≤ (k : Int) := by omega
      clear hc x0 x1 ed hlk hYY eY hX hBt hy0 hy9
      go_wp2_with fail
      clear ka
      refine wp_region_held_drew (S := (fun w' => (∀ o, w'.cell? ⟨w.heap.size, o, none⟩ = (#[.int .i64 nb, .int .i64 fr, .bool fu, .int .i64 vw, .int .i64 vh, .slice (some ⟨b1, off, none⟩) n cap] : Array Value)[o]?) ∧ w'.cell? ⟨b1, off + k * 2, none⟩ = some (.int .i64 (Y : Int)) ∧ w'.cell? ⟨b1, off + k * 2 + 1, none⟩ = some (.string d))) (by kernel_rfl) ⟨(unhide HA).S, ((unhide B1).cell (p := ⟨b1, off + k * 2, none⟩) hblt).trans (unhide HC0), ((unhide B1).cell (p := ⟨b1, off + k * 2 + 1, none⟩) hblt).trans (unhide HC1)⟩ (fun hHeld => ?_)
      have B3 := hide ((unhide B1).drew)
      have A3 := hide ((unhide HA).drew)
      have E3 : Hid (wr.drew.ownsRow (w.heap.size + 1) 9 1 (.slice aV (k + 1) cV) (k + 1) (cS (vbF nb fr fu vw vh (l.take k)))) := unhide HO
      clear B1 HA HO
      generalize wr.drew = w3 at B3 A3 E3 hHeld ⊢
      refine wtk (i := 0) (oi := { dst := some 27, op := .move (.tmp 3), type := 44, pos := "l11_view.go:134", after := #[], guard := none }) (v := ?_) rfl (Or.inl ⟨by rfl, ?_⟩) (by assumption) ?_
      rotate_left 1
      · (intro w' hSw; (try dsimp only at hSw); go_simp; try with_reducible rfl)
      try simp only [Act.put, qqA, qqB, qqC]
      refine wtk (i := 1) (oi := { dst := some 28, op := .fieldAddr 31 (.tmp 1) 5, type := 0, pos := "l11_view.go:134", after := #[], guard := none }) (v := ?_) rfl (Or.inl ⟨by rfl, ?_⟩) (by assumption) ?_
      rotate_left 1
      · (intro w' hSw; (try dsimp only at hSw); go_simp; try with_reducible rfl)
      try simp only [Act.put, qqA, qqB, qqC]
      refine wtk (i := 2) (oi := { dst := some 29, op := .load 29 (.tmp 28), type := 29, pos := "l11_view.go:134", after := #[{ on := 1, ground := .data }], guard := none }) (v := ?_) rfl (Or.inl ⟨by rfl, ?_⟩) (by assumption) ?_
      rotate_left 1
      · (intro w' hSw; (try dsimp only at hSw); go_simp; try with_reducible rfl)
      try simp only [Act.put, qqA, qqB, qqC]
      refine wtk (i := 3) (oi := { dst := some 30, op := .move (.tmp 4), type := 3, pos := "l11_view.go:134", after := #[], guard := none }) (v := ?_) rfl (Or.inl ⟨by rfl, ?_⟩) (by assumption) ?_
      rotate_left 1
      · (intro w' hSw; (try dsimp only at hSw); go_simp; try with_reducible rfl)
      try simp only [Act.put, qqA, qqB, qqC]
      refine wtk (i := 4) (oi := { dst := some 31, op := .indexAddr 29 (.tmp 29) (.tmp 30), type := 0, pos := "l11_view.go:134", after := #[{ on := 2, ground := .data }, { on := 3, ground := .data }], guard := none }) (v := ?_) rfl (Or.inl ⟨by rfl, ?_⟩) (by assumption) ?_
      rotate_left 1
      · (intro w' hSw; (try dsimp only at hSw); go_simp; try with_reducible rfl)
      try simp only [Act.put, qqA, qqB, qqC]
      refine wtk (i := 5) (oi := { dst := some 32, op := .fieldAddr 46 (.tmp 31) 0, type := 0, pos := "l11_view.go:134", after := #[{ on := 4, ground := .data }], guard := none }) (v := ?_) rfl (Or.inl ⟨by rfl, ?_⟩) (by assumption) ?_
      rotate_left 1
      · (intro w' hSw; (try dsimp only at hSw); go_simp; try with_reducible rfl)
      try simp only [Act.put, qqA, qqB, qqC]
      refine wtk (i := 6) (oi := { dst := some 33, op := .load 3 (.tmp 32), type := 3, pos := "l11_view.go:134", after := #[{ on := 5, ground := .data }], guard := none }) (v := ?_) rfl (Or.inl ⟨by rfl, ?_⟩) (by assumption) ?_
      rotate_left 1
      · (intro w' hSw; (try dsimp only at hSw); go_simp; try with_reducible rfl)
      try simp only [Act.put, qqA, qqB, qqC]
      refine wtk (i := 9) (oi := { dst := some 36, op := .fieldAddr 31 (.tmp 1) 5, type := 0, pos := "l11_view.go:134", after := #[], guard := none }) (v := ?_) rfl (Or.inl ⟨by rfl, ?_⟩) (by assumption) ?_
      rotate_left 1
      · (intro w' hSw; (try dsimp only at hSw); go_simp; try with_reducible rfl)
      try simp only [Act.put, qqA, qqB, qqC]
      refine wtk (i := 10) (oi := { dst := some 37, op := .load 29 (.tmp 36), type := 29, pos := "l11_view.go:134", after := #[{ on := 9, ground := .data }], guard := none }) (v := ?_) rfl (Or.inl ⟨by rfl, ?_⟩) (by assumption) ?_
      rotate_left 1
      · (intro w' hSw; (try dsimp only at hSw); go_simp; try with_reducible rfl)
      try simp only [Act.put, qqA, qqB, qqC]
      refine wtk (i := 11) (oi := { dst := some 38, op := .move (.tmp 4), type := 3, pos := "l11_view.go:134", after := #[], guard := none }) (v := ?_) rfl (Or.inl ⟨by rfl, ?_⟩) (by assumption) ?_
      rotate_left 1
      · (intro w' hSw; (try dsimp only at hSw); go_simp; try with_reducible rfl)
      try simp only [Act.put, qqA, qqB, qqC]
      refine wtk (i := 12) (oi := { dst := some 39, op := .indexAddr 29 (.tmp 37) (.tmp 38), type := 0, pos := "l11_view.go:134", after := #[{ on := 10, ground := .data }, { on := 11, ground := .data }], guard := none }) (v := ?_) rfl (Or.inl ⟨by rfl, ?_⟩) (by assumption) ?_
      rotate_left 1
      · (intro w' hSw; (try dsimp only at hSw); go_simp; try with_reducible rfl)
      try simp only [Act.put, qqA, qqB, qqC]
      refine wtk (i := 13) (oi := { dst := some 40, op := .fieldAddr 46 (.tmp 39) 1, type := 0, pos := "l11_view.go:134", after := #[{ on := 12, ground := .data }], guard := none }) (v := ?_) rfl (Or.inl ⟨by rfl, ?_⟩) (by assumption) ?_
      rotate_left 1
      · (intro w' hSw; (try dsimp only at hSw); go_simp; try with_reducible rfl)
      try simp only [Act.put, qqA, qqB, qqC]
      refine wtk (i := 14) (oi := { dst := some 41, op := .load 9 (.tmp 40), type := 9, pos := "l11_view.go:134", after := #[{ on := 13, ground := .data }], guard := none }) (v := ?_) rfl (Or.inl ⟨by rfl, ?_⟩) (by assumption) ?_
      rotate_left 1
      · (intro w' hSw; (try dsimp only at hSw); go_simp; try with_reducible rfl)
      try simp only [Act.put, qqA, qqB, qqC]
      refine wpAnyH_ready (rs := [7]) (by kernel_rfl) (by simp) ?_
      refine AllReadyH.cons (o := { dst := some 34, op := .call { callee := .value (.func 30), args := #[.tmp 33, .const (.int .i64 1)], argTypes := #[3, 3] }, type := 26, pos := "l11_view.go:134", after := #[{ on := 6, ground := .data }], guard := none }) rfl (fun K hK => ?_) AllReadyH.nil
      go_simp
      refine (snumber Y 1 (by omega) (by decide) _).mono ?_
      rintro e w4 ⟨v4, rfl, ho4, hb4⟩
      have hcv := conv_own (P := Try.prog) (src := 26) (dst := 9) Try.underlying26 Try.underlying5 Try.underlying9 ho4
      rw [← unhide HBT] at hcv
      have HCV := hide hcv
      have B4 := hide ((unhide B3).trans (hb4.mono (unhide B3).size))
      have A4 := hide ((unhide A3).below hb4)
      have E4 := hide (((heldZ_of (unhide E3)).below hb4 (Nat.le_refl _)).own)
      clear hb4 ho4 hcv B3 A3 E3
      go_wp2_with fail
      refine hK.out _ _ ?_ (fun hHeld7 => ?_)
      · exact ⟨(unhide A4).S, ((unhide B4).cell (p := ⟨b1, off + k * 2, none⟩) hblt).trans (unhide HC0), ((unhide B4).cell (p := ⟨b1, off + k * 2 + 1, none⟩) hblt).trans (unhide HC1)⟩
      clear hK K
      try simp only [Act.put, qqA, qqB, qqC]
      refine wpAnyH_ready (rs := [8]) (by kernel_rfl) (by simp) ?_
      refine AllReadyH.cons (o := { dst := some 35, op := .convert 26 9 (.tmp 34), type := 9, pos := "l11_view.go:134", after := #[{ on := 7, ground := .data }], guard := none }) rfl (fun K hK => ?_) AllReadyH.nil
      have hcv := unhide HCV
      go_simp
      clear hcv HCV
      refine hK.out _ _ ?_ (fun hHeld8 => ?_)
      · exact ⟨(unhide A4).S, ((unhide B4).cell (p := ⟨b1, off + k * 2, none⟩) hblt).trans (unhide HC0), ((unhide B4).cell (p := ⟨b1, off + k * 2 + 1, none⟩) hblt).trans (unhide HC1)⟩
      clear hK K
      try simp only [Act.put, qqA, qqB, qqC]
      refine wtk (i := 15) (oi := { dst := some 42, op := .binOp .add 9 (.tmp 35) (.tmp 41) 9, type := 9, pos := "l11_view.go:134", after := #[{ on := 8, ground := .data }, { on := 14, ground := .data }], guard := none }) (v := ?_) rfl (Or.inl ⟨by rfl, ?_⟩) (by assumption) ?_
      rotate_left 1
      · (intro w' hSw; (try dsimp only at hSw); go_simp; try with_reducible rfl)
      try simp only [Act.put, qqA, qqB, qqC]
      try rw [hXX]
      refine wpAnyH_ready (rs := [16]) (by kernel_rfl) (by simp) ?_
      refine AllReadyH.cons (o := { dst := some 43, op := .buildSlice 44 1 #[(0, .tmp 42)], type := 44, pos := "l11_view.go:134", after := #[{ on := 15, ground := .data }], guard := none }) rfl (fun K hK => ?_) AllReadyH.nil
      obtain ⟨G, hG⟩ : ∃ G, G = w4.heap.size := ⟨_, rfl⟩
      have hb6 : Below w4.heap.size w4 (w4.alloc (.cells #[.string X] 9)) := Go.Joins.below_alloc1 w4 (.cells #[.string X] 9)
      have R6 := hide (BF.new w4 #[.string X] 9)
      have B6 := hide ((unhide B4).trans (hb6.mono (unhide B4).size))
      have A6 := hide ((unhide A4).below hb6)
      have E6 := hide (((heldZ_of (unhide E4)).below hb6 (Nat.le_refl _)).own)
      have z6 := hide ((unhide A6).lt)
      rw [← hG] at R6
      go_simp
      refine hK.out _ _ ?_ (fun hHeldB => ?_)
      · exact ⟨(unhide A6).S, ((unhide B6).cell (p := ⟨b1, off + k * 2, none⟩) hblt).trans (unhide HC0), ((unhide B6).cell (p := ⟨b1, off + k * 2 + 1, none⟩) hblt).trans (unhide HC1)⟩
      clear hK K
      try simp only [Act.put, qqA, qqB, qqC]
      rw [← hG]
      clear hb6 hG B4 A4 E4
      generalize w4.alloc (.cells #[.string X] 9) = w6 at R6 B6 A6 E6 z6 hHeldB ⊢
      refine wpAnyH_ready (rs := [17]) (by kernel_rfl) (by simp) ?_
      refine AllReadyH.cons (o := { dst := some 44, op := .call { callee := .builtin Go.Builtin.append, args := #[.tmp 27, .tmp 43], argTypes := #[44, 44] }, type := 44, pos := "l11_view.go:134", after := #[{ on := 0, ground := .data }, { on := 16, ground := .data }, { on := 7, ground := .chain }], guard := none }) rfl (fun K hK => ?_) AllReadyH.nil
      refine step_append_lies w6 rfl (.tmp 27) (.tmp 43) 44 rfl (w.heap.size + 1) 9 i0 (.string ⟨#[]⟩) 1 16 Try.underlying44 hi hz0 hz1 hz2 rfl (by decide) (.slice aV (k + 1) cV) (k + 1) (cS (vbF nb fr fu vw vh (l.take k))) rfl (unhide E6) ⟨G, 0, none⟩ 1 1 [.string X] rfl rfl (by intro j u hj; have e := (unhide R6).S j; rw [show (⟨G, 0, none⟩ : Addr).add j = ⟨G, j, none⟩ from (by unfold Addr.add; split <;> simp_all)]; rw [e]; simpa using hj) (by intro u hu; simp at hu; subst hu; rfl) (by decide) (by unfold maxLen; omega) (by omega) (unhide z6) _ rfl ?_
      intro g7 c7 w7 ho7 hg7 hat7 hlt7
      have B7 := hide ((unhide B6).grown hg7 (unhide B6).size (fun j hj => by have := ((unhide E6).lt j hj).1; omega))
      have A7 := hide ((unhide A6).grown hg7 (fun h => by have := ((unhide E6).lt _ h).1; omega))
      have E7 : Hid (w7.ownsRow (w.heap.size + 1) 9 1 (.slice (some ⟨g7, 0, none⟩) (k + 1 + 1) c7) (k + 1 + 1) (cS (vbF nb fr fu vw vh (l.take (k + 1))))) := by show World.ownsRow _ _ _ _ _ _ _; rw [unhide HSN]; exact ho7
      clear ho7 hg7 hat7 hlt7 B6 A6 E6 R6 z6
      refine hK.out _ _ ?_ (fun hHeld17 => ?_)
      · exact ⟨(unhide A7).S, ((unhide B7).cell (p := ⟨b1, off + k * 2, none⟩) hblt).trans (unhide HC0), ((unhide B7).cell (p := ⟨b1, off + k * 2 + 1, none⟩) hblt).trans (unhide HC1)⟩
      clear hK K
      try simp only [Act.put, qqA, qqB, qqC]
      refine wtk (i := 18) (oi := { dst := some 3, op := .assign (.tmp 44), type := 44, pos := "l11_view.go:134", after := #[{ on := 17, ground := .data }, { on := 17, ground := .chain }, { on := 0, ground := .phase }, { on := 1, ground := .phase }, { on := 2, ground := .phase }, { on := 3, ground := .phase }, { on := 4, ground := .phase }, { on := 5, ground := .phase }, { on := 6, ground := .phase }, { on := 7, ground := .phase }, { on := 8, ground := .phase }, { on := 9, ground := .phase }, { on := 10, ground := .phase }, { on := 11, ground := .phase }, { on := 12, ground := .phase }, { on := 13, ground := .phase }, { on := 14, ground := .phase }, { on := 15, ground := .phase }, { on := 16, ground := .phase }, { on := 17, ground := .phase }], guard := none }) (v := ?_) rfl (Or.inl ⟨by rfl, ?_⟩) (by assumption) ?_
      rotate_left 1
      · (intro w' hSw; (try dsimp only at hSw); go_simp; try with_reducible rfl)
      try simp only [Act.put, qqA, qqB, qqC]
      refine wpAnyH_done (by kernel_rfl) ?_ _
      go_wp2_with fail
      go_roundw
      case rel => exact ⟨k + 1, _, _, by omega, by go_num, rfl, E7, B7, A7⟩
      case measure => simp [intOf]; omega
    · obtain rfl : k = n := by omega
      have hrF := rowZ_at (unhide HO)
      rw [List.take_of_length_le (by have := unhide HN; omega)] at hrF
      obtain ⟨s1, s2, s3⟩ := unhide HBIG
      have T := sfields24 aV cV (vbF nb fr fu vw vh l) s1 s2 s3 wr hrF
      rw [vbF_len, unhide HN] at T
      have HT := hide T
      have HRL : Hid (be (k + 1) 1 ++ fieldsL (vbF nb fr fu vw vh l) = r) := by show _ = _; rw [unhide HRR, (fb_ok (by omega) s2 s3).1, vbF_len, unhide HN]
      clear T hrF HO s1 s2 s3
      go_wp2_with (go_at_call 31; refine (unhide HT).mono ?_; rintro e w9 ⟨v9, rfl, ho9, hb9⟩; rw [unhide HRL] at ho9; have hcv := conv_own (P := Try.prog) (src := 26) (dst := 9) Try.underlying26 Try.underlying5 Try.underlying9 ho9; have HB9 := hide ((unhide B1).trans (hb9.mono (unhide B1).size)); clear hb9 ho9)
      go_ret
      exact ⟨rfl, unhide HB9⟩
end Go.Proofs.Ytpbnjncbbllpdaa

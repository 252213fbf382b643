/- claimOf: what the program answers. -/
import Derived.Test.YtofkdkglohllpaaGreatDoorZRdtT
import Derived.Test.YtofkdkglohllpaaGreatDoorZTokH
import Derived.Test.YtofkdkglohllpaaGreatDoorZG32
import Derived.Deep.Cut
import Derived.Deep.RegionHeld3
import Derived.Laws.ResultCell
namespace Go.Proofs.YtofkdkglohllpaaGreatDoor
open Go.ChangeShapes Go.WideShapes Go.ChangeAt Go.RowKit
set_option linter.unusedVariables false
abbrev oRdtI0 : Oper := { dst := some 36, op := .load 35 (.tmp 9), type := 35, pos := "l12_token.go:101", after := #[], guard := none }
abbrev oRdtI1 : Oper := { dst := some 37, op := .move (.tmp 6), type := 4, pos := "l12_token.go:101", after := #[], guard := none }
abbrev oRdtI2 : Oper := { dst := some 38, op := .move (.tmp 37), type := 4, pos := "l12_token.go:101", after := #[{ on := 1, ground := .data }], guard := none }
abbrev oRdtI3 : Oper := { dst := some 39, op := .move (.tmp 8), type := 4, pos := "l12_token.go:101", after := #[{ on := 2, ground := .guard }], guard := some (2, true) }
abbrev oRdtI4 : Oper := { dst := some 40, op := .pick (.tmp 38) (.tmp 39) (.const (.bool false)), type := 4, pos := "l12_token.go:101", after := #[{ on := 2, ground := .data }, { on := 3, ground := .data }], guard := none }
abbrev oRdtI5 : Oper := { dst := some 41, op := .move (.tmp 40), type := 4, pos := "l12_token.go:101", after := #[{ on := 4, ground := .data }, { on := 2, ground := .chain }], guard := none }
abbrev oRdtI6 : Oper := { dst := some 42, op := .load 35 (.tmp 9), type := 35, pos := "l12_token.go:101", after := #[{ on := 5, ground := .guard }], guard := some (5, true) }
abbrev oRdtI7 : Oper := { dst := some 43, op := .call { callee := .value (.func 20), args := #[.tmp 42], argTypes := #[35] }, type := 4, pos := "l12_token.go:101", after := #[{ on := 6, ground := .data }, { on := 5, ground := .chain }, { on := 5, ground := .guard }], guard := some (5, true) }
abbrev oRdtI8 : Oper := { dst := some 44, op := .pick (.tmp 41) (.tmp 43) (.const (.bool false)), type := 4, pos := "l12_token.go:101", after := #[{ on := 5, ground := .data }, { on := 7, ground := .data }], guard := none }
abbrev oRdtI9 : Oper := { dst := some 45, op := .move (.tmp 44), type := 4, pos := "l12_token.go:101", after := #[{ on := 8, ground := .data }, { on := 7, ground := .chain }], guard := none }
abbrev oRdtI10 : Oper := { dst := some 46, op := .load 35 (.tmp 9), type := 35, pos := "l12_token.go:101", after := #[{ on := 9, ground := .guard }], guard := some (9, true) }
abbrev oRdtI11 : Oper := { dst := some 47, op := .call { callee := .value (.func 14), args := #[.tmp 46], argTypes := #[35] }, type := 9, pos := "l12_token.go:101", after := #[{ on := 10, ground := .data }, { on := 9, ground := .chain }, { on := 9, ground := .guard }], guard := some (9, true) }
abbrev oRdtI12 : Oper := { dst := some 48, op := .move (.tmp 0), type := 9, pos := "l12_token.go:101", after := #[{ on := 9, ground := .guard }, { on := 15, ground := .gcOnly Go.Departure.lateStores }], guard := some (9, true) }
abbrev oRdtI13 : Oper := { dst := some 49, op := .binOp .eql 9 (.tmp 47) (.tmp 48) 9, type := 4, pos := "l12_token.go:101", after := #[{ on := 11, ground := .data }, { on := 12, ground := .data }, { on := 9, ground := .guard }, { on := 15, ground := .gcOnly Go.Departure.lateStores }], guard := some (9, true) }
abbrev oRdtI14 : Oper := { dst := some 50, op := .pick (.tmp 45) (.tmp 49) (.const (.bool false)), type := 4, pos := "l12_token.go:101", after := #[{ on := 9, ground := .data }, { on := 13, ground := .data }, { on := 15, ground := .gcOnly Go.Departure.lateStores }], guard := none }
abbrev oRdtI15 : Oper := { dst := none, op := .store 35 (.tmp 2) (.tmp 36), type := 0, pos := "l12_token.go:101", after := #[{ on := 0, ground := .data }, { on := 11, ground := .chain }, { on := 0, ground := .phase }, { on := 1, ground := .textOnly Go.Departure.lateStores }, { on := 2, ground := .textOnly Go.Departure.lateStores }, { on := 3, ground := .textOnly Go.Departure.lateStores }, { on := 4, ground := .textOnly Go.Departure.lateStores }, { on := 5, ground := .textOnly Go.Departure.lateStores }, { on := 6, ground := .textOnly Go.Departure.lateStores }, { on := 7, ground := .textOnly Go.Departure.lateStoresUnsure }, { on := 8, ground := .textOnly Go.Departure.lateStores }, { on := 9, ground := .textOnly Go.Departure.lateStores }, { on := 10, ground := .textOnly Go.Departure.lateStores }, { on := 11, ground := .textOnly Go.Departure.lateStoresUnsure }, { on := 12, ground := .textOnly Go.Departure.lateStores }, { on := 13, ground := .textOnly Go.Departure.lateStores }, { on := 14, ground := .textOnly Go.Departure.lateStores }], guard := none }
abbrev oRdtI16 : Oper := { dst := some 3, op := .assign (.tmp 50), type := 4, pos := "l12_token.go:101", after := #[{ on := 14, ground := .data }, { on := 15, ground := .chain }, { on := 0, ground := .phase }, { on := 1, ground := .phase }, { on := 2, ground := .phase }, { on := 3, ground := .phase }, { on := 4, ground := .phase }, { on := 5, ground := .phase }, { on := 6, ground := .phase }, { on := 7, ground := .phase }, { on := 8, ground := .phase }, { on := 9, ground := .phase }, { on := 10, ground := .phase }, { on := 11, ground := .phase }, { on := 12, ground := .phase }, { on := 13, ground := .phase }, { on := 14, ground := .phase }, { on := 15, ground := .phase }], guard := none }
theorem cells4 {w : World} {base : Nat} {v : Value} {P0 P1 P2 P3 : ByteArray} (h : w.ownsRow base 9 1 v 4 (cS [P0, P1, P2, P3])) : ∃ g cap, v = .slice (some ⟨g, 0, none⟩) 4 cap ∧ base ≤ g ∧ g < w.heap.size ∧ w.cell? ⟨g, 1, none⟩ = some (.string P1) ∧ w.cell? ⟨g, 2, none⟩ = some (.string P2) ∧ w.cell? ⟨g, 3, none⟩ = some (.string P3) := by
  obtain ⟨g, cap, e, h1, h2, h3, h4⟩ := own_some h (by decide)
  have hc : ∀ j u, (cS [P0, P1, P2, P3])[j]? = some u → w.cell? ⟨g, j, none⟩ = some u := fun j u hu => by
    have := h4 j u hu
    rw [show (⟨g, 0, none⟩ : Addr).add j = ⟨g, 0 + j, none⟩ from by unfold Addr.add; split <;> simp_all, Nat.zero_add] at this
    exact this
  exact ⟨g, cap, e, h1, h2, hc 1 _ rfl, hc 2 _ rfl, hc 3 _ rfl⟩
/-- How claimOf goes on behind strings.Fields: four texts. -/
def ClPost (w : World) (hd : ByteArray) (e : Ending) (w' : World) : Prop := ∃ (c : Int) (win : ByteArray) (n : Int) (b : Bool), e = .returned (.tuple #[.agg #[.int .i64 c, .string win, .int .i64 n], .bool b]) ∧ (b = true → tokB c win n = true ∧ hd = hdT c win n) ∧ (∀ c2 win2 n2, tokB c2 win2 n2 = true → hd = hdT c2 win2 n2 → b = true ∧ c = c2 ∧ win = win2 ∧ n = n2) ∧ Below w.heap.size w w'
theorem fgd_len : ∀ (f : Nat) (cur l : List UInt8), ∀ p ∈ Lib.fieldsGoD f cur l, p.length ≤ cur.length + l.length
  | 0, cur, l, p, hp => by
    unfold Lib.fieldsGoD at hp
    split at hp
    · cases hp
    · rcases List.mem_singleton.1 hp with rfl; omega
  | f + 1, cur, l, p, hp => by
    unfold Lib.fieldsGoD at hp
    split at hp
    · split at hp
      · cases hp
      · rcases List.mem_singleton.1 hp with rfl; omega
    · split at hp
      · rcases List.mem_append.1 hp with h | h
        · split at h
          · cases h
          · rcases List.mem_singleton.1 h with rfl; omega
        · have := fgd_len f _ _ p h
          rw [List.length_drop] at this; simp at this; omega
      · have := fgd_len f _ _ p hp
        rw [List.length_append, List.length_take, List.length_drop] at this
        omega
theorem fd_len (l : List UInt8) : ∀ p ∈ Lib.fieldsD l, p.length ≤ l.length := fun p hp => by
  have := fgd_len _ _ _ p hp
  simpa using this
theorem fd_hd {c : Int} {win : ByteArray} {n : Int} (h : tokB c win n = true) : Lib.fieldsD (hdT c win n).data.toList = [tokL, (zt c).data.toList, win.data.toList, (zt n).data.toList] := by
  rw [Lib.fieldsD_ascii _ (fun b hb => by obtain ⟨j, hj, rfl⟩ := List.mem_iff_getElem.1 hb; exact hd_ascii h j _ (List.getElem?_eq_getElem hj)), fields_hd h]
/-- What claimOf answers where strings.Fields gives four texts. -/
theorem cl_yes {hd P0 P1 P2 P3 : ByteArray} {x1 x3 : Int} {b1 b3 : Bool} (hL : Lib.fieldsD hd.data.toList = [P0.data.toList, P1.data.toList, P2.data.toList, P3.data.toList]) (h1 : RnIs P1 x1 b1) (h3 : RnIs P3 x3 b3) :
    ∀ (c2 : Int) (win2 : ByteArray) (n2 : Int), tokB c2 win2 n2 = true → hd = hdT c2 win2 n2 → b1 = true ∧ b3 = true ∧ x1 = c2 ∧ P2 = win2 ∧ x3 = n2 := by
  intro c2 win2 n2 hk he
  have h := fd_hd hk
  rw [← he, hL] at h
  simp only [List.cons.injEq, and_true] at h
  obtain ⟨-, e1, e2, e3⟩ := h
  obtain ⟨t0, t1, t2, t3, t4⟩ := tok_parts hk
  obtain ⟨q1, q2⟩ := h1.2 c2 (by omega) t1 (ba_eq e1).symm
  obtain ⟨q3, q4⟩ := h3.2 n2 t3 (by omega) (ba_eq e3).symm
  exact ⟨q1, q3, q2, ba_eq e2, q4⟩
set_option maxHeartbeats 4000000 in
set_option maxRecDepth 100000 in
theorem iclaimOf (hd : ByteArray) (HS : Hid (hd.size ≤ 65536)) (w : World) (ht : TokW w) : Calls Tryz.prog 18 #[.string hd] w (ClPost w hd) := by
  have HT := hide ht
  clear ht
  obtain ⟨L, hL⟩ : ∃ L : List ByteArray, L = (Lib.fieldsD hd.data.toList).map fun l => ⟨l.toArray⟩ := ⟨_, rfl⟩
  have hLL : L.map (fun x => x.data.toList) = Lib.fieldsD hd.data.toList := by rw [hL, List.map_map]; simp [Function.comp_def]
  have HLN : Hid ((Lib.fieldsD hd.data.toList).length = L.length) := by show _ = _; rw [hL, List.length_map]
  have HLC : Hid (((Lib.fieldsD hd.data.toList).map fun x => Value.string ⟨x.toArray⟩) = cS L) := by show _ = _; rw [hL]; unfold cS; rw [List.map_map]; rfl
  have HZ : Hid (∀ k (h : k < L.length), L[k].size ≤ 65536) := by
    intro k h
    have h1 : L[k].data.toList ∈ Lib.fieldsD hd.data.toList := by rw [← hLL]; exact List.mem_map.2 ⟨L[k], List.getElem_mem h, rfl⟩
    have h2 := fd_len hd.data.toList _ h1
    rw [show L[k].data.toList.length = L[k].size from Array.length_toList, show hd.data.toList.length = hd.size from Array.length_toList] at h2
    have := unhide HS
    omega
  have HLL := hide hLL
  clear hL hLL
  have Z0 := hide (Go.Joins.below_alloc1 w (.cells #[.int .i64 0, .string ⟨#[]⟩, .int .i64 0] 35))
  have Y0 := hide (BF.new w #[.int .i64 0, .string ⟨#[]⟩, .int .i64 0] 35)
  by_cases h4 : L.length = 4
  · match L, h4, HLN, HLC, HZ, HLL with
    | [P0, P1, P2, P3], _, HLN, HLC, HZ, HLL =>
      have HP1 : Hid (P1.size ≤ 65536) := unhide HZ 1 (by simp)
      have HP2 : Hid (P2.size ≤ 1048576) := by have h : P2.size ≤ 65536 := unhide HZ 2 (by simp); show _ ≤ _; omega
      have HP3 : Hid (P3.size ≤ 65536) := unhide HZ 3 (by simp)
      have HFD : Hid (Lib.fieldsD hd.data.toList = [P0.data.toList, P1.data.toList, P2.data.toList, P3.data.toList]) := (unhide HLL).symm
      clear HZ HLL
      go_enter Tryz.func18, Tryz.ntmps18
      go_wp2_with fail
      refine (Tryz.strings_Fields_any hd _ (by have := unhide HS; omega) ((unhide HT).below (unhide Z0)).sw ((unhide HT).below (unhide Z0)).ww).mono ?_
      rintro e w1 ⟨a1, rfl, ha1, ho1, hb1⟩
      rw [unhide HLN, unhide HLC] at ho1
      rw [unhide HLN]
      have B1 := hide ((unhide Z0).trans (hb1.mono (unhide Z0).size))
      have Y1 := hide ((unhide Y0).below hb1)
      obtain ⟨g, cap, ev, hg0, hg1, k1, k2, k3⟩ := cells4 ho1
      injection ev with ev1 ev2 ev3
      injection ev1 with ev1
      injection ev1 with ev1
      subst ev1
      have HG := hide hg1
      have HGG : Hid (w.heap.size + 1 ≤ a1) := by have h := ha1; simp at h; exact h
      clear hb1 ho1 hg0 ha1 ev2 ev3 hg1
      go_wp2_with fail
      refine (irn P1 HP1 _ ((unhide HT).below (unhide B1))).mono ?_
      rintro e w2 ⟨x1, b1, rfl, hr1, hb2⟩
      have HR1 := hide hr1
      have B2 := hide ((unhide B1).trans (hb2.mono (unhide B1).size))
      have Y2 := hide ((unhide Y1).below hb2)
      have k2' := (hb2.cell (p := ⟨a1, 2, none⟩) (unhide HG)).trans k2
      have k3' := (hb2.cell (p := ⟨a1, 3, none⟩) (unhide HG)).trans k3
      have HG2 : Hid (a1 < w2.heap.size) := Nat.lt_of_lt_of_le (unhide HG) hb2.size
      clear hb2 k1 k2 k3 hr1 Y1 HG
      go_wp2_with fail
      refine (irn P3 HP3 _ ((unhide HT).below (unhide B2))).mono ?_
      rintro e w3 ⟨x3, b3, rfl, hr3, hb3⟩
      have HR3 := hide hr3
      have B3 := hide ((unhide B2).trans (hb3.mono (unhide B2).size))
      have Y3 := hide ((unhide Y2).below hb3)
      have k2 := (hb3.cell (p := ⟨a1, 2, none⟩) (unhide HG2)).trans k2'
      clear hb3 k2' k3' hr3 Y2
      have HYES := hide (cl_yes (unhide HFD) (unhide HR1) (unhide HR3))
      obtain ⟨G2, hG2⟩ : ∃ G2, G2 = w3.heap.size := ⟨_, rfl⟩
      have B4 := hide ((unhide B3).alloc (unhide B3).size (.cells #[.int .i64 x1, .string P2, .int .i64 x3] 35))
      have A4 := hide (BF.new w3 #[.int .i64 x1, .string P2, .int .i64 x3] 35)
      have P4 := hide ((unhide Y3).alloc (.cells #[.int .i64 x1, .string P2, .int .i64 x3] 35))
      have HNE : Hid (w.heap.size ≠ G2) := by have := (unhide B3).size; have := (unhide Y3).lt; show _ ≠ _; omega
      rw [← hG2] at A4
      obtain ⟨R7, hR7⟩ : ∃ R7, R7 = hdT x1 P2 x3 := ⟨_, rfl⟩
      have HR7 := hide hR7
      obtain ⟨ok, hok⟩ : ∃ ok, ok = tokB x1 P2 x3 := ⟨_, rfl⟩
      have HOK := hide hok
      clear hR7 hok
      go_upto_region 7 with fail
      rw [← hG2]
      clear hG2 k2
      generalize w3.alloc (.cells #[.int .i64 x1, .string P2, .int .i64 x3] 35) = w4 at B4 A4 P4 ⊢
      clear B3 Y3 HG2 B2 B1 Z0 Y0
      cases b1 with
      | false =>
        refine wp_region_held_drew (S := (fun w' => ∀ o, w'.cell? ⟨G2, o, none⟩ = (#[.int .i64 x1, .string P2, .int .i64 x3] : Array Value)[o]?)) (by kernel_rfl) (unhide A4).S (fun hHeld => ?_)
        have B5 := hide ((unhide B4).drew)
        have A5 := hide ((unhide A4).drew)
        have P5 := hide ((unhide P4).drew)
        clear A4 B4 P4
        generalize w4.drew = w5 at B5 A5 P5 hHeld ⊢
        refine wtk (i := 0) (oi := oRdtI0) (v := ?_) rfl (Or.inl ⟨by rfl, ?_⟩) (by assumption) ?_
        rotate_left 1
        · (intro w' hSw; (try dsimp only at hSw); go_simp; try with_reducible rfl)
        try simp only [Act.put, qqA, qqB, qqC]
        refine wtk (i := 1) (oi := oRdtI1) (v := ?_) rfl (Or.inl ⟨by rfl, ?_⟩) (by assumption) ?_
        rotate_left 1
        · (intro w' hSw; (try dsimp only at hSw); go_simp; try with_reducible rfl)
        try simp only [Act.put, qqA, qqB, qqC]
        refine wtk (i := 2) (oi := oRdtI2) (v := ?_) rfl (Or.inl ⟨by rfl, ?_⟩) (by assumption) ?_
        rotate_left 1
        · (intro w' hSw; (try dsimp only at hSw); go_simp; try with_reducible rfl)
        try simp only [Act.put, qqA, qqB, qqC]
        refine wtk (i := 3) (oi := oRdtI3) (v := undef) rfl (Or.inr ⟨by rfl, rfl⟩) (by assumption) ?_
        try simp only [Act.put, qqA, qqB, qqC]
        refine wtk (i := 4) (oi := oRdtI4) (v := ?_) rfl (Or.inl ⟨by rfl, ?_⟩) (by assumption) ?_
        rotate_left 1
        · (intro w' hSw; (try dsimp only at hSw); go_simp; try with_reducible rfl)
        try simp only [Act.put, qqA, qqB, qqC]
        refine wtk (i := 5) (oi := oRdtI5) (v := ?_) rfl (Or.inl ⟨by rfl, ?_⟩) (by assumption) ?_
        rotate_left 1
        · (intro w' hSw; (try dsimp only at hSw); go_simp; try with_reducible rfl)
        try simp only [Act.put, qqA, qqB, qqC]
        refine wtk (i := 6) (oi := oRdtI6) (v := undef) rfl (Or.inr ⟨by rfl, rfl⟩) (by assumption) ?_
        try simp only [Act.put, qqA, qqB, qqC]
        refine wtk (i := 7) (oi := oRdtI7) (v := undef) rfl (Or.inr ⟨by rfl, rfl⟩) (by assumption) ?_
        try simp only [Act.put, qqA, qqB, qqC]
        refine wtk (i := 8) (oi := oRdtI8) (v := ?_) rfl (Or.inl ⟨by rfl, ?_⟩) (by assumption) ?_
        rotate_left 1
        · (intro w' hSw; (try dsimp only at hSw); go_simp; try with_reducible rfl)
        try simp only [Act.put, qqA, qqB, qqC]
        refine wtk (i := 9) (oi := oRdtI9) (v := ?_) rfl (Or.inl ⟨by rfl, ?_⟩) (by assumption) ?_
        rotate_left 1
        · (intro w' hSw; (try dsimp only at hSw); go_simp; try with_reducible rfl)
        try simp only [Act.put, qqA, qqB, qqC]
        refine wtk (i := 10) (oi := oRdtI10) (v := undef) rfl (Or.inr ⟨by rfl, rfl⟩) (by assumption) ?_
        try simp only [Act.put, qqA, qqB, qqC]
        refine wtk (i := 11) (oi := oRdtI11) (v := undef) rfl (Or.inr ⟨by rfl, rfl⟩) (by assumption) ?_
        try simp only [Act.put, qqA, qqB, qqC]
        refine wtk (i := 12) (oi := oRdtI12) (v := undef) rfl (Or.inr ⟨by rfl, rfl⟩) (by assumption) ?_
        try simp only [Act.put, qqA, qqB, qqC]
        refine wtk (i := 13) (oi := oRdtI13) (v := undef) rfl (Or.inr ⟨by rfl, rfl⟩) (by assumption) ?_
        try simp only [Act.put, qqA, qqB, qqC]
        refine wtk (i := 14) (oi := oRdtI14) (v := ?_) rfl (Or.inl ⟨by rfl, ?_⟩) (by assumption) ?_
        rotate_left 1
        · (intro w' hSw; (try dsimp only at hSw); go_simp; try with_reducible rfl)
        try simp only [Act.put, qqA, qqB, qqC]
        refine wpAnyH_ready (rs := [15]) (by kernel_rfl) (by simp) ?_
        refine AllReadyH.cons (o := oRdtI15) rfl (fun K hK => ?_) AllReadyH.nil
        have P8 : Hid (BF w.heap.size #[.int .i64 x1, .string P2, .int .i64 x3] (((w5.setCell ⟨w.heap.size, 0, none⟩ (.int .i64 x1)).setCell ⟨w.heap.size, 1, none⟩ (.string P2)).setCell ⟨w.heap.size, 2, none⟩ (.int .i64 x3))) := ((((unhide P5).set 0 (by simp) (.int .i64 x1)).set 1 (by simp) (.string P2)).set 2 (by simp) (.int .i64 x3))
        have A8 := hide ((((unhide A5).far ⟨w.heap.size, 0, none⟩ (.int .i64 x1) (unhide HNE)).far ⟨w.heap.size, 1, none⟩ (.string P2) (unhide HNE)).far ⟨w.heap.size, 2, none⟩ (.int .i64 x3) (unhide HNE))
        have B8 := hide ((((unhide B5).setCell (p := ⟨w.heap.size, 0, none⟩) (Nat.le_refl _) (.int .i64 x1)).setCell (p := ⟨w.heap.size, 1, none⟩) (Nat.le_refl _) (.string P2)).setCell (p := ⟨w.heap.size, 2, none⟩) (Nat.le_refl _) (.int .i64 x3))
        have f0 := (unhide P5).F
        have sh := (unhide P5).S
        go_simp
        refine hK.out _ _ ?_ (fun hHeld15 => ?_)
        · exact (unhide A8).S
        clear hK K
        try simp only [Act.put, qqA, qqB, qqC]
        clear f0 sh
        generalize ((w5.setCell ⟨w.heap.size, 0, none⟩ (.int .i64 x1)).setCell ⟨w.heap.size, 1, none⟩ (.string P2)).setCell ⟨w.heap.size, 2, none⟩ (.int .i64 x3) = w8 at B8 A8 P8 hHeld15 ⊢
        refine wtk (i := 16) (oi := oRdtI16) (v := ?_) rfl (Or.inl ⟨by rfl, ?_⟩) (by assumption) ?_
        rotate_left 1
        · (intro w' hSw; (try dsimp only at hSw); go_simp; try with_reducible rfl)
        try simp only [Act.put, qqA, qqB, qqC]
        refine wpAnyH_done (by kernel_rfl) ?_ _
        have st := (unhide P8).S
        go_wp2_with fail
        (try simp only [Exit.inBlock, Exit.then])
        refine bodyPost_ret (v := .tuple #[.agg #[.int .i64 x1, .string P2, .int .i64 x3], .bool false]) ?_ rfl ⟨x1, P2, x3, false, rfl, (fun h => (by cases h)), (fun c2 win2 n2 hk he => absurd ((unhide HYES) c2 win2 n2 hk he).1 (by simp)), unhide B8⟩
        rw [results_cell_tmp rfl]
        go_simp
      | true =>
        cases b3 with
        | false =>
          refine wp_region_held_drew (S := (fun w' => ∀ o, w'.cell? ⟨G2, o, none⟩ = (#[.int .i64 x1, .string P2, .int .i64 x3] : Array Value)[o]?)) (by kernel_rfl) (unhide A4).S (fun hHeld => ?_)
          have B5 := hide ((unhide B4).drew)
          have A5 := hide ((unhide A4).drew)
          have P5 := hide ((unhide P4).drew)
          clear A4 B4 P4
          generalize w4.drew = w5 at B5 A5 P5 hHeld ⊢
          refine wtk (i := 0) (oi := oRdtI0) (v := ?_) rfl (Or.inl ⟨by rfl, ?_⟩) (by assumption) ?_
          rotate_left 1
          · (intro w' hSw; (try dsimp only at hSw); go_simp; try with_reducible rfl)
          try simp only [Act.put, qqA, qqB, qqC]
          refine wtk (i := 1) (oi := oRdtI1) (v := ?_) rfl (Or.inl ⟨by rfl, ?_⟩) (by assumption) ?_
          rotate_left 1
          · (intro w' hSw; (try dsimp only at hSw); go_simp; try with_reducible rfl)
          try simp only [Act.put, qqA, qqB, qqC]
          refine wtk (i := 2) (oi := oRdtI2) (v := ?_) rfl (Or.inl ⟨by rfl, ?_⟩) (by assumption) ?_
          rotate_left 1
          · (intro w' hSw; (try dsimp only at hSw); go_simp; try with_reducible rfl)
          try simp only [Act.put, qqA, qqB, qqC]
          refine wtk (i := 3) (oi := oRdtI3) (v := ?_) rfl (Or.inl ⟨by rfl, ?_⟩) (by assumption) ?_
          rotate_left 1
          · (intro w' hSw; (try dsimp only at hSw); go_simp; try with_reducible rfl)
          try simp only [Act.put, qqA, qqB, qqC]
          refine wtk (i := 4) (oi := oRdtI4) (v := ?_) rfl (Or.inl ⟨by rfl, ?_⟩) (by assumption) ?_
          rotate_left 1
          · (intro w' hSw; (try dsimp only at hSw); go_simp; try with_reducible rfl)
          try simp only [Act.put, qqA, qqB, qqC]
          refine wtk (i := 5) (oi := oRdtI5) (v := ?_) rfl (Or.inl ⟨by rfl, ?_⟩) (by assumption) ?_
          rotate_left 1
          · (intro w' hSw; (try dsimp only at hSw); go_simp; try with_reducible rfl)
          try simp only [Act.put, qqA, qqB, qqC]
          refine wtk (i := 6) (oi := oRdtI6) (v := undef) rfl (Or.inr ⟨by rfl, rfl⟩) (by assumption) ?_
          try simp only [Act.put, qqA, qqB, qqC]
          refine wtk (i := 7) (oi := oRdtI7) (v := undef) rfl (Or.inr ⟨by rfl, rfl⟩) (by assumption) ?_
          try simp only [Act.put, qqA, qqB, qqC]
          refine wtk (i := 8) (oi := oRdtI8) (v := ?_) rfl (Or.inl ⟨by rfl, ?_⟩) (by assumption) ?_
          rotate_left 1
          · (intro w' hSw; (try dsimp only at hSw); go_simp; try with_reducible rfl)
          try simp only [Act.put, qqA, qqB, qqC]
          refine wtk (i := 9) (oi := oRdtI9) (v := ?_) rfl (Or.inl ⟨by rfl, ?_⟩) (by assumption) ?_
          rotate_left 1
          · (intro w' hSw; (try dsimp only at hSw); go_simp; try with_reducible rfl)
          try simp only [Act.put, qqA, qqB, qqC]
          refine wtk (i := 10) (oi := oRdtI10) (v := undef) rfl (Or.inr ⟨by rfl, rfl⟩) (by assumption) ?_
          try simp only [Act.put, qqA, qqB, qqC]
          refine wtk (i := 11) (oi := oRdtI11) (v := undef) rfl (Or.inr ⟨by rfl, rfl⟩) (by assumption) ?_
          try simp only [Act.put, qqA, qqB, qqC]
          refine wtk (i := 12) (oi := oRdtI12) (v := undef) rfl (Or.inr ⟨by rfl, rfl⟩) (by assumption) ?_
          try simp only [Act.put, qqA, qqB, qqC]
          refine wtk (i := 13) (oi := oRdtI13) (v := undef) rfl (Or.inr ⟨by rfl, rfl⟩) (by assumption) ?_
          try simp only [Act.put, qqA, qqB, qqC]
          refine wtk (i := 14) (oi := oRdtI14) (v := ?_) rfl (Or.inl ⟨by rfl, ?_⟩) (by assumption) ?_
          rotate_left 1
          · (intro w' hSw; (try dsimp only at hSw); go_simp; try with_reducible rfl)
          try simp only [Act.put, qqA, qqB, qqC]
          refine wpAnyH_ready (rs := [15]) (by kernel_rfl) (by simp) ?_
          refine AllReadyH.cons (o := oRdtI15) rfl (fun K hK => ?_) AllReadyH.nil
          have P8 : Hid (BF w.heap.size #[.int .i64 x1, .string P2, .int .i64 x3] (((w5.setCell ⟨w.heap.size, 0, none⟩ (.int .i64 x1)).setCell ⟨w.heap.size, 1, none⟩ (.string P2)).setCell ⟨w.heap.size, 2, none⟩ (.int .i64 x3))) := ((((unhide P5).set 0 (by simp) (.int .i64 x1)).set 1 (by simp) (.string P2)).set 2 (by simp) (.int .i64 x3))
          have A8 := hide ((((unhide A5).far ⟨w.heap.size, 0, none⟩ (.int .i64 x1) (unhide HNE)).far ⟨w.heap.size, 1, none⟩ (.string P2) (unhide HNE)).far ⟨w.heap.size, 2, none⟩ (.int .i64 x3) (unhide HNE))
          have B8 := hide ((((unhide B5).setCell (p := ⟨w.heap.size, 0, none⟩) (Nat.le_refl _) (.int .i64 x1)).setCell (p := ⟨w.heap.size, 1, none⟩) (Nat.le_refl _) (.string P2)).setCell (p := ⟨w.heap.size, 2, none⟩) (Nat.le_refl _) (.int .i64 x3))
          have f0 := (unhide P5).F
          have sh := (unhide P5).S
          go_simp
          refine hK.out _ _ ?_ (fun hHeld15 => ?_)
          · exact (unhide A8).S
          clear hK K
          try simp only [Act.put, qqA, qqB, qqC]
          clear f0 sh
          generalize ((w5.setCell ⟨w.heap.size, 0, none⟩ (.int .i64 x1)).setCell ⟨w.heap.size, 1, none⟩ (.string P2)).setCell ⟨w.heap.size, 2, none⟩ (.int .i64 x3) = w8 at B8 A8 P8 hHeld15 ⊢
          refine wtk (i := 16) (oi := oRdtI16) (v := ?_) rfl (Or.inl ⟨by rfl, ?_⟩) (by assumption) ?_
          rotate_left 1
          · (intro w' hSw; (try dsimp only at hSw); go_simp; try with_reducible rfl)
          try simp only [Act.put, qqA, qqB, qqC]
          refine wpAnyH_done (by kernel_rfl) ?_ _
          have st := (unhide P8).S
          go_wp2_with fail
          (try simp only [Exit.inBlock, Exit.then])
          refine bodyPost_ret (v := .tuple #[.agg #[.int .i64 x1, .string P2, .int .i64 x3], .bool false]) ?_ rfl ⟨x1, P2, x3, false, rfl, (fun h => (by cases h)), (fun c2 win2 n2 hk he => absurd ((unhide HYES) c2 win2 n2 hk he).2.1 (by simp)), unhide B8⟩
          rw [results_cell_tmp rfl]
          go_simp
        | true =>
          cases ok with
          | false =>
            refine wp_region_held_drew (S := (fun w' => ∀ o, w'.cell? ⟨G2, o, none⟩ = (#[.int .i64 x1, .string P2, .int .i64 x3] : Array Value)[o]?)) (by kernel_rfl) (unhide A4).S (fun hHeld => ?_)
            have B5 := hide ((unhide B4).drew)
            have A5 := hide ((unhide A4).drew)
            have P5 := hide ((unhide P4).drew)
            clear A4 B4 P4
            generalize w4.drew = w5 at B5 A5 P5 hHeld ⊢
            refine wtk (i := 0) (oi := oRdtI0) (v := ?_) rfl (Or.inl ⟨by rfl, ?_⟩) (by assumption) ?_
            rotate_left 1
            · (intro w' hSw; (try dsimp only at hSw); go_simp; try with_reducible rfl)
            try simp only [Act.put, qqA, qqB, qqC]
            refine wtk (i := 1) (oi := oRdtI1) (v := ?_) rfl (Or.inl ⟨by rfl, ?_⟩) (by assumption) ?_
            rotate_left 1
            · (intro w' hSw; (try dsimp only at hSw); go_simp; try with_reducible rfl)
            try simp only [Act.put, qqA, qqB, qqC]
            refine wtk (i := 2) (oi := oRdtI2) (v := ?_) rfl (Or.inl ⟨by rfl, ?_⟩) (by assumption) ?_
            rotate_left 1
            · (intro w' hSw; (try dsimp only at hSw); go_simp; try with_reducible rfl)
            try simp only [Act.put, qqA, qqB, qqC]
            refine wtk (i := 3) (oi := oRdtI3) (v := ?_) rfl (Or.inl ⟨by rfl, ?_⟩) (by assumption) ?_
            rotate_left 1
            · (intro w' hSw; (try dsimp only at hSw); go_simp; try with_reducible rfl)
            try simp only [Act.put, qqA, qqB, qqC]
            refine wtk (i := 4) (oi := oRdtI4) (v := ?_) rfl (Or.inl ⟨by rfl, ?_⟩) (by assumption) ?_
            rotate_left 1
            · (intro w' hSw; (try dsimp only at hSw); go_simp; try with_reducible rfl)
            try simp only [Act.put, qqA, qqB, qqC]
            refine wtk (i := 5) (oi := oRdtI5) (v := ?_) rfl (Or.inl ⟨by rfl, ?_⟩) (by assumption) ?_
            rotate_left 1
            · (intro w' hSw; (try dsimp only at hSw); go_simp; try with_reducible rfl)
            try simp only [Act.put, qqA, qqB, qqC]
            refine wtk (i := 6) (oi := oRdtI6) (v := ?_) rfl (Or.inl ⟨by rfl, ?_⟩) (by assumption) ?_
            rotate_left 1
            · (intro w' hSw; (try dsimp only at hSw); go_simp; try with_reducible rfl)
            try simp only [Act.put, qqA, qqB, qqC]
            refine wpAnyH_ready (rs := [7]) (by kernel_rfl) (by simp) ?_
            refine AllReadyH.cons (o := oRdtI7) rfl (fun K hK => ?_) AllReadyH.nil
            go_simp
            refine (iclaimok x1 P2 x3 HP2 false HOK _).mono ?_
            rintro e w6 ⟨rfl, hb6⟩
            have B6 := hide ((unhide B5).trans (hb6.mono (unhide B5).size))
            have A6 := hide ((unhide A5).below hb6)
            have P6 := hide ((unhide P5).below hb6)
            clear hb6 A5 B5 P5
            go_wp2_with fail
            refine hK.out _ _ ?_ (fun hHeld7 => ?_)
            · exact (unhide A6).S
            clear hK K
            try simp only [Act.put, qqA, qqB, qqC]
            refine wtk (i := 8) (oi := oRdtI8) (v := ?_) rfl (Or.inl ⟨by rfl, ?_⟩) (by assumption) ?_
            rotate_left 1
            · (intro w' hSw; (try dsimp only at hSw); go_simp; try with_reducible rfl)
            try simp only [Act.put, qqA, qqB, qqC]
            refine wtk (i := 9) (oi := oRdtI9) (v := ?_) rfl (Or.inl ⟨by rfl, ?_⟩) (by assumption) ?_
            rotate_left 1
            · (intro w' hSw; (try dsimp only at hSw); go_simp; try with_reducible rfl)
            try simp only [Act.put, qqA, qqB, qqC]
            refine wtk (i := 10) (oi := oRdtI10) (v := undef) rfl (Or.inr ⟨by rfl, rfl⟩) (by assumption) ?_
            try simp only [Act.put, qqA, qqB, qqC]
            refine wtk (i := 11) (oi := oRdtI11) (v := undef) rfl (Or.inr ⟨by rfl, rfl⟩) (by assumption) ?_
            try simp only [Act.put, qqA, qqB, qqC]
            refine wtk (i := 12) (oi := oRdtI12) (v := undef) rfl (Or.inr ⟨by rfl, rfl⟩) (by assumption) ?_
            try simp only [Act.put, qqA, qqB, qqC]
            refine wtk (i := 13) (oi := oRdtI13) (v := undef) rfl (Or.inr ⟨by rfl, rfl⟩) (by assumption) ?_
            try simp only [Act.put, qqA, qqB, qqC]
            refine wtk (i := 14) (oi := oRdtI14) (v := ?_) rfl (Or.inl ⟨by rfl, ?_⟩) (by assumption) ?_
            rotate_left 1
            · (intro w' hSw; (try dsimp only at hSw); go_simp; try with_reducible rfl)
            try simp only [Act.put, qqA, qqB, qqC]
            refine wpAnyH_ready (rs := [15]) (by kernel_rfl) (by simp) ?_
            refine AllReadyH.cons (o := oRdtI15) rfl (fun K hK => ?_) AllReadyH.nil
            have P8 : Hid (BF w.heap.size #[.int .i64 x1, .string P2, .int .i64 x3] (((w6.setCell ⟨w.heap.size, 0, none⟩ (.int .i64 x1)).setCell ⟨w.heap.size, 1, none⟩ (.string P2)).setCell ⟨w.heap.size, 2, none⟩ (.int .i64 x3))) := ((((unhide P6).set 0 (by simp) (.int .i64 x1)).set 1 (by simp) (.string P2)).set 2 (by simp) (.int .i64 x3))
            have A8 := hide ((((unhide A6).far ⟨w.heap.size, 0, none⟩ (.int .i64 x1) (unhide HNE)).far ⟨w.heap.size, 1, none⟩ (.string P2) (unhide HNE)).far ⟨w.heap.size, 2, none⟩ (.int .i64 x3) (unhide HNE))
            have B8 := hide ((((unhide B6).setCell (p := ⟨w.heap.size, 0, none⟩) (Nat.le_refl _) (.int .i64 x1)).setCell (p := ⟨w.heap.size, 1, none⟩) (Nat.le_refl _) (.string P2)).setCell (p := ⟨w.heap.size, 2, none⟩) (Nat.le_refl _) (.int .i64 x3))
            have f0 := (unhide P6).F
            have sh := (unhide P6).S
            go_simp
            refine hK.out _ _ ?_ (fun hHeld15 => ?_)
            · exact (unhide A8).S
            clear hK K
            try simp only [Act.put, qqA, qqB, qqC]
            clear f0 sh
            generalize ((w6.setCell ⟨w.heap.size, 0, none⟩ (.int .i64 x1)).setCell ⟨w.heap.size, 1, none⟩ (.string P2)).setCell ⟨w.heap.size, 2, none⟩ (.int .i64 x3) = w8 at B8 A8 P8 hHeld15 ⊢
            refine wtk (i := 16) (oi := oRdtI16) (v := ?_) rfl (Or.inl ⟨by rfl, ?_⟩) (by assumption) ?_
            rotate_left 1
            · (intro w' hSw; (try dsimp only at hSw); go_simp; try with_reducible rfl)
            try simp only [Act.put, qqA, qqB, qqC]
            refine wpAnyH_done (by kernel_rfl) ?_ _
            have st := (unhide P8).S
            go_wp2_with fail
            (try simp only [Exit.inBlock, Exit.then])
            refine bodyPost_ret (v := .tuple #[.agg #[.int .i64 x1, .string P2, .int .i64 x3], .bool false]) ?_ rfl ⟨x1, P2, x3, false, rfl, (fun h => (by cases h)), (fun c2 win2 n2 hk he => (by obtain ⟨-, -, q1, q2, q3⟩ := (unhide HYES) c2 win2 n2 hk he; rw [← q1, ← q2, ← q3, ← unhide HOK] at hk; cases hk)), unhide B8⟩
            rw [results_cell_tmp rfl]
            go_simp
          | true =>
            by_cases he : R7 = hd
            · have eq1 : (R7.toList == hd.toList) = true := by rw [he]; simp
              have HE := hide he
              clear he
              refine wp_region_held_drew (S := (fun w' => ∀ o, w'.cell? ⟨G2, o, none⟩ = (#[.int .i64 x1, .string P2, .int .i64 x3] : Array Value)[o]?)) (by kernel_rfl) (unhide A4).S (fun hHeld => ?_)
              have B5 := hide ((unhide B4).drew)
              have A5 := hide ((unhide A4).drew)
              have P5 := hide ((unhide P4).drew)
              clear A4 B4 P4
              generalize w4.drew = w5 at B5 A5 P5 hHeld ⊢
              refine wtk (i := 0) (oi := oRdtI0) (v := ?_) rfl (Or.inl ⟨by rfl, ?_⟩) (by assumption) ?_
              rotate_left 1
              · (intro w' hSw; (try dsimp only at hSw); go_simp; try with_reducible rfl)
              try simp only [Act.put, qqA, qqB, qqC]
              refine wtk (i := 1) (oi := oRdtI1) (v := ?_) rfl (Or.inl ⟨by rfl, ?_⟩) (by assumption) ?_
              rotate_left 1
              · (intro w' hSw; (try dsimp only at hSw); go_simp; try with_reducible rfl)
              try simp only [Act.put, qqA, qqB, qqC]
              refine wtk (i := 2) (oi := oRdtI2) (v := ?_) rfl (Or.inl ⟨by rfl, ?_⟩) (by assumption) ?_
              rotate_left 1
              · (intro w' hSw; (try dsimp only at hSw); go_simp; try with_reducible rfl)
              try simp only [Act.put, qqA, qqB, qqC]
              refine wtk (i := 3) (oi := oRdtI3) (v := ?_) rfl (Or.inl ⟨by rfl, ?_⟩) (by assumption) ?_
              rotate_left 1
              · (intro w' hSw; (try dsimp only at hSw); go_simp; try with_reducible rfl)
              try simp only [Act.put, qqA, qqB, qqC]
              refine wtk (i := 4) (oi := oRdtI4) (v := ?_) rfl (Or.inl ⟨by rfl, ?_⟩) (by assumption) ?_
              rotate_left 1
              · (intro w' hSw; (try dsimp only at hSw); go_simp; try with_reducible rfl)
              try simp only [Act.put, qqA, qqB, qqC]
              refine wtk (i := 5) (oi := oRdtI5) (v := ?_) rfl (Or.inl ⟨by rfl, ?_⟩) (by assumption) ?_
              rotate_left 1
              · (intro w' hSw; (try dsimp only at hSw); go_simp; try with_reducible rfl)
              try simp only [Act.put, qqA, qqB, qqC]
              refine wtk (i := 6) (oi := oRdtI6) (v := ?_) rfl (Or.inl ⟨by rfl, ?_⟩) (by assumption) ?_
              rotate_left 1
              · (intro w' hSw; (try dsimp only at hSw); go_simp; try with_reducible rfl)
              try simp only [Act.put, qqA, qqB, qqC]
              refine wpAnyH_ready (rs := [7]) (by kernel_rfl) (by simp) ?_
              refine AllReadyH.cons (o := oRdtI7) rfl (fun K hK => ?_) AllReadyH.nil
              go_simp
              refine (iclaimok x1 P2 x3 HP2 true HOK _).mono ?_
              rintro e w6 ⟨rfl, hb6⟩
              have B6 := hide ((unhide B5).trans (hb6.mono (unhide B5).size))
              have A6 := hide ((unhide A5).below hb6)
              have P6 := hide ((unhide P5).below hb6)
              clear hb6 A5 B5 P5
              go_wp2_with fail
              refine hK.out _ _ ?_ (fun hHeld7 => ?_)
              · exact (unhide A6).S
              clear hK K
              try simp only [Act.put, qqA, qqB, qqC]
              refine wtk (i := 8) (oi := oRdtI8) (v := ?_) rfl (Or.inl ⟨by rfl, ?_⟩) (by assumption) ?_
              rotate_left 1
              · (intro w' hSw; (try dsimp only at hSw); go_simp; try with_reducible rfl)
              try simp only [Act.put, qqA, qqB, qqC]
              refine wtk (i := 9) (oi := oRdtI9) (v := ?_) rfl (Or.inl ⟨by rfl, ?_⟩) (by assumption) ?_
              rotate_left 1
              · (intro w' hSw; (try dsimp only at hSw); go_simp; try with_reducible rfl)
              try simp only [Act.put, qqA, qqB, qqC]
              refine wtk (i := 10) (oi := oRdtI10) (v := ?_) rfl (Or.inl ⟨by rfl, ?_⟩) (by assumption) ?_
              rotate_left 1
              · (intro w' hSw; (try dsimp only at hSw); go_simp; try with_reducible rfl)
              try simp only [Act.put, qqA, qqB, qqC]
              refine wtk (i := 12) (oi := oRdtI12) (v := ?_) rfl (Or.inl ⟨by rfl, ?_⟩) (by assumption) ?_
              rotate_left 1
              · (intro w' hSw; (try dsimp only at hSw); go_simp; try with_reducible rfl)
              try simp only [Act.put, qqA, qqB, qqC]
              refine wpAnyH_ready (rs := [11]) (by kernel_rfl) (by simp) ?_
              refine AllReadyH.cons (o := oRdtI11) rfl (fun K hK => ?_) AllReadyH.nil
              go_simp
              refine (ihead x1 P2 x3 (hide (unhide HOK).symm) R7 HR7 _ ((unhide HT).below (unhide B6)).pw).mono ?_
              rintro e w7 ⟨rfl, hb7⟩
              have B7 := hide ((unhide B6).trans (hb7.mono (unhide B6).size))
              have A7 := hide ((unhide A6).below hb7)
              have P7 := hide ((unhide P6).below hb7)
              clear hb7 A6 B6 P6
              go_wp2_with fail
              refine hK.out _ _ ?_ (fun hHeld11 => ?_)
              · exact (unhide A7).S
              clear hK K
              try simp only [Act.put, qqA, qqB, qqC]
              refine wtk (i := 13) (oi := oRdtI13) (v := ?_) rfl (Or.inl ⟨by rfl, ?_⟩) (by assumption) ?_
              rotate_left 1
              · (intro w' hSw; (try dsimp only at hSw); go_simp; try with_reducible rfl)
              try simp only [Act.put, qqA, qqB, qqC]
              refine wtk (i := 14) (oi := oRdtI14) (v := ?_) rfl (Or.inl ⟨by rfl, ?_⟩) (by assumption) ?_
              rotate_left 1
              · (intro w' hSw; (try dsimp only at hSw); go_simp; try with_reducible rfl)
              try simp only [Act.put, qqA, qqB, qqC]
              refine wpAnyH_ready (rs := [15]) (by kernel_rfl) (by simp) ?_
              refine AllReadyH.cons (o := oRdtI15) rfl (fun K hK => ?_) AllReadyH.nil
              have P8 : Hid (BF w.heap.size #[.int .i64 x1, .string P2, .int .i64 x3] (((w7.setCell ⟨w.heap.size, 0, none⟩ (.int .i64 x1)).setCell ⟨w.heap.size, 1, none⟩ (.string P2)).setCell ⟨w.heap.size, 2, none⟩ (.int .i64 x3))) := ((((unhide P7).set 0 (by simp) (.int .i64 x1)).set 1 (by simp) (.string P2)).set 2 (by simp) (.int .i64 x3))
              have A8 := hide ((((unhide A7).far ⟨w.heap.size, 0, none⟩ (.int .i64 x1) (unhide HNE)).far ⟨w.heap.size, 1, none⟩ (.string P2) (unhide HNE)).far ⟨w.heap.size, 2, none⟩ (.int .i64 x3) (unhide HNE))
              have B8 := hide ((((unhide B7).setCell (p := ⟨w.heap.size, 0, none⟩) (Nat.le_refl _) (.int .i64 x1)).setCell (p := ⟨w.heap.size, 1, none⟩) (Nat.le_refl _) (.string P2)).setCell (p := ⟨w.heap.size, 2, none⟩) (Nat.le_refl _) (.int .i64 x3))
              have f0 := (unhide P7).F
              have sh := (unhide P7).S
              go_simp
              refine hK.out _ _ ?_ (fun hHeld15 => ?_)
              · exact (unhide A8).S
              clear hK K
              try simp only [Act.put, qqA, qqB, qqC]
              clear f0 sh
              generalize ((w7.setCell ⟨w.heap.size, 0, none⟩ (.int .i64 x1)).setCell ⟨w.heap.size, 1, none⟩ (.string P2)).setCell ⟨w.heap.size, 2, none⟩ (.int .i64 x3) = w8 at B8 A8 P8 hHeld15 ⊢
              refine wtk (i := 16) (oi := oRdtI16) (v := ?_) rfl (Or.inl ⟨by rfl, ?_⟩) (by assumption) ?_
              rotate_left 1
              · (intro w' hSw; (try dsimp only at hSw); go_simp; try with_reducible rfl)
              try simp only [Act.put, qqA, qqB, qqC]
              refine wpAnyH_done (by kernel_rfl) ?_ _
              have st := (unhide P8).S
              go_wp2_with fail
              (try simp only [Exit.inBlock, Exit.then])
              refine bodyPost_ret (v := .tuple #[.agg #[.int .i64 x1, .string P2, .int .i64 x3], .bool true]) ?_ rfl ⟨x1, P2, x3, true, rfl, fun _ => ⟨(unhide HOK).symm, (unhide HE).symm.trans (unhide HR7)⟩, (fun c2 win2 n2 hk he => (by obtain ⟨-, -, q1, q2, q3⟩ := (unhide HYES) c2 win2 n2 hk he; exact ⟨rfl, q1, q2, q3⟩)), unhide B8⟩
              rw [results_cell_tmp rfl]
              go_simp
            · have eq1 : (R7.toList == hd.toList) = false := ne_text he
              have HE := hide he
              clear he
              refine wp_region_held_drew (S := (fun w' => ∀ o, w'.cell? ⟨G2, o, none⟩ = (#[.int .i64 x1, .string P2, .int .i64 x3] : Array Value)[o]?)) (by kernel_rfl) (unhide A4).S (fun hHeld => ?_)
              have B5 := hide ((unhide B4).drew)
              have A5 := hide ((unhide A4).drew)
              have P5 := hide ((unhide P4).drew)
              clear A4 B4 P4
              generalize w4.drew = w5 at B5 A5 P5 hHeld ⊢
              refine wtk (i := 0) (oi := oRdtI0) (v := ?_) rfl (Or.inl ⟨by rfl, ?_⟩) (by assumption) ?_
              rotate_left 1
              · (intro w' hSw; (try dsimp only at hSw); go_simp; try with_reducible rfl)
              try simp only [Act.put, qqA, qqB, qqC]
              refine wtk (i := 1) (oi := oRdtI1) (v := ?_) rfl (Or.inl ⟨by rfl, ?_⟩) (by assumption) ?_
              rotate_left 1
              · (intro w' hSw; (try dsimp only at hSw); go_simp; try with_reducible rfl)
              try simp only [Act.put, qqA, qqB, qqC]
              refine wtk (i := 2) (oi := oRdtI2) (v := ?_) rfl (Or.inl ⟨by rfl, ?_⟩) (by assumption) ?_
              rotate_left 1
              · (intro w' hSw; (try dsimp only at hSw); go_simp; try with_reducible rfl)
              try simp only [Act.put, qqA, qqB, qqC]
              refine wtk (i := 3) (oi := oRdtI3) (v := ?_) rfl (Or.inl ⟨by rfl, ?_⟩) (by assumption) ?_
              rotate_left 1
              · (intro w' hSw; (try dsimp only at hSw); go_simp; try with_reducible rfl)
              try simp only [Act.put, qqA, qqB, qqC]
              refine wtk (i := 4) (oi := oRdtI4) (v := ?_) rfl (Or.inl ⟨by rfl, ?_⟩) (by assumption) ?_
              rotate_left 1
              · (intro w' hSw; (try dsimp only at hSw); go_simp; try with_reducible rfl)
              try simp only [Act.put, qqA, qqB, qqC]
              refine wtk (i := 5) (oi := oRdtI5) (v := ?_) rfl (Or.inl ⟨by rfl, ?_⟩) (by assumption) ?_
              rotate_left 1
              · (intro w' hSw; (try dsimp only at hSw); go_simp; try with_reducible rfl)
              try simp only [Act.put, qqA, qqB, qqC]
              refine wtk (i := 6) (oi := oRdtI6) (v := ?_) rfl (Or.inl ⟨by rfl, ?_⟩) (by assumption) ?_
              rotate_left 1
              · (intro w' hSw; (try dsimp only at hSw); go_simp; try with_reducible rfl)
              try simp only [Act.put, qqA, qqB, qqC]
              refine wpAnyH_ready (rs := [7]) (by kernel_rfl) (by simp) ?_
              refine AllReadyH.cons (o := oRdtI7) rfl (fun K hK => ?_) AllReadyH.nil
              go_simp
              refine (iclaimok x1 P2 x3 HP2 true HOK _).mono ?_
              rintro e w6 ⟨rfl, hb6⟩
              have B6 := hide ((unhide B5).trans (hb6.mono (unhide B5).size))
              have A6 := hide ((unhide A5).below hb6)
              have P6 := hide ((unhide P5).below hb6)
              clear hb6 A5 B5 P5
              go_wp2_with fail
              refine hK.out _ _ ?_ (fun hHeld7 => ?_)
              · exact (unhide A6).S
              clear hK K
              try simp only [Act.put, qqA, qqB, qqC]
              refine wtk (i := 8) (oi := oRdtI8) (v := ?_) rfl (Or.inl ⟨by rfl, ?_⟩) (by assumption) ?_
              rotate_left 1
              · (intro w' hSw; (try dsimp only at hSw); go_simp; try with_reducible rfl)
              try simp only [Act.put, qqA, qqB, qqC]
              refine wtk (i := 9) (oi := oRdtI9) (v := ?_) rfl (Or.inl ⟨by rfl, ?_⟩) (by assumption) ?_
              rotate_left 1
              · (intro w' hSw; (try dsimp only at hSw); go_simp; try with_reducible rfl)
              try simp only [Act.put, qqA, qqB, qqC]
              refine wtk (i := 10) (oi := oRdtI10) (v := ?_) rfl (Or.inl ⟨by rfl, ?_⟩) (by assumption) ?_
              rotate_left 1
              · (intro w' hSw; (try dsimp only at hSw); go_simp; try with_reducible rfl)
              try simp only [Act.put, qqA, qqB, qqC]
              refine wtk (i := 12) (oi := oRdtI12) (v := ?_) rfl (Or.inl ⟨by rfl, ?_⟩) (by assumption) ?_
              rotate_left 1
              · (intro w' hSw; (try dsimp only at hSw); go_simp; try with_reducible rfl)
              try simp only [Act.put, qqA, qqB, qqC]
              refine wpAnyH_ready (rs := [11]) (by kernel_rfl) (by simp) ?_
              refine AllReadyH.cons (o := oRdtI11) rfl (fun K hK => ?_) AllReadyH.nil
              go_simp
              refine (ihead x1 P2 x3 (hide (unhide HOK).symm) R7 HR7 _ ((unhide HT).below (unhide B6)).pw).mono ?_
              rintro e w7 ⟨rfl, hb7⟩
              have B7 := hide ((unhide B6).trans (hb7.mono (unhide B6).size))
              have A7 := hide ((unhide A6).below hb7)
              have P7 := hide ((unhide P6).below hb7)
              clear hb7 A6 B6 P6
              go_wp2_with fail
              refine hK.out _ _ ?_ (fun hHeld11 => ?_)
              · exact (unhide A7).S
              clear hK K
              try simp only [Act.put, qqA, qqB, qqC]
              refine wtk (i := 13) (oi := oRdtI13) (v := ?_) rfl (Or.inl ⟨by rfl, ?_⟩) (by assumption) ?_
              rotate_left 1
              · (intro w' hSw; (try dsimp only at hSw); go_simp; try with_reducible rfl)
              try simp only [Act.put, qqA, qqB, qqC]
              refine wtk (i := 14) (oi := oRdtI14) (v := ?_) rfl (Or.inl ⟨by rfl, ?_⟩) (by assumption) ?_
              rotate_left 1
              · (intro w' hSw; (try dsimp only at hSw); go_simp; try with_reducible rfl)
              try simp only [Act.put, qqA, qqB, qqC]
              refine wpAnyH_ready (rs := [15]) (by kernel_rfl) (by simp) ?_
              refine AllReadyH.cons (o := oRdtI15) rfl (fun K hK => ?_) AllReadyH.nil
              have P8 : Hid (BF w.heap.size #[.int .i64 x1, .string P2, .int .i64 x3] (((w7.setCell ⟨w.heap.size, 0, none⟩ (.int .i64 x1)).setCell ⟨w.heap.size, 1, none⟩ (.string P2)).setCell ⟨w.heap.size, 2, none⟩ (.int .i64 x3))) := ((((unhide P7).set 0 (by simp) (.int .i64 x1)).set 1 (by simp) (.string P2)).set 2 (by simp) (.int .i64 x3))
              have A8 := hide ((((unhide A7).far ⟨w.heap.size, 0, none⟩ (.int .i64 x1) (unhide HNE)).far ⟨w.heap.size, 1, none⟩ (.string P2) (unhide HNE)).far ⟨w.heap.size, 2, none⟩ (.int .i64 x3) (unhide HNE))
              have B8 := hide ((((unhide B7).setCell (p := ⟨w.heap.size, 0, none⟩) (Nat.le_refl _) (.int .i64 x1)).setCell (p := ⟨w.heap.size, 1, none⟩) (Nat.le_refl _) (.string P2)).setCell (p := ⟨w.heap.size, 2, none⟩) (Nat.le_refl _) (.int .i64 x3))
              have f0 := (unhide P7).F
              have sh := (unhide P7).S
              go_simp
              refine hK.out _ _ ?_ (fun hHeld15 => ?_)
              · exact (unhide A8).S
              clear hK K
              try simp only [Act.put, qqA, qqB, qqC]
              clear f0 sh
              generalize ((w7.setCell ⟨w.heap.size, 0, none⟩ (.int .i64 x1)).setCell ⟨w.heap.size, 1, none⟩ (.string P2)).setCell ⟨w.heap.size, 2, none⟩ (.int .i64 x3) = w8 at B8 A8 P8 hHeld15 ⊢
              refine wtk (i := 16) (oi := oRdtI16) (v := ?_) rfl (Or.inl ⟨by rfl, ?_⟩) (by assumption) ?_
              rotate_left 1
              · (intro w' hSw; (try dsimp only at hSw); go_simp; try with_reducible rfl)
              try simp only [Act.put, qqA, qqB, qqC]
              refine wpAnyH_done (by kernel_rfl) ?_ _
              have st := (unhide P8).S
              go_wp2_with fail
              (try simp only [Exit.inBlock, Exit.then])
              refine bodyPost_ret (v := .tuple #[.agg #[.int .i64 x1, .string P2, .int .i64 x3], .bool false]) ?_ rfl ⟨x1, P2, x3, false, rfl, (fun h => (by cases h)), (fun c2 win2 n2 hk he => (by obtain ⟨-, -, q1, q2, q3⟩ := (unhide HYES) c2 win2 n2 hk he; exact absurd (by rw [unhide HR7, he, q1, q2, q3]) (unhide HE))), unhide B8⟩
              rw [results_cell_tmp rfl]
              go_simp
  · have e4 : ((L.length : Int) == 4) = false := beq_eq_false_iff_ne.2 (by omega)
    have HNO : Hid (∀ (c2 : Int) (win2 : ByteArray) (n2 : Int), tokB c2 win2 n2 = true → hd = hdT c2 win2 n2 → False) := by
      intro c2 win2 n2 hk he
      have h := fd_hd hk
      rw [← he] at h
      have h2 := unhide HLN
      rw [h] at h2
      exact h4 h2.symm
    clear h4
    go_enter Tryz.func18, Tryz.ntmps18
    go_wp2_with fail
    refine (Tryz.strings_Fields_any hd _ (by have := unhide HS; omega) ((unhide HT).below (unhide Z0)).sw ((unhide HT).below (unhide Z0)).ww).mono ?_
    rintro e w1 ⟨a1, rfl, ha1, ho1, hb1⟩
    rw [unhide HLN]
    have B1 := hide ((unhide Z0).trans (hb1.mono (unhide Z0).size))
    have Y1 := hide ((unhide Y0).below hb1)
    have f0 := (unhide Y1).F
    have P8 : Hid (BF w.heap.size #[.int .i64 0, .string ⟨#[]⟩, .int .i64 0] (((w1.setCell ⟨w.heap.size, 0, none⟩ (.int .i64 0)).setCell ⟨w.heap.size, 1, none⟩ (.string ⟨#[]⟩)).setCell ⟨w.heap.size, 2, none⟩ (.int .i64 0))) := ((((unhide Y1).set 0 (by simp) (.int .i64 0)).set 1 (by simp) (.string ⟨#[]⟩)).set 2 (by simp) (.int .i64 0))
    have B8 := hide ((((unhide B1).setCell (p := ⟨w.heap.size, 0, none⟩) (Nat.le_refl _) (.int .i64 0)).setCell (p := ⟨w.heap.size, 1, none⟩) (Nat.le_refl _) (.string ⟨#[]⟩)).setCell (p := ⟨w.heap.size, 2, none⟩) (Nat.le_refl _) (.int .i64 0))
    clear ho1 hb1 ha1
    have st := (unhide P8).S
    have sh := (unhide Y1).S
    go_wp2_with fail
    (try simp only [Exit.inBlock, Exit.then])
    refine bodyPost_ret (v := .tuple #[.agg #[.int .i64 0, .string ⟨#[]⟩, .int .i64 0], .bool false]) ?_ rfl ⟨0, ⟨#[]⟩, 0, false, rfl, (fun h => (by cases h)), fun c2 win2 n2 hk he => (unhide HNO c2 win2 n2 hk he).elim, unhide B8⟩
    rw [results_cell_tmp rfl]
    go_simp
end Go.Proofs.YtofkdkglohllpaaGreatDoor

/- Texts put together: TokL RdtL IssI. -/
import Derived.Test.YtofkdkglohllpaaGreatDoorZItoI
import Derived.Test.YtofkdkglohllpaaGreatDoorZG16
import Derived.Lib.LaidTab
import Derived.LaidMore
import Derived.Test.YtofkdkglohllpaaGreatDoorZRdtT
import Derived.Lib.LaidU8
import Derived.Test.YtofkdkglohllpaaGreatDoorZG33
import Derived.Test.YtofkdkglohllpaaGreatDoorZTokH
/- Tokens: what the rows' lists give. -/
namespace Go.Proofs.YtofkdkglohllpaaGreatDoor
open Go.ChangeShapes Go.WideShapes Go.ChangeAt Go.RowKit
set_option linter.unusedVariables false
def kIntsT : List Int := kN.map Int.ofNat
theorem laid_intsT : (Rows.laid_loop_example_g00308_impl_roundWords : DataW Unit) = Lib.tabData .u32 kIntsT := by kernel_rfl
theorem kIntsT_at (k : Nat) (h : k < 64) : kIntsT.getD k 0 = wI (gt kW k) := by
  have hl : k < kN.length := h
  have hlt : ∀ n ∈ kN, n < 4294967296 := by decide
  have hb := hlt kN[k] (List.getElem_mem _)
  unfold kIntsT gt kW wI
  simp [hl]
  omega
theorem kin_reads {W : World} (h : Lib.VarReads Tryz.prog W "loop.example/g00308/impl.roundWords" Rows.laid_loop_example_g00308_impl_roundWords) : KIn W := by
  rw [laid_intsT] at h
  obtain ⟨g, t, cs, fuel, p, hg, ht, hv, hd⟩ := h
  obtain rfl : g = 3 := (Option.some.inj ((show Tryz.prog.globalNamed _ = some 3 by kernel_rfl).symm.trans hg)).symm
  obtain rfl : t = 122 := (Option.some.inj ((show (Tryz.prog.globals[3]?).map (·.type) = some 122 by kernel_rfl).symm.trans ht)).symm
  have hc := Lib.cells_of_tab (zs := kIntsT) Tryz.underlying122 Tryz.underlying86 (by kernel_rfl) (by kernel_rfl) hd
  intro k hk
  have h1 := World.var?_cell hg hv k
  rw [h1, ← Array.getElem?_toList, hc]
  have hl : k < kIntsT.length := hk
  rw [List.getElem?_map, List.getElem?_eq_getElem hl, ← kIntsT_at k hk]
  simp [hl]
end Go.Proofs.YtofkdkglohllpaaGreatDoor

/- ReadToken: what the row's list gives. -/
namespace Go.Proofs.YtofkdkglohllpaaGreatDoor
open Go.ChangeShapes Go.WideShapes Go.ChangeAt Go.RowKit
set_option linter.unusedVariables false
theorem sp_eq : (Rows.laid_strings_asciiSpace : DataW Unit) = Lib.tabData .u8 Lib.asciiSpaceTab := by kernel_rfl
theorem sp_reads {W : World} (h : Lib.VarReads Tryz.prog W "strings.asciiSpace" Rows.laid_strings_asciiSpace) : SpIn W := by
  rw [sp_eq] at h
  obtain ⟨g, t, cs, fuel, p, hg, ht, hv, hd⟩ := h
  obtain rfl : g = 0 := (Option.some.inj ((show Tryz.prog.globalNamed _ = some 0 by kernel_rfl).symm.trans hg)).symm
  obtain rfl : t = 72 := (Option.some.inj ((show (Tryz.prog.globals[0]?).map (·.type) = some 72 by kernel_rfl).symm.trans ht)).symm
  have hcs := Lib.cells_of_tab (zs := Lib.asciiSpaceTab) Tryz.underlying72 Tryz.underlying5 (by kernel_rfl) (by kernel_rfl) hd
  unfold SpIn Lib.TabIs
  rw [hv, ← hcs]
theorem ws_eq : (Rows.laid_unicode_White_Space : DataW Unit) = Lib.whiteData := by kernel_rfl
theorem ws_reads {W : World} (h : Lib.VarReads Tryz.prog W "unicode.White_Space" Rows.laid_unicode_White_Space) : Lib.WhiteTab 2 W := by
  rw [ws_eq] at h
  exact whiteTab_of_reads (ρ := Tryz.lays157_ren) { Tryz.lays157 with } ⟨by kernel_rfl, by kernel_rfl, by kernel_rfl, by kernel_rfl, by kernel_rfl, by kernel_rfl, by kernel_rfl, by kernel_rfl⟩ h
theorem iface_cellT {W : World} {n : String} {g0 t0 : Nat} {ms : Array (String × TypeId)} {nm : String} {d : DataW Unit} (hg0 : Tryz.prog.globalNamed n = some g0) (ht0 : (Tryz.prog.globals[g0]?).map (·.type) = some t0) (hi : Tryz.prog.underlying t0 = some (.interface ms))
    (h : Lib.VarReads Tryz.prog W n (.iface nm d)) : ErrV g0 W := by
  obtain ⟨g, t, cs, fuel, p, hg, ht, hv, hd⟩ := h
  obtain rfl : g = g0 := (Option.some.inj (hg0.symm.trans hg)).symm
  obtain rfl : t = t0 := (Option.some.inj (ht0.symm.trans ht)).symm
  obtain ⟨f2, u, v, e, _, _⟩ := iface_of_trod hi hd
  refine ⟨u, v, ?_⟩
  have hc := World.var?_cell hg hv 0
  rw [hc, ← Array.getElem?_toList, e]; rfl
end Go.Proofs.YtofkdkglohllpaaGreatDoor

/- IssueToken: what the program answers. -/
namespace Go.Proofs.YtofkdkglohllpaaGreatDoor
open Go.ChangeShapes Go.WideShapes Go.ChangeAt Go.RowKit
set_option linter.unusedVariables false
set_option maxHeartbeats 4000000 in
set_option maxRecDepth 100000 in
theorem iitk (c : Int) (win : ByteArray) (n : Int) (key : ByteArray) (HKS : Hid (key.size ≤ 1048576)) (HWS : Hid (win.size ≤ 1048576)) (S : ByteArray) (HS : Hid (S = itkS key c win n)) (q : Int) (HQ : Hid (q = tmC key c win n)) (w : World) (hp : PowIn w) (hk : KIn w) :
    Calls Tryz.prog 6 #[.string key, .int .i64 c, .string win, .int .i64 n] w fun e w' => e = .returned (.tuple #[.string S, .int .i64 q]) ∧ Below w.heap.size w w' := by
  have HP := hide hp
  have HK := hide hk
  have B0 := hide (Below.refl w.heap.size w)
  obtain ⟨M, hM⟩ : ∃ M, M = tmS key c win n := ⟨_, rfl⟩
  have HM := hide hM
  by_cases hq : q = 0
  · subst hq
    have hq0 : (0 : Int) = tmC key c win n := unhide HQ
    have hl : tmL key win = false ∧ tokB c win n = true := by
      unfold tmC at hq0
      split at hq0
      · cases hq0
      · split at hq0
        · refine ⟨by simp_all, by assumption⟩
        · cases hq0
    have HT := hide hl.2
    obtain ⟨R, hR⟩ : ∃ R, R = hdT c win n := ⟨_, rfl⟩
    have HR := hide hR
    have HRS : Hid (R.size ≤ 1048576) := by show _ ≤ _; rw [hR]; have := hdT_size hl.2; omega
    have hMk : M = mkT key c win n := by rw [hM]; unfold tmS; rw [hl.1, hl.2]; rfl
    have HMS : Hid (∀ k (h : k < [M].length), [M][k].size ≤ 1048576) := by
      have e := mkT_size key c win n
      rw [← hMk] at e
      intro k hk
      match k, hk with
      | 0, _ => show M.size ≤ _; omega
    have HSR : Hid (S = bjS R [M]) := by show _ = _; rw [unhide HS, hR, hMk]; unfold itkS; rw [hl.1, hl.2]; rfl
    clear hM hR hMk hl hq0 HS hp hk
    go_enter Tryz.func6, Tryz.ntmps6
    go_wp2_with (first
      | (go_at_call 9; refine (itm c win n key HKS HWS M HM 0 HQ _ (unhide HP) (unhide HK)).mono ?_; rintro e w2 ⟨rfl, hb2⟩; have B2 := hide ((unhide B0).trans (hb2.mono (unhide B0).size)); clear hb2)
      | (go_at_call 14; have B2' := B2; refine (ihead c win n HT R HR _ ((unhide HP).below (unhide B2) (unhide HP).pos)).mono ?_; rintro e w3 ⟨rfl, hb3⟩; have B3 := hide ((unhide B2).trans (hb3.mono (unhide B2).size)); have R4 := hide (rowZ_at (base := w3.heap.size) (e := 9) (z := 1) (n := 1) (cap := 1) (World.ownsRow_lit (e := 9) (base := w3.heap.size) (size := 1) w3 #[.string M] 1 (Nat.le_refl _) (by unfold maxLen; omega) (by simp))); have B4 := hide ((unhide B3).alloc (unhide B3).size (.cells #[.string M] 9)); clear hb3)
      | (go_at_call 13; refine (ibj R (some ⟨_, 0, none⟩) 1 1 [M] rfl (by decide) HRS HMS S HSR _ (unhide R4)).mono ?_; rintro e w5 ⟨rfl, hb5⟩; have B5 := hide ((unhide B4).trans (hb5.mono (unhide B4).size)); clear hb5))
    go_ret2
    exact ⟨rfl, unhide B5⟩
  · have hq' : (q != 0) = true := by simp [hq]
    have hS : S = ⟨#[]⟩ := by
      have h1 := unhide HQ
      rw [unhide HS]
      unfold itkS
      unfold tmC at h1
      split
      · rfl
      · rename_i h2
        rw [if_neg h2] at h1
        split at h1
        · exact absurd h1 hq
        · rename_i h3; rw [if_neg h3]
    subst hS
    clear hM HS hp hk hq
    go_enter Tryz.func6, Tryz.ntmps6
    go_wp2_with (go_at_call 9; refine (itm c win n key HKS HWS M HM q HQ _ (unhide HP) (unhide HK)).mono ?_; rintro e w2 ⟨rfl, hb2⟩; have B2 := hide ((unhide B0).trans (hb2.mono (unhide B0).size)); clear hb2)
    go_ret2
    exact ⟨rfl, unhide B2⟩
end Go.Proofs.YtofkdkglohllpaaGreatDoor

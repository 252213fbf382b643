/- At every argument that can be read, the law FnExactCutChunks returns true and leaves its arguments as they were: no condition. -/
import Derived.Test.YtffnehaccgfnjaaChkAll
import Derived.WalkKit
import Derived.ProofKit
import Derived.OpenShut
import Derived.ShutString
import Derived.ChangeOld
import Derived.Below
namespace Go.Proofs.Ytffnehaccgfnjaa
open Go.ChangeShapes Go.WideShapes Go.ChangeAt Go.RowKit
open Go.ChangeMaps (open_string shut_string)
set_option linter.unusedVariables false

theorem own : ownKnob Try.prog.godebug = none := by kernel_rfl
theorem laidOut : laidOutB Try.prog = true := by kernel_rfl

def IsRow (k : IntKind) (w : World) (a : Option Addr) (len cap : Nat) (zs : List Int) : Prop :=
  (a = none ∧ len = 0 ∧ cap = 0 ∧ zs = []) ∨
  ∃ x, a = some x ∧ len ≤ cap ∧ cap ≤ maxLen ∧ zs.length = cap ∧ (∀ i, i < zs.length → w.cell? (x.add i) = some (.int k (zs.getD i 0))) ∧ ∀ n ∈ zs, (Lit.int k n).wf = true

theorem row8_of {w : World} {a : Option Addr} {len cap : Nat} {zs : List Int} (h : IsRow .u8 w a len cap zs) : ∃ l : List UInt8, l.length = len ∧ Row8 w a l := by
  rcases h with ⟨rfl, rfl, rfl, rfl⟩ | ⟨x, rfl, hl, hm, hz, hcell, hwz⟩
  · exact ⟨[], rfl, .inl rfl⟩
  · refine ⟨(zs.take len).map (fun n => UInt8.ofNat n.toNat), by simp; omega, ?_⟩
    by_cases h0 : len = 0
    · left; simp [h0]
    · right
      obtain ⟨b, off, spot⟩ := x
      have hc := hcell 0 (by omega)
      have hspot : spot = none := by simpa [Addr.add] using World.cell?_spot hc
      subst hspot
      refine ⟨b, off, rfl, World.block_lt_of_cell? w _ hc, fun i hi => ?_⟩
      have hi' : i < len := by simp at hi; omega
      have hci := hcell i (by omega)
      have hlt : i < zs.length := by omega
      have hg : zs.getD i 0 = zs[i] := by simp [hlt]
      have hmem : zs.getD i 0 ∈ zs := by rw [hg]; exact List.getElem_mem _
      have hb := bounds_u8 (hwz _ hmem)
      rw [show (⟨b, off, none⟩ : Addr).add i = ⟨b, off + i, none⟩ from by unfold Addr.add; split <;> simp_all] at hci
      rw [hci]
      have e1 : ((zs.take len).map (fun n => UInt8.ofNat n.toNat))[i] = UInt8.ofNat (zs.getD i 0).toNat := by
        rw [List.getElem_map, List.getElem_take, hg]
      rw [e1, UInt8.toNat_ofNat']
      congr 2
      omega
theorem walk (a0 : Option Addr) (len0 cap0 : Nat) (z0 : List Int) (a1 : Int) (w : World) (w0 : IsRow .u8 w a0 len0 cap0 z0) (w1 : (Lit.int .i64 a1).wf = true) :
    Calls Try.prog 3 #[.slice a0 len0 cap0, .int .i64 a1] w fun e w' => e = .returned (.bool true) ∧ Below w.heap.size w w' := by
  clear w1
  obtain ⟨l, rfl, hr8⟩ := row8_of w0
  have hr := row8_V hr8
  clear w0 hr8
  by_cases big : 1048576 < l.length
  · clear hr
    go_enter Try.func3, Try.ntmps3
    go_wp2_with fail
    go_ret
    exact ⟨rfl, Below.refl _ _⟩
  have hs : l.length ≤ 1048576 := by omega
  have HS := hide hs
  have HR := hide hr
  clear hr
  obtain ⟨r, hrr⟩ : ∃ r, r = cutL a1 l := ⟨_, rfl⟩
  have hrl : r.length ≤ 1048576 := by rw [hrr]; exact Nat.le_trans (cutL_le a1 l) (by decide)
  have HRR := hide hrr
  clear hrr
  obtain ⟨c0, hc0⟩ : ∃ c, c = cutC a1 l := ⟨_, rfl⟩
  have HC0 := hide hc0
  have nc0 : (c0 != c0) = false := by simp
  clear hc0
  obtain ⟨q, hq⟩ : ∃ q : Int, q = ((1 + r.length : Nat) : Int) := ⟨_, rfl⟩
  obtain ⟨p, hp⟩ : ∃ p : Int, p = ((1 + l.length : Nat) : Int) := ⟨_, rfl⟩
  have q0 : 0 < q := by omega
  have p0 : 0 < p := by omega
  have nq : (q != q) = false := by simp
  have HQ := hide hq
  have HP := hide hp
  clear hq hp
  go_enter Try.func3, Try.ntmps3
  go_wp2_with fail
  refine (copyByte a0 cap0 l (unhide HS) _ (unhide HR)).mono ?_
  rintro e w1 ⟨rfl, own1, hb1⟩
  have HO1 := hide (row_at own1)
  clear own1
  go_wp2_with fail
  refine (scut a1 _ _ l r c0 (unhide HRR) (unhide HC0) (unhide HS) (Nat.le_refl _) _ (unhide HO1)).mono ?_
  rintro e w2 ⟨vw, rfl, own2, hb2⟩
  obtain ⟨aw, cw, rfl, -⟩ := own_rowV own2
  have HW2 := hide (held_of own2)
  have B2 := hide (hb1.trans (hb2.mono hb1.size))
  have S2 := hide (Nat.le_trans hb1.size hb2.size)
  have S12 := hide hb1.size
  clear own2 hb1 hb2 HO1
  go_wp2_with fail
  refine (copyByte a0 cap0 l (unhide HS) _ ((unhide HR).below (unhide B2))).mono ?_
  rintro e w3 ⟨rfl, own3, hb3⟩
  have HX3 := hide (held_of own3)
  have HW3 := hide ((unhide HW2).below hb3 (Nat.le_refl _))
  have B3 := hide ((unhide B2).trans (hb3.mono (unhide S2)))
  have S23 := hide hb3.size
  have S3 := hide (Nat.le_trans (unhide S2) hb3.size)
  clear own3 HW2 hb3
  go_wp2_with fail
  refine (icut a1 _ _ l r c0 (unhide HRR) (unhide HC0) (unhide HS) (Nat.le_refl _) _ (unhide HX3).rowV).mono ?_
  rintro e w4 ⟨vg, rfl, own4, hb4⟩
  obtain ⟨ag, cg, rfl, -⟩ := own_rowV own4
  have HG4 := hide (held_of own4)
  have HX4 := hide ((unhide HX3).below hb4 (Nat.le_refl _))
  have HW4 := hide ((unhide HW3).below hb4 (unhide S23))
  have B4 := hide ((unhide B3).trans (hb4.mono (unhide S3)))
  have S34 := hide hb4.size
  clear own4 hb4 HX3 HW3
  go_wp2_with fail
  refine (sameString _ _ _ _ r hrl _ (unhide HG4).rowV (unhide HW4).rowV).mono ?_
  rintro e w5 ⟨rfl, hb5⟩
  have HG5 := hide ((unhide HG4).below hb5 (Nat.le_refl _))
  have HX5 := hide ((unhide HX4).below hb5 (unhide S34))
  have HW5 := hide ((unhide HW4).below hb5 (Nat.le_trans (unhide S23) (unhide S34)))
  have B5 := hide ((unhide B4).trans (hb5.mono (unhide B4).size))
  have S45 := hide hb5.size
  clear hb5 HG4 HX4 HW4
  go_wp2_with fail
  refine (copyByte a0 cap0 l (unhide HS) _ ((unhide HR).below (unhide B5))).mono ?_
  rintro e w6 ⟨rfl, own6, hb6⟩
  have HY6 := hide (row_at own6)
  have HG6 := hide ((unhide HG5).below hb6 (unhide HG5).le)
  have HX6 := hide ((unhide HX5).below hb6 (unhide HX5).le)
  have HW6 := hide ((unhide HW5).below hb6 (unhide HW5).le)
  have B6 := hide ((unhide B5).trans (hb6.mono (unhide B5).size))
  clear own6 hb6 HG5 HX5 HW5
  go_wp2_with fail
  refine (sameByte _ _ _ _ l (unhide HS) _ (unhide HX6).rowV (unhide HY6)).mono ?_
  rintro e w7 ⟨rfl, hb7⟩
  have HG7 := hide ((unhide HG6).below hb7 (unhide HG6).le)
  have HX7 := hide ((unhide HX6).below hb7 (unhide HX6).le)
  have HW7 := hide ((unhide HW6).below hb7 (unhide HW6).le)
  have B7 := hide ((unhide B6).trans (hb7.mono (unhide B6).size))
  clear hb7 HG6 HX6 HW6 HY6
  go_wp2_with fail
  refine (markByte1 _ l.length w2.heap.size w3.heap.size p (B8 l) (unhide HP) (Nat.le_trans (unhide HS) (by decide)) _ (unhide HX7)).mono ?_
  rintro e w8 ⟨rfl, -, hg8⟩
  have HG8 := hide ((unhide HG7).grown hg8 (fun k hk => .inl ((unhide HX7).blk k hk).2))
  have HW8 := hide ((unhide HW7).grown hg8 (fun k hk => .inr ((unhide HX7).blk k hk).1))
  have B8' := hide (Below.marked (unhide B7) (unhide B7).size (unhide HX7) (unhide S2) hg8)
  clear hg8 HG7 HX7 HW7
  go_wp2_with fail
  refine (sameString _ _ _ _ r hrl _ (unhide HG8).rowV (unhide HW8).rowV).mono ?_
  rintro e w9 ⟨rfl, hb9⟩
  have HG9 := hide ((unhide HG8).below hb9 (unhide HG8).le)
  have HW9 := hide ((unhide HW8).below hb9 (unhide HW8).le)
  have B9 := hide ((unhide B8').trans (hb9.mono (unhide B8').size))
  clear hb9 HG8 HW8
  go_wp2_with fail
  refine (markString1 _ r.length w3.heap.size w4.heap.size q (cS r) (unhide HQ) (Nat.le_trans hrl (by decide)) _ (unhide HG9)).mono ?_
  rintro e w10 ⟨rfl, hh10, hg10⟩
  have HG10 := hide hh10
  have HW10 := hide ((unhide HW9).grown hg10 (fun k hk => .inr (Nat.le_trans (unhide S23) ((unhide HG9).blk k hk).1)))
  have B10 := hide (Below.marked (unhide B9) (unhide B9).size (unhide HG9) (unhide S3) hg10)
  clear hg10 HG9 HW9 hh10
  go_wp2_with fail
  refine (heldString1 _ r.length w3.heap.size w4.heap.size q (unhide HQ) (Nat.le_trans hrl (by decide)) _ (unhide HG10)).mono ?_
  rintro e w11 ⟨rfl, hb11⟩
  have HG11 := hide ((unhide HG10).below hb11 (unhide HG10).le)
  have HW11 := hide ((unhide HW10).below hb11 (unhide HW10).le)
  have B11 := hide ((unhide B10).trans (hb11.mono (unhide B10).size))
  clear hb11 HG10 HW10
  go_wp2_with fail
  refine (copyByte a0 cap0 l (unhide HS) _ ((unhide HR).below (unhide B11))).mono ?_
  rintro e w12 ⟨rfl, own12, hb12⟩
  have HY12 := hide (row_at own12)
  have HG12 := hide ((unhide HG11).below hb12 (unhide HG11).le)
  have HW12 := hide ((unhide HW11).below hb12 (unhide HW11).le)
  have B12 := hide ((unhide B11).trans (hb12.mono (unhide B11).size))
  clear own12 hb12 HG11 HW11
  go_wp2_with fail
  refine (icut a1 _ _ l r c0 (unhide HRR) (unhide HC0) (unhide HS) (Nat.le_refl _) _ (unhide HY12)).mono ?_
  rintro e w13 ⟨vh, rfl, own13, hb13⟩
  obtain ⟨ah, ch, rfl, -⟩ := own_rowV own13
  have HH13 := hide (row_at own13)
  have HG13 := hide ((unhide HG12).below hb13 (unhide HG12).le)
  have HW13 := hide ((unhide HW12).below hb13 (unhide HW12).le)
  have B13 := hide ((unhide B12).trans (hb13.mono (unhide B12).size))
  clear own13 hb13 HG12 HW12 HY12
  go_wp2_with fail
  refine (sameString _ _ _ _ r hrl _ (unhide HH13) (unhide HW13).rowV).mono ?_
  rintro e w14 ⟨rfl, hb14⟩
  have HG14 := hide ((unhide HG13).below hb14 (unhide HG13).le)
  have B14 := hide ((unhide B13).trans (hb14.mono (unhide B13).size))
  clear hb14 HG13 HW13 HH13
  go_wp2_with fail
  refine (heldString1 _ r.length w3.heap.size w4.heap.size q (unhide HQ) (Nat.le_trans hrl (by decide)) _ (unhide HG14)).mono ?_
  rintro e w15 ⟨rfl, hb15⟩
  have B15 := hide ((unhide B14).trans (hb15.mono (unhide B14).size))
  clear hb15 HG14
  go_wp2_with fail
  go_ret
  exact ⟨rfl, unhide B15⟩

set_option maxRecDepth 100000 in
theorem lifted (os : Os) (started : os.Started) (H : Type) (enc : TypeId × Value → H) :
    ReturnsInHanded {} Try.checked os 3 .any (Rows.fnExactCutChunksSpec.pre6 enc Try.prog Try.f3 Rows.fnExactCutChunksRow.domain false) (Rows.fnExactCutChunksSpec.post enc Try.prog Try.f3 false true false false) := by
  refine returnsInHanded_of_change (C := Try.checked) own started (by kernel_rfl) Try.func3
    (ChangeSpec.witness6 (enc := enc) (C := Try.checked) false ⟨#[], #[.slice none 0 0, .int .i64 0], []⟩ 8 (by kernel_rfl) (by kernel_rfl) (by kernel_rfl) (by kernel_rfl)) ?_
  intro W base args ds gs before hval0 hW hcnd _
  have hval : ∀ (j : Nat) t v, Try.f3.params[j]? = some t → args[j]? = some v → Value.okWide Try.prog W .any base t v := hval0
  have hW' := hW
  obtain ⟨p, q, hA0, hV, rfl, hfz, hnd⟩ := hW
  have hA : DataW.TrodAll enc Try.prog W 0 (fun _ => true) true Try.f3.params.toList args.toList ds p := hA0
  rw [Try.params3] at hA hval
  obtain ⟨v0, vs0, d0, ds0, p0, q0, hargs, rfl, rfl, h0, r0⟩ := trodAll_cons hA
  obtain ⟨v1, vs1, d1, ds1, p1, q1, rfl, rfl, rfl, h1, r1⟩ := trodAll_cons r0
  obtain ⟨rfl, rfl, rfl⟩ := trodAll_nil r1
  obtain rfl : args = #[v0, v1] := by cases args; simp_all
  obtain ⟨rfl, rfl⟩ := trodVars_none hV
  obtain ⟨a0, len0, cap0, rfl⟩ := okWide_slice Try.underlying22 (hval 0 22 v0 rfl rfl)
  have k0 := h0
  have lt0 : ∀ x ∈ p0, x.block < W.heap.size := by obtain ⟨m, hm⟩ := k0; exact DataW.trod_lt m _ _ _ hm
  obtain ⟨z0, w0⟩ : ∃ zs, IsRow .u8 W a0 len0 cap0 zs := by
    obtain ⟨fuel, hf⟩ := h0
    rcases open_ints Try.underlying22 Try.underlying5 (by kernel_rfl) hf with ⟨hcs, _⟩ | ⟨x, l, c, zs, hcs, _, hl, hm, hz, _, hcell, hwz⟩
    · simp [Value.cells] at hcs
      obtain ⟨rfl, rfl, rfl⟩ := hcs
      exact ⟨[], .inl ⟨rfl, rfl, rfl, rfl⟩⟩
    · simp [Value.cells] at hcs
      obtain ⟨rfl, rfl, rfl⟩ := hcs
      exact ⟨zs, .inr ⟨_, rfl, hl, hm, by simpa using hz, hcell, hwz⟩⟩
  obtain ⟨a1, rfl, rfl, rfl, w1⟩ := open_int Try.underlying3 (hval 1 3 v1 rfl rfl) h1
  clear hA0 hval0
  refine (walk a0 len0 cap0 z0 a1 W w0 w1).mono fun e W' ⟨he, bel⟩ => ?_
  subst he
  exact ⟨_, rfl, _, _, _, [], _, [], hW', trodAll_mk1 (shut_bool Try.underlying4 _), (trodAll_cons_mk (Below.trod laidOut (by kernel_rfl) (of_decide_eq_true (by kernel_rfl)) k0 bel lt0) (trodAll_cons_mk (shut_int Try.underlying3 w1) trodAll_mk0)), rfl, bel.frame _, fun h => by cases h⟩

theorem over : Rows.fnExactCutChunksRow.holds Try.pinned (OpenSpec.ofChange Rows.fnExactCutChunksSpec) :=
  OpenClaim.holds_of_wide 3 Try.f3 rfl rfl rfl rfl rfl rfl rfl ⟨rfl, rfl, rfl, rfl, rfl⟩ rfl rfl rfl rfl rfl (by kernel_rfl) Try.func3 (by kernel_rfl)
    (of_decide_eq_true (by kernel_rfl)) (by unfold Func.isWrapper; first | (rw [if_pos (by decide +kernel)]; kernel_rfl) | (rw [if_neg (by decide +kernel)]; exact ⟨rfl, rfl⟩))
    (fun os started H enc _ => lifted os started H enc)

theorem proved : Rows.FnExactCutChunksSaid := over
#print axioms proved
end Go.Proofs.Ytffnehaccgfnjaa

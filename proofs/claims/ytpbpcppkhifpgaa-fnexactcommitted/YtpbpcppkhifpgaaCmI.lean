/- What a node knows to be committed: what the program answers. -/
import Derived.Test.YtpbpcppkhifpgaaCmM
import Derived.Test.YtpbpcppkhifpgaaNdQ
import Derived.Test.YtpbpcppkhifpgaaStrS
import Derived.Test.YtpbpcppkhifpgaaDatI
import Derived.Lib.SmallJoins
namespace Go.Proofs.Ytpbpcppkhifpgaa
open Go.ChangeShapes Go.WideShapes Go.ChangeAt Go.RowKit
set_option linter.unusedVariables false
set_option maxHeartbeats 4000000 in
set_option maxRecDepth 100000 in
theorem icomm (id nd tm vt ro cm el wt : Int) (up : Bool) (g : Nat) (n : Nat) (l : List (Int × ByteArray)) (HN : Hid (l.length = n)) (av : Option Addr) (cv nv : Nat) (lv : List Int) (HNv : Hid (lv.length = nv)) (ax : Option Addr) (cx nx : Nat) (lx : List Int) (HNx : Hid (lx.length = nx)) (ag : Option Addr) (cg ng : Nat) (lg : List Int) (HNg : Hid (lg.length = ng)) (hn : n ≤ 1048576) (hnv : nv ≤ 1048576) (hnx : nx ≤ 1048576) (hng : ng ≤ 1048576) (HSZ : Hid (∀ k (h : k < l.length), l[k].2.size ≤ 1048576)) (R : Bool) (HRR : Hid (R = nodeB id nd tm vt ro cm el wt up l lv lx lg)) (L : List ByteArray) (c : Int) (HIS : Hid (CmIs R l cm L c)) (w : World) (hr : RowV w (some ⟨g, 0, none⟩) (cE l)) (hrv : RowV w av (cI lv)) (hrx : RowV w ax (cI lx)) (hrg : RowV w ag (cI lg)) :
    Calls Try.prog 7 #[.agg #[.int .i64 id, .int .i64 nd, .int .i64 tm, .int .i64 vt, .int .i64 ro, .bool up, .slice (some ⟨g, 0, none⟩) n n, .int .i64 cm, .int .i64 el, .int .i64 wt, .slice av nv cv, .slice ax nx cx, .slice ag ng cg]] w fun e w' => ∃ v, e = .returned (.tuple #[v, .int .i64 c]) ∧ w'.ownsRow w.heap.size 9 1 v L.length (cS L) ∧ Below w.heap.size w w' := by
  have B0 := hide (Go.Joins.below_alloc1 w (.cells #[.int .i64 id, .int .i64 nd, .int .i64 tm, .int .i64 vt, .int .i64 ro, .bool up, .slice (some ⟨g, 0, none⟩) n n, .int .i64 cm, .int .i64 el, .int .i64 wt, .slice av nv cv, .slice ax nx cx, .slice ag ng cg] 32))
  have A0 := hide (BF.new w #[.int .i64 id, .int .i64 nd, .int .i64 tm, .int .i64 vt, .int .i64 ro, .bool up, .slice (some ⟨g, 0, none⟩) n n, .int .i64 cm, .int .i64 el, .int .i64 wt, .slice av nv cv, .slice ax nx cx, .slice ag ng cg] 32)
  have HR := hide hr
  have HRv := hide hrv
  have HRx := hide hrx
  have HRg := hide hrg
  clear hr hrv hrx hrg
  go_enter Try.func7, Try.ntmps7
  go_wp2_with fail
  refine (inodeok id nd tm vt ro cm el wt up (some ⟨g, 0, none⟩) n n l HN av cv nv lv HNv ax cx nx lx HNx ag cg ng lg HNg hn hnv hnx hng HSZ R HRR _ ((unhide HR).below (unhide B0)) ((unhide HRv).below (unhide B0)) ((unhide HRx).below (unhide B0)) ((unhide HRg).below (unhide B0))).mono ?_
  rintro e w1 ⟨rfl, hb1⟩
  have B1 := hide ((unhide B0).trans (hb1.mono (unhide B0).size))
  have A1 := hide ((unhide A0).below hb1)
  clear hb1 B0 A0
  have a1 := (unhide A1).S
  cases R with
  | false =>
    obtain ⟨rfl, rfl⟩ : L = [] ∧ c = 1 := by simpa [CmIs] using unhide HIS
    go_wp2_with fail
    go_ret2
    exact ⟨_, rfl, World.ownsRow_nil _ _ _ _, unhide B1⟩
  | true =>
    have hcm : 0 ≤ cm ∧ cm ≤ (n : Int) := by
      have h := (unhide HRR).symm
      unfold nodeB at h
      simp only [Bool.and_eq_true] at h
      have h5 := h.1.1.1.1.2
      unfold inB at h5
      rw [unhide HN] at h5
      simpa using h5
    obtain ⟨c0, hc0⟩ : ∃ c0 : Nat, cm = (c0 : Int) := ⟨cm.toNat, by omega⟩
    subst hc0
    obtain ⟨hL, rfl⟩ : L = datS l c0 ∧ c = 0 := by simpa [CmIs] using unhide HIS
    subst hL
    have HC : Hid (c0 ≤ n) := by show _ ≤ _; omega
    have hc1 : (c0 : Int) ≤ (n : Int) := hcm.2
    have hc2 : (0 : Int) ≤ (c0 : Int) := hcm.1
    clear HIS HRR hcm HRv HRx HRg
    go_wp2_with fail
    refine (idata (some ⟨g, 0, none⟩) n c0 (l.take c0) (by show _ = _; rw [List.length_take]; have := unhide HN; have := unhide HC; omega) (by have := unhide HC; omega) _ (rowV_takeE ((unhide HR).below (unhide B1)) c0)).mono ?_
    rintro e w2 ⟨v2, rfl, ho2, hb2⟩
    have B2 := hide ((unhide B1).trans (hb2.mono (unhide B1).size))
    have O2 := hide (Go.Joins.ownsRow_le ho2 (unhide B1).size)
    have e2 : datS (l.take c0) c0 = datS l c0 := by unfold datS; rw [List.take_take, Nat.min_self]
    have HE2 := hide e2
    obtain ⟨aF, cF, rfl, -⟩ := ownZ_rowV ho2
    clear hb2 ho2 e2 B1 A1 a1
    go_wp2_with fail
    go_ret2
    refine ⟨_, rfl, ?_, unhide B2⟩
    rw [datS_len l c0 (by rw [unhide HN]; exact unhide HC), ← unhide HE2]
    exact unhide O2
end Go.Proofs.Ytpbpcppkhifpgaa

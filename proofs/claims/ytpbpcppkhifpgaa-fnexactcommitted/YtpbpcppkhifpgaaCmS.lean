/- What a node knows to be committed: what the specification answers. -/
import Derived.Test.YtpbpcppkhifpgaaCmM
import Derived.Test.YtpbpcppkhifpgaaNdS
import Derived.Test.YtpbpcppkhifpgaaStrS
import Derived.Lib.SmallJoins
namespace Go.Proofs.Ytpbpcppkhifpgaa
open Go.ChangeShapes Go.WideShapes Go.ChangeAt Go.RowKit
set_option linter.unusedVariables false
set_option maxHeartbeats 4000000 in
set_option maxRecDepth 100000 in
theorem scommd (id nd tm vt ro cm el wt : Int) (up : Bool) (g : Nat) (n : Nat) (l : List (Int × ByteArray)) (HN : Hid (l.length = n)) (av : Option Addr) (cv nv : Nat) (ax : Option Addr) (cx nx : Nat) (ag : Option Addr) (cg ng : Nat) (hn : n ≤ 1048576) (c0 : Nat) (hc0 : cm = (c0 : Int)) (HC : Hid (c0 ≤ n)) (w : World) (hr : RowV w (some ⟨g, 0, none⟩) (cE l)) :
    Calls Try.prog 16 #[.agg #[.int .i64 id, .int .i64 nd, .int .i64 tm, .int .i64 vt, .int .i64 ro, .bool up, .slice (some ⟨g, 0, none⟩) n n, .int .i64 cm, .int .i64 el, .int .i64 wt, .slice av nv cv, .slice ax nx cx, .slice ag ng cg]] w fun e w' => ∃ v, e = .returned v ∧ w'.ownsRow w.heap.size 9 1 v c0 (cS (datS l c0)) ∧ Below w.heap.size w w' := by
  subst hc0
  have B0 := hide (Go.Joins.below_alloc2 w (.cells #[.int .i64 id, .int .i64 nd, .int .i64 tm, .int .i64 vt, .int .i64 ro, .bool up, .slice (some ⟨g, 0, none⟩) n n, .int .i64 (c0 : Int), .int .i64 el, .int .i64 wt, .slice av nv cv, .slice ax nx cx, .slice ag ng cg] 32) (.cells #[] 9))
  have A0 := hide ((BF.new w #[.int .i64 id, .int .i64 nd, .int .i64 tm, .int .i64 vt, .int .i64 ro, .bool up, .slice (some ⟨g, 0, none⟩) n n, .int .i64 (c0 : Int), .int .i64 el, .int .i64 wt, .slice av nv cv, .slice ax nx cx, .slice ag ng cg] 32).alloc (.cells #[] 9))
  have HR := hide hr
  clear hr
  go_enter Try.func16, Try.ntmps16
  go_wp2_with fail
  obtain ⟨i0, hi, hz0, hz1, hz2⟩ := info_parts Try.infL9
  go_loopw [3, 4] (fun l0 i wr => ∃ (k : Nat) (v : Value), k ≤ c0 ∧ i = .int .i64 k ∧ l0 = v ∧ Hid (wr.ownsRow (w.heap.size + 1) 9 1 v k (cS (datS l k))) ∧ Hid (BF w.heap.size #[.int .i64 id, .int .i64 nd, .int .i64 tm, .int .i64 vt, .int .i64 ro, .bool up, .slice (some ⟨g, 0, none⟩) n n, .int .i64 (c0 : Int), .int .i64 el, .int .i64 wt, .slice av nv cv, .slice ax nx cx, .slice ag ng cg] wr) ∧ Hid (Below w.heap.size w wr)) (fun _ i _ => c0 - (intOf i).toNat)
  case atStart => exact ⟨0, _, by omega, rfl, rfl, (by show World.ownsRow _ _ _ _ _ _ _; rw [datS_zero]; have h := World.ownsRow_lit (e := 9) (base := w.heap.size + 1) (size := 1) (w.alloc (.cells #[.int .i64 id, .int .i64 nd, .int .i64 tm, .int .i64 vt, .int .i64 ro, .bool up, .slice (some ⟨g, 0, none⟩) n n, .int .i64 (c0 : Int), .int .i64 el, .int .i64 wt, .slice av nv cv, .slice ax nx cx, .slice ag ng cg] 32)) #[] 0 (by simp) (by unfold maxLen; omega) rfl; simp only [World.size_alloc] at h; exact h), A0, B0⟩
  case round =>
    obtain ⟨k, v, hk, rfl, rfl, HO, A1, B1⟩ := hrel
    have a1 := (unhide A1).S
    by_cases hlt : k < c0
    · have hlk : k < l.length := by rw [unhide HN]; have := unhide HC; omega
      obtain ⟨b, off, ha, hblt, hc⟩ := (unhide HR).at (by rw [cE_len]; omega)
      obtain ⟨rfl, rfl⟩ : b = g ∧ off = 0 := by injection ha with ha; injection ha with h1 h2; exact ⟨h1.symm, h2.symm⟩
      obtain ⟨x0, x1⟩ := row_ent hc k hlk
      obtain ⟨t, et⟩ : ∃ t, t = l[k].1 := ⟨_, rfl⟩
      obtain ⟨d, ed⟩ : ∃ d, d = l[k].2 := ⟨_, rfl⟩
      have HS : Hid (cS (datS l (k + 1)) = cS (datS l k) ++ [.string d]) := by show _ = _; rw [datS_snoc l k hlk, cS_app, ed]; rfl
      rw [← et, Nat.zero_add] at x0
      rw [← ed, Nat.zero_add] at x1
      have hx0 : wr.cell? ⟨b, k * 2, none⟩ = some (.int .i64 t) := ((unhide B1).cell (p := ⟨b, k * 2, none⟩) hblt).trans x0
      have hx1 : wr.cell? ⟨b, k * 2 + 1, none⟩ = some (.string d) := ((unhide B1).cell (p := ⟨b, k * 2 + 1, none⟩) hblt).trans x1
      have hlt' : (k : Int) < (c0 : Int) := by omega
      have hltn : (k : Int) < (n : Int) := by have := unhide HC; omega
      have hlt0 : (0 : Int) ≤ (k : Int) := by omega
      have hzw := (unhide A1).lt
      have hk6 : k ≤ 1048576 := by have := unhide HC; omega
      have hown := unhide HO
      have HB2 := hide (unhide B1)
      have HA2 := hide (unhide A1)
      clear hc x0 x1 et ed hlk
      go_wp2_with (at_builtin; refine wpList_append_lies _ rfl (.tmp 12) (.tmp 19) 27 rfl (w.heap.size + 1) 9 i0 (.string ⟨#[]⟩) 1 16 Try.underlying27 hi hz0 hz1 hz2 rfl (by decide) _ _ _ rfl (hown.alloc (.cells #[.string d] 9)) ⟨wr.heap.size, 0, none⟩ 1 1 [.string d] rfl rfl (by have := news_new wr [.string d] 9; exact this) (by intro u hu; simp at hu; subst hu; rfl) (by decide) (by unfold maxLen; omega) (by omega) (by simp; omega) _ rfl ?_; intro g7 c7 w7 hown7 hgrow7 hat7 hlt7; have HO7 := hide hown7; have HB7 := hide (((unhide HB2).alloc (unhide HB2).size (.cells #[.string d] 9)).grown hgrow7 (by simp; omega) (fun j hj => by have := (hown.lt j hj).1; omega)); have HA7 := hide (((unhide HA2).alloc (.cells #[.string d] 9)).grown hgrow7 (fun hj => by have := (hown.lt _ hj).1; omega)); clear hown7 hgrow7 hat7 hlt7)
      go_roundw
      case rel => exact ⟨k + 1, _, by omega, by go_num, rfl, by show World.ownsRow _ _ _ _ _ _ _; rw [unhide HS]; exact unhide HO7, HA7, HB7⟩
      case measure => simp [intOf]; omega
    · obtain rfl : k = c0 := by omega
      obtain ⟨aF, cF, rfl, -⟩ := own_rowV (unhide HO)
      go_wp2_with fail
      go_ret
      refine ⟨_, rfl, ?_, unhide B1⟩
      exact Go.Joins.ownsRow_le (unhide HO) (by omega)
set_option maxHeartbeats 4000000 in
set_option maxRecDepth 100000 in
theorem scomm (id nd tm vt ro cm el wt : Int) (up : Bool) (g : Nat) (n : Nat) (l : List (Int × ByteArray)) (HN : Hid (l.length = n)) (av : Option Addr) (cv nv : Nat) (lv : List Int) (HNv : Hid (lv.length = nv)) (ax : Option Addr) (cx nx : Nat) (lx : List Int) (HNx : Hid (lx.length = nx)) (ag : Option Addr) (cg ng : Nat) (lg : List Int) (HNg : Hid (lg.length = ng)) (hn : n ≤ 1048576) (hnv : nv ≤ 1048576) (hnx : nx ≤ 1048576) (hng : ng ≤ 1048576) (HSZ : Hid (∀ k (h : k < l.length), l[k].2.size ≤ 1048576)) (R : Bool) (HRR : Hid (R = nodeB id nd tm vt ro cm el wt up l lv lx lg)) (L : List ByteArray) (c : Int) (HIS : Hid (CmIs R l cm L c)) (w : World) (hr : RowV w (some ⟨g, 0, none⟩) (cE l)) (hrv : RowV w av (cI lv)) (hrx : RowV w ax (cI lx)) (hrg : RowV w ag (cI lg)) :
    Calls Try.prog 5 #[.agg #[.int .i64 id, .int .i64 nd, .int .i64 tm, .int .i64 vt, .int .i64 ro, .bool up, .slice (some ⟨g, 0, none⟩) n n, .int .i64 cm, .int .i64 el, .int .i64 wt, .slice av nv cv, .slice ax nx cx, .slice ag ng cg]] w fun e w' => ∃ v, e = .returned (.tuple #[v, .int .i64 c]) ∧ w'.ownsRow w.heap.size 9 1 v L.length (cS L) ∧ Below w.heap.size w w' := by
  have B0 := hide (Go.Joins.below_alloc1 w (.cells #[.int .i64 id, .int .i64 nd, .int .i64 tm, .int .i64 vt, .int .i64 ro, .bool up, .slice (some ⟨g, 0, none⟩) n n, .int .i64 cm, .int .i64 el, .int .i64 wt, .slice av nv cv, .slice ax nx cx, .slice ag ng cg] 32))
  have A0 := hide (BF.new w #[.int .i64 id, .int .i64 nd, .int .i64 tm, .int .i64 vt, .int .i64 ro, .bool up, .slice (some ⟨g, 0, none⟩) n n, .int .i64 cm, .int .i64 el, .int .i64 wt, .slice av nv cv, .slice ax nx cx, .slice ag ng cg] 32)
  have HR := hide hr
  have HRv := hide hrv
  have HRx := hide hrx
  have HRg := hide hrg
  clear hr hrv hrx hrg
  go_enter Try.func5, Try.ntmps5
  go_wp2_with fail
  refine (snodeok id nd tm vt ro cm el wt up (some ⟨g, 0, none⟩) n n l HN av cv nv lv HNv ax cx nx lx HNx ag cg ng lg HNg hn hnv hnx hng HSZ R HRR _ ((unhide HR).below (unhide B0)) ((unhide HRv).below (unhide B0)) ((unhide HRx).below (unhide B0)) ((unhide HRg).below (unhide B0))).mono ?_
  rintro e w1 ⟨rfl, hb1⟩
  have B1 := hide ((unhide B0).trans (hb1.mono (unhide B0).size))
  have A1 := hide ((unhide A0).below hb1)
  clear hb1 B0 A0
  have a1 := (unhide A1).S
  cases R with
  | false =>
    obtain ⟨rfl, rfl⟩ : L = [] ∧ c = 1 := by simpa [CmIs] using unhide HIS
    have B2 := hide ((unhide B1).alloc (unhide B1).size (.cells #[] 9))
    go_wp2_with fail
    go_ret2
    exact ⟨_, rfl, World.ownsRow_lit (e := 9) (base := w.heap.size) (size := 1) w1 #[] 0 (by have := (unhide A1).lt; omega) (by unfold maxLen; omega) rfl, unhide B2⟩
  | true =>
    have hcm : 0 ≤ cm ∧ cm ≤ (n : Int) := by
      have h := (unhide HRR).symm
      unfold nodeB at h
      simp only [Bool.and_eq_true] at h
      have h5 := h.1.1.1.1.2
      unfold inB at h5
      rw [unhide HN] at h5
      simpa using h5
    obtain ⟨c0, hc0⟩ : ∃ c0 : Nat, cm = (c0 : Int) := ⟨cm.toNat, by omega⟩
    obtain ⟨hL, rfl⟩ : L = datS l c0 ∧ c = 0 := by have := unhide HIS; rw [hc0] at this; simpa [CmIs] using this
    have HC : Hid (c0 ≤ n) := by show _ ≤ _; omega
    have hLn : L.length = c0 := by rw [hL, datS_len l c0 (by rw [unhide HN]; exact unhide HC)]
    have HLN := hide hLn
    have HLL := hide hL
    have HCC := hide hc0
    clear HIS HRR hcm HRv HRx HRg hL hLn hc0
    go_wp2_with fail
    refine (scommd id nd tm vt ro cm el wt up g n l HN av cv nv ax cx nx ag cg ng hn c0 (unhide HCC) HC _ ((unhide HR).below (unhide B1))).mono ?_
    rintro e w2 ⟨v, rfl, ho, hb2⟩
    obtain ⟨aF, cF, rfl, -⟩ := own_rowV ho
    have HO := hide ho
    have B2 := hide ((unhide B1).trans (hb2.mono (unhide B1).size))
    have hsz := (unhide A1).lt
    clear ho hb2
    go_wp2_with fail
    go_ret2
    refine ⟨_, rfl, ?_, unhide B2⟩
    rw [unhide HLN, unhide HLL]
    exact Go.Joins.ownsRow_le (unhide HO) (by omega)
end Go.Proofs.Ytpbpcppkhifpgaa

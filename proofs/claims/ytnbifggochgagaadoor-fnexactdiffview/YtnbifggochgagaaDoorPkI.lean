/- Rows picked by a set of bits: what the program answers. -/
import Derived.Test.YtnbifggochgagaaDoorFvM
import Derived.Test.YtnbifggochgagaaDoorRwL
import Derived.Test.YtnbifggochgagaaDoorStrS
import Derived.Lib.SmallJoins
import Derived.Deep.LoopGhost
namespace Go.Proofs.YtnbifggochgagaaDoor
open Go.ChangeShapes Go.WideShapes Go.ChangeAt Go.RowKit
set_option linter.unusedVariables false
def lowB (n : Nat) : Nat := (picks n).headD 0
theorem picks_step : ∀ n < 1024, n ≠ 0 → picks n = lowB n :: picks (n &&& (n - 1)) ∧ (n &&& (n - 1)) < 1024 ∧ lowB n < 10 ∧ n &&& (65536 - n) = 2 ^ lowB n := by decide +kernel
def tzRaw : List Nat := [0, 1, 28, 2, 29, 14, 24, 3, 30, 22, 20, 15, 25, 17, 4, 8, 31, 27, 13, 23, 21, 19, 16, 7, 26, 12, 18, 6, 11, 5, 10, 9]
/-- The library's table of thirty-two numbers lies in its variable. -/
def TzTab (w : World) : Prop := ∀ c (h : c < 32), w.cell? ⟨0, c, none⟩ = some (.int .u8 ((tzRaw.getD c 0 : Nat) : Int))
theorem TzTab.pos {w : World} (h : TzTab w) : 0 < w.heap.size := World.block_lt_of_cell? w _ (h 0 (by decide))
theorem TzTab.below {w w' : World} {B : Nat} (h : TzTab w) (hb : Below B w w') (h1 : 0 < B) : TzTab w' := fun c hc => (hb.cell (p := ⟨0, c, none⟩) h1).trans (h c hc)
theorem TzTab.drew {w : World} (h : TzTab w) : TzTab w.drew := h
theorem tz_at : ∀ y < 10, tzRaw.getD (2 ^ y * 125613361 % 4294967296 / 134217728) 0 = y ∧ 2 ^ y * 125613361 % 4294967296 / 134217728 < 32 := by decide
set_option maxHeartbeats 1000000 in
set_option maxRecDepth 100000 in
theorem itz (s y : Nat) (hs : s < 1024) (h0 : s ≠ 0) (HY : Hid (y = lowB s)) (w : World) (hT : TzTab w) : Calls Tryd.prog 37 #[.int .u16 (s : Int)] w fun e w' => e = .returned (.int .i64 (y : Int)) ∧ w' = w := by
  obtain ⟨-, -, hy, hp⟩ := picks_step s hs h0
  rw [← unhide HY] at hy hp
  obtain ⟨p, hpp⟩ : ∃ p, p = 2 ^ y := ⟨_, rfl⟩
  have hp10 : p ≤ 1024 := by rw [hpp]; exact pow_le10 (Nat.le_of_lt hy)
  obtain ⟨m, hm⟩ : ∃ m, m = p * 125613361 % 4294967296 := ⟨_, rfl⟩
  obtain ⟨i, hi⟩ : ∃ i, i = m / 134217728 := ⟨_, rfl⟩
  obtain ⟨ht, hi32⟩ := tz_at y hy
  rw [← hpp, ← hm, ← hi] at ht hi32
  have hc := hT i hi32
  rw [ht] at hc
  have e0 : ((s : Int) == 0) = false := by rw [beq_eq_false_iff_ne]; omega
  have e1 : IntKind.u16.wrap (-(s : Int)) = ((65536 - s : Nat) : Int) := by rw [IntKind.wrap_u16]; omega
  have e2 : bits .and .u16 (s : Int) ((65536 - s : Nat) : Int) = (p : Int) := by rw [u16_and_nat _ _ (by omega) (by omega), hp, hpp]
  have e3 : IntKind.u32.wrap (p : Int) = (p : Int) := by rw [IntKind.wrap_u32']; omega
  have e4 : IntKind.u32.wrap ((p : Int) * 125613361) = (m : Int) := by rw [IntKind.wrap_u32']; omega
  have e5 : (m : Int) / 134217728 = (i : Int) := by omega
  have e6 : (i : Int) < 32 := by omega
  have e7 : IntKind.i64.wrap (y : Int) = (y : Int) := wrapi _ (by omega) (by omega)
  have e8 : (m : Int) / 2 ^ 27 = (i : Int) := by omega
  have e9 : m / 134217728 = i := hi.symm
  have hy8 : y < 10 := hy
  clear hT hp hpp hm hi ht hy HY h0
  go_enter Tryd.func37, Tryd.ntmps37
  go_wp2_with fail
  go_ret
  exact ⟨rfl, rfl⟩
set_option maxHeartbeats 400000 in
set_option maxRecDepth 100000 in
theorem ifirst (s y : Nat) (hs : s < 1024) (h0 : s ≠ 0) (HY : Hid (y = lowB s)) (w : World) (hT : TzTab w) : Calls Tryd.prog 30 #[.int .u16 (s : Int)] w fun e w' => e = .returned (.int .i64 (y : Int)) ∧ w' = w := by
  have HT := hide hT
  have H0 := hide h0
  clear hT h0
  go_enter Tryd.func30, Tryd.ntmps30
  go_wp2_with (go_at_call 37; refine (itz s y hs (unhide H0) HY _ (unhide HT)).mono ?_; rintro e w2 ⟨rfl, rfl⟩)
  go_ret
  exact ⟨rfl, rfl⟩
set_option maxHeartbeats 400000 in
set_option maxRecDepth 100000 in
theorem iwithout (s t : Nat) (hs : s < 1024) (h0 : s ≠ 0) (HT : Hid (t = s &&& (s - 1))) (w : World) : Calls Tryd.prog 29 #[.int .u16 (s : Int)] w fun e w' => e = .returned (.int .u16 (t : Int)) ∧ w' = w := by
  have e1 : IntKind.u16.wrap ((s : Int) - 1) = ((s - 1 : Nat) : Int) := by rw [IntKind.wrap_u16]; omega
  have e2 : bits .and .u16 (s : Int) ((s - 1 : Nat) : Int) = (t : Int) := by rw [u16_and_nat _ _ (by omega) (by omega), unhide HT]
  clear h0
  go_enter Tryd.func29, Tryd.ntmps29
  go_wp2_with fail
  go_ret
  exact ⟨rfl, rfl⟩
set_option maxHeartbeats 4000000 in
set_option maxRecDepth 100000 in
theorem ipicked (a : Option Addr) (cap n s : Nat) (hs : s < 1024) (R : List ByteArray) (HN : Hid (R.length = n)) (HI : Hid (∀ y ∈ picks s, y < n)) (w : World) (hr : RowV w a (cS R)) (hT : TzTab w) :
    Calls Tryd.prog 20 #[.slice a n cap, .int .u16 (s : Int)] w fun e w' => ∃ v, e = .returned v ∧ w'.ownsRow w.heap.size 38 2 v (picks s).length (cE (pkL R (picks s))) ∧ Below w.heap.size w w' := by
  have HR := hide hr
  have HT := hide hT
  have HCL := hide (cS_len R)
  have B0 := hide (Below.refl w.heap.size w)
  clear hr hT
  obtain ⟨i0, hi, hz0, hz1, hz2⟩ := info_parts Tryd.infL38
  go_enter Tryd.func20, Tryd.ntmps20
  go_wp2_with fail
  go_loopg [5, 6] (picks s).length (fun g l0 r0 wr => ∃ (q : Nat) (ys : List Nat) (m : Nat) (v : Value), q < 1024 ∧ r0 = .int .u16 (q : Int) ∧ l0 = v ∧ Hid (ys.length = m) ∧ m ≤ 10 ∧ Hid (ys ++ picks q = picks s ∧ (picks q).length = g) ∧ Hid (wr.ownsRow w.heap.size 38 2 v m (cE (pkL R ys))) ∧ Hid (Below w.heap.size w wr))
  case atStart => exact ⟨s, [], 0, _, hs, rfl, rfl, rfl, by omega, ⟨rfl, rfl⟩, World.ownsRow_nil _ _ _ _, B0⟩
  case round =>
    obtain ⟨q, ys, m, v, hq, rfl, rfl, HM, hm, HYS, HO, HB⟩ := hrel
    by_cases h0 : q = 0
    · subst h0
      obtain ⟨aF, cF, rfl, -⟩ := ownZ_rowV (unhide HO)
      have e : ys = picks s := by have h := (unhide HYS).1; rw [show picks 0 = [] from by decide, List.append_nil] at h; exact h
      have HOF : Hid (wr.ownsRow w.heap.size 38 2 (.slice aF m cF) (picks s).length (cE (pkL R (picks s)))) := by
        have h := unhide HO
        have hm2 := unhide HM
        show World.ownsRow _ _ _ _ _ _ _
        rw [← e, hm2]; exact h
      clear e HO
      go_wp2_with fail
      go_ret
      exact ⟨_, rfl, unhide HOF, unhide HB⟩
    · obtain ⟨hp1, hp2, hp3, -⟩ := picks_step q hq h0
      obtain ⟨y, hy⟩ : ∃ y, y = lowB q := ⟨_, rfl⟩
      obtain ⟨t, ht⟩ : ∃ t, t = q &&& (q - 1) := ⟨_, rfl⟩
      rw [← hy, ← ht] at hp1
      rw [← ht] at hp2
      have HYY := hide hy
      have HTT := hide ht
      have hyn : y < n := unhide HI y (by rw [← (unhide HYS).1, hp1]; simp)
      have hyR : y < R.length := by rw [unhide HN]; exact hyn
      obtain ⟨b1, off, ha, hblt, hc⟩ := (unhide HR).at (by rw [unhide HCL]; omega)
      subst ha
      obtain ⟨d, hd⟩ : ∃ d, d = R[y] := ⟨_, rfl⟩
      have hc1 : wr.cell? ⟨b1, off + y, none⟩ = some (.string d) := by rw [hd]; exact ((unhide HB).cell (p := ⟨b1, off + y, none⟩) hblt).trans (hc y _ (cS_at R y hyR))
      have hyi : (y : Int) < (n : Int) := by omega
      have hy0 : (0 : Int) ≤ (y : Int) := by omega
      have hne : ((q : Int) != 0) = true := by rw [bne_iff_ne]; omega
      have HSN : Hid (cE (pkL R (ys ++ [y])) = cE (pkL R ys) ++ [.int .i64 (y : Int), .string d]) := by
        show _ = _
        rw [pkL_snoc, cE_app, show R.getD y ⟨#[]⟩ = d from by rw [hd]; simp [hyR]]; rfl
      have HYS2 : Hid ((ys ++ [y]) ++ picks t = picks s ∧ (picks t).length + 1 = gk) := by
        obtain ⟨h1, h2⟩ := unhide HYS
        rw [hp1] at h1 h2
        exact ⟨by rw [← h1]; simp, by simpa using h2⟩
      have hm9 : m + 1 ≤ 10 := by
        have h1 := congrArg List.length (unhide HYS2).1
        have h2 := picks_len s
        have h3 := unhide HM
        simp only [List.length_append, List.length_cons, List.length_nil] at h1
        omega
      have HT1 := hide ((unhide HT).below (unhide HB) (unhide HT).pos)
      have hown := unhide HO
      have hbs := (unhide HB).size
      have H0 := hide h0
      clear hc hd hy ht hp1 h0 hyR
      go_wp2_with (first | (go_at_call 30; refine (ifirst q y hq (unhide H0) HYY _ (unhide HT1)).mono ?_; rintro e w2 ⟨rfl, hw2⟩; subst w2) | (at_builtin; refine wpList_append_lies _ rfl (.tmp 15) (.tmp 22) 24 rfl w.heap.size 38 i0 (.agg #[.int .i64 0, .string ⟨#[]⟩]) 2 24 Tryd.underlying24 hi hz0 hz1 hz2 rfl (by decide) _ _ _ rfl (hown.alloc (.cells #[.int .i64 (y : Int), .string d] 38)) ⟨wr.heap.size, 0, none⟩ 1 1 [.int .i64 (y : Int), .string d] rfl rfl (by exact news_new wr [.int .i64 (y : Int), .string d] 38) (by intro u hu; simp at hu; rcases hu with rfl | rfl <;> rfl) (by decide) (by unfold maxLen; omega) (by omega) (by simp; omega) _ rfl ?_; intro g7 c7 w7 hown7 hgrow7 hat7 hlt7; have HO7 := hide hown7; have HB7 := hide (((unhide HB).alloc (unhide HB).size (.cells #[.int .i64 (y : Int), .string d] 38)).grown hgrow7 (by simp; omega) (fun j hj => (hown.lt j hj).1)); clear hown7 hgrow7 hat7 hlt7) | (go_at_call 29; refine (iwithout q t hq (unhide H0) HTT _).mono ?_; rintro e w2 ⟨rfl, hw2⟩; subst w2))
      go_roundg (picks t).length
      case measure => have := (unhide HYS2).2; omega
      case rel => exact ⟨t, ys ++ [y], m + 1, _, hp2, rfl, rfl, by show _ = _; rw [List.length_append, unhide HM]; rfl, hm9, ⟨(unhide HYS2).1, rfl⟩, by show World.ownsRow _ _ _ _ _ _ _; rw [unhide HSN]; exact unhide HO7, HB7⟩
end Go.Proofs.YtnbifggochgagaaDoor

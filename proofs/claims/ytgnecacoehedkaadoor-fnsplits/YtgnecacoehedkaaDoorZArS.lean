/- l05Areas, LayoutAreas: what the specification answers. -/
import Derived.Test.YtgnecacoehedkaaDoorZArI
import Derived.Test.YtgnecacoehedkaaDoorZOkL
import Derived.Test.YtgnecacoehedkaaDoorZG12
namespace Go.Proofs.YtgnecacoehedkaaDoor
open Go.ChangeShapes Go.WideShapes Go.ChangeAt Go.RowKit
set_option maxHeartbeats 2000000 in
set_option maxRecDepth 100000 in
theorem sareas (a : Option Addr) (cap : Nat) (l : List Pt) (L : Nat) (HLL : Hid (l.length = L)) (hl : L ≤ 11) : ∀ (t : Tr) (k : Nat) (x y W H : Int) (A : List Ar) (w : World), A = t.areas x y W H → Sits l k t → RowV w a (cPt l) → t.fits W H = true → 0 ≤ x → 0 ≤ y → 2 ≤ W → 2 ≤ H → x + W ≤ 1000 → y + H ≤ 1000 → t.cnt ≤ 1000 →
  Calls Tryd.prog 16 #[.agg #[.slice a L cap], .int .i64 (k : Int), .int .i64 x, .int .i64 y, .int .i64 W, .int .i64 H] w fun e w' => ∃ a2 cap2, e = .returned (.slice a2 A.length cap2) ∧ w'.ownsRow w.heap.size 32 5 (.slice a2 A.length cap2) A.length (cAr A) ∧ Below w.heap.size w w' := by
 intro t
 obtain ⟨i0, hi, hz0, hz1, hz2⟩ := info_parts Tryd.infL32
 induction t using Tr.ind with
 | pane n =>
  intro k x y W H A w hA hS hr hf hx hy hW hH h1 h2 hcnt
  obtain ⟨hpk, hkl⟩ := hS.pane
  obtain ⟨b, off, ha, hblt, hc⟩ := hr.at (by rw [cPt_len, unhide HLL]; rw [unhide HLL] at hkl; omega)
  subst ha
  obtain ⟨x0, x1, x2, x3, x4⟩ := rowPt hc k hkl
  have hpk' : l[k] = ⟨n, false, 0, -1, -1⟩ := by rw [List.getElem?_eq_getElem hkl] at hpk; injection hpk
  rw [hpk'] at x0 x1 x2 x3 x4
  rw [unhide HLL] at hkl
  have hlt' : (k : Int) < (L : Int) := by omega
  have hk0 : (0 : Int) ≤ (k : Int) := by omega
  have g : ∀ (o : Obj) (j : Nat), (w.alloc o).cell? ⟨b, j, none⟩ = w.cell? ⟨b, j, none⟩ := fun o j => World.cell?_alloc_lt w o ⟨b, j, none⟩ hblt
  have y0 : ∀ o, (w.alloc o).cell? ⟨b, off + k * 5, none⟩ = some (.int .i64 n) := fun o => (g o _).trans x0
  have y1 : ∀ o, (w.alloc o).cell? ⟨b, off + k * 5 + 1, none⟩ = some (.bool false) := fun o => (g o _).trans x1
  have y2 : ∀ o, (w.alloc o).cell? ⟨b, off + k * 5 + 2, none⟩ = some (.int .i64 0) := fun o => (g o _).trans x2
  have y3 : ∀ o, (w.alloc o).cell? ⟨b, off + k * 5 + 3, none⟩ = some (.int .i64 (-1)) := fun o => (g o _).trans x3
  have y4 : ∀ o, (w.alloc o).cell? ⟨b, off + k * 5 + 4, none⟩ = some (.int .i64 (-1)) := fun o => (g o _).trans x4
  have hA' : A = [⟨n, x, y, W, H⟩] := hA
  clear hc hpk hpk' g x0 x1 x2 x3 x4 hA hr hS hf
  subst hA'
  go_enter Tryd.func16, Tryd.ntmps16
  go_wp2_with fail
  go_ret
  refine ⟨_, _, rfl, ?_, Go.Joins.below_alloc3 w _ _ _⟩
  have o := World.ownsRow_lit (e := 32) (base := w.heap.size) (size := 5) ((w.alloc (Obj.cells #[.slice (some ⟨b, off, none⟩) L cap] 26)).alloc (Obj.cells #[.int .i64 n, .bool false, .int .i64 0, .int .i64 (-1), .int .i64 (-1)] 53)) #[.int .i64 n, .int .i64 x, .int .i64 y, .int .i64 W, .int .i64 H] 1 (by simp; omega) (by decide) rfl
  simp only [World.size_alloc] at o
  exact o
 | split r s l1 l2 ihl ihr =>
  intro k x y W H A w hA hS hr hf hx hy hW hH h1 h2 hcnt
  obtain ⟨hpk, hkl, hS1, hS2⟩ := hS.split
  obtain ⟨b, off, ha, hblt, hc⟩ := hr.at (by rw [cPt_len, unhide HLL]; rw [unhide HLL] at hkl; omega)
  subst ha
  obtain ⟨x0, x1, x2, x3, x4⟩ := rowPt hc k hkl
  have hpk' : l[k] = ⟨0, r, s, ((k + 1 : Nat) : Int), ((k + 1 + l1.cnt : Nat) : Int)⟩ := by rw [List.getElem?_eq_getElem hkl] at hpk; injection hpk
  rw [hpk'] at x0 x1 x2 x3 x4
  rw [unhide HLL] at hkl
  obtain ⟨k1, hk1⟩ : ∃ k1, k1 = k + 1 := ⟨_, rfl⟩
  obtain ⟨m, hm⟩ : ∃ m, m = k1 + l1.cnt := ⟨_, rfl⟩
  rw [← hk1] at hS1 hS2 x3 x4
  rw [← hm] at hS2 x4
  have hlt' : (k : Int) < (L : Int) := by omega
  have hk0 : (0 : Int) ≤ (k : Int) := by omega
  have hk1n : ¬ (k1 : Int) = -1 := by omega
  have g : ∀ (o : Obj) (j : Nat), (w.alloc o).cell? ⟨b, j, none⟩ = w.cell? ⟨b, j, none⟩ := fun o j => World.cell?_alloc_lt w o ⟨b, j, none⟩ hblt
  have y0 : ∀ o, (w.alloc o).cell? ⟨b, off + k * 5, none⟩ = some (.int .i64 0) := fun o => (g o _).trans x0
  have y1 : ∀ o, (w.alloc o).cell? ⟨b, off + k * 5 + 1, none⟩ = some (.bool r) := fun o => (g o _).trans x1
  have y2 : ∀ o, (w.alloc o).cell? ⟨b, off + k * 5 + 2, none⟩ = some (.int .i64 s) := fun o => (g o _).trans x2
  have y3 : ∀ o, (w.alloc o).cell? ⟨b, off + k * 5 + 3, none⟩ = some (.int .i64 (k1 : Int)) := fun o => (g o _).trans x3
  have y4 : ∀ o, (w.alloc o).cell? ⟨b, off + k * 5 + 4, none⟩ = some (.int .i64 (m : Int)) := fun o => (g o _).trans x4
  have HR := hide hr
  simp only [Tr.cnt] at hcnt
  clear hc hpk hpk' g x0 x1 x2 x3 x4 hr hS hk1 hm
  rw [Tr.fits] at hf
  rw [Tr.areas] at hA
  cases r
  all_goals
   simp only [Bool.false_eq_true, if_false, if_true, Bool.and_eq_true] at hf hA
   obtain ⟨hfl, hfr⟩ := hf
   have f1 := fits_two _ _ _ hfl
   have f2 := fits_two _ _ _ hfr
   have hs : 0 ≤ s ∧ s ≤ 1000 := by omega
  ·obtain ⟨A1, hA1⟩ : ∃ A1, A1 = l1.areas x y s H := ⟨_, rfl⟩
   obtain ⟨A2, hA2⟩ : ∃ A2, A2 = l2.areas (x + s) y (W - s) H := ⟨_, rfl⟩
   rw [← hA1, ← hA2] at hA
   obtain ⟨n1, hn1⟩ : ∃ n1, n1 = A1.length := ⟨_, rfl⟩
   obtain ⟨n2, hn2⟩ : ∃ n2, n2 = A2.length := ⟨_, rfl⟩
   have b1 : 0 < n1 ∧ n1 ≤ 1000 := by rw [hn1, hA1, areas_len]; have := panes_pos l1; have := panes_len l1; omega
   have b2 : 0 < n2 ∧ n2 ≤ 1000 := by rw [hn2, hA2, areas_len]; have := panes_pos l2; have := panes_len l2; omega
   have HN1 := hide hn1
   have HN2 := hide hn2
   clear hn1 hn2
   subst hA
   obtain ⟨Z, hZ⟩ : ∃ Z : Int, Z = W - s := ⟨_, rfl⟩
   have HZ := hide hZ
   have TP := hide (sparts ⟨0, false, s, (k1 : Int), (m : Int)⟩ W H (by omega) (by omega))
   simp only [Bool.false_eq_true, if_false] at TP
   rw [szC_id hs, ← hZ] at TP
   obtain ⟨q, hq⟩ : ∃ q : Int, q = x + s := ⟨_, rfl⟩
   have HQ := hide hq
   have T2 := hide (fun w0 (h0 : RowV w0 (some ⟨b, off, none⟩) (cPt l)) => ihr m q y Z H A2 w0 (by rw [hA2, hq, hZ]) hS2 h0 (by rw [hZ]; exact hfr) (by omega) (by omega) (by omega) (by omega) (by omega) (by omega) (by omega))
   have T1 := hide (fun w0 (h0 : RowV w0 (some ⟨b, off, none⟩) (cPt l)) => ihl k1 x y s H A1 w0 hA1 hS1 h0 hfl (by omega) (by omega) (by omega) (by omega) (by omega) (by omega) (by omega))
   have a1 : x + s = q := by omega
   have hq9 : q ≤ 1000 := by omega
   have hq8 : 0 ≤ q := by omega
   clear hZ hq ihl ihr hA1 hA2 hS1 hS2 hfl hfr hcnt
   go_enter Tryd.func16, Tryd.ntmps16
   go_wp2_with fail
   refine (unhide TP _).mono ?_
   rintro e w1 ⟨rfl, hb1⟩
   have HB1 := hide ((Go.Joins.below_alloc2 w (.cells #[.slice (some ⟨b, off, none⟩) L cap] 26) (.cells #[.int .i64 0, .bool false, .int .i64 s, .int .i64 (k1 : Int), .int .i64 (m : Int)] 53)).trans (hb1.mono (by simp; omega)))
   have L1 := hide (((BF.new w #[.slice (some ⟨b, off, none⟩) L cap] 26).alloc (.cells #[.int .i64 0, .bool false, .int .i64 s, .int .i64 (k1 : Int), .int .i64 (m : Int)] 53)).below hb1)
   have P1 := hide ((BF.new (w.alloc (.cells #[.slice (some ⟨b, off, none⟩) L cap] 26)) #[.int .i64 0, .bool false, .int .i64 s, .int .i64 (k1 : Int), .int .i64 (m : Int)] 53).below hb1)
   rw [show (w.alloc (.cells #[.slice (some ⟨b, off, none⟩) L cap] 26)).heap.size = w.heap.size + 1 from by simp] at P1
   clear hb1 y0 y1 y2 y3 y4
   have c1 := (unhide L1).S
   have d1 := (unhide P1).S
   go_wp2_with fail
   refine (unhide T1 _ ((unhide HR).below (unhide HB1))).mono ?_
   rw [← unhide HN1]
   rintro e w2 ⟨a2, cap2, rfl, ho2, hb2⟩
   obtain ⟨g2, rfl⟩ := own_at ho2 b1.1
   have HB2 := hide ((unhide HB1).trans (hb2.mono (unhide HB1).size))
   have L2 := hide ((unhide L1).below hb2)
   have P2 := hide ((unhide P1).below hb2)
   have HO2 := hide ho2
   clear ho2 hb2 c1 d1
   have c1 := (unhide L2).S
   have d1 := (unhide P2).S
   go_wp2_with fail
   refine (unhide T2 _ ((unhide HR).below (unhide HB2))).mono ?_
   rw [← unhide HN2]
   rintro e w3 ⟨a3, cap3, rfl, ho3, hb3⟩
   obtain ⟨g3, rfl⟩ := own_at ho3 b2.1
   have HB3 := hide ((unhide HB2).trans (hb3.mono (unhide HB2).size))
   have hown := ((heldZ_of (unhide HO2)).below hb3 (Nat.le_refl _)).own
   have HNW := hide (fun j u (hu : (cAr A2)[j]? = some u) => World.ownsRow.cells ho3 rfl j u hu)
   have HZ1 : Hid (w1.heap.size ≤ w3.heap.size) := Nat.le_trans (Nat.le_of_lt ((unhide HO2).lt g2 rfl).2 |> fun h => Nat.le_trans ((unhide HO2).lt g2 rfl).1 h) hb3.size
   clear ho3 hb3 c1 d1
   go_wp2_with (at_builtin; refine wpList_append_lies _ rfl (.tmp 66) (.tmp 76) 28 rfl w1.heap.size 32 i0 (.agg #[.int .i64 0, .int .i64 0, .int .i64 0, .int .i64 0, .int .i64 0]) 5 40 Tryd.underlying28 hi hz0 hz1 hz2 rfl (by decide) _ _ _ rfl hown ⟨g3, 0, none⟩ n2 cap3 (cAr A2) rfl (by rw [cAr_len, ← unhide HN2]) (unhide HNW) (cAr_one _) b2.1 (by unfold maxLen; omega) (by omega) (unhide HZ1) _ rfl ?_; intro g4 c4 w4 hown4 hgrow4 hat4 hlt4)
   rw [← cAr_app] at hown4
   have HG4 := hide ((unhide HB3).grown hgrow4 (unhide HB3).size (fun k hk => Nat.le_trans (unhide HB1).size (hown.lt k hk).1))
   have HO4 := hide hown4
   clear hown hown4 hgrow4 hat4 hlt4
   go_wp2_with fail
   go_ret
   have e12 : (A1 ++ A2).length = n1 + n2 := by rw [unhide HN1, unhide HN2]; simp
   rw [e12]
   exact ⟨_, _, rfl, Go.Joins.ownsRow_le (unhide HO4) (unhide HB1).size, unhide HG4⟩
  ·obtain ⟨A1, hA1⟩ : ∃ A1, A1 = l1.areas x y W s := ⟨_, rfl⟩
   obtain ⟨A2, hA2⟩ : ∃ A2, A2 = l2.areas x (y + s) W (H - s) := ⟨_, rfl⟩
   rw [← hA1, ← hA2] at hA
   obtain ⟨n1, hn1⟩ : ∃ n1, n1 = A1.length := ⟨_, rfl⟩
   obtain ⟨n2, hn2⟩ : ∃ n2, n2 = A2.length := ⟨_, rfl⟩
   have b1 : 0 < n1 ∧ n1 ≤ 1000 := by rw [hn1, hA1, areas_len]; have := panes_pos l1; have := panes_len l1; omega
   have b2 : 0 < n2 ∧ n2 ≤ 1000 := by rw [hn2, hA2, areas_len]; have := panes_pos l2; have := panes_len l2; omega
   have HN1 := hide hn1
   have HN2 := hide hn2
   clear hn1 hn2
   subst hA
   obtain ⟨Z, hZ⟩ : ∃ Z : Int, Z = H - s := ⟨_, rfl⟩
   have HZ := hide hZ
   have TP := hide (sparts ⟨0, true, s, (k1 : Int), (m : Int)⟩ W H (by omega) (by omega))
   simp only [if_true] at TP
   rw [szC_id hs, ← hZ] at TP
   obtain ⟨q, hq⟩ : ∃ q : Int, q = y + s := ⟨_, rfl⟩
   have HQ := hide hq
   have T2 := hide (fun w0 (h0 : RowV w0 (some ⟨b, off, none⟩) (cPt l)) => ihr m x q W Z A2 w0 (by rw [hA2, hq, hZ]) hS2 h0 (by rw [hZ]; exact hfr) (by omega) (by omega) (by omega) (by omega) (by omega) (by omega) (by omega))
   have T1 := hide (fun w0 (h0 : RowV w0 (some ⟨b, off, none⟩) (cPt l)) => ihl k1 x y W s A1 w0 hA1 hS1 h0 hfl (by omega) (by omega) (by omega) (by omega) (by omega) (by omega) (by omega))
   have a1 : y + s = q := by omega
   have hq9 : q ≤ 1000 := by omega
   have hq8 : 0 ≤ q := by omega
   clear hZ hq ihl ihr hA1 hA2 hS1 hS2 hfl hfr hcnt
   go_enter Tryd.func16, Tryd.ntmps16
   go_wp2_with fail
   refine (unhide TP _).mono ?_
   rintro e w1 ⟨rfl, hb1⟩
   have HB1 := hide ((Go.Joins.below_alloc2 w (.cells #[.slice (some ⟨b, off, none⟩) L cap] 26) (.cells #[.int .i64 0, .bool true, .int .i64 s, .int .i64 (k1 : Int), .int .i64 (m : Int)] 53)).trans (hb1.mono (by simp; omega)))
   have L1 := hide (((BF.new w #[.slice (some ⟨b, off, none⟩) L cap] 26).alloc (.cells #[.int .i64 0, .bool true, .int .i64 s, .int .i64 (k1 : Int), .int .i64 (m : Int)] 53)).below hb1)
   have P1 := hide ((BF.new (w.alloc (.cells #[.slice (some ⟨b, off, none⟩) L cap] 26)) #[.int .i64 0, .bool true, .int .i64 s, .int .i64 (k1 : Int), .int .i64 (m : Int)] 53).below hb1)
   rw [show (w.alloc (.cells #[.slice (some ⟨b, off, none⟩) L cap] 26)).heap.size = w.heap.size + 1 from by simp] at P1
   clear hb1 y0 y1 y2 y3 y4
   have c1 := (unhide L1).S
   have d1 := (unhide P1).S
   go_wp2_with fail
   refine (unhide T1 _ ((unhide HR).below (unhide HB1))).mono ?_
   rw [← unhide HN1]
   rintro e w2 ⟨a2, cap2, rfl, ho2, hb2⟩
   obtain ⟨g2, rfl⟩ := own_at ho2 b1.1
   have HB2 := hide ((unhide HB1).trans (hb2.mono (unhide HB1).size))
   have L2 := hide ((unhide L1).below hb2)
   have P2 := hide ((unhide P1).below hb2)
   have HO2 := hide ho2
   clear ho2 hb2 c1 d1
   have c1 := (unhide L2).S
   have d1 := (unhide P2).S
   go_wp2_with fail
   refine (unhide T2 _ ((unhide HR).below (unhide HB2))).mono ?_
   rw [← unhide HN2]
   rintro e w3 ⟨a3, cap3, rfl, ho3, hb3⟩
   obtain ⟨g3, rfl⟩ := own_at ho3 b2.1
   have HB3 := hide ((unhide HB2).trans (hb3.mono (unhide HB2).size))
   have hown := ((heldZ_of (unhide HO2)).below hb3 (Nat.le_refl _)).own
   have HNW := hide (fun j u (hu : (cAr A2)[j]? = some u) => World.ownsRow.cells ho3 rfl j u hu)
   have HZ1 : Hid (w1.heap.size ≤ w3.heap.size) := Nat.le_trans (Nat.le_of_lt ((unhide HO2).lt g2 rfl).2 |> fun h => Nat.le_trans ((unhide HO2).lt g2 rfl).1 h) hb3.size
   clear ho3 hb3 c1 d1
   go_wp2_with (at_builtin; refine wpList_append_lies _ rfl (.tmp 54) (.tmp 64) 28 rfl w1.heap.size 32 i0 (.agg #[.int .i64 0, .int .i64 0, .int .i64 0, .int .i64 0, .int .i64 0]) 5 40 Tryd.underlying28 hi hz0 hz1 hz2 rfl (by decide) _ _ _ rfl hown ⟨g3, 0, none⟩ n2 cap3 (cAr A2) rfl (by rw [cAr_len, ← unhide HN2]) (unhide HNW) (cAr_one _) b2.1 (by unfold maxLen; omega) (by omega) (unhide HZ1) _ rfl ?_; intro g4 c4 w4 hown4 hgrow4 hat4 hlt4)
   rw [← cAr_app] at hown4
   have HG4 := hide ((unhide HB3).grown hgrow4 (unhide HB3).size (fun k hk => Nat.le_trans (unhide HB1).size (hown.lt k hk).1))
   have HO4 := hide hown4
   clear hown hown4 hgrow4 hat4 hlt4
   go_wp2_with fail
   go_ret
   have e12 : (A1 ++ A2).length = n1 + n2 := by rw [unhide HN1, unhide HN2]; simp
   rw [e12]
   exact ⟨_, _, rfl, Go.Joins.ownsRow_le (unhide HO4) (unhide HB1).size, unhide HG4⟩
end Go.Proofs.YtgnecacoehedkaaDoor

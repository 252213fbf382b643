/- Rows of Pt (structs of 5 cells): the laws' own helpers over them. -/
import Derived.Test.YthbkpdlcegakfaaDoorPair
import Derived.Lib.SmallJoins
namespace Go.Proofs.YthbkpdlcegakfaaDoor
open Go.ChangeShapes Go.WideShapes Go.ChangeAt Go.RowKit
structure Pt where
  pane : Int
  rows : Bool
  size : Int
  left : Int
  right : Int
def cPt1 (p : Pt) : List Value := [.int .i64 p.pane, .bool p.rows, .int .i64 p.size, .int .i64 p.left, .int .i64 p.right]
def cPt (l : List Pt) : List Value := l.flatMap cPt1
theorem cPt_cons (p : Pt) (l : List Pt) : cPt (p :: l) = .int .i64 p.pane :: .bool p.rows :: .int .i64 p.size :: .int .i64 p.left :: .int .i64 p.right :: cPt l := rfl
theorem cPt_len (l : List Pt) : (cPt l).length = l.length * 5 := by
  induction l with
  | nil => rfl
  | cons c l ih => rw [cPt_cons]; simp [ih]; omega
theorem cPt_app (l m : List Pt) : cPt (l ++ m) = cPt l ++ cPt m := by simp [cPt]
theorem cPt_one (l : List Pt) : ∀ u ∈ cPt l, u.oneCell' = true := by
  intro u hu
  simp only [cPt, List.mem_flatMap] at hu
  obtain ⟨p, -, hu⟩ := hu
  simp only [cPt1, List.mem_cons, List.not_mem_nil, or_false] at hu
  rcases hu with rfl | rfl | rfl | rfl | rfl <;> rfl
theorem cPt_at (l : List Pt) : ∀ (k : Nat) (h : k < l.length), (cPt l)[k * 5]? = some (.int .i64 l[k].pane) ∧ (cPt l)[k * 5 + 1]? = some (.bool l[k].rows) ∧ (cPt l)[k * 5 + 2]? = some (.int .i64 l[k].size) ∧ (cPt l)[k * 5 + 3]? = some (.int .i64 l[k].left) ∧ (cPt l)[k * 5 + 4]? = some (.int .i64 l[k].right) := by
  induction l with
  | nil => intro k h; simp at h
  | cons c l ih =>
    intro k h
    cases k with
    | zero => exact ⟨rfl, rfl, rfl, rfl, rfl⟩
    | succ k =>
      have := ih k (by simpa using h)
      rw [cPt_cons, show (k + 1) * 5 = k * 5 + 1 + 1 + 1 + 1 + 1 from by omega]
      simpa using this
theorem cPt_inj : ∀ (l m : List Pt), cPt l = cPt m → l = m := by
  intro l
  induction l with
  | nil => intro m h; cases m with
    | nil => rfl
    | cons c m => rw [cPt_cons] at h; cases h
  | cons c l ih => intro m h; cases m with
    | nil => rw [cPt_cons] at h; cases h
    | cons d m =>
      rw [cPt_cons, cPt_cons] at h
      injection h with h0 h
      injection h with h1 h
      injection h with h2 h
      injection h with h3 h
      injection h with h4 h
      rw [ih m h]
      cases c; cases d; simp_all
theorem rowPt {w : World} {b off : Nat} {l : List Pt} (hc : ∀ i u, (cPt l)[i]? = some u → w.cell? ⟨b, off + i, none⟩ = some u) (k : Nat) (h : k < l.length) :
    w.cell? ⟨b, off + k * 5, none⟩ = some (.int .i64 l[k].pane) ∧ w.cell? ⟨b, off + k * 5 + 1, none⟩ = some (.bool l[k].rows) ∧ w.cell? ⟨b, off + k * 5 + 2, none⟩ = some (.int .i64 l[k].size) ∧ w.cell? ⟨b, off + k * 5 + 3, none⟩ = some (.int .i64 l[k].left) ∧ w.cell? ⟨b, off + k * 5 + 4, none⟩ = some (.int .i64 l[k].right) := by
  obtain ⟨h0, h1, h2, h3, h4⟩ := cPt_at l k h
  exact ⟨hc _ _ h0, hc _ _ h1, hc _ _ h2, hc _ _ h3, hc _ _ h4⟩
theorem Tryd.infL49 : (Tryd.prog.info? 49).map (fun i => (i.zero, i.size, i.bytes)) = some (some (.agg #[.int .i64 0, .bool false, .int .i64 0, .int .i64 0, .int .i64 0]), 5, 40) := by kernel_rfl

set_option maxHeartbeats 400000 in
set_option maxRecDepth 100000 in
theorem eqPart1 (p : Pt) (w : World) : Calls Tryd.prog 29 #[.agg #[.int .i64 p.pane, .bool p.rows, .int .i64 p.size, .int .i64 p.left, .int .i64 p.right], .agg #[.int .i64 p.pane, .bool p.rows, .int .i64 p.size, .int .i64 p.left, .int .i64 p.right]] w fun e w' => e = .returned (.bool true) ∧ Below w.heap.size w w' := by
  have n0 : (p.pane != p.pane) = false := by simp
  have n1 : (p.rows != p.rows) = false := by simp
  have n2 : (p.size != p.size) = false := by simp
  have n3 : (p.left != p.left) = false := by simp
  have n4 : (p.right != p.right) = false := by simp
  have hb0 := Go.Joins.below_alloc2 w (Obj.cells #[.int .i64 p.pane, .bool p.rows, .int .i64 p.size, .int .i64 p.left, .int .i64 p.right] 49) (Obj.cells #[.int .i64 p.pane, .bool p.rows, .int .i64 p.size, .int .i64 p.left, .int .i64 p.right] 49)
  have HB := hide hb0
  clear hb0
  go_enter Tryd.func29, Tryd.ntmps29
  go_wp2_with fail
  go_ret
  exact ⟨rfl, unhide HB⟩

set_option maxHeartbeats 800000 in
set_option maxRecDepth 100000 in
theorem samePart (a c : Option Addr) (cap cap2 : Nat) (l : List Pt) (hl : l.length ≤ 1048576) (w : World) (hr : RowV w a (cPt l)) (hr2 : RowV w c (cPt l)) :
    Calls Tryd.prog 16 #[.slice a l.length cap, .slice c l.length cap2] w fun e w' => e = .returned (.bool true) ∧ Below w.heap.size w w' := by
  have HR := hide hr
  have HR2 := hide hr2
  have HCL := hide (cPt_len l)
  clear hr hr2
  have hne : ((l.length : Int) != (l.length : Int)) = false := by simp
  go_enter Tryd.func16, Tryd.ntmps16
  go_wp2_with fail
  go_loopw [5] (fun i wr => ∃ k : Nat, k ≤ l.length ∧ i = .int .i64 k ∧ Below w.heap.size w wr) (fun i _ => l.length - (intOf i).toNat)
  case atStart => exact ⟨0, by omega, rfl, Below.refl _ _⟩
  case round =>
    obtain ⟨k, hk, rfl, hb⟩ := hrel
    by_cases hlt : k < l.length
    · obtain ⟨b, off, ha, hblt, hc⟩ := (unhide HR).at (by rw [unhide HCL]; omega)
      obtain ⟨b2, off2, ha2, hblt2, hc2⟩ := (unhide HR2).at (by rw [unhide HCL]; omega)
      subst ha ha2
      obtain ⟨x0, x1, x2, x3, x4⟩ := rowPt hc k hlt
      obtain ⟨y0, y1, y2, y3, y4⟩ := rowPt hc2 k hlt
      obtain ⟨p, ep⟩ : ∃ p, p = l[k] := ⟨_, rfl⟩
      rw [← ep] at x0 x1 x2 x3 x4 y0 y1 y2 y3 y4
      have hx0 : wr.cell? ⟨b, off + k * 5, none⟩ = some (.int .i64 p.pane) := (hb.cell (p := ⟨b, off + k * 5, none⟩) hblt).trans x0
      have hx1 : wr.cell? ⟨b, off + k * 5 + 1, none⟩ = some (.bool p.rows) := (hb.cell (p := ⟨b, off + k * 5 + 1, none⟩) hblt).trans x1
      have hx2 : wr.cell? ⟨b, off + k * 5 + 2, none⟩ = some (.int .i64 p.size) := (hb.cell (p := ⟨b, off + k * 5 + 2, none⟩) hblt).trans x2
      have hx3 : wr.cell? ⟨b, off + k * 5 + 3, none⟩ = some (.int .i64 p.left) := (hb.cell (p := ⟨b, off + k * 5 + 3, none⟩) hblt).trans x3
      have hx4 : wr.cell? ⟨b, off + k * 5 + 4, none⟩ = some (.int .i64 p.right) := (hb.cell (p := ⟨b, off + k * 5 + 4, none⟩) hblt).trans x4
      have hy0 : wr.cell? ⟨b2, off2 + k * 5, none⟩ = some (.int .i64 p.pane) := (hb.cell (p := ⟨b2, off2 + k * 5, none⟩) hblt2).trans y0
      have hy1 : wr.cell? ⟨b2, off2 + k * 5 + 1, none⟩ = some (.bool p.rows) := (hb.cell (p := ⟨b2, off2 + k * 5 + 1, none⟩) hblt2).trans y1
      have hy2 : wr.cell? ⟨b2, off2 + k * 5 + 2, none⟩ = some (.int .i64 p.size) := (hb.cell (p := ⟨b2, off2 + k * 5 + 2, none⟩) hblt2).trans y2
      have hy3 : wr.cell? ⟨b2, off2 + k * 5 + 3, none⟩ = some (.int .i64 p.left) := (hb.cell (p := ⟨b2, off2 + k * 5 + 3, none⟩) hblt2).trans y3
      have hy4 : wr.cell? ⟨b2, off2 + k * 5 + 4, none⟩ = some (.int .i64 p.right) := (hb.cell (p := ⟨b2, off2 + k * 5 + 4, none⟩) hblt2).trans y4
      have hlt' : (k : Int) < (l.length : Int) := by omega
      have hlt0 : (0 : Int) ≤ (k : Int) := by omega
      have HB := hide hb
      clear hc hc2 HR HR2 HCL x0 x1 x2 x3 x4 y0 y1 y2 y3 y4 ep hb
      have hbw : b < wr.heap.size := Nat.lt_of_lt_of_le hblt (unhide HB).size
      have hbw2 : b2 < wr.heap.size := Nat.lt_of_lt_of_le hblt2 (unhide HB).size
      go_wp2_with fail
      go_region_held3 (fun w' => w'.cell? ⟨b, off + k * 5, none⟩ = some (.int .i64 p.pane) ∧ w'.cell? ⟨b, off + k * 5 + 1, none⟩ = some (.bool p.rows) ∧ w'.cell? ⟨b, off + k * 5 + 2, none⟩ = some (.int .i64 p.size) ∧ w'.cell? ⟨b, off + k * 5 + 3, none⟩ = some (.int .i64 p.left) ∧ w'.cell? ⟨b, off + k * 5 + 4, none⟩ = some (.int .i64 p.right) ∧ w'.cell? ⟨b2, off2 + k * 5, none⟩ = some (.int .i64 p.pane) ∧ w'.cell? ⟨b2, off2 + k * 5 + 1, none⟩ = some (.bool p.rows) ∧ w'.cell? ⟨b2, off2 + k * 5 + 2, none⟩ = some (.int .i64 p.size) ∧ w'.cell? ⟨b2, off2 + k * 5 + 3, none⟩ = some (.int .i64 p.left) ∧ w'.cell? ⟨b2, off2 + k * 5 + 4, none⟩ = some (.int .i64 p.right)) (first | exact ⟨hx0, hx1, hx2, hx3, hx4, hy0, hy1, hy2, hy3, hy4⟩ | exact hs2) (first | (go_at_call 29; refine (eqPart1 p _).mono ?_; rintro e w2 ⟨rfl, hb2⟩; have hs2 : w2.cell? ⟨b, off + k * 5, none⟩ = some (.int .i64 p.pane) ∧ w2.cell? ⟨b, off + k * 5 + 1, none⟩ = some (.bool p.rows) ∧ w2.cell? ⟨b, off + k * 5 + 2, none⟩ = some (.int .i64 p.size) ∧ w2.cell? ⟨b, off + k * 5 + 3, none⟩ = some (.int .i64 p.left) ∧ w2.cell? ⟨b, off + k * 5 + 4, none⟩ = some (.int .i64 p.right) ∧ w2.cell? ⟨b2, off2 + k * 5, none⟩ = some (.int .i64 p.pane) ∧ w2.cell? ⟨b2, off2 + k * 5 + 1, none⟩ = some (.bool p.rows) ∧ w2.cell? ⟨b2, off2 + k * 5 + 2, none⟩ = some (.int .i64 p.size) ∧ w2.cell? ⟨b2, off2 + k * 5 + 3, none⟩ = some (.int .i64 p.left) ∧ w2.cell? ⟨b2, off2 + k * 5 + 4, none⟩ = some (.int .i64 p.right) := ⟨((below_undrew hb2).cell (p := ⟨b, off + k * 5, none⟩) hbw).trans hx0, ((below_undrew hb2).cell (p := ⟨b, off + k * 5 + 1, none⟩) hbw).trans hx1, ((below_undrew hb2).cell (p := ⟨b, off + k * 5 + 2, none⟩) hbw).trans hx2, ((below_undrew hb2).cell (p := ⟨b, off + k * 5 + 3, none⟩) hbw).trans hx3, ((below_undrew hb2).cell (p := ⟨b, off + k * 5 + 4, none⟩) hbw).trans hx4, ((below_undrew hb2).cell (p := ⟨b2, off2 + k * 5, none⟩) hbw2).trans hy0, ((below_undrew hb2).cell (p := ⟨b2, off2 + k * 5 + 1, none⟩) hbw2).trans hy1, ((below_undrew hb2).cell (p := ⟨b2, off2 + k * 5 + 2, none⟩) hbw2).trans hy2, ((below_undrew hb2).cell (p := ⟨b2, off2 + k * 5 + 3, none⟩) hbw2).trans hy3, ((below_undrew hb2).cell (p := ⟨b2, off2 + k * 5 + 4, none⟩) hbw2).trans hy4⟩; have HB2 := hide ((unhide HB).trans ((below_undrew hb2).mono (unhide HB).size)); clear hb2))
      go_wp2_with fail
      go_roundw
      case rel => exact ⟨k + 1, by omega, by go_num, unhide HB2⟩
      case measure => simp [intOf]; omega
    · go_wp2_with fail
      go_ret
      exact ⟨rfl, hb⟩

theorem made_Part (n : Nat) : (madeCells #[.int .i64 0, .bool false, .int .i64 0, .int .i64 0, .int .i64 0] (n * 5)).toList = cPt (List.replicate n ⟨0, false, 0, 0, 0⟩) := by
  induction n with
  | zero => simp [madeCells, cPt]
  | succ m ih =>
    rw [List.replicate_succ', cPt_app, ← ih]
    apply List.ext_getElem?
    intro j
    by_cases hj : j < m * 5
    · rw [List.getElem?_append_left (by simp [madeCells]; omega)]
      simp [madeCells, hj, show j < (m + 1) * 5 from by omega]
    · rw [List.getElem?_append_right (by simp [madeCells]; omega)]
      have hl : (madeCells #[.int .i64 0, .bool false, .int .i64 0, .int .i64 0, .int .i64 0] (m * 5)).toList.length = m * 5 := by simp [madeCells]
      rw [hl]
      by_cases h2 : j < (m + 1) * 5
      · obtain ⟨r, hr, rfl⟩ : ∃ r, r < 5 ∧ j = m * 5 + r := ⟨j - m * 5, by omega, by omega⟩
        have e1 : (m * 5 + r) % 5 = r := by omega
        have e2 : m * 5 + r - m * 5 = r := by omega
        rw [e2]
        simp only [madeCells, Array.toList_map, Array.toList_range, List.getElem?_map, List.getElem?_range h2, Option.map_some, List.size_toArray, List.length_cons, List.length_nil, Nat.zero_add, Nat.reduceAdd, e1]
        rcases r with _ | _ | _ | _ | _ | r <;> first | rfl | omega
      · rw [List.getElem?_eq_none (by simp [madeCells]; omega), List.getElem?_eq_none (by simp [cPt, cPt1]; omega)]
/-- A made row of zeros whose first k elements have been filled from l. -/
def fillPt (l : List Pt) (k : Nat) : List Pt := l.take k ++ List.replicate (l.length - k) ⟨0, false, 0, 0, 0⟩
theorem fillPt_len (l : List Pt) (k : Nat) (h : k ≤ l.length) : (fillPt l k).length = l.length := by unfold fillPt; simp; omega
theorem fillPt_zero (l : List Pt) : cPt (fillPt l 0) = (madeCells #[.int .i64 0, .bool false, .int .i64 0, .int .i64 0, .int .i64 0] (l.length * 5)).toList := by rw [made_Part]; simp [fillPt]
theorem fillPt_all (l : List Pt) : fillPt l l.length = l := by simp [fillPt]
theorem fillPt_set (l : List Pt) (k : Nat) (h : k < l.length) : (fillPt l k).set k l[k] = fillPt l (k + 1) := by
  have e1 : (l.take k).length = k := by rw [List.length_take]; omega
  unfold fillPt
  rw [List.set_append_right _ _ (by omega), e1, Nat.sub_self, List.take_succ_eq_append_getElem h]
  obtain ⟨m, hm⟩ : ∃ m, l.length - k = m + 1 := ⟨l.length - k - 1, by omega⟩
  rw [hm, show l.length - (k + 1) = m from by omega, List.replicate_succ, List.set_cons_zero, List.append_assoc]
  rfl
theorem cPt_set (l : List Pt) : ∀ (k : Nat) (q : Pt), (((((cPt l).set (k * 5) (.int .i64 q.pane)).set (k * 5 + 1) (.bool q.rows)).set (k * 5 + 2) (.int .i64 q.size)).set (k * 5 + 3) (.int .i64 q.left)).set (k * 5 + 4) (.int .i64 q.right) = cPt (l.set k q) := by
  induction l with
  | nil => intro k q; simp [cPt]
  | cons c l ih =>
    intro k q
    cases k with
    | zero => rfl
    | succ k =>
      have := ih k q
      rw [List.set_cons_succ, cPt_cons, cPt_cons, show (k + 1) * 5 = k * 5 + 1 + 1 + 1 + 1 + 1 from by omega]
      simp only [List.set_cons_succ, Nat.add_assoc] at this ⊢
      rw [← this]

set_option maxHeartbeats 400000 in
set_option maxRecDepth 100000 in
theorem toPart1 (p : Pt) (w : World) : Calls Tryd.prog 21 #[.agg #[.int .i64 p.pane, .bool p.rows, .int .i64 p.size, .int .i64 p.left, .int .i64 p.right]] w fun e w' => e = .returned (.agg #[.int .i64 p.pane, .bool p.rows, .int .i64 p.size, .int .i64 p.left, .int .i64 p.right]) ∧ Below w.heap.size w w' := by
  go_enter Tryd.func21, Tryd.ntmps21
  go_wp2_with fail
  refine bodyPost_ret (v := .agg #[.int .i64 p.pane, .bool p.rows, .int .i64 p.size, .int .i64 p.left, .int .i64 p.right]) (by simp [results, Tryd.results21, go_sem]) rfl ⟨rfl, ?_⟩
  exact Go.Joins.below_alloc3 w _ _ _

set_option maxHeartbeats 800000 in
set_option maxRecDepth 100000 in
theorem copyPart (a : Option Addr) (cap : Nat) (l : List Pt) (hl : l.length ≤ 1048576) (w : World) (hr : RowV w a (cPt l)) :
    Calls Tryd.prog 13 #[.slice a l.length cap] w fun e w' => e = .returned (.slice (some ⟨w.heap.size, 0, none⟩) l.length l.length) ∧
      w'.ownsRow w.heap.size 49 5 (.slice (some ⟨w.heap.size, 0, none⟩) l.length l.length) l.length (cPt l) ∧ Below w.heap.size w w' := by
  obtain ⟨i0, hi, hz0, hz1, hz2⟩ := info_parts Tryd.infL49
  go_enter Tryd.func13, Tryd.ntmps13
  go_wp2_with (at_make; refine wpList_make_full _ rfl _ _ 28 rfl w.heap.size 49 i0 (.agg #[.int .i64 0, .bool false, .int .i64 0, .int .i64 0, .int .i64 0]) 5 Tryd.underlying28 hi hz0 hz1 .i64 .i64 _ _ l.length rfl rfl rfl rfl (by rw [hz2]; omega) (by unfold maxLen; omega) (Nat.le_refl _) ?_; intro w1 hown hgrow)
  rw [show (Value.agg #[.int .i64 0, .bool false, .int .i64 0, .int .i64 0, .int .i64 0]).cells = #[.int .i64 0, .bool false, .int .i64 0, .int .i64 0, .int .i64 0] from rfl, ← fillPt_zero] at hown
  have hb1 := (Below.refl w.heap.size w).grown hgrow (Nat.le_refl _) (fun k hk => by cases hk)
  clear hgrow
  have HR := hide hr
  have HCL := hide (cPt_len l)
  clear hr
  go_loopw [4] (fun i wr => ∃ k : Nat, k ≤ l.length ∧ i = .int .i64 k ∧ Hid (wr.ownsRow w.heap.size 49 5 (.slice (some ⟨w.heap.size, 0, none⟩) l.length l.length) l.length (cPt (fillPt l k))) ∧ Hid (Below w.heap.size w wr)) (fun i _ => l.length - (intOf i).toNat)
  case atStart => exact ⟨0, by omega, rfl, hown, hb1⟩
  case round =>
    clear hown hb1
    obtain ⟨k, hk, rfl, HO, HB⟩ := hrel
    by_cases hlt : k < l.length
    · obtain ⟨b, off, ha, hblt, hc⟩ := (unhide HR).at (by rw [unhide HCL]; omega)
      subst ha
      obtain ⟨x0, x1, x2, x3, x4⟩ := rowPt hc k hlt
      obtain ⟨p, ep⟩ : ∃ p, p = l[k] := ⟨_, rfl⟩
      have hkl : k < (fillPt l k).length := by rw [fillPt_len l k hk]; exact hlt
      obtain ⟨z, ez⟩ : ∃ z, z = (fillPt l k)[k] := ⟨_, rfl⟩
      have HU := hide (cPt_at (fillPt l k) k hkl)
      rw [← ez] at HU
      have HS : Hid (cPt ((fillPt l k).set k p) = cPt (fillPt l (k + 1))) := by show _ = _; rw [ep, fillPt_set l k hlt]
      rw [← cPt_set] at HS
      rw [← ep] at x0 x1 x2 x3 x4
      have hx0 : wr.cell? ⟨b, off + k * 5, none⟩ = some (.int .i64 p.pane) := ((unhide HB).cell (p := ⟨b, off + k * 5, none⟩) hblt).trans x0
      have hx1 : wr.cell? ⟨b, off + k * 5 + 1, none⟩ = some (.bool p.rows) := ((unhide HB).cell (p := ⟨b, off + k * 5 + 1, none⟩) hblt).trans x1
      have hx2 : wr.cell? ⟨b, off + k * 5 + 2, none⟩ = some (.int .i64 p.size) := ((unhide HB).cell (p := ⟨b, off + k * 5 + 2, none⟩) hblt).trans x2
      have hx3 : wr.cell? ⟨b, off + k * 5 + 3, none⟩ = some (.int .i64 p.left) := ((unhide HB).cell (p := ⟨b, off + k * 5 + 3, none⟩) hblt).trans x3
      have hx4 : wr.cell? ⟨b, off + k * 5 + 4, none⟩ = some (.int .i64 p.right) := ((unhide HB).cell (p := ⟨b, off + k * 5 + 4, none⟩) hblt).trans x4
      have hlt' : (k : Int) < (l.length : Int) := by omega
      have hlt0 : (0 : Int) ≤ (k : Int) := by omega
      clear hc HR HCL x0 x1 x2 x3 x4 ep ez hkl
      have hz := (unhide HB).size
      have HZ := hide hz
      clear hz
      go_wp2_with (go_at_call 21; refine (toPart1 p _).mono ?_; rintro e w2 ⟨rfl, hb2⟩; have H2 := ((heldZ_of (unhide HO)).below hb2 (Nat.le_refl _)).own; obtain ⟨hu0, hu1, hu2, hu3, hu4⟩ := unhide HU; have c0 : w2.cell? ⟨w.heap.size, k * 5, none⟩ = some (.int .i64 z.pane) := (H2.cellAt (k * 5) (by omega)).trans hu0; have c1 : w2.cell? ⟨w.heap.size, k * 5 + 1, none⟩ = some (.bool z.rows) := (H2.cellAt (k * 5 + 1) (by omega)).trans hu1; have c2 : w2.cell? ⟨w.heap.size, k * 5 + 2, none⟩ = some (.int .i64 z.size) := (H2.cellAt (k * 5 + 2) (by omega)).trans hu2; have c3 : w2.cell? ⟨w.heap.size, k * 5 + 3, none⟩ = some (.int .i64 z.left) := (H2.cellAt (k * 5 + 3) (by omega)).trans hu3; have c4 : w2.cell? ⟨w.heap.size, k * 5 + 4, none⟩ = some (.int .i64 z.right) := (H2.cellAt (k * 5 + 4) (by omega)).trans hu4; have f0 := H2.frozenAt (k * 5); have f1 := H2.frozenAt (k * 5 + 1); have f2 := H2.frozenAt (k * 5 + 2); have f3 := H2.frozenAt (k * 5 + 3); have f4 := H2.frozenAt (k * 5 + 4); have R := (((((H2.stored (k * 5) (.int .i64 p.pane)).1.stored (k * 5 + 1) (.bool p.rows)).1.stored (k * 5 + 2) (.int .i64 p.size)).1.stored (k * 5 + 3) (.int .i64 p.left)).1.stored (k * 5 + 4) (.int .i64 p.right)).1; rw [unhide HS] at R; have HR1 := hide R; have HB2 := hide (((((((unhide HB).trans (hb2.mono (unhide HZ))).setCell (p := ⟨w.heap.size, k * 5, none⟩) (Nat.le_refl _) (.int .i64 p.pane)).setCell (p := ⟨w.heap.size, k * 5 + 1, none⟩) (Nat.le_refl _) (.bool p.rows)).setCell (p := ⟨w.heap.size, k * 5 + 2, none⟩) (Nat.le_refl _) (.int .i64 p.size)).setCell (p := ⟨w.heap.size, k * 5 + 3, none⟩) (Nat.le_refl _) (.int .i64 p.left)).setCell (p := ⟨w.heap.size, k * 5 + 4, none⟩) (Nat.le_refl _) (.int .i64 p.right)); clear R H2 hb2 hu0 hu1 hu2 hu3 hu4)
      go_roundw
      case rel => exact ⟨k + 1, by omega, by go_num, HR1, HB2⟩
      case measure => simp [intOf]; omega
    · have ho := unhide HO
      have ek : k = l.length := by omega
      rw [ek, fillPt_all] at ho
      go_wp2_with fail
      go_ret
      exact ⟨rfl, ho, unhide HB⟩
set_option maxHeartbeats 400000 in
set_option maxRecDepth 100000 in
theorem szPart (a : Option Addr) (cap n : Nat) (y : Nat) (hy : y ≤ 1048576) (hn : n ≤ maxLen) (w : World) :
    Calls Tryd.prog 9 #[.slice a n cap, .int .i64 (y : Int)] w fun e w' => ∃ x : Int, e = .returned (.int .i64 x) ∧ w' = w ∧ (x = -1 ∨ ∃ z : Nat, x = (z : Int) ∧ z ≤ y ∧ n ≤ 1048576) := by
  have hl2 : (n : Int) ≤ 9223372036854775807 := by unfold maxLen at hn; omega
  clear hn
  by_cases big : y < n
  · have b1 : (y : Int) - (n : Int) < 0 := by omega
    go_enter Tryd.func9, Tryd.ntmps9
    go_wp2_with fail
    go_ret
    exact ⟨_, rfl, rfl, .inl rfl⟩
  · go_enter Tryd.func9, Tryd.ntmps9
    go_wp2_with fail
    go_ret
    exact ⟨_, rfl, rfl, .inr ⟨y - n, by omega, by omega, by omega⟩⟩
theorem markV_past (xs : List Value) (f : Nat → Value) (j i : Nat) (h : j ≤ i) : (markV xs f j)[i]? = xs[i]? := by
  unfold markV
  rw [List.getElem?_append_right (by simp; omega)]; simp; congr 1; omega
end Go.Proofs.YthbkpdlcegakfaaDoor

/- Rows of Ar (structs of 5 cells): the laws' own helpers over them. -/
import Derived.Test.YtobcianljbfalaaPartL
import Derived.Lib.SmallJoins
namespace Go.Proofs.Ytobcianljbfalaa
open Go.ChangeShapes Go.WideShapes Go.ChangeAt Go.RowKit
structure Ar where
  pane : Int
  x : Int
  y : Int
  w : Int
  h : Int
def cAr1 (p : Ar) : List Value := [.int .i64 p.pane, .int .i64 p.x, .int .i64 p.y, .int .i64 p.w, .int .i64 p.h]
def cAr (l : List Ar) : List Value := l.flatMap cAr1
theorem cAr_cons (p : Ar) (l : List Ar) : cAr (p :: l) = .int .i64 p.pane :: .int .i64 p.x :: .int .i64 p.y :: .int .i64 p.w :: .int .i64 p.h :: cAr l := rfl
theorem cAr_len (l : List Ar) : (cAr l).length = l.length * 5 := by
  induction l with
  | nil => rfl
  | cons c l ih => rw [cAr_cons]; simp [ih]; omega
theorem cAr_app (l m : List Ar) : cAr (l ++ m) = cAr l ++ cAr m := by simp [cAr]
theorem cAr_one (l : List Ar) : ∀ u ∈ cAr l, u.oneCell' = true := by
  intro u hu
  simp only [cAr, List.mem_flatMap] at hu
  obtain ⟨p, -, hu⟩ := hu
  simp only [cAr1, List.mem_cons, List.not_mem_nil, or_false] at hu
  rcases hu with rfl | rfl | rfl | rfl | rfl <;> rfl
theorem cAr_at (l : List Ar) : ∀ (k : Nat) (h : k < l.length), (cAr l)[k * 5]? = some (.int .i64 l[k].pane) ∧ (cAr l)[k * 5 + 1]? = some (.int .i64 l[k].x) ∧ (cAr l)[k * 5 + 2]? = some (.int .i64 l[k].y) ∧ (cAr l)[k * 5 + 3]? = some (.int .i64 l[k].w) ∧ (cAr l)[k * 5 + 4]? = some (.int .i64 l[k].h) := by
  induction l with
  | nil => intro k h; simp at h
  | cons c l ih =>
    intro k h
    cases k with
    | zero => exact ⟨rfl, rfl, rfl, rfl, rfl⟩
    | succ k =>
      have := ih k (by simpa using h)
      rw [cAr_cons, show (k + 1) * 5 = k * 5 + 1 + 1 + 1 + 1 + 1 from by omega]
      simpa using this
theorem cAr_inj : ∀ (l m : List Ar), cAr l = cAr m → l = m := by
  intro l
  induction l with
  | nil => intro m h; cases m with
    | nil => rfl
    | cons c m => rw [cAr_cons] at h; cases h
  | cons c l ih => intro m h; cases m with
    | nil => rw [cAr_cons] at h; cases h
    | cons d m =>
      rw [cAr_cons, cAr_cons] at h
      injection h with h0 h
      injection h with h1 h
      injection h with h2 h
      injection h with h3 h
      injection h with h4 h
      rw [ih m h]
      cases c; cases d; simp_all
theorem rowAr {w : World} {b off : Nat} {l : List Ar} (hc : ∀ i u, (cAr l)[i]? = some u → w.cell? ⟨b, off + i, none⟩ = some u) (k : Nat) (h : k < l.length) :
    w.cell? ⟨b, off + k * 5, none⟩ = some (.int .i64 l[k].pane) ∧ w.cell? ⟨b, off + k * 5 + 1, none⟩ = some (.int .i64 l[k].x) ∧ w.cell? ⟨b, off + k * 5 + 2, none⟩ = some (.int .i64 l[k].y) ∧ w.cell? ⟨b, off + k * 5 + 3, none⟩ = some (.int .i64 l[k].w) ∧ w.cell? ⟨b, off + k * 5 + 4, none⟩ = some (.int .i64 l[k].h) := by
  obtain ⟨h0, h1, h2, h3, h4⟩ := cAr_at l k h
  exact ⟨hc _ _ h0, hc _ _ h1, hc _ _ h2, hc _ _ h3, hc _ _ h4⟩
theorem Try.infL46 : (Try.prog.info? 46).map (fun i => (i.zero, i.size, i.bytes)) = some (some (.agg #[.int .i64 0, .int .i64 0, .int .i64 0, .int .i64 0, .int .i64 0]), 5, 40) := by kernel_rfl

set_option maxHeartbeats 400000 in
set_option maxRecDepth 100000 in
theorem eqArea1 (p : Ar) (w : World) : Calls Try.prog 19 #[.agg #[.int .i64 p.pane, .int .i64 p.x, .int .i64 p.y, .int .i64 p.w, .int .i64 p.h], .agg #[.int .i64 p.pane, .int .i64 p.x, .int .i64 p.y, .int .i64 p.w, .int .i64 p.h]] w fun e w' => e = .returned (.bool true) ∧ Below w.heap.size w w' := by
  have n0 : (p.pane != p.pane) = false := by simp
  have n1 : (p.x != p.x) = false := by simp
  have n2 : (p.y != p.y) = false := by simp
  have n3 : (p.w != p.w) = false := by simp
  have n4 : (p.h != p.h) = false := by simp
  have hb0 := Go.Joins.below_alloc2 w (Obj.cells #[.int .i64 p.pane, .int .i64 p.x, .int .i64 p.y, .int .i64 p.w, .int .i64 p.h] 46) (Obj.cells #[.int .i64 p.pane, .int .i64 p.x, .int .i64 p.y, .int .i64 p.w, .int .i64 p.h] 46)
  have HB := hide hb0
  clear hb0
  go_enter Try.func19, Try.ntmps19
  go_wp2_with fail
  go_ret
  exact ⟨rfl, unhide HB⟩

set_option maxHeartbeats 800000 in
set_option maxRecDepth 100000 in
theorem sameArea (a c : Option Addr) (cap cap2 : Nat) (l : List Ar) (hl : l.length ≤ 1048576) (w : World) (hr : RowV w a (cAr l)) (hr2 : RowV w c (cAr l)) :
    Calls Try.prog 8 #[.slice a l.length cap, .slice c l.length cap2] w fun e w' => e = .returned (.bool true) ∧ Below w.heap.size w w' := by
  have HR := hide hr
  have HR2 := hide hr2
  have HCL := hide (cAr_len l)
  clear hr hr2
  have hne : ((l.length : Int) != (l.length : Int)) = false := by simp
  go_enter Try.func8, Try.ntmps8
  go_wp2_with fail
  go_loopw [5] (fun i wr => ∃ k : Nat, k ≤ l.length ∧ i = .int .i64 k ∧ Below w.heap.size w wr) (fun i _ => l.length - (intOf i).toNat)
  case atStart => exact ⟨0, by omega, rfl, Below.refl _ _⟩
  case round =>
    obtain ⟨k, hk, rfl, hb⟩ := hrel
    by_cases hlt : k < l.length
    · obtain ⟨b, off, ha, hblt, hc⟩ := (unhide HR).at (by rw [unhide HCL]; omega)
      obtain ⟨b2, off2, ha2, hblt2, hc2⟩ := (unhide HR2).at (by rw [unhide HCL]; omega)
      subst ha ha2
      obtain ⟨x0, x1, x2, x3, x4⟩ := rowAr hc k hlt
      obtain ⟨y0, y1, y2, y3, y4⟩ := rowAr hc2 k hlt
      obtain ⟨p, ep⟩ : ∃ p, p = l[k] := ⟨_, rfl⟩
      rw [← ep] at x0 x1 x2 x3 x4 y0 y1 y2 y3 y4
      have hx0 : wr.cell? ⟨b, off + k * 5, none⟩ = some (.int .i64 p.pane) := (hb.cell (p := ⟨b, off + k * 5, none⟩) hblt).trans x0
      have hx1 : wr.cell? ⟨b, off + k * 5 + 1, none⟩ = some (.int .i64 p.x) := (hb.cell (p := ⟨b, off + k * 5 + 1, none⟩) hblt).trans x1
      have hx2 : wr.cell? ⟨b, off + k * 5 + 2, none⟩ = some (.int .i64 p.y) := (hb.cell (p := ⟨b, off + k * 5 + 2, none⟩) hblt).trans x2
      have hx3 : wr.cell? ⟨b, off + k * 5 + 3, none⟩ = some (.int .i64 p.w) := (hb.cell (p := ⟨b, off + k * 5 + 3, none⟩) hblt).trans x3
      have hx4 : wr.cell? ⟨b, off + k * 5 + 4, none⟩ = some (.int .i64 p.h) := (hb.cell (p := ⟨b, off + k * 5 + 4, none⟩) hblt).trans x4
      have hy0 : wr.cell? ⟨b2, off2 + k * 5, none⟩ = some (.int .i64 p.pane) := (hb.cell (p := ⟨b2, off2 + k * 5, none⟩) hblt2).trans y0
      have hy1 : wr.cell? ⟨b2, off2 + k * 5 + 1, none⟩ = some (.int .i64 p.x) := (hb.cell (p := ⟨b2, off2 + k * 5 + 1, none⟩) hblt2).trans y1
      have hy2 : wr.cell? ⟨b2, off2 + k * 5 + 2, none⟩ = some (.int .i64 p.y) := (hb.cell (p := ⟨b2, off2 + k * 5 + 2, none⟩) hblt2).trans y2
      have hy3 : wr.cell? ⟨b2, off2 + k * 5 + 3, none⟩ = some (.int .i64 p.w) := (hb.cell (p := ⟨b2, off2 + k * 5 + 3, none⟩) hblt2).trans y3
      have hy4 : wr.cell? ⟨b2, off2 + k * 5 + 4, none⟩ = some (.int .i64 p.h) := (hb.cell (p := ⟨b2, off2 + k * 5 + 4, none⟩) hblt2).trans y4
      have hlt' : (k : Int) < (l.length : Int) := by omega
      have hlt0 : (0 : Int) ≤ (k : Int) := by omega
      have HB := hide hb
      clear hc hc2 HR HR2 HCL x0 x1 x2 x3 x4 y0 y1 y2 y3 y4 ep hb
      have hbw : b < wr.heap.size := Nat.lt_of_lt_of_le hblt (unhide HB).size
      have hbw2 : b2 < wr.heap.size := Nat.lt_of_lt_of_le hblt2 (unhide HB).size
      go_wp2_with fail
      go_region_held3 (fun w' => w'.cell? ⟨b, off + k * 5, none⟩ = some (.int .i64 p.pane) ∧ w'.cell? ⟨b, off + k * 5 + 1, none⟩ = some (.int .i64 p.x) ∧ w'.cell? ⟨b, off + k * 5 + 2, none⟩ = some (.int .i64 p.y) ∧ w'.cell? ⟨b, off + k * 5 + 3, none⟩ = some (.int .i64 p.w) ∧ w'.cell? ⟨b, off + k * 5 + 4, none⟩ = some (.int .i64 p.h) ∧ w'.cell? ⟨b2, off2 + k * 5, none⟩ = some (.int .i64 p.pane) ∧ w'.cell? ⟨b2, off2 + k * 5 + 1, none⟩ = some (.int .i64 p.x) ∧ w'.cell? ⟨b2, off2 + k * 5 + 2, none⟩ = some (.int .i64 p.y) ∧ w'.cell? ⟨b2, off2 + k * 5 + 3, none⟩ = some (.int .i64 p.w) ∧ w'.cell? ⟨b2, off2 + k * 5 + 4, none⟩ = some (.int .i64 p.h)) (first | exact ⟨hx0, hx1, hx2, hx3, hx4, hy0, hy1, hy2, hy3, hy4⟩ | exact hs2) (first | (go_at_call 19; refine (eqArea1 p _).mono ?_; rintro e w2 ⟨rfl, hb2⟩; have hs2 : w2.cell? ⟨b, off + k * 5, none⟩ = some (.int .i64 p.pane) ∧ w2.cell? ⟨b, off + k * 5 + 1, none⟩ = some (.int .i64 p.x) ∧ w2.cell? ⟨b, off + k * 5 + 2, none⟩ = some (.int .i64 p.y) ∧ w2.cell? ⟨b, off + k * 5 + 3, none⟩ = some (.int .i64 p.w) ∧ w2.cell? ⟨b, off + k * 5 + 4, none⟩ = some (.int .i64 p.h) ∧ w2.cell? ⟨b2, off2 + k * 5, none⟩ = some (.int .i64 p.pane) ∧ w2.cell? ⟨b2, off2 + k * 5 + 1, none⟩ = some (.int .i64 p.x) ∧ w2.cell? ⟨b2, off2 + k * 5 + 2, none⟩ = some (.int .i64 p.y) ∧ w2.cell? ⟨b2, off2 + k * 5 + 3, none⟩ = some (.int .i64 p.w) ∧ w2.cell? ⟨b2, off2 + k * 5 + 4, none⟩ = some (.int .i64 p.h) := ⟨((below_undrew hb2).cell (p := ⟨b, off + k * 5, none⟩) hbw).trans hx0, ((below_undrew hb2).cell (p := ⟨b, off + k * 5 + 1, none⟩) hbw).trans hx1, ((below_undrew hb2).cell (p := ⟨b, off + k * 5 + 2, none⟩) hbw).trans hx2, ((below_undrew hb2).cell (p := ⟨b, off + k * 5 + 3, none⟩) hbw).trans hx3, ((below_undrew hb2).cell (p := ⟨b, off + k * 5 + 4, none⟩) hbw).trans hx4, ((below_undrew hb2).cell (p := ⟨b2, off2 + k * 5, none⟩) hbw2).trans hy0, ((below_undrew hb2).cell (p := ⟨b2, off2 + k * 5 + 1, none⟩) hbw2).trans hy1, ((below_undrew hb2).cell (p := ⟨b2, off2 + k * 5 + 2, none⟩) hbw2).trans hy2, ((below_undrew hb2).cell (p := ⟨b2, off2 + k * 5 + 3, none⟩) hbw2).trans hy3, ((below_undrew hb2).cell (p := ⟨b2, off2 + k * 5 + 4, none⟩) hbw2).trans hy4⟩; have HB2 := hide ((unhide HB).trans ((below_undrew hb2).mono (unhide HB).size)); clear hb2))
      go_wp2_with fail
      go_roundw
      case rel => exact ⟨k + 1, by omega, by go_num, unhide HB2⟩
      case measure => simp [intOf]; omega
    · go_wp2_with fail
      go_ret
      exact ⟨rfl, hb⟩

theorem made_Area (n : Nat) : (madeCells #[.int .i64 0, .int .i64 0, .int .i64 0, .int .i64 0, .int .i64 0] (n * 5)).toList = cAr (List.replicate n ⟨0, 0, 0, 0, 0⟩) := by
  induction n with
  | zero => simp [madeCells, cAr]
  | succ m ih =>
    rw [List.replicate_succ', cAr_app, ← ih]
    apply List.ext_getElem?
    intro j
    by_cases hj : j < m * 5
    · rw [List.getElem?_append_left (by simp [madeCells]; omega)]
      simp [madeCells, hj, show j < (m + 1) * 5 from by omega]
    · rw [List.getElem?_append_right (by simp [madeCells]; omega)]
      have hl : (madeCells #[.int .i64 0, .int .i64 0, .int .i64 0, .int .i64 0, .int .i64 0] (m * 5)).toList.length = m * 5 := by simp [madeCells]
      rw [hl]
      by_cases h2 : j < (m + 1) * 5
      · obtain ⟨r, hr, rfl⟩ : ∃ r, r < 5 ∧ j = m * 5 + r := ⟨j - m * 5, by omega, by omega⟩
        have e1 : (m * 5 + r) % 5 = r := by omega
        have e2 : m * 5 + r - m * 5 = r := by omega
        rw [e2]
        simp only [madeCells, Array.toList_map, Array.toList_range, List.getElem?_map, List.getElem?_range h2, Option.map_some, List.size_toArray, List.length_cons, List.length_nil, Nat.zero_add, Nat.reduceAdd, e1]
        rcases r with _ | _ | _ | _ | _ | r <;> first | rfl | omega
      · rw [List.getElem?_eq_none (by simp [madeCells]; omega), List.getElem?_eq_none (by simp [cAr, cAr1]; omega)]
/-- A made row of zeros whose first k elements have been filled from l. -/
def fillAr (l : List Ar) (k : Nat) : List Ar := l.take k ++ List.replicate (l.length - k) ⟨0, 0, 0, 0, 0⟩
theorem fillAr_len (l : List Ar) (k : Nat) (h : k ≤ l.length) : (fillAr l k).length = l.length := by unfold fillAr; simp; omega
theorem fillAr_zero (l : List Ar) : cAr (fillAr l 0) = (madeCells #[.int .i64 0, .int .i64 0, .int .i64 0, .int .i64 0, .int .i64 0] (l.length * 5)).toList := by rw [made_Area]; simp [fillAr]
theorem fillAr_all (l : List Ar) : fillAr l l.length = l := by simp [fillAr]
theorem fillAr_set (l : List Ar) (k : Nat) (h : k < l.length) : (fillAr l k).set k l[k] = fillAr l (k + 1) := by
  have e1 : (l.take k).length = k := by rw [List.length_take]; omega
  unfold fillAr
  rw [List.set_append_right _ _ (by omega), e1, Nat.sub_self, List.take_succ_eq_append_getElem h]
  obtain ⟨m, hm⟩ : ∃ m, l.length - k = m + 1 := ⟨l.length - k - 1, by omega⟩
  rw [hm, show l.length - (k + 1) = m from by omega, List.replicate_succ, List.set_cons_zero, List.append_assoc]
  rfl
theorem cAr_set (l : List Ar) : ∀ (k : Nat) (q : Ar), (((((cAr l).set (k * 5) (.int .i64 q.pane)).set (k * 5 + 1) (.int .i64 q.x)).set (k * 5 + 2) (.int .i64 q.y)).set (k * 5 + 3) (.int .i64 q.w)).set (k * 5 + 4) (.int .i64 q.h) = cAr (l.set k q) := by
  induction l with
  | nil => intro k q; simp [cAr]
  | cons c l ih =>
    intro k q
    cases k with
    | zero => rfl
    | succ k =>
      have := ih k q
      rw [List.set_cons_succ, cAr_cons, cAr_cons, show (k + 1) * 5 = k * 5 + 1 + 1 + 1 + 1 + 1 from by omega]
      simp only [List.set_cons_succ, Nat.add_assoc] at this ⊢
      rw [← this]

def oneArea (k0 : Nat) : Nat → Value := fun j => .int .i64 (((k0 + j : Nat) : Int))
def onesArea (k0 n : Nat) : List Value := (List.range (n * 5)).map (oneArea k0)

theorem oneArea_0 (k0 j q : Nat) (h : q = k0 + j * 5 + 0) : oneArea k0 (j * 5) = .int .i64 (q : Int) := by unfold oneArea; rw [h]; rfl
theorem oneArea_1 (k0 j q : Nat) (h : q = k0 + j * 5 + 1) : oneArea k0 (j * 5 + 1) = .int .i64 (q : Int) := by unfold oneArea; rw [h]; rfl
theorem oneArea_2 (k0 j q : Nat) (h : q = k0 + j * 5 + 2) : oneArea k0 (j * 5 + 2) = .int .i64 (q : Int) := by unfold oneArea; rw [h]; rfl
theorem oneArea_3 (k0 j q : Nat) (h : q = k0 + j * 5 + 3) : oneArea k0 (j * 5 + 3) = .int .i64 (q : Int) := by unfold oneArea; rw [h]; rfl
theorem oneArea_4 (k0 j q : Nat) (h : q = k0 + j * 5 + 4) : oneArea k0 (j * 5 + 4) = .int .i64 (q : Int) := by unfold oneArea; rw [h]; rfl
set_option maxHeartbeats 800000 in
set_option maxRecDepth 100000 in
theorem markArea (v : Value) (n lo hi k0 : Nat) (xs : List Value) (hn : n ≤ 2000000) (hk0 : k0 ≤ 2000000) (w : World) (h : HeldZ 5 w lo hi 46 v n xs) :
    Calls Try.prog 11 #[v, .int .i64 (k0 : Int)] w fun e w' => e = .returned (.int .i64 ((k0 + n * 5 : Nat) : Int)) ∧ HeldZ 5 w' lo hi 46 v n (onesArea k0 n) ∧ w.grownBy w' v.ownBlock := by
  have HX := hide (show xs.length = n * 5 from h.1.1)
  unfold onesArea
  rcases h.1.2 with ⟨rfl, rfl⟩ | ⟨g, cap, cur, rfl, _⟩
  · go_enter Try.func11, Try.ntmps11
    go_wp2_with fail
    go_loopw [1, 5] (fun kk i wr => kk = .int .i64 (k0 : Int) ∧ i = .int .i64 0 ∧ wr = w) (fun _ _ _ => 0)
    case atStart => exact ⟨rfl, rfl, rfl⟩
    case round =>
      obtain ⟨rfl, rfl, rfl⟩ := hrel
      have h' : HeldZ 5 wr lo hi 46 (.slice none 0 0) 0 ((List.range (0 * 5)).map (oneArea k0)) := by
        have := List.length_eq_zero_iff.1 ((unhide HX).trans (by omega)); subst this; exact h
      go_wp2_with fail
      go_ret
      exact ⟨ret_int (by simp), h', grownBy_refl _ _⟩
  · have HH := hide h
    clear h
    go_enter Try.func11, Try.ntmps11
    go_wp2_with fail
    go_loopw [1, 5] (fun kk i wr => ∃ j q : Nat, j ≤ n ∧ q = k0 + j * 5 ∧ i = .int .i64 j ∧ kk = .int .i64 (q : Int) ∧ Hid (HeldZ 5 wr lo hi 46 (.slice (some ⟨g, 0, none⟩) n cap) n (markV xs (oneArea k0) (j * 5))) ∧ Hid (w.grownBy wr (some g))) (fun _ i _ => n - (intOf i).toNat)
    case atStart => exact ⟨0, k0, by omega, rfl, rfl, rfl, by rw [Nat.zero_mul, markV_zero]; exact HH, grownBy_refl _ _⟩
    case round =>
      clear HH
      obtain ⟨j, q, hj, hq, rfl, rfl, HH, HG⟩ := hrel
      by_cases hlt : j < n
      · have hown := (unhide HH).1
        obtain ⟨u0, hu0⟩ := cell_of (xs := xs) (j := j * 5) (by rw [unhide HX]; omega)
        obtain ⟨u1, hu1⟩ := cell_of (xs := xs) (j := j * 5 + 1) (by rw [unhide HX]; omega)
        obtain ⟨u2, hu2⟩ := cell_of (xs := xs) (j := j * 5 + 2) (by rw [unhide HX]; omega)
        obtain ⟨u3, hu3⟩ := cell_of (xs := xs) (j := j * 5 + 3) (by rw [unhide HX]; omega)
        obtain ⟨u4, hu4⟩ := cell_of (xs := xs) (j := j * 5 + 4) (by rw [unhide HX]; omega)
        have hc0 : wr.cell? ⟨g, j * 5, none⟩ = some u0 := by rw [hown.cellAt (j * 5) (by omega), markV_past xs _ (j * 5) (j * 5) (by omega), hu0]
        have hf0 := hown.frozenAt (j * 5)
        have hc1 : wr.cell? ⟨g, j * 5 + 1, none⟩ = some u1 := by rw [hown.cellAt (j * 5 + 1) (by omega), markV_past xs _ (j * 5) (j * 5 + 1) (by omega), hu1]
        have hf1 := hown.frozenAt (j * 5 + 1)
        have hc2 : wr.cell? ⟨g, j * 5 + 2, none⟩ = some u2 := by rw [hown.cellAt (j * 5 + 2) (by omega), markV_past xs _ (j * 5) (j * 5 + 2) (by omega), hu2]
        have hf2 := hown.frozenAt (j * 5 + 2)
        have hc3 : wr.cell? ⟨g, j * 5 + 3, none⟩ = some u3 := by rw [hown.cellAt (j * 5 + 3) (by omega), markV_past xs _ (j * 5) (j * 5 + 3) (by omega), hu3]
        have hf3 := hown.frozenAt (j * 5 + 3)
        have hc4 : wr.cell? ⟨g, j * 5 + 4, none⟩ = some u4 := by rw [hown.cellAt (j * 5 + 4) (by omega), markV_past xs _ (j * 5) (j * 5 + 4) (by omega), hu4]
        have hf4 := hown.frozenAt (j * 5 + 4)
        have hlt' : (j : Int) < (n : Int) := by omega
        have d0 : (q : Int) ≤ 80000000 := by omega
        obtain ⟨q1, hq1⟩ : ∃ q1 : Nat, q1 = q + 1 := ⟨_, rfl⟩
        have a1 : (q : Int) + 1 = (q1 : Int) := by omega
        have d1 : (q1 : Int) ≤ 90000000 := by omega
        obtain ⟨q2, hq2⟩ : ∃ q2 : Nat, q2 = q1 + 1 := ⟨_, rfl⟩
        have a2 : (q1 : Int) + 1 = (q2 : Int) := by omega
        have d2 : (q2 : Int) ≤ 90000000 := by omega
        obtain ⟨q3, hq3⟩ : ∃ q3 : Nat, q3 = q2 + 1 := ⟨_, rfl⟩
        have a3 : (q2 : Int) + 1 = (q3 : Int) := by omega
        have d3 : (q3 : Int) ≤ 90000000 := by omega
        obtain ⟨q4, hq4⟩ : ∃ q4 : Nat, q4 = q3 + 1 := ⟨_, rfl⟩
        have a4 : (q3 : Int) + 1 = (q4 : Int) := by omega
        have d4 : (q4 : Int) ≤ 90000000 := by omega
        have v0 := oneArea_0 k0 j q (by omega)
        have v1 := oneArea_1 k0 j q1 (by omega)
        have v2 := oneArea_2 k0 j q2 (by omega)
        have v3 := oneArea_3 k0 j q3 (by omega)
        have v4 := oneArea_4 k0 j q4 (by omega)
        have R := (((((hown.stored (j * 5) (.int .i64 (q : Int))).1.stored (j * 5 + 1) (.int .i64 (q1 : Int))).1.stored (j * 5 + 2) (.int .i64 (q2 : Int))).1.stored (j * 5 + 3) (.int .i64 (q3 : Int))).1.stored (j * 5 + 4) (.int .i64 (q4 : Int))).1
        rw [← v0, ← v1, ← v2, ← v3, ← v4, markV_set xs (oneArea k0) (j * 5) (by rw [unhide HX]; omega), markV_set xs (oneArea k0) (j * 5 + 1) (by rw [unhide HX]; omega), markV_set xs (oneArea k0) (j * 5 + 2) (by rw [unhide HX]; omega), markV_set xs (oneArea k0) (j * 5 + 3) (by rw [unhide HX]; omega), markV_set xs (oneArea k0) (j * 5 + 4) (by rw [unhide HX]; omega), show j * 5 + 4 + 1 = (j + 1) * 5 from by omega] at R
        rw [v0, v1, v2, v3, v4] at R
        have RH : HeldZ 5 (((((wr.setCell ⟨g, j * 5, none⟩ (.int .i64 (q : Int))).setCell ⟨g, j * 5 + 1, none⟩ (.int .i64 (q1 : Int))).setCell ⟨g, j * 5 + 2, none⟩ (.int .i64 (q2 : Int))).setCell ⟨g, j * 5 + 3, none⟩ (.int .i64 (q3 : Int))).setCell ⟨g, j * 5 + 4, none⟩ (.int .i64 (q4 : Int))) lo hi 46 (.slice (some ⟨g, 0, none⟩) n cap) n (markV xs (oneArea k0) ((j + 1) * 5)) := ⟨R, (unhide HH).2.1, by have := (unhide HH).2.2; simpa using this⟩
        have RG := (World.grownBy.trans' (World.grownBy.trans' (World.grownBy.trans' (World.grownBy.trans' (World.grownBy.trans' (unhide HG) (stored_grown (g := g) (j := j * 5) (u := .int .i64 (q : Int)))) (stored_grown (g := g) (j := j * 5 + 1) (u := .int .i64 (q1 : Int)))) (stored_grown (g := g) (j := j * 5 + 2) (u := .int .i64 (q2 : Int)))) (stored_grown (g := g) (j := j * 5 + 3) (u := .int .i64 (q3 : Int)))) (stored_grown (g := g) (j := j * 5 + 4) (u := .int .i64 (q4 : Int))))
        have RH := hide RH
        have RG := hide RG
        have HQ := hide (show q4 + 1 = k0 + (j + 1) * 5 from by omega)
        clear hq hq1 hq2 hq3 hq4 hown R HH HG hu0 hu1 hu2 hu3 hu4 v0 v1 v2 v3 v4
        go_wp2_with fail
        go_roundw
        case rel => exact ⟨j + 1, q4 + 1, by omega, unhide HQ, by go_num, by go_num, RH, RG⟩
        case measure => simp [intOf]; omega
      · have ej : j = n := by omega
        rw [ej, markV_all xs _ (n * 5) (unhide HX).symm] at HH
        have eq2 : (q : Int) = ((k0 + n * 5 : Nat) : Int) := by omega
        clear hq
        go_wp2_with fail
        go_ret
        exact ⟨ret_int eq2, unhide HH, unhide HG⟩

set_option maxHeartbeats 800000 in
set_option maxRecDepth 100000 in
theorem heldArea (v : Value) (n lo hi k0 : Nat) (hn : n ≤ 2000000) (hk0 : k0 ≤ 2000000) (w : World) (h : HeldZ 5 w lo hi 46 v n (onesArea k0 n)) :
    Calls Try.prog 12 #[v, .int .i64 (k0 : Int)] w fun e w' => e = .returned (.int .i64 ((k0 + n * 5 : Nat) : Int)) ∧ Below w.heap.size w w' := by
  unfold onesArea at h
  obtain ⟨a, cap, rfl, hr⟩ := h.row
  have HR := hide hr
  clear hr h
  go_enter Try.func12, Try.ntmps12
  go_wp2_with fail
  go_loopw [1, 5] (fun kk i wr => ∃ j q : Nat, j ≤ n ∧ q = k0 + j * 5 ∧ i = .int .i64 j ∧ kk = .int .i64 (q : Int) ∧ Below w.heap.size w wr) (fun _ i _ => n - (intOf i).toNat)
  case atStart => exact ⟨0, k0, by omega, rfl, rfl, rfl, Below.refl _ _⟩
  case round =>
    obtain ⟨j, q, hj, hq, rfl, rfl, hb⟩ := hrel
    by_cases hlt : j < n
    · obtain ⟨b, off, ha, hblt, hc⟩ := (unhide HR).at (by simp; omega)
      subst ha
      have hc0 : wr.cell? ⟨b, off + j * 5, none⟩ = some (oneArea k0 (j * 5)) := (hb.cell (p := ⟨b, off + j * 5, none⟩) hblt).trans (hc (j * 5) _ (by rw [List.getElem?_map, List.getElem?_range (by omega)]; rfl))
      have hc1 : wr.cell? ⟨b, off + j * 5 + 1, none⟩ = some (oneArea k0 (j * 5 + 1)) := (hb.cell (p := ⟨b, off + j * 5 + 1, none⟩) hblt).trans (hc (j * 5 + 1) _ (by rw [List.getElem?_map, List.getElem?_range (by omega)]; rfl))
      have hc2 : wr.cell? ⟨b, off + j * 5 + 2, none⟩ = some (oneArea k0 (j * 5 + 2)) := (hb.cell (p := ⟨b, off + j * 5 + 2, none⟩) hblt).trans (hc (j * 5 + 2) _ (by rw [List.getElem?_map, List.getElem?_range (by omega)]; rfl))
      have hc3 : wr.cell? ⟨b, off + j * 5 + 3, none⟩ = some (oneArea k0 (j * 5 + 3)) := (hb.cell (p := ⟨b, off + j * 5 + 3, none⟩) hblt).trans (hc (j * 5 + 3) _ (by rw [List.getElem?_map, List.getElem?_range (by omega)]; rfl))
      have hc4 : wr.cell? ⟨b, off + j * 5 + 4, none⟩ = some (oneArea k0 (j * 5 + 4)) := (hb.cell (p := ⟨b, off + j * 5 + 4, none⟩) hblt).trans (hc (j * 5 + 4) _ (by rw [List.getElem?_map, List.getElem?_range (by omega)]; rfl))
      have hlt' : (j : Int) < (n : Int) := by omega
      have hlt0 : (0 : Int) ≤ (j : Int) := by omega
      have d0 : (q : Int) ≤ 80000000 := by omega
      obtain ⟨q1, hq1⟩ : ∃ q1 : Nat, q1 = q + 1 := ⟨_, rfl⟩
      have a1 : (q : Int) + 1 = (q1 : Int) := by omega
      have d1 : (q1 : Int) ≤ 90000000 := by omega
      obtain ⟨q2, hq2⟩ : ∃ q2 : Nat, q2 = q1 + 1 := ⟨_, rfl⟩
      have a2 : (q1 : Int) + 1 = (q2 : Int) := by omega
      have d2 : (q2 : Int) ≤ 90000000 := by omega
      obtain ⟨q3, hq3⟩ : ∃ q3 : Nat, q3 = q2 + 1 := ⟨_, rfl⟩
      have a3 : (q2 : Int) + 1 = (q3 : Int) := by omega
      have d3 : (q3 : Int) ≤ 90000000 := by omega
      obtain ⟨q4, hq4⟩ : ∃ q4 : Nat, q4 = q3 + 1 := ⟨_, rfl⟩
      have a4 : (q3 : Int) + 1 = (q4 : Int) := by omega
      have d4 : (q4 : Int) ≤ 90000000 := by omega
      rw [oneArea_0 k0 j q (by omega)] at hc0
      rw [oneArea_1 k0 j q1 (by omega)] at hc1
      rw [oneArea_2 k0 j q2 (by omega)] at hc2
      rw [oneArea_3 k0 j q3 (by omega)] at hc3
      rw [oneArea_4 k0 j q4 (by omega)] at hc4
      have e0 : ((q : Int) != (q : Int)) = false := by simp
      have e1 : ((q1 : Int) != (q1 : Int)) = false := by simp
      have e2 : ((q2 : Int) != (q2 : Int)) = false := by simp
      have e3 : ((q3 : Int) != (q3 : Int)) = false := by simp
      have e4 : ((q4 : Int) != (q4 : Int)) = false := by simp
      have HQ := hide (show q4 + 1 = k0 + (j + 1) * 5 from by omega)
      clear hq hq1 hq2 hq3 hq4
      clear hc HR
      go_wp2_with fail
      all_goals
        go_roundw
        case rel => exact ⟨j + 1, q4 + 1, by omega, unhide HQ, by go_num, by go_num, hb⟩
        case measure => simp [intOf]; omega
    · go_wp2_with fail
      go_ret
      exact ⟨ret_int (by omega), hb⟩
end Go.Proofs.Ytobcianljbfalaa

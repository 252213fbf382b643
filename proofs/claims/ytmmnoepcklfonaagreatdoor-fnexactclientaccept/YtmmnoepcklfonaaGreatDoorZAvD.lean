/- A mirror shown by a view: what the program answers. -/
import Derived.Test.YtmmnoepcklfonaaGreatDoorZG19
import Derived.Test.YtmmnoepcklfonaaGreatDoorZG15
import Derived.Test.YtmmnoepcklfonaaGreatDoorZStrS
import Derived.Test.YtmmnoepcklfonaaGreatDoorZRwL
import Derived.Laws.CopyRow
import Derived.Laws.IdiomCopy
import Derived.Laws.OwnMore
import Derived.Deep.Cut
namespace Go.Proofs.YtmmnoepcklfonaaGreatDoor
open Go.ChangeShapes Go.WideShapes Go.ChangeAt Go.RowKit
set_option linter.unusedVariables false
abbrev oAvD0 : Oper := { dst := some 16, op := .makeSlice 22 (.tmp 15) (.tmp 15), type := 22, pos := "l11_view.go:193", after := #[{ on := 7, ground := .data }, { on := 7, ground := .data }], guard := none }
abbrev oAvD1 : Oper := { dst := some 5, op := .alloc 32, type := 0, pos := "l11_view.go:193", after := #[], guard := none }
abbrev oAvD2 : Oper := { dst := some 17, op := .build 32 #[(0, .tmp 9), (1, .tmp 11), (2, .tmp 13), (3, .tmp 16)], type := 32, pos := "l11_view.go:193", after := #[{ on := 1, ground := .data }, { on := 3, ground := .data }, { on := 5, ground := .data }, { on := 8, ground := .data }], guard := none }
abbrev oAvD3 : Oper := { dst := none, op := .store 32 (.tmp 5) (.tmp 17), type := 0, pos := "l11_view.go:193", after := #[{ on := 10, ground := .data }, { on := 9, ground := .data }, { on := 0, ground := .phase }, { on := 1, ground := .phase }, { on := 2, ground := .phase }, { on := 3, ground := .phase }, { on := 4, ground := .phase }, { on := 5, ground := .phase }, { on := 6, ground := .phase }, { on := 7, ground := .phase }, { on := 8, ground := .phase }, { on := 9, ground := .phase }, { on := 10, ground := .phase }], guard := none }
theorem own_arrT {w : World} {base g n : Nat} {e : TypeId} {xs : List Value} (h : w.ownsRow base e 1 (.slice (some ⟨g, 0, none⟩) n n) n xs) : w.heap[g]? = some (.cells xs.toArray e (0, 0)) := by
  obtain ⟨hl, h2⟩ := h
  rcases h2 with ⟨hv, _⟩ | ⟨g', cap, cur, hv, hbg, hg, hnc, hm, hcs, ht⟩
  · cases hv
  · injection hv with h1 h2 h3
    injection h1 with h1
    injection h1 with h1 _ _
    subst h1 h3
    rw [hg]
    have e2 : cur.toList = xs := by rw [← ht, List.take_of_length_le (by simp; omega)]
    rw [← e2]
theorem arr_ownT {w : World} {g n base : Nat} {t : TypeId} {l : List Value} (h : w.heap[g]? = some (.cells l.toArray t (0, 0))) (hb : base ≤ g) (hl : l.length = n) (hn : n ≤ maxLen) : w.ownsRow base t 1 (.slice (some ⟨g, 0, none⟩) n n) n l := by
  subst hl
  exact ⟨by omega, .inr ⟨g, l.length, l.toArray, rfl, hb, h, Nat.le_refl _, hn, by simp, by rw [List.take_of_length_le]; simp⟩⟩
theorem cS_take (l : List ByteArray) (k : Nat) : cS (l.take k) = (cS l).take k := by unfold cS; rw [List.map_take]
set_option maxRecDepth 100000 in
theorem copy_strs {w : World} (ty : TypeId) (g H n : Nat) (a : Option Addr) (cap : Nat) (R : List ByteArray) (hn : R.length = n) (hr : RowV w a (cS R)) (hg : w.heap[g]? = some (.cells (cS (List.replicate H ⟨#[]⟩)).toArray 9 (0, 0))) :
    ∃ w' c, (Builtin.copy_ #[22, 22] ty #[.slice (some ⟨g, 0, none⟩) H H, .slice a n cap]).run Tryz.prog w = .ok (goInt c) w' ∧ w'.heap[g]? = some (.cells (cS (baseL H R)).toArray 9 (0, 0)) ∧ w.grownBy w' (some g) := by
  obtain ⟨i0, hi, hz0, hz1, hz2⟩ := info_parts Tryz.infL9
  have hsz : (Tryz.prog.info? 9).map (·.size) = some 1 := by rw [hi]; simp [hz1]
  by_cases h0 : Nat.min n H = 0
  · refine ⟨w, 0, run_copy_none (P := Tryz.prog) w _ _ ty 9 _ a H H n cap Tryz.underlying22 hsz h0, ?_, grownBy_refl _ _⟩
    have e : baseL H R = List.replicate H ⟨#[]⟩ := by
      unfold baseL
      by_cases hH : H = 0
      · subst hH; simp
      · obtain rfl : R = [] := List.length_eq_zero_iff.1 (by rw [hn]; simp only [Nat.min_def] at h0; split at h0 <;> omega)
        simp
    rw [e]; exact hg
  · have hpos : 0 < (cS R).length := by rw [cS_len, hn]; simp only [Nat.min_def] at h0; split at h0 <;> omega
    obtain ⟨b, off, rfl, hblt, hc⟩ := hr.at hpos
    have hlen : (cS (R.take H)).length = Nat.min n H := by rw [cS_len, List.length_take, hn]; exact Nat.min_comm _ _
    refine ⟨_, _, run_copy_row (P := Tryz.prog) w _ _ ty 9 g 0 H H ⟨b, off, none⟩ n cap (cS (List.replicate H ⟨#[]⟩)).toArray 9 (cS (R.take H)) Tryz.underlying22 hsz hg hlen ?_ ?_ (cS_one _), ?_, ?_⟩
    · intro j v hv
      rw [show (⟨b, off, none⟩ : Addr).add j = ⟨b, off + j, none⟩ from by unfold Addr.add; split <;> simp_all]
      refine hc j v ?_
      rw [cS_take, List.getElem?_take] at hv
      split at hv
      · exact hv
      · cases hv
    · rw [hlen]; simp only [List.size_toArray, cS_len, List.length_replicate, Nat.zero_add]; exact Nat.min_le_right _ _
    · have h := setRow_heap w g (cS (List.replicate H ⟨#[]⟩)).toArray ((cS (List.replicate H ⟨#[]⟩)).toArray.toList.take 0 ++ cS (R.take H) ++ (cS (List.replicate H ⟨#[]⟩)).toArray.toList.drop (0 + (cS (R.take H)).length)).toArray 9 (0, 0) hg
      rw [h]
      congr 3
      rw [List.take_zero, List.nil_append, hlen, Nat.zero_add]
      unfold baseL
      rw [cS_app]
      congr 1
      show (cS (List.replicate H ⟨#[]⟩)).drop (Nat.min n H) = cS (List.replicate (H - R.length) ⟨#[]⟩)
      unfold cS
      rw [List.map_replicate, List.map_replicate, List.drop_replicate, hn]
      congr 1
      simp only [Nat.min_def]; split <;> omega
    · exact ⟨rfl, rfl, rfl, by simp [World.setRow], fun k hk hne => setRow_other w g k _ (fun e => hne (by rw [e]))⟩
theorem put4 {p : Nat} {u0 u1 u2 u3 : Value} (w : World) (h : BF p #[u0, u1, u2, u3] w) (v0 v1 v2 v3 : Value) :
    ∃ w', w' = (((w.setCell ⟨p, 0, none⟩ v0).setCell ⟨p, 1, none⟩ v1).setCell ⟨p, 2, none⟩ v2).setCell ⟨p, 3, none⟩ v3 ∧ BF p #[v0, v1, v2, v3] w' ∧ Below p w w' := by
  refine ⟨_, rfl, ?_, ?_⟩
  · have q1 : BF p #[v0, u1, u2, u3] _ := h.set 0 (by simp) v0
    have q2 : BF p #[v0, v1, u2, u3] _ := q1.set 1 (by simp) v1
    have q3 : BF p #[v0, v1, v2, u3] _ := q2.set 2 (by simp) v2
    exact q3.set 3 (by simp) v3
  · iterate 4 refine Below.setCell ?_ (by exact Nat.le_refl _) _
    exact Below.refl _ _
set_option maxHeartbeats 4000000 in
set_option maxRecDepth 100000 in
theorem ishown (nb vw vh : Int) (a : Option Addr) (cap n : Nat) (R : List ByteArray) (HN : Hid (R.length = n)) (nbv frv : Int) (fuv : Bool) (vwv : Int) (H : Nat) (hH : H ≤ 10) (av : Option Addr) (cv nv : Nat) (l : List Rw) (HNV : Hid (l.length = nv)) (hnv : nv ≤ 1048576) (HY : Hid (∀ k (h : k < l.length), 0 ≤ l[k].1 ∧ l[k].1 < (H : Int))) (w : World) (hr : RowV w a (cS R)) (hrv : RowV w av (cE l)) :
    Calls Tryz.prog 56 #[.agg #[.int .i64 nb, .int .i64 vw, .int .i64 vh, .slice a n cap], .agg #[.int .i64 nbv, .int .i64 frv, .bool fuv, .int .i64 vwv, .int .i64 (H : Int), .slice av nv cv]] w fun e w' => ∃ v, e = .returned (.agg #[.int .i64 nbv, .int .i64 vwv, .int .i64 (H : Int), v]) ∧ w'.ownsRow w.heap.size 9 1 v H (cS (setsL (baseL H R) l nv)) ∧ Below w.heap.size w w' := by
  obtain ⟨i0, hi, hz0, hz1, hz2⟩ := info_parts Tryz.infL9
  have HR := hide hr
  have HRV := hide hrv
  clear hr hrv
  have B2 := hide (Go.Joins.below_alloc3 w (.cells #[.int .i64 nb, .int .i64 vw, .int .i64 vh, .slice a n cap] 32) (.cells #[.int .i64 nbv, .int .i64 frv, .bool fuv, .int .i64 vwv, .int .i64 (H : Int), .slice av nv cv] 40) (.cells #[.int .i64 0, .int .i64 0, .int .i64 0, .slice none 0 0] 32))
  have M2 := hide (((BF.new w #[.int .i64 nb, .int .i64 vw, .int .i64 vh, .slice a n cap] 32).alloc (.cells #[.int .i64 nbv, .int .i64 frv, .bool fuv, .int .i64 vwv, .int .i64 (H : Int), .slice av nv cv] 40)).alloc (.cells #[.int .i64 0, .int .i64 0, .int .i64 0, .slice none 0 0] 32))
  have V2 := hide ((BF.new (w.alloc (.cells #[.int .i64 nb, .int .i64 vw, .int .i64 vh, .slice a n cap] 32)) #[.int .i64 nbv, .int .i64 frv, .bool fuv, .int .i64 vwv, .int .i64 (H : Int), .slice av nv cv] 40).alloc (.cells #[.int .i64 0, .int .i64 0, .int .i64 0, .slice none 0 0] 32))
  have Z2 := hide (BF.new ((w.alloc (.cells #[.int .i64 nb, .int .i64 vw, .int .i64 vh, .slice a n cap] 32)).alloc (.cells #[.int .i64 nbv, .int .i64 frv, .bool fuv, .int .i64 vwv, .int .i64 (H : Int), .slice av nv cv] 40)) #[.int .i64 0, .int .i64 0, .int .i64 0, .slice none 0 0] 32)
  rw [show (w.alloc (.cells #[.int .i64 nb, .int .i64 vw, .int .i64 vh, .slice a n cap] 32)).heap.size = w.heap.size + 1 from by simp] at V2
  rw [show ((w.alloc (.cells #[.int .i64 nb, .int .i64 vw, .int .i64 vh, .slice a n cap] 32)).alloc (.cells #[.int .i64 nbv, .int .i64 frv, .bool fuv, .int .i64 vwv, .int .i64 (H : Int), .slice av nv cv] 40)).heap.size = w.heap.size + 1 + 1 from by simp] at Z2
  have L2 : Hid ((w.heap.size + 3) ≤ (((w.alloc (.cells #[.int .i64 nb, .int .i64 vw, .int .i64 vh, .slice a n cap] 32)).alloc (.cells #[.int .i64 nbv, .int .i64 frv, .bool fuv, .int .i64 vwv, .int .i64 (H : Int), .slice av nv cv] 40)).alloc (.cells #[.int .i64 0, .int .i64 0, .int .i64 0, .slice none 0 0] 32)).heap.size) := by show _ ≤ _; simp
  go_enter Tryz.func56, Tryz.ntmps56
  go_wp2_with fail
  refine wp_region_held_drew (S := (fun w' => ∀ o, w'.cell? ⟨(w.heap.size + 1), o, none⟩ = (#[.int .i64 nbv, .int .i64 frv, .bool fuv, .int .i64 vwv, .int .i64 (H : Int), .slice av nv cv] : Array Value)[o]?)) (by kernel_rfl) (unhide V2).S (fun hHeld => ?_)
  have B3 := hide ((unhide B2).drew)
  have V3 := hide ((unhide V2).drew)
  have M3 := hide ((unhide M2).drew)
  have Z3 := hide ((unhide Z2).drew)
  have Lv3 : Hid ((w.heap.size + 3) ≤ (((w.alloc (.cells #[.int .i64 nb, .int .i64 vw, .int .i64 vh, .slice a n cap] 32)).alloc (.cells #[.int .i64 nbv, .int .i64 frv, .bool fuv, .int .i64 vwv, .int .i64 (H : Int), .slice av nv cv] 40)).alloc (.cells #[.int .i64 0, .int .i64 0, .int .i64 0, .slice none 0 0] 32)).drew.heap.size) := unhide L2
  clear B2 V2 M2 Z2 L2
  generalize (((w.alloc (.cells #[.int .i64 nb, .int .i64 vw, .int .i64 vh, .slice a n cap] 32)).alloc (.cells #[.int .i64 nbv, .int .i64 frv, .bool fuv, .int .i64 vwv, .int .i64 (H : Int), .slice av nv cv] 40)).alloc (.cells #[.int .i64 0, .int .i64 0, .int .i64 0, .slice none 0 0] 32)).drew = v3 at B3 V3 M3 Z3 Lv3 hHeld ⊢
  have Bv3 := B3
  have Vv3 := V3
  have Mv3 := M3
  have Zv3 := Z3
  clear B3 V3 M3 Z3
  refine wtk (i := 0) (oi := { dst := some 8, op := .fieldAddr 40 (.tmp 3) 0, type := 0, pos := "l11_view.go:193", after := #[], guard := none }) (v := ?_) rfl (Or.inl ⟨by rfl, ?_⟩) (by assumption) ?_
  rotate_left 1
  · (intro w' hSw; (try dsimp only at hSw); go_simp; try with_reducible rfl)
  try simp only [Act.put, qqA, qqB, qqC]
  refine wtk (i := 1) (oi := { dst := some 9, op := .load 3 (.tmp 8), type := 3, pos := "l11_view.go:193", after := #[{ on := 0, ground := .data }], guard := none }) (v := ?_) rfl (Or.inl ⟨by rfl, ?_⟩) (by assumption) ?_
  rotate_left 1
  · (intro w' hSw; (try dsimp only at hSw); go_simp; try with_reducible rfl)
  try simp only [Act.put, qqA, qqB, qqC]
  refine wtk (i := 2) (oi := { dst := some 10, op := .fieldAddr 40 (.tmp 3) 3, type := 0, pos := "l11_view.go:193", after := #[], guard := none }) (v := ?_) rfl (Or.inl ⟨by rfl, ?_⟩) (by assumption) ?_
  rotate_left 1
  · (intro w' hSw; (try dsimp only at hSw); go_simp; try with_reducible rfl)
  try simp only [Act.put, qqA, qqB, qqC]
  refine wtk (i := 3) (oi := { dst := some 11, op := .load 3 (.tmp 10), type := 3, pos := "l11_view.go:193", after := #[{ on := 2, ground := .data }], guard := none }) (v := ?_) rfl (Or.inl ⟨by rfl, ?_⟩) (by assumption) ?_
  rotate_left 1
  · (intro w' hSw; (try dsimp only at hSw); go_simp; try with_reducible rfl)
  try simp only [Act.put, qqA, qqB, qqC]
  refine wtk (i := 4) (oi := { dst := some 12, op := .fieldAddr 40 (.tmp 3) 4, type := 0, pos := "l11_view.go:193", after := #[], guard := none }) (v := ?_) rfl (Or.inl ⟨by rfl, ?_⟩) (by assumption) ?_
  rotate_left 1
  · (intro w' hSw; (try dsimp only at hSw); go_simp; try with_reducible rfl)
  try simp only [Act.put, qqA, qqB, qqC]
  refine wtk (i := 5) (oi := { dst := some 13, op := .load 3 (.tmp 12), type := 3, pos := "l11_view.go:193", after := #[{ on := 4, ground := .data }], guard := none }) (v := ?_) rfl (Or.inl ⟨by rfl, ?_⟩) (by assumption) ?_
  rotate_left 1
  · (intro w' hSw; (try dsimp only at hSw); go_simp; try with_reducible rfl)
  try simp only [Act.put, qqA, qqB, qqC]
  refine wtk (i := 6) (oi := { dst := some 14, op := .fieldAddr 40 (.tmp 3) 4, type := 0, pos := "l11_view.go:193", after := #[], guard := none }) (v := ?_) rfl (Or.inl ⟨by rfl, ?_⟩) (by assumption) ?_
  rotate_left 1
  · (intro w' hSw; (try dsimp only at hSw); go_simp; try with_reducible rfl)
  try simp only [Act.put, qqA, qqB, qqC]
  refine wtk (i := 7) (oi := { dst := some 15, op := .load 3 (.tmp 14), type := 3, pos := "l11_view.go:193", after := #[{ on := 6, ground := .data }], guard := none }) (v := ?_) rfl (Or.inl ⟨by rfl, ?_⟩) (by assumption) ?_
  rotate_left 1
  · (intro w' hSw; (try dsimp only at hSw); go_simp; try with_reducible rfl)
  try simp only [Act.put, qqA, qqB, qqC]
  refine wpAnyH_ready (rs := [8, 10]) (by kernel_rfl) (by simp) ?_
  refine AllReadyH.cons (o := oAvD0) rfl (fun K hK => ?_) (AllReadyH.cons (o := oAvD1) rfl (fun K hK => ?_) AllReadyH.nil)
  · skip
    obtain ⟨v4, hrun, ho, hgr⟩ := run_make_full (P := Tryz.prog) (w := v3) v3.heap.size 22 9 i0 (.string ⟨#[]⟩) 1 Tryz.underlying22 hi hz0 hz1 .i64 .i64 H (by rw [hz2]; omega) (by unfold maxLen; omega) (Nat.le_refl _)
    have hb : Below v3.heap.size v3 v4 := (Below.refl _ _).grown hgr (Nat.le_refl _) (fun k hk => by cases hk)
    rw [show (madeCells (Value.string ⟨#[]⟩).cells (H * 1)).toList = cS (List.replicate H ⟨#[]⟩) from by rw [show (Value.string ⟨#[]⟩).cells = #[.string ⟨#[]⟩] from rfl, toList_madeCells_one]; simp [cS]] at ho
    obtain ⟨g, hg⟩ : ∃ g, g = v3.heap.size := ⟨_, rfl⟩
    rw [← hg] at hrun ho
    have hg3 : (w.heap.size + 3) ≤ g := by rw [hg]; have := unhide Lv3; omega
    have HG3 := hide hg3
    have Ev4 : Hid (v4.ownsRow (w.heap.size + 3) 9 1 (.slice (some ⟨g, 0, none⟩) H H) H (cS (List.replicate H ⟨#[]⟩))) := Go.Joins.ownsRow_le ho hg3
    have HGLv4 : Hid (g < v4.heap.size) := by show _ < _; have := ho.lt g rfl; omega
    have Lv4 : Hid ((w.heap.size + 3) ≤ v4.heap.size) := by show _ ≤ _; have := hb.size; have := unhide Lv3; omega
    have Bv4 := hide ((unhide Bv3).trans (hb.mono (unhide Bv3).size))
    have Vv4 := hide ((unhide Vv3).below hb)
    have Mv4 := hide ((unhide Mv3).below hb)
    have Zv4 := hide ((unhide Zv3).below hb)
    clear ho hgr hg3 hg
    go_simp
    refine hK.out _ _ ?_ (fun hHeldM => ?_)
    · exact (unhide Vv4).S
    clear hK K hrun
    try simp only [Act.put, qqA, qqB, qqC]
    clear hb
    clear Bv3 Vv3 Mv3 Zv3 Lv3
    refine wtk (i := 9) (oi := oAvD2) (v := ?_) rfl (Or.inl ⟨by rfl, ?_⟩) (by assumption) ?_
    rotate_left 1
    · (intro w' hSw; (try dsimp only at hSw); go_simp; try with_reducible rfl)
    try simp only [Act.put, qqA, qqB, qqC]
    refine wpAnyH_ready (rs := [10]) (by kernel_rfl) (by simp) ?_
    refine AllReadyH.cons (o := oAvD1) rfl (fun K hK => ?_) AllReadyH.nil
    obtain ⟨N, hN⟩ : ∃ N, N = v4.heap.size := ⟨_, rfl⟩
    have hb : Below v4.heap.size v4 (v4.alloc (.cells #[.int .i64 0, .int .i64 0, .int .i64 0, .slice none 0 0] 32)) := Go.Joins.below_alloc1 v4 (.cells #[.int .i64 0, .int .i64 0, .int .i64 0, .slice none 0 0] 32)
    have Nv5 := hide (BF.new v4 #[.int .i64 0, .int .i64 0, .int .i64 0, .slice none 0 0] 32)
    rw [← hN] at Nv5
    have HN3 : Hid ((w.heap.size + 3) ≤ N) := by show _ ≤ _; have := unhide Lv4; omega
    have Lv5 : Hid ((w.heap.size + 3) ≤ (v4.alloc (.cells #[.int .i64 0, .int .i64 0, .int .i64 0, .slice none 0 0] 32)).heap.size) := by show _ ≤ _; have := hb.size; have := unhide Lv4; omega
    have HGN : Hid (g ≠ N) := by show _ ≠ _; have := unhide HGLv4; omega
    have Bv5 := hide ((unhide Bv4).trans (hb.mono (unhide Bv4).size))
    have Vv5 := hide ((unhide Vv4).below hb)
    have Mv5 := hide ((unhide Mv4).below hb)
    have Zv5 := hide ((unhide Zv4).below hb)
    have Ev5 := hide (((heldZ_of (unhide Ev4)).below hb (Nat.le_refl _)).own)
    have HGLv5 := hide (Nat.lt_of_lt_of_le (unhide HGLv4) hb.size)
    go_simp
    refine hK.out _ _ ?_ (fun hHeldA => ?_)
    · exact (unhide Vv5).S
    clear hK K
    try simp only [Act.put, qqA, qqB, qqC]
    rw [← hN]
    clear hb hN
    generalize v4.alloc (.cells #[.int .i64 0, .int .i64 0, .int .i64 0, .slice none 0 0] 32) = v5 at Nv5 Lv5 Bv5 Vv5 Mv5 Zv5 Ev5 HGLv5 hHeldA ⊢
    clear Bv4 Vv4 Mv4 Zv4 Ev4 HGLv4 Lv4
    refine wpAnyH_ready (rs := [11]) (by kernel_rfl) (by simp) ?_
    refine AllReadyH.cons (o := oAvD3) rfl (fun K hK => ?_) AllReadyH.nil
    have kn := (unhide Nv5).S
    have knf := (unhide Nv5).F
    obtain ⟨u9, hu9, hFN, hb9⟩ := put4 v5 (unhide Nv5) (.int .i64 nbv) (.int .i64 vwv) (.int .i64 (H : Int)) (.slice (some ⟨g, 0, none⟩) H H)
    have hf9 : ∀ k, k ≠ N → u9.heap[k]? = v5.heap[k]? := fun k hk => by rw [hu9]; iterate 4 rw [Below.heap_setCell _ _ _ _ hk]
    have NX := hide hFN
    have BX := hide ((unhide Bv5).trans (hb9.mono (by have := unhide HN3; omega)))
    have VX := hide ((unhide Vv5).keep hb9.size (hf9 _ (by have := unhide HN3; omega)))
    have MX := hide ((unhide Mv5).keep hb9.size (hf9 _ (by have := unhide HN3; omega)))
    have ZX := hide ((unhide Zv5).keep hb9.size (hf9 _ (by have := unhide HN3; omega)))
    have EX : Hid (u9.heap[g]? = some (.cells (cS (List.replicate H ⟨#[]⟩)).toArray 9 (0, 0))) := (hf9 g (unhide HGN)).trans (own_arrT (unhide Ev5))
    have GX : Hid (g < u9.heap.size) := Nat.lt_of_lt_of_le (unhide HGLv5) hb9.size
    go_simp
    rw [← hu9]
    refine hK.out _ _ ?_ (fun hHeld11 => ?_)
    · exact (unhide VX).S
    clear hK K
    try simp only [Act.put, qqA, qqB, qqC]
    refine wpAnyH_done (by kernel_rfl) ?_ _
    clear kn knf hu9 hFN hb9 hf9 Nv5 Bv5 Vv5 Mv5 Zv5 Ev5 HGLv5 Lv5
    obtain ⟨u2, c2, hrun2, hE2, hg2⟩ := copy_strs 3 g H n a cap R (unhide HN) ((unhide HR).below (unhide BX)) (unhide EX)
    have hgr2 : ∀ {p : Nat} {cs : Array Value}, BF p cs u9 → p ≠ g → BF p cs u2 := fun h hne => h.grown hg2 (fun e => hne (Option.some.inj e).symm)
    have N2 := hide (hgr2 (unhide NX) (fun e => unhide HGN e.symm))
    have V2 := hide (hgr2 (unhide VX) (by have := unhide HG3; omega))
    have Z2 := hide (hgr2 (unhide ZX) (by have := unhide HG3; omega))
    have B2 := hide ((unhide BX).grown hg2 (unhide BX).size (fun k hk => by have := unhide HG3; cases hk; omega))
    have E2 : Hid (u2.ownsRow (w.heap.size + 3) 9 1 (.slice (some ⟨g, 0, none⟩) H H) H (cS (setsL (baseL H R) l 0))) := arr_ownT hE2 (unhide HG3) (by rw [cS_len, setsL_len, baseL_len]) (by unfold maxLen; omega)
    have kn := (unhide NX).S
    have km := (unhide MX).S
    clear hE2 hg2 hgr2 EX
    go_upto_region 3 with fail
    clear kn km NX VX MX ZX BX GX hrun2
    have kv := (unhide V2).S
    go_wp2_with fail
    clear kv
    go_loopw [26] (fun i wr => ∃ k : Nat, k ≤ nv ∧ i = .int .i64 (k : Int) ∧ Hid (Below w.heap.size w wr) ∧ Hid (BF N #[.int .i64 nbv, .int .i64 vwv, .int .i64 (H : Int), .slice (some ⟨g, 0, none⟩) H H] wr) ∧ Hid (BF (w.heap.size + 1 + 1) #[.int .i64 0, .int .i64 0, .int .i64 0, .slice none 0 0] wr) ∧ Hid (wr.ownsRow (w.heap.size + 3) 9 1 (.slice (some ⟨g, 0, none⟩) H H) H (cS (setsL (baseL H R) l k)))) (fun i _ => nv - (intOf i).toNat)
    case atStart => exact ⟨0, by omega, rfl, B2, N2, Z2, E2⟩
    case round =>
      clear B2 N2 Z2 E2 V2
      obtain ⟨k, hk, rfl, HB, HP, HZ, HE⟩ := hrel
      have kp := (unhide HP).S
      by_cases hlt : k < nv
      · have hlt' : (k : Int) < (nv : Int) := by omega
        have hkR : k < l.length := by rw [unhide HNV]; exact hlt
        obtain ⟨b1, off, ha, hblt, hc⟩ := (unhide HRV).at (by rw [cE_len]; omega)
        subst ha
        obtain ⟨x0, x1⟩ := row_ent hc k hkR
        obtain ⟨h0, h9⟩ := unhide HY k hkR
        obtain ⟨Y, hY⟩ : ∃ Y : Nat, Y = l[k].1.toNat := ⟨_, rfl⟩
        have eY : l[k].1 = (Y : Int) := by omega
        obtain ⟨d, ed⟩ : ∃ d, d = l[k].2 := ⟨_, rfl⟩
        rw [eY] at x0
        rw [← ed] at x1
        have hx0 : wr.cell? ⟨b1, off + k * 2, none⟩ = some (.int .i64 (Y : Int)) := ((unhide HB).cell (p := ⟨b1, off + k * 2, none⟩) hblt).trans x0
        have hx1 : wr.cell? ⟨b1, off + k * 2 + 1, none⟩ = some (.string d) := ((unhide HB).cell (p := ⟨b1, off + k * 2 + 1, none⟩) hblt).trans x1
        have hYH : (Y : Int) < (H : Int) := by omega
        have hYn : Y < H := by omega
        have HS : Hid ((cS (setsL (baseL H R) l k)).set Y (.string d) = cS (setsL (baseL H R) l (k + 1))) := by
          show _ = _
          rw [show setsL (baseL H R) l (k + 1) = (setsL (baseL H R) l k).set (yAt l k).toNat (cAt l k) from rfl, yAt_at l k hkR, cAt_at l k hkR, ← hY, ← ed]
          unfold cS; rw [List.map_set]
        obtain ⟨old, hold⟩ : ∃ old, (cS (setsL (baseL H R) l k))[Y]? = some old := ⟨_, List.getElem?_eq_getElem (by rw [cS_len, setsL_len, baseL_len]; exact hYn)⟩
        have hown := unhide HE
        have hcY : wr.cell? ⟨g, Y, none⟩ = some old := (hown.cellAt Y (by omega)).trans hold
        have hfY := hown.frozenAt Y
        have R1 := (hown.stored Y (.string d)).1
        rw [unhide HS] at R1
        have HE2 := hide (R1.alloc (.cells #[.int .i64 (Y : Int), .string d] 71))
        have HB2 := hide (((unhide HB).setCell (p := ⟨g, Y, none⟩) (by show w.heap.size ≤ g; have := unhide HG3; omega) (.string d)).alloc (by have := (unhide HB).size; simpa using this) (.cells #[.int .i64 (Y : Int), .string d] 71))
        have HP2 := hide (((unhide HP).far ⟨g, Y, none⟩ (.string d) (unhide HGN)).alloc (.cells #[.int .i64 (Y : Int), .string d] 71))
        have HZ2 := hide (((unhide HZ).far ⟨g, Y, none⟩ (.string d) (by show g ≠ (w.heap.size + 1 + 1); have := unhide HG3; omega)).alloc (.cells #[.int .i64 (Y : Int), .string d] 71))
        have hgw : g < wr.heap.size := (hown.lt g rfl).2
        have hgw2 : ¬ wr.heap.size = g := by omega
        have hNw : N < wr.heap.size := (unhide HP).lt
        have hNw2 : ¬ wr.heap.size = N := by omega
        have kp2 := ((unhide HP).alloc (.cells #[.int .i64 (Y : Int), .string d] 71)).S
        clear hc x0 x1 hY eY ed h0 h9 hold hown R1
        go_wp2_with fail
        go_roundw
        case rel => exact ⟨k + 1, by omega, by go_num, HB2, HP2, HZ2, HE2⟩
        case measure => simp [intOf]; omega
      · obtain rfl : k = nv := by omega
        have kz := (unhide HZ).S
        have kf := (unhide HZ).F
        go_wp2_with fail
        refine bodyPost_ret (v := .agg #[.int .i64 nbv, .int .i64 vwv, .int .i64 (H : Int), .slice (some ⟨g, 0, none⟩) H H]) (by simp [results, Tryz.results56, go_sem, kz]) rfl ⟨_, rfl, ?_, ?_⟩
        · refine Go.Joins.ownsRow_le (base := (w.heap.size + 3)) ?_ (by omega)
          have hl1 : (w.heap.size + 1 + 1) < (w.heap.size + 3) := by omega
          repeat refine ownsRow_setCell_below ?_ (by exact hl1) _
          exact unhide HE
        · have hl1 : w.heap.size ≤ (w.heap.size + 1 + 1) := by omega
          repeat refine Below.setCell ?_ (by exact hl1) _
          exact unhide HB
  · skip
    obtain ⟨N, hN⟩ : ∃ N, N = v3.heap.size := ⟨_, rfl⟩
    have hb : Below v3.heap.size v3 (v3.alloc (.cells #[.int .i64 0, .int .i64 0, .int .i64 0, .slice none 0 0] 32)) := Go.Joins.below_alloc1 v3 (.cells #[.int .i64 0, .int .i64 0, .int .i64 0, .slice none 0 0] 32)
    have Nv4 := hide (BF.new v3 #[.int .i64 0, .int .i64 0, .int .i64 0, .slice none 0 0] 32)
    rw [← hN] at Nv4
    have HN3 : Hid ((w.heap.size + 3) ≤ N) := by show _ ≤ _; have := unhide Lv3; omega
    have Lv4 : Hid ((w.heap.size + 3) ≤ (v3.alloc (.cells #[.int .i64 0, .int .i64 0, .int .i64 0, .slice none 0 0] 32)).heap.size) := by show _ ≤ _; have := hb.size; have := unhide Lv3; omega
    have Bv4 := hide ((unhide Bv3).trans (hb.mono (unhide Bv3).size))
    have Vv4 := hide ((unhide Vv3).below hb)
    have Mv4 := hide ((unhide Mv3).below hb)
    have Zv4 := hide ((unhide Zv3).below hb)
    go_simp
    refine hK.out _ _ ?_ (fun hHeldA => ?_)
    · exact (unhide Vv4).S
    clear hK K
    try simp only [Act.put, qqA, qqB, qqC]
    rw [← hN]
    clear hb hN
    generalize v3.alloc (.cells #[.int .i64 0, .int .i64 0, .int .i64 0, .slice none 0 0] 32) = v4 at Nv4 Lv4 Bv4 Vv4 Mv4 Zv4 hHeldA ⊢
    clear Bv3 Vv3 Mv3 Zv3 Lv3
    refine wpAnyH_ready (rs := [8]) (by kernel_rfl) (by simp) ?_
    refine AllReadyH.cons (o := oAvD0) rfl (fun K hK => ?_) AllReadyH.nil
    obtain ⟨v5, hrun, ho, hgr⟩ := run_make_full (P := Tryz.prog) (w := v4) v4.heap.size 22 9 i0 (.string ⟨#[]⟩) 1 Tryz.underlying22 hi hz0 hz1 .i64 .i64 H (by rw [hz2]; omega) (by unfold maxLen; omega) (Nat.le_refl _)
    have hb : Below v4.heap.size v4 v5 := (Below.refl _ _).grown hgr (Nat.le_refl _) (fun k hk => by cases hk)
    rw [show (madeCells (Value.string ⟨#[]⟩).cells (H * 1)).toList = cS (List.replicate H ⟨#[]⟩) from by rw [show (Value.string ⟨#[]⟩).cells = #[.string ⟨#[]⟩] from rfl, toList_madeCells_one]; simp [cS]] at ho
    obtain ⟨g, hg⟩ : ∃ g, g = v4.heap.size := ⟨_, rfl⟩
    rw [← hg] at hrun ho
    have hNg : N < v4.heap.size := (unhide Nv4).lt
    have HGN : Hid (g ≠ N) := by show _ ≠ _; omega
    clear hNg
    have hg3 : (w.heap.size + 3) ≤ g := by rw [hg]; have := unhide Lv4; omega
    have HG3 := hide hg3
    have Ev5 : Hid (v5.ownsRow (w.heap.size + 3) 9 1 (.slice (some ⟨g, 0, none⟩) H H) H (cS (List.replicate H ⟨#[]⟩))) := Go.Joins.ownsRow_le ho hg3
    have HGLv5 : Hid (g < v5.heap.size) := by show _ < _; have := ho.lt g rfl; omega
    have Lv5 : Hid ((w.heap.size + 3) ≤ v5.heap.size) := by show _ ≤ _; have := hb.size; have := unhide Lv4; omega
    have Bv5 := hide ((unhide Bv4).trans (hb.mono (unhide Bv4).size))
    have Vv5 := hide ((unhide Vv4).below hb)
    have Mv5 := hide ((unhide Mv4).below hb)
    have Zv5 := hide ((unhide Zv4).below hb)
    have Nv5 := hide ((unhide Nv4).below hb)
    clear ho hgr hg3 hg
    go_simp
    refine hK.out _ _ ?_ (fun hHeldM => ?_)
    · exact (unhide Vv5).S
    clear hK K hrun
    try simp only [Act.put, qqA, qqB, qqC]
    clear hb
    clear Bv4 Vv4 Mv4 Zv4 Nv4 Lv4
    refine wtk (i := 9) (oi := oAvD2) (v := ?_) rfl (Or.inl ⟨by rfl, ?_⟩) (by assumption) ?_
    rotate_left 1
    · (intro w' hSw; (try dsimp only at hSw); go_simp; try with_reducible rfl)
    try simp only [Act.put, qqA, qqB, qqC]
    refine wpAnyH_ready (rs := [11]) (by kernel_rfl) (by simp) ?_
    refine AllReadyH.cons (o := oAvD3) rfl (fun K hK => ?_) AllReadyH.nil
    have kn := (unhide Nv5).S
    have knf := (unhide Nv5).F
    obtain ⟨u9, hu9, hFN, hb9⟩ := put4 v5 (unhide Nv5) (.int .i64 nbv) (.int .i64 vwv) (.int .i64 (H : Int)) (.slice (some ⟨g, 0, none⟩) H H)
    have hf9 : ∀ k, k ≠ N → u9.heap[k]? = v5.heap[k]? := fun k hk => by rw [hu9]; iterate 4 rw [Below.heap_setCell _ _ _ _ hk]
    have NX := hide hFN
    have BX := hide ((unhide Bv5).trans (hb9.mono (by have := unhide HN3; omega)))
    have VX := hide ((unhide Vv5).keep hb9.size (hf9 _ (by have := unhide HN3; omega)))
    have MX := hide ((unhide Mv5).keep hb9.size (hf9 _ (by have := unhide HN3; omega)))
    have ZX := hide ((unhide Zv5).keep hb9.size (hf9 _ (by have := unhide HN3; omega)))
    have EX : Hid (u9.heap[g]? = some (.cells (cS (List.replicate H ⟨#[]⟩)).toArray 9 (0, 0))) := (hf9 g (unhide HGN)).trans (own_arrT (unhide Ev5))
    have GX : Hid (g < u9.heap.size) := Nat.lt_of_lt_of_le (unhide HGLv5) hb9.size
    go_simp
    rw [← hu9]
    refine hK.out _ _ ?_ (fun hHeld11 => ?_)
    · exact (unhide VX).S
    clear hK K
    try simp only [Act.put, qqA, qqB, qqC]
    refine wpAnyH_done (by kernel_rfl) ?_ _
    clear kn knf hu9 hFN hb9 hf9 Nv5 Bv5 Vv5 Mv5 Zv5 Ev5 HGLv5 Lv5
    obtain ⟨u2, c2, hrun2, hE2, hg2⟩ := copy_strs 3 g H n a cap R (unhide HN) ((unhide HR).below (unhide BX)) (unhide EX)
    have hgr2 : ∀ {p : Nat} {cs : Array Value}, BF p cs u9 → p ≠ g → BF p cs u2 := fun h hne => h.grown hg2 (fun e => hne (Option.some.inj e).symm)
    have N2 := hide (hgr2 (unhide NX) (fun e => unhide HGN e.symm))
    have V2 := hide (hgr2 (unhide VX) (by have := unhide HG3; omega))
    have Z2 := hide (hgr2 (unhide ZX) (by have := unhide HG3; omega))
    have B2 := hide ((unhide BX).grown hg2 (unhide BX).size (fun k hk => by have := unhide HG3; cases hk; omega))
    have E2 : Hid (u2.ownsRow (w.heap.size + 3) 9 1 (.slice (some ⟨g, 0, none⟩) H H) H (cS (setsL (baseL H R) l 0))) := arr_ownT hE2 (unhide HG3) (by rw [cS_len, setsL_len, baseL_len]) (by unfold maxLen; omega)
    have kn := (unhide NX).S
    have km := (unhide MX).S
    clear hE2 hg2 hgr2 EX
    go_upto_region 3 with fail
    clear kn km NX VX MX ZX BX GX hrun2
    have kv := (unhide V2).S
    go_wp2_with fail
    clear kv
    go_loopw [26] (fun i wr => ∃ k : Nat, k ≤ nv ∧ i = .int .i64 (k : Int) ∧ Hid (Below w.heap.size w wr) ∧ Hid (BF N #[.int .i64 nbv, .int .i64 vwv, .int .i64 (H : Int), .slice (some ⟨g, 0, none⟩) H H] wr) ∧ Hid (BF (w.heap.size + 1 + 1) #[.int .i64 0, .int .i64 0, .int .i64 0, .slice none 0 0] wr) ∧ Hid (wr.ownsRow (w.heap.size + 3) 9 1 (.slice (some ⟨g, 0, none⟩) H H) H (cS (setsL (baseL H R) l k)))) (fun i _ => nv - (intOf i).toNat)
    case atStart => exact ⟨0, by omega, rfl, B2, N2, Z2, E2⟩
    case round =>
      clear B2 N2 Z2 E2 V2
      obtain ⟨k, hk, rfl, HB, HP, HZ, HE⟩ := hrel
      have kp := (unhide HP).S
      by_cases hlt : k < nv
      · have hlt' : (k : Int) < (nv : Int) := by omega
        have hkR : k < l.length := by rw [unhide HNV]; exact hlt
        obtain ⟨b1, off, ha, hblt, hc⟩ := (unhide HRV).at (by rw [cE_len]; omega)
        subst ha
        obtain ⟨x0, x1⟩ := row_ent hc k hkR
        obtain ⟨h0, h9⟩ := unhide HY k hkR
        obtain ⟨Y, hY⟩ : ∃ Y : Nat, Y = l[k].1.toNat := ⟨_, rfl⟩
        have eY : l[k].1 = (Y : Int) := by omega
        obtain ⟨d, ed⟩ : ∃ d, d = l[k].2 := ⟨_, rfl⟩
        rw [eY] at x0
        rw [← ed] at x1
        have hx0 : wr.cell? ⟨b1, off + k * 2, none⟩ = some (.int .i64 (Y : Int)) := ((unhide HB).cell (p := ⟨b1, off + k * 2, none⟩) hblt).trans x0
        have hx1 : wr.cell? ⟨b1, off + k * 2 + 1, none⟩ = some (.string d) := ((unhide HB).cell (p := ⟨b1, off + k * 2 + 1, none⟩) hblt).trans x1
        have hYH : (Y : Int) < (H : Int) := by omega
        have hYn : Y < H := by omega
        have HS : Hid ((cS (setsL (baseL H R) l k)).set Y (.string d) = cS (setsL (baseL H R) l (k + 1))) := by
          show _ = _
          rw [show setsL (baseL H R) l (k + 1) = (setsL (baseL H R) l k).set (yAt l k).toNat (cAt l k) from rfl, yAt_at l k hkR, cAt_at l k hkR, ← hY, ← ed]
          unfold cS; rw [List.map_set]
        obtain ⟨old, hold⟩ : ∃ old, (cS (setsL (baseL H R) l k))[Y]? = some old := ⟨_, List.getElem?_eq_getElem (by rw [cS_len, setsL_len, baseL_len]; exact hYn)⟩
        have hown := unhide HE
        have hcY : wr.cell? ⟨g, Y, none⟩ = some old := (hown.cellAt Y (by omega)).trans hold
        have hfY := hown.frozenAt Y
        have R1 := (hown.stored Y (.string d)).1
        rw [unhide HS] at R1
        have HE2 := hide (R1.alloc (.cells #[.int .i64 (Y : Int), .string d] 71))
        have HB2 := hide (((unhide HB).setCell (p := ⟨g, Y, none⟩) (by show w.heap.size ≤ g; have := unhide HG3; omega) (.string d)).alloc (by have := (unhide HB).size; simpa using this) (.cells #[.int .i64 (Y : Int), .string d] 71))
        have HP2 := hide (((unhide HP).far ⟨g, Y, none⟩ (.string d) (unhide HGN)).alloc (.cells #[.int .i64 (Y : Int), .string d] 71))
        have HZ2 := hide (((unhide HZ).far ⟨g, Y, none⟩ (.string d) (by show g ≠ (w.heap.size + 1 + 1); have := unhide HG3; omega)).alloc (.cells #[.int .i64 (Y : Int), .string d] 71))
        have hgw : g < wr.heap.size := (hown.lt g rfl).2
        have hgw2 : ¬ wr.heap.size = g := by omega
        have hNw : N < wr.heap.size := (unhide HP).lt
        have hNw2 : ¬ wr.heap.size = N := by omega
        have kp2 := ((unhide HP).alloc (.cells #[.int .i64 (Y : Int), .string d] 71)).S
        clear hc x0 x1 hY eY ed h0 h9 hold hown R1
        go_wp2_with fail
        go_roundw
        case rel => exact ⟨k + 1, by omega, by go_num, HB2, HP2, HZ2, HE2⟩
        case measure => simp [intOf]; omega
      · obtain rfl : k = nv := by omega
        have kz := (unhide HZ).S
        have kf := (unhide HZ).F
        go_wp2_with fail
        refine bodyPost_ret (v := .agg #[.int .i64 nbv, .int .i64 vwv, .int .i64 (H : Int), .slice (some ⟨g, 0, none⟩) H H]) (by simp [results, Tryz.results56, go_sem, kz]) rfl ⟨_, rfl, ?_, ?_⟩
        · refine Go.Joins.ownsRow_le (base := (w.heap.size + 3)) ?_ (by omega)
          have hl1 : (w.heap.size + 1 + 1) < (w.heap.size + 3) := by omega
          repeat refine ownsRow_setCell_below ?_ (by exact hl1) _
          exact unhide HE
        · have hl1 : w.heap.size ≤ (w.heap.size + 1 + 1) := by omega
          repeat refine Below.setCell ?_ (by exact hl1) _
          exact unhide HB
end Go.Proofs.YtmmnoepcklfonaaGreatDoor

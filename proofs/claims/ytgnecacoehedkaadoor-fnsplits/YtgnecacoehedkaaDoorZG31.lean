/- Texts put together: AppT OneI OneAll. -/
import Derived.Test.YtgnecacoehedkaaDoorZTreI
import Derived.Test.YtgnecacoehedkaaDoorZG21
import Derived.Test.YtgnecacoehedkaaDoorZG19
/- (*tree).appendTo, (*tree).layout: a tree's parts in a row. -/
namespace Go.Proofs.YtgnecacoehedkaaDoor
open Go.ChangeShapes Go.WideShapes Go.ChangeAt Go.RowKit
set_option maxHeartbeats 1000000 in
set_option maxRecDepth 100000 in
theorem iapp : ∀ (t : Tr) (base b : Nat) (bs : List Nat) (v : Value) (ps : List Pt) (w : World), TreeAt iBx w t b bs → w.ownsRow base 53 5 v ps.length (cPt ps) → base ≤ w.heap.size → (∀ k ∈ bs, v.ownBlock ≠ some k) → ps.length + t.cnt ≤ 1000 →
  Calls Tryd.prog 44 #[.pointer (some ⟨b, 0, none⟩), v] w fun e w' => ∃ v', e = .returned v' ∧ w'.ownsRow base 53 5 v' (ps ++ t.flat ps.length).length (cPt (ps ++ t.flat ps.length)) ∧ w.grownBy w' v.ownBlock ∧ From w v v' := by
 intro t
 obtain ⟨i0, hi, hz0, hz1, hz2⟩ := info_parts Tryd.infL53
 induction t using Tr.ind with
 | pane n =>
  intro base b bs v ps w ht ho hbase hd hlen
  obtain ⟨rfl, hbf⟩ := ht
  have c0 : w.cell? ⟨b, 0, none⟩ = some (.int .i64 n) := hbf.S 0
  have HBF := hide hbf
  have HO := hide ho
  clear hbf ho
  go_enter Tryd.func44, Tryd.ntmps44
  go_wp2_with fail
  refine (ipane_pane b n _ (unhide HBF)).mono ?_
  rintro e w1 ⟨rfl, rfl⟩
  go_wp2_with fail
  refine (ippart n _).mono ?_
  rintro e w2 ⟨rfl, hb2⟩
  have HB2 := hide hb2
  have hown : w2.ownsRow base 53 5 v ps.length (cPt ps) := ((heldZ_of (unhide HO)).below hb2 (Nat.le_refl _)).own
  have HLT : Hid (w1.heap.size ≤ w2.heap.size) := hb2.size
  clear hb2
  go_wp2_with (at_builtin; refine wpList_append_lies _ rfl (.tmp 8) (.tmp 14) 24 rfl base 53 i0 (.agg #[.int .i64 0, .bool false, .int .i64 0, .int .i64 0, .int .i64 0]) 5 40 Tryd.underlying24 hi hz0 hz1 hz2 rfl (by decide) _ _ _ rfl (hown.alloc _) ⟨w2.heap.size, 0, none⟩ 1 1 (cPt [⟨n, false, 0, -1, -1⟩]) rfl rfl (by exact news_new w2 (cPt [⟨n, false, 0, -1, -1⟩]) 53) (cPt_one _) (by decide) (by unfold maxLen; omega) (by omega) (by simp; have := unhide HLT; omega) _ rfl ?_; intro g2 c2 w3 hown2 hgrow2 hat2 hlt2)
  rw [← cPt_app] at hown2
  have HG : Hid (w1.grownBy w3 v.ownBlock) := grown_app (grown_below (unhide HB2)) hgrow2 (fun k hk => .inl hk)
  have HK : Hid (From w1 v (.slice (some ⟨g2, 0, none⟩) (ps.length + 1) c2)) := fun k hk => by
   have hk' : g2 = k := Option.some.inj hk
   subst hk'
   rcases hat2 with h | h
   ·exact .inl h
   ·right; rw [h]; simp; have := unhide HLT; omega
  have HO2 := hide hown2
  clear hown hown2 hgrow2 hat2 hlt2
  go_wp2_with fail
  go_ret
  refine ⟨_, rfl, ?_, unhide HG, unhide HK⟩
  have o := unhide HO2
  rw [List.length_append]
  exact o
 | split r s l t ihl ihr =>
  intro base b bs v ps w ht ho hbase hd hlen
  obtain ⟨bl, br, Ls, Rs, rfl, hbf, htl, htr⟩ := ht
  have c1 : w.cell? ⟨b, 1, none⟩ = some (.bool r) := hbf.S 1
  have c2 : w.cell? ⟨b, 2, none⟩ = some (.int .i64 s) := hbf.S 2
  obtain ⟨N, hN⟩ : ∃ N, ps.length = N := ⟨_, rfl⟩
  rw [hN] at ho hlen
  obtain ⟨va, vc, rfl, -⟩ := ownZ_rowV ho
  have HBF := hide hbf
  have HO := hide ho
  have HTL := hide htl
  have HTR := hide htr
  have HD := hide hd
  have HN := hide hN
  have hN1 : (N : Int) ≤ 1000 := by omega
  have HI := hide ihl
  have HJ := hide ihr
  have HLEN := hide hlen
  simp only [Tr.cnt] at HLEN
  clear hbf ho htl htr hd hN ihl ihr hlen
  go_enter Tryd.func44, Tryd.ntmps44
  go_wp2_with fail
  refine (ipane_split b r s bl br _ (unhide HBF)).mono ?_
  rintro e w1 ⟨rfl, rfl⟩
  have hown := unhide HO
  obtain ⟨M, hM⟩ : ∃ M, M = N + 1 := ⟨_, rfl⟩
  have hw1 : IntKind.i64.wrap ((N : Int) + 1) = (M : Int) := by rw [wrapi _ (by omega) (by omega)]; omega
  have HM := hide hM
  clear hM
  have hblt : b < w1.heap.size := (unhide HBF).lt
  have hne : some b ≠ (Value.slice va N vc).ownBlock := fun e => unhide HD b (by simp) e.symm
  have HNE := hide hne
  clear hne
  go_wp2_with fail
  go_region_held3 (fun w' => w'.cell? ⟨b, 1, none⟩ = some (.bool r) ∧ w'.cell? ⟨b, 2, none⟩ = some (.int .i64 s)) (first | go_keep | exact ⟨(hgrow1.cell_far ⟨b, 1, none⟩ (by simp; omega) (unhide HNE)).trans ((World.cell?_alloc_lt w1.drew _ ⟨b, 1, none⟩ hblt).trans c1), (hgrow1.cell_far ⟨b, 2, none⟩ (by simp; omega) (unhide HNE)).trans ((World.cell?_alloc_lt w1.drew _ ⟨b, 2, none⟩ hblt).trans c2)⟩) ((refine step_append_lies _ rfl _ _ 24 rfl base 53 i0 (.agg #[.int .i64 0, .bool false, .int .i64 0, .int .i64 0, .int .i64 0]) 5 40 Tryd.underlying24 hi hz0 hz1 hz2 rfl (by decide) _ _ _ rfl (by exact hown.alloc _) ⟨w1.heap.size, 0, none⟩ 1 1 (cPt [⟨0, r, s, (M : Int), 0⟩]) rfl rfl (by exact news_drew w1 (cPt [⟨0, r, s, (M : Int), 0⟩]) 53) (cPt_one _) (by decide) (by unfold maxLen; omega) (by omega) (by simp; omega) _ rfl ?_; intro g4 c4 w4 hown1 hgrow1 hat1 hlt1))
  rw [← cPt_app] at hown1
  have HG : Hid (w1.grownBy w4 (Value.slice va N vc).ownBlock) := grown_app (grownBy_drew (grownBy_refl w1 _)) hgrow1 (fun k hk => .inl hk)
  have HK : Hid (From w1 (.slice va N vc) (.slice (some ⟨g4, 0, none⟩) (N + 1) c4)) := fun k hk => by
   have hk' : g4 = k := Option.some.inj hk
   subst hk'
   rcases hat1 with h | h
   ·exact .inl h
   ·right; rw [h]; simp
  rw [← unhide HM] at hown1 HK ⊢
  have HO1 := hide hown1
  clear hown hown1 hgrow1 hat1 hlt1
  have HD4 : Hid (∀ k ∈ b :: (Ls ++ Rs), (Value.slice (some ⟨g4, 0, none⟩) M c4).ownBlock ≠ some k) := fun k hk e => by
   rcases unhide HK k e with h | h
   ·exact unhide HD k hk h
   ·have := (List.mem_cons.1 hk)
    rcases this with rfl | this
    ·omega
    ·rcases List.mem_append.1 this with this | this
     ·have := (unhide HTL).lt k this; omega
     ·have := (unhide HTR).lt k this; omega
  have BF4 := hide ((unhide HBF).grown (unhide HG) (fun e => unhide HD b (by simp) e))
  have TL4 := hide ((unhide HTL).grown (unhide HG) (fun k hk e => unhide HD k (by simp [hk]) e))
  have TR4 := hide ((unhide HTR).grown (unhide HG) (fun k hk e => unhide HD k (by simp [hk]) e))
  have d3 : w4.cell? ⟨b, 3, none⟩ = some (.pointer (some ⟨bl, 0, none⟩)) := (unhide BF4).S 3
  clear c1 c2
  go_wp2_with fail
  have hlen := unhide HLEN
  have hM := unhide HM
  have hz4 : base ≤ w4.heap.size := Nat.le_trans hbase (unhide HG).size
  have hpl : (ps ++ [(⟨0, r, s, (M : Int), 0⟩ : Pt)]).length = M := by rw [List.length_append, unhide HN]; simp; omega
  have T := unhide HI base bl Ls (.slice (some ⟨g4, 0, none⟩) M c4) (ps ++ [⟨0, r, s, (M : Int), 0⟩]) w4 (unhide TL4) (by rw [hpl]; exact unhide HO1) hz4 (fun k hk => unhide HD4 k (by simp [hk])) (by rw [hpl]; omega)
  refine T.mono ?_
  clear T
  rintro e w5 ⟨v5, rfl, ho5, hg5, hf5⟩
  rw [hpl] at ho5
  obtain ⟨K, hK⟩ : ∃ K, K = M + l.cnt := ⟨_, rfl⟩
  have hl5 : (ps ++ [(⟨0, r, s, (M : Int), 0⟩ : Pt)] ++ l.flat M).length = K := by rw [List.length_append, hpl, Tr.flat_len, hK]
  rw [hl5] at ho5
  obtain ⟨va5, vc5, rfl, -⟩ := ownZ_rowV ho5
  have hN0 : ps.length = N := unhide HN
  have hK0 : 0 < K := by omega
  obtain ⟨g5, hg5'⟩ : ∃ g5, va5 = some ⟨g5, 0, none⟩ := by
   rcases ho5.2 with ⟨e, e2⟩ | ⟨g, cap, cur, e, _⟩
   ·omega
   ·cases e; exact ⟨_, rfl⟩
  subst hg5'
  have HG5 := hide (grownFrom (unhide HG) (unhide HK) hg5)
  have HF5 := hide ((unhide HK).trans hf5 (unhide HG).size)
  have HD5 : Hid (∀ k ∈ b :: (Ls ++ Rs), (Value.slice (some ⟨g5, 0, none⟩) K vc5).ownBlock ≠ some k) := fun k hk e => by
   rcases hf5 k e with h | h
   ·exact unhide HD4 k hk h
   ·have := (List.mem_cons.1 hk)
    rcases this with rfl | this
    ·have := (unhide BF4).lt; omega
    ·rcases List.mem_append.1 this with this | this
     ·have := (unhide TL4).lt k this; omega
     ·have := (unhide TR4).lt k this; omega
  have BF5 := hide ((unhide BF4).grown hg5 (fun e => unhide HD4 b (by simp) e))
  have TR5 := hide ((unhide TR4).grown hg5 (fun k hk e => unhide HD4 k (by simp [hk]) e))
  obtain ⟨Q, hQ⟩ : ∃ Q, Q = ps ++ [(⟨0, r, s, (M : Int), 0⟩ : Pt)] ++ l.flat M := ⟨_, rfl⟩
  rw [← hQ] at ho5 hl5
  have hQN : N < Q.length := by omega
  have hQat : Q[N] = ⟨0, r, s, (M : Int), 0⟩ := by
   subst hQ
   rw [List.getElem_append_left (by rw [hpl]; omega), List.getElem_append_right (by omega)]
   simp
  obtain ⟨q0, q1, q2, q3, q4⟩ := cPt_at Q N hQN
  rw [hQat] at q4
  have x4 : w5.cell? ⟨g5, N * 5 + 4, none⟩ = some (.int .i64 0) := (ho5.cellAt (N * 5 + 4) (by omega)).trans q4
  have f4 := ho5.frozenAt (N * 5 + 4)
  have hst := (ho5.stored (N * 5 + 4) (.int .i64 (K : Int))).1
  rw [cPt_set_right Q N hQN, hQat] at hst
  have HST := hide hst
  have HQ : Hid (Q.set N ⟨0, r, s, (M : Int), (K : Int)⟩ = ps ++ [⟨0, r, s, (M : Int), (K : Int)⟩] ++ l.flat M) := by
   show _ = _
   rw [hQ, List.append_assoc, List.set_append_right _ _ (by omega), hN0]
   simp
  have HG6 := hide (grownFrom (unhide HG5) (unhide HF5) (stored_grown (w := w5) (g := g5) (j := N * 5 + 4) (u := .int .i64 (K : Int))))
  have BF6 := hide ((unhide BF5).far ⟨g5, N * 5 + 4, none⟩ (.int .i64 (K : Int)) (fun e => unhide HD5 b (by simp) (by rw [← e]; rfl)))
  have TR6 := hide ((unhide TR5).grown (stored_grown (w := w5) (g := g5) (j := N * 5 + 4) (u := .int .i64 (K : Int))) (fun k hk e => unhide HD5 k (by simp [hk]) e))
  have HKK := hide hK
  have hNK : (N : Int) < (K : Int) := by omega
  have HZ5 := hide (Nat.le_trans hz4 hg5.size)
  clear hM hz4 hpl hlen hl5 hN0 hK0 hQ hQN hQat q0 q1 q2 q3 q4 hst ho5 hg5 hf5 hK d3
  have d3 : (w5.setCell ⟨g5, N * 5 + 4, none⟩ (.int .i64 (K : Int))).cell? ⟨b, 4, none⟩ = some (.pointer (some ⟨br, 0, none⟩)) := (unhide BF6).S 4
  go_wp2_with fail
  have hlen := unhide HLEN
  have hM := unhide HM
  have hK := unhide HKK
  have hN0 := unhide HN
  obtain ⟨P, hP⟩ : ∃ P, P = ps ++ [(⟨0, r, s, (M : Int), (K : Int)⟩ : Pt)] ++ l.flat M := ⟨_, rfl⟩
  have hPL : P.length = K := by rw [hP, List.length_append, List.length_append, Tr.flat_len, hN0, hK, hM]; simp
  have ho6 := unhide HST
  rw [unhide HQ, ← hP] at ho6
  have T := unhide HJ base br Rs (.slice (some ⟨g5, 0, none⟩) K vc5) P (w5.setCell ⟨g5, N * 5 + 4, none⟩ (.int .i64 (K : Int))) (unhide TR6) (by rw [hPL]; exact ho6) (by have := unhide HZ5; simpa using this) (fun k hk => unhide HD5 k (by simp [hk])) (by rw [hPL]; omega)
  refine T.mono ?_
  clear T
  rintro e w7 ⟨v7, rfl, ho7, hg7, hf7⟩
  rw [hPL] at ho7
  have HE : Hid (P ++ t.flat K = ps ++ (Tr.split r s l t).flat N) := by
   show _ = _
   rw [hP]
   simp only [Tr.flat, List.append_assoc, ← hM, ← hK, List.cons_append, List.nil_append]
  have HO7 := hide ho7
  have HG7 := hide (grownFrom (unhide HG6) (unhide HF5) hg7)
  have HF7 := hide ((unhide HF5).trans hf7 (by have := (unhide HG6).size; simpa using this))
  clear hlen hM hK hN0 hP hPL ho6 ho7 hg7 hf7
  go_wp2_with fail
  go_ret
  refine ⟨_, rfl, ?_, unhide HG7, unhide HF7⟩
  rw [unhide HN, ← unhide HE]
  exact unhide HO7
theorem own_nil (w : World) (base : Nat) (e : TypeId) (z : Nat) : w.ownsRow base e z (.slice none 0 0) 0 [] := World.ownsRow_nil _ _ _ _
set_option maxHeartbeats 400000 in
set_option maxRecDepth 100000 in
theorem ilayout (t : Tr) (b : Nat) (bs : List Nat) (w : World) (ht : TreeAt iBx w t b bs) (hc : t.cnt ≤ 1000) :
  Calls Tryd.prog 20 #[.pointer (some ⟨b, 0, none⟩)] w fun e w' => ∃ a cap, e = .returned (.agg #[.slice a t.cnt cap]) ∧ w'.ownsRow w.heap.size 53 5 (.slice a t.cnt cap) t.cnt (cPt (t.flat 0)) ∧ Below w.heap.size w w' := by
 have HB0 := hide (Go.Joins.below_alloc1 w (Obj.cells #[.slice none 0 0] 26))
 have HT := hide (ht.alloc (Obj.cells #[.slice none 0 0] 26))
 clear ht
 go_enter Tryd.func20, Tryd.ntmps20
 go_wp2_with fail
 refine (iapp t (w.heap.size + 1) b bs (.slice none 0 0) [] _ (unhide HT) (own_nil _ _ _ _) (by simp) (fun k _ h => by cases h) (by simpa using hc)).mono ?_
 rintro e w2 ⟨v2, rfl, ho2, hg2, hf2⟩
 rw [List.nil_append, Tr.flat_len] at ho2
 obtain ⟨va, vc, rfl, -⟩ := ownZ_rowV ho2
 have x0 : w2.cell? ⟨w.heap.size, 0, none⟩ = some (.slice none 0 0) := (World.cell?_of_block (hg2.block w.heap.size (by simp) (by simp [Value.ownBlock]))).trans (World.cell?_alloc_mark w _ _ _ 0)
 have x1 : w2.frozen? ⟨w.heap.size, 0, none⟩ = false := (World.frozen?_of_block (hg2.block w.heap.size (by simp) (by simp [Value.ownBlock]))).trans (by simp [go_sem])
 have HO2 := hide ho2
 have HB2 := hide ((unhide HB0).grown hg2 (by simp) (fun k hk => by cases hk))
 clear ho2 hg2 hf2
 go_wp2_with fail
 refine bodyPost_ret (v := .agg #[.slice va t.cnt vc]) (by simp [results, Tryd.results20, go_sem, x0]) rfl ⟨va, vc, rfl, ?_, ?_⟩
 ·refine Go.Joins.ownsRow_le (base := w.heap.size + 1) ?_ (by omega)
  exact ownsRow_setCell_below (unhide HO2) (by exact Nat.lt_succ_self _) _
 ·exact Below.setCell (unhide HB2) (by exact Nat.le_refl _) _
end Go.Proofs.YtgnecacoehedkaaDoor

/- OneLayout: what the program and the specification answer. -/
namespace Go.Proofs.YtgnecacoehedkaaDoor
open Go.ChangeShapes Go.WideShapes Go.ChangeAt Go.RowKit
def oneL (n : Int) : List Pt := if pnB n then [⟨n, false, 0, -1, -1⟩] else []
def oneC (n : Int) : Int := if pnB n then 0 else 4
set_option maxHeartbeats 400000 in
set_option maxRecDepth 100000 in
theorem sl05one (n : Int) (w : World) : Calls Tryd.prog 28 #[.int .i64 n] w fun e w' => ∃ g, e = .returned (.agg #[.slice (some ⟨g, 0, none⟩) 1 1]) ∧ w'.ownsRow w.heap.size 53 5 (.slice (some ⟨g, 0, none⟩) 1 1) 1 (cPt [⟨n, false, 0, -1, -1⟩]) ∧ Below w.heap.size w w' := by
 go_enter Tryd.func28, Tryd.ntmps28
 go_wp2_with fail
 refine bodyPost_ret (v := .agg #[.slice (some ⟨w.heap.size + 1, 0, none⟩) 1 1]) (by simp [results, Tryd.results28, go_sem]) rfl ⟨w.heap.size + 1, rfl, ?_, ?_⟩
 ·refine Go.Joins.ownsRow_le (base := w.heap.size + 1) ?_ (by omega)
  have := World.ownsRow_lit (e := 53) (base := w.heap.size + 1) (size := 5) (w.alloc (Obj.cells #[.slice (some ⟨w.heap.size + 1, 0, none⟩) 1 1] 26)) #[.int .i64 n, .bool false, .int .i64 0, .int .i64 (-1), .int .i64 (-1)] 1 (by simp) (by decide) rfl
  simp at this
  exact this
 ·repeat refine Below.setCell ?_ (by exact Nat.le_refl _) _
  exact Go.Joins.below_alloc2 w _ _
end Go.Proofs.YtgnecacoehedkaaDoor

/- All that FnExactOneLayout's walk names. -/

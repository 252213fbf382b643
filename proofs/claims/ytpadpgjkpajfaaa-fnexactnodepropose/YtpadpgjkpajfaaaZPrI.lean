/- NodePropose that is taken: what the program answers. -/
import Derived.Test.YtpadpgjkpajfaaaZCopN
import Derived.Test.YtpadpgjkpajfaaaZAdI
import Derived.Test.YtpadpgjkpajfaaaZTlI
import Derived.Test.YtpadpgjkpajfaaaZG10
namespace Go.Proofs.Ytpadpgjkpajfaaa
open Go.ChangeShapes Go.WideShapes Go.ChangeAt Go.RowKit
set_option linter.unusedVariables false
theorem own_up {w : World} {base b2 : Nat} {e : TypeId} {z : Nat} {v : Value} {n : Nat} {xs : List Value} (h : w.ownsRow base e z v n xs) (hb : ∀ j, v.ownBlock = some j → b2 ≤ j) : w.ownsRow b2 e z v n xs := by
  obtain ⟨h1, h2 | ⟨g, cap, cur, hv, hbg, hr⟩⟩ := h
  · exact ⟨h1, .inl h2⟩
  · exact ⟨h1, .inr ⟨g, cap, cur, hv, hb g (by rw [hv]; rfl), hr⟩⟩
theorem heldZ_far {z : Nat} {w w' : World} {lo hi : Nat} {e : TypeId} {v : Value} {n : Nat} {xs : List Value} {p : Nat} (h : HeldZ z w lo hi e v n xs) (hf : ∀ k, k ≠ p → w'.heap[k]? = w.heap[k]?) (hs : w.heap.size ≤ w'.heap.size) (hp : p < lo ∨ hi ≤ p) : HeldZ z w' lo hi e v n xs :=
  ⟨own_farJ h.1 hf (fun hj => by have := (h.1.lt _ hj).1; have := h.2.1 _ hj; omega), h.2.1, Nat.le_trans h.2.2 hs⟩
theorem put13 {p : Nat} {u0 u1 u2 u3 u4 u5 u6 u7 u8 u9 ua ub uc : Value} (w : World) (h : BF p #[u0, u1, u2, u3, u4, u5, u6, u7, u8, u9, ua, ub, uc] w) (v0 v1 v2 v3 v4 v5 v6 v7 v8 v9 va vb vc : Value) :
    ∃ w', w' = ((((((((((((w.setCell ⟨p, 0, none⟩ v0).setCell ⟨p, 1, none⟩ v1).setCell ⟨p, 2, none⟩ v2).setCell ⟨p, 3, none⟩ v3).setCell ⟨p, 4, none⟩ v4).setCell ⟨p, 5, none⟩ v5).setCell ⟨p, 6, none⟩ v6).setCell ⟨p, 7, none⟩ v7).setCell ⟨p, 8, none⟩ v8).setCell ⟨p, 9, none⟩ v9).setCell ⟨p, 10, none⟩ va).setCell ⟨p, 11, none⟩ vb).setCell ⟨p, 12, none⟩ vc ∧ BF p #[v0, v1, v2, v3, v4, v5, v6, v7, v8, v9, va, vb, vc] w' ∧ (∀ k, k ≠ p → w'.heap[k]? = w.heap[k]?) ∧ Below p w w' := by
  refine ⟨_, rfl, ?_, ?_, ?_⟩
  · have q0 : BF p #[v0, u1, u2, u3, u4, u5, u6, u7, u8, u9, ua, ub, uc] _ := h.set 0 (by simp) v0
    have q1 : BF p #[v0, v1, u2, u3, u4, u5, u6, u7, u8, u9, ua, ub, uc] _ := q0.set 1 (by simp) v1
    have q2 : BF p #[v0, v1, v2, u3, u4, u5, u6, u7, u8, u9, ua, ub, uc] _ := q1.set 2 (by simp) v2
    have q3 : BF p #[v0, v1, v2, v3, u4, u5, u6, u7, u8, u9, ua, ub, uc] _ := q2.set 3 (by simp) v3
    have q4 : BF p #[v0, v1, v2, v3, v4, u5, u6, u7, u8, u9, ua, ub, uc] _ := q3.set 4 (by simp) v4
    have q5 : BF p #[v0, v1, v2, v3, v4, v5, u6, u7, u8, u9, ua, ub, uc] _ := q4.set 5 (by simp) v5
    have q6 : BF p #[v0, v1, v2, v3, v4, v5, v6, u7, u8, u9, ua, ub, uc] _ := q5.set 6 (by simp) v6
    have q7 : BF p #[v0, v1, v2, v3, v4, v5, v6, v7, u8, u9, ua, ub, uc] _ := q6.set 7 (by simp) v7
    have q8 : BF p #[v0, v1, v2, v3, v4, v5, v6, v7, v8, u9, ua, ub, uc] _ := q7.set 8 (by simp) v8
    have q9 : BF p #[v0, v1, v2, v3, v4, v5, v6, v7, v8, v9, ua, ub, uc] _ := q8.set 9 (by simp) v9
    have qa : BF p #[v0, v1, v2, v3, v4, v5, v6, v7, v8, v9, va, ub, uc] _ := q9.set 10 (by simp) va
    have qb : BF p #[v0, v1, v2, v3, v4, v5, v6, v7, v8, v9, va, vb, uc] _ := qa.set 11 (by simp) vb
    exact qb.set 12 (by simp) vc
  · intro k hk; iterate 13 rw [Below.heap_setCell _ _ _ _ hk]
  · iterate 13 refine Below.setCell ?_ (by exact Nat.le_refl _) _
    exact Below.refl _ _
set_option maxHeartbeats 4000000 in
set_option maxRecDepth 100000 in
theorem iprop_ok (id : Int) (nd : Nat) (tm vt : Int) (c : Nat) (el wt : Int) (a : Option Addr) (cap n : Nat) (l : List (Int × ByteArray)) (HN : Hid (l.length = n)) (av : Option Addr) (cv nv : Nat) (lv : List Int) (HNv : Hid (lv.length = nv)) (ax : Option Addr) (cx nx : Nat) (lx : List Int) (HNx : Hid (lx.length = nx)) (ag : Option Addr) (cg ng : Nat) (lg : List Int) (HNg : Hid (lg.length = ng)) (hn : n ≤ 1048576) (hnv : nv ≤ 1048576) (hnx : nx ≤ 1048576) (hng : ng ≤ 1048576) (HSZ : Hid (∀ k (h : k < l.length), l[k].2.size ≤ 1048576)) (d : ByteArray) (sz : Nat) (hsz : sz = d.size) (h1 : 1 ≤ sz) (h4 : sz ≤ 400) (HB : Hid (true = nodeB id (nd : Int) tm vt 2 (c : Int) el wt true l lv lx lg)) (hn60 : n < 60) (hnd : nd ≤ 5) (hcn : c ≤ n) (J : Nat → Nat) (HJ : Hid (∀ t (h : t < lx.length), lx[t] = (J t : Int) + 1 ∧ J t ≤ n)) (hnn : Hid (nx = nd)) (w : World) (hr : RowV w a (cE l)) (hrv : RowV w av (cI lv)) (hrx : RowV w ax (cI lx)) (hrg : RowV w ag (cI lg)) :
    Calls Try.prog 7 #[.agg #[.int .i64 id, .int .i64 (nd : Int), .int .i64 tm, .int .i64 vt, .int .i64 2, .bool true, .slice a n cap, .int .i64 (c : Int), .int .i64 el, .int .i64 wt, .slice av nv cv, .slice ax nx cx, .slice ag ng cg], .string d] w fun e w' => ∃ eA eC vA vC xA xC gA gC loe hie lov hiv lox hix log hig vm L lom, e = .returned (.tuple #[.agg #[.int .i64 id, .int .i64 (nd : Int), .int .i64 tm, .int .i64 vt, .int .i64 2, .bool true, .slice eA (n + 1) eC, .int .i64 ((advN id tm nd (l ++ [(tm, d)]) lg c (n + 1) : Nat) : Int), .int .i64 el, .int .i64 wt, .slice vA nv vC, .slice xA nx xC, .slice gA ng gC], vm, .int .i64 0]) ∧ HeldZ 2 w' loe hie 49 (.slice eA (n + 1) eC) (n + 1) (cE (l ++ [(tm, d)])) ∧ Held w' lov hiv 3 (.slice vA nv vC) nv (cI lv) ∧ Held w' lox hix 3 (.slice xA nx xC) nx (cI lx) ∧ Held w' log hig 3 (.slice gA ng gC) ng (cI lg) ∧ (hie ≤ lov ∨ hig ≤ loe) ∧ hiv ≤ lox ∧ hix ≤ log ∧ (lov ≤ hiv ∧ lox ≤ hix ∧ log ≤ hig) ∧ (hie ≤ lom ∧ hiv ≤ lom ∧ hix ≤ lom ∧ hig ≤ lom) ∧ (w.heap.size ≤ loe ∧ w.heap.size ≤ lov ∧ w.heap.size ≤ lox ∧ w.heap.size ≤ log) ∧ L.map (·.1) = tls id tm ((advN id tm nd (l ++ [(tm, d)]) lg c (n + 1) : Nat) : Int) (l ++ [(tm, d)]) J nd ∧ MOwn w' lom vm L ∧ Below w.heap.size w w' := by
  have B0 := hide (Go.Joins.below_alloc2 w (.cells #[.int .i64 id, .int .i64 (nd : Int), .int .i64 tm, .int .i64 vt, .int .i64 2, .bool true, .slice a n cap, .int .i64 (c : Int), .int .i64 el, .int .i64 wt, .slice av nv cv, .slice ax nx cx, .slice ag ng cg] 29) (.cells #[.int .i64 0, .int .i64 0, .int .i64 0, .int .i64 0, .int .i64 0, .bool false, .slice none 0 0, .int .i64 0, .int .i64 0, .int .i64 0, .slice none 0 0, .slice none 0 0, .slice none 0 0] 29))
  have A0 := hide ((BF.new w #[.int .i64 id, .int .i64 (nd : Int), .int .i64 tm, .int .i64 vt, .int .i64 2, .bool true, .slice a n cap, .int .i64 (c : Int), .int .i64 el, .int .i64 wt, .slice av nv cv, .slice ax nx cx, .slice ag ng cg] 29).alloc (.cells #[.int .i64 0, .int .i64 0, .int .i64 0, .int .i64 0, .int .i64 0, .bool false, .slice none 0 0, .int .i64 0, .int .i64 0, .int .i64 0, .slice none 0 0, .slice none 0 0, .slice none 0 0] 29))
  have Z0 := hide (BF.new (w.alloc (.cells #[.int .i64 id, .int .i64 (nd : Int), .int .i64 tm, .int .i64 vt, .int .i64 2, .bool true, .slice a n cap, .int .i64 (c : Int), .int .i64 el, .int .i64 wt, .slice av nv cv, .slice ax nx cx, .slice ag ng cg] 29)) #[.int .i64 0, .int .i64 0, .int .i64 0, .int .i64 0, .int .i64 0, .bool false, .slice none 0 0, .int .i64 0, .int .i64 0, .int .i64 0, .slice none 0 0, .slice none 0 0, .slice none 0 0] 29)
  simp only [World.size_alloc] at Z0
  have HRe := hide hr
  have HRv := hide hrv
  have HRx := hide hrx
  have HRg := hide hrg
  have la : (d.size : Int) = (sz : Int) := by rw [hsz]
  have dl : ¬ (65536 : Int) < (sz : Int) := by omega
  have HW : Hid (true = inB (sz : Int) 1 400) := by show _ = _; unfold inB; simp; omega
  have n60 : ((n : Int) == 60) = false := by rw [beq_eq_false_iff_ne]; omega
  clear hr hrv hrx hrg hsz
  have ka := (unhide A0).S
  go_enter Try.func7, Try.ntmps7
  go_wp2_with fail
  refine (inodeok id (nd : Int) tm vt 2 (c : Int) el wt true a cap n l HN av cv nv lv HNv ax cx nx lx HNx ag cg ng lg HNg hn hnv hnx hng HSZ true HB _ ((unhide HRe).below (unhide B0)) ((unhide HRv).below (unhide B0)) ((unhide HRx).below (unhide B0)) ((unhide HRg).below (unhide B0))).mono ?_
  rintro e w1 ⟨rfl, hb1⟩
  have B1 := hide ((unhide B0).trans (hb1.mono (unhide B0).size))
  have A1 := hide ((unhide A0).below hb1)
  have Z1 := hide ((unhide Z0).below hb1)
  clear hb1 B0 A0 Z0 ka HB
  have ka := (unhide A1).S
  go_wp2_with fail
  refine (iwi (sz : Int) 1 400 true HW w1).mono ?_
  rintro e w1b ⟨rfl, hw⟩
  subst hw
  go_wp2_with fail
  refine (ilast id (nd : Int) tm vt 2 (c : Int) el wt true a cap n av cv nv ax cx nx ag cg ng _).mono ?_
  rintro e w2 ⟨rfl, hb2⟩
  have B2 := hide ((unhide B1).trans (hb2.mono (unhide B1).size))
  have A2 := hide ((unhide A1).below hb2)
  have Z2 := hide ((unhide Z1).below hb2)
  clear hb2 B1 A1 Z1 ka
  have ka := (unhide A2).S
  go_wp2_with fail
  refine (icopN id (nd : Int) tm vt 2 (c : Int) el wt true a cap n l HN av cv nv lv HNv ax cx nx lx HNx ag cg ng lg HNg hn hnv hnx hng _ ((unhide HRe).below (unhide B2)) ((unhide HRv).below (unhide B2)) ((unhide HRx).below (unhide B2)) ((unhide HRg).below (unhide B2))).mono ?_
  rintro e w3 ⟨eA, eC, vA, vC, xA, xC, gA, gC, loe, hie, lov, hiv, lox, hix, log, hig, rfl, he, hv, hx, hg, ⟨q0, q1, q2, q3⟩, ⟨r0, r1, r2, r3⟩, hb3⟩
  have zl2 := (unhide Z2).lt
  have B3 := hide ((unhide B2).trans (hb3.mono (unhide B2).size))
  have A3 := hide ((unhide A2).below hb3)
  have Z3 := hide ((unhide Z2).below hb3)
  obtain ⟨P, hP⟩ : ∃ P, P = w3.heap.size := ⟨_, rfl⟩
  have hw2P : w2.heap.size ≤ P := by rw [hP]; exact hb3.size
  have hPz : w.heap.size + 1 < P := by rw [hP]; exact (unhide Z3).lt
  have hPh : hie ≤ P ∧ hiv ≤ P ∧ hix ≤ P ∧ hig ≤ P := by rw [hP]; exact ⟨he.le, hv.le, hx.le, hg.le⟩
  obtain ⟨p0, p1, p2, p3⟩ := hPh
  have hb4 : Below w3.heap.size w3 ((w3.alloc (.cells #[.int .i64 id, .int .i64 (nd : Int), .int .i64 tm, .int .i64 vt, .int .i64 2, .bool true, .slice eA n eC, .int .i64 (c : Int), .int .i64 el, .int .i64 wt, .slice vA nv vC, .slice xA nx xC, .slice gA ng gC] 29)).alloc (.cells #[.int .i64 tm, .string d] 49)) := Go.Joins.below_alloc2 w3 (.cells #[.int .i64 id, .int .i64 (nd : Int), .int .i64 tm, .int .i64 vt, .int .i64 2, .bool true, .slice eA n eC, .int .i64 (c : Int), .int .i64 el, .int .i64 wt, .slice vA nv vC, .slice xA nx xC, .slice gA ng gC] 29) (.cells #[.int .i64 tm, .string d] 49)
  have B4 := hide ((unhide B3).trans (hb4.mono (unhide B3).size))
  have A4 := hide ((unhide A3).below hb4)
  have Z4 := hide ((unhide Z3).below hb4)
  have P4 := hide ((BF.new w3 #[.int .i64 id, .int .i64 (nd : Int), .int .i64 tm, .int .i64 vt, .int .i64 2, .bool true, .slice eA n eC, .int .i64 (c : Int), .int .i64 el, .int .i64 wt, .slice vA nv vC, .slice xA nx xC, .slice gA ng gC] 29).alloc (.cells #[.int .i64 tm, .string d] 49))
  have E4 := hide (BF.new (w3.alloc (.cells #[.int .i64 id, .int .i64 (nd : Int), .int .i64 tm, .int .i64 vt, .int .i64 2, .bool true, .slice eA n eC, .int .i64 (c : Int), .int .i64 el, .int .i64 wt, .slice vA nv vC, .slice xA nx xC, .slice gA ng gC] 29)) #[.int .i64 tm, .string d] 49)
  have e4 := he.below hb4 he.le
  have e4o := own_low e4.own q0
  have v4 := hide (hv.below hb4 hv.le)
  have x4 := hide (hx.below hb4 hx.le)
  have g4 := hide (hg.below hb4 hg.le)
  have A3c := hide ((unhide A3).alloc (.cells #[.int .i64 id, .int .i64 (nd : Int), .int .i64 tm, .int .i64 vt, .int .i64 2, .bool true, .slice eA n eC, .int .i64 (c : Int), .int .i64 el, .int .i64 wt, .slice vA nv vC, .slice xA nx xC, .slice gA ng gC] 29))
  have P3c := hide (BF.new w3 #[.int .i64 id, .int .i64 (nd : Int), .int .i64 tm, .int .i64 vt, .int .i64 2, .bool true, .slice eA n eC, .int .i64 (c : Int), .int .i64 el, .int .i64 wt, .slice vA nv vC, .slice xA nx xC, .slice gA ng gC] 29)
  have ka3 := (unhide A3c).S
  have kp3 := (unhide P3c).S
  have kp4 := (unhide P4).S
  have kp4f := (unhide P4).F
  have zl4 : ((w3.alloc (.cells #[.int .i64 id, .int .i64 (nd : Int), .int .i64 tm, .int .i64 vt, .int .i64 2, .bool true, .slice eA n eC, .int .i64 (c : Int), .int .i64 el, .int .i64 wt, .slice vA nv vC, .slice xA nx xC, .slice gA ng gC] 29)).alloc (.cells #[.int .i64 tm, .string d] 49)).heap.size = P + 2 := by simp only [World.size_alloc]; omega
  obtain ⟨i0, hi0, hz0, hz1, hz2⟩ := info_parts Try.infE49
  clear hb3 B2 A2 Z2 ka he hv hx hg
  go_wp2_with (at_builtin; refine wpList_append_lies _ rfl (.tmp 45) (.tmp 50) 27 rfl w2.heap.size 49 i0 (.agg #[.int .i64 0, .string ⟨#[]⟩]) 2 24 Try.underlying27 hi0 hz0 hz1 hz2 rfl (by decide) (.slice eA n eC) n (cE l) rfl e4o ⟨w3.heap.size + 1, 0, none⟩ 1 1 [.int .i64 tm, .string d] rfl rfl (by have := news_new (w3.alloc (.cells #[.int .i64 id, .int .i64 (nd : Int), .int .i64 tm, .int .i64 vt, .int .i64 2, .bool true, .slice eA n eC, .int .i64 (c : Int), .int .i64 el, .int .i64 wt, .slice vA nv vC, .slice xA nx xC, .slice gA ng gC] 29)) [.int .i64 tm, .string d] 49; rw [World.size_alloc] at this; exact this) (by intro u hu; simp at hu; rcases hu with rfl | rfl <;> rfl) (by decide) (by unfold maxLen; omega) (by omega) (by omega) (P + 2) zl4 ?_; intro g7 c7 w7 ho7 hg7 hat7 hlt7; have P7q := (unhide P4).grown hg7 (fun hj => by have := (e4.blk _ hj).2; omega); have kp7 := P7q.S; have kp7f := P7q.F)
  have hl7 : ∃ loe' hie', HeldZ 2 w7 loe' hie' 49 (.slice (some ⟨g7, 0, none⟩) (n + 1) c7) (n + 1) (cE (l ++ [(tm, d)])) ∧ (hie' ≤ lov ∨ hig ≤ loe') ∧ (hie' ≤ P ∨ P < loe') ∧ w.heap.size + 2 ≤ loe' := by
    have ho : w7.ownsRow w2.heap.size 49 2 (.slice (some ⟨g7, 0, none⟩) (n + 1) c7) (n + 1) (cE (l ++ [(tm, d)])) := by rw [cE_app]; exact ho7
    rcases hat7 with h | h
    · refine ⟨loe, hie, ⟨own_up ho (fun j hj => ?_), fun j hj => ?_, ?_⟩, .inl q1, .inl p0, by omega⟩
      · have e1 : g7 = j := Option.some.inj hj
        subst e1; exact (e4.own.lt _ h).1
      · have e1 : g7 = j := Option.some.inj hj
        subst e1; exact (e4.blk _ h).2
      · have := hg7.size; omega
    · refine ⟨P + 2, w7.heap.size, ⟨own_up ho (fun j hj => ?_), fun j hj => (ho.lt j hj).2, Nat.le_refl _⟩, .inr (by omega), .inr (by omega), by omega⟩
      have e1 : g7 = j := Option.some.inj hj
      omega
  obtain ⟨loe', hie', e7, ap1, ap2, lw7⟩ := hl7
  have hcc : n + 1 ≤ c7 := by
    rcases ho7.2 with ⟨hx0, _⟩ | ⟨gq, cq, cur, hvq, _, _, hnc, _⟩
    · cases hx0
    · injection hvq with _ _ e3; rw [e3]; exact hnc
  have row_ne : ∀ j, (Value.slice eA n eC).ownBlock = some j → j < P := fun j hj => by have := e4.blk j hj; omega
  have P7 := (unhide P4).grown hg7 (fun hj => by rw [← hP] at hj; have := row_ne _ hj; omega)
  rw [← hP] at P7
  have A7 := (unhide A4).grown hg7 (fun hj => by have := (e4o.lt _ hj).1; omega)
  have Z7 := (unhide Z4).grown hg7 (fun hj => by have := (e4o.lt _ hj).1; omega)
  have B7 := (unhide B4).grown hg7 (unhide B4).size (fun j hj => by have := (e4o.lt _ hj).1; omega)
  have eblk : ∀ k, (Value.slice eA n eC).ownBlock = some k → loe ≤ k ∧ k < hie := fun k hk => e4.blk k hk
  have v7 := (unhide v4).grown hg7 (fun k hk => by have := eblk k hk; omega)
  have x7 := (unhide x4).grown hg7 (fun k hk => by have := eblk k hk; omega)
  have g7r := (unhide g4).grown hg7 (fun k hk => by have := eblk k hk; omega)
  obtain ⟨w8, hv8⟩ : ∃ w8, w8 = w7.setCell ⟨P, 6, none⟩ (.slice (some ⟨g7, 0, none⟩) (n + 1) c7) := ⟨_, rfl⟩
  have hf8 : ∀ k, k ≠ P → w8.heap[k]? = w7.heap[k]? := fun k hk => by rw [hv8]; exact Below.heap_setCell _ _ _ _ hk
  have hs8 : w7.heap.size ≤ w8.heap.size := by rw [hv8]; simp
  have P8 : BF P #[.int .i64 id, .int .i64 (nd : Int), .int .i64 tm, .int .i64 vt, .int .i64 2, .bool true, .slice (some ⟨g7, 0, none⟩) (n + 1) c7, .int .i64 (c : Int), .int .i64 el, .int .i64 wt, .slice vA nv vC, .slice xA nx xC, .slice gA ng gC] w8 := by rw [hv8]; exact P7.set 6 (by simp) _
  have Z8 := hide (Z7.keep hs8 (hf8 _ (by omega)))
  have B8 := hide (show Below w.heap.size w w8 by rw [hv8]; exact Below.setCell B7 (by show w.heap.size ≤ P; omega) _)
  have e8 := hide (heldZ_far e7 hf8 hs8 (by omega))
  have v8 := hide (heldZ_far (z := 1) v7 hf8 hs8 (.inr p1))
  have x8 := hide (heldZ_far (z := 1) x7 hf8 hs8 (.inr p2))
  have g8 := hide (heldZ_far (z := 1) g7r hf8 hs8 (.inr p3))
  have HN2 : Hid ((l ++ [(tm, d)]).length = n + 1) := by show _ = _; rw [List.length_append, unhide HN]; rfl
  have T := hide (iadvance P id nd tm vt 2 c el wt true (some ⟨g7, 0, none⟩) c7 (n + 1) vA vC nv xA xC nx gA gC ng (l ++ [(tm, d)]) HN2 (by omega) lg HNg hng hnd (by omega) w8 P8 (unhide e8).rowV (show Held _ _ _ _ _ _ _ from unhide g8).rowV)
  have HP := hide hP
  have HV8 := hide hv8
  have AP1 := hide ap1
  have AP2 := hide ap2
  clear ho7 hg7 hat7 hlt7 e7 v7 x7 g7r A7 Z7 B7 P8 hf8 hs8 e4 e4o eblk row_ne ka3 kp3 kp4 kp4f A3 B3 Z3 A4 B4 Z4 P4 E4 v4 x4 g4 A3c P3c hb4 zl4 hi0 hz0 hz1 hz2 ap1 ap2 hP hv8 P7 P7q
  rw [← unhide HP, ← unhide HV8]
  clear kp7 kp7f HV8
  refine (unhide T).mono ?_
  clear T
  rintro e w9 ⟨rfl, P9, G9⟩
  obtain ⟨CC, hCC⟩ : ∃ CC : Int, CC = ((advN id tm nd (l ++ [(tm, d)]) lg c (n + 1) : Nat) : Int) := ⟨_, rfl⟩
  rw [← hCC] at P9
  have Z9 := hide ((unhide Z8).grown G9 (fun h => by injection h with h; omega))
  have B9 := hide ((unhide B8).grown G9 (unhide B8).size (fun k hk => by injection hk with hk; omega))
  have e9 := hide ((unhide e8).grown G9 (fun k hk => by injection hk with hk; have := unhide AP2; omega))
  have v9 := hide (HeldZ.grown (z := 1) (unhide v8) G9 (fun k hk => by injection hk with hk; omega))
  have x9 := hide (HeldZ.grown (z := 1) (unhide x8) G9 (fun k hk => by injection hk with hk; omega))
  have g9 := hide (HeldZ.grown (z := 1) (unhide g8) G9 (fun k hk => by injection hk with hk; omega))
  have kp9 := P9.S
  have PD := hide P9.drew
  have ZD := hide (unhide Z9).drew
  have BD := hide (unhide B9).drew
  have eD := hide ((unhide e9).below (Below.refl _ _).drew (unhide e9).le)
  have vD : Hid (Held w9.drew lov hiv 3 (.slice vA nv vC) nv (cI lv)) := HeldZ.below (z := 1) (unhide v9) (Below.refl _ _).drew (unhide v9).2.2
  have xD : Hid (Held w9.drew lox hix 3 (.slice xA nx xC) nx (cI lx)) := HeldZ.below (z := 1) (unhide x9) (Below.refl _ _).drew (unhide x9).2.2
  have gD : Hid (Held w9.drew log hig 3 (.slice gA ng gC) ng (cI lg)) := HeldZ.below (z := 1) (unhide g9) (Below.refl _ _).drew (unhide g9).2.2
  have HCC := hide hCC
  clear P9 G9 Z8 B8 e8 v8 x8 g8 Z9 B9 e9 v9 x9 g9 hCC
  go_wp2_with fail
  refine wp_region_held_drew (S := fun w' => ∀ o, w'.cell? ⟨P, o, none⟩ = (#[.int .i64 id, .int .i64 (nd : Int), .int .i64 tm, .int .i64 vt, .int .i64 2, .bool true, .slice (some ⟨g7, 0, none⟩) (n + 1) c7, .int .i64 CC, .int .i64 el, .int .i64 wt, .slice vA nv vC, .slice xA nx xC, .slice gA ng gC] : Array Value)[o]?) (by kernel_rfl) kp9 (fun hHeld => ?_)
  generalize w9.drew = v9 at PD ZD BD eD vD xD gD hHeld ⊢
  refine wpAnyH_take (i := 0) (oi := { dst := some 54, op := .load 29 (.tmp 7), type := 29, pos := "l08_raft.go:378", after := #[], guard := none }) (v := ?_) rfl (by kernel_rfl) (by kernel_rfl) (by kernel_rfl) (fun _ _ _ h => h) (Or.inl ⟨by rfl, ?_⟩) (by assumption) ?_
  rotate_left 1
  · (intro w' hSw; (try dsimp only at hSw); go_simp; try with_reducible rfl)
  try simp only [Act.put, qqA, qqB, qqC]
  refine wpAnyH_take (i := 1) (oi := { dst := some 55, op := .load 29 (.tmp 7), type := 29, pos := "l08_raft.go:378", after := #[], guard := none }) (v := ?_) rfl (by kernel_rfl) (by kernel_rfl) (by kernel_rfl) (fun _ _ _ h => h) (Or.inl ⟨by rfl, ?_⟩) (by assumption) ?_
  rotate_left 1
  · (intro w' hSw; (try dsimp only at hSw); go_simp; try with_reducible rfl)
  try simp only [Act.put, qqA, qqB, qqC]
  refine wpAnyH_ready (rs := [2]) (by kernel_rfl) (by simp) ?_
  refine AllReadyH.cons (o := { dst := some 56, op := .call { callee := .value (.func 27), args := #[.tmp 55], argTypes := #[29] }, type := 30, pos := "l08_raft.go:378", after := #[{ on := 1, ground := .data }], guard := none }) rfl (fun K hK => ?_) AllReadyH.nil
  go_simp
  refine (itellall id nd tm vt 2 CC el wt true (some ⟨g7, 0, none⟩) c7 (n + 1) vA vC nv xA xC nx gA gC ng (l ++ [(tm, d)]) HN2 (by omega) lx J (fun t h => ⟨(unhide HJ t h).1, by have := (unhide HJ t h).2; omega⟩) HNx hnd hnn hcc _ (unhide eD).rowV (unhide xD).rowV).mono ?_
  rintro e u1 ⟨vm, Lm, rfl, hLm, hMo, hb10⟩
  obtain ⟨am, cm9, rfl, -⟩ := ownZ_rowV hMo.row
  have P10 := hide ((unhide PD).below hb10)
  have Z10 := hide ((unhide ZD).below hb10)
  have B10 := hide ((unhide BD).trans (hb10.mono (unhide BD).size))
  have e10 := hide ((unhide eD).below hb10 (unhide eD).le)
  have v10 := hide ((unhide vD).below hb10 (unhide vD).le)
  have x10 := hide ((unhide xD).below hb10 (unhide xD).le)
  have g10 := hide ((unhide gD).below hb10 (unhide gD).le)
  have M10 := hide hMo
  have HLm := hide hLm
  obtain ⟨lom, hlom⟩ : ∃ q, q = v9.heap.size := ⟨_, rfl⟩
  have le10 : Hid (hie' ≤ lom ∧ hiv ≤ lom ∧ hix ≤ lom ∧ hig ≤ lom ∧ w.heap.size + 1 < lom) := by
    show _ ∧ _; rw [hlom]; exact ⟨(unhide eD).le, (unhide vD).le, (unhide xD).le, (unhide gD).le, (unhide ZD).lt⟩
  rw [← hlom] at M10
  clear hb10 hMo hLm hlom PD ZD BD eD vD xD gD
  go_wp2_with fail
  refine hK.out _ _ ?_ (fun hHeld2 => ?_)
  · exact (unhide P10).S
  clear hK K
  try simp only [Act.put, qqA, qqB, qqC]
  refine wpAnyH_ready (rs := [3]) (by kernel_rfl) (by simp) ?_
  refine AllReadyH.cons (o := { dst := none, op := .store 29 (.tmp 4) (.tmp 54), type := 0, pos := "l08_raft.go:378", after := #[{ on := 0, ground := .data }, { on := 2, ground := .chain }, { on := 0, ground := .phase }, { on := 1, ground := .textOnly Go.Departure.lateStores }, { on := 2, ground := .textOnly Go.Departure.lateStoresUnsure }], guard := none }) rfl (fun K hK => ?_) AllReadyH.nil
  have kz := (unhide Z10).S
  have kzf := (unhide Z10).F
  obtain ⟨wz, hvz, hFZ, hfz, hbz⟩ := put13 u1 (unhide Z10) (.int .i64 id) (.int .i64 (nd : Int)) (.int .i64 tm) (.int .i64 vt) (.int .i64 2) (.bool true) (.slice (some ⟨g7, 0, none⟩) (n + 1) c7) (.int .i64 CC) (.int .i64 el) (.int .i64 wt) (.slice vA nv vC) (.slice xA nx xC) (.slice gA ng gC)
  have P11 := hide ((unhide P10).keep hbz.size (hfz P (by omega)))
  go_simp
  rw [← hvz]
  refine hK.out _ _ ?_ (fun hHeld3 => ?_)
  · exact (unhide P11).S
  clear hK K
  try simp only [Act.put, qqA, qqB, qqC]
  refine wpAnyH_take (i := 4) (oi := { dst := some 5, op := .assign (.tmp 56), type := 30, pos := "l08_raft.go:378", after := #[{ on := 2, ground := .data }, { on := 3, ground := .chain }, { on := 0, ground := .phase }, { on := 1, ground := .phase }, { on := 2, ground := .phase }, { on := 3, ground := .phase }], guard := none }) (v := ?_) rfl (by kernel_rfl) (by kernel_rfl) (by kernel_rfl) (fun _ _ _ h => h) (Or.inl ⟨by rfl, ?_⟩) (by assumption) ?_
  rotate_left 1
  · (intro w' hSw; (try dsimp only at hSw); go_simp; try with_reducible rfl)
  try simp only [Act.put, qqA, qqB, qqC]
  refine wpAnyH_take (i := 5) (oi := { dst := some 6, op := .assign (.const (.int .i64 0)), type := 3, pos := "l08_raft.go:378", after := #[{ on := 4, ground := .chain }, { on := 0, ground := .phase }, { on := 1, ground := .phase }, { on := 2, ground := .phase }, { on := 3, ground := .phase }, { on := 4, ground := .phase }], guard := none }) (v := ?_) rfl (by kernel_rfl) (by kernel_rfl) (by kernel_rfl) (fun _ _ _ h => h) (Or.inl ⟨by rfl, ?_⟩) (by assumption) ?_
  rotate_left 1
  · (intro w' hSw; (try dsimp only at hSw); go_simp; try with_reducible rfl)
  try simp only [Act.put, qqA, qqB, qqC]
  refine wpAnyH_done (by kernel_rfl) ?_ _
  have kf := hFZ.S
  have hl := unhide le10
  have e11 := heldZ_far (unhide e10) hfz hbz.size (.inl (by omega))
  have v11 := heldZ_far (z := 1) (unhide v10) hfz hbz.size (.inl (by omega))
  have x11 := heldZ_far (z := 1) (unhide x10) hfz hbz.size (.inl (by omega))
  have g11 := heldZ_far (z := 1) (unhide g10) hfz hbz.size (.inl (by omega))
  have hm := unhide M10
  have m11 : MOwn wz lom (.slice am Lm.length cm9) Lm := ⟨own_farJ hm.row hfz (fun h => by have := (hm.row.lt _ h).1; omega), fun p hp => own_farJ (hm.ent p hp) hfz (fun h => by have := ((hm.ent p hp).lt _ h).1; omega), hm.apart, hm.off⟩
  have BZ := (unhide B10).trans (hbz.mono (Nat.le_succ _))
  have FIN := hide (And.intro e11 (And.intro v11 (And.intro x11 (And.intro g11 (And.intro m11 BZ)))))
  clear hvz hfz hbz kz kzf e11 v11 x11 g11 m11 BZ hm
  go_wp2_with fail
  obtain ⟨e11, v11, x11, g11, m11, BZ⟩ := unhide FIN
  refine bodyPost_ret (v := .tuple #[.agg #[.int .i64 id, .int .i64 (nd : Int), .int .i64 tm, .int .i64 vt, .int .i64 2, .bool true, .slice (some ⟨g7, 0, none⟩) (n + 1) c7, .int .i64 CC, .int .i64 el, .int .i64 wt, .slice vA nv vC, .slice xA nx xC, .slice gA ng gC], .slice am Lm.length cm9, .int .i64 0]) (by simp [results, Try.results7, go_sem, kf]) rfl ⟨some ⟨g7, 0, none⟩, c7, vA, vC, xA, xC, gA, gC, loe', hie', lov, hiv, lox, hix, log, hig, _, Lm, lom, by rw [unhide HCC], e11, v11, x11, g11, unhide AP1, q2, q3, ⟨r1, r2, r3⟩, ⟨hl.1, hl.2.1, hl.2.2.1, hl.2.2.2.1⟩, ⟨by omega, by omega, by omega, by omega⟩, by rw [← unhide HCC]; exact unhide HLm, m11, BZ⟩
end Go.Proofs.Ytpadpgjkpajfaaa

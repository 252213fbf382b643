/- The specification's stand. -/
import Derived.Test.YtjlajpnhcphngaaZSlS
import Derived.Test.YtjlajpnhcphngaaZUtS
namespace Go.Proofs.Ytjlajpnhcphngaa
open Go.ChangeShapes Go.WideShapes Go.ChangeAt Go.RowKit
set_option linter.unusedVariables false
theorem lit_oneS (w : World) (t : TypeId) (base : Nat) (x : Value) (hb : base ≤ w.heap.size) : (w.alloc (.cells #[x] t)).ownsRow base t 1 (.slice (some ⟨w.heap.size, 0, none⟩) 1 1) 1 [x] := by
  have h := World.ownsRow_lit (e := t) (base := base) (size := 1) w #[x] 1 hb (by unfold maxLen; omega) rfl
  simpa using h
set_option maxHeartbeats 4000000 in
set_option maxRecDepth 100000 in
theorem sstand_one (P lo : Nat) (id : Int) (nd : Nat) (tm vt ro : Int) (c : Nat) (el wt : Int) (up : Bool) (a : Option Addr) (cap n : Nat) (av : Option Addr) (cv nv bx cx bg cg bo co : Nat) (l : List Ent) (HN : Hid (l.length = n)) (hn : n ≤ 60) (hnc : n ≤ cap) (hnd : nd ≤ 5) (hcn : c ≤ n) (lx lg : List Int) (HNx : Hid (lx.length = nd)) (HNg : Hid (lg.length = nd)) (dr : Nat) (hdr : dr ≤ 1000000) (htm : 0 ≤ tm ∧ tm ≤ 1000) (t1 : Int) (HT1 : Hid (t1 = tm + 1)) (h9 : nd = 1) (hlog : logB t1 1 l = true) (w : World) (hP : BF P #[.int .i64 id, .int .i64 (nd : Int), .int .i64 tm, .int .i64 vt, .int .i64 ro, .bool up, .slice a n cap, .int .i64 (c : Int), .int .i64 el, .int .i64 wt, .slice av nv cv, .slice (some ⟨bx, 0, none⟩) nd cx, .slice (some ⟨bg, 0, none⟩) nd cg, .slice (some ⟨bo, 0, none⟩) 0 co] w) (hlo : lo ≤ P) (hE : w.ownsRow lo 68 2 (.slice a n cap) n (cE l)) (hX : w.ownsRow lo 3 1 (.slice (some ⟨bx, 0, none⟩) nd cx) nd (cI lx)) (hG : w.ownsRow lo 3 1 (.slice (some ⟨bg, 0, none⟩) nd cg) nd (cI lg)) (hO : w.ownsRow lo 54 9 (.slice (some ⟨bo, 0, none⟩) 0 co) 0 []) (hEP : (Value.slice a n cap).ownBlock ≠ some P) (hNP : bx ≠ P ∧ bg ≠ P ∧ bo ≠ P) (hXG : bx ≠ bg) :
    Calls Try.prog 54 #[.pointer (some ⟨P, 0, none⟩), .int .i64 (dr : Int)] w fun e w' => ∃ ea ec gV a1 n1 c1 L1, e = .returned (.tuple #[]) ∧ BF P #[.int .i64 id, .int .i64 (nd : Int), .int .i64 t1, .int .i64 id, .int .i64 2, .bool up, .slice ea (ldL t1 l).length ec, .int .i64 ((advN id t1 nd (ldL t1 l) (List.replicate nd (0 : Int)) c (ldL t1 l).length : Nat) : Int), .int .i64 0, .int .i64 (5 + (dr : Int) % 8), .slice (some ⟨gV, 0, none⟩) 1 1, .slice (some ⟨bx, 0, none⟩) nd cx, .slice (some ⟨bg, 0, none⟩) nd cg, .slice a1 n1 c1] w' ∧ w'.ownsRow lo 68 2 (.slice ea (ldL t1 l).length ec) (ldL t1 l).length (cE (ldL t1 l)) ∧ w'.ownsRow lo 3 1 (.slice (some ⟨gV, 0, none⟩) 1 1) 1 (cI [id]) ∧ w'.ownsRow lo 3 1 (.slice (some ⟨bx, 0, none⟩) nd cx) nd (cI (List.replicate nd ((n : Int) + 1))) ∧ w'.ownsRow lo 3 1 (.slice (some ⟨bg, 0, none⟩) nd cg) nd (cI (List.replicate nd (0 : Int))) ∧ MOwn w' lo (.slice a1 n1 c1) L1 ∧ L1.map (·.1) = tls id t1 ((advN id t1 nd (ldL t1 l) (List.replicate nd (0 : Int)) c (ldL t1 l).length : Nat) : Int) (ldL t1 l) (fun _ => n) nd ∧ Below lo w w' := by
  have EP := hide hEP
  have NP := hide hNP
  have XG := hide hXG
  have LP := hide hlo
  have ew : IntKind.i64.wrap (tm + 1) = t1 := by rw [unhide HT1]; exact wrapi _ (by omega) (by omega)
  have ed : IntKind.i64.wrap (5 + (dr : Int) % 8) = 5 + (dr : Int) % 8 := wrapi _ (by omega) (by omega)
  have hd0 : (0 : Int) ≤ (dr : Int) := by omega
  have P0 := hide hP
  have X0 := hide hX
  have G0 := hide hG
  have E0 := hide hE
  have O0 := hide hO
  have B0 : Hid (Below lo w w) := Below.refl _ _
  clear hP hX hG hE hO hEP hNP hXG hlo
  go_enter Try.func54, Try.ntmps54
  obtain ⟨w1, hw1⟩ : ∃ w9, w9 = w.setCell ⟨P, 2, none⟩ (.int .i64 t1) := ⟨_, rfl⟩
  have P1 : Hid (BF P #[.int .i64 id, .int .i64 (nd : Int), .int .i64 t1, .int .i64 vt, .int .i64 ro, .bool up, .slice a n cap, .int .i64 (c : Int), .int .i64 el, .int .i64 wt, .slice av nv cv, .slice (some ⟨bx, 0, none⟩) nd cx, .slice (some ⟨bg, 0, none⟩) nd cg, .slice (some ⟨bo, 0, none⟩) 0 co] w1) := by rw [hw1]; exact (unhide P0).set 2 (by simp) _
  have hf1 : ∀ k, k ≠ P → w1.heap[k]? = w.heap[k]? := fun k hk => by rw [hw1]; exact Below.heap_setCell _ _ _ _ hk
  have X1 := hide (own_farJ (unhide X0) hf1 (fun h => (unhide NP).1 (Option.some.inj h)))
  have G1 := hide (own_farJ (unhide G0) hf1 (fun h => (unhide NP).2.1 (Option.some.inj h)))
  have E1 := hide (own_farJ (unhide E0) hf1 (unhide EP))
  have O1 := hide (own_farJ (unhide O0) hf1 (fun h => (unhide NP).2.2 (Option.some.inj h)))
  have B1 : Hid (Below lo w w1) := by rw [hw1]; exact Below.setCell (unhide B0) (unhide LP) _
  have HW1 := hide hw1
  have kp := (unhide P0).S
  have kpf := (unhide P0).F
  clear hf1 hw1 X0 G0 E0 O0 B0
  go_upto_region 1 with fail
  rw [← unhide HW1]
  clear kp kpf HW1 P0
  obtain ⟨w2, hw2⟩ : ∃ w9, w9 = w1.setCell ⟨P, 3, none⟩ (.int .i64 id) := ⟨_, rfl⟩
  have P2 : Hid (BF P #[.int .i64 id, .int .i64 (nd : Int), .int .i64 t1, .int .i64 id, .int .i64 ro, .bool up, .slice a n cap, .int .i64 (c : Int), .int .i64 el, .int .i64 wt, .slice av nv cv, .slice (some ⟨bx, 0, none⟩) nd cx, .slice (some ⟨bg, 0, none⟩) nd cg, .slice (some ⟨bo, 0, none⟩) 0 co] w2) := by rw [hw2]; exact (unhide P1).set 3 (by simp) _
  have hf2 : ∀ k, k ≠ P → w2.heap[k]? = w1.heap[k]? := fun k hk => by rw [hw2]; exact Below.heap_setCell _ _ _ _ hk
  have X2 := hide (own_farJ (unhide X1) hf2 (fun h => (unhide NP).1 (Option.some.inj h)))
  have G2 := hide (own_farJ (unhide G1) hf2 (fun h => (unhide NP).2.1 (Option.some.inj h)))
  have E2 := hide (own_farJ (unhide E1) hf2 (unhide EP))
  have O2 := hide (own_farJ (unhide O1) hf2 (fun h => (unhide NP).2.2 (Option.some.inj h)))
  have B2 : Hid (Below lo w w2) := by rw [hw2]; exact Below.setCell (unhide B1) (unhide LP) _
  have HW2 := hide hw2
  have kp := (unhide P1).S
  have kpf := (unhide P1).F
  clear hf2 hw2 X1 G1 E1 O1 B1
  go_upto_region 2 with fail
  rw [← unhide HW2]
  clear kp kpf HW2 P1
  obtain ⟨w3, hw3⟩ : ∃ w9, w9 = w2.setCell ⟨P, 4, none⟩ (.int .i64 1) := ⟨_, rfl⟩
  have P3 : Hid (BF P #[.int .i64 id, .int .i64 (nd : Int), .int .i64 t1, .int .i64 id, .int .i64 1, .bool up, .slice a n cap, .int .i64 (c : Int), .int .i64 el, .int .i64 wt, .slice av nv cv, .slice (some ⟨bx, 0, none⟩) nd cx, .slice (some ⟨bg, 0, none⟩) nd cg, .slice (some ⟨bo, 0, none⟩) 0 co] w3) := by rw [hw3]; exact (unhide P2).set 4 (by simp) _
  have hf3 : ∀ k, k ≠ P → w3.heap[k]? = w2.heap[k]? := fun k hk => by rw [hw3]; exact Below.heap_setCell _ _ _ _ hk
  have X3 := hide (own_farJ (unhide X2) hf3 (fun h => (unhide NP).1 (Option.some.inj h)))
  have G3 := hide (own_farJ (unhide G2) hf3 (fun h => (unhide NP).2.1 (Option.some.inj h)))
  have E3 := hide (own_farJ (unhide E2) hf3 (unhide EP))
  have O3 := hide (own_farJ (unhide O2) hf3 (fun h => (unhide NP).2.2 (Option.some.inj h)))
  have B3 : Hid (Below lo w w3) := by rw [hw3]; exact Below.setCell (unhide B2) (unhide LP) _
  have HW3 := hide hw3
  have kp := (unhide P2).S
  have kpf := (unhide P2).F
  clear hf3 hw3 X2 G2 E2 O2 B2
  go_upto_region 3 with fail
  rw [← unhide HW3]
  clear kp kpf HW3 P2
  obtain ⟨gV, hgV⟩ : ∃ q, q = w3.heap.size := ⟨_, rfl⟩
  have hba : Below w3.heap.size w3 (w3.alloc (.cells #[.int .i64 id] 3)) := Go.Joins.below_alloc1 w3 (.cells #[.int .i64 id] 3)
  have P3b := hide (BF.alloc (unhide P3) (.cells #[.int .i64 id] 3))
  obtain ⟨w4, hw4⟩ : ∃ w9, w9 = (w3.alloc (.cells #[.int .i64 id] 3)).setCell ⟨P, 10, none⟩ (.slice (some ⟨gV, 0, none⟩) 1 1) := ⟨_, rfl⟩
  have hf4 : ∀ k, k ≠ P → w4.heap[k]? = (w3.alloc (.cells #[.int .i64 id] 3)).heap[k]? := fun k hk => by rw [hw4]; exact Below.heap_setCell _ _ _ _ hk
  have P4 : Hid (BF P #[.int .i64 id, .int .i64 (nd : Int), .int .i64 t1, .int .i64 id, .int .i64 1, .bool up, .slice a n cap, .int .i64 (c : Int), .int .i64 el, .int .i64 wt, .slice (some ⟨gV, 0, none⟩) 1 1, .slice (some ⟨bx, 0, none⟩) nd cx, .slice (some ⟨bg, 0, none⟩) nd cg, .slice (some ⟨bo, 0, none⟩) 0 co] w4) := by rw [hw4]; exact (unhide P3b).set 10 (by simp) _
  have lz3 : lo ≤ w3.heap.size := by have := (unhide P3).lt; have := unhide LP; omega
  have VP : Hid (gV ≠ P) := by show _ ≠ _; have := (unhide P3).lt; omega
  have V4 : Hid (w4.ownsRow lo 3 1 (.slice (some ⟨gV, 0, none⟩) 1 1) 1 [.int .i64 id]) := by
    have h := own_farJ (lit_oneS w3 3 lo (.int .i64 id) lz3) hf4 (fun h => by have e : w3.heap.size = P := Option.some.inj h; have := unhide VP; omega)
    rw [← hgV] at h; exact h
  have X4 := hide (own_farJ (((heldZ_of (unhide X3)).below hba (Nat.le_refl _)).own) hf4 (fun h => (unhide NP).1 (Option.some.inj h)))
  have G4 := hide (own_farJ (((heldZ_of (unhide G3)).below hba (Nat.le_refl _)).own) hf4 (fun h => (unhide NP).2.1 (Option.some.inj h)))
  have E4 := hide (own_farJ (((heldZ_of (unhide E3)).below hba (Nat.le_refl _)).own) hf4 (unhide EP))
  have O4 := hide (own_farJ (((heldZ_of (unhide O3)).below hba (Nat.le_refl _)).own) hf4 (fun h => (unhide NP).2.2 (Option.some.inj h)))
  have VX : Hid (gV ≠ bx ∧ gV ≠ bg) := by show _ ∧ _; have := ((unhide X3).lt bx rfl).2; have := ((unhide G3).lt bg rfl).2; omega
  have B4 : Hid (Below lo w w4) := by rw [hw4]; exact Below.setCell ((unhide B3).trans (hba.mono lz3)) (unhide LP) _
  have HG := hide hgV
  have HW4 := hide hw4
  have kp := (unhide P3).S
  have kpb := (unhide P3b).S
  have kpbf := (unhide P3b).F
  clear hgV hw4 hf4 hba lz3 X3 G3 E3 O3 B3
  go_upto_region 4 with fail
  rw [← unhide HG, ← unhide HW4]
  clear kp kpb kpbf HG HW4 P3 P3b
  obtain ⟨w5, hw5⟩ : ∃ w9, w9 = w4.setCell ⟨P, 8, none⟩ (.int .i64 0) := ⟨_, rfl⟩
  have P5 : Hid (BF P #[.int .i64 id, .int .i64 (nd : Int), .int .i64 t1, .int .i64 id, .int .i64 1, .bool up, .slice a n cap, .int .i64 (c : Int), .int .i64 0, .int .i64 wt, .slice (some ⟨gV, 0, none⟩) 1 1, .slice (some ⟨bx, 0, none⟩) nd cx, .slice (some ⟨bg, 0, none⟩) nd cg, .slice (some ⟨bo, 0, none⟩) 0 co] w5) := by rw [hw5]; exact (unhide P4).set 8 (by simp) _
  have hf5 : ∀ k, k ≠ P → w5.heap[k]? = w4.heap[k]? := fun k hk => by rw [hw5]; exact Below.heap_setCell _ _ _ _ hk
  have X5 := hide (own_farJ (unhide X4) hf5 (fun h => (unhide NP).1 (Option.some.inj h)))
  have G5 := hide (own_farJ (unhide G4) hf5 (fun h => (unhide NP).2.1 (Option.some.inj h)))
  have E5 := hide (own_farJ (unhide E4) hf5 (unhide EP))
  have O5 := hide (own_farJ (unhide O4) hf5 (fun h => (unhide NP).2.2 (Option.some.inj h)))
  have V5 := hide (own_farJ (unhide V4) hf5 (fun h => unhide VP (Option.some.inj h)))
  have B5 : Hid (Below lo w w5) := by rw [hw5]; exact Below.setCell (unhide B4) (unhide LP) _
  have HW5 := hide hw5
  have kp := (unhide P4).S
  have kpf := (unhide P4).F
  clear hf5 hw5 X4 G4 E4 O4 V4 B4
  go_upto_region 5 with fail
  rw [← unhide HW5]
  clear kp kpf HW5 P4
  obtain ⟨w6, hw6⟩ : ∃ w9, w9 = w5.setCell ⟨P, 9, none⟩ (.int .i64 (5 + (dr : Int) % 8)) := ⟨_, rfl⟩
  have P6 : Hid (BF P #[.int .i64 id, .int .i64 (nd : Int), .int .i64 t1, .int .i64 id, .int .i64 1, .bool up, .slice a n cap, .int .i64 (c : Int), .int .i64 0, .int .i64 (5 + (dr : Int) % 8), .slice (some ⟨gV, 0, none⟩) 1 1, .slice (some ⟨bx, 0, none⟩) nd cx, .slice (some ⟨bg, 0, none⟩) nd cg, .slice (some ⟨bo, 0, none⟩) 0 co] w6) := by rw [hw6]; exact (unhide P5).set 9 (by simp) _
  have hf6 : ∀ k, k ≠ P → w6.heap[k]? = w5.heap[k]? := fun k hk => by rw [hw6]; exact Below.heap_setCell _ _ _ _ hk
  have X6 := hide (own_farJ (unhide X5) hf6 (fun h => (unhide NP).1 (Option.some.inj h)))
  have G6 := hide (own_farJ (unhide G5) hf6 (fun h => (unhide NP).2.1 (Option.some.inj h)))
  have E6 := hide (own_farJ (unhide E5) hf6 (unhide EP))
  have O6 := hide (own_farJ (unhide O5) hf6 (fun h => (unhide NP).2.2 (Option.some.inj h)))
  have V6 := hide (own_farJ (unhide V5) hf6 (fun h => unhide VP (Option.some.inj h)))
  have B6 : Hid (Below lo w w6) := by rw [hw6]; exact Below.setCell (unhide B5) (unhide LP) _
  have HW6 := hide hw6
  have kp := (unhide P5).S
  have kpf := (unhide P5).F
  clear hf6 hw6 X5 G5 E5 O5 V5 B5
  go_upto_region 6 with fail
  rw [← unhide HW6]
  clear kp kpf HW6 P5
  have kp := (unhide P6).S
  have h1 : ((nd : Int) == 1) = true := by rw [h9]; rfl
  have H9 := hide h9
  clear h9
  go_wp2_with fail
  refine (slead P lo id nd t1 id 1 c 0 (5 + (dr : Int) % 8) up a cap n (some ⟨gV, 0, none⟩) 1 1 bx cx bg cg bo co l HN hn hnc hnd hcn lx lg HNx HNg hlog [.int .i64 id] w6 (unhide P6) (unhide LP) (unhide E6) (unhide V6) (unhide X6) (unhide G6) (unhide O6) (unhide EP) (fun h => unhide VP (Option.some.inj h)) (unhide NP) (unhide XG) (fun j hj => by have e : gV = j := Option.some.inj hj; have := unhide VX; omega)).mono ?_
  rintro e w7 ⟨ea, ec, a1, n1, c1, L1, rfl, f1, f2, f3, f4, f5, f6, f7, f8⟩
  have FIN := hide (And.intro f1 (And.intro f2 (And.intro f3 (And.intro f4 (And.intro f5 (And.intro f6 (And.intro f7 ((unhide B6).trans f8))))))))
  clear f1 f2 f3 f4 f5 f6 f7 f8 P6 X6 G6 E6 O6 V6 B6 kp
  go_wp2_with fail
  obtain ⟨f1, f2, f3, f4, f5, f6, f7, f8⟩ := unhide FIN
  refine bodyPost_ret (v := .tuple #[]) (by simp [results, Try.results54, go_sem]) rfl ⟨ea, ec, gV, a1, n1, c1, L1, rfl, f1, f2, f3, f4, f5, f6, f7, f8⟩
set_option maxHeartbeats 4000000 in
set_option maxRecDepth 100000 in
theorem sstand_many (P lo : Nat) (id : Int) (nd : Nat) (tm vt ro : Int) (c : Nat) (el wt : Int) (up : Bool) (a : Option Addr) (cap n : Nat) (av : Option Addr) (cv nv bx cx bg cg bo co : Nat) (l : List Ent) (HN : Hid (l.length = n)) (hn : n ≤ 60) (hnc : n ≤ cap) (hnd : nd ≤ 5) (hcn : c ≤ n) (lx lg : List Int) (HNx : Hid (lx.length = nd)) (HNg : Hid (lg.length = nd)) (dr : Nat) (hdr : dr ≤ 1000000) (htm : 0 ≤ tm ∧ tm ≤ 1000) (t1 : Int) (HT1 : Hid (t1 = tm + 1)) (TT : Int) (HT : Hid (TT = tAt l n)) (h2 : 2 ≤ nd) (w : World) (hP : BF P #[.int .i64 id, .int .i64 (nd : Int), .int .i64 tm, .int .i64 vt, .int .i64 ro, .bool up, .slice a n cap, .int .i64 (c : Int), .int .i64 el, .int .i64 wt, .slice av nv cv, .slice (some ⟨bx, 0, none⟩) nd cx, .slice (some ⟨bg, 0, none⟩) nd cg, .slice (some ⟨bo, 0, none⟩) 0 co] w) (hlo : lo ≤ P) (hE : w.ownsRow lo 68 2 (.slice a n cap) n (cE l)) (hX : w.ownsRow lo 3 1 (.slice (some ⟨bx, 0, none⟩) nd cx) nd (cI lx)) (hG : w.ownsRow lo 3 1 (.slice (some ⟨bg, 0, none⟩) nd cg) nd (cI lg)) (hO : w.ownsRow lo 54 9 (.slice (some ⟨bo, 0, none⟩) 0 co) 0 []) (hEP : (Value.slice a n cap).ownBlock ≠ some P) (hNP : bx ≠ P ∧ bg ≠ P ∧ bo ≠ P) (hXG : bx ≠ bg) :
    Calls Try.prog 54 #[.pointer (some ⟨P, 0, none⟩), .int .i64 (dr : Int)] w fun e w' => ∃ gV a1 n1 c1 L1, e = .returned (.tuple #[]) ∧ BF P #[.int .i64 id, .int .i64 (nd : Int), .int .i64 t1, .int .i64 id, .int .i64 1, .bool up, .slice a n cap, .int .i64 (c : Int), .int .i64 0, .int .i64 (5 + (dr : Int) % 8), .slice (some ⟨gV, 0, none⟩) 1 1, .slice (some ⟨bx, 0, none⟩) nd cx, .slice (some ⟨bg, 0, none⟩) nd cg, .slice a1 n1 c1] w' ∧ w'.ownsRow lo 68 2 (.slice a n cap) n (cE l) ∧ w'.ownsRow lo 3 1 (.slice (some ⟨gV, 0, none⟩) 1 1) 1 (cI [id]) ∧ w'.ownsRow lo 3 1 (.slice (some ⟨bx, 0, none⟩) nd cx) nd (cI lx) ∧ w'.ownsRow lo 3 1 (.slice (some ⟨bg, 0, none⟩) nd cg) nd (cI lg) ∧ MOwn w' lo (.slice a1 n1 c1) L1 ∧ L1.map (·.1) = asks id t1 n TT nd ∧ Below lo w w' := by
  have EP := hide hEP
  have NP := hide hNP
  have XG := hide hXG
  have LP := hide hlo
  have ew : IntKind.i64.wrap (tm + 1) = t1 := by rw [unhide HT1]; exact wrapi _ (by omega) (by omega)
  have ed : IntKind.i64.wrap (5 + (dr : Int) % 8) = 5 + (dr : Int) % 8 := wrapi _ (by omega) (by omega)
  have hd0 : (0 : Int) ≤ (dr : Int) := by omega
  have P0 := hide hP
  have X0 := hide hX
  have G0 := hide hG
  have E0 := hide hE
  have O0 := hide hO
  have B0 : Hid (Below lo w w) := Below.refl _ _
  clear hP hX hG hE hO hEP hNP hXG hlo
  go_enter Try.func54, Try.ntmps54
  obtain ⟨w1, hw1⟩ : ∃ w9, w9 = w.setCell ⟨P, 2, none⟩ (.int .i64 t1) := ⟨_, rfl⟩
  have P1 : Hid (BF P #[.int .i64 id, .int .i64 (nd : Int), .int .i64 t1, .int .i64 vt, .int .i64 ro, .bool up, .slice a n cap, .int .i64 (c : Int), .int .i64 el, .int .i64 wt, .slice av nv cv, .slice (some ⟨bx, 0, none⟩) nd cx, .slice (some ⟨bg, 0, none⟩) nd cg, .slice (some ⟨bo, 0, none⟩) 0 co] w1) := by rw [hw1]; exact (unhide P0).set 2 (by simp) _
  have hf1 : ∀ k, k ≠ P → w1.heap[k]? = w.heap[k]? := fun k hk => by rw [hw1]; exact Below.heap_setCell _ _ _ _ hk
  have X1 := hide (own_farJ (unhide X0) hf1 (fun h => (unhide NP).1 (Option.some.inj h)))
  have G1 := hide (own_farJ (unhide G0) hf1 (fun h => (unhide NP).2.1 (Option.some.inj h)))
  have E1 := hide (own_farJ (unhide E0) hf1 (unhide EP))
  have O1 := hide (own_farJ (unhide O0) hf1 (fun h => (unhide NP).2.2 (Option.some.inj h)))
  have B1 : Hid (Below lo w w1) := by rw [hw1]; exact Below.setCell (unhide B0) (unhide LP) _
  have HW1 := hide hw1
  have kp := (unhide P0).S
  have kpf := (unhide P0).F
  clear hf1 hw1 X0 G0 E0 O0 B0
  go_upto_region 1 with fail
  rw [← unhide HW1]
  clear kp kpf HW1 P0
  obtain ⟨w2, hw2⟩ : ∃ w9, w9 = w1.setCell ⟨P, 3, none⟩ (.int .i64 id) := ⟨_, rfl⟩
  have P2 : Hid (BF P #[.int .i64 id, .int .i64 (nd : Int), .int .i64 t1, .int .i64 id, .int .i64 ro, .bool up, .slice a n cap, .int .i64 (c : Int), .int .i64 el, .int .i64 wt, .slice av nv cv, .slice (some ⟨bx, 0, none⟩) nd cx, .slice (some ⟨bg, 0, none⟩) nd cg, .slice (some ⟨bo, 0, none⟩) 0 co] w2) := by rw [hw2]; exact (unhide P1).set 3 (by simp) _
  have hf2 : ∀ k, k ≠ P → w2.heap[k]? = w1.heap[k]? := fun k hk => by rw [hw2]; exact Below.heap_setCell _ _ _ _ hk
  have X2 := hide (own_farJ (unhide X1) hf2 (fun h => (unhide NP).1 (Option.some.inj h)))
  have G2 := hide (own_farJ (unhide G1) hf2 (fun h => (unhide NP).2.1 (Option.some.inj h)))
  have E2 := hide (own_farJ (unhide E1) hf2 (unhide EP))
  have O2 := hide (own_farJ (unhide O1) hf2 (fun h => (unhide NP).2.2 (Option.some.inj h)))
  have B2 : Hid (Below lo w w2) := by rw [hw2]; exact Below.setCell (unhide B1) (unhide LP) _
  have HW2 := hide hw2
  have kp := (unhide P1).S
  have kpf := (unhide P1).F
  clear hf2 hw2 X1 G1 E1 O1 B1
  go_upto_region 2 with fail
  rw [← unhide HW2]
  clear kp kpf HW2 P1
  obtain ⟨w3, hw3⟩ : ∃ w9, w9 = w2.setCell ⟨P, 4, none⟩ (.int .i64 1) := ⟨_, rfl⟩
  have P3 : Hid (BF P #[.int .i64 id, .int .i64 (nd : Int), .int .i64 t1, .int .i64 id, .int .i64 1, .bool up, .slice a n cap, .int .i64 (c : Int), .int .i64 el, .int .i64 wt, .slice av nv cv, .slice (some ⟨bx, 0, none⟩) nd cx, .slice (some ⟨bg, 0, none⟩) nd cg, .slice (some ⟨bo, 0, none⟩) 0 co] w3) := by rw [hw3]; exact (unhide P2).set 4 (by simp) _
  have hf3 : ∀ k, k ≠ P → w3.heap[k]? = w2.heap[k]? := fun k hk => by rw [hw3]; exact Below.heap_setCell _ _ _ _ hk
  have X3 := hide (own_farJ (unhide X2) hf3 (fun h => (unhide NP).1 (Option.some.inj h)))
  have G3 := hide (own_farJ (unhide G2) hf3 (fun h => (unhide NP).2.1 (Option.some.inj h)))
  have E3 := hide (own_farJ (unhide E2) hf3 (unhide EP))
  have O3 := hide (own_farJ (unhide O2) hf3 (fun h => (unhide NP).2.2 (Option.some.inj h)))
  have B3 : Hid (Below lo w w3) := by rw [hw3]; exact Below.setCell (unhide B2) (unhide LP) _
  have HW3 := hide hw3
  have kp := (unhide P2).S
  have kpf := (unhide P2).F
  clear hf3 hw3 X2 G2 E2 O2 B2
  go_upto_region 3 with fail
  rw [← unhide HW3]
  clear kp kpf HW3 P2
  obtain ⟨gV, hgV⟩ : ∃ q, q = w3.heap.size := ⟨_, rfl⟩
  have hba : Below w3.heap.size w3 (w3.alloc (.cells #[.int .i64 id] 3)) := Go.Joins.below_alloc1 w3 (.cells #[.int .i64 id] 3)
  have P3b := hide (BF.alloc (unhide P3) (.cells #[.int .i64 id] 3))
  obtain ⟨w4, hw4⟩ : ∃ w9, w9 = (w3.alloc (.cells #[.int .i64 id] 3)).setCell ⟨P, 10, none⟩ (.slice (some ⟨gV, 0, none⟩) 1 1) := ⟨_, rfl⟩
  have hf4 : ∀ k, k ≠ P → w4.heap[k]? = (w3.alloc (.cells #[.int .i64 id] 3)).heap[k]? := fun k hk => by rw [hw4]; exact Below.heap_setCell _ _ _ _ hk
  have P4 : Hid (BF P #[.int .i64 id, .int .i64 (nd : Int), .int .i64 t1, .int .i64 id, .int .i64 1, .bool up, .slice a n cap, .int .i64 (c : Int), .int .i64 el, .int .i64 wt, .slice (some ⟨gV, 0, none⟩) 1 1, .slice (some ⟨bx, 0, none⟩) nd cx, .slice (some ⟨bg, 0, none⟩) nd cg, .slice (some ⟨bo, 0, none⟩) 0 co] w4) := by rw [hw4]; exact (unhide P3b).set 10 (by simp) _
  have lz3 : lo ≤ w3.heap.size := by have := (unhide P3).lt; have := unhide LP; omega
  have VP : Hid (gV ≠ P) := by show _ ≠ _; have := (unhide P3).lt; omega
  have V4 : Hid (w4.ownsRow lo 3 1 (.slice (some ⟨gV, 0, none⟩) 1 1) 1 [.int .i64 id]) := by
    have h := own_farJ (lit_oneS w3 3 lo (.int .i64 id) lz3) hf4 (fun h => by have e : w3.heap.size = P := Option.some.inj h; have := unhide VP; omega)
    rw [← hgV] at h; exact h
  have X4 := hide (own_farJ (((heldZ_of (unhide X3)).below hba (Nat.le_refl _)).own) hf4 (fun h => (unhide NP).1 (Option.some.inj h)))
  have G4 := hide (own_farJ (((heldZ_of (unhide G3)).below hba (Nat.le_refl _)).own) hf4 (fun h => (unhide NP).2.1 (Option.some.inj h)))
  have E4 := hide (own_farJ (((heldZ_of (unhide E3)).below hba (Nat.le_refl _)).own) hf4 (unhide EP))
  have O4 := hide (own_farJ (((heldZ_of (unhide O3)).below hba (Nat.le_refl _)).own) hf4 (fun h => (unhide NP).2.2 (Option.some.inj h)))
  have VX : Hid (gV ≠ bx ∧ gV ≠ bg) := by show _ ∧ _; have := ((unhide X3).lt bx rfl).2; have := ((unhide G3).lt bg rfl).2; omega
  have B4 : Hid (Below lo w w4) := by rw [hw4]; exact Below.setCell ((unhide B3).trans (hba.mono lz3)) (unhide LP) _
  have HG := hide hgV
  have HW4 := hide hw4
  have kp := (unhide P3).S
  have kpb := (unhide P3b).S
  have kpbf := (unhide P3b).F
  clear hgV hw4 hf4 hba lz3 X3 G3 E3 O3 B3
  go_upto_region 4 with fail
  rw [← unhide HG, ← unhide HW4]
  clear kp kpb kpbf HG HW4 P3 P3b
  obtain ⟨w5, hw5⟩ : ∃ w9, w9 = w4.setCell ⟨P, 8, none⟩ (.int .i64 0) := ⟨_, rfl⟩
  have P5 : Hid (BF P #[.int .i64 id, .int .i64 (nd : Int), .int .i64 t1, .int .i64 id, .int .i64 1, .bool up, .slice a n cap, .int .i64 (c : Int), .int .i64 0, .int .i64 wt, .slice (some ⟨gV, 0, none⟩) 1 1, .slice (some ⟨bx, 0, none⟩) nd cx, .slice (some ⟨bg, 0, none⟩) nd cg, .slice (some ⟨bo, 0, none⟩) 0 co] w5) := by rw [hw5]; exact (unhide P4).set 8 (by simp) _
  have hf5 : ∀ k, k ≠ P → w5.heap[k]? = w4.heap[k]? := fun k hk => by rw [hw5]; exact Below.heap_setCell _ _ _ _ hk
  have X5 := hide (own_farJ (unhide X4) hf5 (fun h => (unhide NP).1 (Option.some.inj h)))
  have G5 := hide (own_farJ (unhide G4) hf5 (fun h => (unhide NP).2.1 (Option.some.inj h)))
  have E5 := hide (own_farJ (unhide E4) hf5 (unhide EP))
  have O5 := hide (own_farJ (unhide O4) hf5 (fun h => (unhide NP).2.2 (Option.some.inj h)))
  have V5 := hide (own_farJ (unhide V4) hf5 (fun h => unhide VP (Option.some.inj h)))
  have B5 : Hid (Below lo w w5) := by rw [hw5]; exact Below.setCell (unhide B4) (unhide LP) _
  have HW5 := hide hw5
  have kp := (unhide P4).S
  have kpf := (unhide P4).F
  clear hf5 hw5 X4 G4 E4 O4 V4 B4
  go_upto_region 5 with fail
  rw [← unhide HW5]
  clear kp kpf HW5 P4
  obtain ⟨w6, hw6⟩ : ∃ w9, w9 = w5.setCell ⟨P, 9, none⟩ (.int .i64 (5 + (dr : Int) % 8)) := ⟨_, rfl⟩
  have P6 : Hid (BF P #[.int .i64 id, .int .i64 (nd : Int), .int .i64 t1, .int .i64 id, .int .i64 1, .bool up, .slice a n cap, .int .i64 (c : Int), .int .i64 0, .int .i64 (5 + (dr : Int) % 8), .slice (some ⟨gV, 0, none⟩) 1 1, .slice (some ⟨bx, 0, none⟩) nd cx, .slice (some ⟨bg, 0, none⟩) nd cg, .slice (some ⟨bo, 0, none⟩) 0 co] w6) := by rw [hw6]; exact (unhide P5).set 9 (by simp) _
  have hf6 : ∀ k, k ≠ P → w6.heap[k]? = w5.heap[k]? := fun k hk => by rw [hw6]; exact Below.heap_setCell _ _ _ _ hk
  have X6 := hide (own_farJ (unhide X5) hf6 (fun h => (unhide NP).1 (Option.some.inj h)))
  have G6 := hide (own_farJ (unhide G5) hf6 (fun h => (unhide NP).2.1 (Option.some.inj h)))
  have E6 := hide (own_farJ (unhide E5) hf6 (unhide EP))
  have O6 := hide (own_farJ (unhide O5) hf6 (fun h => (unhide NP).2.2 (Option.some.inj h)))
  have V6 := hide (own_farJ (unhide V5) hf6 (fun h => unhide VP (Option.some.inj h)))
  have B6 : Hid (Below lo w w6) := by rw [hw6]; exact Below.setCell (unhide B5) (unhide LP) _
  have HW6 := hide hw6
  have kp := (unhide P5).S
  have kpf := (unhide P5).F
  clear hf6 hw6 X5 G5 E5 O5 V5 B5
  go_upto_region 6 with fail
  rw [← unhide HW6]
  clear kp kpf HW6 P5
  have kp := (unhide P6).S
  have h1 : ((nd : Int) == 1) = false := by rw [beq_eq_false_iff_ne]; omega
  go_wp2_with fail
  clear kp
  go_loopw [4] (fun i wr => ∃ (k : Nat) (a1 : Option Addr) (n1 c1 : Nat) (L1 : List MgA), k ≤ nd ∧ n1 ≤ k ∧ i = .int .i64 k ∧ Hid (L1.length = n1) ∧ Hid (L1.map (·.1) = asks id t1 n TT k) ∧ Hid (BF P #[.int .i64 id, .int .i64 (nd : Int), .int .i64 t1, .int .i64 id, .int .i64 1, .bool up, .slice a n cap, .int .i64 (c : Int), .int .i64 0, .int .i64 (5 + (dr : Int) % 8), .slice (some ⟨gV, 0, none⟩) 1 1, .slice (some ⟨bx, 0, none⟩) nd cx, .slice (some ⟨bg, 0, none⟩) nd cg, .slice a1 n1 c1] wr) ∧ Hid (MOwn wr lo (.slice a1 n1 c1) L1) ∧ Hid (∀ x ∈ L1, (sl x).ownBlock ≠ some P) ∧ Hid ((Value.slice a1 n1 c1).ownBlock ≠ some P) ∧ Hid (wr.ownsRow lo 68 2 (.slice a n cap) n (cE l)) ∧ Hid (wr.ownsRow lo 3 1 (.slice (some ⟨gV, 0, none⟩) 1 1) 1 [.int .i64 id]) ∧ Hid (wr.ownsRow lo 3 1 (.slice (some ⟨bx, 0, none⟩) nd cx) nd (cI lx)) ∧ Hid (wr.ownsRow lo 3 1 (.slice (some ⟨bg, 0, none⟩) nd cg) nd (cI lg)) ∧ Hid (Below lo w wr)) (fun i _ => nd - (intOf i).toNat)
  case atStart => exact ⟨0, some ⟨bo, 0, none⟩, 0, co, [], by omega, by omega, rfl, rfl, rfl, P6, ⟨unhide O6, (fun p hp => by cases hp), List.Pairwise.nil, (fun p hp => by cases hp)⟩, (fun x hx => by cases hx), (fun h => (unhide NP).2.2 (Option.some.inj h)), E6, V6, X6, G6, B6⟩
  case round =>
    clear P6 X6 G6 E6 O6 V6 B6
    obtain ⟨k, a1, n1, c1, L1, hk, hn1, rfl, HN1, HL, P7, M7, LPx, OP, E7, V7, X7, G7, B7⟩ := hrel
    have kp := (unhide P7).S
    by_cases hlt : k < nd
    · have i1 : (k : Int) < (nd : Int) := by omega
      by_cases hid : (k : Int) = id
      · have z1 : ((k : Int) != id) = false := by simpa using hid
        have HL2 : Hid (L1.map (·.1) = asks id t1 n TT (k + 1)) := by show _ = _; rw [asks_self hid]; exact unhide HL
        clear hid HL
        go_wp2_with fail
        go_roundw
        case rel => exact ⟨k + 1, a1, n1, c1, L1, by omega, by omega, by go_num, HN1, HL2, P7, M7, LPx, OP, E7, V7, X7, G7, B7⟩
        case measure => simp [intOf]; omega
      · have z1 : ((k : Int) != id) = true := by simpa using hid
        have HL2 : Hid (L1.map (·.1) ++ [askM id t1 n TT k] = asks id t1 n TT (k + 1)) := by show _ = _; rw [asks_snoc hid, unhide HL]
        have T0 : Hid (Below wr.heap.size wr wr.drew) := (Below.refl _ _).drew
        clear hid HL
        go_upto_region 12 with fail
        refine wp_region_held_drew (S := fun w' => ∀ o, o ≠ 13 → w'.cell? ⟨P, o, none⟩ = (#[.int .i64 id, .int .i64 (nd : Int), .int .i64 t1, .int .i64 id, .int .i64 1, .bool up, .slice a n cap, .int .i64 (c : Int), .int .i64 0, .int .i64 (5 + (dr : Int) % 8), .slice (some ⟨gV, 0, none⟩) 1 1, .slice (some ⟨bx, 0, none⟩) nd cx, .slice (some ⟨bg, 0, none⟩) nd cg, .slice a1 n1 c1] : Array Value)[o]?) (by kernel_rfl) (fun o _ => kp o) (fun hHeld => ?_)
        generalize wr.drew = u0 at T0 hHeld ⊢
        refine wtk (i := 0) (oi := { dst := some 72, op := .move (.tmp 0), type := 64, pos := "l08_raft.go:136", after := #[], guard := none }) (v := ?_) rfl (Or.inl ⟨by rfl, ?_⟩) (by assumption) ?_
        rotate_left 1
        · (intro w' hSw; (try dsimp only at hSw); go_simp; try with_reducible rfl)
        try simp only [Act.put, qqA, qqB, qqC]
        refine wtk (i := 1) (oi := { dst := some 73, op := .move (.tmp 4), type := 3, pos := "l08_raft.go:136", after := #[], guard := none }) (v := ?_) rfl (Or.inl ⟨by rfl, ?_⟩) (by assumption) ?_
        rotate_left 1
        · (intro w' hSw; (try dsimp only at hSw); go_simp; try with_reducible rfl)
        try simp only [Act.put, qqA, qqB, qqC]
        refine wtk (i := 2) (oi := { dst := some 74, op := .move (.tmp 0), type := 64, pos := "l08_raft.go:136", after := #[], guard := none }) (v := ?_) rfl (Or.inl ⟨by rfl, ?_⟩) (by assumption) ?_
        rotate_left 1
        · (intro w' hSw; (try dsimp only at hSw); go_simp; try with_reducible rfl)
        try simp only [Act.put, qqA, qqB, qqC]
        refine wtk (i := 3) (oi := { dst := some 75, op := .nilCheck (.tmp 74), type := 0, pos := "l08_raft.go:136", after := #[{ on := 2, ground := .data }], guard := none }) (v := ?_) rfl (Or.inl ⟨by rfl, ?_⟩) (by assumption) ?_
        rotate_left 1
        · (intro w' hSw; (try dsimp only at hSw); go_simp; try with_reducible rfl)
        try simp only [Act.put, qqA, qqB, qqC]
        refine wtk (i := 4) (oi := { dst := some 76, op := .fieldAddr 66 (.tmp 75) 0, type := 0, pos := "l08_raft.go:136", after := #[{ on := 3, ground := .data }], guard := none }) (v := ?_) rfl (Or.inl ⟨by rfl, ?_⟩) (by assumption) ?_
        rotate_left 1
        · (intro w' hSw; (try dsimp only at hSw); go_simp; try with_reducible rfl)
        try simp only [Act.put, qqA, qqB, qqC]
        refine wtk (i := 5) (oi := { dst := some 77, op := .fieldAddr 29 (.tmp 76) 6, type := 0, pos := "l08_raft.go:136", after := #[{ on := 4, ground := .data }], guard := none }) (v := ?_) rfl (Or.inl ⟨by rfl, ?_⟩) (by assumption) ?_
        rotate_left 1
        · (intro w' hSw; (try dsimp only at hSw); go_simp; try with_reducible rfl)
        try simp only [Act.put, qqA, qqB, qqC]
        refine wtk (i := 6) (oi := { dst := some 78, op := .load 27 (.tmp 77), type := 27, pos := "l08_raft.go:136", after := #[{ on := 5, ground := .data }], guard := none }) (v := ?_) rfl (Or.inl ⟨by rfl, ?_⟩) (by assumption) ?_
        rotate_left 1
        · (intro w' hSw; (try dsimp only at hSw); go_simp; try with_reducible rfl)
        try simp only [Act.put, qqA, qqB, qqC]
        refine wtk (i := 7) (oi := { dst := some 79, op := .call { callee := .builtin Go.Builtin.len, args := #[.tmp 78], argTypes := #[27] }, type := 3, pos := "l08_raft.go:136", after := #[{ on := 6, ground := .data }], guard := none }) (v := ?_) rfl (Or.inl ⟨by rfl, ?_⟩) (by assumption) ?_
        rotate_left 1
        · (intro w' hSw; (try dsimp only at hSw); go_simp; try with_reducible rfl)
        try simp only [Act.put, qqA, qqB, qqC]
        refine wtk (i := 8) (oi := { dst := some 80, op := .move (.tmp 0), type := 64, pos := "l08_raft.go:136", after := #[], guard := none }) (v := ?_) rfl (Or.inl ⟨by rfl, ?_⟩) (by assumption) ?_
        rotate_left 1
        · (intro w' hSw; (try dsimp only at hSw); go_simp; try with_reducible rfl)
        try simp only [Act.put, qqA, qqB, qqC]
        refine wtk (i := 9) (oi := { dst := some 81, op := .nilCheck (.tmp 80), type := 0, pos := "l08_raft.go:136", after := #[{ on := 8, ground := .data }], guard := none }) (v := ?_) rfl (Or.inl ⟨by rfl, ?_⟩) (by assumption) ?_
        rotate_left 1
        · (intro w' hSw; (try dsimp only at hSw); go_simp; try with_reducible rfl)
        try simp only [Act.put, qqA, qqB, qqC]
        refine wtk (i := 10) (oi := { dst := some 82, op := .fieldAddr 66 (.tmp 81) 0, type := 0, pos := "l08_raft.go:136", after := #[{ on := 9, ground := .data }], guard := none }) (v := ?_) rfl (Or.inl ⟨by rfl, ?_⟩) (by assumption) ?_
        rotate_left 1
        · (intro w' hSw; (try dsimp only at hSw); go_simp; try with_reducible rfl)
        try simp only [Act.put, qqA, qqB, qqC]
        refine wtk (i := 11) (oi := { dst := some 83, op := .load 29 (.tmp 82), type := 29, pos := "l08_raft.go:136", after := #[{ on := 10, ground := .data }], guard := none }) (v := ?_) rfl (Or.inl ⟨by rfl, ?_⟩) (by assumption) ?_
        rotate_left 1
        · (intro w' hSw; (try dsimp only at hSw); go_simp; try with_reducible rfl)
        try simp only [Act.put, qqA, qqB, qqC]
        refine wtk (i := 12) (oi := { dst := some 84, op := .move (.tmp 0), type := 64, pos := "l08_raft.go:136", after := #[], guard := none }) (v := ?_) rfl (Or.inl ⟨by rfl, ?_⟩) (by assumption) ?_
        rotate_left 1
        · (intro w' hSw; (try dsimp only at hSw); go_simp; try with_reducible rfl)
        try simp only [Act.put, qqA, qqB, qqC]
        refine wtk (i := 13) (oi := { dst := some 85, op := .nilCheck (.tmp 84), type := 0, pos := "l08_raft.go:136", after := #[{ on := 12, ground := .data }], guard := none }) (v := ?_) rfl (Or.inl ⟨by rfl, ?_⟩) (by assumption) ?_
        rotate_left 1
        · (intro w' hSw; (try dsimp only at hSw); go_simp; try with_reducible rfl)
        try simp only [Act.put, qqA, qqB, qqC]
        refine wtk (i := 14) (oi := { dst := some 86, op := .fieldAddr 66 (.tmp 85) 0, type := 0, pos := "l08_raft.go:136", after := #[{ on := 13, ground := .data }], guard := none }) (v := ?_) rfl (Or.inl ⟨by rfl, ?_⟩) (by assumption) ?_
        rotate_left 1
        · (intro w' hSw; (try dsimp only at hSw); go_simp; try with_reducible rfl)
        try simp only [Act.put, qqA, qqB, qqC]
        refine wtk (i := 15) (oi := { dst := some 87, op := .fieldAddr 29 (.tmp 86) 6, type := 0, pos := "l08_raft.go:136", after := #[{ on := 14, ground := .data }], guard := none }) (v := ?_) rfl (Or.inl ⟨by rfl, ?_⟩) (by assumption) ?_
        rotate_left 1
        · (intro w' hSw; (try dsimp only at hSw); go_simp; try with_reducible rfl)
        try simp only [Act.put, qqA, qqB, qqC]
        refine wtk (i := 16) (oi := { dst := some 88, op := .load 27 (.tmp 87), type := 27, pos := "l08_raft.go:136", after := #[{ on := 15, ground := .data }], guard := none }) (v := ?_) rfl (Or.inl ⟨by rfl, ?_⟩) (by assumption) ?_
        rotate_left 1
        · (intro w' hSw; (try dsimp only at hSw); go_simp; try with_reducible rfl)
        try simp only [Act.put, qqA, qqB, qqC]
        refine wtk (i := 17) (oi := { dst := some 89, op := .call { callee := .builtin Go.Builtin.len, args := #[.tmp 88], argTypes := #[27] }, type := 3, pos := "l08_raft.go:136", after := #[{ on := 16, ground := .data }], guard := none }) (v := ?_) rfl (Or.inl ⟨by rfl, ?_⟩) (by assumption) ?_
        rotate_left 1
        · (intro w' hSw; (try dsimp only at hSw); go_simp; try with_reducible rfl)
        try simp only [Act.put, qqA, qqB, qqC]
        refine wpAnyH_ready (rs := [18]) (by kernel_rfl) (by simp) ?_
        refine AllReadyH.cons (o := { dst := some 90, op := .call { callee := .value (.func 63), args := #[.tmp 83, .tmp 89], argTypes := #[29, 3] }, type := 3, pos := "l08_raft.go:136", after := #[{ on := 11, ground := .data }, { on := 17, ground := .data }], guard := none }) rfl (fun K hK => ?_) AllReadyH.nil
        go_simp
        refine (stermat id (nd : Int) t1 id 1 (c : Int) 0 (5 + (dr : Int) % 8) up a cap n (some ⟨gV, 0, none⟩) 1 1 (some ⟨bx, 0, none⟩) cx nd (some ⟨bg, 0, none⟩) cg nd l HN (by omega) n (Nat.le_refl _) TT HT _ ((rowZ_at (unhide E7)).below (unhide T0))).mono ?_
        rintro e u1 ⟨rfl, hb⟩
        have T1 := hide ((unhide T0).trans (hb.mono (unhide T0).size))
        have k1 := ((unhide P7).below (unhide T1)).S
        clear hb
        go_wp2_with fail
        refine hK.out _ _ ?_ (fun hHeld18 => ?_)
        · exact fun o _ => k1 o
        clear hK K
        try simp only [Act.put, qqA, qqB, qqC]
        clear k1
        refine wtk (i := 19) (oi := { dst := some 91, op := .build 54 #[(0, .const (.int .i64 1)), (2, .tmp 73), (4, .tmp 79), (5, .tmp 90)], type := 54, pos := "l08_raft.go:136", after := #[{ on := 1, ground := .data }, { on := 7, ground := .data }, { on := 18, ground := .data }], guard := none }) (v := ?_) rfl (Or.inl ⟨by rfl, ?_⟩) (by assumption) ?_
        rotate_left 1
        · (intro w' hSw; (try dsimp only at hSw); go_simp; try with_reducible rfl)
        try simp only [Act.put, qqA, qqB, qqC]
        refine wpAnyH_ready (rs := [20]) (by kernel_rfl) (by simp) ?_
        refine AllReadyH.cons (o := { dst := some 92, op := .call { callee := .value (.func 62), args := #[.tmp 72, .tmp 91], argTypes := #[64, 54] }, type := 0, pos := "l08_raft.go:136", after := #[{ on := 0, ground := .data }, { on := 19, ground := .data }, { on := 18, ground := .chain }], guard := none }) rfl (fun K hK => ?_) AllReadyH.nil
        go_simp
        refine (ssend P id nd t1 id 1 c 0 (5 + (dr : Int) % 8) up a cap n (some ⟨gV, 0, none⟩) 1 1 (some ⟨bx, 0, none⟩) cx nd (some ⟨bg, 0, none⟩) cg nd a1 n1 c1 1 0 (k : Int) 0 (n : Int) TT 0 false none 0 0 [] rfl (by decide) lo L1 HN1 (by omega) wr _ ((unhide P7).below (unhide T1)) ((unhide M7).below (unhide T1)) (World.ownsRow_nil _ _ _ _) (by have := (unhide P7).lt; have := unhide LP; have := (unhide T1).size; omega) (unhide T1).size (fun q hq => by cases hq) (fun q hq i hi => (((unhide M7).ent q hq).lt i hi).2) (fun i hi => ((unhide M7).row.lt i hi).2) (unhide P7).lt (unhide OP) (unhide LPx)).mono ?_
        rintro e w9 ⟨g7, c7, p, rfl, hP9, hM9, hp9, hT9, hF9, hO9⟩
        have oo : ∀ q : Nat, (Value.slice a1 n1 c1).ownBlock = some q → lo ≤ q := fun q hq => ((unhide M7).row.lt q hq).1
        have FIN : Hid (BF P #[.int .i64 id, .int .i64 (nd : Int), .int .i64 t1, .int .i64 id, .int .i64 1, .bool up, .slice a n cap, .int .i64 (c : Int), .int .i64 0, .int .i64 (5 + (dr : Int) % 8), .slice (some ⟨gV, 0, none⟩) 1 1, .slice (some ⟨bx, 0, none⟩) nd cx, .slice (some ⟨bg, 0, none⟩) nd cg, .slice (some ⟨g7, 0, none⟩) (n1 + 1) c7] w9 ∧ MOwn w9 lo (.slice (some ⟨g7, 0, none⟩) (n1 + 1) c7) (L1 ++ [p]) ∧ (∀ x ∈ L1 ++ [p], (sl x).ownBlock ≠ some P) ∧ (Value.slice (some ⟨g7, 0, none⟩) (n1 + 1) c7).ownBlock ≠ some P ∧ (L1 ++ [p]).map (·.1) = asks id t1 n TT (k + 1) ∧ w9.ownsRow lo 68 2 (.slice a n cap) n (cE l) ∧ w9.ownsRow lo 3 1 (.slice (some ⟨gV, 0, none⟩) 1 1) 1 [.int .i64 id] ∧ w9.ownsRow lo 3 1 (.slice (some ⟨bx, 0, none⟩) nd cx) nd (cI lx) ∧ w9.ownsRow lo 3 1 (.slice (some ⟨bg, 0, none⟩) nd cg) nd (cI lg) ∧ Below lo w w9) := by
          have m1 := (unhide M7).below (unhide T1)
          refine ⟨hP9, hM9, hO9, ?_, ?_, own_twoS (((heldZ_of (unhide E7)).below (unhide T1) (Nat.le_refl _)).own) hT9 (unhide EP) (fun j hj e => own_apartS (((heldZ_of (unhide E7)).below (unhide T1) (Nat.le_refl _)).own) m1.row (by decide) j hj e), own_twoS (((heldZ_of (unhide V7)).below (unhide T1) (Nat.le_refl _)).own) hT9 (fun h => unhide VP (Option.some.inj h)) (fun j hj e => own_apartS (((heldZ_of (unhide V7)).below (unhide T1) (Nat.le_refl _)).own) m1.row (by decide) j hj e), own_twoS (((heldZ_of (unhide X7)).below (unhide T1) (Nat.le_refl _)).own) hT9 (fun h => (unhide NP).1 (Option.some.inj h)) (fun j hj e => own_apartS (((heldZ_of (unhide X7)).below (unhide T1) (Nat.le_refl _)).own) m1.row (by decide) j hj e), own_twoS (((heldZ_of (unhide G7)).below (unhide T1) (Nat.le_refl _)).own) hT9 (fun h => (unhide NP).2.1 (Option.some.inj h)) (fun j hj e => own_apartS (((heldZ_of (unhide G7)).below (unhide T1) (Nat.le_refl _)).own) m1.row (by decide) j hj e), below_two ((unhide B7).trans ((unhide T1).mono (by have := (unhide P7).lt; have := unhide LP; omega))) hT9 (by have := (unhide P7).lt; have := unhide LP; have := (unhide T1).size; omega) (unhide LP) oo⟩
          · intro h
            have e1 : g7 = P := Option.some.inj h
            rcases hF9 with h1 | h1
            · exact unhide OP (by rw [h1, e1])
            · have := (unhide P7).lt; have := (unhide T1).size; omega
          · rw [List.map_append, ← unhide HL2, List.map_cons, List.map_nil, hp9]; rfl
        have k9 := hP9.S
        clear hP9 hM9 hp9 hT9 hF9 hO9 oo
        go_wp2_with fail
        refine hK.out _ _ ?_ (fun hHeld20 => ?_)
        · intro o ho
          rw [k9 o]
          exact arr13 _ _ _ _ _ _ _ _ _ _ _ _ _ _ _ o ho
        clear hK K
        try simp only [Act.put, qqA, qqB, qqC]
        refine wpAnyH_done (by kernel_rfl) ?_ _
        clear kp k9
        go_wp2_with fail
        obtain ⟨f1, f2, f3, f4, f5, f6, f7, f8, f9, f10⟩ := unhide FIN
        have HF := hide (And.intro f1 (And.intro f2 (And.intro f3 (And.intro f4 (And.intro f5 (And.intro f6 (And.intro f7 (And.intro f8 (And.intro f9 f10)))))))))
        clear f1 f2 f3 f4 f5 f6 f7 f8 f9 f10 FIN P7 M7 LPx OP E7 V7 X7 G7 B7 T0 T1
        go_roundw
        case rel =>
          obtain ⟨f1, f2, f3, f4, f5, f6, f7, f8, f9, f10⟩ := unhide HF
          exact ⟨k + 1, _, n1 + 1, c7, L1 ++ [p], by omega, by omega, by go_num, by show _ = _; rw [List.length_append, unhide HN1]; rfl, f5, f1, f2, f3, f4, f6, f7, f8, f9, f10⟩
        case measure => simp [intOf]; omega
    · obtain rfl : k = nd := by omega
      go_wp2_with fail
      go_end0
      exact ⟨gV, a1, n1, c1, L1, rfl, unhide P7, unhide E7, unhide V7, unhide X7, unhide G7, unhide M7, unhide HL, unhide B7⟩
end Go.Proofs.Ytjlajpnhcphngaa

/- The specification's source of drawn bytes: what a draw does. -/
import Derived.Test.YtamjljhbnhdgdaaDoorZG17
import Derived.Test.YtamjljhbnhdgdaaDoorZG1
namespace Go.Proofs.YtamjljhbnhdgdaaDoor
open Go.ChangeShapes Go.WideShapes Go.ChangeAt Go.RowKit
/-- The row at a lies in another block than g (or is empty). -/
def ApartOf (a : Option Addr) (l : List UInt8) (g : Nat) : Prop := l = [] ∨ ∀ x, a = some x → x.block ≠ g
/-- The source at block g: its bytes, its place, its seed. -/
def SrcAt (w : World) (g : Nat) (a : Option Addr) (cap : Nat) (l : List UInt8) (p s : Nat) : Prop := ArrAt w g 66 [.slice a l.length cap, .int .i64 (p : Int), .int .i64 (s : Int)]
set_option maxHeartbeats 800000 in
set_option maxRecDepth 100000 in
theorem sbyte_in (g : Nat) (a : Option Addr) (cap : Nat) (l : List UInt8) (p s : Nat) (hl : l.length ≤ 1048600) (hp : p ≤ 2000000) (hs : s < 2147483648) (w : World) (h : SrcAt w g a cap l p s) (hr : Row8 w a l) (hg : ApartOf a l g) (hin : p < l.length) :
  Calls Tryd.prog 45 #[.pointer (some ⟨g, 0, none⟩)] w fun e w' => ∃ x s' : Nat, e = .returned (.int .i64 (x : Int)) ∧ x ≤ 255 ∧ s' < 2147483648 ∧ SrcAt w' g a cap l (p + 1) s' ∧ w.grownBy w' (some g) := by
 obtain ⟨w1, hw1⟩ : ∃ w1, w1 = w.setCell ⟨g, 1, none⟩ (.int .i64 ((p : Int) + 1)) := ⟨_, rfl⟩
 have c1 : w.cell? ⟨g, 1, none⟩ = some (.int .i64 (p : Int)) := by rw [ArrAt.cell h]; rfl
 have f1 := ArrAt.frozen h 1
 have h1 : ArrAt w1 g 66 [.slice a l.length cap, .int .i64 ((p : Int) + 1), .int .i64 (s : Int)] := by rw [hw1]; exact ArrAt.set h 1 _
 have d0 : w1.cell? ⟨g, 0, none⟩ = some (.slice a l.length cap) := by rw [h1.cell]; rfl
 obtain ⟨q, hq⟩ : ∃ q : Int, q = (p : Int) + 1 := ⟨_, rfl⟩
 have d1 : w1.cell? ⟨g, 1, none⟩ = some (.int .i64 q) := by rw [h1.cell, hq]; rfl
 have d2 : w1.cell? ⟨g, 2, none⟩ = some (.int .i64 (s : Int)) := by rw [h1.cell]; rfl
 have e2 := h1.frozen 2
 have G1 := hide (show w.grownBy w1 (some g) from by rw [hw1]; exact stored_grown)
 have H1 := hide h1
 have HR := hide hr
 have HG := hide hg
 clear h h1 hr hg
 have hs1 : (s : Int) ≤ 2147483647 := by omega
 obtain ⟨b, off, ha, hblt, hc⟩ := (unhide HR).at (by omega)
 have hbg : b ≠ g := (unhide HG).resolve_left (fun e => by rw [e] at hin; simp at hin) _ ha
 subst ha
 have dc : w1.cell? ⟨b, off + p, none⟩ = some (.int .u8 (l[p].toNat : Int)) := ((unhide G1).cell_far ⟨b, off + p, none⟩ hblt (fun e => hbg (Option.some.inj e))).trans (hc p hin)
 have hcv : (l[p].toNat : Int) ≤ 255 := by have := l[p].toNat_lt; omega
 have hin' : q ≤ (l.length : Int) := by omega
 have hp1 : (p : Int) + 1 - 1 = (p : Int) := by omega
 have hp0 : (0 : Int) ≤ (p : Int) := by omega
 have hp2 : (p : Int) < (l.length : Int) := by omega
 have k34 : IntKind.i64.wrap (q - 1) = (p : Int) := by rw [hq, hp1]; exact wrapi _ (by omega) (by omega)
 have k36 : IntKind.i64.wrap (p : Int) = (p : Int) := wrapi _ (by omega) (by omega)
 obtain ⟨x, hx⟩ : ∃ x : Nat, x = l[p].toNat := ⟨_, rfl⟩
 rw [← hx] at dc hcv
 have hx1 : x ≤ 255 := by omega
 obtain ⟨s', hs'⟩ : ∃ s' : Nat, (s' : Int) = ((s : Int) * 31 + x + 7) % 2147483648 := ⟨(((s : Int) * 31 + x + 7) % 2147483648).toNat, by omega⟩
 have hs2 : s' < 2147483648 := by omega
 have kx : IntKind.i64.wrap (x : Int) = (x : Int) := wrapi _ (by omega) (by omega)
 have k25 : IntKind.i64.wrap ((s : Int) * 31) = (s : Int) * 31 := wrapi _ (by omega) (by omega)
 have k38 : IntKind.i64.wrap ((s : Int) * 31 + x) = (s : Int) * 31 + x := wrapi _ (by omega) (by omega)
 have k39 : IntKind.i64.wrap ((s : Int) * 31 + x + 7) = (s : Int) * 31 + x + 7 := wrapi _ (by omega) (by omega)
 have k40 : ((s : Int) * 31 + x + 7).tmod 2147483648 = (s' : Int) := by rw [Int.tmod_eq_emod_of_nonneg (by omega)]; omega
 have k41 : ((s : Int) * 31 + x + 7) % 2147483648 = (s' : Int) := hs'.symm
 have hw1' := hw1.symm
 obtain ⟨w2, hw2⟩ : ∃ w2, w2 = w1.setCell ⟨g, 2, none⟩ (.int .i64 (s' : Int)) := ⟨_, rfl⟩
 have h2 : ArrAt w2 g 66 [.slice (some ⟨b, off, none⟩) l.length cap, .int .i64 ((p : Int) + 1), .int .i64 (s' : Int)] := by rw [hw2]; exact (unhide H1).set 2 _
 have b0 : w2.cell? ⟨g, 0, none⟩ = some (.slice (some ⟨b, off, none⟩) l.length cap) := by rw [h2.cell]; rfl
 have b1 : w2.cell? ⟨g, 1, none⟩ = some (.int .i64 q) := by rw [h2.cell, hq]; rfl
 have G2 := hide (show w.grownBy w2 (some g) from by rw [hw2]; exact World.grownBy.trans' (unhide G1) stored_grown)
 have bc : w2.cell? ⟨b, off + p, none⟩ = some (.int .u8 (x : Int)) := by rw [hx]; exact ((unhide G2).cell_far ⟨b, off + p, none⟩ hblt (fun e => hbg (Option.some.inj e))).trans (hc p hin)
 have H2 := hide h2
 have hw2' := hw2.symm
 have HQ := hide hq
 clear hs' hx hp1 hq hw2 h2 hc hw1 HR
 go_enter Tryd.func45, Tryd.ntmps45
 go_wp2_with fail
 go_region_held3 (fun w' => w'.cell? ⟨g, 0, none⟩ = some (.slice (some ⟨b, off, none⟩) l.length cap) ∧ w'.cell? ⟨g, 1, none⟩ = some (.int .i64 q)) (go_keep) (fail)
 all_goals
  go_wp2_with fail
  go_region
  all_goals
   go_wp2_with fail
   go_region_held3 (fun w' => w'.cell? ⟨g, 0, none⟩ = some (.slice (some ⟨b, off, none⟩) l.length cap) ∧ w'.cell? ⟨g, 1, none⟩ = some (.int .i64 q) ∧ w'.cell? ⟨b, off + p, none⟩ = some (.int .u8 (x : Int))) (go_keep) (fail)
   all_goals
    go_wp2_with fail
    go_ret
    exact ⟨x, s', rfl, hx1, hs2, unhide H2, ⟨(unhide G2).os, (unhide G2).tape, (unhide G2).output, (unhide G2).size, (unhide G2).block⟩⟩
set_option maxHeartbeats 800000 in
set_option maxRecDepth 100000 in
theorem sbyte_end (g : Nat) (a : Option Addr) (cap : Nat) (l : List UInt8) (p s : Nat) (_hl : l.length ≤ 1048600) (hp : p ≤ 2000000) (hs : s < 2147483648) (w : World) (h : SrcAt w g a cap l p s) (hr : Row8 w a l) (hg : ApartOf a l g) (hin : ¬ p < l.length) (hend : 3000 < p + 1) :
  Calls Tryd.prog 45 #[.pointer (some ⟨g, 0, none⟩)] w fun e w' => ∃ x s' : Nat, e = .returned (.int .i64 (x : Int)) ∧ x ≤ 255 ∧ s' < 2147483648 ∧ SrcAt w' g a cap l (p + 1) s' ∧ w.grownBy w' (some g) := by
 obtain ⟨w1, hw1⟩ : ∃ w1, w1 = w.setCell ⟨g, 1, none⟩ (.int .i64 ((p : Int) + 1)) := ⟨_, rfl⟩
 have c1 : w.cell? ⟨g, 1, none⟩ = some (.int .i64 (p : Int)) := by rw [ArrAt.cell h]; rfl
 have f1 := ArrAt.frozen h 1
 have h1 : ArrAt w1 g 66 [.slice a l.length cap, .int .i64 ((p : Int) + 1), .int .i64 (s : Int)] := by rw [hw1]; exact ArrAt.set h 1 _
 have d0 : w1.cell? ⟨g, 0, none⟩ = some (.slice a l.length cap) := by rw [h1.cell]; rfl
 obtain ⟨q, hq⟩ : ∃ q : Int, q = (p : Int) + 1 := ⟨_, rfl⟩
 have d1 : w1.cell? ⟨g, 1, none⟩ = some (.int .i64 q) := by rw [h1.cell, hq]; rfl
 have d2 : w1.cell? ⟨g, 2, none⟩ = some (.int .i64 (s : Int)) := by rw [h1.cell]; rfl
 have e2 := h1.frozen 2
 have G1 := hide (show w.grownBy w1 (some g) from by rw [hw1]; exact stored_grown)
 have H1 := hide h1
 have HR := hide hr
 have HG := hide hg
 clear h h1 hr hg
 have hs1 : (s : Int) ≤ 2147483647 := by omega
 have hin' : ¬ q ≤ (l.length : Int) := by omega
 have hw1' := hw1.symm
 have hend' : 3000 < q := by omega
 clear hw1 HR hq
 go_enter Tryd.func45, Tryd.ntmps45
 go_wp2_with fail
 go_region_held3 (fun w' => w'.cell? ⟨g, 0, none⟩ = some (.slice a l.length cap) ∧ w'.cell? ⟨g, 1, none⟩ = some (.int .i64 q)) (go_keep) (fail)
 all_goals
  go_wp2_with fail
  go_ret
  exact ⟨0, s, rfl, by omega, hs, unhide H1, ⟨(unhide G1).os, (unhide G1).tape, (unhide G1).output, (unhide G1).size, (unhide G1).block⟩⟩
theorem seed_step (s : Nat) (hs : s < 2147483648) : ∃ s' x : Nat, s' < 2147483648 ∧ x ≤ 255 ∧ (s' : Int) ≤ 2147483647 ∧ ((s : Int) * 1103515245 + 12345).tmod 2147483648 = (s' : Int) ∧ ((s : Int) * 1103515245 + 12345) % 2147483648 = (s' : Int) ∧ (s' : Int) / 65536 % 256 = (x : Int) ∧ ((s' : Int) / 65536).tmod 256 = (x : Int) ∧
  IntKind.i64.wrap ((s : Int) * 1103515245) = (s : Int) * 1103515245 ∧ IntKind.i64.wrap ((s : Int) * 1103515245 + 12345) = (s : Int) * 1103515245 + 12345 := by
 have w1 : IntKind.i64.wrap ((s : Int) * 1103515245) = (s : Int) * 1103515245 := wrapi _ (by omega) (by omega)
 have w2 : IntKind.i64.wrap ((s : Int) * 1103515245 + 12345) = (s : Int) * 1103515245 + 12345 := wrapi _ (by omega) (by omega)
 obtain ⟨n, hn⟩ : ∃ n : Nat, (s : Int) * 1103515245 + 12345 = (n : Int) := ⟨s * 1103515245 + 12345, by omega⟩
 rw [hn] at w2 ⊢
 clear hn hs
 refine ⟨n % 2147483648, n % 2147483648 / 65536 % 256, by omega, by omega, by omega, ?_, by omega, by omega, ?_, w1, w2⟩
 ·rw [Int.tmod_eq_emod_of_nonneg (by omega)]; omega
 ·rw [Int.tmod_eq_emod_of_nonneg (by omega)]; omega
set_option maxHeartbeats 800000 in
set_option maxRecDepth 100000 in
theorem sbyte_more (g : Nat) (a : Option Addr) (cap : Nat) (l : List UInt8) (p s : Nat) (_hl : l.length ≤ 1048600) (hp : p ≤ 2000000) (hs : s < 2147483648) (w : World) (h : SrcAt w g a cap l p s) (hr : Row8 w a l) (hg : ApartOf a l g) (hin : ¬ p < l.length) (hend : ¬ 3000 < p + 1) :
  Calls Tryd.prog 45 #[.pointer (some ⟨g, 0, none⟩)] w fun e w' => ∃ x s' : Nat, e = .returned (.int .i64 (x : Int)) ∧ x ≤ 255 ∧ s' < 2147483648 ∧ SrcAt w' g a cap l (p + 1) s' ∧ w.grownBy w' (some g) := by
 obtain ⟨w1, hw1⟩ : ∃ w1, w1 = w.setCell ⟨g, 1, none⟩ (.int .i64 ((p : Int) + 1)) := ⟨_, rfl⟩
 have c1 : w.cell? ⟨g, 1, none⟩ = some (.int .i64 (p : Int)) := by rw [ArrAt.cell h]; rfl
 have f1 := ArrAt.frozen h 1
 have h1 : ArrAt w1 g 66 [.slice a l.length cap, .int .i64 ((p : Int) + 1), .int .i64 (s : Int)] := by rw [hw1]; exact ArrAt.set h 1 _
 have d0 : w1.cell? ⟨g, 0, none⟩ = some (.slice a l.length cap) := by rw [h1.cell]; rfl
 obtain ⟨q, hq⟩ : ∃ q : Int, q = (p : Int) + 1 := ⟨_, rfl⟩
 have d1 : w1.cell? ⟨g, 1, none⟩ = some (.int .i64 q) := by rw [h1.cell, hq]; rfl
 have d2 : w1.cell? ⟨g, 2, none⟩ = some (.int .i64 (s : Int)) := by rw [h1.cell]; rfl
 have e2 := h1.frozen 2
 have G1 := hide (show w.grownBy w1 (some g) from by rw [hw1]; exact stored_grown)
 have H1 := hide h1
 have HR := hide hr
 have HG := hide hg
 clear h h1 hr hg
 have hs1 : (s : Int) ≤ 2147483647 := by omega
 have hin' : ¬ q ≤ (l.length : Int) := by omega
 have hw1' := hw1.symm
 have hend' : ¬ 3000 < q := by omega
 obtain ⟨s', x, hs2, hx1, hs3, k40, k41, k42, k43, kw1, kw2⟩ := seed_step s hs
 obtain ⟨w2, hw2⟩ : ∃ w2, w2 = w1.setCell ⟨g, 2, none⟩ (.int .i64 (s' : Int)) := ⟨_, rfl⟩
 have h2 : ArrAt w2 g 66 [.slice a l.length cap, .int .i64 ((p : Int) + 1), .int .i64 (s' : Int)] := by rw [hw2]; exact (unhide H1).set 2 _
 have b2 : w2.cell? ⟨g, 2, none⟩ = some (.int .i64 (s' : Int)) := by rw [h2.cell]; rfl
 have G2 := hide (show w.grownBy w2 (some g) from by rw [hw2]; exact World.grownBy.trans' (unhide G1) stored_grown)
 have H2 := hide h2
 have hw2' := hw2.symm
 have HS2 := hide hs2
 clear hs2 hs
 clear hq hw2 h2 hw1 HR
 go_enter Tryd.func45, Tryd.ntmps45
 go_wp2_with fail
 go_region_held3 (fun w' => w'.cell? ⟨g, 0, none⟩ = some (.slice a l.length cap) ∧ w'.cell? ⟨g, 1, none⟩ = some (.int .i64 q)) (go_keep) (fail)
 all_goals
  go_wp2_with fail
  go_ret
  exact ⟨x, s', rfl, hx1, unhide HS2, unhide H2, ⟨(unhide G2).os, (unhide G2).tape, (unhide G2).output, (unhide G2).size, (unhide G2).block⟩⟩
theorem sbyte (g : Nat) (a : Option Addr) (cap : Nat) (l : List UInt8) (p s : Nat) (hl : l.length ≤ 1048600) (hp : p ≤ 2000000) (hs : s < 2147483648) (w : World) (h : SrcAt w g a cap l p s) (hr : Row8 w a l) (hg : ApartOf a l g) :
  Calls Tryd.prog 45 #[.pointer (some ⟨g, 0, none⟩)] w fun e w' => ∃ x s' : Nat, e = .returned (.int .i64 (x : Int)) ∧ x ≤ 255 ∧ s' < 2147483648 ∧ SrcAt w' g a cap l (p + 1) s' ∧ w.grownBy w' (some g) := by
 by_cases hin : p < l.length
 ·exact sbyte_in g a cap l p s hl hp hs w h hr hg hin
 by_cases hend : 3000 < p + 1
 ·exact sbyte_end g a cap l p s hl hp hs w h hr hg hin hend
 ·exact sbyte_more g a cap l p s hl hp hs w h hr hg hin hend
end Go.Proofs.YtamjljhbnhdgdaaDoor

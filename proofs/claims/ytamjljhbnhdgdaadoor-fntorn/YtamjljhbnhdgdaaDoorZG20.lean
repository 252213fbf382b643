/- Texts put together: SrcT SrcC DrwE OwnS. -/
import Derived.Test.YtamjljhbnhdgdaaDoorZG19
import Derived.Test.YtamjljhbnhdgdaaDoorZG5
import Derived.Test.YtamjljhbnhdgdaaDoorZG7
import Derived.Test.YtamjljhbnhdgdaaDoorZAftU
import Derived.Test.YtamjljhbnhdgdaaDoorZG9
/- A source's drawn texts. -/
namespace Go.Proofs.YtamjljhbnhdgdaaDoor
open Go.ChangeShapes Go.WideShapes Go.ChangeAt Go.RowKit
set_option linter.unusedVariables false
set_option maxRecDepth 100000 in
theorem spick (g b cap2 : Nat) (m : List ByteArray) (a : Option Addr) (cap : Nat) (l : List UInt8) (p s : Nat) (hm : 2 ≤ m.length) (hm2 : m.length ≤ 256) (hl : l.length ≤ 1048600) (hp : p ≤ 2000000) (hs : s < 2147483648) (w : World) (hb : b < w.heap.size) (hbg : b ≠ g) (hc : ∀ k (h : k < m.length), w.cell? ⟨b, k, none⟩ = some (.string m[k])) (h : SrcAt w g a cap l p s) (hr : Row8 w a l) (hg : ApartOf a l g) :
  Calls Tryd.prog 46 #[.pointer (some ⟨g, 0, none⟩), .slice (some ⟨b, 0, none⟩) m.length cap2] w fun e w' => ∃ x : Nat, ∃ (hx : x < m.length) (s' : Nat), e = .returned (.string m[x]) ∧ s' < 2147483648 ∧ SrcAt w' g a cap l (p + 1) s' ∧ w.grownBy w' (some g) := by
 have HH := hide (snext m.length g a cap l p s hm hm2 hl hp hs w h hr hg)
 have n0 : ((m.length : Int) == 0) = false := beq_eq_false_iff_ne.2 (by omega)
 have n1 : ¬ (m.length : Int) = 0 := by omega
 have HC := hide hc
 clear h hr hg hs hc
 go_enter Tryd.func46, Tryd.ntmps46
 go_wp2_with fail
 refine (unhide HH).mono ?_
 rintro e w2 ⟨x, s', rfl, hx, hs', hA, hG⟩
 have hc2 : w2.cell? ⟨b, x, none⟩ = some (.string m[x]) := (World.cell?_of_block (hG.block b hb (fun e => hbg (by injection e)))).trans (unhide HC x hx)
 have hx1 : (x : Int) < (m.length : Int) := by omega
 have hx0 : (0 : Int) ≤ (x : Int) := by omega
 have HA := hide hA
 have HG := hide hG
 have HS := hide hs'
 have HX := hide hx
 clear hA hG hs'
 go_wp2_with fail
 go_ret
 exact ⟨x, unhide HX, s', rfl, unhide HS, unhide HA, unhide HG⟩
/-- The four texts that a source draws from. -/
def texts4 : List ByteArray := [⟨#[]⟩, ⟨#[97]⟩, ⟨#[116, 101, 120, 116]⟩, ⟨#[0, 1]⟩]
theorem grown_alloc (w : World) (o : Obj) (row : Option Nat) : w.grownBy (w.alloc o) row := ⟨rfl, rfl, rfl, by simp, fun k hk _ => alloc_at_old w _ k hk⟩
end Go.Proofs.YtamjljhbnhdgdaaDoor

/- A source's draws of commands: chances, names of windows, what a program puts out. -/
namespace Go.Proofs.YtamjljhbnhdgdaaDoor
open Go.ChangeShapes Go.WideShapes Go.ChangeAt Go.RowKit
set_option linter.unusedVariables false
theorem cells_texts (m : List ByteArray) (w : World) (t : TypeId) (xs : Array Value) (hx : xs = (m.map Value.string).toArray) (k : Nat) (h : k < m.length) : (w.alloc (.cells xs t)).cell? ⟨w.heap.size, k, none⟩ = some (.string m[k]) := by
 rw [World.cell?_alloc_mark, hx]
 simp [h]
theorem sizes_of {m : List ByteArray} {lo hi : Nat} (h : (m.all fun b => decide (lo ≤ b.size) && decide (b.size ≤ hi)) = true) (k : Nat) (hk : k < m.length) : lo ≤ m[k].size ∧ m[k].size ≤ hi := by
 have := List.all_eq_true.1 h m[k] (List.getElem_mem hk)
 simpa using this
def textsO : List ByteArray := [⟨#[116, 101, 120, 116]⟩, ⟨#[97]⟩, ⟨#[13, 10]⟩, ⟨#[10]⟩, ⟨#[8]⟩, ⟨#[9]⟩, ⟨#[27, 91, 72]⟩, ⟨#[27, 91, 50, 74]⟩, ⟨#[27, 91, 75]⟩, ⟨#[27, 91, 49, 59, 51, 49, 109]⟩, ⟨#[27, 91, 48, 109]⟩, ⟨#[27, 91, 51, 59, 50, 72]⟩, ⟨#[27, 91, 50, 65]⟩, ⟨#[27, 91, 66]⟩, ⟨#[27, 91, 53, 67]⟩, ⟨#[27, 91, 68]⟩, ⟨#[27, 91, 50, 59, 52, 114]⟩, ⟨#[27, 91, 114]⟩, ⟨#[27, 91, 76]⟩, ⟨#[27, 91, 50, 77]⟩, ⟨#[27, 55]⟩, ⟨#[27, 56]⟩, ⟨#[27, 68]⟩, ⟨#[27, 77]⟩, ⟨#[27, 69]⟩, ⟨#[27, 99]⟩, ⟨#[27, 93, 48, 59, 116, 105, 116, 108, 101, 7]⟩, ⟨#[27, 93, 120, 27, 92]⟩, ⟨#[195, 164]⟩, ⟨#[226, 130, 172]⟩, ⟨#[240, 159, 152, 128]⟩, ⟨#[128]⟩, ⟨#[226, 40]⟩, ⟨#[27, 91, 63, 50, 53, 104]⟩, ⟨#[27, 91, 49, 59, 50, 59, 51, 59, 52, 59, 53, 59, 54, 59, 55, 59, 56, 59, 57, 109]⟩, ⟨#[27, 91, 57, 57, 57, 57, 57, 65]⟩, ⟨#[27, 91, 49, 36, 120]⟩, ⟨#[7]⟩, ⟨#[27, 91, 83]⟩, ⟨#[27, 91, 84]⟩, ⟨#[27, 91, 49, 74]⟩, ⟨#[27, 91, 49, 75]⟩, ⟨#[119, 114, 97, 112, 32, 97, 114, 111, 117, 110, 100, 32, 105, 116]⟩]
def textsW : List ByteArray := [⟨#[109, 97, 105, 110]⟩, ⟨#[108, 111, 103, 115]⟩, ⟨#[101, 100, 105, 116]⟩]
def textsR : List ByteArray := [⟨#[109, 97, 105, 110]⟩, ⟨#[111, 116, 104, 101, 114]⟩, ⟨#[108, 111, 103, 115]⟩]
end Go.Proofs.YtamjljhbnhdgdaaDoor

/- Drawn entries of the specification. -/
namespace Go.Proofs.YtamjljhbnhdgdaaDoor
open Go.ChangeShapes Go.WideShapes Go.ChangeAt Go.RowKit
set_option linter.unusedVariables false
theorem grown_new {w c : World} {g B : Nat} (h : w.grownBy c (some g)) (hB : w.heap.size ≤ B) (o : Nat) (v : Value) : w.grownBy (c.setCell ⟨B, o, none⟩ v) (some g) :=
 ⟨h.os, h.tape, h.output, by rw [World.size_setCell]; exact h.size, fun k hk hne => (Below.heap_setCell _ _ _ k (by show k ≠ B; omega)).trans (h.block k hk hne)⟩
def textsE : List ByteArray := [⟨#[]⟩, ⟨#[100, 97, 116, 97]⟩, ⟨#[109, 111, 114, 101]⟩, ⟨#[0]⟩]
theorem textsE_cells (w : World) (t : TypeId) (k : Nat) (h : k < textsE.length) : (w.alloc (.cells #[.string ⟨#[]⟩, .string ⟨#[100, 97, 116, 97]⟩, .string ⟨#[109, 111, 114, 101]⟩, .string ⟨#[0]⟩] t)).cell? ⟨w.heap.size, k, none⟩ = some (.string textsE[k]) := cells_texts textsE w t _ rfl k h
theorem textsE_sz : ∀ k (h : k < textsE.length), 0 ≤ textsE[k].size ∧ textsE[k].size ≤ 4 := sizes_of (by decide +kernel)
set_option maxHeartbeats 1000000 in
set_option maxRecDepth 100000 in
theorem sentryD (term : Int) (g : Nat) (a : Option Addr) (cap : Nat) (l : List UInt8) (p s : Nat) (hl : l.length ≤ 1048600) (hp : p ≤ 2000000) (hs : s < 2147483648) (w : World) (h : SrcAt w g a cap l p s) (hr : Row8 w a l) (hg : ApartOf a l g) :
  Calls Tryd.prog 30 #[.pointer (some ⟨g, 0, none⟩), .int .i64 term] w fun e w' => ∃ (d : ByteArray) (s' : Nat), e = .returned (.agg #[.int .i64 term, .string d]) ∧ d.size ≤ 400 ∧ s' < 2147483648 ∧ SrcAt w' g a cap l (p + 1) s' ∧ w.grownBy w' (some g) := by
 have hgw : g < w.heap.size := ArrAt.lt h
 have gr1 := grown_alloc w (.cells #[.int .i64 0, .string ⟨#[]⟩] 62) (some g)
 have gr2 := World.grownBy.trans' gr1 (grown_alloc (w.alloc (.cells #[.int .i64 0, .string ⟨#[]⟩] 62)) (.cells #[.string ⟨#[]⟩, .string ⟨#[100, 97, 116, 97]⟩, .string ⟨#[109, 111, 114, 101]⟩, .string ⟨#[0]⟩] 9) (some g))
 have HH := hide (spick g (w.alloc (.cells #[.int .i64 0, .string ⟨#[]⟩] 62)).heap.size 4 textsE a cap l p s (by decide) (by decide) hl hp hs ((w.alloc (.cells #[.int .i64 0, .string ⟨#[]⟩] 62)).alloc (.cells #[.string ⟨#[]⟩, .string ⟨#[100, 97, 116, 97]⟩, .string ⟨#[109, 111, 114, 101]⟩, .string ⟨#[0]⟩] 9)) (by simp) (by simp; omega) (textsE_cells _ _) (ArrAt.alloc (ArrAt.alloc h _) _) (hr.grown gr2 hg) hg)
 have R0 := hide ((BF.new w #[.int .i64 0, .string ⟨#[]⟩] 62).alloc (.cells #[.string ⟨#[]⟩, .string ⟨#[100, 97, 116, 97]⟩, .string ⟨#[109, 111, 114, 101]⟩, .string ⟨#[0]⟩] 9))
 have HG := hide gr2
 simp only [World.size_alloc] at HH
 clear h hr hg hs gr1 gr2
 go_enter Tryd.func30, Tryd.ntmps30
 go_wp2_with fail
 refine (unhide HH).mono ?_
 rintro e w2 ⟨x, hx, s', rfl, hs', hA, hG⟩
 have HA := hide hA
 have R2 := hide ((unhide R0).grown hG (by intro e; injection e with e; omega))
 have HG2 := hide (World.grownBy.trans' (unhide HG) hG)
 have HS := hide hs'
 clear hA hG hs' HH R0
 have kr := (unhide R2).S
 have kf := (unhide R2).F
 go_wp2_with fail
 refine bodyPost_ret (v := .agg #[.int .i64 term, .string textsE[x]]) (by simp [results, Tryd.results30, go_sem, *]) rfl ⟨textsE[x], s', rfl, Nat.le_trans (textsE_sz x hx).2 (by decide), unhide HS, ?_, ?_⟩
 ·exact ((unhide HA).other (by omega) 0 _).other (by omega) 1 _
 ·exact grown_new (grown_new (unhide HG2) (Nat.le_refl _) 0 _) (Nat.le_refl _) 1 _
end Go.Proofs.YtamjljhbnhdgdaaDoor

/- spec.l07Own: a state with a log of its own. -/
namespace Go.Proofs.YtamjljhbnhdgdaaDoor
open Go.ChangeShapes Go.WideShapes Go.ChangeAt Go.RowKit
set_option linter.unusedVariables false
set_option maxHeartbeats 4000000 in
set_option maxRecDepth 100000 in
theorem sown (tm vt : Int) (a : Option Addr) (cap n : Nat) (l : List (Int × ByteArray)) (HN : Hid (l.length = n)) (hn : n ≤ 1048576) (w : World) (hr : RowV w a (cE l)) :
  Calls Tryd.prog 28 #[.agg #[.int .i64 tm, .int .i64 vt, .slice a n cap]] w fun e w' => ∃ v, e = .returned (.agg #[.int .i64 tm, .int .i64 vt, v]) ∧ w'.ownsRow w.heap.size 62 2 v n (cE l) ∧ Below w.heap.size w w' := by
 obtain ⟨ie, hie, hie0, hie1, hie2⟩ := info_parts Tryd.infE62
 have B0 := hide (Go.Joins.below_alloc3 w (.cells #[.int .i64 tm, .int .i64 vt, .slice a n cap] 25) (.cells #[.int .i64 0, .int .i64 0, .slice none 0 0] 25) (.cells #[] 62))
 have A0 := hide (((BF.new w #[.int .i64 tm, .int .i64 vt, .slice a n cap] 25).alloc (.cells #[.int .i64 0, .int .i64 0, .slice none 0 0] 25)).alloc (.cells #[] 62))
 have Z0 := hide ((BF.new (w.alloc (.cells #[.int .i64 tm, .int .i64 vt, .slice a n cap] 25)) #[.int .i64 0, .int .i64 0, .slice none 0 0] 25).alloc (.cells #[] 62))
 simp only [World.size_alloc] at Z0
 have HW := hide (hr.below (unhide B0))
 have OL := hide (World.ownsRow_lit (e := 62) (base := w.heap.size + 2) (size := 2) ((w.alloc (.cells #[.int .i64 tm, .int .i64 vt, .slice a n cap] 25)).alloc (.cells #[.int .i64 0, .int .i64 0, .slice none 0 0] 25)) #[] 0 (by simp) (by unfold maxLen; omega) rfl)
 simp only [World.size_alloc] at OL
 clear hr
 go_enter Tryd.func28, Tryd.ntmps28
 go_wp2_with (at_builtin; refine append_ents _ rfl (.tmp 3) (.tmp 5) 23 rfl (w.heap.size + 2) 62 ie Tryd.underlying23 hie hie0 hie1 hie2 _ rfl (unhide OL) a cap n l (unhide HN) rfl (unhide HW) hn (by simp) ?_; intro v' w1 ho1 hg1; obtain ⟨a1, c1, rfl, -⟩ := ownZ_rowV ho1; have hk : ∀ j, (Value.slice (some ⟨w.heap.size + 1 + 1, 0, none⟩) 0 0).ownBlock = some j → j = w.heap.size + 1 + 1 := (fun j hj => (Option.some.inj hj).symm); have A1 := hide ((unhide A0).grown hg1 (fun h => by have := hk _ h; omega)); have Z1 := hide ((unhide Z0).grown hg1 (fun h => by have := hk _ h; omega)); have B1 := hide ((unhide B0).grown hg1 (unhide B0).size (fun j hj => by have := hk j hj; omega)); have O1 := hide ho1; have ka := (unhide A1).S; have kaf := (unhide A1).F; have kz := (unhide Z1).S; have kzf := (unhide Z1).F; clear ho1 hg1 hk)
 refine bodyPost_ret (v := .agg #[.int .i64 tm, .int .i64 vt, .slice a1 n c1]) (by simp [results, Tryd.results28, go_sem, kz]) rfl ⟨_, rfl, ?_, ?_⟩
 ·refine own_low ?_ (Nat.le_add_right _ 2)
  iterate 3 refine ownsRow_setCell_below ?_ (by show w.heap.size + 1 < w.heap.size + 2; omega) _
  refine ownsRow_setCell_below ?_ (by show w.heap.size < w.heap.size + 2; omega) _
  exact unhide O1
 ·iterate 3 refine Below.setCell ?_ (by exact Nat.le_succ _) _
  refine Below.setCell ?_ (by exact Nat.le_refl _) _
  exact unhide B1
end Go.Proofs.YtamjljhbnhdgdaaDoor

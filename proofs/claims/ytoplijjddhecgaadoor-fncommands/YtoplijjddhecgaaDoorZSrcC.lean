/- A source's draws of commands: chances, names of windows, what a program puts out. -/
import Derived.Test.YtoplijjddhecgaaDoorZSrcT
namespace Go.Proofs.YtoplijjddhecgaaDoor
open Go.ChangeShapes Go.WideShapes Go.ChangeAt Go.RowKit
set_option linter.unusedVariables false
theorem cells_texts (m : List ByteArray) (w : World) (t : TypeId) (xs : Array Value) (hx : xs = (m.map Value.string).toArray) (k : Nat) (h : k < m.length) : (w.alloc (.cells xs t)).cell? ⟨w.heap.size, k, none⟩ = some (.string m[k]) := by
  rw [World.cell?_alloc_mark, hx]
  simp [h]
theorem sizes_of {m : List ByteArray} {lo hi : Nat} (h : (m.all fun b => decide (lo ≤ b.size) && decide (b.size ≤ hi)) = true) (k : Nat) (hk : k < m.length) : lo ≤ m[k].size ∧ m[k].size ≤ hi := by
  have := List.all_eq_true.1 h m[k] (List.getElem_mem hk)
  simpa using this
set_option maxRecDepth 100000 in
theorem schance (n g : Nat) (a : Option Addr) (cap : Nat) (l : List UInt8) (p s : Nat) (hn : 2 ≤ n) (hn2 : n ≤ 256) (hl : l.length ≤ 1048600) (hp : p ≤ 2000000) (hs : s < 2147483648) (w : World) (h : SrcAt w g a cap l p s) (hr : Row8 w a l) (hg : ApartOf a l g) :
    Calls Tryd.prog 26 #[.pointer (some ⟨g, 0, none⟩), .int .i64 (n : Int)] w fun e w' => ∃ (x : Bool) (s' : Nat), e = .returned (.bool x) ∧ s' < 2147483648 ∧ SrcAt w' g a cap l (p + 1) s' ∧ w.grownBy w' (some g) := by
  have HH := hide (snext n g a cap l p s hn hn2 hl hp hs w h hr hg)
  clear h hr hg hs
  go_enter Tryd.func26, Tryd.ntmps26
  go_wp2_with fail
  refine (unhide HH).mono ?_
  rintro e w2 ⟨x, s', rfl, hx, hs', hA, hG⟩
  have HA := hide hA
  have HG := hide hG
  have HS := hide hs'
  clear hA hG hs' HH
  go_wp2_with fail
  go_ret
  exact ⟨_, s', rfl, unhide HS, unhide HA, unhide HG⟩
def textsO : List ByteArray := [⟨#[116, 101, 120, 116]⟩, ⟨#[97]⟩, ⟨#[13, 10]⟩, ⟨#[10]⟩, ⟨#[8]⟩, ⟨#[9]⟩, ⟨#[27, 91, 72]⟩, ⟨#[27, 91, 50, 74]⟩, ⟨#[27, 91, 75]⟩, ⟨#[27, 91, 49, 59, 51, 49, 109]⟩, ⟨#[27, 91, 48, 109]⟩, ⟨#[27, 91, 51, 59, 50, 72]⟩, ⟨#[27, 91, 50, 65]⟩, ⟨#[27, 91, 66]⟩, ⟨#[27, 91, 53, 67]⟩, ⟨#[27, 91, 68]⟩, ⟨#[27, 91, 50, 59, 52, 114]⟩, ⟨#[27, 91, 114]⟩, ⟨#[27, 91, 76]⟩, ⟨#[27, 91, 50, 77]⟩, ⟨#[27, 55]⟩, ⟨#[27, 56]⟩, ⟨#[27, 68]⟩, ⟨#[27, 77]⟩, ⟨#[27, 69]⟩, ⟨#[27, 99]⟩, ⟨#[27, 93, 48, 59, 116, 105, 116, 108, 101, 7]⟩, ⟨#[27, 93, 120, 27, 92]⟩, ⟨#[195, 164]⟩, ⟨#[226, 130, 172]⟩, ⟨#[240, 159, 152, 128]⟩, ⟨#[128]⟩, ⟨#[226, 40]⟩, ⟨#[27, 91, 63, 50, 53, 104]⟩, ⟨#[27, 91, 49, 59, 50, 59, 51, 59, 52, 59, 53, 59, 54, 59, 55, 59, 56, 59, 57, 109]⟩, ⟨#[27, 91, 57, 57, 57, 57, 57, 65]⟩, ⟨#[27, 91, 49, 36, 120]⟩, ⟨#[7]⟩, ⟨#[27, 91, 83]⟩, ⟨#[27, 91, 84]⟩, ⟨#[27, 91, 49, 74]⟩, ⟨#[27, 91, 49, 75]⟩, ⟨#[119, 114, 97, 112, 32, 97, 114, 111, 117, 110, 100, 32, 105, 116]⟩]
theorem textsO_sz : ∀ k (h : k < textsO.length), 1 ≤ textsO[k].size ∧ textsO[k].size ≤ 20 := sizes_of (by decide +kernel)
theorem textsO_cells (w : World) (t : TypeId) (k : Nat) (h : k < textsO.length) : (w.alloc (.cells #[.string ⟨#[116, 101, 120, 116]⟩, .string ⟨#[97]⟩, .string ⟨#[13, 10]⟩, .string ⟨#[10]⟩, .string ⟨#[8]⟩, .string ⟨#[9]⟩, .string ⟨#[27, 91, 72]⟩, .string ⟨#[27, 91, 50, 74]⟩, .string ⟨#[27, 91, 75]⟩, .string ⟨#[27, 91, 49, 59, 51, 49, 109]⟩, .string ⟨#[27, 91, 48, 109]⟩, .string ⟨#[27, 91, 51, 59, 50, 72]⟩, .string ⟨#[27, 91, 50, 65]⟩, .string ⟨#[27, 91, 66]⟩, .string ⟨#[27, 91, 53, 67]⟩, .string ⟨#[27, 91, 68]⟩, .string ⟨#[27, 91, 50, 59, 52, 114]⟩, .string ⟨#[27, 91, 114]⟩, .string ⟨#[27, 91, 76]⟩, .string ⟨#[27, 91, 50, 77]⟩, .string ⟨#[27, 55]⟩, .string ⟨#[27, 56]⟩, .string ⟨#[27, 68]⟩, .string ⟨#[27, 77]⟩, .string ⟨#[27, 69]⟩, .string ⟨#[27, 99]⟩, .string ⟨#[27, 93, 48, 59, 116, 105, 116, 108, 101, 7]⟩, .string ⟨#[27, 93, 120, 27, 92]⟩, .string ⟨#[195, 164]⟩, .string ⟨#[226, 130, 172]⟩, .string ⟨#[240, 159, 152, 128]⟩, .string ⟨#[128]⟩, .string ⟨#[226, 40]⟩, .string ⟨#[27, 91, 63, 50, 53, 104]⟩, .string ⟨#[27, 91, 49, 59, 50, 59, 51, 59, 52, 59, 53, 59, 54, 59, 55, 59, 56, 59, 57, 109]⟩, .string ⟨#[27, 91, 57, 57, 57, 57, 57, 65]⟩, .string ⟨#[27, 91, 49, 36, 120]⟩, .string ⟨#[7]⟩, .string ⟨#[27, 91, 83]⟩, .string ⟨#[27, 91, 84]⟩, .string ⟨#[27, 91, 49, 74]⟩, .string ⟨#[27, 91, 49, 75]⟩, .string ⟨#[119, 114, 97, 112, 32, 97, 114, 111, 117, 110, 100, 32, 105, 116]⟩] t)).cell? ⟨w.heap.size, k, none⟩ = some (.string textsO[k]) := cells_texts textsO w t _ rfl k h
def textsW : List ByteArray := [⟨#[109, 97, 105, 110]⟩, ⟨#[108, 111, 103, 115]⟩, ⟨#[101, 100, 105, 116]⟩]
theorem textsW_sz : ∀ k (h : k < textsW.length), 4 ≤ textsW[k].size ∧ textsW[k].size ≤ 4 := sizes_of (by decide +kernel)
theorem textsW_cells (w : World) (t : TypeId) (k : Nat) (h : k < textsW.length) : (w.alloc (.cells #[.string ⟨#[109, 97, 105, 110]⟩, .string ⟨#[108, 111, 103, 115]⟩, .string ⟨#[101, 100, 105, 116]⟩] t)).cell? ⟨w.heap.size, k, none⟩ = some (.string textsW[k]) := cells_texts textsW w t _ rfl k h
def textsR : List ByteArray := [⟨#[109, 97, 105, 110]⟩, ⟨#[111, 116, 104, 101, 114]⟩, ⟨#[108, 111, 103, 115]⟩]
theorem textsR_sz : ∀ k (h : k < textsR.length), 4 ≤ textsR[k].size ∧ textsR[k].size ≤ 5 := sizes_of (by decide +kernel)
theorem textsR_cells (w : World) (t : TypeId) (k : Nat) (h : k < textsR.length) : (w.alloc (.cells #[.string ⟨#[109, 97, 105, 110]⟩, .string ⟨#[111, 116, 104, 101, 114]⟩, .string ⟨#[108, 111, 103, 115]⟩] t)).cell? ⟨w.heap.size, k, none⟩ = some (.string textsR[k]) := cells_texts textsR w t _ rfl k h
set_option maxRecDepth 100000 in
theorem swinname (g : Nat) (a : Option Addr) (cap : Nat) (l : List UInt8) (p s : Nat) (hl : l.length ≤ 1048600) (hp : p ≤ 2000000) (hs : s < 2147483648) (w : World) (h : SrcAt w g a cap l p s) (hr : Row8 w a l) (hg : ApartOf a l g) :
    Calls Tryd.prog 27 #[.pointer (some ⟨g, 0, none⟩)] w fun e w' => ∃ x : Nat, ∃ (hx : x < textsW.length) (s' : Nat), e = .returned (.string textsW[x]) ∧ s' < 2147483648 ∧ SrcAt w' g a cap l (p + 1) s' ∧ w.grownBy w' (some g) := by
  have hgw : g < w.heap.size := ArrAt.lt h
  have hgr := grown_alloc w (.cells #[.string ⟨#[109, 97, 105, 110]⟩, .string ⟨#[108, 111, 103, 115]⟩, .string ⟨#[101, 100, 105, 116]⟩] 9) (some g)
  have HH := hide (spick g w.heap.size 3 textsW a cap l p s (by decide) (by decide) hl hp hs (w.alloc (.cells #[.string ⟨#[109, 97, 105, 110]⟩, .string ⟨#[108, 111, 103, 115]⟩, .string ⟨#[101, 100, 105, 116]⟩] 9)) (by simp) (by omega) (textsW_cells w _) (ArrAt.alloc h _) (hr.grown hgr hg) hg)
  have HG := hide hgr
  clear h hr hg hs hgr
  go_enter Tryd.func27, Tryd.ntmps27
  go_wp2_with fail
  refine (unhide HH).mono ?_
  rintro e w2 ⟨x, hx, s', rfl, hs', hA, hG⟩
  have HA := hide hA
  have HG2 := hide (World.grownBy.trans' (unhide HG) hG)
  have HS := hide hs'
  clear hA hG hs' HH
  go_wp2_with fail
  go_ret
  exact ⟨x, hx, s', rfl, unhide HS, unhide HA, unhide HG2⟩
set_option maxHeartbeats 1000000 in
set_option maxRecDepth 100000 in
theorem soutput (g : Nat) (a : Option Addr) (cap : Nat) (l : List UInt8) (p s : Nat) (hl : l.length ≤ 1048600) (hp : p ≤ 1000000) (hs : s < 2147483648) (w : World) (h : SrcAt w g a cap l p s) (hr : Row8 w a l) (hg : ApartOf a l g) :
    Calls Tryd.prog 28 #[.pointer (some ⟨g, 0, none⟩)] w fun e w' => ∃ (x : ByteArray) (p' s' : Nat), e = .returned (.string x) ∧ 1 ≤ x.size ∧ x.size ≤ 160 ∧ p' ≤ p + 9 ∧ s' < 2147483648 ∧ SrcAt w' g a cap l p' s' ∧ w.grownBy w' (some g) := by
  have HR := hide hr
  have HGN := hide hg
  have HN := hide (snext 8 g a cap l p s (by omega) (by omega) hl (by omega) hs w h hr hg)
  clear h hr hg hs
  go_enter Tryd.func28, Tryd.ntmps28
  go_wp2_with fail
  refine (unhide HN).mono ?_
  rintro e w1 ⟨x, s1, rfl, hx, hs1, hA1, hG1⟩
  have HA1 := hide hA1
  have HG1 := hide hG1
  have HS1 := hide hs1
  clear hA1 hG1 hs1 HN
  go_wp2_with fail
  go_loopw [3, 4] (fun v i wr => ∃ (k : Nat) (o : ByteArray) (p' s' : Nat), v = .string o ∧ i = .int .i64 k ∧ k ≤ 8 ∧ o.size + 20 * k ≤ 160 ∧ 1 ≤ o.size + k ∧ p' + k ≤ p + 9 ∧ Hid (s' < 2147483648) ∧ Hid (SrcAt wr g a cap l p' s') ∧ Hid (w.grownBy wr (some g))) (fun _ i _ => (intOf i).toNat)
  case atStart => exact ⟨x + 1, ⟨#[]⟩, p + 1, s1, rfl, by go_num, by omega, by show 0 + _ ≤ _; omega, by omega, by omega, HS1, HA1, HG1⟩
  case round =>
    clear HA1 HG1 HS1
    obtain ⟨k, o, p', s', rfl, rfl, hk, ho, ho1, hp', HS, HA, HG⟩ := hrel
    by_cases h0 : 0 < k
    · have h0' : 0 < (k : Int) := by omega
      have hgr := World.grownBy.trans' (unhide HG) (grown_alloc wr (.cells #[.string ⟨#[116, 101, 120, 116]⟩, .string ⟨#[97]⟩, .string ⟨#[13, 10]⟩, .string ⟨#[10]⟩, .string ⟨#[8]⟩, .string ⟨#[9]⟩, .string ⟨#[27, 91, 72]⟩, .string ⟨#[27, 91, 50, 74]⟩, .string ⟨#[27, 91, 75]⟩, .string ⟨#[27, 91, 49, 59, 51, 49, 109]⟩, .string ⟨#[27, 91, 48, 109]⟩, .string ⟨#[27, 91, 51, 59, 50, 72]⟩, .string ⟨#[27, 91, 50, 65]⟩, .string ⟨#[27, 91, 66]⟩, .string ⟨#[27, 91, 53, 67]⟩, .string ⟨#[27, 91, 68]⟩, .string ⟨#[27, 91, 50, 59, 52, 114]⟩, .string ⟨#[27, 91, 114]⟩, .string ⟨#[27, 91, 76]⟩, .string ⟨#[27, 91, 50, 77]⟩, .string ⟨#[27, 55]⟩, .string ⟨#[27, 56]⟩, .string ⟨#[27, 68]⟩, .string ⟨#[27, 77]⟩, .string ⟨#[27, 69]⟩, .string ⟨#[27, 99]⟩, .string ⟨#[27, 93, 48, 59, 116, 105, 116, 108, 101, 7]⟩, .string ⟨#[27, 93, 120, 27, 92]⟩, .string ⟨#[195, 164]⟩, .string ⟨#[226, 130, 172]⟩, .string ⟨#[240, 159, 152, 128]⟩, .string ⟨#[128]⟩, .string ⟨#[226, 40]⟩, .string ⟨#[27, 91, 63, 50, 53, 104]⟩, .string ⟨#[27, 91, 49, 59, 50, 59, 51, 59, 52, 59, 53, 59, 54, 59, 55, 59, 56, 59, 57, 109]⟩, .string ⟨#[27, 91, 57, 57, 57, 57, 57, 65]⟩, .string ⟨#[27, 91, 49, 36, 120]⟩, .string ⟨#[7]⟩, .string ⟨#[27, 91, 83]⟩, .string ⟨#[27, 91, 84]⟩, .string ⟨#[27, 91, 49, 74]⟩, .string ⟨#[27, 91, 49, 75]⟩, .string ⟨#[119, 114, 97, 112, 32, 97, 114, 111, 117, 110, 100, 32, 105, 116]⟩] 9) (some g))
      have hgw : g < wr.heap.size := ArrAt.lt (unhide HA)
      have HN := hide (spick g wr.heap.size 43 textsO a cap l p' s' (by decide) (by decide) hl (by omega) (unhide HS) (wr.alloc (.cells #[.string ⟨#[116, 101, 120, 116]⟩, .string ⟨#[97]⟩, .string ⟨#[13, 10]⟩, .string ⟨#[10]⟩, .string ⟨#[8]⟩, .string ⟨#[9]⟩, .string ⟨#[27, 91, 72]⟩, .string ⟨#[27, 91, 50, 74]⟩, .string ⟨#[27, 91, 75]⟩, .string ⟨#[27, 91, 49, 59, 51, 49, 109]⟩, .string ⟨#[27, 91, 48, 109]⟩, .string ⟨#[27, 91, 51, 59, 50, 72]⟩, .string ⟨#[27, 91, 50, 65]⟩, .string ⟨#[27, 91, 66]⟩, .string ⟨#[27, 91, 53, 67]⟩, .string ⟨#[27, 91, 68]⟩, .string ⟨#[27, 91, 50, 59, 52, 114]⟩, .string ⟨#[27, 91, 114]⟩, .string ⟨#[27, 91, 76]⟩, .string ⟨#[27, 91, 50, 77]⟩, .string ⟨#[27, 55]⟩, .string ⟨#[27, 56]⟩, .string ⟨#[27, 68]⟩, .string ⟨#[27, 77]⟩, .string ⟨#[27, 69]⟩, .string ⟨#[27, 99]⟩, .string ⟨#[27, 93, 48, 59, 116, 105, 116, 108, 101, 7]⟩, .string ⟨#[27, 93, 120, 27, 92]⟩, .string ⟨#[195, 164]⟩, .string ⟨#[226, 130, 172]⟩, .string ⟨#[240, 159, 152, 128]⟩, .string ⟨#[128]⟩, .string ⟨#[226, 40]⟩, .string ⟨#[27, 91, 63, 50, 53, 104]⟩, .string ⟨#[27, 91, 49, 59, 50, 59, 51, 59, 52, 59, 53, 59, 54, 59, 55, 59, 56, 59, 57, 109]⟩, .string ⟨#[27, 91, 57, 57, 57, 57, 57, 65]⟩, .string ⟨#[27, 91, 49, 36, 120]⟩, .string ⟨#[7]⟩, .string ⟨#[27, 91, 83]⟩, .string ⟨#[27, 91, 84]⟩, .string ⟨#[27, 91, 49, 74]⟩, .string ⟨#[27, 91, 49, 75]⟩, .string ⟨#[119, 114, 97, 112, 32, 97, 114, 111, 117, 110, 100, 32, 105, 116]⟩] 9)) (by simp) (by omega) (textsO_cells wr _) (ArrAt.alloc (unhide HA) _) ((unhide HR).grown hgr (unhide HGN)) (unhide HGN))
      have HGR := hide hgr
      clear hgr
      go_wp2_with fail
      refine (unhide HN).mono ?_
      rintro e w2 ⟨y, hy, s2, rfl, hs2, hA2, hG2⟩
      obtain ⟨c, hc⟩ : ∃ c : ByteArray, c = textsO[y] := ⟨_, rfl⟩
      have hc4 := textsO_sz y hy
      rw [← hc] at hc4 ⊢
      have HG2 := hide (World.grownBy.trans' (unhide HGR) hG2)
      have HA2 := hide hA2
      have HS2 := hide hs2
      clear hG2 hA2 hs2 HG HA HS HN hc HGR hy
      have hmx : ¬ o.size + c.size > maxLen := by unfold maxLen; omega
      go_wp2_with fail
      go_roundw
      case rel => exact ⟨k - 1, o ++ c, p' + 1, s2, rfl, by go_num, by omega, by rw [ByteArray.size_append]; omega, by rw [ByteArray.size_append]; omega, by omega, HS2, HA2, HG2⟩
      case measure => simp [intOf]; omega
    · have h0' : ¬ 0 < (k : Int) := by omega
      go_wp2_with fail
      go_ret
      exact ⟨o, rfl, by omega, by omega, p', by omega, s', unhide HS, unhide HA, unhide HG⟩
end Go.Proofs.YtoplijjddhecgaaDoor

/- Texts that are not empty, in their order: what both sides answer. -/
import Derived.Test.YtindlkieobbgmaaStrS
import Derived.Lib.SmallJoins
namespace Go.Proofs.Ytindlkieobbgmaa
open Go.ChangeShapes Go.WideShapes Go.ChangeAt Go.RowKit
set_option linter.unusedVariables false
def neB (d : ByteArray) : Bool := !d.toList.isEmpty
def filS (l : List ByteArray) : List ByteArray := l.filter neB
theorem filS_nil : filS [] = [] := rfl
theorem filS_snoc (l : List ByteArray) (k : Nat) (h : k < l.length) : filS (l.take (k + 1)) = filS (l.take k) ++ (if neB l[k] then [l[k]] else []) := by
  rw [List.take_add_one, List.getElem?_eq_getElem h]
  simp only [filS, Option.toList, List.filter_append]
  cases h : neB l[k] <;> simp [List.filter, h]
theorem filS_yes (l : List ByteArray) (k : Nat) (h : k < l.length) (hn : neB l[k] = true) : filS (l.take (k + 1)) = filS (l.take k) ++ [l[k]] := by rw [filS_snoc l k h, hn]; rfl
theorem filS_no (l : List ByteArray) (k : Nat) (h : k < l.length) (hn : neB l[k] = false) : filS (l.take (k + 1)) = filS (l.take k) := by rw [filS_snoc l k h, hn]; simp
theorem filS_le (l : List ByteArray) : (filS l).length ≤ l.length := List.length_filter_le _ _
def acN (l : List ByteArray) : Int := if 60 < l.length then 0 else ((filS l).length : Int)
def acC (l : List ByteArray) : Int := if 4096 < l.length then 2 else if 60 < l.length then 6 else 0
set_option maxHeartbeats 4000000 in
set_option maxRecDepth 100000 in
theorem sdatas (a : Option Addr) (cap n : Nat) (l : List ByteArray) (HN : Hid (l.length = n)) (hn : n ≤ 1048576) (w : World) (hr : RowV w a (cS l)) :
    Calls Try.prog 10 #[.slice a n cap] w fun e w' => ∃ v, e = .returned v ∧ w'.ownsRow w.heap.size 9 1 v (filS l).length (cS (filS l)) ∧ Below w.heap.size w w' := by
  have HR := hide hr
  clear hr
  have B0 := hide (Go.Joins.below_alloc1 w (.cells #[] 9))
  go_enter Try.func10, Try.ntmps10
  go_wp2_with fail
  obtain ⟨i0, hi, hz0, hz1, hz2⟩ := info_parts Try.infL9
  go_loopw [3, 4] (fun l0 i wr => ∃ (k m : Nat) (v : Value), k ≤ n ∧ m ≤ k ∧ Hid (m = (filS (l.take k)).length) ∧ i = .int .i64 k ∧ l0 = v ∧ Hid (wr.ownsRow w.heap.size 9 1 v m (cS (filS (l.take k)))) ∧ Hid (Below w.heap.size w wr)) (fun _ i _ => n - (intOf i).toNat)
  case atStart => exact ⟨0, 0, _, by omega, by omega, rfl, rfl, rfl, (by have h := World.ownsRow_lit (e := 9) (base := w.heap.size) (size := 1) w #[] 0 (by simp) (by unfold maxLen; omega) rfl; exact h), B0⟩
  case round =>
    obtain ⟨k, m, v, hk, hm, HM, rfl, rfl, HO, B1⟩ := hrel
    by_cases hlt : k < n
    · have hlk : k < l.length := by rw [unhide HN]; omega
      obtain ⟨b, off, rfl, hblt, hc⟩ := (unhide HR).at (by rw [cS_len]; omega)
      obtain ⟨d, ed⟩ : ∃ d, d = l[k] := ⟨_, rfl⟩
      have x1 := hc k _ (cS_at l k hlk)
      rw [← ed] at x1
      have hx1 : wr.cell? ⟨b, off + k, none⟩ = some (.string d) := ((unhide B1).cell (p := ⟨b, off + k, none⟩) hblt).trans x1
      have hlt' : (k : Int) < (n : Int) := by omega
      have hlt0 : (0 : Int) ≤ (k : Int) := by omega
      have hk6 : k ≤ 1048576 := by omega
      by_cases hd : neB d = true
      · have HS : Hid (cS (filS (l.take (k + 1))) = cS (filS (l.take k)) ++ [.string d]) := by show _ = _; rw [filS_yes l k hlk (by rw [← ed]; exact hd), cS_app, ed]; rfl
        have HM2 : Hid (m + 1 = (filS (l.take (k + 1))).length) := by show _ = _; rw [filS_yes l k hlk (by rw [← ed]; exact hd), List.length_append, ← unhide HM]; rfl
        have hd1 : d.toList.isEmpty = false := by simpa [neB] using hd
        have hown := unhide HO
        have HB2 := hide (unhide B1)
        have hbs := (unhide B1).size
        clear hc x1 ed hlk hd
        go_wp2_with (at_builtin; refine wpList_append_lies _ rfl (.tmp 17) (.tmp 22) 22 rfl w.heap.size 9 i0 (.string ⟨#[]⟩) 1 16 Try.underlying22 hi hz0 hz1 hz2 rfl (by decide) _ _ _ rfl (hown.alloc (.cells #[.string d] 9)) ⟨wr.heap.size, 0, none⟩ 1 1 [.string d] rfl rfl (by have := news_new wr [.string d] 9; exact this) (by intro u hu; simp at hu; subst hu; rfl) (by decide) (by unfold maxLen; omega) (by omega) (by simp; omega) _ rfl ?_; intro g7 c7 w7 hown7 hgrow7 hat7 hlt7; have HO7 := hide hown7; have HB7 := hide (((unhide HB2).alloc (unhide HB2).size (.cells #[.string d] 9)).grown hgrow7 (by simp; omega) (fun j hj => by have := (hown.lt j hj).1; omega)); clear hown7 hgrow7 hat7 hlt7)
        go_roundw
        case rel => exact ⟨k + 1, m + 1, _, by omega, by omega, HM2, by go_num, rfl, by show World.ownsRow _ _ _ _ _ _ _; rw [unhide HS]; exact unhide HO7, HB7⟩
        case measure => simp [intOf]; omega
      · have hd0 : neB d = false := by simpa using hd
        have HS : Hid (filS (l.take (k + 1)) = filS (l.take k)) := by show _ = _; rw [filS_no l k hlk (by rw [← ed]; exact hd0)]
        have hd1 : d.toList.isEmpty = true := by simpa [neB] using hd0
        clear hc x1 ed hlk hd hd0
        go_wp2_with fail
        go_roundw
        case rel => exact ⟨k + 1, m, _, by omega, by omega, by show _ = _; rw [unhide HS]; exact unhide HM, by go_num, rfl, by show World.ownsRow _ _ _ _ _ _ _; rw [unhide HS]; exact unhide HO, B1⟩
        case measure => simp [intOf]; omega
    · obtain rfl : k = n := by omega
      have e0 : l.take k = l := List.take_of_length_le (by rw [unhide HN]; exact Nat.le_refl _)
      rw [e0] at HO HM
      obtain ⟨aF, cF, rfl, -⟩ := own_rowV (unhide HO)
      go_wp2_with fail
      go_ret
      refine ⟨_, rfl, ?_, unhide B1⟩
      rw [← unhide HM]
      exact unhide HO
end Go.Proofs.Ytindlkieobbgmaa

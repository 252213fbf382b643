/- RowCells: what the program answers. -/
import Derived.Test.YtjdkafcplnghlaaRowP
import Derived.Test.YtjdkafcplnghlaaAppG
namespace Go.Proofs.Ytjdkafcplnghlaa
open Go.ChangeShapes Go.WideShapes Go.ChangeAt Go.RowKit
set_option linter.unusedVariables false
/-- The bytes of cells: rune (three), look (one). -/
def rowB (l : List (Int × Int)) : List UInt8 := l.flatMap fun c => be c.1.toNat 3 ++ be c.2.toNat 1
theorem rowB_snoc (l : List (Int × Int)) (c : Int × Int) : rowB (l ++ [c]) = (rowB l ++ be c.1.toNat 3) ++ be c.2.toNat 1 := by simp [rowB]
theorem rowB_len (l : List (Int × Int)) : (rowB l).length = l.length * 4 := by
  induction l with
  | nil => rfl
  | cons c l ih => simp only [rowB, List.flatMap_cons, List.length_append, be_len] at ih ⊢; rw [ih, List.length_cons]; omega
/-- What RowCells answers. -/
def rcV (ok : Bool) (W H : Int) (l : List (Int × Int)) (y : Int) : ByteArray := if ok then (if inB y 0 (H - 1) then ⟨(rowB ((l.drop (y.toNat * W.toNat)).take W.toNat)).toArray⟩ else ⟨#[]⟩) else ⟨#[]⟩
def rcC (ok : Bool) (H y : Int) : Int := if ok then (if inB y 0 (H - 1) then 0 else 4) else 1
set_option maxHeartbeats 2000000 in
set_option maxRecDepth 100000 in
theorem irowfault (B : Nat) (i0 i1 i2 i3 i4 i5 i6 i7 i8 y : Int) (t : ByteArray) (a : Option Addr) (cap : Nat) (l : List (Int × Int)) (b : Option Addr) (capb : Nat) (m : List ByteArray) (ht : t.size ≤ 1048576) (hl : l.length ≤ 1048576) (hm : m.length ≤ 1048576) (hz : ∀ k (h : k < m.length), m[k].size ≤ 1048576) (w : World) (hB : B < w.heap.size) (K : ∀ o, w.cell? ⟨B, o, none⟩ = (#[.int .i64 i0, .int .i64 i1, .int .i64 i2, .int .i64 i3, .int .i64 i4, .int .i64 i5, .int .i64 i6, .int .i64 i7, .int .i64 i8, .string t, .slice a l.length cap, .slice b m.length capb] : Array Value)[o]?) (hr : RowV w a (cP l)) (hs : RowV w b (cS m)) :
    Calls Try.prog 16 #[.pointer (some ⟨B, 0, none⟩), .int .i64 y] w fun e w' => e = .returned (.int .i64 (rcC (okB i0 i1 i2 i3 i4 i5 i6 i7 i8 t.data.toList l m) i1 y)) ∧ Below w.heap.size w w' := by
  have T := hide (iok i0 i1 i2 i3 i4 i5 i6 i7 i8 t a cap l b capb m ht hl hm hz w hr hs)
  clear ht hl hm hz hr hs
  cases h : okB i0 i1 i2 i3 i4 i5 i6 i7 i8 t.data.toList l m
  · rw [h] at T
    have HV : Hid (rcC false i1 y = 1) := rfl
    clear h
    go_enter Try.func16, Try.ntmps16
    go_wp2_with (go_at_call 24; refine (unhide T).mono ?_; rintro e w2 ⟨rfl, hb⟩; have HB := hide hb; clear hb)
    go_ret
    exact ⟨ret_int (unhide HV).symm, unhide HB⟩
  · rw [h] at T
    have hb1 : 2 ≤ i1 ∧ i1 ≤ 10 := by obtain ⟨W, H, _, e1, _, _, h3, h4, _⟩ := ok_parts h; omega
    clear h
    by_cases h0 : 0 ≤ y
    · by_cases h1 : y < i1
      · have HV : Hid (rcC true i1 y = 0) := by show _ = _; unfold rcC; rw [in_yes (by omega)]; rfl
        go_enter Try.func16, Try.ntmps16
        go_wp2_with (go_at_call 24; refine (unhide T).mono ?_; rintro e w2 ⟨rfl, hb⟩; have K2 : ∀ o, w2.cell? ⟨B, o, none⟩ = (#[.int .i64 i0, .int .i64 i1, .int .i64 i2, .int .i64 i3, .int .i64 i4, .int .i64 i5, .int .i64 i6, .int .i64 i7, .int .i64 i8, .string t, .slice a l.length cap, .slice b m.length capb] : Array Value)[o]? := (fun o => (hb.cell (p := ⟨B, o, none⟩) hB).trans (K o)); have HB := hide hb; clear hb)
        go_ret
        exact ⟨ret_int (unhide HV).symm, unhide HB⟩
      · have HV : Hid (rcC true i1 y = 4) := by show _ = _; unfold rcC; rw [in_no (by omega)]; rfl
        go_enter Try.func16, Try.ntmps16
        go_wp2_with (go_at_call 24; refine (unhide T).mono ?_; rintro e w2 ⟨rfl, hb⟩; have K2 : ∀ o, w2.cell? ⟨B, o, none⟩ = (#[.int .i64 i0, .int .i64 i1, .int .i64 i2, .int .i64 i3, .int .i64 i4, .int .i64 i5, .int .i64 i6, .int .i64 i7, .int .i64 i8, .string t, .slice a l.length cap, .slice b m.length capb] : Array Value)[o]? := (fun o => (hb.cell (p := ⟨B, o, none⟩) hB).trans (K o)); have HB := hide hb; clear hb)
        go_ret
        exact ⟨ret_int (unhide HV).symm, unhide HB⟩
    · have HV : Hid (rcC true i1 y = 4) := by show _ = _; unfold rcC; rw [in_no (by omega)]; rfl
      go_enter Try.func16, Try.ntmps16
      go_wp2_with (go_at_call 24; refine (unhide T).mono ?_; rintro e w2 ⟨rfl, hb⟩; have HB := hide hb; clear hb)
      go_ret
      exact ⟨ret_int (unhide HV).symm, unhide HB⟩
end Go.Proofs.Ytjdkafcplnghlaa

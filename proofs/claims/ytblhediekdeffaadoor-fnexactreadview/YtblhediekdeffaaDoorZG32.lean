/- Texts put together: ByteV NofI FvM. -/
import Derived.Test.YtblhediekdeffaaDoorZG31
import Derived.Test.YtblhediekdeffaaDoorZRowV
import Derived.Test.YtblhediekdeffaaDoorZG29
import Derived.Test.YtblhediekdeffaaDoorZReadNumI
import Derived.Test.YtblhediekdeffaaDoorZG17
import Derived.Test.YtblhediekdeffaaDoorZG5
import Derived.Lib.SmallJoins
import Derived.Laws.OwnMore
import Derived.Test.YtblhediekdeffaaDoorZVoM
import Derived.Test.YtblhediekdeffaaDoorZG13
/- Rows of bytes: copies and likeness, in the words of rows of values. -/
namespace Go.Proofs.YtblhediekdeffaaDoor
open Go.ChangeShapes Go.WideShapes Go.ChangeAt Go.RowKit
theorem copyByte (a : Option Addr) (cap : Nat) (l : List UInt8) (hl : l.length ≤ 1048576) (w : World) (hr : RowV w a (B8 l)) :
    Calls Tryd.prog 5 #[.slice a l.length cap] w fun e w' => e = .returned (.slice (some ⟨w.heap.size, 0, none⟩) l.length l.length) ∧
      w'.ownsRow w.heap.size 5 1 (.slice (some ⟨w.heap.size, 0, none⟩) l.length l.length) l.length (B8 l) ∧ Below w.heap.size w w' := copy8 a cap l hl w (rowV_8 hr)
theorem sameByte (a c : Option Addr) (cap cap2 : Nat) (l : List UInt8) (hl : l.length ≤ 1048576) (w : World) (hr : RowV w a (B8 l)) (hr2 : RowV w c (B8 l)) :
    Calls Tryd.prog 8 #[.slice a l.length cap, .slice c l.length cap2] w fun e w' => e = .returned (.bool true) ∧ Below w.heap.size w w' := same8 a c cap cap2 l hl w (rowV_8 hr) (rowV_8 hr2)
end Go.Proofs.YtblhediekdeffaaDoor

/- numbersOf: so many numbers of a text, as the program reads them. -/
namespace Go.Proofs.YtblhediekdeffaaDoor
open Go.ChangeShapes Go.WideShapes Go.ChangeAt Go.RowKit
set_option linter.unusedVariables false
theorem to_inC (w : World) (L : List UInt8) : ∃ w' cap, (convert 9 22 (.string ⟨L.toArray⟩)).run Tryd.prog w = .ok (.slice (some ⟨w.heap.size, 0, none⟩) L.length cap) w' ∧ RowV w' (some ⟨w.heap.size, 0, none⟩) (B8 L) ∧ L.length ≤ cap ∧ Below w.heap.size w w' := by
  obtain ⟨w', cap, h1, h2, h3⟩ := to_in w L
  refine ⟨w', cap, h1, h2.row, ?_, h3⟩
  have e : (⟨L.toArray⟩ : ByteArray).size = L.length := mk_size L
  have h4 := Go.Lib.run_convert_string_bytes (P := Tryd.prog) w _ _ 5 (⟨L.toArray⟩ : ByteArray) Tryd.underlying9 Tryd.underlying22 Tryd.underlying5
  rw [h1, e] at h4
  injection h4 with h4 _
  injection h4 with _ _ h4
  rw [h4]
  exact grownCap_ge _ _ _ _
set_option maxHeartbeats 400000 in
set_option maxRecDepth 100000 in
theorem inumofN (K K3 : Nat) (hK3 : K3 = 3 * K) (hK : K ≤ 4096) (hK1 : 1 ≤ K) (s : ByteArray) (hs : s.size ≤ 20000) (R : Bool) (HR : Hid (R = decide (s.size = K3))) (L : List Int) (HL : Hid (L = rnL s.data.toList)) (w : World) : Calls Tryd.prog 26 #[.string s, .int .i64 (K : Int)] w fun e w' => ∃ v, e = .returned (.tuple #[v, .bool R]) ∧ w'.ownsRow w.heap.size 3 1 v L.length (cI L) ∧ Below w.heap.size w w' := by
  have hlen := text_len s
  obtain ⟨c, hc⟩ : ∃ c, c = rnC s.data.toList := ⟨_, rfl⟩
  obtain ⟨w1, cap, h1, h2, h3, h4⟩ := to_inC w s.data.toList
  have T := hide (ireadnumsH (some ⟨w.heap.size, 0, none⟩) cap s.data.toList L c (unhide HL) hc (by omega) h3 w1 h2)
  have hRR : R = (decide (c = 0) && decide (L.length = K)) := by
    rw [unhide HR, hc, unhide HL]
    by_cases e : s.size = K3
    · have h5 := rn_ok (l := s.data.toList) (by omega) (by omega) (by omega)
      rw [h5.1, h5.2, numsR_len, hlen, e, hK3, Nat.mul_div_cancel_left _ (by decide)]; simp
    · rw [decide_eq_false e]
      by_cases e3 : s.data.toList.length % 3 = 0
      · by_cases e4 : 4096 < s.data.toList.length / 3
        · have h5 := rn_many (l := s.data.toList) (by omega) e3 e4
          rw [h5.1, h5.2]; rfl
        · have h5 := rn_ok (l := s.data.toList) (by omega) e3 e4
          rw [h5.1, h5.2, numsR_len, decide_eq_false (show ¬ s.data.toList.length / 3 = K by omega)]; rfl
      · have h5 := rn_form (l := s.data.toList) (by omega) e3
        rw [h5.1, h5.2]; rfl
  have HB1 := hide h4
  have es : (⟨s.data.toList.toArray⟩ : ByteArray) = s := rfl
  rw [es] at h1
  obtain ⟨n7, hn7⟩ : ∃ n7 : Nat, L.length = n7 := ⟨_, rfl⟩
  have HN7 := hide hn7
  rw [hn7] at hRR T
  have HRR := hide hRR
  clear h2 h3 h4 hRR hc hn7 es hlen HR HL hs
  by_cases e0 : c = 0
  · by_cases e7 : n7 = K
    · have hR := unhide HRR
      rw [decide_eq_true e0, decide_eq_true e7] at hR
      have hR2 : R = true := hR
      clear hR HRR
      subst e0 hR2
      have e7' : ((n7 : Int) == (K : Int)) = true := by rw [beq_iff_eq]; omega
      have HE7 := hide e7
      clear e7
      go_enter Tryd.func26, Tryd.ntmps26
      go_wp2_with fail
      refine (unhide T).mono ?_
      rintro e w2 ⟨v2, rfl, ho2, hb2⟩
      obtain ⟨a2, c2, rfl, -⟩ := own_rowV ho2
      have HO2 := hide (Go.Joins.ownsRow_le ho2 (unhide HB1).size)
      have HB2 := hide ((unhide HB1).trans (hb2.mono (unhide HB1).size))
      clear ho2 hb2 T h1
      go_wp2_with fail
      go_ret2
      exact ⟨_, rfl, by rw [unhide HN7]; exact unhide HO2, unhide HB2⟩
    · have hR := unhide HRR
      rw [decide_eq_true e0, decide_eq_false e7] at hR
      have hR2 : R = false := hR
      have e7' : ((n7 : Int) == (K : Int)) = false := by rw [beq_eq_false_iff_ne]; omega
      clear hR HRR
      subst e0 hR2
      go_enter Tryd.func26, Tryd.ntmps26
      go_wp2_with fail
      refine (unhide T).mono ?_
      rintro e w2 ⟨v2, rfl, ho2, hb2⟩
      obtain ⟨a2, c2, rfl, -⟩ := own_rowV ho2
      have HO2 := hide (Go.Joins.ownsRow_le ho2 (unhide HB1).size)
      have HB2 := hide ((unhide HB1).trans (hb2.mono (unhide HB1).size))
      clear ho2 hb2 T h1
      go_wp2_with fail
      go_ret2
      exact ⟨_, rfl, by rw [unhide HN7]; exact unhide HO2, unhide HB2⟩
  · have hR := unhide HRR
    rw [decide_eq_false e0] at hR
    simp only [Bool.false_and] at hR
    have e0' : (c == 0) = false := beq_eq_false_iff_ne.2 e0
    clear HRR
    subst hR
    go_enter Tryd.func26, Tryd.ntmps26
    go_wp2_with fail
    refine (unhide T).mono ?_
    rintro e w2 ⟨v2, rfl, ho2, hb2⟩
    obtain ⟨a2, c2, rfl, -⟩ := own_rowV ho2
    have HO2 := hide (Go.Joins.ownsRow_le ho2 (unhide HB1).size)
    have HB2 := hide ((unhide HB1).trans (hb2.mono (unhide HB1).size))
    clear ho2 hb2 T
    go_wp2_with fail
    go_ret2
    exact ⟨_, rfl, by rw [unhide HN7]; exact unhide HO2, unhide HB2⟩
end Go.Proofs.YtblhediekdeffaaDoor

/- What FullView and DiffView answer. Plain mathematics. -/
namespace Go.Proofs.YtblhediekdeffaaDoor
open Go.ChangeShapes Go.WideShapes Go.ChangeAt Go.RowKit
set_option linter.unusedVariables false
theorem own_keepBR {w w' : World} {base : Nat} {e : TypeId} {z g n cap : Nat} {xs : List Value} (h : w.ownsRow base e z (.slice (some ⟨g, 0, none⟩) n cap) n xs) (hb : w'.heap[g]? = w.heap[g]?) : w'.ownsRow base e z (.slice (some ⟨g, 0, none⟩) n cap) n xs := by
  obtain ⟨h1, h2⟩ := h
  refine ⟨h1, ?_⟩
  rcases h2 with ⟨h2, _⟩ | ⟨g', cap', cur, hv, hbg, hgc, hrest⟩
  · cases h2
  · have e1 : g = g' := by injection hv with e1 _ _; injection e1 with e1; injection e1
    subst e1
    exact .inr ⟨g, cap', cur, hv, hbg, by rw [hb]; exact hgc, hrest⟩
def pkL (R : List ByteArray) (ys : List Nat) : List Rw := ys.map fun (y : Nat) => ((y : Int), R.getD y ⟨#[]⟩)
def fvC (nb vw vh : Int) (R : List ByteArray) : Int := if 4096 < R.length then 2 else if inB nb 0 60 && sizeB vw vh then (if rowsB vw.toNat vh.toNat R then 0 else 1) else 4
/-- What FullView answers: Number, Full, W, H, the rows, the code. -/
def FvIs (nb vw vh : Int) (R : List ByteArray) (nb2 : Int) (fu2 : Bool) (w2 h2 : Int) (L : List Rw) (c : Int) : Prop :=
  c = fvC nb vw vh R ∧ (c = 0 → nb2 = nb ∧ fu2 = true ∧ w2 = vw ∧ h2 = vh ∧ L = pkL R (List.range vh.toNat)) ∧ (c ≠ 0 → nb2 = 0 ∧ fu2 = false ∧ w2 = 0 ∧ h2 = 0 ∧ L = [])
/-- The rows that differ. -/
def chB (O R : List ByteArray) (y : Nat) : Bool := decide (O.getD y ⟨#[]⟩ ≠ R.getD y ⟨#[]⟩)
def dvC (fr nb vw vh : Int) (O R : List ByteArray) : Int := if 4096 < O.length ∨ 4096 < R.length then 2 else if inB nb 0 60 && (inB fr 0 (nb - 1) && sizeB vw vh) then (if rowsB vw.toNat vh.toNat O && rowsB vw.toNat vh.toNat R then 0 else 1) else 4
/-- What DiffView answers: Number, From, W, H, the rows, the code. -/
def DvIs (fr nb vw vh : Int) (O R : List ByteArray) (nb2 fr2 w2 h2 : Int) (L : List Rw) (c : Int) : Prop :=
  c = dvC fr nb vw vh O R ∧ (c = 0 → nb2 = nb ∧ fr2 = fr ∧ w2 = vw ∧ h2 = vh ∧ L = pkL R ((List.range vh.toNat).filter (chB O R))) ∧ (c ≠ 0 → nb2 = 0 ∧ fr2 = 0 ∧ w2 = 0 ∧ h2 = 0 ∧ L = [])
end Go.Proofs.YtblhediekdeffaaDoor

/- Texts put together: NbM RvwM. -/
import Derived.Test.YtblhediekdeffaaDoorZFldRT
import Derived.Test.YtblhediekdeffaaDoorZVbJ
import Derived.Test.YtblhediekdeffaaDoorZG5
/- Numbers of a text read back; cells of an owned row. Plain mathematics. -/
namespace Go.Proofs.YtblhediekdeffaaDoor
open Go.ChangeShapes Go.WideShapes Go.ChangeAt Go.RowKit
set_option linter.unusedVariables false
theorem own_at1 {w : World} {base : Nat} {e : TypeId} {z : Nat} {a : Option Addr} {n cap : Nat} {xs : List Value} (h : w.ownsRow base e z (.slice a n cap) n xs) (hn : 0 < n) : ∃ g, a = some ⟨g, 0, none⟩ := by
  rcases h.2 with ⟨e, e2⟩ | ⟨g, cap, cur, e, _⟩
  · omega
  · cases e; exact ⟨_, rfl⟩
theorem own_cell {w : World} {base g : Nat} {e : TypeId} {z n cap : Nat} {xs : List Value} (h : w.ownsRow base e z (.slice (some ⟨g, 0, none⟩) n cap) n xs) (i : Nat) (u : Value) (hu : xs[i]? = some u) : w.cell? ⟨g, i, none⟩ = some u := by
  have h2 := World.ownsRow.cells h rfl i u hu
  cases i with
  | zero => exact h2
  | succ j => simpa [Addr.add] using h2
theorem nums_back (f : List UInt8) : ∀ k, 3 * k ≤ f.length → numsL (numsR f k) = f.take (3 * k) := by
  intro k
  induction k with
  | zero => intro _; simp [numsR, numsL]
  | succ k ih =>
    intro h
    rw [numsR_snoc]
    have e : numsL (numsR f k ++ [((ofBE (chunk f k) : Nat) : Int) - 1]) = numsL (numsR f k) ++ be (ofBE (chunk f k)) 3 := by
      unfold numsL
      rw [List.flatMap_append]
      simp
    have hl : (chunk f k).length = 3 := by unfold chunk; rw [List.length_take, List.length_drop]; omega
    have hb := be_ofBE (chunk f k)
    rw [hl] at hb
    rw [e, ih (by omega), hb]
    unfold chunk
    rw [show 3 * (k + 1) = 3 * k + 3 from by omega, List.take_add]
end Go.Proofs.YtblhediekdeffaaDoor

/- Bytes that hold a view. Plain mathematics. -/
namespace Go.Proofs.YtblhediekdeffaaDoor
open Go.ChangeShapes Go.WideShapes Go.ChangeAt Go.RowKit
set_option linter.unusedVariables false
/-- A row that a field holds: its first byte, and the others. -/
def rowOf (s : ByteArray) : Rw := (((s.data.toList.headD 0).toNat : Int), s.extract 1 s.size)
theorem be1 (n : Nat) (h : n < 256) : be n 1 = [UInt8.ofNat n] := by
  have h2 := ofBE_be n 1
  have h3 := be_len n 1
  match hb : be n 1, h3 with
  | [x], _ =>
    rw [hb] at h2
    have e : x.toNat = n := by
      have h4 : ofBE [x] = x.toNat := by simp [ofBE]
      rw [h4] at h2
      rw [h2]; exact Nat.mod_eq_of_lt (by omega)
    congr 1
    apply UInt8.toNat_inj.1
    rw [e, UInt8.toNat_ofNat']; omega
theorem rowX_of {s : ByteArray} (h : 0 < s.size) : rowX (rowOf s) = s := by
  have hl : s.data.toList.length = s.size := text_len s
  unfold rowX rowOf
  apply ByteArray.ext
  apply Array.toList_inj.1
  cases hs : s.data.toList with
  | nil => rw [hs] at hl; simp at hl; omega
  | cons x r =>
    simp only [List.headD_cons, Int.toNat_natCast]
    rw [be1 _ x.toNat_lt]
    rw [hs] at hl
    simp only [List.length_cons] at hl
    simp only [ByteArray.data_append, Array.toList_append, ByteArray.data_extract, Array.toList_extract, List.extract_eq_take_drop]
    rw [hs, List.drop_one, List.tail_cons, List.take_of_length_le (by omega)]
    simp
theorem five {l : List Int} (h : l.length = 5) : ∃ x0 x1 x2 x3 x4, l = [x0, x1, x2, x3, x4] := by
  match l, h with
  | [x0, x1, x2, x3, x4], _ => exact ⟨x0, x1, x2, x3, x4, rfl⟩
theorem map_rowX {rs : List ByteArray} (h : ∀ s ∈ rs, 0 < s.size) : (rs.map rowOf).map rowX = rs := by
  rw [List.map_map]
  conv => rhs; rw [← List.map_id rs]
  apply List.map_congr_left
  intro s hs
  exact rowX_of (h s hs)
/-- A right view's bytes are those that it was read from just if the third number is a bit. -/
theorem rv_bytes {l : List UInt8} {f0 : ByteArray} {rs : List ByteArray} {x0 x1 x2 x3 x4 : Int} (hl : ¬ 65536 < l.length) (h : rfOf l = some (f0 :: rs)) (h15 : f0.size = 15) (hx : numsR f0.data.toList 5 = [x0, x1, x2, x3, x4]) (hrs : ∀ s ∈ rs, 0 < s.size) (hok : vwB x0 x1 (x2 == 1) x3 x4 (rs.map rowOf) = true) :
    fbL (vbF x0 x1 (x2 == 1) x3 x4 (rs.map rowOf)) = l ↔ inB x2 0 1 = true := by
  have hlen : f0.data.toList.length = 15 := by rw [text_len]; exact h15
  have hnb := nums_back f0.data.toList 5 (by omega)
  rw [hx, show 3 * 5 = 15 from rfl, List.take_of_length_le (by omega)] at hnb
  have hrc : rfC l = 0 := by unfold rfC; rw [if_neg hl, h]; rfl
  have hrl : rfL l = f0 :: rs := by unfold rfL; rw [if_neg hl, h]; rfl
  have hfb := (fb_rf l hrc).1
  rw [hrl] at hfb
  obtain ⟨hs1, hs2, hs3⟩ := vb_short hok
  have hback := rf_fb (vbF x0 x1 (x2 == 1) x3 x4 (rs.map rowOf)) (by omega) hs2 hs3
  have hfit := (vb_parts hok).2.1
  have hbl := (fb_ok (l := vbF x0 x1 (x2 == 1) x3 x4 (rs.map rowOf)) (by omega) hs2 hs3).1
  have hN5 : [x0, x1, bitI (x2 == 1), x3, x4].length = 5 := rfl
  constructor
  · intro hb
    rw [← hbl, hb, hrl] at hback
    have h1 := hback.1
    unfold vbF at h1
    injection h1 with h1 _
    have h2 : numsL [x0, x1, bitI (x2 == 1), x3, x4] = f0.data.toList := by rw [h1]
    have h3 := rn_nb [x0, x1, bitI (x2 == 1), x3, x4] (by simp) hfit
    rw [(nb_ok (l := [x0, x1, bitI (x2 == 1), x3, x4]) (by simp) hfit).1, h2] at h3
    have h4 := rn_ok (l := f0.data.toList) (by omega) (by omega) (by omega)
    rw [h4.1, hlen] at h3
    have h5 : numsR f0.data.toList 5 = [x0, x1, bitI (x2 == 1), x3, x4] := h3.1
    rw [hx] at h5
    injection h5 with _ h5
    injection h5 with _ h5
    injection h5 with h6 _
    unfold bitI at h6
    unfold inB
    by_cases e : x2 = 1
    · exact decide_eq_true (by omega)
    · rw [if_neg (by simpa using e)] at h6; exact decide_eq_true (by omega)
  · intro hb
    have hbit : bitI (x2 == 1) = x2 := by
      have h9 : 0 ≤ x2 ∧ x2 ≤ 1 := of_decide_eq_true hb
      unfold bitI
      by_cases e : x2 = 1
      · rw [e]; rfl
      · rw [if_neg (by simpa using e)]; omega
    have hF : vbF x0 x1 (x2 == 1) x3 x4 (rs.map rowOf) = f0 :: rs := by
      unfold vbF
      rw [hbit, hnb, map_rowX hrs]
    rw [hF]; exact hfb
/-- A view as one value. -/
structure Vv where
  nb : Int
  fr : Int
  fu : Bool
  vw : Int
  vh : Int
  l : List Rw
def Vv.zero : Vv := ⟨0, 0, false, 0, 0, []⟩
/-- What bytes hold: right just if they are a right view's. -/
def RvOk (l : List UInt8) (v : Vv) : Prop := ∃ (f0 : ByteArray) (rs : List ByteArray) (x2 : Int), rfOf l = some (f0 :: rs) ∧ f0.size = 15 ∧ numsR f0.data.toList 5 = [v.nb, v.fr, x2, v.vw, v.vh] ∧ (∀ s ∈ rs, 0 < s.size) ∧ inB x2 0 1 = true ∧ v.fu = (x2 == 1) ∧ v.l = rs.map rowOf ∧ vwB v.nb v.fr v.fu v.vw v.vh v.l = true
end Go.Proofs.YtblhediekdeffaaDoor

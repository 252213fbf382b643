/- Bytes that hold a command. Plain mathematics. -/
import Derived.Test.YtoplijjddhecgaaDoorZCbM
import Derived.Test.YtoplijjddhecgaaDoorZFldRT
namespace Go.Proofs.YtoplijjddhecgaaDoor
open Go.ChangeShapes Go.WideShapes Go.ChangeAt Go.RowKit
set_option linter.unusedVariables false
theorem own_at1 {w : World} {base : Nat} {e : TypeId} {z : Nat} {a : Option Addr} {n cap : Nat} {xs : List Value} (h : w.ownsRow base e z (.slice a n cap) n xs) (hn : 0 < n) : ∃ g, a = some ⟨g, 0, none⟩ := by
  rcases h.2 with ⟨e, e2⟩ | ⟨g, cap, cur, e, _⟩
  · omega
  · cases e; exact ⟨_, rfl⟩
theorem own_cell {w : World} {base g : Nat} {e : TypeId} {z n cap : Nat} {xs : List Value} (h : w.ownsRow base e z (.slice (some ⟨g, 0, none⟩) n cap) n xs) (i : Nat) (u : Value) (hu : xs[i]? = some u) : w.cell? ⟨g, i, none⟩ = some u := by
  have h2 := World.ownsRow.cells h rfl i u hu
  cases i with
  | zero => exact h2
  | succ j => simpa [Addr.add] using h2
structure Cm where
  k : Int
  cl : Int
  sq : Int
  p : Int
  n : Int
  ep : Int
  r : Bool
  nm : ByteArray
  dt : ByteArray
def Cm.ok (c : Cm) : Bool := cmdB c.k c.cl c.sq c.p c.n c.ep c.r c.nm c.dt
def Cm.bytes (c : Cm) : List UInt8 := cbL c.k c.cl c.sq c.p c.n c.ep c.r c.nm c.dt
def Cm.zero : Cm := ⟨0, 0, 0, 0, 0, 0, false, ⟨#[]⟩, ⟨#[]⟩⟩
/-- What three fields hold. -/
def cm3 (f0 nm dt : ByteArray) : Cm :=
  match numsR f0.data.toList 7 with
  | [x0, x1, x2, x3, x4, x5, x6] => ⟨x0, x1, x2, x3, x4 - 1000, x5, x6 == 1, nm, dt⟩
  | _ => Cm.zero
def bit3 (f0 : ByteArray) : Bool :=
  match numsR f0.data.toList 7 with
  | [_, _, _, _, _, _, x6] => inB x6 0 1
  | _ => false
def rcOf (l : List UInt8) : Option Cm :=
  match rfOf l with
  | some [f0, nm, dt] => if f0.size = 21 ∧ bit3 f0 = true ∧ (cm3 f0 nm dt).ok = true then some (cm3 f0 nm dt) else none
  | _ => none
def rcV (l : List UInt8) : Cm := if 65536 < l.length then Cm.zero else (rcOf l).getD Cm.zero
def rcC (l : List UInt8) : Int := if 65536 < l.length then 2 else if (rcOf l).isSome then 0 else 3
theorem seven {l : List Int} (h : l.length = 7) : ∃ x0 x1 x2 x3 x4 x5 x6, l = [x0, x1, x2, x3, x4, x5, x6] := by
  match l, h with
  | [x0, x1, x2, x3, x4, x5, x6], _ => exact ⟨x0, x1, x2, x3, x4, x5, x6, rfl⟩
theorem nums_back (f : List UInt8) : ∀ k, 3 * k ≤ f.length → numsL (numsR f k) = f.take (3 * k) := by
  intro k
  induction k with
  | zero => intro _; simp [numsR, numsL]
  | succ k ih =>
    intro h
    rw [numsR_snoc]
    have e : numsL (numsR f k ++ [((ofBE (chunk f k) : Nat) : Int) - 1]) = numsL (numsR f k) ++ be (ofBE (chunk f k)) 3 := by
      unfold numsL
      rw [List.flatMap_append]
      simp
    have hl : (chunk f k).length = 3 := by unfold chunk; rw [List.length_take, List.length_drop]; omega
    have hb := be_ofBE (chunk f k)
    rw [hl] at hb
    rw [e, ih (by omega), hb]
    unfold chunk
    rw [show 3 * (k + 1) = 3 * k + 3 from by omega, List.take_add]
/-- A right command's bytes are those that it was read from just if the last number is a bit. -/
theorem rc_bytes {l : List UInt8} {f0 nm dt : ByteArray} (hl : ¬ 65536 < l.length) (h : rfOf l = some [f0, nm, dt]) (h21 : f0.size = 21) (hok : (cm3 f0 nm dt).ok = true) : (cm3 f0 nm dt).bytes = l ↔ bit3 f0 = true := by
  have hlen : f0.data.toList.length = 21 := by rw [text_len]; exact h21
  obtain ⟨x0, x1, x2, x3, x4, x5, x6, ex⟩ := seven (numsR_len f0.data.toList 7)
  have ec : cm3 f0 nm dt = ⟨x0, x1, x2, x3, x4 - 1000, x5, x6 == 1, nm, dt⟩ := by unfold cm3; rw [ex]
  have eb : bit3 f0 = inB x6 0 1 := by unfold bit3; rw [ex]
  rw [ec] at hok ⊢
  rw [eb]
  have hok2 : cmdB x0 x1 x2 x3 (x4 - 1000) x5 (x6 == 1) nm dt = true := hok
  have hnb := nums_back f0.data.toList 7 (by omega)
  rw [ex, show 3 * 7 = 21 from rfl, List.take_of_length_le (by omega)] at hnb
  have hrc : rfC l = 0 := by unfold rfC; rw [if_neg hl, h]; rfl
  have hrl : rfL l = [f0, nm, dt] := by unfold rfL; rw [if_neg hl, h]; rfl
  have hfb := (fb_rf l hrc).1
  have hsz := cb_sizes hok2
  have e3 : (cbF x0 x1 x2 x3 (x4 - 1000) x5 (x6 == 1) nm dt).length = 3 := rfl
  have hback := rf_fb (cbF x0 x1 x2 x3 (x4 - 1000) x5 (x6 == 1) nm dt) (by rw [e3]; decide) (short_of hsz (by decide)) (fsum_of (n := 3) hsz (by rw [e3]; decide) (by decide))
  rw [e3] at hback
  have hfit := cb_fit hok2
  have e4 : x4 - 1000 + 1000 = x4 := by omega
  constructor
  · intro hb
    have hb2 : be 3 1 ++ fieldsL (cbF x0 x1 x2 x3 (x4 - 1000) x5 (x6 == 1) nm dt) = l := hb
    rw [hb2, hrl] at hback
    have h1 := hback.1
    unfold cbF at h1
    injection h1 with h1 _
    have h2 : numsL (cbN x0 x1 x2 x3 (x4 - 1000) x5 (x6 == 1)) = f0.data.toList := by rw [h1]
    have h3 := rn_nb (cbN x0 x1 x2 x3 (x4 - 1000) x5 (x6 == 1)) (by simp [cbN]) hfit
    rw [(nb_ok (l := cbN x0 x1 x2 x3 (x4 - 1000) x5 (x6 == 1)) (by simp [cbN]) hfit).1, h2] at h3
    have h4 := rn_ok (l := f0.data.toList) (by omega) (by omega) (by omega)
    rw [h4.1, hlen] at h3
    have h5 : numsR f0.data.toList 7 = cbN x0 x1 x2 x3 (x4 - 1000) x5 (x6 == 1) := h3.1
    rw [ex] at h5
    unfold cbN at h5
    injection h5 with _ h5
    injection h5 with _ h5
    injection h5 with _ h5
    injection h5 with _ h5
    injection h5 with _ h5
    injection h5 with _ h5
    injection h5 with h6 _
    unfold bitI at h6
    unfold inB
    by_cases e : x6 = 1
    · exact decide_eq_true (by omega)
    · rw [if_neg (by simpa using e)] at h6; exact decide_eq_true (by omega)
  · intro hb
    have hbit : bitI (x6 == 1) = x6 := by
      have := in_parts hb
      unfold bitI
      by_cases e : x6 = 1
      · rw [e]; rfl
      · rw [if_neg (by simpa using e)]; omega
    have hN : cbN x0 x1 x2 x3 (x4 - 1000) x5 (x6 == 1) = [x0, x1, x2, x3, x4, x5, x6] := by unfold cbN; rw [e4, hbit]
    have hF : cbF x0 x1 x2 x3 (x4 - 1000) x5 (x6 == 1) nm dt = [f0, nm, dt] := by
      unfold cbF
      rw [hN, hnb]
    have h7 : fbL [f0, nm, dt] = be 3 1 ++ fieldsL [f0, nm, dt] := by
      rw [← hF]
      have := (fb_ok (l := cbF x0 x1 x2 x3 (x4 - 1000) x5 (x6 == 1) nm dt) (by rw [e3]; decide) (short_of hsz (by decide)) (fsum_of (n := 3) hsz (by rw [e3]; decide) (by decide))).1
      rwa [e3] at this
    show be 3 1 ++ fieldsL (cbF x0 x1 x2 x3 (x4 - 1000) x5 (x6 == 1) nm dt) = l
    rw [hF, ← h7, ← hrl]
    exact hfb
theorem rf_sizes {l : List UInt8} {m : List ByteArray} (hl : ¬ 65536 < l.length) (h : rfOf l = some m) : ∀ k (hk : k < m.length), m[k].size ≤ 20000 := by
  have h1 := rf_short l
  have h2 : rfL l = m := by unfold rfL; rw [if_neg hl, h]; rfl
  rw [h2] at h1
  exact h1
end Go.Proofs.YtoplijjddhecgaaDoor

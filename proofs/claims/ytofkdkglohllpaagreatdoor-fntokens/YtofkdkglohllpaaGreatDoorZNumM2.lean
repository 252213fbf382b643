/- l00Number: what the specification answers. -/
import Derived.Test.YtofkdkglohllpaaGreatDoorZRtkN
namespace Go.Proofs.YtofkdkglohllpaaGreatDoor
open Go.ChangeShapes Go.WideShapes Go.ChangeAt Go.RowKit
set_option linter.unusedVariables false
theorem num_e1 {v a : Nat} (h : v < 100000000000000000) (ha : a = v * 10) : wrap64 ((v : Int) * 10) = (a : Int) := by subst ha; unfold wrap64; omega
theorem num_e2 {v a c : Nat} {b : UInt8} (h : v < 100000000000000000) (ha : a = v * 10) (hc : c = a + b.toNat) (hb : b.toNat < 58) : wrap64 ((a : Int) + (b.toNat : Int)) = (c : Int) := by subst ha hc; unfold wrap64; omega
theorem num_e3 {v a c v2 : Nat} {b : UInt8} (h : v < 100000000000000000) (ha : a = v * 10) (hc : c = a + b.toNat) (hv : v2 = c - 48) (h0 : 48 ≤ b.toNat) (hb : b.toNat < 58) : wrap64 ((c : Int) - 48) = (v2 : Int) := by subst ha hc hv; unfold wrap64; omega
theorem num_e4 {v : Nat} (h : v < 1000000000000000000) : wrap64 (v : Int) = (v : Int) := by unfold wrap64; omega
theorem num_e4n {v : Nat} (h : v < 1000000000000000000) : wrap64 (-(v : Int)) = -(v : Int) := by unfold wrap64; omega
theorem num_d2 {d : ByteArray} {k : Nat} (hk : k < d.size) (h : digL (d.data.toList.take k) = true) (h0 : 48 ≤ d[k].toNat) (h1 : d[k].toNat < 58) (e : d.data.toList.take (k + 1) = d.data.toList.take k ++ [d[k]]) : digL (d.data.toList.take (k + 1)) = true := by rw [e, digL_snoc, h]; simp; omega
theorem num_v2 {d : ByteArray} {k v a c v2 : Nat} (hk : k < d.size) (hv : v = valD (d.data.toList.take k)) (ha : a = v * 10) (hc : c = a + d[k].toNat) (hv2 : v2 = c - 48) (h0 : 48 ≤ d[k].toNat) (e : d.data.toList.take (k + 1) = d.data.toList.take k ++ [d[k]]) : v2 = valD (d.data.toList.take (k + 1)) := by rw [e, valD_snoc, ← hv]; omega
theorem len8 (s : ByteArray) : s.data.toList.length = s.size := Array.length_toList
theorem get8 (s : ByteArray) (k : Nat) (h : k < s.size) : s.data.toList[k]'(by rw [len8]; exact h) = s[k] := by simp; rfl
theorem head8 (s : ByteArray) (h : 0 < s.size) : s.data.toList.head? = some s[0] := by
  rw [List.head?_eq_getElem?, List.getElem?_eq_getElem (by rw [len8]; exact h), get8 s 0 h]
theorem take_snoc8 (s : ByteArray) (k : Nat) (h : k < s.size) : s.data.toList.take (k + 1) = s.data.toList.take k ++ [s[k]] := by
  rw [List.take_add_one, List.getElem?_eq_getElem (by rw [len8]; exact h), get8 s k h]; rfl
theorem byte_is (b : UInt8) (n : Nat) (hn : n < 256) : (b == UInt8.ofNat n) = decide (b.toNat = n) := by
  rw [Bool.eq_iff_iff, beq_iff_eq, decide_eq_true_iff]
  constructor
  · intro h; rw [h, UInt8.toNat_ofNat']; omega
  · intro h; apply UInt8.toNat_inj.1; rw [UInt8.toNat_ofNat', h]; omega
theorem nvG_pos {s : ByteArray} (h : 0 < s.size) : nvG s.data.toList = decide (s[0].toNat = 45) := by
  unfold nvG; rw [head8 s h]
  rw [← byte_is s[0] 45 (by decide)]
  rw [Bool.eq_iff_iff, beq_iff_eq, beq_iff_eq]
  constructor
  · intro h; injection h
  · intro h; rw [h]; rfl
theorem nvG_zero {s : ByteArray} (h : s.size = 0) : nvG s.data.toList = false := by
  have : s.data.toList = [] := List.length_eq_zero_iff.1 (by rw [len8]; exact h)
  unfold nvG; rw [this]; rfl
/-- The digits of a number's text, and whether a sign stands ahead. -/
structure NvAt (s d : ByteArray) (neg : Bool) : Prop where
  dd : nvD s.data.toList = d.data.toList
  gg : nvG s.data.toList = neg
theorem nvB_of {s d : ByteArray} {neg : Bool} (h : NvAt s d neg) : nvB s.data.toList = (!(d.size == 0) && (decide (d.size ≤ 18) && (!nvZ s.data.toList && digL d.data.toList))) := by
  unfold nvB; rw [h.dd, len8]
theorem nvZ_of {s d : ByteArray} {neg : Bool} (h : NvAt s d neg) (hd : 0 < d.size) : nvZ s.data.toList = (decide (d[0].toNat = 48) && (decide (1 < d.size) || neg)) := by
  unfold nvZ; rw [h.dd, h.gg, head8 d hd, len8]
  congr 1
  rw [← byte_is d[0] 48 (by decide)]
  rw [Bool.eq_iff_iff, beq_iff_eq, beq_iff_eq]
  constructor
  · intro h; injection h
  · intro h; rw [h]; rfl
theorem nv_zero {s d : ByteArray} {neg : Bool} (h : NvAt s d neg) (hd : d.size = 0) : nvB s.data.toList = false := by rw [nvB_of h, hd]; rfl
theorem nv_long {s d : ByteArray} {neg : Bool} (h : NvAt s d neg) (hd : 18 < d.size) : nvB s.data.toList = false := by
  rw [nvB_of h, show decide (d.size ≤ 18) = false by simp; omega]; simp
theorem nv_nought {s d : ByteArray} {neg : Bool} (h : NvAt s d neg) (hd : 0 < d.size) (h0 : d[0].toNat = 48) (h1 : 1 < d.size ∨ neg = true) : nvB s.data.toList = false := by
  rw [nvB_of h, nvZ_of h hd]
  have e : (decide (d[0].toNat = 48) && (decide (1 < d.size) || neg)) = true := by
    rw [h0]; rcases h1 with h1 | h1
    · simp [h1]
    · simp [h1]
  rw [e]; simp
theorem nv_bad {s d : ByteArray} {neg : Bool} (h : NvAt s d neg) (k : Nat) (hk : k < d.size) (hb : d[k].toNat < 48 ∨ 57 < d[k].toNat) : nvB s.data.toList = false := by
  rw [nvB_of h]
  have e : digL d.data.toList = false := by
    unfold digL
    rw [List.all_eq_false]
    refine ⟨d[k], by rw [← get8 d k hk]; exact List.getElem_mem _, ?_⟩
    rcases hb with hb | hb
    · simp; omega
    · simp; omega
  rw [e]; simp
/-- The digits do not begin with a needless nought. -/
def NvOk (d : ByteArray) (neg : Bool) : Prop := ∀ h : 0 < d.size, ¬ (d[0].toNat = 48 ∧ (1 < d.size ∨ neg = true))
theorem nv_good {s d : ByteArray} {neg : Bool} (h : NvAt s d neg) (hd : 0 < d.size) (h18 : d.size ≤ 18) (hk : NvOk d neg) (hg : digL (d.data.toList.take d.size) = true) : nvB s.data.toList = true ∧ nvV s.data.toList = (if neg then -(valD (d.data.toList.take d.size) : Int) else (valD (d.data.toList.take d.size) : Int)) := by
  have h0 := hk hd
  rw [List.take_of_length_le (by rw [len8]; exact Nat.le_refl _)] at hg ⊢
  constructor
  · rw [nvB_of h, nvZ_of h hd, hg]
    have e : (decide (d[0].toNat = 48) && (decide (1 < d.size) || neg)) = false := by
      rw [Bool.and_eq_false_iff]
      by_cases a : d[0].toNat = 48
      · right
        have : ¬ (1 < d.size ∨ neg = true) := fun hh => h0 ⟨a, hh⟩
        rw [Bool.or_eq_false_iff]
        have t : ¬ 1 < d.size := fun hh => this (.inl hh)
        refine ⟨by simp; omega, ?_⟩
        cases neg with
        | false => rfl
        | true => exact absurd (.inr rfl) this
      · left; simp [a]
    rw [e]
    have e2 : (d.size == 0) = false := beq_eq_false_iff_ne.2 (by omega)
    rw [e2, show decide (d.size ≤ 18) = true by simp [h18]]; rfl
  · unfold nvV; rw [h.dd, h.gg]
theorem val_bd (d : ByteArray) (k : Nat) (hk : k ≤ 18) (h : digL (d.data.toList.take k) = true) : valD (d.data.toList.take k) < 1000000000000000000 := by
  have h1 := valD_lt _ h
  have h2 : (d.data.toList.take k).length ≤ k := List.length_take_le _ _
  have h3 : 10 ^ (d.data.toList.take k).length ≤ 10 ^ 18 := Nat.pow_le_pow_right (by decide) (by omega)
  exact Nat.lt_of_lt_of_le h1 h3
theorem val_bd17 (d : ByteArray) (k : Nat) (hk : k ≤ 17) (h : digL (d.data.toList.take k) = true) : valD (d.data.toList.take k) < 100000000000000000 := by
  have h1 := valD_lt _ h
  have h2 : (d.data.toList.take k).length ≤ k := List.length_take_le _ _
  have h3 : 10 ^ (d.data.toList.take k).length ≤ 10 ^ 17 := Nat.pow_le_pow_right (by decide) (by omega)
  exact Nat.lt_of_lt_of_le h1 h3
end Go.Proofs.YtofkdkglohllpaaGreatDoor

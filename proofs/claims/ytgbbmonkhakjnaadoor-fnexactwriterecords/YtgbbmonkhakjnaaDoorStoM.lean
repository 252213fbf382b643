/- Stores: which are right, what a crash leaves. Plain mathematics. -/
import Derived.Test.YtgbbmonkhakjnaaDoorInM
import Derived.Test.YtgbbmonkhakjnaaDoorMinM
namespace Go.Proofs.YtgbbmonkhakjnaaDoor
open Go.ChangeShapes Go.WideShapes Go.ChangeAt Go.RowKit
def stoB (d : ByteArray) (s : Int) : Bool := decide (d.size ≤ 60000) && inB s 0 (d.size : Int)
/-- How many bytes a crash leaves. -/
def keptN (a : Nat) (s k : Int) : Nat := (s + mn (mx k 0) ((a : Int) - s)).toNat
theorem kept_spec {a : Nat} {s : Int} (k : Int) (h0 : 0 ≤ s) (h1 : s ≤ (a : Int)) : ∃ M N : Int, mx k 0 = M ∧ mx 0 k = M ∧ mn M ((a : Int) - s) = N ∧ 0 ≤ N ∧ N ≤ (a : Int) - s ∧ s + N = (keptN a s k : Int) ∧ keptN a s k ≤ a := by
  refine ⟨mx k 0, mn (mx k 0) ((a : Int) - s), rfl, ?_, rfl, ?_, ?_, ?_, ?_⟩
  · unfold mx; split <;> split <;> omega
  · unfold mn mx; split <;> split <;> omega
  · unfold mn mx; split <;> split <;> omega
  · unfold keptN mn mx; split <;> split <;> omega
  · unfold keptN mn mx; split <;> split <;> omega
theorem sto_parts {d : ByteArray} {s : Int} (h : stoB d s = true) : d.size ≤ 60000 ∧ 0 ≤ s ∧ s ≤ (d.size : Int) := by
  unfold stoB inB at h; simp at h; omega
def SyncIs (d : ByteArray) (s : Int) (d2 : ByteArray) (s2 c : Int) : Prop := (stoB d s = true ∧ d2 = d ∧ s2 = (d.size : Int) ∧ c = 0) ∨ (stoB d s = false ∧ d2 = ⟨#[]⟩ ∧ s2 = 0 ∧ c = 1)
theorem sync_ex (d : ByteArray) (s : Int) : ∃ d2 s2 c, SyncIs d s d2 s2 c := by
  cases h : stoB d s with
  | true => exact ⟨_, _, _, .inl ⟨h, rfl, rfl, rfl⟩⟩
  | false => exact ⟨_, _, _, .inr ⟨h, rfl, rfl, rfl⟩⟩
def CrashIs (d : ByteArray) (s k : Int) (d2 : ByteArray) (s2 c : Int) : Prop := (stoB d s = true ∧ d2 = d.extract 0 (keptN d.size s k) ∧ s2 = (keptN d.size s k : Int) ∧ c = 0) ∨ (stoB d s = false ∧ d2 = ⟨#[]⟩ ∧ s2 = 0 ∧ c = 1)
theorem crash_ex (d : ByteArray) (s k : Int) : ∃ d2 s2 c, CrashIs d s k d2 s2 c := by
  cases h : stoB d s with
  | true => exact ⟨_, _, _, .inl ⟨h, rfl, rfl, rfl⟩⟩
  | false => exact ⟨_, _, _, .inr ⟨h, rfl, rfl, rfl⟩⟩
end Go.Proofs.YtgbbmonkhakjnaaDoor

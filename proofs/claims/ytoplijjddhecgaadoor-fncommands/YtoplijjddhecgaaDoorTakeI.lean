/- impl.take: too short a row, and a long enough one. -/
import Derived.Test.YtoplijjddhecgaaDoorAsF
namespace Go.Proofs.YtoplijjddhecgaaDoor
open Go.RowKit
theorem itakeNo (a : Option Addr) (len cap n : Nat) (hs : len < n) (u : TypeId) (y : Value) (w : World) (hg : w.cell? ⟨2, 0, none⟩ = some (.iface u y)) :
    Calls Tryd.prog 55 #[.slice a len cap, .int .i64 n] w fun e w' => e = .returned (.tuple #[.slice none 0 0, .slice none 0 0, .iface u y]) ∧ Below w.heap.size w w' := by
  have h1 : (len : Int) < (n : Int) := by omega
  go_enter Tryd.func55, Tryd.ntmps55
  go_wp2
  go_region_held3 (fun w' => w'.cell? ⟨2, 0, none⟩ = some (.iface u y)) (go_keep) (fail)
  go_wp2
  go_ret3
  exact ⟨rfl, (Below.refl _ _).drew⟩
theorem itakeOk (b off len cap n : Nat) (hn : n ≤ len) (hc : len ≤ cap) (w : World) :
    Calls Tryd.prog 55 #[.slice (some ⟨b, off, none⟩) len cap, .int .i64 n] w fun e w' => e = .returned (.tuple #[.slice (some ⟨b, off, none⟩) n cap, .slice (if cap = n then some ⟨b, off, none⟩ else some ⟨b, off + n, none⟩) (len - n) (cap - n), .nilIface]) ∧ Below w.heap.size w w' := by
  have h1 : ¬ (len : Int) < (n : Int) := by omega
  have h2 : (n : Int) ≤ (cap : Int) := by omega
  have h3 : (n : Int) ≤ (len : Int) := by omega
  have h4 : (0 : Int) ≤ (n : Int) := by omega
  have h5 : (len : Int) ≤ (cap : Int) := by omega
  go_enter Tryd.func55, Tryd.ntmps55
  go_wp2
  go_region_held3 (fun _ => True) (trivial) (fail)
  go_wp2
  all_goals (go_ret3; exact ⟨rfl, (Below.refl _ _).drew⟩)
theorem row8_take {w : World} {a : Option Addr} {l : List UInt8} (h : Row8 w a l) (n : Nat) : Row8 w a (l.take n) := by
  rcases h with rfl | ⟨b, off, e, hlt, hc⟩
  · exact .inl (by simp)
  · refine .inr ⟨b, off, e, hlt, fun i hi => ?_⟩
    rw [List.length_take] at hi
    rw [hc i (by omega), List.getElem_take]
theorem row8_drop {w : World} {b off : Nat} {l : List UInt8} (h : Row8 w (some ⟨b, off, none⟩) l) (n : Nat) : Row8 w (some ⟨b, off + n, none⟩) (l.drop n) := by
  rcases h with rfl | ⟨b', off', e, hlt, hc⟩
  · exact .inl (by simp)
  · simp only [Option.some.injEq, Addr.mk.injEq, and_true] at e
    obtain ⟨rfl, rfl⟩ := e
    refine .inr ⟨b, off + n, rfl, hlt, fun i hi => ?_⟩
    rw [List.length_drop] at hi
    rw [Nat.add_assoc, hc (n + i) (by omega), List.getElem_drop]
/-- The first n bytes of a row and what stands behind them. -/
theorem itake (b off cap n : Nat) (l : List UInt8) (len : Nat) (el : l.length = len) (hn : n ≤ len) (hc : len ≤ cap) (w : World) (hr : Row8 w (some ⟨b, off, none⟩) l) :
    Calls Tryd.prog 55 #[.slice (some ⟨b, off, none⟩) len cap, .int .i64 n] w fun e w' => ∃ o2, e = .returned (.tuple #[.slice (some ⟨b, off, none⟩) n cap, .slice (some ⟨b, o2, none⟩) (len - n) (cap - n), .nilIface]) ∧ Row8 w' (some ⟨b, off, none⟩) (l.take n) ∧ Row8 w' (some ⟨b, o2, none⟩) (l.drop n) ∧ Below w.heap.size w w' := by
  refine (itakeOk b off len cap n hn hc w).mono ?_
  rintro e w' ⟨rfl, hb⟩
  by_cases h : cap = n
  · refine ⟨off, by rw [if_pos h], (row8_take hr n).below hb, .inl (List.drop_eq_nil_of_le (by omega)), hb⟩
  · refine ⟨off + n, by rw [if_neg h], (row8_take hr n).below hb, (row8_drop hr n).below hb, hb⟩
end Go.Proofs.YtoplijjddhecgaaDoor

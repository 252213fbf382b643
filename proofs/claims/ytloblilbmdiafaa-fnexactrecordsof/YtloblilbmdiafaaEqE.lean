/- Entries compared. -/
import Derived.Test.YtloblilbmdiafaaSteM
import Derived.BigQuiet
import Derived.WalkSmall
namespace Go.Proofs.Ytloblilbmdiafaa
open Go.ChangeShapes Go.WideShapes Go.ChangeAt Go.RowKit
def entEq (t u : Int) (d e : ByteArray) : Bool := decide (t = u ∧ d = e)
theorem list_text {a b : ByteArray} (h : a.toList = b.toList) : a = b := by
  rw [ByteArray.toList_eq, ByteArray.toList_eq] at h
  obtain ⟨⟨x⟩⟩ := a
  obtain ⟨⟨y⟩⟩ := b
  simp at h; rw [h]
set_option maxRecDepth 100000 in
theorem run_eqEnt (w : World) (t u : Int) (d e : ByteArray) : (binOp .eql 46 (.agg #[.int .i64 t, .string d]) (.agg #[.int .i64 u, .string e])).run Try.prog w = .ok (.bool (entEq t u d e)) w := by
  by_cases h : t = u
  · subst h
    by_cases h2 : d = e
    · subst h2
      have hh : entEq t t d d = true := decide_eq_true ⟨rfl, rfl⟩
      rw [hh]
      go_simp
    · have hh : entEq t t d e = false := decide_eq_false fun hx => h2 hx.2
      have hl : (d.toList == e.toList) = false := by rw [beq_eq_false_iff_ne]; exact fun hx => h2 (list_text hx)
      rw [hh]
      go_simp
  · have hh : entEq t u d e = false := decide_eq_false fun hx => h hx.1
    have hl : (t == u) = false := by rw [beq_eq_false_iff_ne]; exact h
    rw [hh]
    go_simp
set_option maxRecDepth 100000 in
theorem run_neEnt (w : World) (t u : Int) (d e : ByteArray) : (binOp .neq 46 (.agg #[.int .i64 t, .string d]) (.agg #[.int .i64 u, .string e])).run Try.prog w = .ok (.bool (!(entEq t u d e))) w := by
  by_cases h : t = u
  · subst h
    by_cases h2 : d = e
    · subst h2
      have hh : entEq t t d d = true := decide_eq_true ⟨rfl, rfl⟩
      rw [hh]
      go_simp
    · have hh : entEq t t d e = false := decide_eq_false fun hx => h2 hx.2
      have hl : (d.toList == e.toList) = false := by rw [beq_eq_false_iff_ne]; exact fun hx => h2 (list_text hx)
      rw [hh]
      go_simp
  · have hh : entEq t u d e = false := decide_eq_false fun hx => h hx.1
    have hl : (t == u) = false := by rw [beq_eq_false_iff_ne]; exact h
    rw [hh]
    go_simp
theorem ent_cmp {l m : List Ent} {k : Nat} {h1 : k < l.length} {h2 : k < m.length} {t u : Int} {d e : ByteArray} (a1 : t = l[k].1) (a2 : d = l[k].2) (b1 : u = m[k].1) (b2 : e = m[k].2) : (entEq t u d e = true → l[k] = m[k]) ∧ (entEq t u d e = false → l[k] ≠ m[k]) :=
  ⟨fun h => Prod.ext (by rw [← a1, ← b1]; exact (of_decide_eq_true h).1) (by rw [← a2, ← b2]; exact (of_decide_eq_true h).2), fun h hh => of_decide_eq_false h ⟨by rw [a1, b1, hh], by rw [a2, b2, hh]⟩⟩
end Go.Proofs.Ytloblilbmdiafaa

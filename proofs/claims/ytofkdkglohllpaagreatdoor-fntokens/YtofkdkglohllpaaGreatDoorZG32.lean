/- Texts put together: StepStr RdtM. -/
import Derived.Test.YtofkdkglohllpaaGreatDoorZRowV
import Derived.Lib.AppendStr
import Derived.Test.YtofkdkglohllpaaGreatDoorZCutI
import Derived.Test.YtofkdkglohllpaaGreatDoorZNumB
import Derived.Test.YtofkdkglohllpaaGreatDoorZTokS
import Derived.BigQuiet
import Derived.Deep.RegionHeld3
/- append of a text's bytes, and of a row that is not empty, at a step of a region that draws its order. -/
namespace Go.Proofs.YtofkdkglohllpaaGreatDoor
open Go.ChangeShapes Go.WideShapes Go.ChangeAt Go.RowKit
theorem own_some {w : World} {base : Nat} {e : TypeId} {v : Value} {n : Nat} {xs : List Value} (h : w.ownsRow base e 1 v n xs) (hn : 0 < n) :
    ∃ g cap, v = .slice (some ⟨g, 0, none⟩) n cap ∧ base ≤ g ∧ g < w.heap.size ∧ n ≤ cap ∧ ∀ j u, xs[j]? = some u → w.cell? ((⟨g, 0, none⟩ : Addr).add j) = some u := by
  rcases h.2 with ⟨_, rfl⟩ | ⟨g, cap, cur, rfl, hbg, hg, hnc, _⟩
  · omega
  · exact ⟨g, cap, rfl, hbg, (h.lt g rfl).2, hnc, h.cells (g := g) rfl⟩
end Go.Proofs.YtofkdkglohllpaaGreatDoor

/- ReadToken: what the specification answers. -/
namespace Go.Proofs.YtofkdkglohllpaaGreatDoor
open Go.ChangeShapes Go.WideShapes Go.ChangeAt Go.RowKit
set_option linter.unusedVariables false
/-- The answers of ReadToken at a text: it says c, win, n under the mark M; or it says nothing. -/
def RdOk (key t : ByteArray) (rc : Int) (rw : ByteArray) (rn q : Int) : Prop := ∃ (c : Int) (win : ByteArray) (n : Int) (M : ByteArray), Rd t c win n M ∧ ((M = mkT key c win n ∧ rc = c ∧ rw = win ∧ rn = n ∧ q = 0) ∨ (M ≠ mkT key c win n ∧ rc = 0 ∧ rw = ⟨#[]⟩ ∧ rn = 0 ∧ q = 16))
def RdNo (t : ByteArray) : Prop := ∀ (c : Int) (win : ByteArray) (n : Int) (M : ByteArray), ¬ Rd t c win n M
theorem rd_cases (key t : ByteArray) : (∃ rc rw rn q, RdOk key t rc rw rn q) ∨ RdNo t := by
  by_cases h : ∃ (c : Int) (win : ByteArray) (n : Int) (M : ByteArray), Rd t c win n M
  · obtain ⟨c, win, n, M, h⟩ := h
    by_cases e : M = mkT key c win n
    · exact .inl ⟨_, _, _, _, c, win, n, M, h, .inl ⟨e, rfl, rfl, rfl, rfl⟩⟩
    · exact .inl ⟨_, _, _, _, c, win, n, M, h, .inr ⟨e, rfl, rfl, rfl, rfl⟩⟩
  · exact .inr fun c win n M hr => h ⟨c, win, n, M, hr⟩
theorem results_tmp4 {fn : Func} {a b c d : Tmp} (h : fn.results = #[.tmp a, .tmp b, .tmp c, .tmp d]) (tmps : Array Value) (P : Program) (w : World) :
    (results fn tmps).run P w = .ok (.tuple #[tmps.getD a undef, tmps.getD b undef, tmps.getD c undef, tmps.getD d undef]) w := by
  simp [results, h]
theorem tok_chars : tokT.toList = [116, 111, 107, 101, 110] := by rw [ByteArray.toList_eq]; rfl
theorem ne_list {a b : ByteArray} (h : a ≠ b) : (a.toList == b.toList) = false := by
  rw [beq_eq_false_iff_ne, ByteArray.toList_eq, ByteArray.toList_eq]; exact fun e => h (ba_eq e)
theorem rd_map {t : ByteArray} {c : Int} {win : ByteArray} {n : Int} {M : ByteArray} (h : Rd t c win n M) : [tokT, zt c, win, zt n, M].map (fun x : ByteArray => x.data.toList) = cutS t.data.toList := by
  rw [rd_cut h]; rfl
theorem cells5 {w : World} {base : Nat} {v : Value} {P0 P1 P2 P3 P4 : ByteArray} (h : w.ownsRow base 9 1 v 5 (cS [P0, P1, P2, P3, P4])) : ∃ g cap, v = .slice (some ⟨g, 0, none⟩) 5 cap ∧ base ≤ g ∧ g < w.heap.size ∧ w.cell? ⟨g, 0, none⟩ = some (.string P0) ∧ w.cell? ⟨g, 1, none⟩ = some (.string P1) ∧ w.cell? ⟨g, 2, none⟩ = some (.string P2) ∧ w.cell? ⟨g, 3, none⟩ = some (.string P3) ∧ w.cell? ⟨g, 4, none⟩ = some (.string P4) := by
  obtain ⟨g, cap, e, h1, h2, h3, h4⟩ := own_some h (by decide)
  have hc : ∀ j u, (cS [P0, P1, P2, P3, P4])[j]? = some u → w.cell? ⟨g, j, none⟩ = some u := fun j u hu => by
    have := h4 j u hu
    rw [show (⟨g, 0, none⟩ : Addr).add j = ⟨g, 0 + j, none⟩ from by unfold Addr.add; split <;> simp_all, Nat.zero_add] at this
    exact this
  exact ⟨g, cap, e, h1, h2, hc 0 _ rfl, hc 1 _ rfl, hc 2 _ rfl, hc 3 _ rfl, hc 4 _ rfl⟩
def NoTok (b1 b3 : Bool) (x1 : Int) (P2 : ByteArray) (x3 : Int) : Prop := b1 = true → b3 = true → false = tokB x1 P2 x3
theorem pre_len {c : List UInt8} {L : List (List UInt8)} (n : Nat) (h : ∀ p ∈ L, c.length + p.length ≤ n) (hc : c.length ≤ n) : ∀ p ∈ pre c L, p.length ≤ n ∨ p ∈ L := by
  intro p hp
  cases L with
  | nil => simp [pre] at hp; subst hp; exact .inl hc
  | cons q L =>
    rcases List.mem_cons.1 hp with rfl | hp
    · have := h q (List.mem_cons_self ..); exact .inl (by rw [List.length_append]; exact this)
    · exact .inr (List.mem_cons_of_mem _ hp)
theorem cut_len (l : List UInt8) : ∀ p ∈ cutS l, p.length ≤ l.length := by
  induction l with
  | nil => intro p hp; simp [cutS] at hp; subst hp; exact Nat.le_refl _
  | cons b r ih =>
    by_cases h : b = 32
    · subst h; rw [cutS_blank]; intro p hp
      rcases List.mem_cons.1 hp with rfl | hp
      · exact Nat.zero_le _
      · have := ih p hp; rw [List.length_cons]; omega
    · rw [cutS_more r h]
      intro p hp
      rcases pre_len (r.length + 1) (fun q hq => by have := ih q hq; show 1 + q.length ≤ _; omega) (by show 1 ≤ _; omega) p hp with h1 | h1
      · rw [List.length_cons]; exact h1
      · have := ih p h1; rw [List.length_cons]; omega
end Go.Proofs.YtofkdkglohllpaaGreatDoor

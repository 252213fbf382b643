/- Texts put together: IssS NumM. -/
import Derived.Test.YtofkdkglohllpaaGreatDoorZG33
import Derived.Test.YtofkdkglohllpaaGreatDoorZTokS
import Derived.Test.YtofkdkglohllpaaGreatDoorZRowV
import Derived.Laws.BitsAllLaws
import Derived.Laws.BitsLemmas
/- IssueToken: what the specification answers. -/
namespace Go.Proofs.YtofkdkglohllpaaGreatDoor
open Go.ChangeShapes Go.WideShapes Go.ChangeAt Go.RowKit
set_option linter.unusedVariables false
set_option maxHeartbeats 4000000 in
set_option maxRecDepth 100000 in
theorem sissue (c : Int) (win : ByteArray) (n : Int) (HT : Hid (tokB c win n = true)) (key : ByteArray) (HKS : Hid (key.size ≤ 65536)) (S : ByteArray) (HS : Hid (S = issT key c win n)) (w : World) :
    Calls Tryz.prog 16 #[.string key, .int .i64 c, .string win, .int .i64 n] w fun e w' => e = .returned (.string S) ∧ Below w.heap.size w w' := by
  have B0 := hide (Below.refl w.heap.size w)
  obtain ⟨R, hR⟩ : ∃ R, R = hdT c win n := ⟨_, rfl⟩
  have HR := hide hR
  have z1 : R.size ≤ 60 := by rw [hR]; exact hdT_size (unhide HT)
  obtain ⟨M, hM⟩ : ∃ M, M = mkT key c win n := ⟨_, rfl⟩
  have HM := hide hM
  have z2 : M.size ≤ 32 := by rw [hM, mkT_size]; exact Nat.le_refl _
  obtain ⟨U, hU⟩ : ∃ U, U = R ++ (⟨#[32]⟩ : ByteArray) := ⟨_, rfl⟩
  have z3 : U.size ≤ 61 := by rw [hU, ByteArray.size_append]; have e : (⟨#[32]⟩ : ByteArray).size = 1 := rfl; omega
  have HV : Hid (S = U ++ M) := by show _ = _; rw [unhide HS, issT_spec, hU, hR, hM]
  have HU := hide hU
  clear hR hM hU HS
  go_enter Tryz.func16, Tryz.ntmps16
  go_wp2_with (first
    | (go_at_call 29; refine (splain c win n HT R HR _).mono ?_; rintro e w2 ⟨rfl, hb2⟩; have B2 := hide ((unhide B0).trans (hb2.mono (unhide B0).size)); clear hb2)
    | (go_at_call 30; have B2' := B2; refine (smark12 c win n HT key HKS M HM _).mono ?_; rintro e w3 ⟨rfl, hb3⟩; have B3 := hide ((unhide B2).trans (hb3.mono (unhide B2).size)); clear hb3))
  go_ret
  rw [unhide HV, unhide HU]
  exact ⟨rfl, unhide B3⟩
set_option maxHeartbeats 4000000 in
set_option maxRecDepth 100000 in
theorem sitk (c : Int) (win : ByteArray) (n : Int) (key : ByteArray) (HKS : Hid (key.size ≤ 1048576)) (HWS : Hid (win.size ≤ 1048576)) (S : ByteArray) (HS : Hid (S = itkS key c win n)) (q : Int) (HQ : Hid (q = tmC key c win n)) (w : World) :
    Calls Tryz.prog 7 #[.string key, .int .i64 c, .string win, .int .i64 n] w fun e w' => e = .returned (.tuple #[.string S, .int .i64 q]) ∧ Below w.heap.size w w' := by
  have h1 := unhide HKS
  have h2 := unhide HWS
  by_cases hl : 65536 < key.size ∨ 65536 < win.size
  · have hS : S = ⟨#[]⟩ := by rw [unhide HS]; unfold itkS tmL; rw [if_pos (decide_eq_true hl)]
    have hQ : q = 2 := by rw [unhide HQ]; unfold tmC tmL; rw [if_pos (decide_eq_true hl)]
    subst hS hQ
    clear HS HQ
    rcases hl with hl | hl
    · have hl' : (65536 : Int) < (key.size : Int) := by omega
      go_enter Tryz.func7, Tryz.ntmps7
      go_wp2_with fail
      go_ret2
      exact ⟨rfl, Below.refl _ _⟩
    · have hl' : (65536 : Int) < (win.size : Int) := by omega
      by_cases hl3 : 65536 < key.size
      all_goals
        go_enter Tryz.func7, Tryz.ntmps7
        go_wp2_with fail
        go_ret2
        exact ⟨rfl, Below.refl _ _⟩
  · have k1 : ¬ 65536 < key.size := fun h => hl (.inl h)
    have k2 : ¬ 65536 < win.size := fun h => hl (.inr h)
    have HK6 : Hid (key.size ≤ 65536) := by show _ ≤ _; omega
    obtain ⟨Q, hQ⟩ : ∃ Q, Q = tokB c win n := ⟨_, rfl⟩
    have HT := hide hQ
    have hS : S = if Q then issT key c win n else ⟨#[]⟩ := by rw [unhide HS]; unfold itkS tmL; rw [if_neg (by simp; omega), hQ]
    have hC : q = if Q then 0 else 1 := by rw [unhide HQ]; unfold tmC tmL; rw [if_neg (by simp; omega), hQ]
    have HSS := hide hS
    have HCC := hide hC
    clear hS hC hQ HS HQ hl
    cases Q with
    | false =>
      obtain rfl : S = ⟨#[]⟩ := by rw [unhide HSS]; rfl
      obtain rfl : q = 1 := by rw [unhide HCC]; rfl
      clear HSS HCC
      go_enter Tryz.func7, Tryz.ntmps7
      go_wp2_with (go_at_call 15; refine (sask c win n HWS false HT _).mono ?_; rintro e w2 ⟨rfl, hw⟩; subst w2)
      go_ret2
      exact ⟨rfl, Below.refl _ _⟩
    | true =>
      obtain rfl : q = 0 := by rw [unhide HCC]; rfl
      have HM : Hid (S = issT key c win n) := by show _ = _; rw [unhide HSS]; rfl
      clear HSS HCC
      go_enter Tryz.func7, Tryz.ntmps7
      go_wp2_with (first
        | (go_at_call 15; refine (sask c win n HWS true HT _).mono ?_; rintro e w2 ⟨rfl, hw⟩; subst w2)
        | (go_at_call 16; refine (sissue c win n (hide (unhide HT).symm) key HK6 S HM _).mono ?_; rintro e w3 ⟨rfl, hb3⟩))
      go_ret2
      exact ⟨rfl, hb3⟩
end Go.Proofs.YtofkdkglohllpaaGreatDoor

/- Numbers as bytes, the higher ones first: what both texts write and read. -/
namespace Go.Proofs.YtofkdkglohllpaaGreatDoor
open Go.ChangeShapes Go.WideShapes Go.ChangeAt Go.RowKit

def nb (v j : Nat) : UInt8 := UInt8.ofNat (v / 256 ^ j % 256)
def be (v : Nat) : Nat → List UInt8
  | 0 => []
  | s + 1 => nb v s :: be v s
def ofBE (l : List UInt8) : Nat := l.foldl (fun n c => n * 256 + c.toNat) 0
theorem lit_empty (w : World) (base : Nat) (t : TypeId) (hb : base ≤ w.heap.size) : (w.alloc (.cells #[] t)).ownsRow base t 1 (.slice (some ⟨w.heap.size, 0, none⟩) 0 0) ([] : List UInt8).length (B8 []) :=
  World.ownsRow_lit w #[] 0 hb (by decide) rfl

end Go.Proofs.YtofkdkglohllpaaGreatDoor

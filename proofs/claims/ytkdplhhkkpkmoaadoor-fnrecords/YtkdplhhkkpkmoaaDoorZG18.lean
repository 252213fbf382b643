/- Texts put together: TakS MinM StoM. -/
import Derived.Test.YtkdplhhkkpkmoaaDoorZG16
import Derived.Test.YtkdplhhkkpkmoaaDoorZSteI
import Derived.BigQuiet
import Derived.Test.YtkdplhhkkpkmoaaDoorZG0
/- (*State).take: what the program makes of any record, in place. -/
namespace Go.Proofs.YtkdplhhkkpkmoaaDoor
open Go.ChangeShapes Go.WideShapes Go.ChangeAt Go.RowKit
set_option linter.unusedVariables false
/-- What take answers, and what it leaves: apF's. -/
def TakTo (o : Option (Int × Int × List Ent)) (x0 x1 x2 : Addr) (p : Nat) (tm vt : Int) (v : Value) (n : Nat) (l : List Ent) (base : Nat) (w' : World) (e : Ending) : Prop :=
 match o with
 | none => (∃ x, (x = x0 ∨ x = x1 ∨ x = x2) ∧ e = .returned (.iface 124 (.pointer (some x)))) ∧ BF p #[.int .i64 tm, .int .i64 vt, v] w' ∧ w'.ownsRow base 46 2 v n (cE l)
 | some (tm2, vt2, l2) => e = .returned .nilIface ∧ ∃ v2, BF p #[.int .i64 tm2, .int .i64 vt2, v2] w' ∧ w'.ownsRow base 46 2 v2 l2.length (cE l2)
theorem apF_none {tm vt : Int} {l : List Ent} {t : ByteArray} (h : apR tm vt l t = none) : apF tm vt l t = none := by unfold apF; rw [h]
theorem apF_bad {tm vt tm2 vt2 : Int} {l l2 : List Ent} {t : ByteArray} (h : apR tm vt l t = some (tm2, vt2, l2)) (hb : ¬ (stateB tm2 vt2 l2 = true ∧ tm ≤ tm2)) : apF tm vt l t = none := by unfold apF; rw [h]; simp only; rw [if_neg hb]
theorem apF_ok {tm vt tm2 vt2 : Int} {l l2 : List Ent} {t : ByteArray} (h : apR tm vt l t = some (tm2, vt2, l2)) (hb : stateB tm2 vt2 l2 = true ∧ tm ≤ tm2) : apF tm vt l t = some (tm2, vt2, l2) := by unfold apF; rw [h]; simp only; rw [if_pos hb]
set_option maxHeartbeats 4000000 in
set_option maxRecDepth 100000 in
theorem istake (p : Nat) (tm vt : Int) (a : Option Addr) (cap n : Nat) (l : List (Int × ByteArray)) (HN : Hid (l.length = n)) (hn : n ≤ 1048576) (base : Nat) (t : ByteArray) (ht : t.size ≤ 65536) (HF : Hid (∀ m, rfOf t.data.toList = some m → ∀ k (hk : k < m.length), m[k].size ≤ 20000)) (HK : Hid (∀ f L r, recP t = some (f, L, r) → L.length ≤ 65536 ∧ r.length ≤ 65536)) (HZ : Hid (∀ tm2 vt2 l2, apR tm vt l t = some (tm2, vt2, l2) → l2.length ≤ 1048576 ∧ ∀ k (h : k < l2.length), l2[k].2.size ≤ 1048576)) {x0 x1 x2 x3 x4 : Addr} (w : World) (hE : ErrsIn w) (hS : StE w x0 x1 x2 x3 x4) (hSk : Hid (∀ w', Below base w w' → StE w' x0 x1 x2 x3 x4)) (hbase : base ≤ p) (hp : BF p #[.int .i64 tm, .int .i64 vt, .slice a n cap] w) (hne : (Value.slice a n cap).ownBlock ≠ some p) (hown : w.ownsRow base 46 2 (.slice a n cap) n (cE l)) :
  Calls Tryd.prog 23 #[.pointer (some ⟨p, 0, none⟩), .string t] w fun e w' => TakTo (apF tm vt l t) x0 x1 x2 p tm vt (.slice a n cap) n l base w' e ∧ Below base w w' := by
 have hpl := hp.lt
 have T := iafter tm vt a cap n l HN hn base t ht HF HK w hE hS (by omega) hown
 have c0 := hp.S
 clear hown hE hS
 go_enter Tryd.func23, Tryd.ntmps23
 go_wp2_with fail
 refine T.mono ?_
 clear T
 rintro e w1 ⟨hto, ho1, hb1, hg1⟩
 have P1 := hide (hp.grown hg1 hne)
 have B1 := hide hb1
 have O1 := hide ho1
 have S1 := hide (unhide hSk _ hb1)
 clear hp c0 hb1 ho1 hg1
 cases hR : apR tm vt l t with
 | none =>
  rw [hR] at hto
  have he : e = .returned (.tuple #[.agg #[.int .i64 0, .int .i64 0, .slice none 0 0], .iface 124 (.pointer (some x0))]) := hto
  subst he
  have EF := hide (apF_none hR)
  have B2 := hide ((unhide B1).alloc (by have := (unhide B1).size; omega) (.cells #[.int .i64 0, .int .i64 0, .slice none 0 0] 25))
  have P2 := hide ((unhide P1).alloc (.cells #[.int .i64 0, .int .i64 0, .slice none 0 0] 25))
  have O2 := hide ((unhide O1).alloc (.cells #[.int .i64 0, .int .i64 0, .slice none 0 0] 25))
  clear hto hR
  go_wp2_with fail
  go_ret
  refine ⟨?_, unhide B2⟩
  rw [unhide EF]
  exact ⟨⟨x0, .inl rfl, rfl⟩, unhide P2, unhide O2⟩
 | some q =>
  obtain ⟨tm2, vt2, l2⟩ := q
  rw [hR] at hto
  obtain ⟨v2, rfl, ho2, hv2⟩ := hto
  have hz := unhide HZ tm2 vt2 l2 hR
  obtain ⟨n2, hN2⟩ : ∃ n2, l2.length = n2 := ⟨_, rfl⟩
  rw [hN2] at ho2 hv2
  obtain ⟨a2, c2, rfl, hr2⟩ := ownZ_rowV ho2
  have HL2 := hide hN2
  have HS2 := hide hz.2
  have hn2 : n2 ≤ 1048576 := by rw [← hN2]; exact hz.1
  have B2 := hide ((unhide B1).alloc (by have := (unhide B1).size; omega) (.cells #[.int .i64 tm2, .int .i64 vt2, .slice a2 n2 c2] 25))
  have P2 := hide ((unhide P1).alloc (.cells #[.int .i64 tm2, .int .i64 vt2, .slice a2 n2 c2] 25))
  have O2 := hide ((unhide O1).alloc (.cells #[.int .i64 tm2, .int .i64 vt2, .slice a2 n2 c2] 25))
  have N2 := hide (ho2.alloc (.cells #[.int .i64 tm2, .int .i64 vt2, .slice a2 n2 c2] 25))
  have X2 := hide (BF.new w1 #[.int .i64 tm2, .int .i64 vt2, .slice a2 n2 c2] 25)
  have W2 := hide (hr2.below ((Below.refl _ _).alloc (Nat.le_refl _) (.cells #[.int .i64 tm2, .int .i64 vt2, .slice a2 n2 c2] 25)))
  obtain ⟨R, hRR⟩ : ∃ R, R = stateB tm2 vt2 l2 := ⟨_, rfl⟩
  have HR2 := hide hRR
  have HV2 := hide hv2
  have HR := hide hR
  clear ho2 hr2 hz P1 O1 B1 hRR hR hN2 hv2
  go_wp2_with fail
  refine (istateok tm2 vt2 a2 c2 n2 l2 HL2 hn2 HS2 R HR2 _ (unhide W2)).mono ?_
  rintro e w3 ⟨rfl, hb3⟩
  have B3 := hide ((unhide B2).trans (hb3.mono (by have := (unhide P2).lt; omega)))
  have P3 := hide ((unhide P2).below hb3)
  have X3 := hide ((unhide X2).below hb3)
  have O3 := hide ((heldZ_of (unhide O2)).below hb3 (Nat.le_refl _)).own
  have N3 := hide ((heldZ_of (unhide N2)).below hb3 (Nat.le_refl _)).own
  have S3 := unhide hSk _ (unhide B3)
  have g1 := S3.g1
  have g2 := S3.g2
  clear hb3 B2 P2 X2 O2 N2 W2 S1 S3
  cases R with
  | false =>
   have EF := hide (apF_bad (unhide HR) (fun h => by rw [← unhide HR2] at h; exact absurd h.1 (by simp)))
   go_wp2_with fail
   go_ret
   refine ⟨?_, unhide B3⟩
   rw [unhide EF]
   exact ⟨⟨x1, .inr (.inl rfl), rfl⟩, unhide P3, unhide O3⟩
  | true =>
   have kx := (unhide X3).S
   have kp := (unhide P3).S
   have kpf := (unhide P3).F
   by_cases hlt : tm2 < tm
   ·have dl : decide (tm2 < tm) = true := decide_eq_true hlt
    have EF := hide (apF_bad (unhide HR) (fun h => by omega))
    clear hlt
    go_wp2_with fail
    go_quiet (fail)
    go_wp2_with fail
    go_ret
    refine ⟨?_, bdN (unhide B3) _⟩
    rw [unhide EF]
    exact ⟨⟨x2, .inr (.inr rfl), rfl⟩, (unhide P3).below (bdN (Below.refl _ _) _), ((heldZ_of (unhide O3)).below (bdN (Below.refl _ _) _) (Nat.le_refl _)).own⟩
   ·have dl : decide (tm2 < tm) = false := decide_eq_false hlt
    have EF := hide (apF_ok (unhide HR) ⟨(unhide HR2).symm, by omega⟩)
    clear hlt
    go_wp2_with fail
    go_quiet (fail)
    go_wp2_with fail
    have D3 := bdN (Below.refl w3.heap.size w3) nq
    obtain ⟨wz, hvz, hFZ, hbz⟩ := put3 (w3.drewN nq) ((unhide P3).below D3) (.int .i64 tm2) (.int .i64 vt2) (.slice a2 n2 c2)
    rw [← hvz]
    go_ret
    refine ⟨?_, (bdN (unhide B3) _).trans (hbz.mono hbase)⟩
    rw [unhide EF]
    have hnp : (Value.slice a2 n2 c2).ownBlock ≠ some p := by
     rcases unhide HV2 with h | h
     ·rw [h]; exact hne
     ·exact own_ne (unhide N3) h (unhide P3)
    have N4 := ((heldZ_of (unhide N3)).below D3 (Nat.le_refl _)).own
    have hfz : ∀ k, k ≠ p → wz.heap[k]? = (w3.drewN nq).heap[k]? := fun k hk => by rw [hvz]; iterate 3 rw [Below.heap_setCell _ _ _ _ hk]
    refine ⟨rfl, _, hFZ, ?_⟩
    rw [unhide HL2]
    exact own_far N4 hfz hnp
end Go.Proofs.YtkdplhhkkpkmoaaDoor

/- The lesser and the greater of two numbers. -/
namespace Go.Proofs.YtkdplhhkkpkmoaaDoor
open Go.ChangeShapes Go.WideShapes Go.ChangeAt Go.RowKit
/-- The lesser of two numbers. -/
def mn (x y : Int) : Int := if y < x then y else x
theorem run_mn {P : Program} {w : World} (ts : Array TypeId) (t : TypeId) (k k' : IntKind) (x y : Int) : (Builtin.min_ ts t #[.int k x, .int k' y]).run P w = .ok (.int k (mn x y)) w := by
 simp [Builtin.min_, Builtin.min2, mn]
/-- The greater of two numbers. -/
def mx (x y : Int) : Int := if x < y then y else x
end Go.Proofs.YtkdplhhkkpkmoaaDoor

/- Stores: which are right, what a crash leaves. Plain mathematics. -/
namespace Go.Proofs.YtkdplhhkkpkmoaaDoor
open Go.ChangeShapes Go.WideShapes Go.ChangeAt Go.RowKit
def stoB (d : ByteArray) (s : Int) : Bool := decide (d.size ≤ 60000) && inB s 0 (d.size : Int)
/-- How many bytes a crash leaves. -/
def keptN (a : Nat) (s k : Int) : Nat := (s + mn (mx k 0) ((a : Int) - s)).toNat
def SyncIs (d : ByteArray) (s : Int) (d2 : ByteArray) (s2 c : Int) : Prop := (stoB d s = true ∧ d2 = d ∧ s2 = (d.size : Int) ∧ c = 0) ∨ (stoB d s = false ∧ d2 = ⟨#[]⟩ ∧ s2 = 0 ∧ c = 1)
def CrashIs (d : ByteArray) (s k : Int) (d2 : ByteArray) (s2 c : Int) : Prop := (stoB d s = true ∧ d2 = d.extract 0 (keptN d.size s k) ∧ s2 = (keptN d.size s k : Int) ∧ c = 0) ∨ (stoB d s = false ∧ d2 = ⟨#[]⟩ ∧ s2 = 0 ∧ c = 1)
end Go.Proofs.YtkdplhhkkpkmoaaDoor

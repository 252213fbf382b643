/- Texts put together: SrcO AppI FieldsI NumbersI NumT FldT EqE. -/
import Derived.Test.YtamjljhbnhdgdaaDoorZSrcR
import Derived.Test.YtamjljhbnhdgdaaDoorZG1
import Derived.Test.YtamjljhbnhdgdaaDoorZG14
import Derived.Lib.AppendStr
import Derived.Test.YtamjljhbnhdgdaaDoorZG16
import Derived.Test.YtamjljhbnhdgdaaDoorZG3
import Derived.BigQuiet
import Derived.WalkSmall
/- Drawn states out of a code: StateOf, LaterOf. -/
namespace Go.Proofs.YtamjljhbnhdgdaaDoor
open Go.ChangeShapes Go.WideShapes Go.ChangeAt Go.RowKit
set_option linter.unusedVariables false
set_option linter.unusedSimpArgs false
set_option maxHeartbeats 4000000 in
set_option maxRecDepth 100000 in
theorem slaterOf (a : Option Addr) (cap : Nat) (lc : List UInt8) (hl : lc.length ≤ 1048600) (tm0 vt0 : Int) (wa : Option Addr) (wc n0 : Nat) (l0 : List Ent) (HN : Hid (l0.length = n0)) (hn0 : n0 ≤ 40) (htm0 : 0 ≤ tm0 ∧ tm0 ≤ 500) (HL0 : Hid (logB tm0 1 l0 = true)) (w : World) (hr : Row8 w a lc) (hrow : RowV w wa (cE l0)) :
  Calls Tryd.prog 4 #[.slice a lc.length cap, .agg #[.int .i64 tm0, .int .i64 vt0, .slice wa n0 wc]] w fun e w' => ∃ (tm vt : Int) (va : Option Addr) (n vc : Nat) (l : List Ent), e = .returned (.agg #[.int .i64 tm, .int .i64 vt, .slice va n vc]) ∧ l.length = n ∧ n ≤ n0 + 2 ∧ (tm0 ≤ tm ∧ tm ≤ tm0 + 1) ∧ (-1 ≤ vt ∧ vt ≤ 2) ∧ logB tm 1 l = true ∧ Som va ∧ w'.ownsRow w.heap.size 62 2 (.slice va n vc) n (cE l) ∧ Below w.heap.size w w' := by
 obtain ⟨s0, hs0⟩ : ∃ s0 : Nat, s0 = lc.length % 1000 := ⟨_, rfl⟩
 have k1 : (lc.length : Int).tmod 1000 = (s0 : Int) := by rw [Int.tmod_eq_emod_of_nonneg (by omega)]; omega
 have k2 : (lc.length : Int) % 1000 = (s0 : Int) := by omega
 have hs1000 : s0 < 2147483648 := by omega
 have HR := hide hr
 have HRW := hide hrow
 have B0 := hide (Go.Joins.below_alloc2 w (.cells #[.int .i64 tm0, .int .i64 vt0, .slice wa n0 wc] 25) (.cells #[.int .i64 0, .int .i64 0, .slice none 0 0] 25))
 have Z0 := hide ((BF.new w #[.int .i64 tm0, .int .i64 vt0, .slice wa n0 wc] 25).alloc (.cells #[.int .i64 0, .int .i64 0, .slice none 0 0] 25))
 have R0 := BF.new (w.alloc (.cells #[.int .i64 tm0, .int .i64 vt0, .slice wa n0 wc] 25)) #[.int .i64 0, .int .i64 0, .slice none 0 0] 25
 rw [show (w.alloc (.cells #[.int .i64 tm0, .int .i64 vt0, .slice wa n0 wc] 25)).heap.size = w.heap.size + 1 from by simp] at R0
 have R0 := hide R0
 clear hr hrow hs0
 go_enter Tryd.func4, Tryd.ntmps4
 go_wp2_with fail
 refine wp_region_held_drew (S := fun w' => ∀ o, w'.cell? ⟨w.heap.size, o, none⟩ = (#[.int .i64 tm0, .int .i64 vt0, .slice wa n0 wc] : Array Value)[o]?) (by kernel_rfl) (unhide Z0).S (fun hHeld => ?_)
 have Z1 := hide (unhide Z0).drew
 have R1 := hide (unhide R0).drew
 have B1 := hide (unhide B0).drew
 clear Z0 R0 B0
 generalize ((w.alloc (.cells #[.int .i64 tm0, .int .i64 vt0, .slice wa n0 wc] 25)).alloc (.cells #[.int .i64 0, .int .i64 0, .slice none 0 0] 25)).drew = w1 at Z1 R1 B1 hHeld ⊢
 refine wtv 0 (oi := { dst := some 5, op := .move (.tmp 0), type := 22, pos := "l17_laws.go:39", after := #[], guard := none }) ?_
 refine wtv 2 (oi := { dst := some 7, op := .load 25 (.tmp 3), type := 25, pos := "l17_laws.go:39", after := #[], guard := none }) ?_
 refine wpAnyH_ready (rs := [1]) (by kernel_rfl) (by simp) ?_
 refine AllReadyH.cons (o := { dst := some 6, op := .call { callee := .value (.func 14), args := #[.tmp 5], argTypes := #[22] }, type := 45, pos := "l17_laws.go:39", after := #[{ on := 0, ground := .data }], guard := none }) rfl (fun K hK => ?_) AllReadyH.nil
 go_simp
 refine (ssource a cap lc s0 k1 k2 w1).mono ?_
 rintro e w2 ⟨rfl, hw2⟩
 have hlt1 : w.heap.size + 1 < w1.heap.size := (unhide R1).lt
 have A2 : Hid (SrcAt w2 w1.heap.size a cap lc 0 s0) := by show SrcAt _ _ _ _ _ _ _; rw [hw2]; exact arr_new w1 [.slice a lc.length cap, .int .i64 0, .int .i64 (s0 : Int)] _
 have hb2 : Below w1.heap.size w1 w2 := by rw [hw2]; exact Go.Joins.below_alloc1 w1 _
 have Z2 := hide ((unhide Z1).below hb2)
 have R2 := hide ((unhide R1).below hb2)
 have B2 := hide ((unhide B1).trans (hb2.mono (unhide B1).size))
 have hap : ApartOf a lc w1.heap.size := by
  rcases unhide HR with h | ⟨b, off, e, hb, _⟩
  ·exact .inl h
  ·refine .inr (fun x hx => ?_)
   rw [e] at hx; injection hx with hx; subst hx; show b ≠ _; omega
 obtain ⟨g, hg⟩ : ∃ g, g = w1.heap.size := ⟨_, rfl⟩
 rw [← hg] at A2 hap
 have HAP := hide hap
 have HGE : Hid (w.heap.size + 1 < g) := by show _ < _; omega
 have HGL : Hid (g < w2.heap.size) := by show _ < _; rw [hg, hw2]; simp
 clear hb2 hw2 hap Z1 R1 B1 hlt1
 rw [← hg]
 clear hg
 go_wp2_with fail
 refine hK.out _ _ ?_ (fun hHeld1 => ?_)
 ·exact (unhide Z2).S
 clear hK K
 try simp only [Act.put, qqA, qqB, qqC]
 refine wpAnyH_ready (rs := [3]) (by kernel_rfl) (by simp) ?_
 refine AllReadyH.cons (o := { dst := some 8, op := .call { callee := .value (.func 15), args := #[.tmp 6, .tmp 7], argTypes := #[45, 25] }, type := 25, pos := "l17_laws.go:39", after := #[{ on := 1, ground := .data }, { on := 2, ground := .data }, { on := 1, ground := .chain }], guard := none }) rfl (fun K hK => ?_) AllReadyH.nil
 go_simp
 refine (slaterD g a cap lc 0 s0 hl (by omega) hs1000 tm0 vt0 wa wc n0 l0 HN hn0 htm0 HL0 w2 (unhide A2) ((unhide HR).below (unhide B2)) (unhide HAP) ((unhide HRW).below (unhide B2))).mono ?_
 rintro e w3 ⟨tm, vt, va, n, vc, l, rfl, hl3, hn3, ht3, hv3, hlg3, hsm, ho3, hg3⟩
 have Z3 := hide ((unhide Z2).grown hg3 (fun e => by have := unhide HGE; have := Option.some.inj e; omega))
 have R3 := hide ((unhide R2).grown hg3 (fun e => by have := unhide HGE; have := Option.some.inj e; omega))
 have B3 := hide ((unhide B2).grown hg3 (unhide B2).size (fun k hk => by have := unhide HGE; have := Option.some.inj hk; omega))
 have O3 := hide ho3
 have HF := hide (And.intro hl3 (And.intro hn3 (And.intro ht3 (And.intro hv3 hlg3))))
 have HSM := hide hsm
 have HR2L : Hid (w.heap.size + 1 < w2.heap.size) := (unhide R2).lt
 clear hl3 hn3 ht3 hv3 hlg3 hsm ho3 hg3 Z2 R2 B2
 go_wp2_with fail
 refine hK.out _ _ ?_ (fun hHeld3 => ?_)
 ·exact (unhide Z3).S
 clear hK K
 try simp only [Act.put, qqA, qqB, qqC]
 refine wpAnyH_ready (rs := [4]) (by kernel_rfl) (by simp) ?_
 refine AllReadyH.cons (o := { dst := none, op := .store 25 (.tmp 4) (.tmp 8), type := 0, pos := "l17_laws.go:39", after := #[{ on := 3, ground := .data }, { on := 3, ground := .chain }, { on := 0, ground := .phase }, { on := 1, ground := .phase }, { on := 2, ground := .phase }, { on := 3, ground := .phase }], guard := none }) rfl (fun K hK => ?_) AllReadyH.nil
 have kr := (unhide R3).S
 have krf := (unhide R3).F
 have Z4 := hide ((((unhide Z3).far ⟨w.heap.size + 1, 0, none⟩ (.int .i64 tm) (by show w.heap.size + 1 ≠ _; omega)).far ⟨w.heap.size + 1, 1, none⟩ (.int .i64 vt) (by show w.heap.size + 1 ≠ _; omega)).far ⟨w.heap.size + 1, 2, none⟩ (.slice va n vc) (by show w.heap.size + 1 ≠ _; omega))
 go_simp
 refine hK.out _ _ ?_ (fun hHeld4 => ?_)
 ·exact (unhide Z4).S
 clear hK K
 try simp only [Act.put, qqA, qqB, qqC]
 refine wpAnyH_done (by kernel_rfl) ?_ _
 go_wp2_with fail
 obtain ⟨h1, h2, h3, h4, h5⟩ := unhide HF
 refine bodyPost_ret (v := .agg #[.int .i64 tm, .int .i64 vt, .slice va n vc]) (by simp [results, Tryd.results4, go_sem, kr]) rfl ⟨tm, vt, va, n, vc, l, rfl, h1, h2, h3, h4, h5, unhide HSM, ?_, ?_⟩
 ·refine Go.Joins.ownsRow_le (base := w2.heap.size) ?_ (by have := unhide HR2L; omega)
  iterate 3 refine ownsRow_setCell_below ?_ (by exact unhide HR2L) _
  exact unhide O3
 ·iterate 3 refine Below.setCell ?_ (by exact Nat.le_succ _) _
  exact unhide B3
end Go.Proofs.YtamjljhbnhdgdaaDoor

/- appendNumber: the bytes of a number behind a row. -/
namespace Go.Proofs.YtamjljhbnhdgdaaDoor
open Go.ChangeShapes Go.WideShapes Go.ChangeAt Go.RowKit
theorem Tryd.infN5 : (Tryd.prog.info? 5).map (fun i => (i.zero, i.size, i.bytes)) = some (some (.int .u8 0), 1, 1) := by kernel_rfl
set_option maxHeartbeats 400000 in
set_option maxRecDepth 100000 in
/-- appendNumber: the bytes of a number behind a row that the call owns. -/
theorem iappend (base : Nat) (v : Value) (l : List UInt8) (n size : Nat) (_hn : n < 4294967296) (hs : size ≤ 4) (hl : l.length ≤ 4000000) (w : World) (h : w.ownsRow base 5 1 v l.length (B8 l)) (hb : base ≤ w.heap.size) :
  Calls Tryd.prog 48 #[v, .int .i64 (n : Int), .int .i64 (size : Int)] w fun e w' => ∃ v', e = .returned v' ∧ w'.ownsRow base 5 1 v' (l ++ be n size).length (B8 (l ++ be n size)) ∧ Below base w w' := by
 obtain ⟨i0, hi, hz0, hz1, hz2⟩ := info_parts Tryd.infN5
 have HH := hide h
 clear h
 go_enter Tryd.func48, Tryd.ntmps48
 go_wp2_with fail
 go_loopw [0, 7] (fun v i wr => ∃ (b : Nat) (m : List UInt8), b ≤ size ∧ i = .int .i64 ((b : Int) - 1) ∧ Hid (m ++ be n b = l ++ be n size) ∧ m.length + b ≤ 4000004 ∧ Hid (wr.ownsRow base 5 1 v m.length (B8 m)) ∧ Hid (Below base w wr)) (fun _ i _ => (intOf i + 1).toNat)
 case atStart => exact ⟨size, l, Nat.le_refl _, by go_num, rfl, by omega, HH, Below.refl _ _⟩
 case round =>
  clear HH
  obtain ⟨b, m, hbs, rfl, HM, hm, HO, HB⟩ := hrel
  by_cases hb0 : b = 0
  ·subst hb0
   have HV : Hid (l ++ be n size = m) := by show _ = _; have := unhide HM; simpa [be] using this.symm
   go_wp2_with fail
   go_ret
   exact ⟨_, rfl, by rw [unhide HV]; exact unhide HO, unhide HB⟩
  ·obtain ⟨k, rfl⟩ : ∃ k, b = k + 1 := ⟨b - 1, by omega⟩
   have hk : (k : Int) ≤ 3 := by omega
   have hv := nb_val n k
   have hown := unhide HO
   have hz := (unhide HB).size
   clear HO
   go_wp2_with (at_builtin; refine wpList_append_lies _ rfl (.tmp 14) (.tmp 20) 22 rfl base 5 i0 (.int .u8 0) 1 1 Tryd.underlying22 hi hz0 hz1 hz2 rfl (by decide) _ _ _ rfl (hown.alloc _) ⟨wr.heap.size, 0, none⟩ 1 1 (B8 [nb n k]) rfl rfl (by exact news_new wr (B8 [nb n k]) 5) (B8_one _) (by decide) (by unfold maxLen; omega) (by omega) (by simp; omega) _ rfl ?_; intro g2 c2 w2 hown2 hgrow2 hat2 hlt2; have HB2 := hide (below_app (unhide HB) (by omega) hown (Nat.le_refl _) hgrow2); have HO2 : Hid (w2.ownsRow base 5 1 (.slice (some ⟨g2, 0, none⟩) (m.length + 1) c2) (m ++ [nb n k]).length (B8 (m ++ [nb n k]))) := own_app hown2 rfl; clear hown2 hgrow2 hat2 hlt2 hown HB hv)
   go_roundw
   case rel => exact ⟨k, m ++ [nb n k], by omega, by go_num, by show _ = _; rw [← unhide HM]; simp [be], by rw [List.length_append]; simp; omega, HO2, HB2⟩
   case measure => simp [intOf]
end Go.Proofs.YtamjljhbnhdgdaaDoor

/- FieldsBytes: what the program answers at every list of texts. -/
namespace Go.Proofs.YtamjljhbnhdgdaaDoor
open Go.ChangeShapes Go.WideShapes Go.ChangeAt Go.RowKit
end Go.Proofs.YtamjljhbnhdgdaaDoor

/- NumbersBytes: what the program answers at every list. -/
namespace Go.Proofs.YtamjljhbnhdgdaaDoor
open Go.ChangeShapes Go.WideShapes Go.ChangeAt Go.RowKit
end Go.Proofs.YtamjljhbnhdgdaaDoor

/- numbersText: what the program answers. -/
namespace Go.Proofs.YtamjljhbnhdgdaaDoor
open Go.ChangeShapes Go.WideShapes Go.ChangeAt Go.RowKit
set_option linter.unusedVariables false
end Go.Proofs.YtamjljhbnhdgdaaDoor

/- fieldsText: what the program answers. -/
namespace Go.Proofs.YtamjljhbnhdgdaaDoor
open Go.ChangeShapes Go.WideShapes Go.ChangeAt Go.RowKit
set_option linter.unusedVariables false
end Go.Proofs.YtamjljhbnhdgdaaDoor

/- Entries compared. -/
namespace Go.Proofs.YtamjljhbnhdgdaaDoor
open Go.ChangeShapes Go.WideShapes Go.ChangeAt Go.RowKit
def entEq (t u : Int) (d e : ByteArray) : Bool := decide (t = u ∧ d = e)
theorem list_text {a b : ByteArray} (h : a.toList = b.toList) : a = b := by
 rw [ByteArray.toList_eq, ByteArray.toList_eq] at h
 obtain ⟨⟨x⟩⟩ := a
 obtain ⟨⟨y⟩⟩ := b
 simp at h; rw [h]
set_option maxRecDepth 100000 in
theorem run_eqEnt (w : World) (t u : Int) (d e : ByteArray) : (binOp .eql 62 (.agg #[.int .i64 t, .string d]) (.agg #[.int .i64 u, .string e])).run Tryd.prog w = .ok (.bool (entEq t u d e)) w := by
 by_cases h : t = u
 ·subst h
  by_cases h2 : d = e
  ·subst h2
   have hh : entEq t t d d = true := decide_eq_true ⟨rfl, rfl⟩
   rw [hh]
   go_simp
  ·have hh : entEq t t d e = false := decide_eq_false fun hx => h2 hx.2
   have hl : (d.toList == e.toList) = false := by rw [beq_eq_false_iff_ne]; exact fun hx => h2 (list_text hx)
   rw [hh]
   go_simp
 ·have hh : entEq t u d e = false := decide_eq_false fun hx => h hx.1
  have hl : (t == u) = false := by rw [beq_eq_false_iff_ne]; exact h
  rw [hh]
  go_simp
set_option maxRecDepth 100000 in
theorem run_neEnt (w : World) (t u : Int) (d e : ByteArray) : (binOp .neq 62 (.agg #[.int .i64 t, .string d]) (.agg #[.int .i64 u, .string e])).run Tryd.prog w = .ok (.bool (!(entEq t u d e))) w := by
 by_cases h : t = u
 ·subst h
  by_cases h2 : d = e
  ·subst h2
   have hh : entEq t t d d = true := decide_eq_true ⟨rfl, rfl⟩
   rw [hh]
   go_simp
  ·have hh : entEq t t d e = false := decide_eq_false fun hx => h2 hx.2
   have hl : (d.toList == e.toList) = false := by rw [beq_eq_false_iff_ne]; exact fun hx => h2 (list_text hx)
   rw [hh]
   go_simp
 ·have hh : entEq t u d e = false := decide_eq_false fun hx => h hx.1
  have hl : (t == u) = false := by rw [beq_eq_false_iff_ne]; exact h
  rw [hh]
  go_simp
theorem ent_cmp {l m : List Ent} {k : Nat} {h1 : k < l.length} {h2 : k < m.length} {t u : Int} {d e : ByteArray} (a1 : t = l[k].1) (a2 : d = l[k].2) (b1 : u = m[k].1) (b2 : e = m[k].2) : (entEq t u d e = true → l[k] = m[k]) ∧ (entEq t u d e = false → l[k] ≠ m[k]) :=
 ⟨fun h => Prod.ext (by rw [← a1, ← b1]; exact (of_decide_eq_true h).1) (by rw [← a2, ← b2]; exact (of_decide_eq_true h).2), fun h hh => of_decide_eq_false h ⟨by rw [a1, b1, hh], by rw [a2, b2, hh]⟩⟩
end Go.Proofs.YtamjljhbnhdgdaaDoor

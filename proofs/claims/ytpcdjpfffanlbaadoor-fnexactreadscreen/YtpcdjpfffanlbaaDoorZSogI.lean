/- impl.screenOf of fields that hold numbers and a history. -/
import Derived.Test.YtpcdjpfffanlbaaDoorZSofI
import Derived.Test.YtpcdjpfffanlbaaDoorZSogM
import Derived.Test.YtpcdjpfffanlbaaDoorZG5
import Derived.Deep.Cut
import Derived.Deep.MidRow
import Derived.Laws.ResultCell
namespace Go.Proofs.YtpcdjpfffanlbaaDoor
open Go.ChangeShapes Go.WideShapes Go.ChangeAt Go.RowKit
set_option linter.unusedVariables false
abbrev oSogI0 : Oper := { dst := some 88, op := .load 23 (.tmp 87), type := 23, pos := "l04_screen.go:489", after := #[{ on := 0, ground := .data }], guard := none }
abbrev oSogI1 : Oper := { dst := some 90, op := .convert 9 22 (.tmp 89), type := 22, pos := "l04_screen.go:489", after := #[{ on := 2, ground := .data }], guard := none }
abbrev oSogI2 : Oper := { dst := some 91, op := .call { callee := .value (.func 30), args := #[.tmp 90], argTypes := #[22] }, type := 23, pos := "l04_screen.go:489", after := #[{ on := 3, ground := .data }], guard := none }
abbrev oSogI3 : Oper := { dst := some 92, op := .call { callee := .builtin Go.Builtin.append, args := #[.tmp 88, .tmp 91], argTypes := #[23, 23] }, type := 23, pos := "l04_screen.go:489", after := #[{ on := 1, ground := .data }, { on := 4, ground := .data }, { on := 4, ground := .chain }], guard := none }
abbrev oSogI4 : Oper := { dst := some 93, op := .fieldAddr 26 (.tmp 7) 10, type := 0, pos := "l04_screen.go:489", after := #[{ on := 0, ground := .phase }, { on := 1, ground := .phase }, { on := 2, ground := .phase }, { on := 3, ground := .phase }, { on := 4, ground := .phase }, { on := 5, ground := .phase }], guard := none }
abbrev oSogI5 : Oper := { dst := none, op := .store 23 (.tmp 93) (.tmp 92), type := 0, pos := "l04_screen.go:489", after := #[{ on := 6, ground := .data }, { on := 5, ground := .data }, { on := 5, ground := .chain }, { on := 0, ground := .phase }, { on := 1, ground := .phase }, { on := 2, ground := .phase }, { on := 3, ground := .phase }, { on := 4, ground := .phase }, { on := 5, ground := .phase }], guard := none }
theorem own_atN {w : World} {base : Nat} {e : TypeId} {z : Nat} {a : Option Addr} {n cap : Nat} {xs : List Value} (h : w.ownsRow base e z (.slice a n cap) n xs) (hn : 0 < n) : ∃ g, a = some ⟨g, 0, none⟩ := by
 rcases h.2 with ⟨e, e2⟩ | ⟨g, cap, cur, e, _⟩
 ·omega
 ·cases e; exact ⟨_, rfl⟩
theorem own_cellN {w : World} {base g : Nat} {e : TypeId} {z n cap : Nat} {xs : List Value} (h : w.ownsRow base e z (.slice (some ⟨g, 0, none⟩) n cap) n xs) (i : Nat) (u : Value) (hu : xs[i]? = some u) : w.cell? ⟨g, i, none⟩ = some u := by
 have h2 := World.ownsRow.cells h rfl i u hu
 cases i with
 | zero => exact h2
 | succ j => simpa [Addr.add] using h2
theorem held_setFar {w : World} {lo hi P : Nat} {e : TypeId} {v : Value} {n : Nat} {xs : List Value} (h : Held w lo hi e v n xs) (hP : hi ≤ P) (o : Nat) (u : Value) : Held (w.setCell ⟨P, o, none⟩ u) lo hi e v n xs :=
 h.below ((Below.refl P w).setCell (p := ⟨P, o, none⟩) (Nat.le_refl _) u) hP
set_option maxHeartbeats 2000000 in
theorem icellsR (b cap : Nat) (s : ByteArray) (nc : Nat) (HSZ : Hid (s.size = 4 * nc)) (hcap : s.size ≤ cap) (w : World) (hr : RowV w (some ⟨b, 0, none⟩) (B8 s.data.toList)) (hs : s.size ≤ 20000) :
  Calls Tryd.prog 30 #[.slice (some ⟨b, 0, none⟩) s.size cap] w fun e w' => ∃ v, e = .returned v ∧ w'.ownsRow w.heap.size 53 2 v nc (cP (cells4 s.data.toList nc)) ∧ Below w.heap.size w w' := by
 have hm := unhide HSZ
 by_cases h0 : s.size = 0
 ·obtain rfl : nc = 0 := by omega
  rw [h0]
  have B0 := hide (Below.refl w.heap.size w)
  clear hr hm HSZ hs hcap h0
  go_enter Tryd.func30, Tryd.ntmps30
  go_wp2_with fail
  go_loopw [3, 4] (fun l0 i wr => i = .int .i64 0 ∧ l0 = .slice none 0 0 ∧ wr = w) (fun _ _ _ => 0)
  case atStart => exact ⟨rfl, rfl, rfl⟩
  case round =>
   obtain ⟨rfl, rfl, rfl⟩ := hrel
   go_wp2_with fail
   go_ret
   exact ⟨_, rfl, World.ownsRow_nil _ _ _ _, unhide B0⟩
 ·obtain ⟨b', off', ha, hb, hc⟩ := hr.at (by rw [B8_len, sizeT]; omega)
  injection ha with ha
  injection ha with e1 e2 _
  subst e1 e2
  exact icellsOf b 0 cap nc s.size s.data.toList (sizeT s) hm (by omega) hcap w hb (fun i h => hc i _ (by unfold B8; rw [List.getElem?_map, List.getElem?_eq_getElem h]; rfl))
/-- How screenOf ends where the fields hold nine numbers and a history. -/
def SfPost (w : World) (i0 i1 i2 i3 i4 i5 i6 i7 i8 : Int) (t : ByteArray) (m rs : List ByteArray) (nc : Nat) (e : Ending) (w' : World) : Prop :=
 (∃ (a2 : Option Addr) (c2 : Nat) (a4 : Option Addr) (c4 mh lo hi : Nat), e = .returned (.tuple #[.agg #[.int .i64 i0, .int .i64 i1, .int .i64 i2, .int .i64 i3, .int .i64 i4, .int .i64 i5, .int .i64 i6, .int .i64 i7, .int .i64 i8, .string t, .slice a2 (rs.length * nc) c2, .slice a4 mh c4], .bool true]) ∧ mh = m.length ∧ (∀ s ∈ rs, (s.size : Int) = i0 * 4) ∧ w'.ownsRow w.heap.size 53 2 (.slice a2 (rs.length * nc) c2) (rs.length * nc) (cP (rowsC nc rs)) ∧ Held w' lo hi 9 (.slice a4 mh c4) mh (cS m) ∧ w.heap.size + 1 ≤ lo ∧ (∀ j, (Value.slice a2 (rs.length * nc) c2).ownBlock = some j → hi ≤ j) ∧ Below w.heap.size w w') ∨ (e = .returned (.tuple #[.agg #[.int .i64 0, .int .i64 0, .int .i64 0, .int .i64 0, .int .i64 0, .int .i64 0, .int .i64 0, .int .i64 0, .int .i64 0, .string ⟨#[]⟩, .slice none 0 0, .slice none 0 0], .bool false]) ∧ (∃ s ∈ rs, ¬ (s.size : Int) = i0 * 4) ∧ Below w.heap.size w w')
set_option maxHeartbeats 16000000 in
set_option maxRecDepth 100000 in
theorem isof_go (g cap rr : Nat) (hr60 : rr + 3 ≤ 60) (d t f : ByteArray) (rs : List ByteArray) (HRL : Hid (rs.length = rr)) (HRZ : Hid (∀ k (h : k < rs.length), rs[k].size ≤ 20000)) (h27 : d.size = 27) (hf : f.size ≤ 20000) (m : List ByteArray) (hm : rfOf f.data.toList = some m) (i0 i1 i2 i3 i4 i5 i6 i7 i8 : Int) (hx : numsR d.data.toList 9 = [i0, i1, i2, i3, i4, i5, i6, i7, i8]) (hi0 : -1 ≤ i0 ∧ i0 ≤ 16777214) (nc : Nat) (HNC : Hid (nc = i0.toNat)) (hcap : rr + 3 ≤ cap) (w : World) (hr : ∀ i u, (cS (d :: t :: f :: rs))[i]? = some u → w.cell? ⟨g, i, none⟩ = some u) (hg : g < w.heap.size) (hE : ErrsIn w) :
  Calls Tryd.prog 14 #[.slice (some ⟨g, 0, none⟩) (rr + 3) cap] w (SfPost w i0 i1 i2 i3 i4 i5 i6 i7 i8 t m rs nc) := by
 obtain ⟨i0z, hi, hz0, hz1, hz2⟩ := info_parts Tryd.infC53
 have HB := hide (Go.Joins.below_alloc1 w (Obj.cells #[.int .i64 0, .int .i64 0, .int .i64 0, .int .i64 0, .int .i64 0, .int .i64 0, .int .i64 0, .int .i64 0, .int .i64 0, .string ⟨#[]⟩, .slice none 0 0, .slice none 0 0] 26))
 have RS := hide (BF.new w #[.int .i64 0, .int .i64 0, .int .i64 0, .int .i64 0, .int .i64 0, .int .i64 0, .int .i64 0, .int .i64 0, .int .i64 0, .string ⟨#[]⟩, .slice none 0 0, .slice none 0 0] 26)
 have c0 : (w.alloc (Obj.cells #[.int .i64 0, .int .i64 0, .int .i64 0, .int .i64 0, .int .i64 0, .int .i64 0, .int .i64 0, .int .i64 0, .int .i64 0, .string ⟨#[]⟩, .slice none 0 0, .slice none 0 0] 26)).cell? ⟨g, 0, none⟩ = some (.string d) := ((unhide HB).cell (p := ⟨g, 0, none⟩) hg).trans (hr 0 _ rfl)
 have C1 := hide (show w.cell? ⟨g, 1, none⟩ = some (.string t) from hr 1 _ rfl)
 have C2 := hide (show w.cell? ⟨g, 2, none⟩ = some (.string f) from hr 2 _ rfl)
 have HC : Hid (∀ k (h : k < rs.length), w.cell? ⟨g, 3 + k, none⟩ = some (.string rs[k])) := fun k h => hr (3 + k) _ (by rw [Nat.add_comm 3 k]; unfold cS; simp only [List.map_cons, List.getElem?_cons_succ]; rw [List.getElem?_map, List.getElem?_eq_getElem h]; rfl)
 have HG := hide hg
 have H60 := hide hr60
 obtain ⟨M, hM⟩ : ∃ M, i0 * 4 = M := ⟨_, rfl⟩
 have HM := hide hM
 have m0 : -4 ≤ M := by omega
 have m1 : M ≤ 67108856 := by omega
 have HNC2 : Hid ((nc : Int) = i0 ∨ i0 = -1) := by show _ ∨ _; have := unhide HNC; omega
 have hlen : d.data.toList.length = d.size := sizeT d
 have hlenf : f.data.toList.length = f.size := sizeT f
 obtain ⟨w1, q, q1, q2, q3, q4⟩ := to_bytesS (w.alloc (Obj.cells #[.int .i64 0, .int .i64 0, .int .i64 0, .int .i64 0, .int .i64 0, .int .i64 0, .int .i64 0, .int .i64 0, .int .i64 0, .string ⟨#[]⟩, .slice none 0 0, .slice none 0 0] 26)) d
 have hrn : [i0, i1, i2, i3, i4, i5, i6, i7, i8] = rnL d.data.toList := by rw [(rn_ok (l := d.data.toList) (by omega) (by omega) (by omega)).1, hlen, h27]; exact hx.symm
 have hy := (rn27 d (by omega)).2 h27
 have T := ireadnumsH _ q d.data.toList _ 0 hrn hy.1.symm (by omega) (by omega) w1 q2
 rw [hlen] at T
 change Calls _ _ _ _ (fun e w' => ∃ v, _ ∧ World.ownsRow _ _ _ _ v 9 _ ∧ _) at T
 have HT := hide T
 have HB1 := hide ((unhide HB).trans (q4.mono (unhide HB).size))
 have RS1 := hide ((unhide RS).below q4)
 have n3 : ¬ ((rr : Int) + 3) < 3 := by omega
 have n0 : (0 : Int) < (rr : Int) + 3 := by omega
 have n1 : (1 : Int) < (rr : Int) + 3 := by omega
 have n2 : (2 : Int) < (rr : Int) + 3 := by omega
 have hsz : (w.alloc (Obj.cells #[.int .i64 0, .int .i64 0, .int .i64 0, .int .i64 0, .int .i64 0, .int .i64 0, .int .i64 0, .int .i64 0, .int .i64 0, .string ⟨#[]⟩, .slice none 0 0, .slice none 0 0] 26)).heap.size = w.heap.size + 1 := by simp
 have HE := hide hE
 have HLF := hide hlenf
 have HMF := hide hm
 rw [hsz] at q1 HT
 clear T hlen q2 q3 q4 HB RS hsz hE hlenf hm hy h27 hx hrn hr hM hi0 hr60
 go_enter Tryd.func14, Tryd.ntmps14
 go_wp2_with fail
 refine (unhide HT).mono ?_
 rintro e w2 ⟨v2, rfl, o2, hb2⟩
 obtain ⟨a2, c2, rfl, -⟩ := own_rowV o2
 obtain ⟨gn, rfl⟩ := own_atN o2 (by omega)
 have HB2 := hide ((unhide HB1).trans (hb2.mono (unhide HB1).size))
 have RS2 := hide ((unhide RS1).below hb2)
 have O2 := hide (held_of o2)
 have k2 : w2.cell? ⟨g, 2, none⟩ = some (.string f) := ((unhide HB2).cell (p := ⟨g, 2, none⟩) hg).trans (unhide C2)
 obtain ⟨w3, q', p1, p2, p3, p4⟩ := to_bytesS w2 f
 have HB3 := hide ((unhide HB2).trans (p4.mono (unhide HB2).size))
 have RS3 := hide ((unhide RS2).below p4)
 have O3 := hide ((unhide O2).below p4 (Nat.le_refl _))
 have e3 : rfC f.data.toList = 0 := by unfold rfC; rw [if_neg (by rw [unhide HLF]; omega), unhide HMF]; rfl
 have e4 : m = rfL f.data.toList := by unfold rfL; rw [if_neg (by rw [unhide HLF]; omega), unhide HMF]; rfl
 obtain ⟨mh, hmh⟩ : ∃ mh, mh = m.length := ⟨_, rfl⟩
 have HMH := hide hmh
 have T3 := ireadfieldsH _ q' f.data.toList m 0 e4 e3.symm (by rw [unhide HLF]; omega) (by rw [unhide HLF]; exact p3) w3 p2 ((unhide HE).below (unhide HB3))
 rw [unhide HLF, ← hmh] at T3
 have HT3 := hide T3
 clear o2 hb2 HT q1 c0 HB1 RS1 T3 e3 e4 p2 p3 p4 HB2 RS2 hmh
 go_wp2_with fail
 refine (unhide HT3).mono ?_
 rintro e w4 ⟨v4, rfl, o4, hb4⟩
 obtain ⟨a4, c4, rfl, -⟩ := own_rowV o4
 have HB4 := hide ((unhide HB3).trans (hb4.mono (unhide HB3).size))
 have RS4 := hide ((unhide RS3).below hb4)
 have O4 := hide ((unhide O3).below hb4 (unhide O3).le)
 obtain ⟨loH, hiH, eloH, ehiH⟩ : ∃ lo hi, lo = w3.heap.size ∧ hi = w4.heap.size := ⟨_, _, rfl, rfl⟩
 have HH4 := hide (held_of o4)
 rw [← eloH, ← ehiH] at HH4
 have HLO : Hid (w.heap.size + 1 ≤ loH) := by have := (unhide RS3).lt; show _ ≤ _; omega
 have oc := (unhide O4).own
 have k4 : w4.cell? ⟨gn, 0, none⟩ = some (.int .i64 i0) ∧ w4.cell? ⟨gn, 1, none⟩ = some (.int .i64 i1) ∧ w4.cell? ⟨gn, 2, none⟩ = some (.int .i64 i2) ∧ w4.cell? ⟨gn, 3, none⟩ = some (.int .i64 i3) ∧ w4.cell? ⟨gn, 4, none⟩ = some (.int .i64 i4) ∧ w4.cell? ⟨gn, 5, none⟩ = some (.int .i64 i5) ∧ w4.cell? ⟨gn, 6, none⟩ = some (.int .i64 i6) ∧ w4.cell? ⟨gn, 7, none⟩ = some (.int .i64 i7) ∧ w4.cell? ⟨gn, 8, none⟩ = some (.int .i64 i8) ∧ w4.cell? ⟨g, 1, none⟩ = some (.string t) := ⟨own_cellN oc 0 _ rfl, own_cellN oc 1 _ rfl, own_cellN oc 2 _ rfl, own_cellN oc 3 _ rfl, own_cellN oc 4 _ rfl, own_cellN oc 5 _ rfl, own_cellN oc 6 _ rfl, own_cellN oc 7 _ rfl, own_cellN oc 8 _ rfl, ((unhide HB4).cell (p := ⟨g, 1, none⟩) hg).trans (unhide C1)⟩
 have hgn4 : gn < w4.heap.size := (oc.lt gn rfl).2
 have hgg4 : g < w4.heap.size := Nat.lt_of_lt_of_le hg (unhide HB4).size
 clear o4 hb4 HT3 p1 k2 HB3 RS3 oc O4 O3 eloH ehiH
 go_wp2_with fail
 refine wp_region_held_drew (S := fun w' => w'.cell? ⟨gn, 0, none⟩ = some (.int .i64 i0) ∧ w'.cell? ⟨gn, 1, none⟩ = some (.int .i64 i1) ∧ w'.cell? ⟨gn, 2, none⟩ = some (.int .i64 i2) ∧ w'.cell? ⟨gn, 3, none⟩ = some (.int .i64 i3) ∧ w'.cell? ⟨gn, 4, none⟩ = some (.int .i64 i4) ∧ w'.cell? ⟨gn, 5, none⟩ = some (.int .i64 i5) ∧ w'.cell? ⟨gn, 6, none⟩ = some (.int .i64 i6) ∧ w'.cell? ⟨gn, 7, none⟩ = some (.int .i64 i7) ∧ w'.cell? ⟨gn, 8, none⟩ = some (.int .i64 i8) ∧ w'.cell? ⟨g, 1, none⟩ = some (.string t)) (by kernel_rfl) k4 (fun hHeld => ?_)
 have B5 := hide ((unhide HB4).drew)
 have Y5 := hide ((unhide RS4).drew)
 have H5 := hide ((unhide HH4).below (Below.refl _ _).drew (unhide HH4).le)
 have k5 : w4.drew.cell? ⟨gn, 0, none⟩ = some (.int .i64 i0) ∧ w4.drew.cell? ⟨gn, 1, none⟩ = some (.int .i64 i1) ∧ w4.drew.cell? ⟨gn, 2, none⟩ = some (.int .i64 i2) ∧ w4.drew.cell? ⟨gn, 3, none⟩ = some (.int .i64 i3) ∧ w4.drew.cell? ⟨gn, 4, none⟩ = some (.int .i64 i4) ∧ w4.drew.cell? ⟨gn, 5, none⟩ = some (.int .i64 i5) ∧ w4.drew.cell? ⟨gn, 6, none⟩ = some (.int .i64 i6) ∧ w4.drew.cell? ⟨gn, 7, none⟩ = some (.int .i64 i7) ∧ w4.drew.cell? ⟨gn, 8, none⟩ = some (.int .i64 i8) ∧ w4.drew.cell? ⟨g, 1, none⟩ = some (.string t) := k4
 have hsz5 : w4.heap.size ≤ w4.drew.heap.size := (Below.refl w4.heap.size w4).drew.size
 have hgn : gn < w4.drew.heap.size := Nat.lt_of_lt_of_le hgn4 hsz5
 have hgg : g < w4.drew.heap.size := Nat.lt_of_lt_of_le hgg4 hsz5
 clear HB4 RS4 HH4 k4 hsz5
 generalize w4.drew = w5 at B5 Y5 H5 k5 hgn hgg hHeld ⊢
 refine wtv 0 (oi := { dst := some 41, op := .move (.tmp 4), type := 47, pos := "l04_screen.go:481", after := #[], guard := none }) ?_
 refine wtv 1 (oi := { dst := some 42, op := .indexAddr 47 (.tmp 41) (.const (.int .i64 0)), type := 0, pos := "l04_screen.go:481", after := #[{ on := 0, ground := .data }], guard := none }) ?_
 refine wtv 2 (oi := { dst := some 43, op := .load 3 (.tmp 42), type := 3, pos := "l04_screen.go:481", after := #[{ on := 1, ground := .data }], guard := none }) ?_
 refine wtv 3 (oi := { dst := some 44, op := .move (.tmp 4), type := 47, pos := "l04_screen.go:481", after := #[], guard := none }) ?_
 refine wtv 4 (oi := { dst := some 45, op := .indexAddr 47 (.tmp 44) (.const (.int .i64 1)), type := 0, pos := "l04_screen.go:481", after := #[{ on := 3, ground := .data }], guard := none }) ?_
 refine wtv 5 (oi := { dst := some 46, op := .load 3 (.tmp 45), type := 3, pos := "l04_screen.go:481", after := #[{ on := 4, ground := .data }], guard := none }) ?_
 refine wtv 6 (oi := { dst := some 47, op := .move (.tmp 4), type := 47, pos := "l04_screen.go:481", after := #[], guard := none }) ?_
 refine wtv 7 (oi := { dst := some 48, op := .indexAddr 47 (.tmp 47) (.const (.int .i64 2)), type := 0, pos := "l04_screen.go:481", after := #[{ on := 6, ground := .data }], guard := none }) ?_
 refine wtv 8 (oi := { dst := some 49, op := .load 3 (.tmp 48), type := 3, pos := "l04_screen.go:481", after := #[{ on := 7, ground := .data }], guard := none }) ?_
 refine wtv 9 (oi := { dst := some 50, op := .move (.tmp 4), type := 47, pos := "l04_screen.go:481", after := #[], guard := none }) ?_
 refine wtv 10 (oi := { dst := some 51, op := .indexAddr 47 (.tmp 50) (.const (.int .i64 3)), type := 0, pos := "l04_screen.go:481", after := #[{ on := 9, ground := .data }], guard := none }) ?_
 refine wtv 11 (oi := { dst := some 52, op := .load 3 (.tmp 51), type := 3, pos := "l04_screen.go:481", after := #[{ on := 10, ground := .data }], guard := none }) ?_
 refine wtv 12 (oi := { dst := some 53, op := .move (.tmp 4), type := 47, pos := "l04_screen.go:481", after := #[], guard := none }) ?_
 refine wtv 13 (oi := { dst := some 54, op := .indexAddr 47 (.tmp 53) (.const (.int .i64 4)), type := 0, pos := "l04_screen.go:481", after := #[{ on := 12, ground := .data }], guard := none }) ?_
 refine wtv 14 (oi := { dst := some 55, op := .load 3 (.tmp 54), type := 3, pos := "l04_screen.go:481", after := #[{ on := 13, ground := .data }], guard := none }) ?_
 refine wtv 15 (oi := { dst := some 56, op := .move (.tmp 4), type := 47, pos := "l04_screen.go:481", after := #[], guard := none }) ?_
 refine wtv 16 (oi := { dst := some 57, op := .indexAddr 47 (.tmp 56) (.const (.int .i64 5)), type := 0, pos := "l04_screen.go:481", after := #[{ on := 15, ground := .data }], guard := none }) ?_
 refine wtv 17 (oi := { dst := some 58, op := .load 3 (.tmp 57), type := 3, pos := "l04_screen.go:481", after := #[{ on := 16, ground := .data }], guard := none }) ?_
 refine wtv 18 (oi := { dst := some 59, op := .move (.tmp 4), type := 47, pos := "l04_screen.go:481", after := #[], guard := none }) ?_
 refine wtv 19 (oi := { dst := some 60, op := .indexAddr 47 (.tmp 59) (.const (.int .i64 6)), type := 0, pos := "l04_screen.go:481", after := #[{ on := 18, ground := .data }], guard := none }) ?_
 refine wtv 20 (oi := { dst := some 61, op := .load 3 (.tmp 60), type := 3, pos := "l04_screen.go:481", after := #[{ on := 19, ground := .data }], guard := none }) ?_
 refine wtv 21 (oi := { dst := some 62, op := .move (.tmp 4), type := 47, pos := "l04_screen.go:481", after := #[], guard := none }) ?_
 refine wtv 22 (oi := { dst := some 63, op := .indexAddr 47 (.tmp 62) (.const (.int .i64 7)), type := 0, pos := "l04_screen.go:481", after := #[{ on := 21, ground := .data }], guard := none }) ?_
 refine wtv 23 (oi := { dst := some 64, op := .load 3 (.tmp 63), type := 3, pos := "l04_screen.go:481", after := #[{ on := 22, ground := .data }], guard := none }) ?_
 refine wtv 24 (oi := { dst := some 65, op := .move (.tmp 4), type := 47, pos := "l04_screen.go:481", after := #[], guard := none }) ?_
 refine wtv 25 (oi := { dst := some 66, op := .indexAddr 47 (.tmp 65) (.const (.int .i64 8)), type := 0, pos := "l04_screen.go:481", after := #[{ on := 24, ground := .data }], guard := none }) ?_
 refine wtv 26 (oi := { dst := some 67, op := .load 3 (.tmp 66), type := 3, pos := "l04_screen.go:481", after := #[{ on := 25, ground := .data }], guard := none }) ?_
 refine wtv 27 (oi := { dst := some 68, op := .move (.tmp 0), type := 24, pos := "l04_screen.go:481", after := #[], guard := none }) ?_
 refine wtv 28 (oi := { dst := some 69, op := .indexAddr 24 (.tmp 68) (.const (.int .i64 1)), type := 0, pos := "l04_screen.go:481", after := #[{ on := 27, ground := .data }], guard := none }) ?_
 refine wtv 29 (oi := { dst := some 70, op := .load 9 (.tmp 69), type := 9, pos := "l04_screen.go:481", after := #[{ on := 28, ground := .data }], guard := none }) ?_
 refine wtv 30 (oi := { dst := some 71, op := .move (.tmp 6), type := 24, pos := "l04_screen.go:481", after := #[], guard := none }) ?_
 refine wtv 31 (oi := { dst := some 72, op := .build 26 #[(0, .tmp 43), (1, .tmp 46), (2, .tmp 49), (3, .tmp 52), (4, .tmp 55), (5, .tmp 58), (6, .tmp 61), (7, .tmp 64), (8, .tmp 67), (9, .tmp 70), (11, .tmp 71)], type := 26, pos := "l04_screen.go:481", after := #[{ on := 2, ground := .data }, { on := 5, ground := .data }, { on := 8, ground := .data }, { on := 11, ground := .data }, { on := 14, ground := .data }, { on := 17, ground := .data }, { on := 20, ground := .data }, { on := 23, ground := .data }, { on := 26, ground := .data }, { on := 29, ground := .data }, { on := 30, ground := .data }], guard := none }) ?_
 refine wpAnyH_ready (rs := [32]) (by kernel_rfl) (by simp) ?_
 refine AllReadyH.cons (o := { dst := some 7, op := .alloc 26, type := 0, pos := "l04_screen.go:481", after := #[], guard := none }) rfl (fun K hK => ?_) AllReadyH.nil
 obtain ⟨P, hP⟩ : ∃ P, P = w5.heap.size := ⟨_, rfl⟩
 have hb6 : Below w5.heap.size w5 (w5.alloc (Obj.cells #[.int .i64 0, .int .i64 0, .int .i64 0, .int .i64 0, .int .i64 0, .int .i64 0, .int .i64 0, .int .i64 0, .int .i64 0, .string ⟨#[]⟩, .slice none 0 0, .slice none 0 0] 26)) := Go.Joins.below_alloc1 w5 (Obj.cells #[.int .i64 0, .int .i64 0, .int .i64 0, .int .i64 0, .int .i64 0, .int .i64 0, .int .i64 0, .int .i64 0, .int .i64 0, .string ⟨#[]⟩, .slice none 0 0, .slice none 0 0] 26)
 have V6 := hide (BF.new w5 #[.int .i64 0, .int .i64 0, .int .i64 0, .int .i64 0, .int .i64 0, .int .i64 0, .int .i64 0, .int .i64 0, .int .i64 0, .string ⟨#[]⟩, .slice none 0 0, .slice none 0 0] 26)
 have B6 := hide ((unhide B5).trans (hb6.mono (unhide B5).size))
 have Y6 := hide ((unhide Y5).below hb6)
 have H6 := hide ((unhide H5).below hb6 (unhide H5).le)
 have k6 : (w5.alloc (Obj.cells #[.int .i64 0, .int .i64 0, .int .i64 0, .int .i64 0, .int .i64 0, .int .i64 0, .int .i64 0, .int .i64 0, .int .i64 0, .string ⟨#[]⟩, .slice none 0 0, .slice none 0 0] 26)).cell? ⟨gn, 0, none⟩ = some (.int .i64 i0) ∧ (w5.alloc (Obj.cells #[.int .i64 0, .int .i64 0, .int .i64 0, .int .i64 0, .int .i64 0, .int .i64 0, .int .i64 0, .int .i64 0, .int .i64 0, .string ⟨#[]⟩, .slice none 0 0, .slice none 0 0] 26)).cell? ⟨gn, 1, none⟩ = some (.int .i64 i1) ∧ (w5.alloc (Obj.cells #[.int .i64 0, .int .i64 0, .int .i64 0, .int .i64 0, .int .i64 0, .int .i64 0, .int .i64 0, .int .i64 0, .int .i64 0, .string ⟨#[]⟩, .slice none 0 0, .slice none 0 0] 26)).cell? ⟨gn, 2, none⟩ = some (.int .i64 i2) ∧ (w5.alloc (Obj.cells #[.int .i64 0, .int .i64 0, .int .i64 0, .int .i64 0, .int .i64 0, .int .i64 0, .int .i64 0, .int .i64 0, .int .i64 0, .string ⟨#[]⟩, .slice none 0 0, .slice none 0 0] 26)).cell? ⟨gn, 3, none⟩ = some (.int .i64 i3) ∧ (w5.alloc (Obj.cells #[.int .i64 0, .int .i64 0, .int .i64 0, .int .i64 0, .int .i64 0, .int .i64 0, .int .i64 0, .int .i64 0, .int .i64 0, .string ⟨#[]⟩, .slice none 0 0, .slice none 0 0] 26)).cell? ⟨gn, 4, none⟩ = some (.int .i64 i4) ∧ (w5.alloc (Obj.cells #[.int .i64 0, .int .i64 0, .int .i64 0, .int .i64 0, .int .i64 0, .int .i64 0, .int .i64 0, .int .i64 0, .int .i64 0, .string ⟨#[]⟩, .slice none 0 0, .slice none 0 0] 26)).cell? ⟨gn, 5, none⟩ = some (.int .i64 i5) ∧ (w5.alloc (Obj.cells #[.int .i64 0, .int .i64 0, .int .i64 0, .int .i64 0, .int .i64 0, .int .i64 0, .int .i64 0, .int .i64 0, .int .i64 0, .string ⟨#[]⟩, .slice none 0 0, .slice none 0 0] 26)).cell? ⟨gn, 6, none⟩ = some (.int .i64 i6) ∧ (w5.alloc (Obj.cells #[.int .i64 0, .int .i64 0, .int .i64 0, .int .i64 0, .int .i64 0, .int .i64 0, .int .i64 0, .int .i64 0, .int .i64 0, .string ⟨#[]⟩, .slice none 0 0, .slice none 0 0] 26)).cell? ⟨gn, 7, none⟩ = some (.int .i64 i7) ∧ (w5.alloc (Obj.cells #[.int .i64 0, .int .i64 0, .int .i64 0, .int .i64 0, .int .i64 0, .int .i64 0, .int .i64 0, .int .i64 0, .int .i64 0, .string ⟨#[]⟩, .slice none 0 0, .slice none 0 0] 26)).cell? ⟨gn, 8, none⟩ = some (.int .i64 i8) ∧ (w5.alloc (Obj.cells #[.int .i64 0, .int .i64 0, .int .i64 0, .int .i64 0, .int .i64 0, .int .i64 0, .int .i64 0, .int .i64 0, .int .i64 0, .string ⟨#[]⟩, .slice none 0 0, .slice none 0 0] 26)).cell? ⟨g, 1, none⟩ = some (.string t) := ⟨(hb6.cell (p := ⟨gn, 0, none⟩) hgn).trans k5.1, (hb6.cell (p := ⟨gn, 1, none⟩) hgn).trans k5.2.1, (hb6.cell (p := ⟨gn, 2, none⟩) hgn).trans k5.2.2.1, (hb6.cell (p := ⟨gn, 3, none⟩) hgn).trans k5.2.2.2.1, (hb6.cell (p := ⟨gn, 4, none⟩) hgn).trans k5.2.2.2.2.1, (hb6.cell (p := ⟨gn, 5, none⟩) hgn).trans k5.2.2.2.2.2.1, (hb6.cell (p := ⟨gn, 6, none⟩) hgn).trans k5.2.2.2.2.2.2.1, (hb6.cell (p := ⟨gn, 7, none⟩) hgn).trans k5.2.2.2.2.2.2.2.1, (hb6.cell (p := ⟨gn, 8, none⟩) hgn).trans k5.2.2.2.2.2.2.2.2.1, (hb6.cell (p := ⟨g, 1, none⟩) hgg).trans k5.2.2.2.2.2.2.2.2.2⟩
 have LP : Hid (w.heap.size + 1 ≤ P) := by have := (unhide Y5).lt; show _ ≤ _; omega
 have HHP : Hid (hiH ≤ P) := by have := (unhide H5).le; show _ ≤ _; omega
 rw [← hP] at V6 hgn hgg
 go_simp
 refine hK.out _ _ ?_ (fun hHeld32 => ?_)
 ·exact k6
 clear hK K
 try simp only [Act.put, qqA, qqB, qqC]
 rw [← hP]
 clear hb6 hP B5 Y5 H5 k5
 generalize w5.alloc (Obj.cells #[.int .i64 0, .int .i64 0, .int .i64 0, .int .i64 0, .int .i64 0, .int .i64 0, .int .i64 0, .int .i64 0, .int .i64 0, .string ⟨#[]⟩, .slice none 0 0, .slice none 0 0] 26) = w6 at B6 Y6 H6 V6 k6 hHeld32 ⊢
 refine wpAnyH_ready (rs := [33]) (by kernel_rfl) (by simp) ?_
 refine AllReadyH.cons (o := { dst := none, op := .store 26 (.tmp 7) (.tmp 72), type := 0, pos := "l04_screen.go:481", after := #[{ on := 32, ground := .data }, { on := 31, ground := .data }, { on := 0, ground := .phase }, { on := 1, ground := .phase }, { on := 2, ground := .phase }, { on := 3, ground := .phase }, { on := 4, ground := .phase }, { on := 5, ground := .phase }, { on := 6, ground := .phase }, { on := 7, ground := .phase }, { on := 8, ground := .phase }, { on := 9, ground := .phase }, { on := 10, ground := .phase }, { on := 11, ground := .phase }, { on := 12, ground := .phase }, { on := 13, ground := .phase }, { on := 14, ground := .phase }, { on := 15, ground := .phase }, { on := 16, ground := .phase }, { on := 17, ground := .phase }, { on := 18, ground := .phase }, { on := 19, ground := .phase }, { on := 20, ground := .phase }, { on := 21, ground := .phase }, { on := 22, ground := .phase }, { on := 23, ground := .phase }, { on := 24, ground := .phase }, { on := 25, ground := .phase }, { on := 26, ground := .phase }, { on := 27, ground := .phase }, { on := 28, ground := .phase }, { on := 29, ground := .phase }, { on := 30, ground := .phase }, { on := 31, ground := .phase }, { on := 32, ground := .phase }], guard := none }) rfl (fun K hK => ?_) AllReadyH.nil
 have f5 := (unhide V6).S
 have f6 := (unhide V6).F
 obtain ⟨w7, hw7, hV7, hbP, hgP⟩ := put12G w6 (unhide V6) (.int .i64 i0) (.int .i64 i1) (.int .i64 i2) (.int .i64 i3) (.int .i64 i4) (.int .i64 i5) (.int .i64 i6) (.int .i64 i7) (.int .i64 i8) (.string t) (.slice none 0 0) (.slice a4 mh c4)
 have P7 := hide hV7
 have B7 := hide ((unhide B6).trans (hbP.mono (by have := unhide LP; omega)))
 have Y7 := hide ((unhide Y6).grown hgP (fun h => by have e : P = w.heap.size := Option.some.inj h; have := unhide LP; omega))
 have H7 := hide ((unhide H6).grown hgP (fun j hj => by have e : P = j := Option.some.inj hj; have := unhide HHP; omega))
 have k7 : w7.cell? ⟨gn, 0, none⟩ = some (.int .i64 i0) ∧ w7.cell? ⟨gn, 1, none⟩ = some (.int .i64 i1) ∧ w7.cell? ⟨gn, 2, none⟩ = some (.int .i64 i2) ∧ w7.cell? ⟨gn, 3, none⟩ = some (.int .i64 i3) ∧ w7.cell? ⟨gn, 4, none⟩ = some (.int .i64 i4) ∧ w7.cell? ⟨gn, 5, none⟩ = some (.int .i64 i5) ∧ w7.cell? ⟨gn, 6, none⟩ = some (.int .i64 i6) ∧ w7.cell? ⟨gn, 7, none⟩ = some (.int .i64 i7) ∧ w7.cell? ⟨gn, 8, none⟩ = some (.int .i64 i8) ∧ w7.cell? ⟨g, 1, none⟩ = some (.string t) := ⟨(hbP.cell (p := ⟨gn, 0, none⟩) hgn).trans k6.1, (hbP.cell (p := ⟨gn, 1, none⟩) hgn).trans k6.2.1, (hbP.cell (p := ⟨gn, 2, none⟩) hgn).trans k6.2.2.1, (hbP.cell (p := ⟨gn, 3, none⟩) hgn).trans k6.2.2.2.1, (hbP.cell (p := ⟨gn, 4, none⟩) hgn).trans k6.2.2.2.2.1, (hbP.cell (p := ⟨gn, 5, none⟩) hgn).trans k6.2.2.2.2.2.1, (hbP.cell (p := ⟨gn, 6, none⟩) hgn).trans k6.2.2.2.2.2.2.1, (hbP.cell (p := ⟨gn, 7, none⟩) hgn).trans k6.2.2.2.2.2.2.2.1, (hbP.cell (p := ⟨gn, 8, none⟩) hgn).trans k6.2.2.2.2.2.2.2.2.1, (hbP.cell (p := ⟨g, 1, none⟩) hgg).trans k6.2.2.2.2.2.2.2.2.2⟩
 go_simp
 rw [← hw7]
 refine hK.out _ _ ?_ (fun hHeld33 => ?_)
 ·exact k7
 clear hK K
 try simp only [Act.put, qqA, qqB, qqC]
 refine wpAnyH_done (by kernel_rfl) ?_ _
 clear f5 f6 hV7 hbP hgP hw7 k6 k7 B6 Y6 H6 V6 hgn hgg
 have hr1 : ((rr + 3 : Nat) : Int) - 3 = (rr : Int) := by omega
 have hr2 : rr + 3 - 3 = rr := by omega
 by_cases hc3 : cap = 3
 ·have HR0 : Hid (rr = 0) := by show _ = _; omega
  go_wp2_with fail
  go_loopw [76] (fun i wr => ∃ (k q : Nat) (aV : Option Addr) (cV : Nat), k ≤ rr ∧ i = .int .i64 (k : Int) ∧ Hid (q = k * nc) ∧ Hid (Below w.heap.size w wr) ∧ Hid (BF P #[.int .i64 i0, .int .i64 i1, .int .i64 i2, .int .i64 i3, .int .i64 i4, .int .i64 i5, .int .i64 i6, .int .i64 i7, .int .i64 i8, .string t, .slice aV q cV, .slice a4 mh c4] wr) ∧ Hid (wr.ownsRow (P + 1) 53 2 (.slice aV q cV) q (cP (rowsC nc (rs.take k)))) ∧ Hid (BF w.heap.size #[.int .i64 0, .int .i64 0, .int .i64 0, .int .i64 0, .int .i64 0, .int .i64 0, .int .i64 0, .int .i64 0, .int .i64 0, .string ⟨#[]⟩, .slice none 0 0, .slice none 0 0] wr) ∧ Hid (Held wr loH hiH 9 (.slice a4 mh c4) mh (cS m)) ∧ Hid (∀ s ∈ rs.take k, (s.size : Int) = i0 * 4)) (fun i _ => rr - (intOf i).toNat)
  case atStart => exact ⟨0, 0, none, 0, by omega, rfl, (show Hid (0 = 0 * nc) from by show _ = _; omega), B7, P7, (show Hid (World.ownsRow _ _ _ _ _ _ _) from World.ownsRow_nil _ _ _ _), Y7, H7, (fun s hs => (by simp at hs))⟩
  case round =>
   clear B7 P7 Y7 H7
   obtain ⟨k, q, aV, cV, hk, rfl, HQ, HB, HP, HE, HY, HH, HPO⟩ := hrel
   by_cases hlt : k < rr
   ·exact absurd hlt (by have := unhide HR0; omega)
   ·obtain rfl : k = rr := by omega
    have hlt' : ¬ (k : Int) < (k : Int) := by omega
    have HPR : Hid (∀ s ∈ rs, (s.size : Int) = i0 * 4) := by have h := unhide HPO; rw [List.take_of_length_le (by rw [unhide HRL]; exact Nat.le_refl _)] at h; exact h
    have HQR : Hid (q = rs.length * nc) := by show _ = _; rw [unhide HQ, unhide HRL]
    have ER : Hid (wr.ownsRow (P + 1) 53 2 (.slice aV q cV) q (cP (rowsC nc rs))) := by have h := unhide HE; rw [List.take_of_length_le (by rw [unhide HRL]; exact Nat.le_refl _)] at h; exact h
    have sp := (unhide HP).S
    have fz := (unhide HY).F
    have sz := (unhide HY).S
    have hPw : ¬ P = w.heap.size := by have := unhide LP; omega
    clear hlt hk
    go_wp2_with fail
    (try simp only [Exit.inBlock, Exit.then])
    obtain ⟨wf, hwf, YF, hbf, hgf⟩ := put12G wr (unhide HY) (.int .i64 i0) (.int .i64 i1) (.int .i64 i2) (.int .i64 i3) (.int .i64 i4) (.int .i64 i5) (.int .i64 i6) (.int .i64 i7) (.int .i64 i8) (.string t) (.slice aV q cV) (.slice a4 mh c4)
    try rw [← hwf]
    have st := YF.S
    refine bodyPost_ret (v := .tuple #[.agg #[.int .i64 i0, .int .i64 i1, .int .i64 i2, .int .i64 i3, .int .i64 i4, .int .i64 i5, .int .i64 i6, .int .i64 i7, .int .i64 i8, .string t, .slice aV q cV, .slice a4 mh c4], .bool true]) ?_ rfl (Or.inl ⟨aV, cV, a4, c4, mh, loH, hiH, by rw [unhide HQR], unhide HMH, unhide HPR, ?_, ?_, unhide HLO, ?_, ?_⟩)
    ·rw [results_cell_tmp rfl]
     go_simp
    ·rw [← unhide HQR, hwf]
     refine Go.Joins.ownsRow_le (base := P + 1) ?_ (by have := unhide LP; omega)
     iterate 12 refine ownsRow_setCell_below ?_ (show w.heap.size < P + 1 by have := unhide LP; omega) _
     exact unhide ER
    ·exact (unhide HH).grown hgf (fun j hj => by have e : w.heap.size = j := Option.some.inj hj; have := unhide HLO; omega)
    ·intro j hj
     rw [← unhide HQR] at hj
     have := (World.ownsRow.lt (unhide ER) j hj).1
     have := unhide HHP
     omega
    ·exact (unhide HB).trans hbf
 ·skip
  go_wp2_with fail
  go_loopw [76] (fun i wr => ∃ (k q : Nat) (aV : Option Addr) (cV : Nat), k ≤ rr ∧ i = .int .i64 (k : Int) ∧ Hid (q = k * nc) ∧ Hid (Below w.heap.size w wr) ∧ Hid (BF P #[.int .i64 i0, .int .i64 i1, .int .i64 i2, .int .i64 i3, .int .i64 i4, .int .i64 i5, .int .i64 i6, .int .i64 i7, .int .i64 i8, .string t, .slice aV q cV, .slice a4 mh c4] wr) ∧ Hid (wr.ownsRow (P + 1) 53 2 (.slice aV q cV) q (cP (rowsC nc (rs.take k)))) ∧ Hid (BF w.heap.size #[.int .i64 0, .int .i64 0, .int .i64 0, .int .i64 0, .int .i64 0, .int .i64 0, .int .i64 0, .int .i64 0, .int .i64 0, .string ⟨#[]⟩, .slice none 0 0, .slice none 0 0] wr) ∧ Hid (Held wr loH hiH 9 (.slice a4 mh c4) mh (cS m)) ∧ Hid (∀ s ∈ rs.take k, (s.size : Int) = i0 * 4)) (fun i _ => rr - (intOf i).toNat)
  case atStart => exact ⟨0, 0, none, 0, by omega, rfl, (show Hid (0 = 0 * nc) from by show _ = _; omega), B7, P7, (show Hid (World.ownsRow _ _ _ _ _ _ _) from World.ownsRow_nil _ _ _ _), Y7, H7, (fun s hs => (by simp at hs))⟩
  case round =>
   clear B7 P7 Y7 H7
   obtain ⟨k, q, aV, cV, hk, rfl, HQ, HB, HP, HE, HY, HH, HPO⟩ := hrel
   by_cases hlt : k < rr
   ·have hlm : k < rs.length := by rw [unhide HRL]; exact hlt
    have hlt' : (k : Int) < (rr : Int) := by omega
    have hk60 : (k : Int) ≤ 100 := by have := unhide H60; omega
    obtain ⟨s, hs⟩ : ∃ s, s = rs[k] := ⟨_, rfl⟩
    have hcw : wr.cell? ⟨g, 3 + k, none⟩ = some (.string s) := ((unhide HB).cell (p := ⟨g, 3 + k, none⟩) (unhide HG)).trans (by rw [hs]; exact unhide HC k hlm)
    have hsz : s.size ≤ 20000 := by rw [hs]; exact unhide HRZ k hlm
    have kp0 := (unhide HP).S
    by_cases h0 : (s.size : Int) = M
    ·have hne : ((s.size : Int) != M) = false := by simpa using h0
     have HSZ : Hid (s.size = 4 * nc) := by show _ = _; have := unhide HNC; have := unhide HM; omega
     have HSB := hide hsz
     have HLT := hide hlt
     have HQB : Hid (q + nc ≤ 1048576) := by
      show _ ≤ _
      have e1 := unhide HQ
      have e2 := unhide HSZ
      have e3 := unhide H60
      have e4 : k * nc ≤ 60 * 5000 := Nat.mul_le_mul (by omega) (by omega)
      omega
     have HSN : Hid ((cP (rowsC nc (rs.take (k + 1)))) = (cP (rowsC nc (rs.take k))) ++ cP (cells4 s.data.toList nc)) := by
      show _ = _
      rw [rowsC_snoc nc rs k hlm, cP_app, ← hs]
     have HQ2 : Hid (q + nc = (k + 1) * nc) := by show _ = _; rw [unhide HQ, Nat.add_mul, Nat.one_mul]
     have HPO2 : Hid (∀ s ∈ rs.take (k + 1), (s.size : Int) = i0 * 4) := by
      intro s2 hs2
      rw [List.take_add_one, List.getElem?_eq_getElem hlm, Option.toList_some, List.mem_append, List.mem_singleton] at hs2
      rcases hs2 with h | h
      ·exact unhide HPO s2 h
      ·rw [h, ← hs, unhide HM]; exact h0
     have hM := unhide HM
     clear hs h0 hsz
     go_upto_region 15 with fail
     refine wp_region_held_drew (S := (fun _ => True)) (by kernel_rfl) trivial (fun hHeld => ?_)
     have B10 := hide ((unhide HB).drew)
     have P10 := hide ((unhide HP).drew)
     have E10 : Hid (wr.drew.ownsRow (P + 1) 53 2 (.slice aV q cV) q (cP (rowsC nc (rs.take k)))) := unhide HE
     have Y10 := hide ((unhide HY).drew)
     have H10 := hide ((unhide HH).below (Below.refl _ _).drew (unhide HH).le)
     clear HB HP HE HY HH kp0 hcw
     generalize wr.drew = w10 at B10 P10 E10 Y10 H10 hHeld ⊢
     refine wtv 0 (oi := { dst := some 87, op := .fieldAddr 26 (.tmp 7) 10, type := 0, pos := "l04_screen.go:489", after := #[], guard := none }) ?_
     refine wtv 2 (oi := { dst := some 89, op := .move (.tmp 9), type := 9, pos := "l04_screen.go:489", after := #[], guard := none }) ?_
     refine wpAnyH_ready (rs := [1, 3]) (by kernel_rfl) (by simp) ?_
     refine AllReadyH.cons (o := oSogI0) rfl (fun K hK => ?_) (AllReadyH.cons (o := oSogI1) rfl (fun K hK => ?_) AllReadyH.nil)
     ·skip
      have kp := (unhide P10).S
      go_simp
      refine hK.out _ _ ?_ (fun hHeldL => ?_)
      ·trivial
      clear hK K kp
      try simp only [Act.put, qqA, qqB, qqC]
      refine wpAnyH_ready (rs := [3]) (by kernel_rfl) (by simp) ?_
      refine AllReadyH.cons (o := oSogI1) rfl (fun K hK => ?_) AllReadyH.nil
      obtain ⟨w11, capc, hcv, hrc, hcc, hbc⟩ := to_bytesS w10 s
      have RC := hide hrc
      have CC := hide hcc
      have B11 := hide ((unhide B10).trans (hbc.mono (unhide B10).size))
      have P11 := hide ((unhide P10).below hbc)
      have Y11 := hide ((unhide Y10).below hbc)
      have H11 := hide ((unhide H10).below hbc (unhide H10).le)
      have E11 := hide (((heldZ_of (unhide E10)).below hbc (Nat.le_refl _)).own)
      go_simp
      refine hK.out _ _ ?_ (fun hHeldC => ?_)
      ·trivial
      clear hK K
      try simp only [Act.put, qqA, qqB, qqC]
      clear hcv hrc hcc hbc B10 P10 Y10 H10 E10
      refine wpAnyH_ready (rs := [4]) (by kernel_rfl) (by simp) ?_
      refine AllReadyH.cons (o := oSogI2) rfl (fun K hK => ?_) AllReadyH.nil
      go_simp
      refine (icellsR _ _ s nc HSZ (unhide CC) _ (unhide RC) (unhide HSB)).mono ?_
      rintro e w12 ⟨vn, rfl, hon, hbn⟩
      obtain ⟨aN, cN, rfl, -⟩ := ownZ_rowV hon
      have RN := hide (rowZ_at hon)
      have B12 := hide ((unhide B11).trans (hbn.mono (unhide B11).size))
      have P12 := hide ((unhide P11).below hbn)
      have Y12 := hide ((unhide Y11).below hbn)
      have H12 := hide ((unhide H11).below hbn (unhide H11).le)
      have E12 := hide (((heldZ_of (unhide E11)).below hbn (Nat.le_refl _)).own)
      clear hon hbn B11 P11 Y11 H11 E11 RC CC
      go_wp2_with fail
      refine hK.out _ _ ?_ (fun hHeldN => ?_)
      ·trivial
      clear hK K
      try simp only [Act.put, qqA, qqB, qqC]
      refine wpAnyH_ready (rs := [5]) (by kernel_rfl) (by simp) ?_
      refine AllReadyH.cons (o := oSogI3) rfl (fun K hK => ?_) AllReadyH.nil
      refine step_append_cells w12 rfl (.tmp 88) (.tmp 91) 23 rfl (P + 1) 53 i0z Tryd.underlying23 hi hz0 hz1 hz2 (.slice aV q cV) q (cP (rowsC nc (rs.take k))) rfl (unhide E12) aN cN nc (cells4 s.data.toList nc) (cells4_len _ _) rfl (unhide RN) (by have := unhide HQB; omega) (by have := (unhide P12).lt; omega) ?_
      intro va wa hoa hga
      obtain ⟨aA, cA, rfl, -⟩ := ownZ_rowV hoa
      have HFj : Hid (∀ j, (Value.slice aV q cV).ownBlock = some j → P + 1 ≤ j) := fun j hj => (World.ownsRow.lt (unhide E12) j hj).1
      have Pa := hide ((unhide P12).grown hga (fun h => by have := unhide HFj _ h; omega))
      have Ba := hide ((unhide B12).grown hga (unhide B12).size (fun j hj => by have := unhide HFj j hj; have := unhide LP; omega))
      have Ya := hide ((unhide Y12).grown hga (fun h => by have := unhide HFj _ h; have := unhide LP; omega))
      have Ha := hide ((unhide H12).grown hga (fun j hj => by have := unhide HFj j hj; have := unhide HHP; omega))
      have Ea : Hid (wa.ownsRow (P + 1) 53 2 (.slice aA (q + nc) cA) (q + nc) (cP (rowsC nc (rs.take (k + 1))))) := by show World.ownsRow _ _ _ _ _ _ _; rw [unhide HSN]; exact hoa
      clear hoa hga HFj B12 P12 Y12 H12 E12 RN
      refine hK.out _ _ ?_ (fun hHeld5 => ?_)
      ·trivial
      clear hK K
      try simp only [Act.put, qqA, qqB, qqC]
      refine wtv 6 (oi := oSogI4) ?_
      refine wpAnyH_ready (rs := [7]) (by kernel_rfl) (by simp) ?_
      refine AllReadyH.cons (o := oSogI5) rfl (fun K hK => ?_) AllReadyH.nil
      have kp := (unhide Pa).S
      have kpf := (unhide Pa).F
      obtain ⟨wz, hwz⟩ : ∃ wz, wz = wa.setCell ⟨P, 10, none⟩ (.slice aA (q + nc) cA) := ⟨_, rfl⟩
      have Pz : Hid (BF P #[.int .i64 i0, .int .i64 i1, .int .i64 i2, .int .i64 i3, .int .i64 i4, .int .i64 i5, .int .i64 i6, .int .i64 i7, .int .i64 i8, .string t, .slice aA (q + nc) cA, .slice a4 mh c4] wz) := by rw [hwz]; exact (unhide Pa).set 10 (by simp) _
      have Bz : Hid (Below w.heap.size w wz) := by rw [hwz]; exact (unhide Ba).setCell (p := ⟨P, 10, none⟩) (by show w.heap.size ≤ P; have := unhide LP; omega) _
      have Ez : Hid (wz.ownsRow (P + 1) 53 2 (.slice aA (q + nc) cA) (q + nc) (cP (rowsC nc (rs.take (k + 1))))) := by rw [hwz]; exact ownsRow_setCell_below (unhide Ea) (show P < P + 1 by omega) _
      have Yz : Hid (BF w.heap.size #[.int .i64 0, .int .i64 0, .int .i64 0, .int .i64 0, .int .i64 0, .int .i64 0, .int .i64 0, .int .i64 0, .int .i64 0, .string ⟨#[]⟩, .slice none 0 0, .slice none 0 0] wz) := by rw [hwz]; exact (unhide Ya).far _ _ (by show P ≠ _; have := unhide LP; omega)
      have Hz : Hid (Held wz loH hiH 9 (.slice a4 mh c4) mh (cS m)) := by rw [hwz]; exact held_setFar (unhide Ha) (unhide HHP) _ _
      go_simp
      rw [← hwz]
      refine hK.out _ _ ?_ (fun hHeld7 => ?_)
      ·trivial
      clear hK K
      try simp only [Act.put, qqA, qqB, qqC]
      refine wpAnyH_done (by kernel_rfl) ?_ _
      clear kp kpf hwz Pa Ba Ea Ya Ha
      go_wp2_with fail
      go_roundw
      case rel => exact ⟨k + 1, q + nc, _, _, (unhide HLT), by go_num, HQ2, Bz, Pz, Ez, Yz, Hz, HPO2⟩
      case measure => have := unhide HLT; simp [intOf]; omega
     ·skip
      obtain ⟨w11, capc, hcv, hrc, hcc, hbc⟩ := to_bytesS w10 s
      have RC := hide hrc
      have CC := hide hcc
      have B11 := hide ((unhide B10).trans (hbc.mono (unhide B10).size))
      have P11 := hide ((unhide P10).below hbc)
      have Y11 := hide ((unhide Y10).below hbc)
      have H11 := hide ((unhide H10).below hbc (unhide H10).le)
      have E11 := hide (((heldZ_of (unhide E10)).below hbc (Nat.le_refl _)).own)
      go_simp
      refine hK.out _ _ ?_ (fun hHeldC => ?_)
      ·trivial
      clear hK K
      try simp only [Act.put, qqA, qqB, qqC]
      clear hcv hrc hcc hbc B10 P10 Y10 H10 E10
      refine wpAnyH_ready (rs := [1, 4]) (by kernel_rfl) (by simp) ?_
      refine AllReadyH.cons (o := oSogI0) rfl (fun K hK => ?_) (AllReadyH.cons (o := oSogI2) rfl (fun K hK => ?_) AllReadyH.nil)
      ·skip
       have kp := (unhide P11).S
       go_simp
       refine hK.out _ _ ?_ (fun hHeldL => ?_)
       ·trivial
       clear hK K kp
       try simp only [Act.put, qqA, qqB, qqC]
       refine wpAnyH_ready (rs := [4]) (by kernel_rfl) (by simp) ?_
       refine AllReadyH.cons (o := oSogI2) rfl (fun K hK => ?_) AllReadyH.nil
       go_simp
       refine (icellsR _ _ s nc HSZ (unhide CC) _ (unhide RC) (unhide HSB)).mono ?_
       rintro e w12 ⟨vn, rfl, hon, hbn⟩
       obtain ⟨aN, cN, rfl, -⟩ := ownZ_rowV hon
       have RN := hide (rowZ_at hon)
       have B12 := hide ((unhide B11).trans (hbn.mono (unhide B11).size))
       have P12 := hide ((unhide P11).below hbn)
       have Y12 := hide ((unhide Y11).below hbn)
       have H12 := hide ((unhide H11).below hbn (unhide H11).le)
       have E12 := hide (((heldZ_of (unhide E11)).below hbn (Nat.le_refl _)).own)
       clear hon hbn B11 P11 Y11 H11 E11 RC CC
       go_wp2_with fail
       refine hK.out _ _ ?_ (fun hHeldN => ?_)
       ·trivial
       clear hK K
       try simp only [Act.put, qqA, qqB, qqC]
       refine wpAnyH_ready (rs := [5]) (by kernel_rfl) (by simp) ?_
       refine AllReadyH.cons (o := oSogI3) rfl (fun K hK => ?_) AllReadyH.nil
       refine step_append_cells w12 rfl (.tmp 88) (.tmp 91) 23 rfl (P + 1) 53 i0z Tryd.underlying23 hi hz0 hz1 hz2 (.slice aV q cV) q (cP (rowsC nc (rs.take k))) rfl (unhide E12) aN cN nc (cells4 s.data.toList nc) (cells4_len _ _) rfl (unhide RN) (by have := unhide HQB; omega) (by have := (unhide P12).lt; omega) ?_
       intro va wa hoa hga
       obtain ⟨aA, cA, rfl, -⟩ := ownZ_rowV hoa
       have HFj : Hid (∀ j, (Value.slice aV q cV).ownBlock = some j → P + 1 ≤ j) := fun j hj => (World.ownsRow.lt (unhide E12) j hj).1
       have Pa := hide ((unhide P12).grown hga (fun h => by have := unhide HFj _ h; omega))
       have Ba := hide ((unhide B12).grown hga (unhide B12).size (fun j hj => by have := unhide HFj j hj; have := unhide LP; omega))
       have Ya := hide ((unhide Y12).grown hga (fun h => by have := unhide HFj _ h; have := unhide LP; omega))
       have Ha := hide ((unhide H12).grown hga (fun j hj => by have := unhide HFj j hj; have := unhide HHP; omega))
       have Ea : Hid (wa.ownsRow (P + 1) 53 2 (.slice aA (q + nc) cA) (q + nc) (cP (rowsC nc (rs.take (k + 1))))) := by show World.ownsRow _ _ _ _ _ _ _; rw [unhide HSN]; exact hoa
       clear hoa hga HFj B12 P12 Y12 H12 E12 RN
       refine hK.out _ _ ?_ (fun hHeld5 => ?_)
       ·trivial
       clear hK K
       try simp only [Act.put, qqA, qqB, qqC]
       refine wtv 6 (oi := oSogI4) ?_
       refine wpAnyH_ready (rs := [7]) (by kernel_rfl) (by simp) ?_
       refine AllReadyH.cons (o := oSogI5) rfl (fun K hK => ?_) AllReadyH.nil
       have kp := (unhide Pa).S
       have kpf := (unhide Pa).F
       obtain ⟨wz, hwz⟩ : ∃ wz, wz = wa.setCell ⟨P, 10, none⟩ (.slice aA (q + nc) cA) := ⟨_, rfl⟩
       have Pz : Hid (BF P #[.int .i64 i0, .int .i64 i1, .int .i64 i2, .int .i64 i3, .int .i64 i4, .int .i64 i5, .int .i64 i6, .int .i64 i7, .int .i64 i8, .string t, .slice aA (q + nc) cA, .slice a4 mh c4] wz) := by rw [hwz]; exact (unhide Pa).set 10 (by simp) _
       have Bz : Hid (Below w.heap.size w wz) := by rw [hwz]; exact (unhide Ba).setCell (p := ⟨P, 10, none⟩) (by show w.heap.size ≤ P; have := unhide LP; omega) _
       have Ez : Hid (wz.ownsRow (P + 1) 53 2 (.slice aA (q + nc) cA) (q + nc) (cP (rowsC nc (rs.take (k + 1))))) := by rw [hwz]; exact ownsRow_setCell_below (unhide Ea) (show P < P + 1 by omega) _
       have Yz : Hid (BF w.heap.size #[.int .i64 0, .int .i64 0, .int .i64 0, .int .i64 0, .int .i64 0, .int .i64 0, .int .i64 0, .int .i64 0, .int .i64 0, .string ⟨#[]⟩, .slice none 0 0, .slice none 0 0] wz) := by rw [hwz]; exact (unhide Ya).far _ _ (by show P ≠ _; have := unhide LP; omega)
       have Hz : Hid (Held wz loH hiH 9 (.slice a4 mh c4) mh (cS m)) := by rw [hwz]; exact held_setFar (unhide Ha) (unhide HHP) _ _
       go_simp
       rw [← hwz]
       refine hK.out _ _ ?_ (fun hHeld7 => ?_)
       ·trivial
       clear hK K
       try simp only [Act.put, qqA, qqB, qqC]
       refine wpAnyH_done (by kernel_rfl) ?_ _
       clear kp kpf hwz Pa Ba Ea Ya Ha
       go_wp2_with fail
       go_roundw
       case rel => exact ⟨k + 1, q + nc, _, _, (unhide HLT), by go_num, HQ2, Bz, Pz, Ez, Yz, Hz, HPO2⟩
       case measure => have := unhide HLT; simp [intOf]; omega
      ·skip
       go_simp
       refine (icellsR _ _ s nc HSZ (unhide CC) _ (unhide RC) (unhide HSB)).mono ?_
       rintro e w12 ⟨vn, rfl, hon, hbn⟩
       obtain ⟨aN, cN, rfl, -⟩ := ownZ_rowV hon
       have RN := hide (rowZ_at hon)
       have B12 := hide ((unhide B11).trans (hbn.mono (unhide B11).size))
       have P12 := hide ((unhide P11).below hbn)
       have Y12 := hide ((unhide Y11).below hbn)
       have H12 := hide ((unhide H11).below hbn (unhide H11).le)
       have E12 := hide (((heldZ_of (unhide E11)).below hbn (Nat.le_refl _)).own)
       clear hon hbn B11 P11 Y11 H11 E11 RC CC
       go_wp2_with fail
       refine hK.out _ _ ?_ (fun hHeldN => ?_)
       ·trivial
       clear hK K
       try simp only [Act.put, qqA, qqB, qqC]
       refine wpAnyH_ready (rs := [1]) (by kernel_rfl) (by simp) ?_
       refine AllReadyH.cons (o := oSogI0) rfl (fun K hK => ?_) AllReadyH.nil
       have kp := (unhide P12).S
       go_simp
       refine hK.out _ _ ?_ (fun hHeldL => ?_)
       ·trivial
       clear hK K kp
       try simp only [Act.put, qqA, qqB, qqC]
       refine wpAnyH_ready (rs := [5]) (by kernel_rfl) (by simp) ?_
       refine AllReadyH.cons (o := oSogI3) rfl (fun K hK => ?_) AllReadyH.nil
       refine step_append_cells w12 rfl (.tmp 88) (.tmp 91) 23 rfl (P + 1) 53 i0z Tryd.underlying23 hi hz0 hz1 hz2 (.slice aV q cV) q (cP (rowsC nc (rs.take k))) rfl (unhide E12) aN cN nc (cells4 s.data.toList nc) (cells4_len _ _) rfl (unhide RN) (by have := unhide HQB; omega) (by have := (unhide P12).lt; omega) ?_
       intro va wa hoa hga
       obtain ⟨aA, cA, rfl, -⟩ := ownZ_rowV hoa
       have HFj : Hid (∀ j, (Value.slice aV q cV).ownBlock = some j → P + 1 ≤ j) := fun j hj => (World.ownsRow.lt (unhide E12) j hj).1
       have Pa := hide ((unhide P12).grown hga (fun h => by have := unhide HFj _ h; omega))
       have Ba := hide ((unhide B12).grown hga (unhide B12).size (fun j hj => by have := unhide HFj j hj; have := unhide LP; omega))
       have Ya := hide ((unhide Y12).grown hga (fun h => by have := unhide HFj _ h; have := unhide LP; omega))
       have Ha := hide ((unhide H12).grown hga (fun j hj => by have := unhide HFj j hj; have := unhide HHP; omega))
       have Ea : Hid (wa.ownsRow (P + 1) 53 2 (.slice aA (q + nc) cA) (q + nc) (cP (rowsC nc (rs.take (k + 1))))) := by show World.ownsRow _ _ _ _ _ _ _; rw [unhide HSN]; exact hoa
       clear hoa hga HFj B12 P12 Y12 H12 E12 RN
       refine hK.out _ _ ?_ (fun hHeld5 => ?_)
       ·trivial
       clear hK K
       try simp only [Act.put, qqA, qqB, qqC]
       refine wtv 6 (oi := oSogI4) ?_
       refine wpAnyH_ready (rs := [7]) (by kernel_rfl) (by simp) ?_
       refine AllReadyH.cons (o := oSogI5) rfl (fun K hK => ?_) AllReadyH.nil
       have kp := (unhide Pa).S
       have kpf := (unhide Pa).F
       obtain ⟨wz, hwz⟩ : ∃ wz, wz = wa.setCell ⟨P, 10, none⟩ (.slice aA (q + nc) cA) := ⟨_, rfl⟩
       have Pz : Hid (BF P #[.int .i64 i0, .int .i64 i1, .int .i64 i2, .int .i64 i3, .int .i64 i4, .int .i64 i5, .int .i64 i6, .int .i64 i7, .int .i64 i8, .string t, .slice aA (q + nc) cA, .slice a4 mh c4] wz) := by rw [hwz]; exact (unhide Pa).set 10 (by simp) _
       have Bz : Hid (Below w.heap.size w wz) := by rw [hwz]; exact (unhide Ba).setCell (p := ⟨P, 10, none⟩) (by show w.heap.size ≤ P; have := unhide LP; omega) _
       have Ez : Hid (wz.ownsRow (P + 1) 53 2 (.slice aA (q + nc) cA) (q + nc) (cP (rowsC nc (rs.take (k + 1))))) := by rw [hwz]; exact ownsRow_setCell_below (unhide Ea) (show P < P + 1 by omega) _
       have Yz : Hid (BF w.heap.size #[.int .i64 0, .int .i64 0, .int .i64 0, .int .i64 0, .int .i64 0, .int .i64 0, .int .i64 0, .int .i64 0, .int .i64 0, .string ⟨#[]⟩, .slice none 0 0, .slice none 0 0] wz) := by rw [hwz]; exact (unhide Ya).far _ _ (by show P ≠ _; have := unhide LP; omega)
       have Hz : Hid (Held wz loH hiH 9 (.slice a4 mh c4) mh (cS m)) := by rw [hwz]; exact held_setFar (unhide Ha) (unhide HHP) _ _
       go_simp
       rw [← hwz]
       refine hK.out _ _ ?_ (fun hHeld7 => ?_)
       ·trivial
       clear hK K
       try simp only [Act.put, qqA, qqB, qqC]
       refine wpAnyH_done (by kernel_rfl) ?_ _
       clear kp kpf hwz Pa Ba Ea Ya Ha
       go_wp2_with fail
       go_roundw
       case rel => exact ⟨k + 1, q + nc, _, _, (unhide HLT), by go_num, HQ2, Bz, Pz, Ez, Yz, Hz, HPO2⟩
       case measure => have := unhide HLT; simp [intOf]; omega
    ·have hne : ((s.size : Int) != M) = true := by simpa using h0
     have HEX : Hid (∃ s ∈ rs, ¬ (s.size : Int) = i0 * 4) := ⟨s, by rw [hs]; exact List.getElem_mem hlm, by rw [unhide HM]; exact h0⟩
     have kz := (unhide HY).S
     have kf := (unhide HY).F
     have hM := unhide HM
     clear hs h0
     go_wp2_with fail
     (try simp only [Exit.inBlock, Exit.then])
     refine bodyPost_ret (v := .tuple #[.agg #[.int .i64 0, .int .i64 0, .int .i64 0, .int .i64 0, .int .i64 0, .int .i64 0, .int .i64 0, .int .i64 0, .int .i64 0, .string ⟨#[]⟩, .slice none 0 0, .slice none 0 0], .bool false]) ?_ rfl (Or.inr ⟨rfl, unhide HEX, ?_⟩)
     ·rw [results_cell_tmp rfl]
      go_simp
     ·iterate 12 refine Below.setCell ?_ (by exact Nat.le_refl _) _
      exact unhide HB
   ·obtain rfl : k = rr := by omega
    have hlt' : ¬ (k : Int) < (k : Int) := by omega
    have HPR : Hid (∀ s ∈ rs, (s.size : Int) = i0 * 4) := by have h := unhide HPO; rw [List.take_of_length_le (by rw [unhide HRL]; exact Nat.le_refl _)] at h; exact h
    have HQR : Hid (q = rs.length * nc) := by show _ = _; rw [unhide HQ, unhide HRL]
    have ER : Hid (wr.ownsRow (P + 1) 53 2 (.slice aV q cV) q (cP (rowsC nc rs))) := by have h := unhide HE; rw [List.take_of_length_le (by rw [unhide HRL]; exact Nat.le_refl _)] at h; exact h
    have sp := (unhide HP).S
    have fz := (unhide HY).F
    have sz := (unhide HY).S
    have hPw : ¬ P = w.heap.size := by have := unhide LP; omega
    clear hlt hk
    go_wp2_with fail
    (try simp only [Exit.inBlock, Exit.then])
    obtain ⟨wf, hwf, YF, hbf, hgf⟩ := put12G wr (unhide HY) (.int .i64 i0) (.int .i64 i1) (.int .i64 i2) (.int .i64 i3) (.int .i64 i4) (.int .i64 i5) (.int .i64 i6) (.int .i64 i7) (.int .i64 i8) (.string t) (.slice aV q cV) (.slice a4 mh c4)
    try rw [← hwf]
    have st := YF.S
    refine bodyPost_ret (v := .tuple #[.agg #[.int .i64 i0, .int .i64 i1, .int .i64 i2, .int .i64 i3, .int .i64 i4, .int .i64 i5, .int .i64 i6, .int .i64 i7, .int .i64 i8, .string t, .slice aV q cV, .slice a4 mh c4], .bool true]) ?_ rfl (Or.inl ⟨aV, cV, a4, c4, mh, loH, hiH, by rw [unhide HQR], unhide HMH, unhide HPR, ?_, ?_, unhide HLO, ?_, ?_⟩)
    ·rw [results_cell_tmp rfl]
     go_simp
    ·rw [← unhide HQR, hwf]
     refine Go.Joins.ownsRow_le (base := P + 1) ?_ (by have := unhide LP; omega)
     iterate 12 refine ownsRow_setCell_below ?_ (show w.heap.size < P + 1 by have := unhide LP; omega) _
     exact unhide ER
    ·exact (unhide HH).grown hgf (fun j hj => by have e : w.heap.size = j := Option.some.inj hj; have := unhide HLO; omega)
    ·intro j hj
     rw [← unhide HQR] at hj
     have := (World.ownsRow.lt (unhide ER) j hj).1
     have := unhide HHP
     omega
    ·exact (unhide HB).trans hbf
end Go.Proofs.YtpcdjpfffanlbaaDoor

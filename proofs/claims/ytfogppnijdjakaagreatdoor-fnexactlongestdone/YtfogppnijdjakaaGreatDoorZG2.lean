/- Texts put together: StrS CluM Bf EntL. -/
import Derived.Test.YtfogppnijdjakaaGreatDoorZG0
import Derived.Test.YtfogppnijdjakaaGreatDoorZG1
import Derived.Lib.SmallJoins
/- Rows of texts: the laws' own helpers. -/
namespace Go.Proofs.YtfogppnijdjakaaGreatDoor
open Go.ChangeShapes Go.WideShapes Go.ChangeAt Go.RowKit
theorem Tryz.infL9 : (Tryz.prog.info? 9).map (fun i => (i.zero, i.size, i.bytes)) = some (some (.string ⟨#[]⟩), 1, 16) := by kernel_rfl
def cS (l : List ByteArray) : List Value := l.map fun c => .string (c)
theorem cS_len (l : List ByteArray) : (cS l).length = l.length := by simp [cS]
theorem cS_at (l : List ByteArray) (k : Nat) (h : k < l.length) : (cS l)[k]? = some (.string (l[k])) := by simp [cS, List.getElem?_eq_getElem h]
theorem cS_app (l m : List ByteArray) : cS (l ++ m) = cS l ++ cS m := by simp [cS]
theorem cS_one (l : List ByteArray) : ∀ u ∈ cS l, u.oneCell' = true := by
 intro u hu; simp [cS] at hu; obtain ⟨c, _, rfl⟩ := hu; rfl

set_option maxHeartbeats 400000 in
set_option maxRecDepth 100000 in
theorem copyString (a : Option Addr) (cap : Nat) (l : List ByteArray) (hl : l.length ≤ 1048576) (w : World) (hr : RowV w a (cS l)) :
  Calls Tryz.prog 22 #[.slice a l.length cap] w fun e w' => e = .returned (.slice (some ⟨w.heap.size, 0, none⟩) l.length l.length) ∧
   w'.ownsRow w.heap.size 9 1 (.slice (some ⟨w.heap.size, 0, none⟩) l.length l.length) l.length (cS l) ∧ Below w.heap.size w w' := by
 obtain ⟨i0, hi, hz0, hz1, hz2⟩ := info_parts Tryz.infL9
 have hcl := cS_len l
 go_enter Tryz.func22, Tryz.ntmps22
 go_wp2_with (at_make; refine wpList_make_full _ rfl _ _ 25 rfl w.heap.size 9 i0 (.string ⟨#[]⟩) 1 Tryz.underlying25 hi hz0 hz1 .i64 .i64 _ _ l.length rfl rfl rfl rfl (by rw [hz2]; omega) (by unfold maxLen; omega) (Nat.le_refl _) ?_; intro w1 hown hgrow)
 rw [show l.length * 1 = (cS l).length * 1 from by rw [hcl], ← fillV_zero _ _ rfl] at hown
 have hb1 := (Below.refl w.heap.size w).grown hgrow (Nat.le_refl _) (fun k hk => by cases hk)
 clear hgrow
 have HR := hide hr
 have HCL := hide hcl
 clear hr hcl
 go_loopw [4] (fun i wr => ∃ k : Nat, k ≤ l.length ∧ i = .int .i64 k ∧ wr.ownsRow w.heap.size 9 1 (.slice (some ⟨w.heap.size, 0, none⟩) l.length l.length) l.length (fillV (.string ⟨#[]⟩) (cS l) k) ∧ Below w.heap.size w wr) (fun i _ => l.length - (intOf i).toNat)
 case atStart => exact ⟨0, by omega, rfl, hown, hb1⟩
 case round =>
  clear hown hb1
  obtain ⟨k, hk, rfl, hown, hb⟩ := hrel
  by_cases hlt : k < l.length
  ·obtain ⟨b, off, ha, hblt, hc⟩ := (unhide HR).at (by rw [unhide HCL]; omega)
   subst ha
   have hc1 : wr.cell? ⟨b, off + k, none⟩ = some (.string (l[k])) := (hb.cell (p := ⟨b, off + k, none⟩) hblt).trans (hc k _ (cS_at l k hlt))
   have hc2 : wr.cell? ⟨w.heap.size, k, none⟩ = some (.string ⟨#[]⟩) := by rw [hown.cellAt k (by omega), fillV_at _ _ k (by rw [unhide HCL]; exact hlt)]
   have hf2 := hown.frozenAt k
   have hlt' : (k : Int) < (l.length : Int) := by omega
   have R := hown.stored k (.string (l[k]))
   rw [fillV_set _ _ k _ (cS_at l k hlt)] at R
   have R2 : Below w.heap.size w (wr.setCell ⟨w.heap.size, k, none⟩ (.string (l[k]))) := hb.setCell (p := ⟨w.heap.size, k, none⟩) (Nat.le_refl _) _
   have R1 := R.1
   clear hc R hown hb HR hblt HCL
   go_wp2_with fail
   go_roundw
   case rel => exact ⟨k + 1, by omega, by go_num, R1, R2⟩
   case measure => simp [intOf]; omega
  ·rw [fillV_all _ _ k (by rw [unhide HCL]; omega)] at hown
   go_wp2_with fail
   go_ret
   exact ⟨rfl, hown, hb⟩

set_option maxHeartbeats 400000 in
set_option maxRecDepth 100000 in
theorem sameString (a c : Option Addr) (cap cap2 : Nat) (l : List ByteArray) (hl : l.length ≤ 1048576) (w : World) (hr : RowV w a (cS l)) (hr2 : RowV w c (cS l)) :
  Calls Tryz.prog 8 #[.slice a l.length cap, .slice c l.length cap2] w fun e w' => e = .returned (.bool true) ∧ Below w.heap.size w w' := by
 have HR := hide hr
 have HR2 := hide hr2
 have HCL := hide (cS_len l)
 clear hr hr2
 have hne : ((l.length : Int) != (l.length : Int)) = false := by simp
 go_enter Tryz.func8, Tryz.ntmps8
 go_wp2_with fail
 go_loopw [5] (fun i wr => ∃ k : Nat, k ≤ l.length ∧ i = .int .i64 k ∧ Below w.heap.size w wr) (fun i _ => l.length - (intOf i).toNat)
 case atStart => exact ⟨0, by omega, rfl, Below.refl _ _⟩
 case round =>
  obtain ⟨k, hk, rfl, hb⟩ := hrel
  by_cases hlt : k < l.length
  ·obtain ⟨b, off, ha, hblt, hc⟩ := (unhide HR).at (by rw [unhide HCL]; omega)
   obtain ⟨b2, off2, ha2, hblt2, hc2⟩ := (unhide HR2).at (by rw [unhide HCL]; omega)
   subst ha ha2
   have hc1 : wr.cell? ⟨b, off + k, none⟩ = some (.string (l[k])) := (hb.cell (p := ⟨b, off + k, none⟩) hblt).trans (hc k _ (cS_at l k hlt))
   have hc3 : wr.cell? ⟨b2, off2 + k, none⟩ = some (.string (l[k])) := (hb.cell (p := ⟨b2, off2 + k, none⟩) hblt2).trans (hc2 k _ (cS_at l k hlt))
   have hlt' : (k : Int) < (l.length : Int) := by omega
   have hlt0 : (0 : Int) ≤ (k : Int) := by omega
   have hne2 : (l[k].toList != l[k].toList) = false := by simp
   clear hc hc2 HR HR2 HCL
   go_wp2_with fail
   go_region_held3 (fun w' => w'.cell? ⟨b, off + k, none⟩ = some (.string (l[k])) ∧ w'.cell? ⟨b2, off2 + k, none⟩ = some (.string (l[k]))) (go_keep) (fail)
   all_goals
    go_wp2_with fail
    go_roundw
    case rel => exact ⟨k + 1, by omega, by go_num, hb.drew⟩
    case measure => simp [intOf]; omega
  ·go_wp2_with fail
   go_ret
   exact ⟨rfl, hb⟩

/-- The text of a mark. -/
def mtD : Nat → Nat → List UInt8 → List UInt8
 | 0, _, acc => acc
 | f + 1, k, acc => if k = 0 then acc else mtD f (k / 10) (UInt8.ofNat (48 + k % 10) :: acc)
def mtS (k : Nat) : ByteArray := ⟨(109 :: mtD k k []).toArray⟩
theorem mtD_zero (f : Nat) (acc : List UInt8) : mtD f 0 acc = acc := by cases f <;> simp [mtD]
theorem mtD_step (f k : Nat) (acc : List UInt8) (hk : 0 < k) (hf : k ≤ f) : mtD f k acc = mtD (f - 1) (k / 10) (UInt8.ofNat (48 + k % 10) :: acc) := by
 obtain ⟨f, rfl⟩ : ∃ g, f = g + 1 := ⟨f - 1, by omega⟩
 show (if k = 0 then acc else _) = _
 rw [if_neg (by omega)]; rfl
theorem str_app (a b : List UInt8) : (⟨a.toArray⟩ : ByteArray) ++ ⟨b.toArray⟩ = ⟨(a ++ b).toArray⟩ := by
 apply ByteArray.ext; simp
set_option maxHeartbeats 400000 in
set_option maxRecDepth 100000 in
theorem markText27 (k0 : Nat) (h0 : 0 < k0) (hk0 : k0 ≤ 40000000) (w : World) :
  Calls Tryz.prog 31 #[.int .i64 (k0 : Int)] w fun e w' => e = .returned (.string (mtS k0)) ∧ Below w.heap.size w w' := by
 have h0' : ¬ (k0 : Int) ≤ 0 := by omega
 go_enter Tryz.func31, Tryz.ntmps31
 go_wp2_with fail
 go_loopw [0, 3] (fun kk s wr => ∃ (k f : Nat) (acc : List UInt8), kk = .int .i64 (k : Int) ∧ k ≤ 40000000 ∧ k ≤ f ∧ s = .string ⟨acc.toArray⟩ ∧ Hid (acc.length + k ≤ 40000000) ∧ Hid (mtD f k acc = mtD k0 k0 []) ∧ Below w.heap.size w wr) (fun kk _ _ => (intOf kk).toNat)
 case atStart => exact ⟨k0, k0, [], rfl, hk0, Nat.le_refl _, rfl, by show [].length + k0 ≤ 40000000; simpa using hk0, rfl, Below.refl _ _⟩
 case round =>
  obtain ⟨k, f, acc, rfl, hk, hf, rfl, HA, HM, hb⟩ := hrel
  by_cases hp : 0 < k
  ·have hp' : 0 < (k : Int) := by omega
   obtain ⟨c, hc⟩ : ∃ c : UInt8, c = UInt8.ofNat (48 + k % 10) := ⟨_, rfl⟩
   have hcv : (48 + (k : Int) % 10) = (c.toNat : Int) := by rw [hc, UInt8.toNat_ofNat']; omega
   have hcv2 : (48 + (k : Int).tmod 10) = (c.toNat : Int) := by rw [Int.tmod_eq_emod_of_nonneg (by omega)]; exact hcv
   have hc255 : (c.toNat : Int) % 256 = (c.toNat : Int) := by have := c.toNat_lt; omega
   have hdq : (k : Int).tdiv 10 = ((k / 10 : Nat) : Int) := by rw [Int.tdiv_eq_ediv_of_nonneg (by omega)]; omega
   have HM2 : Hid (mtD (f - 1) (k / 10) (c :: acc) = mtD k0 k0 []) := by show _ = _; rw [← unhide HM, mtD_step f k acc hp hf, hc]
   have HC := hide hc
   have hcw : (convert 94 9 (.slice (some ⟨wr.heap.size, 0, none⟩) 1 1)).run Tryz.prog (wr.alloc (.cells #[.int .u8 (c.toNat : Int)] 5)) = .ok (.string ⟨#[c]⟩) (wr.alloc (.cells #[.int .u8 (c.toNat : Int)] 5)) := by
    have := conv_own (P := Tryz.prog) (l := [c]) (base := wr.heap.size) Tryz.underlying94 Tryz.underlying5 Tryz.underlying9 (World.ownsRow_lit wr #[.int .u8 (c.toNat : Int)] 1 (Nat.le_refl _) (by decide) rfl)
    exact this
   have hap : (⟨#[c]⟩ : ByteArray) ++ ⟨acc.toArray⟩ = ⟨(c :: acc).toArray⟩ := str_app [c] acc
   have hal : acc.length ≤ 40000000 := by have := unhide HA; omega
   clear hc
   go_wp2_with fail
   go_roundw
   case rel => exact ⟨k / 10, f - 1, c :: acc, by go_num, by omega, by omega, rfl, by show (c :: acc).length + k / 10 ≤ 40000000; have := unhide HA; rw [List.length_cons]; omega, HM2, hb.alloc hb.size _⟩
   case measure => simp [intOf]; omega
  ·have hp' : ¬ 0 < (k : Int) := by omega
   have ek : k = 0 := by omega
   have HV : Hid ((⟨#[109]⟩ : ByteArray) ++ ⟨acc.toArray⟩ = mtS k0) := by
    show _ = _
    have := unhide HM
    rw [ek, mtD_zero] at this
    rw [this]; exact str_app [109] (mtD k0 k0 [])
   have hal : acc.length ≤ 40000000 := by have := unhide HA; omega
   clear ek
   go_wp2_with fail
   go_ret
   exact ⟨ret_string (unhide HV), hb⟩
end Go.Proofs.YtfogppnijdjakaaGreatDoor

/- Rows of nodes, of stores: how they are read. -/
namespace Go.Proofs.YtfogppnijdjakaaGreatDoor
open Go.ChangeShapes Go.WideShapes Go.ChangeAt Go.RowKit
set_option linter.unusedVariables false
def RD.read (w : World) (r : RD) : Prop := ∃ a cap, r.v = .slice a r.n cap ∧ RowV w a r.xs
theorem RD.read_own {w : World} {lo : Nat} {r : RD} (h : r.own w lo) : r.read w := ownZ_rowV h
theorem RD.read.below {w w' : World} {r : RD} (h : r.read w) (hb : Below w.heap.size w w') : r.read w' := by
 obtain ⟨a, cap, e, hr⟩ := h
 exact ⟨a, cap, e, hr.below hb⟩
/-- A row of records that can be read, with the rows of each. -/
structure RRow {A : Type} (c : A → List Value) (rows : A → List RD) (w : World) (v : Value) (L : List A) : Prop where
 row : ∃ a cap, v = .slice a L.length cap ∧ RowV w a (L.flatMap c)
 ent : ∀ p ∈ L, ∀ r ∈ rows p, r.read w
theorem RRow.below {A : Type} {c : A → List Value} {rows : A → List RD} {w w' : World} {v : Value} {L : List A} (h : RRow c rows w v L) (hb : Below w.heap.size w w') : RRow c rows w' v L := by
 obtain ⟨⟨a, cap, e, hr⟩, he⟩ := h
 exact ⟨⟨a, cap, e, hr.below hb⟩, fun p hp r hr => (he p hp r hr).below hb⟩
theorem RRow.of_own {A : Type} {c : A → List Value} {rows : A → List RD} {w : World} {lo lo2 z : Nat} {t : TypeId} {v : Value} {L : List A} (h : w.ownsRow lo t z v L.length (L.flatMap c)) (hF : FOwn w lo2 (L.flatMap rows)) : RRow c rows w v L :=
 ⟨ownZ_rowV h, fun p hp r hr => RD.read_own (hF.own r (List.mem_flatMap.2 ⟨p, hp, hr⟩))⟩
/-- A node and where its rows lie. -/
structure NdA where
 n : Nf
 ea : Option Addr
 ec : Nat
 va : Option Addr
 vc : Nat
 xa : Option Addr
 xc : Nat
 ga : Option Addr
 gc : Nat
def cN (p : NdA) : List Value := [.int .i64 p.n.id, .int .i64 p.n.nd, .int .i64 p.n.tm, .int .i64 p.n.vt, .int .i64 p.n.ro, .bool p.n.up, .slice p.ea p.n.l.length p.ec, .int .i64 p.n.cm, .int .i64 p.n.el, .int .i64 p.n.wt, .slice p.va p.n.lv.length p.vc, .slice p.xa p.n.lx.length p.xc, .slice p.ga p.n.lg.length p.gc]
def nrows (p : NdA) : List RD := [⟨103, 2, .slice p.ea p.n.l.length p.ec, p.n.l.length, cE p.n.l⟩, ⟨3, 1, .slice p.va p.n.lv.length p.vc, p.n.lv.length, cI p.n.lv⟩, ⟨3, 1, .slice p.xa p.n.lx.length p.xc, p.n.lx.length, cI p.n.lx⟩, ⟨3, 1, .slice p.ga p.n.lg.length p.gc, p.n.lg.length, cI p.n.lg⟩]
def NdA.fits (M : Nat) (p : NdA) : Prop := p.n.l.length ≤ M ∧ p.n.lv.length ≤ M ∧ p.n.lx.length ≤ M ∧ p.n.lg.length ≤ M ∧ ∀ k (h : k < p.n.l.length), p.n.l[k].2.size ≤ M
theorem fits_n {M : Nat} {p q : NdA} (h : p.fits M) (e : p.n = q.n) : q.fits M := by unfold NdA.fits at h ⊢; rw [← e]; exact h
/-- The cells of a node. -/
def N13 (w : World) (b o : Nat) (p : NdA) : Prop := w.cell? ⟨b, o, none⟩ = some (.int .i64 p.n.id) ∧ w.cell? ⟨b, o + 1, none⟩ = some (.int .i64 p.n.nd) ∧ w.cell? ⟨b, o + 2, none⟩ = some (.int .i64 p.n.tm) ∧ w.cell? ⟨b, o + 3, none⟩ = some (.int .i64 p.n.vt) ∧ w.cell? ⟨b, o + 4, none⟩ = some (.int .i64 p.n.ro) ∧ w.cell? ⟨b, o + 5, none⟩ = some (.bool p.n.up) ∧ w.cell? ⟨b, o + 6, none⟩ = some (.slice p.ea p.n.l.length p.ec) ∧ w.cell? ⟨b, o + 7, none⟩ = some (.int .i64 p.n.cm) ∧ w.cell? ⟨b, o + 8, none⟩ = some (.int .i64 p.n.el) ∧ w.cell? ⟨b, o + 9, none⟩ = some (.int .i64 p.n.wt) ∧ w.cell? ⟨b, o + 10, none⟩ = some (.slice p.va p.n.lv.length p.vc) ∧ w.cell? ⟨b, o + 11, none⟩ = some (.slice p.xa p.n.lx.length p.xc) ∧ w.cell? ⟨b, o + 12, none⟩ = some (.slice p.ga p.n.lg.length p.gc)
theorem row_N13 {w : World} {b off : Nat} {L : List NdA} (hc : ∀ i u, (L.flatMap cN)[i]? = some u → w.cell? ⟨b, off + i, none⟩ = some u) (k : Nat) (h : k < L.length) : N13 w b (off + k * 13) L[k] := by
 have q : ∀ j u, j < 13 → (cN L[k])[j]? = some u → w.cell? ⟨b, off + k * 13 + j, none⟩ = some u := fun j u hj hu => by
  rw [Nat.add_assoc]; exact hc _ _ ((flat_at (z := 13) (fun p => rfl) L k h j hj).trans hu)
 exact ⟨q 0 _ (by decide) rfl, q 1 _ (by decide) rfl, q 2 _ (by decide) rfl, q 3 _ (by decide) rfl, q 4 _ (by decide) rfl, q 5 _ (by decide) rfl, q 6 _ (by decide) rfl, q 7 _ (by decide) rfl, q 8 _ (by decide) rfl, q 9 _ (by decide) rfl, q 10 _ (by decide) rfl, q 11 _ (by decide) rfl, q 12 _ (by decide) rfl⟩
theorem N13.below {w w' : World} {b o : Nat} {p : NdA} {B : Nat} (h : N13 w b o p) (hb : Below B w w') (hlt : b < B) : N13 w' b o p := by
 obtain ⟨h0, h1, h2, h3, h4, h5, h6, h7, h8, h9, h10, h11, h12⟩ := h
 have q : ∀ j u, w.cell? ⟨b, j, none⟩ = some u → w'.cell? ⟨b, j, none⟩ = some u := fun j u hu => (hb.cell (p := ⟨b, j, none⟩) hlt).trans hu
 exact ⟨q _ _ h0, q _ _ h1, q _ _ h2, q _ _ h3, q _ _ h4, q _ _ h5, q _ _ h6, q _ _ h7, q _ _ h8, q _ _ h9, q _ _ h10, q _ _ h11, q _ _ h12⟩
theorem nd_rows {w : World} {p : NdA} (h : ∀ r ∈ nrows p, r.read w) : RowV w p.ea (cE p.n.l) ∧ RowV w p.va (cI p.n.lv) ∧ RowV w p.xa (cI p.n.lx) ∧ RowV w p.ga (cI p.n.lg) := by
 have q : ∀ (r : RD) (a : Option Addr) (cap : Nat), r.v = .slice a r.n cap → r ∈ nrows p → RowV w a r.xs := fun r a cap e hr => by
  obtain ⟨a2, c2, e2, h2⟩ := h r hr
  rw [e] at e2
  injection e2 with e2; subst e2; exact h2
 exact ⟨q ⟨103, 2, .slice p.ea p.n.l.length p.ec, p.n.l.length, cE p.n.l⟩ p.ea p.ec rfl (by simp [nrows]), q ⟨3, 1, .slice p.va p.n.lv.length p.vc, p.n.lv.length, cI p.n.lv⟩ p.va p.vc rfl (by simp [nrows]), q ⟨3, 1, .slice p.xa p.n.lx.length p.xc, p.n.lx.length, cI p.n.lx⟩ p.xa p.xc rfl (by simp [nrows]), q ⟨3, 1, .slice p.ga p.n.lg.length p.gc, p.n.lg.length, cI p.n.lg⟩ p.ga p.gc rfl (by simp [nrows])⟩
/-- A store: its bytes, how many are sure. -/
abbrev StA := ByteArray × Int
def cSt (p : StA) : List Value := [.string p.1, .int .i64 p.2]
def norows {A : Type} (_ : A) : List RD := []
/-- The cells of a store. -/
def S2 (w : World) (b o : Nat) (p : StA) : Prop := w.cell? ⟨b, o, none⟩ = some (.string p.1) ∧ w.cell? ⟨b, o + 1, none⟩ = some (.int .i64 p.2)
theorem row_S2 {w : World} {b off : Nat} {L : List StA} (hc : ∀ i u, (L.flatMap cSt)[i]? = some u → w.cell? ⟨b, off + i, none⟩ = some u) (k : Nat) (h : k < L.length) : S2 w b (off + k * 2) L[k] := by
 have q : ∀ j u, j < 2 → (cSt L[k])[j]? = some u → w.cell? ⟨b, off + k * 2 + j, none⟩ = some u := fun j u hj hu => by
  rw [Nat.add_assoc]; exact hc _ _ ((flat_at (z := 2) (fun p => rfl) L k h j hj).trans hu)
 exact ⟨q 0 _ (by decide) rfl, q 1 _ (by decide) rfl⟩
theorem S2.below {w w' : World} {b o : Nat} {p : StA} {B : Nat} (h : S2 w b o p) (hb : Below B w w') (hlt : b < B) : S2 w' b o p := by
 obtain ⟨h0, h1⟩ := h
 have q : ∀ j u, w.cell? ⟨b, j, none⟩ = some u → w'.cell? ⟨b, j, none⟩ = some u := fun j u hu => (hb.cell (p := ⟨b, j, none⟩) hlt).trans hu
 exact ⟨q _ _ h0, q _ _ h1⟩
def mrows (p : MgA) : List RD := [⟨103, 2, sl p, p.1.es.length, cE p.1.es⟩]
def Mg.fits (M : Nat) (p : Mg) : Prop := p.es.length ≤ M ∧ ∀ k (h : k < p.es.length), p.es[k].2.size ≤ M
theorem MRow.of {w : World} {v : Value} {L : List MgA} (h : RRow cM mrows w v L) : MRow w v L := by
 refine ⟨h.row, fun p hp => ?_⟩
 obtain ⟨a, c, e, hr⟩ := h.ent p hp _ (List.mem_singleton.2 rfl)
 unfold sl at e
 injection e with e; subst e; exact hr
theorem MRow.to {w : World} {v : Value} {L : List MgA} (h : MRow w v L) : RRow cM mrows w v L := by
 refine ⟨h.row, fun p hp r hr => ?_⟩
 obtain rfl := List.mem_singleton.1 hr
 exact ⟨p.2.1, p.2.2, rfl, h.ent p hp⟩
theorem fill_set {A : Type} (L : List A) (z p : A) (m : Nat) : (L ++ List.replicate (m + 1) z).set L.length p = (L ++ [p]) ++ List.replicate m z := by
 rw [List.set_append_right _ _ (Nat.le_refl _), Nat.sub_self, List.replicate_succ, List.set_cons_zero]; simp
theorem made_flat {A : Type} {c : A → List Value} {k : Nat} (hz : ∀ p, (c p).length = k) (hk : 0 < k) (z : A) (cs : Array Value) (hc : cs.toList = c z) (n : Nat) : (madeCells cs (n * k)).toList = (List.replicate n z).flatMap c := by
 have hl : cs.size = k := by rw [← Array.length_toList, hc, hz]
 apply List.ext_getElem?
 intro j
 by_cases hj : j < n * k
 ·have h1 := flat_at hz (List.replicate n z) (j / k) (by rw [List.length_replicate]; exact Nat.div_lt_of_lt_mul (by rw [Nat.mul_comm]; exact hj)) (j % k) (Nat.mod_lt _ hk)
  rw [List.getElem_replicate, show j / k * k + j % k = j from by rw [Nat.mul_comm]; exact Nat.div_add_mod j k] at h1
  rw [h1, ← hc]
  have h2 : j % k < cs.size := by rw [hl]; exact Nat.mod_lt _ hk
  simp [madeCells, hj, hl, getElem!_pos cs (j % k) h2, Array.getElem?_eq_getElem h2]
 ·rw [List.getElem?_eq_none (by simp [madeCells]; omega), List.getElem?_eq_none (by rw [flat_len hz, List.length_replicate]; omega)]
end Go.Proofs.YtfogppnijdjakaaGreatDoor

/- A block that stands, and what is stored into it. -/
namespace Go.Proofs.YtfogppnijdjakaaGreatDoor
open Go.ChangeShapes Go.WideShapes Go.ChangeAt Go.RowKit
/-- A block that stands and may be written. -/
structure BF (n : Nat) (cs : Array Value) (wA : World) : Prop where
 S : ∀ o, wA.cell? ⟨n, o, none⟩ = cs[o]?
 F : ∀ o, wA.frozen? ⟨n, o, none⟩ = false
 lt : n < wA.heap.size
theorem BF.keep {n : Nat} {cs : Array Value} {wA w' : World} (h : BF n cs wA) (hs : wA.heap.size ≤ w'.heap.size) (hb : w'.heap[n]? = wA.heap[n]?) : BF n cs w' :=
 ⟨fun o => (World.cell?_of_block hb).trans (h.S o), fun o => (World.frozen?_of_block hb).trans (h.F o), Nat.lt_of_lt_of_le h.lt hs⟩
theorem BF.below {n : Nat} {cs : Array Value} {wA w' : World} (h : BF n cs wA) (hb : Below wA.heap.size wA w') : BF n cs w' := h.keep hb.size (hb.block n h.lt)
theorem BF.alloc {n : Nat} {cs : Array Value} {wA : World} (h : BF n cs wA) (o : Obj) : BF n cs (wA.alloc o) := h.below ((Below.refl _ _).alloc (Nat.le_refl _) o)
theorem BF.grown {n : Nat} {cs : Array Value} {wA w' : World} {row : Option Nat} (h : BF n cs wA) (hg : wA.grownBy w' row) (hne : row ≠ some n) : BF n cs w' := h.keep hg.size (hg.block n h.lt (fun e => hne e.symm))
theorem BF.new (wA : World) (cs : Array Value) (t : TypeId) : BF wA.heap.size cs (wA.alloc (.cells cs t)) := ⟨fun o => World.cell?_alloc_mark wA _ _ _ o, fun o => by simp [go_sem], by simp⟩
theorem BF.set {n : Nat} {cs : Array Value} {wA : World} (h : BF n cs wA) (o : Nat) (ho : o < cs.size) (v : Value) : BF n (cs.setIfInBounds o v) (wA.setCell ⟨n, o, none⟩ v) := by
 refine ⟨fun k => ?_, fun k => by rw [World.frozen?_setCell]; exact h.F k, by simpa using h.lt⟩
 by_cases e : k = o
 ·subst e
  have h1 : wA.cell? ⟨n, k, none⟩ = some cs[k] := by rw [h.S k]; exact Array.getElem?_eq_getElem ho
  rw [World.cell?_setCell_same _ _ _ h1, Array.getElem?_setIfInBounds_self_of_lt ho]
 ·rw [World.cell?_setCell_other _ _ _ _ (by intro h2; injection h2 with _ h3; exact e h3.symm), h.S k, Array.getElem?_setIfInBounds_ne (Ne.symm e)]
theorem BF.far {n : Nat} {cs : Array Value} {wA : World} (h : BF n cs wA) (a : Addr) (v : Value) (hne : a.block ≠ n) : BF n cs (wA.setCell a v) :=
 ⟨fun k => by rw [World.cell?_setCell_other _ _ _ _ (by intro h2; rw [h2] at hne; exact hne rfl)]; exact h.S k, fun k => by rw [World.frozen?_setCell]; exact h.F k, by simpa using h.lt⟩
theorem BF.drew {n : Nat} {cs : Array Value} {wA : World} (h : BF n cs wA) : BF n cs wA.drew := h.below (Below.refl _ _).drew
end Go.Proofs.YtfogppnijdjakaaGreatDoor

/- Rows of entries, states: the laws' own helpers. -/
namespace Go.Proofs.YtfogppnijdjakaaGreatDoor
open Go.ChangeShapes Go.WideShapes Go.ChangeAt Go.RowKit
theorem Tryz.infL103 : (Tryz.prog.info? 103).map (fun i => (i.zero, i.size, i.bytes)) = some (some (.agg #[.int .i64 0, .string ⟨#[]⟩]), 2, 24) := by kernel_rfl
set_option maxHeartbeats 400000 in
set_option maxRecDepth 100000 in
theorem eqEnt1 (x : Int) (y : ByteArray) (w : World) : Calls Tryz.prog 93 #[.agg #[.int .i64 x, .string y], .agg #[.int .i64 x, .string y]] w fun e w' => e = .returned (.bool true) ∧ Below w.heap.size w w' := by
 have n1 : (x != x) = false := by simp
 have n2 : (y.toList != y.toList) = false := by simp
 have hb0 := Go.Joins.below_alloc2 w (Obj.cells #[.int .i64 x, .string y] 103) (Obj.cells #[.int .i64 x, .string y] 103)
 have HB := hide hb0
 clear hb0
 go_enter Tryz.func93, Tryz.ntmps93
 go_wp2_with fail
 go_ret
 exact ⟨rfl, unhide HB⟩
set_option maxHeartbeats 400000 in
set_option maxRecDepth 100000 in
theorem sameEnt (a c : Option Addr) (cap cap2 : Nat) (l : List (Int × ByteArray)) (hl : l.length ≤ 1048576) (w : World) (hr : RowV w a (cE l)) (hr2 : RowV w c (cE l)) :
  Calls Tryz.prog 72 #[.slice a l.length cap, .slice c l.length cap2] w fun e w' => e = .returned (.bool true) ∧ Below w.heap.size w w' := by
 have HR := hide hr
 have HR2 := hide hr2
 have HCL := hide (cE_len l)
 clear hr hr2
 have hne : ((l.length : Int) != (l.length : Int)) = false := by simp
 go_enter Tryz.func72, Tryz.ntmps72
 go_wp2_with fail
 go_loopw [5] (fun i wr => ∃ k : Nat, k ≤ l.length ∧ i = .int .i64 k ∧ Below w.heap.size w wr) (fun i _ => l.length - (intOf i).toNat)
 case atStart => exact ⟨0, by omega, rfl, Below.refl _ _⟩
 case round =>
  obtain ⟨k, hk, rfl, hb⟩ := hrel
  by_cases hlt : k < l.length
  ·obtain ⟨b, off, ha, hblt, hc⟩ := (unhide HR).at (by rw [unhide HCL]; omega)
   obtain ⟨b2, off2, ha2, hblt2, hc2⟩ := (unhide HR2).at (by rw [unhide HCL]; omega)
   subst ha ha2
   obtain ⟨x0, x1⟩ := row_ent hc k hlt
   obtain ⟨y0, y1⟩ := row_ent hc2 k hlt
   obtain ⟨x, ex⟩ : ∃ x, x = l[k].1 := ⟨_, rfl⟩
   obtain ⟨y, ey⟩ : ∃ y, y = l[k].2 := ⟨_, rfl⟩
   rw [← ex] at x0 y0
   rw [← ey] at x1 y1
   have hx0 : wr.cell? ⟨b, off + k * 2, none⟩ = some (.int .i64 x) := (hb.cell (p := ⟨b, off + k * 2, none⟩) hblt).trans x0
   have hx1 : wr.cell? ⟨b, off + k * 2 + 1, none⟩ = some (.string y) := (hb.cell (p := ⟨b, off + k * 2 + 1, none⟩) hblt).trans x1
   have hy0 : wr.cell? ⟨b2, off2 + k * 2, none⟩ = some (.int .i64 x) := (hb.cell (p := ⟨b2, off2 + k * 2, none⟩) hblt2).trans y0
   have hy1 : wr.cell? ⟨b2, off2 + k * 2 + 1, none⟩ = some (.string y) := (hb.cell (p := ⟨b2, off2 + k * 2 + 1, none⟩) hblt2).trans y1
   have hlt' : (k : Int) < (l.length : Int) := by omega
   have hlt0 : (0 : Int) ≤ (k : Int) := by omega
   have HB := hide hb
   clear hc hc2 HR HR2 HCL x0 x1 y0 y1 ex ey hb
   have hbw : b < wr.heap.size := Nat.lt_of_lt_of_le hblt (unhide HB).size
   have hbw2 : b2 < wr.heap.size := Nat.lt_of_lt_of_le hblt2 (unhide HB).size
   go_wp2_with fail
   go_region_held3 (fun w' => w'.cell? ⟨b, off + k * 2, none⟩ = some (.int .i64 x) ∧ w'.cell? ⟨b, off + k * 2 + 1, none⟩ = some (.string y) ∧ w'.cell? ⟨b2, off2 + k * 2, none⟩ = some (.int .i64 x) ∧ w'.cell? ⟨b2, off2 + k * 2 + 1, none⟩ = some (.string y)) (first | exact ⟨hx0, hx1, hy0, hy1⟩ | exact hs2) (first | (go_at_call 93; refine (eqEnt1 x y _).mono ?_; rintro e w2 ⟨rfl, hb2⟩; have hs2 : w2.cell? ⟨b, off + k * 2, none⟩ = some (.int .i64 x) ∧ w2.cell? ⟨b, off + k * 2 + 1, none⟩ = some (.string y) ∧ w2.cell? ⟨b2, off2 + k * 2, none⟩ = some (.int .i64 x) ∧ w2.cell? ⟨b2, off2 + k * 2 + 1, none⟩ = some (.string y) := ⟨((below_undrew hb2).cell (p := ⟨b, off + k * 2, none⟩) hbw).trans hx0, ((below_undrew hb2).cell (p := ⟨b, off + k * 2 + 1, none⟩) hbw).trans hx1, ((below_undrew hb2).cell (p := ⟨b2, off2 + k * 2, none⟩) hbw2).trans hy0, ((below_undrew hb2).cell (p := ⟨b2, off2 + k * 2 + 1, none⟩) hbw2).trans hy1⟩; have HB2 := hide ((unhide HB).trans ((below_undrew hb2).mono (unhide HB).size)); clear hb2))
   go_wp2_with fail
   go_roundw
   case rel => exact ⟨k + 1, by omega, by go_num, unhide HB2⟩
   case measure => simp [intOf]; omega
  ·go_wp2_with fail
   go_ret
   exact ⟨rfl, hb⟩
set_option maxHeartbeats 400000 in
set_option maxRecDepth 100000 in
theorem toEnt1 (x : Int) (y : ByteArray) (w : World) : Calls Tryz.prog 81 #[.agg #[.int .i64 x, .string y]] w fun e w' => e = .returned (.agg #[.int .i64 x, .string y]) ∧ Below w.heap.size w w' := by
 go_enter Tryz.func81, Tryz.ntmps81
 go_wp2_with fail
 refine bodyPost_ret (v := .agg #[.int .i64 x, .string y]) (by simp [results, Tryz.results81, go_sem]) rfl ⟨rfl, ?_⟩
 exact Go.Joins.below_alloc3 w _ _ _
set_option maxHeartbeats 400000 in
set_option maxRecDepth 100000 in
theorem copyEnt (a : Option Addr) (cap : Nat) (l : List (Int × ByteArray)) (hl : l.length ≤ 1048576) (w : World) (hr : RowV w a (cE l)) :
  Calls Tryz.prog 61 #[.slice a l.length cap] w fun e w' => e = .returned (.slice (some ⟨w.heap.size, 0, none⟩) l.length l.length) ∧
   w'.ownsRow w.heap.size 103 2 (.slice (some ⟨w.heap.size, 0, none⟩) l.length l.length) l.length (cE l) ∧ Below w.heap.size w w' := by
 obtain ⟨i0, hi, hz0, hz1, hz2⟩ := info_parts Tryz.infL103
 go_enter Tryz.func61, Tryz.ntmps61
 go_wp2_with (at_make; refine wpList_make_full _ rfl _ _ 69 rfl w.heap.size 103 i0 (.agg #[.int .i64 0, .string ⟨#[]⟩]) 2 Tryz.underlying69 hi hz0 hz1 .i64 .i64 _ _ l.length rfl rfl rfl rfl (by rw [hz2]; omega) (by unfold maxLen; omega) (Nat.le_refl _) ?_; intro w1 hown hgrow)
 rw [show (Value.agg #[.int .i64 0, .string ⟨#[]⟩]).cells = #[.int .i64 0, .string ⟨#[]⟩] from rfl, made_ent, ← fillE_zero] at hown
 have hb1 := (Below.refl w.heap.size w).grown hgrow (Nat.le_refl _) (fun k hk => by cases hk)
 clear hgrow
 have HR := hide hr
 have HCL := hide (cE_len l)
 clear hr
 go_loopw [4] (fun i wr => ∃ k : Nat, k ≤ l.length ∧ i = .int .i64 k ∧ Hid (wr.ownsRow w.heap.size 103 2 (.slice (some ⟨w.heap.size, 0, none⟩) l.length l.length) l.length (cE (fillE l k))) ∧ Hid (Below w.heap.size w wr)) (fun i _ => l.length - (intOf i).toNat)
 case atStart => exact ⟨0, by omega, rfl, hown, hb1⟩
 case round =>
  clear hown hb1
  obtain ⟨k, hk, rfl, HO, HB⟩ := hrel
  by_cases hlt : k < l.length
  ·obtain ⟨b, off, ha, hblt, hc⟩ := (unhide HR).at (by rw [unhide HCL]; omega)
   subst ha
   obtain ⟨x0, x1⟩ := row_ent hc k hlt
   obtain ⟨x, ex⟩ : ∃ x, x = l[k].1 := ⟨_, rfl⟩
   obtain ⟨y, ey⟩ : ∃ y, y = l[k].2 := ⟨_, rfl⟩
   have HS : Hid (((cE (fillE l k)).set (k * 2) (.int .i64 x)).set (k * 2 + 1) (.string y) = cE (fillE l (k + 1))) := by show _ = _; rw [ex, ey, cE_set, fillE_set l k hlt]
   have HU0 : Hid ((cE (fillE l k))[k * 2]? = some (.int .i64 0)) := by have := (cE_at (fillE l k) k (by rw [fillE_len l k hk]; exact hlt)).1; rw [fillE_at l k hlt] at this; exact this
   have HU1 : Hid ((cE (fillE l k))[k * 2 + 1]? = some (.string ⟨#[]⟩)) := by have := (cE_at (fillE l k) k (by rw [fillE_len l k hk]; exact hlt)).2; rw [fillE_at l k hlt] at this; exact this
   rw [← ex] at x0
   rw [← ey] at x1
   have hx0 : wr.cell? ⟨b, off + k * 2, none⟩ = some (.int .i64 x) := ((unhide HB).cell (p := ⟨b, off + k * 2, none⟩) hblt).trans x0
   have hx1 : wr.cell? ⟨b, off + k * 2 + 1, none⟩ = some (.string y) := ((unhide HB).cell (p := ⟨b, off + k * 2 + 1, none⟩) hblt).trans x1
   have hlt' : (k : Int) < (l.length : Int) := by omega
   have hlt0 : (0 : Int) ≤ (k : Int) := by omega
   clear hc HR HCL x0 x1 ex ey
   have hz := (unhide HB).size
   have HZ := hide hz
   clear hz
   go_wp2_with (go_at_call 81; refine (toEnt1 x y _).mono ?_; rintro e w2 ⟨rfl, hb2⟩; have H2 := ((heldZ_of (unhide HO)).below hb2 (Nat.le_refl _)).own; have c0 : w2.cell? ⟨w.heap.size, k * 2, none⟩ = some (.int .i64 0) := (H2.cellAt (k * 2) (by omega)).trans (unhide HU0); have c1 : w2.cell? ⟨w.heap.size, k * 2 + 1, none⟩ = some (.string ⟨#[]⟩) := (H2.cellAt (k * 2 + 1) (by omega)).trans (unhide HU1); have f0 := H2.frozenAt (k * 2); have f1 := H2.frozenAt (k * 2 + 1); have R := ((H2.stored (k * 2) (.int .i64 x)).1.stored (k * 2 + 1) (.string y)).1; rw [unhide HS] at R; have HR1 := hide R; have HB2 := hide ((((unhide HB).trans (hb2.mono (unhide HZ))).setCell (p := ⟨w.heap.size, k * 2, none⟩) (Nat.le_refl _) (.int .i64 x)).setCell (p := ⟨w.heap.size, k * 2 + 1, none⟩) (Nat.le_refl _) (.string y)); clear R H2 hb2)
   go_roundw
   case rel => exact ⟨k + 1, by omega, by go_num, HR1, HB2⟩
   case measure => simp [intOf]; omega
  ·have ho := unhide HO
   rw [fillE_all _ _ (by omega)] at ho
   go_wp2_with fail
   go_ret
   exact ⟨rfl, ho, unhide HB⟩
set_option maxHeartbeats 400000 in
set_option maxRecDepth 100000 in
theorem szEnt1 (t : Int) (d : ByteArray) (hd : d.size ≤ maxLen) (y : Nat) (hy : y ≤ 1048576) (w : World) : Calls Tryz.prog 74 #[.agg #[.int .i64 t, .string d], .int .i64 (y : Int)] w fun e w' => ∃ x : Int, e = .returned (.int .i64 x) ∧ Below w.heap.size w w' ∧ (x = -1 ∨ ∃ z : Nat, x = (z : Int) ∧ z ≤ y ∧ d.size ≤ 1048576) := by
 have HB := hide (Go.Joins.below_alloc1 w (.cells #[.int .i64 t, .string d] 113))
 unfold maxLen at hd
 obtain ⟨a, ha⟩ : ∃ a : Nat, a = d.size := ⟨_, rfl⟩
 have HA := hide ha
 rw [← ha] at hd
 have la : (d.size : Int) = (a : Int) := by rw [ha]
 clear ha
 by_cases c1 : a ≤ y
 ·go_enter Tryz.func74, Tryz.ntmps74
  go_wp2_with fail
  go_ret
  exact ⟨_, rfl, unhide HB, .inr ⟨y - a, by omega, by omega, by rw [← unhide HA]; omega⟩⟩
 ·go_enter Tryz.func74, Tryz.ntmps74
  go_wp2_with fail
  go_ret
  exact ⟨_, rfl, unhide HB, .inl rfl⟩
set_option maxHeartbeats 1000000 in
set_option maxRecDepth 100000 in
theorem szEnt (a : Option Addr) (cap n : Nat) (l : List (Int × ByteArray)) (HN : Hid (l.length = n)) (Y : Nat) (hY : Y ≤ 1048576) (hl : n ≤ maxLen) (hsz : ∀ k (h : k < l.length), l[k].2.size ≤ maxLen) (w : World) (hr : RowV w a (cE l)) :
  Calls Tryz.prog 54 #[.slice a n cap, .int .i64 (Y : Int)] w fun e w' => ∃ x : Int, e = .returned (.int .i64 x) ∧ Below w.heap.size w w' ∧ (x = -1 ∨ ∃ z : Nat, x = (z : Int) ∧ z + n ≤ Y ∧ n ≤ 1048576 ∧ ∀ k (h : k < l.length), l[k].2.size ≤ 1048576) := by
 have HR := hide hr
 have HZ := hide hsz
 have HCL := hide (cE_len l)
 have hl2 : (n : Int) ≤ 9223372036854775807 := by unfold maxLen at hl; omega
 clear hr hsz hl
 by_cases big : Y < n
 ·have b1 : (Y : Int) - (n : Int) < 0 := by omega
  go_enter Tryz.func54, Tryz.ntmps54
  go_wp2_with fail
  go_ret
  exact ⟨_, rfl, Below.refl _ _, .inl rfl⟩
 ·have hb : n ≤ Y := by omega
  go_enter Tryz.func54, Tryz.ntmps54
  go_wp2_with fail
  go_loopw [1, 5] (fun s i wr => ∃ (k y : Nat), k ≤ n ∧ i = .int .i64 k ∧ s = .int .i64 (y : Int) ∧ y + n ≤ Y ∧ Hid (∀ q (h : q < l.length), q < k → l[q].2.size ≤ 1048576) ∧ Hid (Below w.heap.size w wr)) (fun _ i _ => n - (intOf i).toNat)
  case atStart => exact ⟨0, Y - n, by omega, rfl, by go_num, by omega, fun q _ h => absurd h (Nat.not_lt_zero _), Below.refl _ _⟩
  case round =>
   obtain ⟨k, y, hk, rfl, rfl, hy, HF, HB⟩ := hrel
   by_cases hlt : k < n
   ·obtain ⟨b, off, ha, hblt, hc⟩ := (unhide HR).at (by rw [unhide HCL, unhide HN]; omega)
    subst ha
    have hlk : k < l.length := by rw [unhide HN]; exact hlt
    obtain ⟨x0, x1⟩ := row_ent hc k hlk
    obtain ⟨t, et⟩ : ∃ t, t = l[k].1 := ⟨_, rfl⟩
    obtain ⟨d, ed⟩ : ∃ d, d = l[k].2 := ⟨_, rfl⟩
    rw [← et] at x0
    rw [← ed] at x1
    have hx0 : wr.cell? ⟨b, off + k * 2, none⟩ = some (.int .i64 t) := ((unhide HB).cell (p := ⟨b, off + k * 2, none⟩) hblt).trans x0
    have hx1 : wr.cell? ⟨b, off + k * 2 + 1, none⟩ = some (.string d) := ((unhide HB).cell (p := ⟨b, off + k * 2 + 1, none⟩) hblt).trans x1
    have hlt' : (k : Int) < (n : Int) := by omega
    have hlt0 : (0 : Int) ≤ (k : Int) := by omega
    have HD : Hid (d.size ≤ maxLen) := by show _ ≤ _; rw [ed]; exact unhide HZ k hlk
    have HED := hide ed
    clear hc x0 x1 et ed
    go_wp2_with fail
    refine (szEnt1 t d (unhide HD) y (by omega) _).mono ?_
    rintro e w2 ⟨x, rfl, hb2, hx⟩
    have HB2 := hide ((unhide HB).trans (hb2.mono (unhide HB).size))
    clear hb2 HB hx0 hx1
    rcases hx with rfl | ⟨z, rfl, hz, hd⟩
    ·go_wp2_with fail
     go_ret
     exact ⟨_, rfl, unhide HB2, .inl rfl⟩
    ·have hz0 : ¬ (z : Int) < 0 := by omega
     have HF2 : Hid (∀ q (h : q < l.length), q < k + 1 → l[q].2.size ≤ 1048576) := fun q h hq => by
      by_cases e : q = k
      ·subst e; rw [← unhide HED]; exact hd
      ·exact unhide HF q h (by omega)
     clear hd HF HR HCL HZ
     go_wp2_with fail
     go_roundw
     case rel => exact ⟨k + 1, z, by omega, by go_num, rfl, by omega, HF2, HB2⟩
     case measure => simp [intOf]; omega
   ·have HF2 : Hid (∀ q (h : q < l.length), l[q].2.size ≤ 1048576) := fun q h => unhide HF q h (by have := unhide HN; omega)
    go_wp2_with fail
    go_ret
    exact ⟨(y : Int), rfl, unhide HB, .inr ⟨y, rfl, hy, by omega, unhide HF2⟩⟩
end Go.Proofs.YtfogppnijdjakaaGreatDoor

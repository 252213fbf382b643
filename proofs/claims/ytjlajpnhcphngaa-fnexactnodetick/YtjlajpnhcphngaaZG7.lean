/- Texts put together: NdQ UtI ClnI NumM ReadNumM CopI. -/
import Derived.Test.YtjlajpnhcphngaaZNdJ
import Derived.Test.YtjlajpnhcphngaaZNdK
import Derived.Test.YtjlajpnhcphngaaZNdP
import Derived.Test.YtjlajpnhcphngaaZG1
import Derived.Deep.AppendLies
import Derived.Deep.AppendSrc
import Derived.Deep.Upon
import Derived.Lib.SliceRun
import Derived.Lib.SmallJoins
import Derived.Test.YtjlajpnhcphngaaZG0
import Derived.Laws.BitsAllLaws
import Derived.Laws.BitsLemmas
import Derived.Test.YtjlajpnhcphngaaZG2
/- Which nodes are right: what the program answers. -/
namespace Go.Proofs.Ytjlajpnhcphngaa
open Go.ChangeShapes Go.WideShapes Go.ChangeAt Go.RowKit
set_option linter.unusedVariables false
theorem inodeok (id nd tm vt ro cm el wt : Int) (up : Bool) (a : Option Addr) (cap n : Nat) (l : List (Int × ByteArray)) (HN : Hid (l.length = n)) (av : Option Addr) (cv nv : Nat) (lv : List Int) (HNv : Hid (lv.length = nv)) (ax : Option Addr) (cx nx : Nat) (lx : List Int) (HNx : Hid (lx.length = nx)) (ag : Option Addr) (cg ng : Nat) (lg : List Int) (HNg : Hid (lg.length = ng)) (hn : n ≤ 1048576) (hnv : nv ≤ 1048576) (hnx : nx ≤ 1048576) (hng : ng ≤ 1048576) (HSZ : Hid (∀ k (h : k < l.length), l[k].2.size ≤ 1048576)) (R : Bool) (HR : Hid (R = nodeB id nd tm vt ro cm el wt up l lv lx lg)) (w : World) (hr : RowV w a (cE l)) (hrv : RowV w av (cI lv)) (hrx : RowV w ax (cI lx)) (hrg : RowV w ag (cI lg)) :
    Calls Try.prog 22 #[.agg #[.int .i64 id, .int .i64 nd, .int .i64 tm, .int .i64 vt, .int .i64 ro, .bool up, .slice a n cap, .int .i64 cm, .int .i64 el, .int .i64 wt, .slice av nv cv, .slice ax nx cx, .slice ag ng cg]] w fun e w' => e = .returned (.bool R) ∧ Below w.heap.size w w' := by
  have hR := unhide HR
  unfold nodeB at hR
  rw [unhide HN] at hR
  rcases bdic (inB nd 1 5) with c0 | c0
  · obtain rfl : R = false := by rw [hR, c0]; simp
    exact inode_0 id nd tm vt ro cm el wt up a cap n l HN av cv nv lv HNv ax cx nx lx HNx ag cg ng lg HNg hn hnv hnx hng HSZ c0.symm w hr hrv hrx hrg
  rcases bdic (inB id 0 (nd - 1)) with c1 | c1
  · obtain rfl : R = false := by rw [hR, c1]; simp
    exact inode_1 id nd tm vt ro cm el wt up a cap n l HN av cv nv lv HNv ax cx nx lx HNx ag cg ng lg HNg hn hnv hnx hng HSZ c0.symm c1.symm w hr hrv hrx hrg
  rcases bdic (decide (vt < nd)) with c2 | c2
  · obtain rfl : R = false := by rw [hR, c2]; simp
    exact inode_2 id nd tm vt ro cm el wt up a cap n l HN av cv nv lv HNv ax cx nx lx HNx ag cg ng lg HNg hn hnv hnx hng HSZ c0.symm c1.symm c2.symm w hr hrv hrx hrg
  rcases bdic (stateB tm vt l) with c3 | c3
  · obtain rfl : R = false := by rw [hR, c3]; simp
    exact inode_3 id nd tm vt ro cm el wt up a cap n l HN av cv nv lv HNv ax cx nx lx HNx ag cg ng lg HNg hn hnv hnx hng HSZ c0.symm c1.symm c2.symm c3.symm w hr hrv hrx hrg
  rcases bdic (roleB ro up) with c4 | c4
  · obtain rfl : R = false := by rw [hR, c4]; simp
    exact inode_4 id nd tm vt ro cm el wt up a cap n l HN av cv nv lv HNv ax cx nx lx HNx ag cg ng lg HNg hn hnv hnx hng HSZ c0.symm c1.symm c2.symm c3.symm c4.symm w hr hrv hrx hrg
  rcases bdic (inB cm 0 (n : Int)) with c5 | c5
  · obtain rfl : R = false := by rw [hR, c5]; simp
    exact inode_5 id nd tm vt ro cm el wt up a cap n l HN av cv nv lv HNv ax cx nx lx HNx ag cg ng lg HNg hn hnv hnx hng HSZ c0.symm c1.symm c2.symm c3.symm c4.symm c5.symm w hr hrv hrx hrg
  rcases bdic (inB el 0 1000) with c6 | c6
  · obtain rfl : R = false := by rw [hR, c6]; simp
    exact inode_6 id nd tm vt ro cm el wt up a cap n l HN av cv nv lv HNv ax cx nx lx HNx ag cg ng lg HNg hn hnv hnx hng HSZ c0.symm c1.symm c2.symm c3.symm c4.symm c5.symm c6.symm w hr hrv hrx hrg
  rcases bdic (inB wt 5 100) with c7 | c7
  · obtain rfl : R = false := by rw [hR, c7]; simp
    exact inode_7 id nd tm vt ro cm el wt up a cap n l HN av cv nv lv HNv ax cx nx lx HNx ag cg ng lg HNg hn hnv hnx hng HSZ c0.symm c1.symm c2.symm c3.symm c4.symm c5.symm c6.symm c7.symm w hr hrv hrx hrg
  rcases bdic (upB nd 0 lv) with c8 | c8
  · obtain rfl : R = false := by rw [hR, c8]; simp
    exact inode_8 id nd tm vt ro cm el wt up a cap n l HN av cv nv lv HNv ax cx nx lx HNx ag cg ng lg HNg hn hnv hnx hng HSZ c0.symm c1.symm c2.symm c3.symm c4.symm c5.symm c6.symm c7.symm c8.symm w hr hrv hrx hrg
  rcases bdic (placesB nd (n : Int) lx lg) with c9 | c9
  · obtain rfl : R = false := by rw [hR, c9]; simp
    exact inode_9 id nd tm vt ro cm el wt up a cap n l HN av cv nv lv HNv ax cx nx lx HNx ag cg ng lg HNg hn hnv hnx hng HSZ c0.symm c1.symm c2.symm c3.symm c4.symm c5.symm c6.symm c7.symm c8.symm c9.symm w hr hrv hrx hrg
  obtain rfl : R = true := by rw [hR, c0, c1, c2, c3, c4, c5, c6, c7, c8, c9]; rfl
  exact inode_10 id nd tm vt ro cm el wt up a cap n l HN av cv nv lv HNv ax cx nx lx HNx ag cg ng lg HNg hn hnv hnx hng HSZ c0.symm c1.symm c2.symm c3.symm c4.symm c5.symm c6.symm c7.symm c8.symm c9.symm w hr hrv hrx hrg
end Go.Proofs.Ytjlajpnhcphngaa

/- Whether a log is up to date: what the program answers. -/
namespace Go.Proofs.Ytjlajpnhcphngaa
open Go.ChangeShapes Go.WideShapes Go.ChangeAt Go.RowKit
set_option linter.unusedVariables false
set_option maxHeartbeats 4000000 in
set_option maxRecDepth 100000 in
theorem itermat (id nd tm vt ro cm el wt : Int) (up : Bool) (a : Option Addr) (cap n : Nat) (av : Option Addr) (cv nv : Nat) (ax : Option Addr) (cx nx : Nat) (ag : Option Addr) (cg ng : Nat) (l : List Ent) (HN : Hid (l.length = n)) (hn : n ≤ 1048576) (k : Nat) (hk : k ≤ n) (TT : Int) (HT : Hid (TT = tAt l k)) (w : World) (hr : RowV w a (cE l)) :
    Calls Try.prog 65 #[.agg #[.int .i64 id, .int .i64 nd, .int .i64 tm, .int .i64 vt, .int .i64 ro, .bool up, .slice a n cap, .int .i64 cm, .int .i64 el, .int .i64 wt, .slice av nv cv, .slice ax nx cx, .slice ag ng cg], .int .i64 (k : Int)] w fun e w' => e = .returned (.int .i64 TT) ∧ Below w.heap.size w w' := by
  have B0 := hide (Go.Joins.below_alloc1 w (.cells #[.int .i64 id, .int .i64 nd, .int .i64 tm, .int .i64 vt, .int .i64 ro, .bool up, .slice a n cap, .int .i64 cm, .int .i64 el, .int .i64 wt, .slice av nv cv, .slice ax nx cx, .slice ag ng cg] 29))
  by_cases h0 : k = 0
  · have z1 : ((k : Int) == 0) = true := by simpa using h0
    obtain rfl : TT = 0 := by rw [unhide HT, h0]; exact tAt_zero l
    clear h0 HT
    go_enter Try.func65, Try.ntmps65
    go_wp2_with fail
    go_ret
    exact ⟨rfl, unhide B0⟩
  · have z1 : ((k : Int) == 0) = false := by simpa using h0
    obtain ⟨j, hj⟩ : ∃ j, k = j + 1 := ⟨k - 1, by omega⟩
    have hjl : j < l.length := by rw [unhide HN]; omega
    obtain ⟨b, off, ha, hblt, hc⟩ := hr.at (by rw [cE_len, unhide HN]; omega)
    subst ha
    obtain ⟨x0, x1⟩ := row_ent hc j hjl
    have hT : TT = l[j].1 := by rw [unhide HT, hj]; exact tAt_succ l j hjl
    rw [← hT] at x0
    have hx0 := ((unhide B0).cell (p := ⟨b, off + j * 2, none⟩) hblt).trans x0
    have hw1 : IntKind.i64.wrap ((k : Int) - 1) = (j : Int) := by rw [wrapi _ (by omega) (by omega)]; omega
    have hj1 : (j : Int) < (n : Int) := by omega
    have hj0 : (0 : Int) ≤ (j : Int) := by omega
    clear hc x0 x1 hT hj hjl h0 HT hk
    go_enter Try.func65, Try.ntmps65
    go_wp2_with fail
    go_ret
    exact ⟨rfl, unhide B0⟩
end Go.Proofs.Ytjlajpnhcphngaa

/- Logs copied: slices.Clone, (State).copied, l07Own. append of entries. -/
namespace Go.Proofs.Ytjlajpnhcphngaa
open Go.ChangeShapes Go.WideShapes Go.ChangeAt Go.RowKit
set_option linter.unusedVariables false
theorem Try.infE68 : (Try.prog.info? 68).map (fun i => (i.zero, i.size, i.bytes)) = some (some (.agg #[.int .i64 0, .string ⟨#[]⟩]), 2, 24) := by kernel_rfl
/-- An empty literal that gets a row of entries, empty or not. -/
theorem append_ents {P : Program} (w : World) {ops : Array Oper} {rest : List Oper} {o : Oper} {a : Act} {Q : Exit → Act → World → Prop} (hgd : o.guard = none) (s x : Operand) (t : TypeId)
    (ho : o.op = .call { callee := .builtin .append, args := #[s, x], argTypes := #[t, t] }) (base : Nat) (e : TypeId) (i : TypeInfo) (ht : P.underlying t = some (.slice e)) (hi : P.info? e = some i) (hz : i.zero = some (.agg #[.int .i64 0, .string ⟨#[]⟩])) (hsize : i.size = 2) (hby : i.bytes = 24)
    (v : Value) (hs : a.eval s = v) (hown : w.ownsRow base e 2 v 0 [])
    (sp : Option Addr) (sc n : Nat) (l : List (Int × ByteArray)) (hn : l.length = n) (hx : a.eval x = .slice sp n sc) (hr : RowV w sp (cE l)) (hb : n ≤ 1048576) (hbase : base ≤ w.heap.size)
    (h : ∀ v' w', w'.ownsRow base e 2 v' n (cE l) → w.grownBy w' v.ownBlock → wpList P ops Q rest (a.put o.dst v') w') :
    wpList P ops Q (o :: rest) a w := by
  by_cases h0 : n = 0
  · subst h0
    obtain rfl : l = [] := List.length_eq_zero_iff.1 hn
    obtain ⟨pv, cv, rfl, -⟩ := ownZ_rowV hown
    have hsrc : Src P i.size t (.slice sp 0 sc) 0 [] w := by
      cases sp with
      | none => exact Src.ofNil w ht sc
      | some ad => exact Src.ofSlice w ht ad 0 sc [] (by simp) (fun j u hu => by simp at hu) (fun u hu => by cases hu)
    have hrun := run_append_nothing (P := P) w t t o.type e i ht hi pv 0 cv (Nat.zero_le _) (.slice sp 0 sc) hsrc
    refine wpList_plain hgd fun K hK => ?_
    unfold Oper.wp
    simp [execOp, ho, resolve, invoke, builtin, hs, hx, hrun, Result.andThen]
    exact hK _ _ (h _ w hown (grownBy_refl _ _))
  · obtain ⟨b, off, rfl, _, hc⟩ := hr.at (by rw [cE_len]; omega)
    refine wpList_append_lies w hgd s x t ho base e i (.agg #[.int .i64 0, .string ⟨#[]⟩]) 2 24 ht hi hz hsize hby rfl (by decide) v 0 [] hs hown ⟨b, off, none⟩ n sc (cE l) hx (by rw [cE_len, hn]) ?_ (cE_one l) (by omega) (by unfold maxLen; omega) (by omega) hbase _ rfl ?_
    · intro j u hu
      rw [show (⟨b, off, none⟩ : Addr).add j = ⟨b, off + j, none⟩ from by unfold Addr.add; split <;> simp_all]
      exact hc j u hu
    · intro g cap w' ho1 hg1 hat _
      rw [List.nil_append] at ho1
      refine cast ?_ (h (.slice (some ⟨g, 0, none⟩) n cap) w' (by have := ho1; rw [Nat.zero_add] at this; exact this) hg1)
      rw [Nat.zero_add]
theorem lit_emptyE (w : World) (t : TypeId) (base : Nat) (hb : base ≤ w.heap.size) : (w.alloc (.cells #[] t)).ownsRow base t 2 (.slice (some ⟨w.heap.size, 0, none⟩) 0 0) 0 [] := by
  have h := World.ownsRow_lit (e := t) (base := base) (size := 2) w #[] 0 hb (by unfold maxLen; omega) rfl
  simpa using h
set_option maxHeartbeats 1000000 in
set_option maxRecDepth 100000 in
theorem iclone (x : Addr) (cap n : Nat) (l : List (Int × ByteArray)) (HN : Hid (l.length = n)) (hn : n ≤ 1048576) (w : World) (hr : RowV w (some x) (cE l)) :
    Calls Try.prog 46 #[.slice (some x) n cap] w fun e w' => ∃ v, e = .returned v ∧ w'.ownsRow w.heap.size 68 2 v n (cE l) ∧ Below w.heap.size w w' := by
  obtain ⟨i0, hi, hz0, hz1, hz2⟩ := info_parts Try.infE68
  have hnil : ∀ W, (binOp .eql 27 (.slice (some x) n cap) (.slice none 0 0)).run Try.prog W = .ok (.bool false) W := fun W => Go.Lib.run_eql_slice_nil W _ _ (some x) n cap 0 0 Try.underlying27
  have HR := hide hr
  have hown := lit_emptyE w 68 w.heap.size (Nat.le_refl _)
  have HB := hide (Go.Joins.below_alloc1 w (.cells #[] 68))
  clear hr
  go_enter Try.func46, Try.ntmps46
  go_wp2_with (at_builtin; refine append_ents _ rfl (.tmp 5) (.tmp 6) 27 rfl w.heap.size 68 i0 Try.underlying27 hi hz0 hz1 hz2 _ rfl hown (some x) cap n l (unhide HN) rfl ((unhide HR).below (unhide HB)) hn (by simp) ?_; intro v2 w2 ho2 hg2; have HO2 := hide ho2; have HB2 := hide ((unhide HB).grown hg2 (unhide HB).size (fun k hk => (hown.lt k hk).1)); clear ho2 hg2 hown)
  go_ret
  exact ⟨_, rfl, unhide HO2, unhide HB2⟩
end Go.Proofs.Ytjlajpnhcphngaa

/- Numbers as bytes, the higher ones first: what both texts write and read. -/
namespace Go.Proofs.Ytjlajpnhcphngaa
open Go.ChangeShapes Go.WideShapes Go.ChangeAt Go.RowKit

def nb (v j : Nat) : UInt8 := UInt8.ofNat (v / 256 ^ j % 256)
def be (v : Nat) : Nat → List UInt8
  | 0 => []
  | s + 1 => nb v s :: be v s
def ofBE (l : List UInt8) : Nat := l.foldl (fun n c => n * 256 + c.toNat) 0
end Go.Proofs.Ytjlajpnhcphngaa

/- Bytes read as numbers: the plain mathematics. -/
namespace Go.Proofs.Ytjlajpnhcphngaa
open Go.ChangeShapes Go.WideShapes Go.ChangeAt Go.RowKit
def chunk (l : List UInt8) (k : Nat) : List UInt8 := (l.drop (3 * k)).take 3
def numsR (l : List UInt8) (n : Nat) : List Int := (List.range n).map fun k => ((ofBE (chunk l k) : Nat) : Int) - 1
def rnL (l : List UInt8) : List Int := if 65536 < l.length then [] else if l.length % 3 = 0 then (if 4096 < l.length / 3 then [] else numsR l (l.length / 3)) else []
def rnC (l : List UInt8) : Int := if 65536 < l.length then 2 else if l.length % 3 = 0 then (if 4096 < l.length / 3 then 6 else 0) else 3
theorem lit_emptyI (w : World) (base : Nat) (t : TypeId) (hb : base ≤ w.heap.size) : (w.alloc (.cells #[] t)).ownsRow base t 1 (.slice (some ⟨w.heap.size, 0, none⟩) 0 0) ([] : List Int).length (cI []) :=
  World.ownsRow_lit w #[] 0 hb (by decide) rfl
end Go.Proofs.Ytjlajpnhcphngaa

/- slices.Clone of any log, (State).copied: what the program answers. -/
namespace Go.Proofs.Ytjlajpnhcphngaa
open Go.ChangeShapes Go.WideShapes Go.ChangeAt Go.RowKit
set_option linter.unusedVariables false
theorem own_low {w : World} {base b2 : Nat} {e : TypeId} {z : Nat} {v : Value} {n : Nat} {xs : List Value} (h : w.ownsRow base e z v n xs) (hb : b2 ≤ base) : w.ownsRow b2 e z v n xs := by
  obtain ⟨h1, h2 | ⟨g, cap, cur, hv, hbg, hr⟩⟩ := h
  · exact ⟨h1, .inl h2⟩
  · exact ⟨h1, .inr ⟨g, cap, cur, hv, Nat.le_trans hb hbg, hr⟩⟩
theorem nil_ownE (w : World) (base : Nat) (t : TypeId) : w.ownsRow base t 2 (.slice none 0 0) 0 [] := ⟨by simp, .inl ⟨rfl, rfl⟩⟩
set_option maxHeartbeats 1000000 in
set_option maxRecDepth 100000 in
theorem icloneN (cap : Nat) (w : World) :
    Calls Try.prog 46 #[.slice none 0 cap] w fun e w' => ∃ v, e = .returned v ∧ w'.ownsRow w.heap.size 68 2 v 0 (cE []) ∧ Below w.heap.size w w' := by
  have hnil : ∀ W, (binOp .eql 27 (.slice none 0 cap) (.slice none 0 0)).run Try.prog W = .ok (.bool true) W := fun W => Go.Lib.run_eql_slice_nil W _ _ none 0 cap 0 0 Try.underlying27
  go_enter Try.func46, Try.ntmps46
  go_wp2_with fail
  go_ret
  exact ⟨_, rfl, nil_ownE _ _ _, Below.refl _ _⟩
theorem icloneA (a : Option Addr) (cap n : Nat) (l : List (Int × ByteArray)) (HN : Hid (l.length = n)) (hn : n ≤ 1048576) (w : World) (hr : RowV w a (cE l)) :
    Calls Try.prog 46 #[.slice a n cap] w fun e w' => ∃ v, e = .returned v ∧ w'.ownsRow w.heap.size 68 2 v n (cE l) ∧ Below w.heap.size w w' := by
  have h := unhide HN
  rcases hr with h0 | ⟨b, off, rfl, hlt, hc⟩
  · have hl : l.length = 0 := by
      have := congrArg List.length h0; rw [cE_len] at this; simp only [List.length_nil] at this; omega
    obtain rfl : l = [] := List.length_eq_zero_iff.1 hl
    obtain rfl : n = 0 := by rw [← h]; rfl
    cases a with
    | none => exact icloneN cap w
    | some x => exact iclone x cap 0 [] HN hn w (.inl h0)
  · exact iclone ⟨b, off, none⟩ cap n l HN hn w (.inr ⟨b, off, rfl, hlt, hc⟩)
end Go.Proofs.Ytjlajpnhcphngaa

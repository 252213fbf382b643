/- Texts put together: SteM NdM NfM MgM MsgM NumM IntS ReadNumM. -/
import Derived.Test.YtjjdeejajbmecaaGreatDoorZG0
import Derived.Laws.BitsAllLaws
import Derived.Laws.BitsLemmas
/- Which states are right. Plain mathematics. -/
namespace Go.Proofs.YtjjdeejajbmecaaGreatDoor
open Go.ChangeShapes Go.WideShapes Go.ChangeAt Go.RowKit
set_option linter.unusedVariables false
abbrev Ent := Int × ByteArray
def entB (p T : Int) (e : Ent) : Bool := inB e.1 p T && decide (e.2.size ≤ 400)
def logB (T : Int) : Int → List Ent → Bool
 | _, [] => true
 | p, e :: l => entB p T e && logB T e.1 l
def stateB (tm vt : Int) (l : List Ent) : Bool := inB tm 0 1000 && inB vt (-1) 4 && decide (l.length ≤ 60) && logB tm 1 l
theorem logB_step (T p : Int) (l : List Ent) (k : Nat) (h : k < l.length) : logB T p (l.drop k) = (entB p T l[k] && logB T l[k].1 (l.drop (k + 1))) := by
 rw [List.drop_eq_getElem_cons h]; rfl
theorem logB_end (T p : Int) (l : List Ent) (k : Nat) (h : l.length ≤ k) : logB T p (l.drop k) = true := by
 rw [List.drop_eq_nil_of_le h]; rfl
theorem st1 {tm vt : Int} {l : List Ent} (h : inB tm 0 1000 = false) : stateB tm vt l = false := by unfold stateB; rw [h]; rfl
theorem st2 {tm vt : Int} {l : List Ent} (h : inB vt (-1) 4 = false) : stateB tm vt l = false := by unfold stateB; rw [h]; simp
theorem st3 {tm vt : Int} {l : List Ent} (h : ¬ l.length ≤ 60) : stateB tm vt l = false := by unfold stateB; rw [decide_eq_false h]; simp
theorem st4 {tm vt : Int} {l : List Ent} (h1 : inB tm 0 1000 = true) (h2 : inB vt (-1) 4 = true) (h3 : l.length ≤ 60) : stateB tm vt l = logB tm 1 l := by unfold stateB; rw [h1, h2, decide_eq_true h3]; rfl
theorem state_parts {tm vt : Int} {l : List Ent} (h : stateB tm vt l = true) : (0 ≤ tm ∧ tm ≤ 1000) ∧ (-1 ≤ vt ∧ vt ≤ 4) ∧ l.length ≤ 60 ∧ logB tm 1 l = true := by
 unfold stateB inB at h; simp at h; exact ⟨h.1.1.1, h.1.1.2, h.1.2, h.2⟩
/-- The term that an entry at place k may not be below. -/
def prevT (l : List Ent) (k : Nat) : Int := if h : k - 1 < l.length ∧ 0 < k then l[k - 1].1 else 1
theorem prevT_zero (l : List Ent) : prevT l 0 = 1 := by unfold prevT; rw [dif_neg (by omega)]
theorem prevT_succ (l : List Ent) (k : Nat) (h : k < l.length) : prevT l (k + 1) = l[k].1 := by unfold prevT; rw [dif_pos ⟨by simpa using h, by omega⟩]; rfl
end Go.Proofs.YtjjdeejajbmecaaGreatDoor

/- Which nodes are right. Plain mathematics. -/
namespace Go.Proofs.YtjjdeejajbmecaaGreatDoor
open Go.ChangeShapes Go.WideShapes Go.ChangeAt Go.RowKit
set_option linter.unusedVariables false
theorem bdic (b : Bool) : b = false ∨ b = true := by cases b <;> simp
/-- Votes rise, each from q on. -/
def upB (nd : Int) : Int → List Int → Bool
 | _, [] => true
 | q, x :: l => inB x q (nd - 1) && upB nd (x + 1) l
/-- Places of each node. -/
def plB (n : Int) : List Int → List Int → Bool
 | x :: lx, g :: lg => inB x 1 (n + 1) && inB g 0 (x - 1) && plB n lx lg
 | _, _ => true
def roleB (ro : Int) (up : Bool) : Bool := inB ro 0 2 && (up || decide (ro = 0))
def placesB (nd : Int) (n : Int) (lx lg : List Int) : Bool := decide ((lx.length : Int) = nd) && decide ((lg.length : Int) = nd) && plB n lx lg
def nodeB (id nd tm vt ro cm el wt : Int) (up : Bool) (l : List Ent) (lv lx lg : List Int) : Bool :=
 inB nd 1 5 && inB id 0 (nd - 1) && decide (vt < nd) && stateB tm vt l && roleB ro up && inB cm 0 (l.length : Int) && inB el 0 1000 && inB wt 5 100 && upB nd 0 lv && placesB nd (l.length : Int) lx lg
theorem upB_step (nd q : Int) (l : List Int) (k : Nat) (h : k < l.length) : upB nd q (l.drop k) = (inB l[k] q (nd - 1) && upB nd (l[k] + 1) (l.drop (k + 1))) := by
 rw [List.drop_eq_getElem_cons h]; rfl
theorem upB_end (nd q : Int) (l : List Int) (k : Nat) (h : l.length ≤ k) : upB nd q (l.drop k) = true := by
 rw [List.drop_eq_nil_of_le h]; rfl
theorem plB_step (n : Int) (lx lg : List Int) (k : Nat) (h : k < lx.length) (h2 : k < lg.length) : plB n (lx.drop k) (lg.drop k) = (inB lx[k] 1 (n + 1) && inB lg[k] 0 (lx[k] - 1) && plB n (lx.drop (k + 1)) (lg.drop (k + 1))) := by
 rw [List.drop_eq_getElem_cons h, List.drop_eq_getElem_cons h2]; rfl
theorem plB_end (n : Int) (lx lg : List Int) (k : Nat) (h : lx.length ≤ k) : plB n (lx.drop k) (lg.drop k) = true := by
 rw [List.drop_eq_nil_of_le h]; rfl
/-- The least that a vote at place k may be. -/
def prevV (l : List Int) (k : Nat) : Int := if h : k - 1 < l.length ∧ 0 < k then l[k - 1] + 1 else 0
theorem prevV_zero (l : List Int) : prevV l 0 = 0 := by unfold prevV; rw [dif_neg (by omega)]
theorem prevV_succ (l : List Int) (k : Nat) (h : k < l.length) : prevV l (k + 1) = l[k] + 1 := by unfold prevV; rw [dif_pos ⟨by simpa using h, by omega⟩]; rfl
end Go.Proofs.YtjjdeejajbmecaaGreatDoor

/- A node's fields as one record. -/
namespace Go.Proofs.YtjjdeejajbmecaaGreatDoor
open Go.ChangeShapes Go.WideShapes Go.ChangeAt Go.RowKit
set_option linter.unusedVariables false
structure Nf where
 id : Int
 nd : Int
 tm : Int
 vt : Int
 ro : Int
 up : Bool
 l : List Ent
 cm : Int
 el : Int
 wt : Int
 lv : List Int
 lx : List Int
 lg : List Int
def nfZ : Nf := ⟨0, 0, 0, 0, 0, false, [], 0, 0, 0, [], [], []⟩
def nfB (N : Nf) : Bool := nodeB N.id N.nd N.tm N.vt N.ro N.cm N.el N.wt N.up N.l N.lv N.lx N.lg
end Go.Proofs.YtjjdeejajbmecaaGreatDoor

/- Rows of messages, each with its entries in a row of its own: how they are read. -/
namespace Go.Proofs.YtjjdeejajbmecaaGreatDoor
open Go.ChangeShapes Go.WideShapes Go.ChangeAt Go.RowKit
set_option linter.unusedVariables false
structure Mg where
 kd : Int
 fr : Int
 dst : Int
 tm : Int
 ix : Int
 lt : Int
 cm : Int
 ok : Bool
 es : List Ent
/-- A message and where its entries lie. -/
abbrev MgA := Mg × Option Addr × Nat
def sl (p : MgA) : Value := .slice p.2.1 p.1.es.length p.2.2
def cM (p : MgA) : List Value := [.int .i64 p.1.kd, .int .i64 p.1.fr, .int .i64 p.1.dst, .int .i64 p.1.tm, .int .i64 p.1.ix, .int .i64 p.1.lt, .int .i64 p.1.cm, .bool p.1.ok, sl p]
def cMs (L : List MgA) : List Value := L.flatMap cM
theorem cMs_len (L : List MgA) : (cMs L).length = L.length * 9 := by
 induction L with
 | nil => rfl
 | cons p L ih => show (cM p ++ cMs L).length = _; rw [List.length_append, ih]; simp [cM]; omega
/-- A row of messages that can be read. -/
structure MRow (w : World) (v : Value) (L : List MgA) : Prop where
 row : ∃ a cap, v = .slice a L.length cap ∧ RowV w a (cMs L)
 ent : ∀ p ∈ L, RowV w p.2.1 (cE p.1.es)
theorem MRow.below {w w' : World} {v : Value} {L : List MgA} (h : MRow w v L) (hb : Below w.heap.size w w') : MRow w' v L := by
 obtain ⟨⟨a, cap, e, hr⟩, he⟩ := h
 exact ⟨⟨a, cap, e, hr.below hb⟩, fun p hp => (he p hp).below hb⟩
theorem cMs_at (L : List MgA) (k : Nat) (h : k < L.length) (j : Nat) (hj : j < 9) : (cMs L)[k * 9 + j]? = (cM L[k])[j]? := by
 induction L generalizing k with
 | nil => simp at h
 | cons p L ih =>
  have e : cMs (p :: L) = cM p ++ cMs L := rfl
  have hl : (cM p).length = 9 := rfl
  rw [e]
  cases k with
  | zero => rw [List.getElem?_append_left (by omega)]; simp
  | succ k =>
   rw [List.getElem?_append_right (by omega), hl, show (k + 1) * 9 + j - 9 = k * 9 + j from by omega, ih k (by simpa using h)]
   simp
/-- The nine cells of a message. -/
def M9 (w : World) (b o : Nat) (p : MgA) : Prop := w.cell? ⟨b, o, none⟩ = some (.int .i64 p.1.kd) ∧ w.cell? ⟨b, o + 1, none⟩ = some (.int .i64 p.1.fr) ∧ w.cell? ⟨b, o + 2, none⟩ = some (.int .i64 p.1.dst) ∧ w.cell? ⟨b, o + 3, none⟩ = some (.int .i64 p.1.tm) ∧ w.cell? ⟨b, o + 4, none⟩ = some (.int .i64 p.1.ix) ∧ w.cell? ⟨b, o + 5, none⟩ = some (.int .i64 p.1.lt) ∧ w.cell? ⟨b, o + 6, none⟩ = some (.int .i64 p.1.cm) ∧ w.cell? ⟨b, o + 7, none⟩ = some (.bool p.1.ok) ∧ w.cell? ⟨b, o + 8, none⟩ = some (.slice p.2.1 p.1.es.length p.2.2)
theorem row_msg {w : World} {b off : Nat} {L : List MgA} (hc : ∀ i u, (cMs L)[i]? = some u → w.cell? ⟨b, off + i, none⟩ = some u) (k : Nat) (h : k < L.length) : M9 w b (off + k * 9) L[k] := by
 have q : ∀ j u, j < 9 → (cM L[k])[j]? = some u → w.cell? ⟨b, off + k * 9 + j, none⟩ = some u := fun j u hj hu => by
  rw [Nat.add_assoc]; exact hc _ _ ((cMs_at L k h j hj).trans hu)
 exact ⟨q 0 _ (by decide) rfl, q 1 _ (by decide) rfl, q 2 _ (by decide) rfl, q 3 _ (by decide) rfl, q 4 _ (by decide) rfl, q 5 _ (by decide) rfl, q 6 _ (by decide) rfl, q 7 _ (by decide) rfl, q 8 _ (by decide) rfl⟩
theorem M9.below {w w' : World} {b o : Nat} {p : MgA} {B : Nat} (h : M9 w b o p) (hb : Below B w w') (hlt : b < B) : M9 w' b o p := by
 obtain ⟨h0, h1, h2, h3, h4, h5, h6, h7, h8⟩ := h
 have q : ∀ j u, w.cell? ⟨b, j, none⟩ = some u → w'.cell? ⟨b, j, none⟩ = some u := fun j u hu => (hb.cell (p := ⟨b, j, none⟩) hlt).trans hu
 exact ⟨q _ _ h0, q _ _ h1, q _ _ h2, q _ _ h3, q _ _ h4, q _ _ h5, q _ _ h6, q _ _ h7, q _ _ h8⟩
end Go.Proofs.YtjjdeejajbmecaaGreatDoor

/- Which messages are right. Plain mathematics. -/
namespace Go.Proofs.YtjjdeejajbmecaaGreatDoor
open Go.ChangeShapes Go.WideShapes Go.ChangeAt Go.RowKit
set_option linter.unusedVariables false
/-- The first one's term is not below. -/
def firstB (lt : Int) : List Ent → Bool
 | [] => true
 | e :: _ => decide (lt ≤ e.1)
def entsB (kd tm ix lt : Int) (l : List Ent) : Bool := if kd = 3 then (decide (ix ≠ 0) || decide (lt = 0)) && decide (ix + (l.length : Int) ≤ 60) && firstB lt l && stateB tm (-1) l else decide (l.length = 0)
def msgB (kd fr dst tm ix lt cm : Int) (l : List Ent) : Bool := inB kd 1 4 && inB fr 0 4 && inB dst 0 4 && decide (fr ≠ dst) && inB tm 1 1000 && inB ix 0 60 && inB cm 0 60 && inB lt 0 tm && entsB kd tm ix lt l
theorem stateB_vote (tm : Int) (l : List Ent) : stateB tm 0 l = stateB tm (-1) l := by unfold stateB inB; simp
theorem firstB_at {lt : Int} {l : List Ent} (h : 0 < l.length) : firstB lt l = decide (lt ≤ l[0].1) := by cases l with | nil => simp at h | cons e l => rfl
theorem firstB_nil {lt : Int} {l : List Ent} (h : l.length = 0) : firstB lt l = true := by cases l with | nil => rfl | cons e l => simp at h
theorem ents_not {kd tm ix lt : Int} {l : List Ent} (h : kd ≠ 3) : entsB kd tm ix lt l = decide (l.length = 0) := by unfold entsB; rw [if_neg h]
theorem ents_app {tm ix lt : Int} {l : List Ent} : entsB 3 tm ix lt l = ((decide (ix ≠ 0) || decide (lt = 0)) && decide (ix + (l.length : Int) ≤ 60) && firstB lt l && stateB tm (-1) l) := by unfold entsB; rw [if_pos rfl]
end Go.Proofs.YtjjdeejajbmecaaGreatDoor

/- Numbers as bytes, the higher ones first: what both texts write and read. -/
namespace Go.Proofs.YtjjdeejajbmecaaGreatDoor
open Go.ChangeShapes Go.WideShapes Go.ChangeAt Go.RowKit

def nb (v j : Nat) : UInt8 := UInt8.ofNat (v / 256 ^ j % 256)
def be (v : Nat) : Nat → List UInt8
 | 0 => []
 | s + 1 => nb v s :: be v s
def ofBE (l : List UInt8) : Nat := l.foldl (fun n c => n * 256 + c.toNat) 0
theorem ofBE_app (l : List UInt8) (c : UInt8) : ofBE (l ++ [c]) = ofBE l * 256 + c.toNat := by unfold ofBE; rw [List.foldl_append]; rfl
theorem ofBE_snoc (l : List UInt8) (k : Nat) (h : k < l.length) : ofBE (l.take (k + 1)) = ofBE (l.take k) * 256 + l[k].toNat := by
 rw [List.take_succ_eq_append_getElem h, ofBE_app]
theorem ofBE_lt (l : List UInt8) (k : Nat) : ofBE (l.take k) < 256 ^ k := by
 induction k with
 | zero => simp [ofBE]
 | succ k ih =>
  by_cases h : k < l.length
  ·rw [ofBE_snoc l k h, Nat.pow_succ]; have := l[k].toNat_lt; omega
  ·rw [List.take_of_length_le (by omega)]; rw [List.take_of_length_le (by omega)] at ih; rw [Nat.pow_succ]; omega
theorem or_byte (n : Nat) (c : Nat) (hn : n < 4294967296) (hc : c < 256) : bits .or .i64 ((n : Int) * 256) (c : Int) = ((n * 256 + c : Nat) : Int) := by
 have h : n <<< 8 + c = n <<< 8 ||| c := Nat.shiftLeft_add_eq_or_of_lt (by omega) n
 rw [Nat.shiftLeft_eq, show (2 : Nat) ^ 8 = 256 from rfl] at h
 show IntKind.i64.wrap ((BitVec.ofInt 64 ((n : Int) * 256) ||| BitVec.ofInt 64 (c : Int)).toNat : Int) = _
 rw [show (n : Int) * 256 = ((n * 256 : Nat) : Int) from by omega, BitVec.toNat_or, ofInt_u64 (n * 256) (by omega), ofInt_u64 c (by omega), ← h, IntKind.wrap_i64]
 omega
theorem lit_empty (w : World) (base : Nat) (t : TypeId) (hb : base ≤ w.heap.size) : (w.alloc (.cells #[] t)).ownsRow base t 1 (.slice (some ⟨w.heap.size, 0, none⟩) 0 0) ([] : List UInt8).length (B8 []) :=
 World.ownsRow_lit w #[] 0 hb (by decide) rfl

end Go.Proofs.YtjjdeejajbmecaaGreatDoor

/- Rows of integers: the laws' own helpers. -/
namespace Go.Proofs.YtjjdeejajbmecaaGreatDoor
open Go.ChangeShapes Go.WideShapes Go.ChangeAt Go.RowKit
theorem Tryz.infL3 : (Tryz.prog.info? 3).map (fun i => (i.zero, i.size, i.bytes)) = some (some (.int .i64 0), 1, 8) := by kernel_rfl
def cI (l : List Int) : List Value := l.map fun c => .int .i64 (c)
theorem cI_len (l : List Int) : (cI l).length = l.length := by simp [cI]
theorem cI_at (l : List Int) (k : Nat) (h : k < l.length) : (cI l)[k]? = some (.int .i64 (l[k])) := by simp [cI, List.getElem?_eq_getElem h]
theorem cI_app (l m : List Int) : cI (l ++ m) = cI l ++ cI m := by simp [cI]
theorem cI_one (l : List Int) : ∀ u ∈ cI l, u.oneCell' = true := by
 intro u hu; simp [cI] at hu; obtain ⟨c, _, rfl⟩ := hu; rfl

set_option maxHeartbeats 400000 in
set_option maxRecDepth 100000 in
theorem copyInt (a : Option Addr) (cap : Nat) (l : List Int) (hl : l.length ≤ 1048576) (w : World) (hr : RowV w a (cI l)) :
  Calls Tryz.prog 62 #[.slice a l.length cap] w fun e w' => e = .returned (.slice (some ⟨w.heap.size, 0, none⟩) l.length l.length) ∧
   w'.ownsRow w.heap.size 3 1 (.slice (some ⟨w.heap.size, 0, none⟩) l.length l.length) l.length (cI l) ∧ Below w.heap.size w w' := by
 obtain ⟨i0, hi, hz0, hz1, hz2⟩ := info_parts Tryz.infL3
 have hcl := cI_len l
 go_enter Tryz.func62, Tryz.ntmps62
 go_wp2_with (at_make; refine wpList_make_full _ rfl _ _ 58 rfl w.heap.size 3 i0 (.int .i64 0) 1 Tryz.underlying58 hi hz0 hz1 .i64 .i64 _ _ l.length rfl rfl rfl rfl (by rw [hz2]; omega) (by unfold maxLen; omega) (Nat.le_refl _) ?_; intro w1 hown hgrow)
 rw [show l.length * 1 = (cI l).length * 1 from by rw [hcl], ← fillV_zero _ _ rfl] at hown
 have hb1 := (Below.refl w.heap.size w).grown hgrow (Nat.le_refl _) (fun k hk => by cases hk)
 clear hgrow
 have HR := hide hr
 have HCL := hide hcl
 clear hr hcl
 go_loopw [4] (fun i wr => ∃ k : Nat, k ≤ l.length ∧ i = .int .i64 k ∧ wr.ownsRow w.heap.size 3 1 (.slice (some ⟨w.heap.size, 0, none⟩) l.length l.length) l.length (fillV (.int .i64 0) (cI l) k) ∧ Below w.heap.size w wr) (fun i _ => l.length - (intOf i).toNat)
 case atStart => exact ⟨0, by omega, rfl, hown, hb1⟩
 case round =>
  clear hown hb1
  obtain ⟨k, hk, rfl, hown, hb⟩ := hrel
  by_cases hlt : k < l.length
  ·obtain ⟨b, off, ha, hblt, hc⟩ := (unhide HR).at (by rw [unhide HCL]; omega)
   subst ha
   have hc1 : wr.cell? ⟨b, off + k, none⟩ = some (.int .i64 (l[k])) := (hb.cell (p := ⟨b, off + k, none⟩) hblt).trans (hc k _ (cI_at l k hlt))
   have hc2 : wr.cell? ⟨w.heap.size, k, none⟩ = some (.int .i64 0) := by rw [hown.cellAt k (by omega), fillV_at _ _ k (by rw [unhide HCL]; exact hlt)]
   have hf2 := hown.frozenAt k
   have hlt' : (k : Int) < (l.length : Int) := by omega
   have R := hown.stored k (.int .i64 (l[k]))
   rw [fillV_set _ _ k _ (cI_at l k hlt)] at R
   have R2 : Below w.heap.size w (wr.setCell ⟨w.heap.size, k, none⟩ (.int .i64 (l[k]))) := hb.setCell (p := ⟨w.heap.size, k, none⟩) (Nat.le_refl _) _
   have R1 := R.1
   clear hc R hown hb HR hblt HCL
   go_wp2_with fail
   go_roundw
   case rel => exact ⟨k + 1, by omega, by go_num, R1, R2⟩
   case measure => simp [intOf]; omega
  ·rw [fillV_all _ _ k (by rw [unhide HCL]; omega)] at hown
   go_wp2_with fail
   go_ret
   exact ⟨rfl, hown, hb⟩

set_option maxHeartbeats 400000 in
set_option maxRecDepth 100000 in
theorem sameInt (a c : Option Addr) (cap cap2 : Nat) (l : List Int) (hl : l.length ≤ 1048576) (w : World) (hr : RowV w a (cI l)) (hr2 : RowV w c (cI l)) :
  Calls Tryz.prog 73 #[.slice a l.length cap, .slice c l.length cap2] w fun e w' => e = .returned (.bool true) ∧ Below w.heap.size w w' := by
 have HR := hide hr
 have HR2 := hide hr2
 have HCL := hide (cI_len l)
 clear hr hr2
 have hne : ((l.length : Int) != (l.length : Int)) = false := by simp
 go_enter Tryz.func73, Tryz.ntmps73
 go_wp2_with fail
 go_loopw [5] (fun i wr => ∃ k : Nat, k ≤ l.length ∧ i = .int .i64 k ∧ Below w.heap.size w wr) (fun i _ => l.length - (intOf i).toNat)
 case atStart => exact ⟨0, by omega, rfl, Below.refl _ _⟩
 case round =>
  obtain ⟨k, hk, rfl, hb⟩ := hrel
  by_cases hlt : k < l.length
  ·obtain ⟨b, off, ha, hblt, hc⟩ := (unhide HR).at (by rw [unhide HCL]; omega)
   obtain ⟨b2, off2, ha2, hblt2, hc2⟩ := (unhide HR2).at (by rw [unhide HCL]; omega)
   subst ha ha2
   have hc1 : wr.cell? ⟨b, off + k, none⟩ = some (.int .i64 (l[k])) := (hb.cell (p := ⟨b, off + k, none⟩) hblt).trans (hc k _ (cI_at l k hlt))
   have hc3 : wr.cell? ⟨b2, off2 + k, none⟩ = some (.int .i64 (l[k])) := (hb.cell (p := ⟨b2, off2 + k, none⟩) hblt2).trans (hc2 k _ (cI_at l k hlt))
   have hlt' : (k : Int) < (l.length : Int) := by omega
   have hlt0 : (0 : Int) ≤ (k : Int) := by omega
   have hne2 : ((l[k] : Int) != (l[k] : Int)) = false := by simp
   clear hc hc2 HR HR2 HCL
   go_wp2_with fail
   go_region_held3 (fun w' => w'.cell? ⟨b, off + k, none⟩ = some (.int .i64 (l[k])) ∧ w'.cell? ⟨b2, off2 + k, none⟩ = some (.int .i64 (l[k]))) (go_keep) (fail)
   all_goals
    go_wp2_with fail
    go_roundw
    case rel => exact ⟨k + 1, by omega, by go_num, hb.drew⟩
    case measure => simp [intOf]; omega
  ·go_wp2_with fail
   go_ret
   exact ⟨rfl, hb⟩

end Go.Proofs.YtjjdeejajbmecaaGreatDoor

/- Bytes read as numbers: the plain mathematics. -/
namespace Go.Proofs.YtjjdeejajbmecaaGreatDoor
open Go.ChangeShapes Go.WideShapes Go.ChangeAt Go.RowKit
def chunk (l : List UInt8) (k : Nat) : List UInt8 := (l.drop (3 * k)).take 3
def numsR (l : List UInt8) (n : Nat) : List Int := (List.range n).map fun k => ((ofBE (chunk l k) : Nat) : Int) - 1
theorem numsR_len (l : List UInt8) (n : Nat) : (numsR l n).length = n := by simp [numsR]
theorem numsR_snoc (l : List UInt8) (k : Nat) : numsR l (k + 1) = numsR l k ++ [((ofBE (chunk l k) : Nat) : Int) - 1] := by
 unfold numsR; rw [List.range_succ, List.map_append]; rfl
def rnL (l : List UInt8) : List Int := if 65536 < l.length then [] else if l.length % 3 = 0 then (if 4096 < l.length / 3 then [] else numsR l (l.length / 3)) else []
def rnC (l : List UInt8) : Int := if 65536 < l.length then 2 else if l.length % 3 = 0 then (if 4096 < l.length / 3 then 6 else 0) else 3
theorem rn_long {l : List UInt8} (h : 65536 < l.length) : rnL l = [] ∧ rnC l = 2 := by unfold rnL rnC; rw [if_pos h, if_pos h]; exact ⟨rfl, rfl⟩
theorem rn_form {l : List UInt8} (h : ¬ 65536 < l.length) (h2 : ¬ l.length % 3 = 0) : rnL l = [] ∧ rnC l = 3 := by unfold rnL rnC; rw [if_neg h, if_neg h, if_neg h2, if_neg h2]; exact ⟨rfl, rfl⟩
theorem rn_many {l : List UInt8} (h : ¬ 65536 < l.length) (h2 : l.length % 3 = 0) (h3 : 4096 < l.length / 3) : rnL l = [] ∧ rnC l = 6 := by unfold rnL rnC; rw [if_neg h, if_neg h, if_pos h2, if_pos h2, if_pos h3, if_pos h3]; exact ⟨rfl, rfl⟩
theorem rn_ok {l : List UInt8} (h : ¬ 65536 < l.length) (h2 : l.length % 3 = 0) (h3 : ¬ 4096 < l.length / 3) : rnL l = numsR l (l.length / 3) ∧ rnC l = 0 := by unfold rnL rnC; rw [if_neg h, if_neg h, if_pos h2, if_pos h2, if_neg h3, if_neg h3]; exact ⟨rfl, rfl⟩
theorem rnL_le (l : List UInt8) : (rnL l).length ≤ 4096 := by
 unfold rnL; split
 ·simp
 ·split
  ·split
   ·simp
   ·rw [numsR_len]; omega
  ·simp
theorem nil_ownI (w : World) (base : Nat) (t : TypeId) : w.ownsRow base t 1 (.slice none 0 0) ([] : List Int).length (cI []) := World.ownsRow_nil w base t 1
theorem lit_emptyI (w : World) (base : Nat) (t : TypeId) (hb : base ≤ w.heap.size) : (w.alloc (.cells #[] t)).ownsRow base t 1 (.slice (some ⟨w.heap.size, 0, none⟩) 0 0) ([] : List Int).length (cI []) :=
 World.ownsRow_lit w #[] 0 hb (by decide) rfl
theorem own_appI {w : World} {base : Nat} {e : TypeId} {v : Value} {l m : List Int} {n : Nat} (h : w.ownsRow base e 1 v (l.length + n) (cI l ++ cI m)) (hn : m.length = n) : w.ownsRow base e 1 v (l ++ m).length (cI (l ++ m)) := by
 rw [cI_app, List.length_append, hn]; exact h
end Go.Proofs.YtjjdeejajbmecaaGreatDoor

/- Texts put together: CaM LitT ClnS. -/
import Derived.Test.YtmmnoepcklfonaaGreatDoorZG18
import Derived.Test.YtmmnoepcklfonaaGreatDoorZG19
import Derived.Test.YtmmnoepcklfonaaGreatDoorZStrS
import Derived.Test.YtmmnoepcklfonaaGreatDoorZG13
import Derived.Deep.AppendSrc
import Derived.Lib.SmallJoins
import Derived.Deep.AppendLies
import Derived.Deep.Upon
import Derived.Lib.SliceRun
/- ClientAccept. Plain mathematics. -/
namespace Go.Proofs.YtmmnoepcklfonaaGreatDoor
open Go.ChangeShapes Go.WideShapes Go.ChangeAt Go.RowKit
set_option linter.unusedVariables false
/-- What ClientAccept answers, told once. -/
def CaIs (key t : ByteArray) (id : Int) (win tok : ByteArray) (nb vw vh : Int) (R : List ByteArray) (nbv frv : Int) (fuv : Bool) (vwv vhv : Int) (l : List Rw) (id2 : Int) (win2 tok2 : ByteArray) (nb2 w2 h2 : Int) (L : List ByteArray) (c : Int) : Prop :=
  ((65536 < key.size ∨ 65536 < t.size) ∧ id2 = 0 ∧ win2 = ⟨#[]⟩ ∧ tok2 = ⟨#[]⟩ ∧ nb2 = 0 ∧ w2 = 0 ∧ h2 = 0 ∧ L = [] ∧ c = 2) ∨
  (key.size ≤ 65536 ∧ t.size ≤ 65536 ∧ (clB key id win tok nb vw vh R && vwB nbv frv fuv vwv vhv l) = false ∧ id2 = 0 ∧ win2 = ⟨#[]⟩ ∧ tok2 = ⟨#[]⟩ ∧ nb2 = 0 ∧ w2 = 0 ∧ h2 = 0 ∧ L = [] ∧ c = 1) ∨
  (key.size ≤ 65536 ∧ t.size ≤ 65536 ∧ clB key id win tok nb vw vh R = true ∧ vwB nbv frv fuv vwv vhv l = true ∧ htB key id win nbv t = false ∧ id2 = id ∧ win2 = win ∧ tok2 = tok ∧ nb2 = nb ∧ w2 = vw ∧ h2 = vh ∧ L = R ∧ c = 16) ∨
  (key.size ≤ 65536 ∧ t.size ≤ 65536 ∧ clB key id win tok nb vw vh R = true ∧ vwB nbv frv fuv vwv vhv l = true ∧ htB key id win nbv t = true ∧ id2 = id ∧ win2 = win ∧ tok2 = (if c = 0 then t else tok) ∧ AvIs nb vw vh R nbv frv fuv vwv vhv l nb2 w2 h2 L c)
theorem ca_ex (key t : ByteArray) (id : Int) (win tok : ByteArray) (nb vw vh : Int) (R : List ByteArray) (nbv frv : Int) (fuv : Bool) (vwv vhv : Int) (l : List Rw) : ∃ id2 win2 tok2 nb2 w2 h2 L c, CaIs key t id win tok nb vw vh R nbv frv fuv vwv vhv l id2 win2 tok2 nb2 w2 h2 L c := by
  by_cases h : 65536 < key.size ∨ 65536 < t.size
  · exact ⟨0, ⟨#[]⟩, ⟨#[]⟩, 0, 0, 0, [], 2, .inl ⟨h, rfl, rfl, rfl, rfl, rfl, rfl, rfl, rfl⟩⟩
  have hk : key.size ≤ 65536 := by omega
  have ht : t.size ≤ 65536 := by omega
  cases h1 : clB key id win tok nb vw vh R with
  | false => exact ⟨0, ⟨#[]⟩, ⟨#[]⟩, 0, 0, 0, [], 1, .inr (.inl ⟨hk, ht, by rw [h1]; rfl, rfl, rfl, rfl, rfl, rfl, rfl, rfl, rfl⟩)⟩
  | true =>
    cases h2 : vwB nbv frv fuv vwv vhv l with
    | false => exact ⟨0, ⟨#[]⟩, ⟨#[]⟩, 0, 0, 0, [], 1, .inr (.inl ⟨hk, ht, by rw [h1, h2]; rfl, rfl, rfl, rfl, rfl, rfl, rfl, rfl, rfl⟩)⟩
    | true =>
      cases h3 : htB key id win nbv t with
      | false => exact ⟨id, win, tok, nb, vw, vh, R, 16, .inr (.inr (.inl ⟨hk, ht, h1, h2, h3, rfl, rfl, rfl, rfl, rfl, rfl, rfl, rfl⟩))⟩
      | true =>
        obtain ⟨nb2, w2, h2', L, c, hi⟩ := av_ex nb vw vh R nbv frv fuv vwv vhv l
        exact ⟨id, win, _, nb2, w2, h2', L, c, .inr (.inr (.inr ⟨hk, ht, h1, h2, h3, rfl, rfl, rfl, hi⟩))⟩
theorem cl_mirOf {key : ByteArray} {id : Int} {win tok : ByteArray} {nb vw vh : Int} {R : List ByteArray} (h : clB key id win tok nb vw vh R = true) : mirB nb vw vh R = true := by
  unfold clB at h; rw [Bool.and_eq_true] at h; exact h.1
theorem ca_len {key t : ByteArray} {id : Int} {win tok : ByteArray} {nb vw vh : Int} {R : List ByteArray} {nbv frv : Int} {fuv : Bool} {vwv vhv : Int} {l : List Rw} {id2 : Int} {win2 tok2 : ByteArray} {nb2 w2 h2 : Int} {L : List ByteArray} {c : Int} (h : CaIs key t id win tok nb vw vh R nbv frv fuv vwv vhv l id2 win2 tok2 nb2 w2 h2 L c) : L.length ≤ 10 := by
  rcases h with ⟨-, -, -, -, -, -, -, e, -⟩ | ⟨-, -, -, -, -, -, -, -, -, e, -⟩ | ⟨-, -, h, -, -, -, -, -, -, -, -, e, -⟩ | ⟨-, -, -, -, -, -, -, -, h⟩
  · subst e; decide
  · subst e; decide
  · subst e; exact mir_len (cl_mirOf h)
  · exact av_len h
theorem ca_tok {key : ByteArray} {id : Int} {win tok : ByteArray} {nb vw vh : Int} {R : List ByteArray} {nbv frv : Int} {fuv : Bool} {vwv vhv : Int} {l : List Rw} (h1 : clB key id win tok nb vw vh R = true) (h2 : vwB nbv frv fuv vwv vhv l = true) (t : ByteArray) : tokB id win nbv = true ∧ htB key id win nbv t = decide (issT key id win nbv = t) := by
  have hm := mir_num (cl_mirOf h1)
  have h3 : htB key id win nb tok = true := by unfold clB at h1; rw [Bool.and_eq_true] at h1; exact h1.2
  have h4 : tmC key id win nb = 0 := by unfold htB at h3; rw [Bool.and_eq_true] at h3; exact of_decide_eq_true h3.1
  obtain ⟨hl, ht⟩ := tm_parts h4
  have hv : 0 ≤ nbv ∧ nbv ≤ 60 := by unfold vwB at h2; rw [Bool.and_eq_true] at h2; exact of_decide_eq_true h2.1
  have ht2 : tokB id win nbv = true := by rw [tok_num (by omega) hv.2, ← tok_num hm.1 hm.2]; exact ht
  refine ⟨ht2, ?_⟩
  unfold htB tmC itkS
  rw [hl, ht2]
  simp
theorem av_c {nb vw vh : Int} {R : List ByteArray} {nbv frv : Int} {fuv : Bool} {vwv vhv : Int} {l : List Rw} {nb2 w2 h2 : Int} {L : List ByteArray} {c : Int} (h : AvIs nb vw vh R nbv frv fuv vwv vhv l nb2 w2 h2 L c) (hc : c ≠ 0) (h1 : mirB nb vw vh R = true) (h2' : vwB nbv frv fuv vwv vhv l = true) : nb2 = nb ∧ w2 = vw ∧ h2 = vh ∧ L = R := by
  have e := h.1
  rw [h1, h2'] at e
  refine h.2.2.1 ?_
  unfold avC at e
  simp only [Bool.and_self, if_true] at e
  split at e
  · exact .inl e
  · split at e
    · exact absurd e hc
    · exact .inr e
end Go.Proofs.YtmmnoepcklfonaaGreatDoor

/- An empty row of texts, laid. -/
namespace Go.Proofs.YtmmnoepcklfonaaGreatDoor
open Go.ChangeShapes Go.WideShapes Go.ChangeAt Go.RowKit
set_option linter.unusedVariables false
theorem lit_atT (w : World) (s base : Nat) (t : TypeId) (hs : w.heap.size = s) (hb : base ≤ s) : (w.alloc (.cells #[] t)).ownsRow base t 1 (.slice (some ⟨s, 0, none⟩) 0 0) 0 (cS []) := by
  subst hs
  have := World.ownsRow_lit (e := t) (base := base) (size := 1) w #[] 0 hb (by unfold maxLen; omega) (by simp)
  simpa [cS] using this
end Go.Proofs.YtmmnoepcklfonaaGreatDoor

/- slices.Clone of texts: what the program answers. -/
namespace Go.Proofs.YtmmnoepcklfonaaGreatDoor
open Go.ChangeShapes Go.WideShapes Go.ChangeAt Go.RowKit
set_option linter.unusedVariables false
theorem append_strsN {P : Program} (w : World) {ops : Array Oper} {rest : List Oper} {o : Oper} {a : Act} {Q : Exit → Act → World → Prop} (hgd : o.guard = none) (s x : Operand) (t : TypeId)
    (ho : o.op = .call { callee := .builtin .append, args := #[s, x], argTypes := #[t, t] }) (base : Nat) (e : TypeId) (i : TypeInfo) (ht : P.underlying t = some (.slice e)) (hi : P.info? e = some i) (hz : i.zero = some (.string ⟨#[]⟩)) (hsize : i.size = 1) (hby : i.bytes = 16)
    (v : Value) (hs : a.eval s = v) (hown : w.ownsRow base e 1 v 0 [])
    (sp : Option Addr) (sc n : Nat) (l : List ByteArray) (hn : l.length = n) (hx : a.eval x = .slice sp n sc) (hr : RowV w sp (cS l)) (hb : n ≤ 1048576) (hbase : base ≤ w.heap.size)
    (h : ∀ v' w', w'.ownsRow base e 1 v' n (cS l) → w.grownBy w' v.ownBlock → wpList P ops Q rest (a.put o.dst v') w') :
    wpList P ops Q (o :: rest) a w := by
  by_cases h0 : n = 0
  · subst h0
    obtain rfl : l = [] := List.length_eq_zero_iff.1 hn
    obtain ⟨pv, cv, rfl, -⟩ := ownZ_rowV hown
    have hsrc : Src P i.size t (.slice sp 0 sc) 0 [] w := by
      cases sp with
      | none => exact Src.ofNil w ht sc
      | some ad => exact Src.ofSlice w ht ad 0 sc [] (by simp) (fun j u hu => by simp at hu) (fun u hu => by cases hu)
    have hrun := run_append_nothing (P := P) w t t o.type e i ht hi pv 0 cv (Nat.zero_le _) (.slice sp 0 sc) hsrc
    refine wpList_plain hgd fun K hK => ?_
    unfold Oper.wp
    simp [execOp, ho, resolve, invoke, builtin, hs, hx, hrun, Result.andThen]
    exact hK _ _ (h _ w hown (grownBy_refl _ _))
  · obtain ⟨b, off, rfl, _, hc⟩ := hr.at (by rw [cS_len]; omega)
    refine wpList_append_lies w hgd s x t ho base e i (.string ⟨#[]⟩) 1 16 ht hi hz hsize hby rfl (by decide) v 0 [] hs hown ⟨b, off, none⟩ n sc (cS l) hx (by rw [cS_len, hn, Nat.mul_one]) ?_ (cS_one l) (by omega) (by unfold maxLen; omega) (by omega) hbase _ rfl ?_
    · intro j u hu
      rw [show (⟨b, off, none⟩ : Addr).add j = ⟨b, off + j, none⟩ from by unfold Addr.add; split <;> simp_all]
      exact hc j u hu
    · intro g cap w' ho1 hg1 hat _
      rw [List.nil_append] at ho1
      refine cast ?_ (h (.slice (some ⟨g, 0, none⟩) n cap) w' (by have := ho1; rw [Nat.zero_add] at this; exact this) hg1)
      rw [Nat.zero_add]
set_option maxHeartbeats 1000000 in
set_option maxRecDepth 100000 in
theorem tclone (x : Addr) (cap n : Nat) (l : List ByteArray) (HN : Hid (l.length = n)) (hn : n ≤ 1048576) (w : World) (hr : RowV w (some x) (cS l)) :
    Calls Tryz.prog 76 #[.slice (some x) n cap] w fun e w' => ∃ v, e = .returned v ∧ w'.ownsRow w.heap.size 9 1 v n (cS l) ∧ Below w.heap.size w w' := by
  obtain ⟨i0, hi, hz0, hz1, hz2⟩ := info_parts Tryz.infL9
  have hnil : ∀ W, (binOp .eql 22 (.slice (some x) n cap) (.slice none 0 0)).run Tryz.prog W = .ok (.bool false) W := fun W => Go.Lib.run_eql_slice_nil W _ _ (some x) n cap 0 0 Tryz.underlying22
  have HR := hide hr
  have hown := lit_atT w w.heap.size w.heap.size 9 rfl (Nat.le_refl _)
  have HB := hide (Go.Joins.below_alloc1 w (.cells #[] 9))
  clear hr
  go_enter Tryz.func76, Tryz.ntmps76
  go_wp2_with (at_builtin; refine append_strsN _ rfl (.tmp 5) (.tmp 6) 22 rfl w.heap.size 9 i0 Tryz.underlying22 hi hz0 hz1 hz2 _ rfl hown (some x) cap n l (unhide HN) rfl ((unhide HR).below (unhide HB)) hn (by simp) ?_; intro v2 w2 ho2 hg2; have HO2 := hide ho2; have HB2 := hide ((unhide HB).grown hg2 (unhide HB).size (fun k hk => (hown.lt k hk).1)); clear ho2 hg2 hown)
  go_ret
  exact ⟨_, rfl, unhide HO2, unhide HB2⟩
set_option maxHeartbeats 1000000 in
set_option maxRecDepth 100000 in
theorem tcloneN (cap : Nat) (w : World) :
    Calls Tryz.prog 76 #[.slice none 0 cap] w fun e w' => ∃ v, e = .returned v ∧ w'.ownsRow w.heap.size 9 1 v 0 (cS []) ∧ Below w.heap.size w w' := by
  have hnil : ∀ W, (binOp .eql 22 (.slice none 0 cap) (.slice none 0 0)).run Tryz.prog W = .ok (.bool true) W := fun W => Go.Lib.run_eql_slice_nil W _ _ none 0 cap 0 0 Tryz.underlying22
  go_enter Tryz.func76, Tryz.ntmps76
  go_wp2_with fail
  go_ret
  exact ⟨_, rfl, World.ownsRow_nil _ _ _ _, Below.refl _ _⟩
theorem tcloneA (a : Option Addr) (cap n : Nat) (l : List ByteArray) (HN : Hid (l.length = n)) (hn : n ≤ 1048576) (w : World) (hr : RowV w a (cS l)) :
    Calls Tryz.prog 76 #[.slice a n cap] w fun e w' => ∃ v, e = .returned v ∧ w'.ownsRow w.heap.size 9 1 v n (cS l) ∧ Below w.heap.size w w' := by
  have h := unhide HN
  rcases hr with h0 | ⟨b, off, rfl, hlt, hc⟩
  · have hl : l.length = 0 := by
      have := congrArg List.length h0; rw [cS_len] at this; simp only [List.length_nil] at this; omega
    obtain rfl : l = [] := List.length_eq_zero_iff.1 hl
    obtain rfl : n = 0 := by rw [← h]; rfl
    cases a with
    | none => exact tcloneN cap w
    | some x => exact tclone x cap 0 [] HN hn w (.inl h0)
  · exact tclone ⟨b, off, none⟩ cap n l HN hn w (.inr ⟨b, off, rfl, hlt, hc⟩)
end Go.Proofs.YtmmnoepcklfonaaGreatDoor

/- Texts put together: SplitOI SplitAll DigS TxM. -/
import Derived.Test.YtgnecacoehedkaaDoorZG41
import Derived.Test.YtgnecacoehedkaaDoorZSplI
import Derived.Test.YtgnecacoehedkaaDoorZG31
import Derived.Test.YtgnecacoehedkaaDoorZTofI
import Derived.Test.YtgnecacoehedkaaDoorZG1
import Derived.Lib.ItoaNum
import Derived.Deep.RegionWith
/- impl.SplitArea: what the program answers. -/
namespace Go.Proofs.YtgnecacoehedkaaDoor
open Go.ChangeShapes Go.WideShapes Go.ChangeAt Go.RowKit
set_option maxHeartbeats 1000000 in
set_option maxRecDepth 100000 in
theorem isplitout (a : Option Addr) (cap L : Nat) (l : List Pt) (HLL : Hid (l.length = L)) (hl : L ≤ 1048576) (W H : Int) (pane fresh : Int) (rows : Bool) (c : Int) (l2 : List Pt) (HC : Hid (c = splitC l W H pane fresh rows)) (HL2 : Hid (l2 = splitL l W H pane fresh rows)) (w : World) (hr : RowV w a (cPt l)) :
  Calls Tryd.prog 7 #[.agg #[.slice a L cap], .int .i64 W, .int .i64 H, .int .i64 pane, .int .i64 fresh, .bool rows] w fun e w' => ∃ a2 cap2, e = .returned (.tuple #[.agg #[.slice a2 l2.length cap2], .int .i64 c]) ∧ w'.ownsRow w.heap.size 53 5 (.slice a2 l2.length cap2) l2.length (cPt l2) ∧ Below w.heap.size w w' := by
 have HB0 := hide (Go.Joins.below_alloc2 w (.cells #[.slice a L cap] 26) (.cells #[.slice none 0 0] 26))
 have BZ := hide (BF.new (w.alloc (.cells #[.slice a L cap] 26)) #[.slice none 0 0] 26)
 rw [show (w.alloc (.cells #[.slice a L cap] 26)).heap.size = w.heap.size + 1 from by simp] at BZ
 obtain ⟨Q, hQ⟩ : ∃ Q, Q = tofS l W H := ⟨_, rfl⟩
 have T := hide (itreeof a cap L l HLL hl W H Q hQ _ (hr.below (unhide HB0)))
 have hcc := unhide HC
 have hll := unhide HL2
 unfold splitC at hcc
 unfold splitL at hll
 rw [← hQ] at hcc hll
 have HQ := hide hQ
 have HCC := hide hcc
 have HLC := hide hll
 clear hQ hr HC HL2 hcc hll
 go_enter Tryd.func7, Tryd.ntmps7
 go_wp2_with fail
 refine (unhide T).mono ?_
 rintro e w2 ⟨h2, hb2⟩
 have HB2 := hide ((unhide HB0).trans (hb2.mono (unhide HB0).size))
 have BZ2 := hide ((unhide BZ).below hb2)
 clear hb2 T BZ HB0
 have z2 := (unhide BZ2).S 0
 have z2f := (unhide BZ2).F 0
 cases Q with
 | none =>
  have h2' : e = .returned (.pointer none) := h2
  have hc1 : c = 1 := unhide HCC
  have hl1 : l2 = [] := unhide HLC
  clear h2 HCC HLC
  subst h2' hc1 hl1
  go_wp2_with fail
  refine bodyPost_ret (v := .tuple #[.agg #[.slice none 0 0], .int .i64 1]) (by simp [results, Tryd.results7, go_sem, z2]) rfl ⟨none, 0, rfl, World.ownsRow_nil _ _ _ _, ?_⟩
  exact Below.setCell (unhide HB2) (by exact Nat.le_succ _) _
 | some t =>
  obtain ⟨b, bs, rfl, ht2⟩ := h2
  obtain ⟨o1, o2, o3, o4, o5, o6, o7⟩ := tofS_ok (unhide HQ).symm
  have HNB : Hid (w.heap.size + 1 ∉ bs) := fun h => by have := ht2.2.1 _ h; simp only [World.size_alloc] at this; omega
  have HGE : Hid (∀ k ∈ bs, w.heap.size ≤ k) := fun k hk => by have := ht2.2.1 _ hk; simp only [World.size_alloc] at this; omega
  have HT2 := hide ht2.1
  have HND := hide ht2.2.2
  obtain ⟨hn1, hn2, hn3, hn4⟩ : 2 ≤ W ∧ W ≤ 24 ∧ 2 ≤ H ∧ H ≤ 10 := of_decide_eq_true o1
  clear ht2 o1 o2 o3 o5
  cases hs : inB fresh 1 1000 with
  | false =>
   have hc4 : c = 4 := by have := unhide HCC; simpa [hs] using this
   have hl4 : l2 = [] := by have := unhide HLC; simpa [hs] using this
   have hpb : pnB fresh = false := hs
   clear HCC HLC hs
   subst hc4 hl4
   go_wp2_with (go_at_call 18; refine (ipnok fresh _).mono ?_; rintro e w3 ⟨rfl, rfl⟩; rw [hpb])
   refine bodyPost_ret (v := .tuple #[.agg #[.slice none 0 0], .int .i64 4]) (by simp [results, Tryd.results7, go_sem, z2]) rfl ⟨none, 0, rfl, World.ownsRow_nil _ _ _ _, ?_⟩
   exact Below.setCell (unhide HB2) (by exact Nat.le_succ _) _
  | true =>
   have hpb : pnB fresh = true := hs
   have hcc : c = scd t W H pane fresh rows := by have := unhide HCC; simpa [hs] using this
   have hll : l2 = if scd t W H pane fresh rows = 0 then (t.spl pane rows (t.sid pane rows W H / 2) fresh).flat 0 else t.flat 0 := by have := unhide HLC; simpa [hs] using this
   obtain ⟨t2, ht2⟩ : ∃ t2, t2 = if c = 0 then t.spl pane rows (t.sid pane rows W H / 2) fresh else t := ⟨_, rfl⟩
   have hlf : l2 = t2.flat 0 := by rw [hll, ht2, ← hcc]; split <;> rfl
   have hcn : t2.cnt ≤ 11 := by
    rw [ht2]; split
    ·rename_i e
     rw [hcc] at e
     obtain ⟨e1, e2, e3, e4⟩ := scd_ok e
     exact spl_le o4 o6 e1 e3
    ·exact o4
   have T2 := hide (isplit t t2 b bs W H pane fresh rows c _ rfl hcc ht2 w2 (unhide HT2) (unhide HND) hn1 hn2 hn3 hn4 o7 o6 o4)
   have HLF := hide hlf
   obtain ⟨N2, hN2⟩ : ∃ N2, t2.cnt = N2 := ⟨_, rfl⟩
   have HN2 := hide hN2
   have HN : Hid (l2.length = N2) := by show _ = _; rw [hlf, Tr.flat_len, hN2]
   clear HCC HLC hcc hll hlf ht2 hN2 hs HT2 HND o4 o6 o7
   go_wp2_with (go_at_call 18; refine (ipnok fresh _).mono ?_; rintro e w3 ⟨rfl, rfl⟩; rw [hpb])
   refine (unhide T2).mono ?_
   rintro e w3 ⟨rfl, bs3, ht3, hd3⟩
   have HB3 := hide ((unhide HB2).trans (hd3.below (unhide HGE) (unhide HB2).size))
   have BZ3 := hide ((unhide BZ2).turned hd3 (unhide HNB))
   have T3 := hide (ilayout t2 b bs3 w3 ht3 (by omega))
   rw [unhide HN2, ← unhide HLF] at T3
   clear hd3 ht3 z2 z2f HB2 BZ2 T2
   go_wp2_with fail
   refine (unhide T3).mono ?_
   rintro e w7 ⟨a7, cap7, rfl, ho7, hb7⟩
   have HB7 := hide ((unhide HB3).trans (hb7.mono (unhide HB3).size))
   have BZ7 := hide ((unhide BZ3).below hb7)
   have HZ6 := hide (unhide BZ3).lt
   have HO7 := hide ho7
   have HLE7 : Hid (w.heap.size ≤ w3.heap.size) := (unhide HB3).size
   clear ho7 hb7 T3
   have z7 := (unhide BZ7).S 0
   have z7f := (unhide BZ7).F 0
   go_wp2_with fail
   refine bodyPost_ret (v := .tuple #[.agg #[.slice a7 N2 cap7], .int .i64 c]) (by simp [results, Tryd.results7, go_sem, z7]) rfl ⟨a7, cap7, by rw [unhide HN], ?_, ?_⟩
   ·rw [unhide HN]; exact Go.Joins.ownsRow_le (ownsRow_setCell_below (unhide HO7) (unhide HZ6) _) (unhide HLE7)
   ·exact Below.setCell (unhide HB7) (by exact Nat.le_succ _) _
end Go.Proofs.YtgnecacoehedkaaDoor

/- All that the walk names. -/

/- l00Digits: a number's digits. -/
namespace Go.Proofs.YtgnecacoehedkaaDoor
open Go.ChangeShapes Go.WideShapes Go.ChangeAt Go.RowKit
set_option linter.unusedVariables false
def ub (n : Int) : UInt8 := UInt8.ofNat n.toNat
theorem dig_small {u : Nat} (h : u < 10) : Lib.decDigits u = [UInt8.ofNat (48 + u)] := by rw [Lib.decDigits, dif_pos h]
theorem dig_more {u : Nat} (h : ¬ u < 10) : Lib.decDigits u = Lib.decDigits (u / 10) ++ [UInt8.ofNat (48 + u % 10)] := by rw [Lib.decDigits, dif_neg h]
theorem dig_len (u : Nat) (h : u < 10000) : (Lib.decDigits u).length ≤ 4 := by
 by_cases a : u < 10
 ·rw [dig_small a]; simp
 by_cases b : u < 100
 ·rw [dig_more a, dig_small (by omega)]; simp
 by_cases c : u < 1000
 ·rw [dig_more a, dig_more (by omega), dig_small (by omega)]; simp
 ·rw [dig_more a, dig_more (by omega), dig_more (by omega), dig_small (by omega)]; simp
def digS (n : Nat) : ByteArray := ⟨(Lib.decDigits n).toArray⟩
theorem digS_size (n : Nat) (h : n < 10000) : (digS n).size ≤ 4 := by
 have := dig_len n h
 unfold digS
 simpa [ByteArray.size] using this
end Go.Proofs.YtgnecacoehedkaaDoor

/- A layout's text. Plain mathematics. -/
namespace Go.Proofs.YtgnecacoehedkaaDoor
open Go.ChangeShapes Go.WideShapes Go.ChangeAt Go.RowKit
set_option linter.unusedVariables false
def bord (r : Bool) : ByteArray := if r then ⟨#[45]⟩ else ⟨#[124]⟩
def Tr.txt : Tr → ByteArray
 | ⟨.inl n⟩ => digS n.toNat
 | ⟨.inr (r, s, l, t)⟩ => (⟨#[40]⟩ ++ l.txt ++ bord r ++ digS s.toNat ++ bord r ++ t.txt) ++ ⟨#[41]⟩
def Tr.small : Tr → Prop
 | ⟨.inl n⟩ => 0 ≤ n ∧ n ≤ 9999
 | ⟨.inr (_, s, l, t)⟩ => (0 ≤ s ∧ s ≤ 9999) ∧ l.small ∧ t.small
theorem txt_size : ∀ t : Tr, t.small → t.txt.size ≤ 12 * t.cnt
 | ⟨.inl n⟩, h => by
  have h' : 0 ≤ n ∧ n ≤ 9999 := h
  have := digS_size n.toNat (by omega)
  simp only [Tr.txt, Tr.cnt]; omega
 | ⟨.inr (r, s, l, t)⟩, ⟨h, h1, h2⟩ => by
  have := digS_size s.toNat (by omega)
  have e1 := txt_size l h1
  have e2 := txt_size t h2
  have e3 : (bord r).size = 1 := by cases r <;> rfl
  have e4 : (⟨#[40]⟩ : ByteArray).size = 1 := rfl
  have e5 : (⟨#[41]⟩ : ByteArray).size = 1 := rfl
  simp only [Tr.txt, Tr.cnt, ByteArray.size_append]
  omega
theorem small_of : ∀ (t : Tr) (W H : Int), t.good → t.fits W H = true → W ≤ 1000 → H ≤ 1000 → t.small
 | ⟨.inl n⟩, W, H, hg, _, _, _ => by
  have h : 1 ≤ n ∧ n ≤ 1000 := of_decide_eq_true hg
  show 0 ≤ n ∧ n ≤ 9999
  omega
 | ⟨.inr (r, s, l, t)⟩, W, H, hg, hf, hW, hH => by
  rw [Tr.fits] at hf
  cases r
  ·simp only [Bool.false_eq_true, if_false, Bool.and_eq_true] at hf
   have f1 := fits_two _ _ _ hf.1
   have f2 := fits_two _ _ _ hf.2
   exact ⟨by omega, small_of l _ _ hg.1 hf.1 (by omega) hH, small_of t _ _ hg.2 hf.2 (by omega) hH⟩
  ·simp only [if_true, Bool.and_eq_true] at hf
   have f1 := fits_two _ _ _ hf.1
   have f2 := fits_two _ _ _ hf.2
   exact ⟨by omega, small_of l _ _ hg.1 hf.1 hW (by omega), small_of t _ _ hg.2 hf.2 hW (by omega)⟩
def ltT (l : List Pt) (W H : Int) : ByteArray := match tofS l W H with | none => ⟨#[]⟩ | some t => t.txt
def ltC (l : List Pt) (W H : Int) : Int := match tofS l W H with | none => 1 | some t => 0
end Go.Proofs.YtgnecacoehedkaaDoor

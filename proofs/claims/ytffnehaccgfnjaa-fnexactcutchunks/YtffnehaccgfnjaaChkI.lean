/- Bytes cut into pieces: what the program answers (slices.Chunk, ranged over). -/
import Derived.Test.YtffnehaccgfnjaaChkM
import Derived.Test.YtffnehaccgfnjaaFrbI
import Derived.Test.YtffnehaccgfnjaaWinI
import Derived.Test.YtffnehaccgfnjaaMinM
import Derived.RangeFuncNested
import Derived.RangeFuncBound
import Derived.RangeFuncCalls
import Derived.RangeFuncLeaves
import Derived.RangeFuncBox
import Derived.Shelf.Abstract
import Derived.Shelf.RegionOpen
import Derived.WalkKit
import Derived.OwnWalkIn
import Derived.TacticsInMore
import Derived.LoopNIn
import Derived.LoopIn
import Derived.Maps.AppendAt
import Derived.BigQuiet
namespace Go.Proofs.Ytffnehaccgfnjaa
open Go.ChangeShapes Go.WideShapes Go.ChangeAt Go.RowKit Go.Shelf
set_option linter.unusedVariables false
attribute [local go_sem] Oper.semAt_some
attribute [local go_sem ↓] run_mn
/-- What a round keeps: all below a bound, and the two boxes that the iterator reads. -/
def KpC (n0 Bs Bn : Nat) (A B : World) : Prop := Below n0 A B ∧ B.heap[Bs]? = A.heap[Bs]? ∧ B.heap[Bn]? = A.heap[Bn]?
theorem kpC_t {n0 Bs Bn : Nat} {A B C : World} (h : KpC n0 Bs Bn A B) (k : KpC n0 Bs Bn B C) : KpC n0 Bs Bn A C := ⟨h.1.trans k.1, k.2.1.trans h.2.1, k.2.2.trans h.2.2⟩
theorem kpC_b {n0 Bs Bn : Nat} {w : World} (hn : n0 ≤ w.heap.size) (hs : Bs < w.heap.size) (hb : Bn < w.heap.size) (W : World) (l : Nat) (o o' : Obj) (hl : w.heap.size ≤ l) (h : W.heap[l]? = some o) (h1 : o.isCells = false) (h2 : o.isWalk = false) : KpC n0 Bs Bn W (W.putObj l o') :=
  ⟨belowK_b hn W l o o' hl h h1 h2, World.putObj_heap_other (by omega), World.putObj_heap_other (by omega)⟩
theorem mn_min (s q m : Nat) (hm : m = min s q) : mn (s : Int) (q : Int) = (m : Int) := by
  unfold mn; split <;> omega
abbrev Pc (s n : Nat) := { k : Nat // k * s < n }
set_option maxHeartbeats 4000000 in
set_option maxRecDepth 100000 in
theorem chunk1_in (n : Nat) (hn : 1 ≤ n) (l Bs Bn n0 b off len cap s : Nat) (hs : 1 ≤ s) (hs2 : s ≤ 4096) (hlen : len ≤ 65536) (hcap : len ≤ cap) (J Jx : List (Pc s len) → World → Prop) (W : World) (hJ : AbidesFrom W.heap.size J)
    (hY : ∀ pre (x : Pc s len) W, J pre W → pre.length < pcN len s → YieldAt Fence.wide (n - 1) Try.prog l #[.slice (some ⟨b, off + x.1 * s, none⟩) (min s (len - x.1 * s)) (min s (len - x.1 * s))] W fun e W' =>
      (e = .returned (.bool true) ∧ J (pre ++ [x]) W' ∧ KpC n0 Bs Bn W W') ∨ (e = .returned (.bool false) ∧ Jx (pre ++ [x]) W'))
    (hBs : Boxed W Bs 22 (.slice (some ⟨b, off, none⟩) len cap)) (hBn : Boxed W Bn 3 (.int .i64 (s : Int))) (h0 : J [] W) :
    CallsIn Fence.wide n Try.prog 20 #[.func (.yield l) #[] #[], .pointer (some ⟨Bs, 0, none⟩), .pointer (some ⟨Bn, 0, none⟩)] W fun e W' => (∃ v, e = .returned v) ∧
      ((∃ ys : List (Pc s len), ys.map (·.1) = List.range (pcN len s) ∧ J ys W') ∨ (∃ pre : List (Pc s len), True ∧ Jx pre W')) := by
  have HY := hide hY
  have HBS := hide hBs
  have HBN := hide hBn
  clear hY hBs hBn
  refine callsIn_of_wp Try.func20 rfl trivial ?_ rfl
  simp only [Try.ntmps20, List.size_toArray, List.length_cons, List.length_nil, Nat.reduceAdd, Nat.reduceSub, Array.replicate_succ, Array.replicate_zero, List.push_toArray, List.append_toArray, List.nil_append, List.cons_append]
  gi_wp2
  gi_loopw [4] (fun i wr => ∃ (k j : Nat) (ys : List (Pc s len)), k ≤ pcN len s ∧ j ≤ 65536 + 4096 ∧ Hid (j = k * s) ∧ i = .int .i64 (j : Int) ∧ Hid (ys.map (·.1) = List.range k) ∧ Hid (J ys wr) ∧ Hid (KpC n0 Bs Bn W wr)) (fun i _ => len - (intOf i).toNat)
  case atStart => exact ⟨0, 0, [], by omega, by omega, (by show _ = _; omega), rfl, rfl, h0, ⟨Below.refl _ _, rfl, rfl⟩⟩
  case round =>
    obtain ⟨k, j, ys, hk, hj, HJ, rfl, HYS, HJY, HK⟩ := hrel
    have b1 : Boxed wr Bs 22 (.slice (some ⟨b, off, none⟩) len cap) := (unhide HK).2.1.trans (unhide HBS)
    have b2 : Boxed wr Bn 3 (.int .i64 (s : Int)) := (unhide HK).2.2.trans (unhide HBN)
    have c1 := b1.cell
    have c2 := b2.cell
    by_cases hlt : j < len
    · have hkx : k * s < len := by rw [← unhide HJ]; exact hlt
      have hkn : k + 1 ≤ pcN len s := (pc_lt len s k (by omega)).2 hkx
      obtain ⟨m, em⟩ : ∃ m, m = min s (len - j) := ⟨_, rfl⟩
      have hm1 : 1 ≤ m := by omega
      have hms : m ≤ s := by omega
      have hmn : j + m ≤ len := by omega
      have E1 : mn (s : Int) ((len - j : Nat) : Int) = (m : Int) := mn_min s (len - j) m em
      have E2 : mn (s : Int) ((len : Int) - (j : Int)) = (m : Int) := by rw [← E1]; congr 1; omega
      have hlt' : (j : Int) < (len : Int) := by omega
      have hj0 : (0 : Int) ≤ (j : Int) := by omega
      have hcj : ¬ cap = j := by omega
      have HM := hide em
      clear em
      gi_wp2
      refine wpIn_wide.2 ?_
      go_quiet (fail)
      have HJ2 : Hid (J ys (wr.drewN nq)) := hJ ys wr _ none (unhide HJY) ⟨rfl, rfl, rfl, Nat.le_refl _, fun _ _ _ => rfl⟩ (fun r e => by cases e)
      have HK2 : Hid (KpC n0 Bs Bn W (wr.drewN nq)) := ⟨below_drewN (unhide HK).1 nq, (unhide HK).2.1, (unhide HK).2.2⟩
      have d1 : Boxed (wr.drewN nq) Bs 22 (.slice (some ⟨b, off, none⟩) len cap) := b1
      have d2 : Boxed (wr.drewN nq) Bn 3 (.int .i64 (s : Int)) := b2
      generalize wr.drewN nq = w2 at HJ2 HK2 d1 d2 ⊢
      have c3 := d1.cell
      have c4 := d2.cell
      have hY1 := unhide HY ys ⟨k, hkx⟩ w2 (unhide HJ2) (by have := congrArg List.length (unhide HYS); simp at this; omega)
      dsimp only at hY1
      rw [← unhide HJ, ← unhide HM] at hY1
      obtain ⟨fn, tmps, assign, body, hy, hR⟩ := hY1
      have HRR := hide hR
      clear hR c1 c2
      gi_wp2
      refine (unhide HRR).mono ?_
      rintro e W3 (⟨rfl, hJ3, hk3⟩ | ⟨rfl, hJx3⟩)
      · have e2 : Boxed W3 Bn 3 (.int .i64 (s : Int)) := hk3.2.2.trans d2
        have c5 := e2.cell
        have HK3 := hide (kpC_t (unhide HK2) hk3)
        have HJ3 := hide hJ3
        clear hJ3 hk3 HRR
        gi_wp2
        go_roundw
        case rel => exact ⟨k + 1, j + s, ys ++ [⟨k, by rw [← unhide HJ]; exact hlt⟩], by omega, by omega, (by show _ = _; rw [Nat.succ_mul, unhide HJ]), by go_num, (by show _ = _; rw [List.map_append, unhide HYS, List.range_succ]; rfl), HJ3, HK3⟩
        case measure => simp [intOf]; omega
      · gi_wp2
        refine bodyPost_ret (results_none rfl _ _ _) rfl ?_
        exact ⟨⟨_, rfl⟩, .inr ⟨_, trivial, hJx3⟩⟩
    · have hkn : ¬ k < pcN len s := fun h => hlt (by have := (pc_lt len s k (by omega)).1 h; rw [unhide HJ]; exact this)
      obtain rfl : k = pcN len s := by omega
      gi_wp2
      go_end0
      exact ⟨⟨_, rfl⟩, .inl ⟨ys, unhide HYS, unhide HJY⟩⟩
set_option maxHeartbeats 1000000 in
set_option maxRecDepth 100000 in
theorem chunk1_nil (n : Nat) (l Bs Bn s : Nat) (a : Option Addr) (cap : Nat) (J : List (Pc s 0) → World → Prop) (W : World) (hBs : Boxed W Bs 22 (.slice a 0 cap)) (h0 : J [] W) :
    CallsIn Fence.wide n Try.prog 20 #[.func (.yield l) #[] #[], .pointer (some ⟨Bs, 0, none⟩), .pointer (some ⟨Bn, 0, none⟩)] W fun e W' => (∃ v, e = .returned v) ∧ J [] W' := by
  have c1 := hBs.cell
  refine callsIn_of_wp Try.func20 rfl trivial ?_ rfl
  simp only [Try.ntmps20, List.size_toArray, List.length_cons, List.length_nil, Nat.reduceAdd, Nat.reduceSub, Array.replicate_succ, Array.replicate_zero, List.push_toArray, List.append_toArray, List.nil_append, List.cons_append]
  gi_wp2
  gi_loopw [4] (fun i wr => i = .int .i64 0 ∧ wr = W) (fun _ _ => 0)
  case atStart => exact ⟨rfl, rfl⟩
  case round =>
    obtain ⟨rfl, rfl⟩ := hrel
    gi_wp2
    go_end0
    exact ⟨⟨_, rfl⟩, h0⟩
set_option maxHeartbeats 1000000 in
theorem ichunk (a : Option Addr) (n cap s : Nat) (hs : 1 ≤ s) (w : World) :
    Calls Try.prog 15 #[.slice a n cap, .int .i64 (s : Int)] w fun e w' => e = .returned (.func (.func 20) #[] #[.pointer (some ⟨w.heap.size, 0, none⟩), .pointer (some ⟨w.heap.size + 1, 0, none⟩)]) ∧ w' = (w.alloc (.cells #[.slice a n cap] 22)).alloc (.cells #[.int .i64 (s : Int)] 3) := by
  have h1 : ¬ (s : Int) < 1 := by omega
  go_enter Try.func15, Try.ntmps15
  go_wp2_with fail
  go_ret
  exact ⟨rfl, rfl⟩
theorem chunk_stops (n : Nat) (hn : 1 ≤ n) (Bs Bn n0 : Nat) (a : Option Addr) (len cap s : Nat) (hs : 1 ≤ s) (hs2 : s ≤ 4096) (hlen : len ≤ 65536) (hcap : len ≤ cap) (b off : Nat) (ha : len = 0 ∨ a = some ⟨b, off, none⟩) (w : World)
    (hBs : Boxed w Bs 22 (.slice a len cap)) (hBn : Boxed w Bn 3 (.int .i64 (s : Int))) :
    SeqStopsK Fence.wide n Try.prog 20 #[.pointer (some ⟨Bs, 0, none⟩), .pointer (some ⟨Bn, 0, none⟩)] (fun x : Pc s len => #[Value.slice (some ⟨b, off + x.1 * s, none⟩) (min s (len - x.1 * s)) (min s (len - x.1 * s))]) (KpC n0 Bs Bn) (fun ys => ys.map (·.1) = List.range (pcN len s)) (fun _ => True) (pcN len s) w := fun l J Jx W hW hJ _ hY h0 => by
  have c1 : Boxed W Bs 22 (.slice a len cap) := (hW.block Bs hBs.lt).trans hBs
  have c2 : Boxed W Bn 3 (.int .i64 (s : Int)) := (hW.block Bn hBn.lt).trans hBn
  rcases ha with rfl | rfl
  · refine (chunk1_nil n l Bs Bn s a cap J W c1 h0).mono fun e W' ⟨he, hj⟩ => ⟨he, .inl ⟨[], ?_, hj⟩⟩
    have := pcN_le 0 s (by omega)
    rw [show pcN 0 s = 0 from by omega]; rfl
  · exact chunk1_in n hn l Bs Bn n0 b off len cap s hs hs2 hlen hcap J Jx W hJ hY c1 c2 h0
/-- What has come makes this list. -/
def pcF (s : Nat) (l : List UInt8) {n : Nat} (ys : List (Pc s n)) : List ByteArray := ys.map fun x => pcT s l x.1
theorem pcF_snoc (s : Nat) (l : List UInt8) {n : Nat} (ys : List (Pc s n)) (x : Pc s n) : pcF s l (ys ++ [x]) = pcF s l ys ++ [pcT s l x.1] := by simp [pcF]
theorem pcF_all (s : Nat) (l : List UInt8) {n : Nat} (ys : List (Pc s n)) (k : Nat) (h : ys.map (·.1) = List.range k) : pcF s l ys = cutS s l k := by
  unfold pcF cutS; rw [← h, List.map_map]; rfl
set_option maxHeartbeats 4000000 in
set_option maxRecDepth 100000 in
theorem icut_ok (s : Nat) (h16 : 16 ≤ s) (h4 : s ≤ 4096) (cap n : Nat) (l : List UInt8) (HN : Hid (l.length = n)) (hn : n ≤ 65536) (hcap : n ≤ cap) (w : World) (a : Option Addr) (hr : RowV w a (B8 l)) :
    Calls Try.prog 6 #[.slice a n cap, .int .i64 (s : Int)] w fun e w' => ∃ v, e = .returned (.tuple #[v, .int .i64 0]) ∧ w'.ownsRow w.heap.size 9 1 v (pcN n s) (cS (cutS s l (pcN n s))) ∧ Below w.heap.size w w' := by
  obtain ⟨b, off, ha, hbo⟩ : ∃ b off, (n = 0 ∨ a = some ⟨b, off, none⟩) ∧ (n = 0 ∨ (b < w.heap.size ∧ ∀ i (h : i < l.length), w.cell? ⟨b, off + i, none⟩ = some (.int .u8 (l[i].toNat : Int)))) := by
    rcases rowV_8 hr with h0 | ⟨b, off, rfl, hblt, hc⟩
    · have : n = 0 := by rw [← unhide HN, h0]; rfl
      exact ⟨0, 0, .inl this, .inl this⟩
    · exact ⟨b, off, .inr rfl, .inr ⟨hblt, hc⟩⟩
  have HBO := hide hbo
  have Hin := in_yes (n := (s : Int)) (a := 16) (b := 4096) ⟨by omega, by omega⟩
  have hb1 : ¬ (65536 : Int) < (n : Int) := by omega
  clear hr hbo
  refine (callsIn_wide (n := 3)).1 ?_
  refine callsIn_of_wp_marks Try.func6 rfl trivial ?_ rfl
  simp only [Try.ntmps6, List.size_toArray, List.length_cons, List.length_nil, Nat.reduceAdd, Nat.reduceSub, Array.replicate_succ, Array.replicate_zero, List.push_toArray, List.append_toArray, List.nil_append, List.cons_append]
  gi_wp2_with (first
    | (refine ⟨trivial, ?_⟩; gi_at_call 14; refine (callsIn_wide.2 (iwi (s : Int) 16 4096 true (hide Hin.symm) _)).mono ?_; rintro e w1 ⟨rfl, hw⟩; subst w1)
    | (refine ⟨trivial, ?_⟩; gi_at_call 15; refine (callsIn_wide.2 (ichunk a n cap s (by omega) _)).mono ?_; rintro e w1 ⟨rfl, hw⟩; subst w1))
  have bO := ((Boxed.new w 23 (.slice none 0 0)).alloc (.cells #[(.slice a n cap)] 22)).alloc (.cells #[(.int .i64 (s : Int))] 3)
  have bS := (Boxed.new (w.alloc (.cells #[.slice none 0 0] 23)) 22 (.slice a n cap)).alloc (.cells #[(.int .i64 (s : Int))] 3)
  have bN := Boxed.new ((w.alloc (.cells #[.slice none 0 0] 23)).alloc (.cells #[(.slice a n cap)] 22)) 3 (.int .i64 (s : Int))
  simp only [World.size_alloc] at bS bN
  have hB0 : Below w.heap.size w (((w.alloc (.cells #[.slice none 0 0] 23)).alloc (.cells #[(.slice a n cap)] 22)).alloc (.cells #[(.int .i64 (s : Int))] 3)) := (((Below.refl _ w).alloc (Nat.le_refl _) _).alloc (by simp) _).alloc (by simp; omega) _
  have hsz : (((w.alloc (.cells #[.slice none 0 0] 23)).alloc (.cells #[(.slice a n cap)] 22)).alloc (.cells #[(.int .i64 (s : Int))] 3)).heap.size = w.heap.size + 1 + 1 + 1 := by simp only [World.size_alloc]
  generalize (((w.alloc (.cells #[.slice none 0 0] 23)).alloc (.cells #[(.slice a n cap)] 22)).alloc (.cells #[(.int .i64 (s : Int))] 3)) = W0 at bO bS bN hB0 hsz ⊢
  refine wpIn_rangeFunc_ownG rfl (by omega) (gf := 20) (lb := #[.pointer (some ⟨w.heap.size + 1, 0, none⟩), .pointer (some ⟨w.heap.size + 1 + 1, 0, none⟩)]) rfl trivial (enters_of Try.func20 (by kernel_rfl) rfl)
    (chunk_stops 2 (by omega) (w.heap.size + 1) (w.heap.size + 1 + 1) w.heap.size a n cap s (by omega) h4 hn hcap b off ha W0 bS bN) kpC_t (kpC_b (by omega) (by omega) (by omega)) (Below.refl _ _) (fun _ => rfl)
    (fun pre W => ((∃ v, Boxed W w.heap.size 23 v ∧ W.ownsRow w.heap.size 9 1 v (pcF s l pre).length (cS (pcF s l pre)) ∧ True) ∧ (Boxed W (w.heap.size + 1) 22 (.slice a n cap) ∧ Boxed W (w.heap.size + 1 + 1) 3 (.int .i64 (s : Int)))) ∧ Below w.heap.size w W)
    (fun _ _ _ => False)
    (OwnFrom.and (OwnFrom.and (Own.from (holdsRow_own w.heap.size w.heap.size 23 9 1 (fun pre => (pcF s l pre).length) (fun pre => cS (pcF s l pre)) (fun _ _ => True)) _) (OwnFrom.and (Own.from (boxed_own _ _ (fun _ => (.slice a n cap))) _) (Own.from (boxed_own _ _ (fun _ => (.int .i64 (s : Int)))) _))) (ownFrom_below (Nat.le_refl _) (by omega)))
    (fun _ _ _ _ _ hs _ _ => hs)
    ⟨⟨⟨_, bO, World.ownsRow_nil _ _ _ _, trivial⟩, bS, bN⟩, hB0⟩
    (fun x => { tmps := #[(.slice a n cap), (.int .i64 (s : Int)), undef, undef, .slice none 0 0, .int .i64 0, .pointer (some ⟨w.heap.size, 0, none⟩), .slice (some ⟨b, off + x.1 * s, none⟩) (min s (n - x.1 * s)) (min s (n - x.1 * s)), undef, undef, (.slice a n cap), .int .i64 (n : Int), .bool false, (.int .i64 (s : Int)), .bool true, .bool false, (.slice a n cap), (.int .i64 (s : Int)), .func (.func 20) #[] #[.pointer (some ⟨w.heap.size + 1, 0, none⟩), .pointer (some ⟨w.heap.size + 1 + 1, 0, none⟩)], .slice (some ⟨b, off + x.1 * s, none⟩) (min s (n - x.1 * s)) (min s (n - x.1 * s)), undef, undef, undef, undef, undef, undef, undef, undef, undef, undef, undef, undef], defers := [] }) ?assign ?body ?done ?stop
  case assign =>
    intro l' x W K hK
    gi_wp2
    exact hK
  case body =>
    rintro l' pre x W ⟨⟨⟨v, hv, hrow, -⟩, c1, c2⟩, hB⟩ hlt
    obtain ⟨i0, hi, hz0, hz1, hz2⟩ := info_parts Try.infL9
    have hx := x.2
    obtain ⟨hblt, hc⟩ : b < w.heap.size ∧ ∀ i (h : i < l.length), w.cell? ⟨b, off + i, none⟩ = some (.int .u8 (l[i].toNat : Int)) := by
      rcases unhide HBO with h0 | h0
      · omega
      · exact h0
    obtain ⟨m, em⟩ : ∃ m, m = min s (n - x.1 * s) := ⟨_, rfl⟩
    have hm1 : 1 ≤ m := by omega
    have hms : m ≤ s := by omega
    have hmn : m ≤ n - x.1 * s := by omega
    obtain ⟨vv, evv⟩ : ∃ vv : Value, vv = .slice (some ⟨b, off + x.1 * s, none⟩) (min s (n - x.1 * s)) (min s (n - x.1 * s)) := ⟨_, rfl⟩
    rw [← evv]
    have HP : pcL s l x.1 = (l.drop (x.1 * s)).take m := pcL_part s l x.1 m (by rw [unhide HN]; exact em)
    have HPL : (pcL s l x.1).length = m := pcL_len s l x.1 m (by rw [unhide HN]; exact em)
    obtain ⟨d, ed⟩ : ∃ d : ByteArray, d = ⟨(pcL s l x.1).toArray⟩ := ⟨_, rfl⟩
    have hdl : d.data.toList = pcL s l x.1 := by rw [ed]
    have hds : d.size = m := by rw [ed]; show (pcL s l x.1).toArray.size = m; simp; exact HPL
    have hrow8 : Row8 W (some ⟨b, off + x.1 * s, none⟩) (pcL s l x.1) := by
      rw [HP]
      refine row8_part (Nat.lt_of_lt_of_le hblt hB.size) (fun i h => ?_) (x.1 * s) m (by rw [unhide HN]; omega)
      exact (hB.cell (p := ⟨b, off + i, none⟩) hblt).trans (hc i h)
    have hcv : (convert 22 9 vv).run Try.prog W = .ok (.string d) W := by
      have := conv_row8 (P := Try.prog) (cap := m) Try.underlying22 Try.underlying5 Try.underlying9 hrow8
      rw [HPL, ← ed] at this
      rw [evv, ← em]
      exact this
    obtain ⟨g, eg⟩ : ∃ g : ByteArray, g = pcT s l x.1 := ⟨_, rfl⟩
    have HG : Hid (g = ⟨(frmB d.data.toList).toArray⟩) := by show _ = _; rw [eg, hdl]; rfl
    have HS : Hid (cS (pcF s l (pre ++ [x])) = cS (pcF s l pre) ++ [.string g]) := by show _ = _; rw [pcF_snoc, cS_app, eg]; rfl
    have HSL : Hid ((pcF s l (pre ++ [x])).length = (pcF s l pre).length + 1) := by show _ = _; rw [pcF_snoc]; simp
    have HT := hide (iframe d m hds hm1 (by omega) W)
    have hpl : (pcF s l pre).length ≤ 65536 := by
      have h1 : (pcF s l pre).length = pre.length := by simp [pcF]
      have h2 := pcN_le n s (by omega)
      omega
    have hd1 : 1 ≤ 3 - 1 - 1 := by omega
    obtain ⟨N, hN⟩ : ∃ N, N = (pcF s l pre).length := ⟨_, rfl⟩
    rw [← hN] at hrow hpl HSL
    have HB := hide hB
    have HV := hide hv
    have HC1 := hide c1
    have HC2 := hide c2
    have HROW := hide hrow
    clear em hc HP HPL ed hdl hrow8 eg evv hv hrow c1 c2 hx hmn hN hB
    gi_wp2_with (first
      | (refine ⟨trivial, ?_⟩; gi_at_call 16; refine (CallsIn.inRound l' (callsIn_wide.2 (unhide HT))).mono ?_; rintro e w1 ⟨v1, rfl, o1, hb1⟩; obtain ⟨a1, q1, rfl, -⟩ := own_rowV o1; have hcv2 := conv_own (P := Try.prog) Try.underlying22 Try.underlying5 Try.underlying9 o1; rw [← unhide HG] at hcv2; have hv1 : Boxed w1 w.heap.size 23 v := (hb1.block _ (unhide HV).lt).trans (unhide HV); have hcell := hv1.cell; have HR1 := hide ((held_of (unhide HROW)).below hb1 (Nat.le_refl _)).own; have HC3 := hide (show Boxed w1 (w.heap.size + 1) 22 (.slice a n cap) from (hb1.block _ (unhide HC1).lt).trans (unhide HC1)); have HC4 := hide (show Boxed w1 (w.heap.size + 1 + 1) 3 (.int .i64 (s : Int)) from (hb1.block _ (unhide HC2).lt).trans (unhide HC2)); have HBW := hide hb1; clear o1 hb1 HT)
      | (gi_at_builtin; refine wpListIn_append_own _ rfl _ _ 23 rfl w.heap.size 9 i0 (.string ⟨#[]⟩) 1 16 Try.underlying23 hi hz0 hz1 hz2 rfl (by decide) _ _ _ rfl ((unhide HR1).alloc _) ⟨w1.heap.size, 0, none⟩ 1 1 [.string g] rfl rfl (cell_one_new _ _ _) (by simp [Value.oneCell']) (by unfold maxLen; omega) (by omega) (by have h1 := (unhide HBW).size; have h2 := (unhide HB).size; simp; omega) ?_; intro v' w2 hown' hgrow _; obtain ⟨g', cap', rfl⟩ := ownsRow_succ hown'; have hsz1 : w.heap.size ≤ w1.heap.size := Nat.le_trans (unhide HB).size (unhide HBW).size; have HAP := hide (hv1.appended (by decide) (unhide HR1) hsz1 (Nat.le_refl _) hown' hgrow); have hc1 := (unhide HAP).1.cell; have hf1 := (unhide HAP).1.frozen; have HGR := hide hgrow; clear hgrow hown'))
    obtain ⟨hv1', hv2, hr2, hk2, hb2⟩ := unhide HAP
    have HBW2 : Below w.heap.size W w1 := (unhide HBW).mono (Nat.le_trans (unhide HB).size (Nat.le_refl _))
    have kb : Below w.heap.size W (w2.setCell ⟨w.heap.size, 0, none⟩ (.slice (some ⟨g', 0, none⟩) (N + 1) cap')) := HBW2.trans hb2
    have d1 : Boxed (w2.setCell ⟨w.heap.size, 0, none⟩ (.slice (some ⟨g', 0, none⟩) (N + 1) cap')) (w.heap.size + 1) 22 (.slice a n cap) := (((unhide HC3).alloc _).kept (unhide HGR) ((unhide HC3).not_row (by decide) (unhide HR1))).other (by omega) _
    have d2 : Boxed (w2.setCell ⟨w.heap.size, 0, none⟩ (.slice (some ⟨g', 0, none⟩) (N + 1) cap')) (w.heap.size + 1 + 1) 3 (.int .i64 (s : Int)) := (((unhide HC4).alloc _).kept (unhide HGR) ((unhide HC4).not_row (by decide) (unhide HR1))).other (by omega) _
    refine ⟨?_, ⟨kb, ?_, ?_⟩, ⟨⟨_, hv2, ?_, trivial⟩, d1, d2⟩, (unhide HB).trans kb⟩
    · exact (KeepsOthers.trans ⟨(unhide HBW).size, fun k o hk _ => ((unhide HBW).block k (Array.getElem?_eq_some_iff.1 hk).1).trans hk⟩ hk2).from _
    · exact d1.trans (unhide HC1).symm
    · exact d2.trans (unhide HC2).symm
    · rw [unhide HSL, unhide HS]; exact hr2
  case done =>
    rintro D ys W hD hys ⟨⟨⟨v, hv, hrow, -⟩, -, -⟩, hB⟩ hK
    have hc := hv.cell
    have e1 := pcF_all s l ys _ hys
    have HROW := hide hrow
    have HE1 := hide e1
    clear hys hrow e1
    gi_wp2
    refine ⟨by simp, .inl ⟨_, _, rfl, run_takeDeferred hK, ?_⟩⟩
    refine ⟨_, results_tmp2 rfl _ _ _, v, rfl, ?_, hB.trans (belowK_b (w := w) (Nat.le_refl _) W D _ _ (by omega) hK rfl rfl)⟩
    have h := ownsRow_putObj (unhide HROW) (.deferred none) hK rfl
    rw [unhide HE1, cutS_len] at h
    exact h
  case stop =>
    rintro D c pre W _ _ h _
    exact h.elim
set_option maxHeartbeats 1000000 in
set_option maxRecDepth 100000 in
theorem icut (z : Int) (a : Option Addr) (cap : Nat) (l : List UInt8) (r : List ByteArray) (c : Int) (hr : r = cutL z l) (hc : c = cutC z l) (hl : l.length ≤ 1048576) (hcap : l.length ≤ cap) (w : World) (hrow : RowV w a (B8 l)) :
    Calls Try.prog 6 #[.slice a l.length cap, .int .i64 z] w fun e w' => ∃ v, e = .returned (.tuple #[v, .int .i64 c]) ∧ w'.ownsRow w.heap.size 9 1 v r.length (cS r) ∧ Below w.heap.size w w' := by
  by_cases big : 65536 < l.length
  · obtain rfl : c = 2 := by rw [hc, cutC, if_pos big]
    obtain rfl : r = [] := by rw [hr, cutL, if_pos big]
    clear hr hc
    go_enter Try.func6, Try.ntmps6
    go_wp2_with fail
    go_ret2
    exact ⟨_, rfl, World.ownsRow_nil _ _ _ _, Below.refl _ _⟩
  cases hin : inB z 16 4096 with
  | false =>
    obtain rfl : c = 4 := by rw [hc, cutC, if_neg big, hin]; rfl
    obtain rfl : r = [] := by rw [hr, cutL, if_neg big, hin]; rfl
    have big2 : ¬ (65536 : Int) < (l.length : Int) := by omega
    clear hr hc
    go_enter Try.func6, Try.ntmps6
    go_wp2_with (go_at_call 14; refine (iwi z 16 4096 false (hide hin.symm) _).mono ?_; rintro e w1 ⟨rfl, hw⟩; subst w1)
    go_ret2
    exact ⟨_, rfl, World.ownsRow_nil _ _ _ _, Below.refl _ _⟩
  | true =>
    obtain rfl : c = 0 := by rw [hc, cutC, if_neg big, hin]; rfl
    have h3 : 16 ≤ z ∧ z ≤ 4096 := by have := hin; unfold inB at this; exact of_decide_eq_true this
    obtain ⟨s, rfl⟩ : ∃ s : Nat, z = (s : Int) := ⟨z.toNat, by omega⟩
    obtain rfl : r = cutS s l (pcN l.length s) := by rw [hr, cutL, if_neg big, hin]; simp
    rw [cutS_len]
    exact icut_ok s (by omega) (by omega) cap l.length l (hide rfl) (by omega) hcap w a hrow
end Go.Proofs.Ytffnehaccgfnjaa

/- The specification's block: what l01Consts and l01Block do. -/
import Derived.Test.YtmmnoepcklfonaaGreatDoorZHashOf
namespace Go.Proofs.YtmmnoepcklfonaaGreatDoor
open Go.ChangeShapes Go.WideShapes Go.ChangeAt Go.RowKit
theorem k_arr : (#[Value.int IntKind.u32 1116352408, Value.int IntKind.u32 1899447441, Value.int IntKind.u32 3049323471, Value.int IntKind.u32 3921009573, Value.int IntKind.u32 961987163, Value.int IntKind.u32 1508970993, Value.int IntKind.u32 2453635748, Value.int IntKind.u32 2870763221, Value.int IntKind.u32 3624381080, Value.int IntKind.u32 310598401, Value.int IntKind.u32 607225278, Value.int IntKind.u32 1426881987, Value.int IntKind.u32 1925078388, Value.int IntKind.u32 2162078206, Value.int IntKind.u32 2614888103, Value.int IntKind.u32 3248222580, Value.int IntKind.u32 3835390401, Value.int IntKind.u32 4022224774, Value.int IntKind.u32 264347078, Value.int IntKind.u32 604807628, Value.int IntKind.u32 770255983, Value.int IntKind.u32 1249150122, Value.int IntKind.u32 1555081692, Value.int IntKind.u32 1996064986, Value.int IntKind.u32 2554220882, Value.int IntKind.u32 2821834349, Value.int IntKind.u32 2952996808, Value.int IntKind.u32 3210313671, Value.int IntKind.u32 3336571891, Value.int IntKind.u32 3584528711, Value.int IntKind.u32 113926993, Value.int IntKind.u32 338241895, Value.int IntKind.u32 666307205, Value.int IntKind.u32 773529912, Value.int IntKind.u32 1294757372, Value.int IntKind.u32 1396182291, Value.int IntKind.u32 1695183700, Value.int IntKind.u32 1986661051, Value.int IntKind.u32 2177026350, Value.int IntKind.u32 2456956037, Value.int IntKind.u32 2730485921, Value.int IntKind.u32 2820302411, Value.int IntKind.u32 3259730800, Value.int IntKind.u32 3345764771, Value.int IntKind.u32 3516065817, Value.int IntKind.u32 3600352804, Value.int IntKind.u32 4094571909, Value.int IntKind.u32 275423344, Value.int IntKind.u32 430227734, Value.int IntKind.u32 506948616, Value.int IntKind.u32 659060556, Value.int IntKind.u32 883997877, Value.int IntKind.u32 958139571, Value.int IntKind.u32 1322822218, Value.int IntKind.u32 1537002063, Value.int IntKind.u32 1747873779, Value.int IntKind.u32 1955562222, Value.int IntKind.u32 2024104815, Value.int IntKind.u32 2227730452, Value.int IntKind.u32 2361852424, Value.int IntKind.u32 2428436474, Value.int IntKind.u32 2756734187, Value.int IntKind.u32 3204031479, Value.int IntKind.u32 3329325298] : Array Value) = (U32 kW).toArray := by kernel_rfl

set_option maxHeartbeats 400000 in
set_option maxRecDepth 100000 in
theorem consts30 (w : World) :
    Calls Tryz.prog 101 #[] w fun e w' => e = .returned (.slice (some ⟨w.heap.size, 0, none⟩) 64 64) ∧ ArrAt w' w.heap.size 125 (U32 kW) ∧ Below w.heap.size w w' := by
  go_enter Tryz.func101, Tryz.ntmps101
  go_wp2_with fail
  go_ret
  rw [k_arr]
  exact ⟨rfl, arr_new w (U32 kW) _, (Below.refl _ _).alloc (Nat.le_refl _) _⟩

theorem byte_shl (c : UInt8) (k : Nat) : ((c.toNat : Int) % 4294967296 * 2 ^ k) % 4294967296 = wI (b32 c <<< k) := by rw [byte_wrap, w_shl]
theorem load_raw (l : List UInt8) (k q0 q1 q2 q3 : Nat) (h0 : q0 = 4 * k) (h1 : q1 = q0 + 1) (h2 : q2 = q0 + 2) (h3 : q3 = q0 + 3) (l0 : q0 < l.length) (l1 : q1 < l.length) (l2 : q2 < l.length) (l3 : q3 < l.length) :
    bits BinOp.or IntKind.u32 (bits BinOp.or IntKind.u32 (bits BinOp.or IntKind.u32 ((l[q0].toNat : Int) % 4294967296 * 16777216 % 4294967296) ((l[q1].toNat : Int) % 4294967296 * 65536 % 4294967296)) ((l[q2].toNat : Int) % 4294967296 * 256 % 4294967296)) ((l[q3].toNat : Int) % 4294967296) = wI (load4 l k) := by
  have e0 : (l[q0].toNat : Int) % (4294967296 : Int) * (16777216 : Int) % (4294967296 : Int) = wI (b32 l[q0] <<< 24) := byte_shl l[q0] 24
  have e1 : (l[q1].toNat : Int) % (4294967296 : Int) * (65536 : Int) % (4294967296 : Int) = wI (b32 l[q1] <<< 16) := byte_shl l[q1] 16
  have e2 : (l[q2].toNat : Int) % (4294967296 : Int) * (256 : Int) % (4294967296 : Int) = wI (b32 l[q2] <<< 8) := byte_shl l[q2] 8
  rw [e0, e1, e2, byte_wrap, w_or, w_or, w_or]
  have f0 : b32 l[q0] = bb l (4 * k) := by unfold bb; rw [← h0]; simp [l0]
  have f1 : b32 l[q1] = bb l (4 * k + 1) := by unfold bb; rw [← h0, ← h1]; simp [l1]
  have f2 : b32 l[q2] = bb l (4 * k + 2) := by unfold bb; rw [← h0, ← h2]; simp [l2]
  have f3 : b32 l[q3] = bb l (4 * k + 3) := by unfold bb; rw [← h0, ← h3]; simp [l3]
  rw [f0, f1, f2, f3]; rfl
theorem fillA_step (l : List UInt8) (k : Nat) (h : k < 16) : (U32 (fillA l k)).set k (.int .u32 (wI (load4 l k))) = U32 (fillA l (k + 1)) := by
  have e := fillB_step l k 3
  rw [show part4 l k (3 + 1) = load4 l k from part_load l k] at e
  rw [← fillB_all l k h]
  show (U32 (fillA l k)).set k _ = U32 ((fillA l k).set k (part4 l k 4))
  rw [part_load]; simp [U32, List.map_set]
theorem cell_apart {w : World} {g m i : Nat} {x v : Value} (hne : ¬ m = i) (h : w.cell? ⟨g, i, none⟩ = some x) : (w.setCell ⟨g, m, none⟩ v).drew.cell? ⟨g, i, none⟩ = some x := by
  have hd : (w.setCell ⟨g, m, none⟩ v).drew.cell? ⟨g, i, none⟩ = (w.setCell ⟨g, m, none⟩ v).cell? ⟨g, i, none⟩ := rfl
  have hn : (⟨g, m, none⟩ : Addr) ≠ ⟨g, i, none⟩ := by intro e; injection e with e1 e2; exact hne e2
  rw [hd]
  exact (World.cell?_setCell_other w ⟨g, m, none⟩ ⟨g, i, none⟩ v hn).trans h
theorem Tryz.i4 : (Tryz.prog.info? 125).map (fun i => (i.zero, i.size, i.bytes)) = some (some (.int .u32 0), 1, 4) := by kernel_rfl
theorem lit_own (w : World) (base : Nat) (e : TypeId) (hb : base ≤ w.heap.size) : (w.alloc (.cells #[] e)).ownsRow base e 1 (.slice (some ⟨w.heap.size, 0, none⟩) 0 0) 0 [] :=
  World.ownsRow_lit w #[] 0 hb (by decide) rfl
theorem arr_src {w : World} {g : Nat} {t : TypeId} {l : List Value} (h : ArrAt w g t l) : ∀ j u, l[j]? = some u → w.cell? ((⟨g, 0, none⟩ : Addr).add j) = some u := fun j u hu => by
  rw [Addr.add_mid, Nat.zero_add, h.cell, hu]
/-- The first eight cells of block g are the registers r. -/
def V8 (w : World) (g : Nat) (r : R8) : Prop := g < w.heap.size ∧ ∀ i, i < 8 → w.cell? ⟨g, i, none⟩ = some (.int .u32 (wI (gt r.l i)))
theorem V8.below {w w' : World} {B g : Nat} {r : R8} (h : V8 w g r) (hb : Below B w w') (hg : g < B) : V8 w' g r :=
  ⟨Nat.lt_of_lt_of_le h.1 hb.size, fun i hi => (hb.cell (p := ⟨g, i, none⟩) hg).trans (h.2 i hi)⟩
theorem block_stage3 {w wr w1 : World} {o : Obj} {r : R8} {S : List (BitVec 32)} {gv cv : Nat} (hz : w.heap.size < wr.heap.size)
    (hown : w1.ownsRow (w.heap.size + 1) 125 1 (.slice (some ⟨gv, 0, none⟩) (0 + 8) cv) (0 + 8) ([] ++ U32 r.l)) (hg : (wr.alloc o).grownBy w1 (Value.slice (some ⟨wr.heap.size, 0, none⟩) 0 0).ownBlock)
    (hA : ArrAt wr w.heap.size 125 (U32 S)) (hb : Below w.heap.size w wr) :
    Hid (V8 w1 gv r) ∧ Hid (ArrAt w1 w.heap.size 125 (U32 S)) ∧ Hid (Below w.heap.size w w1) ∧ w.heap.size < gv := by
  have hlt := hown.lt gv rfl
  refine ⟨⟨hlt.2, fun i hi => ?_⟩, ?_, ?_, by omega⟩
  · rw [hown.cellAt i (by omega), List.nil_append, R8_at r i hi]
  · exact (hg.block w.heap.size (by simp; omega) (by simp [Value.ownBlock]; omega)).trans (hA.alloc o)
  · exact (hb.alloc (by omega) o).grown hg (by simp; omega) (fun k hk => by simp [Value.ownBlock] at hk; omega)
theorem v8_new (w : World) (s : R8) (t : TypeId) : V8 (w.alloc (.cells #[.int .u32 (wI s.a), .int .u32 (wI s.b), .int .u32 (wI s.c), .int .u32 (wI s.d), .int .u32 (wI s.e), .int .u32 (wI s.f), .int .u32 (wI s.g), .int .u32 (wI s.y)] t)) w.heap.size s := by
  have h := arr_new w (U32 s.l) t
  exact ⟨h.lt, fun i hi => (h.cell i).trans (R8_at s i hi)⟩
theorem V8.drew {w : World} {g : Nat} {r : R8} (h : V8 w g r) : V8 w.drew g r := h
theorem V8.alloc {w : World} {g : Nat} {r : R8} (h : V8 w g r) (o : Obj) : V8 (w.alloc o) g r := h.below ((Below.refl w.heap.size w).alloc (Nat.le_refl _) o) h.1
theorem step_a (q : R8) (k x : BitVec 32) : q.y + (rot q.e 6 ^^^ rot q.e 11 ^^^ rot q.e 25) + (q.e &&& q.f ^^^ ~~~q.e &&& q.g) + k + x + ((rot q.a 2 ^^^ rot q.a 13 ^^^ rot q.a 22) + (q.a &&& q.b ^^^ q.a &&& q.c ^^^ q.b &&& q.c)) = (stepR q (k + x)).a := by
  show _ = tOne q.e q.f q.g q.y (k + x) + tTwo q.a q.b q.c
  unfold tOne tTwo bs1 bs0
  rw [ch_eq, maj_eq, BitVec.add_assoc _ k x]
theorem step_e (q : R8) (k x : BitVec 32) : q.d + (q.y + (rot q.e 6 ^^^ rot q.e 11 ^^^ rot q.e 25) + (q.e &&& q.f ^^^ ~~~q.e &&& q.g) + k + x) = (stepR q (k + x)).e := by
  show _ = q.d + tOne q.e q.f q.g q.y (k + x)
  unfold tOne bs1
  rw [ch_eq, BitVec.add_assoc _ k x]
theorem ext_raw2 (x16 x15 x7 x2 : BitVec 32) : (((wI x16 + bits BinOp.xor IntKind.u32 (bits BinOp.xor IntKind.u32 (wI (rot x15 7)) (wI (rot x15 18))) (wI x15 / 8)) % 4294967296 + wI x7) % 4294967296 + bits BinOp.xor IntKind.u32 (bits BinOp.xor IntKind.u32 (wI (rot x2 17)) (wI (rot x2 19))) (wI x2 / 1024)) % 4294967296 = wI (x16 + ss0 x15 + x7 + ss1 x2) := by
  have e1 : wI x15 / (8 : Int) = wI (x15 >>> 3) := w_shr x15 3
  have e2 : wI x2 / (1024 : Int) = wI (x2 >>> 10) := w_shr x2 10
  rw [e1, e2]
  simp only [w_xor, w_add]
  rfl
theorem U32_gt (l : List (BitVec 32)) (k : Nat) (h : k < l.length) : (U32 l)[k]? = some (.int .u32 (wI (gt l k))) := by
  rw [U32_at l k h]; unfold gt; simp [h]
theorem v8_other {w : World} {g g' : Nat} {q : R8} (h : V8 w g q) (hne : ¬ g = g') (k : Nat) (u : Value) : V8 (w.setCell ⟨g', k, none⟩ u).drew g q := by
  refine ⟨?_, fun i hi => ?_⟩
  · show g < (w.setCell ⟨g', k, none⟩ u).heap.size
    have := h.1; simpa using this
  · have hn : (⟨g', k, none⟩ : Addr) ≠ ⟨g, i, none⟩ := by intro e; injection e with e1 e2; exact hne e1.symm
    exact (World.cell?_setCell_other w ⟨g', k, none⟩ ⟨g, i, none⟩ u hn).trans (h.2 i hi)
theorem grown_set {w w' : World} {g k : Nat} {u : Value} (h : w.grownBy w' (some g)) : w.grownBy (w'.setCell ⟨g, k, none⟩ u).drew (some g) := by
  refine ⟨h.os, h.tape, h.output, ?_, fun j hj hne => ?_⟩
  · show _ ≤ (w'.setCell ⟨g, k, none⟩ u).heap.size
    have := h.size; simpa using this
  · show (w'.setCell ⟨g, k, none⟩ u).heap[j]? = _
    rw [heap_setCell_other w' ⟨g, k, none⟩ j u (fun e => hne (by simp [e]))]
    exact h.block j hj hne
theorem mkw (w : World) : (Instr.makeSlice 126 (.int .i64 64) (.int .i64 64)).run Tryz.prog w = .ok (.slice (some ⟨w.heap.size, 0, none⟩) 64 64) (w.alloc (.cells (U32 (List.replicate 64 0)).toArray 125)) := by kernel_rfl

set_option maxHeartbeats 6000000 in
set_option maxRecDepth 100000 in
theorem sblock31 (r : R8) (gh ch : Nat) (a0 : Option Addr) (cap : Nat) (l : List UInt8) (hl : l.length = 64) (gk : Nat) (w : World) (hh : ArrAt w gh 125 (U32 r.l)) (hr : Row8 w a0 l) (hk : ArrAt w gk 125 (U32 kW)) :
    Calls Tryz.prog 102 #[.slice (some ⟨gh, 0, none⟩) 8 ch, .slice a0 64 cap, .slice (some ⟨gk, 0, none⟩) 64 64] w fun z w' => z = .returned (.tuple #[]) ∧ ArrAt w' gh 125 (U32 (mixR r l).l) ∧ w.grownBy w' (some gh) := by
  have HH := hide hh
  have HR := hide hr
  have HK := hide hk
  have HL := hide hl
  have hghl := hh.lt
  have hgkl := hk.lt
  have hmk := mkw
  obtain ⟨i1, hi, hz0, hz1, hz2⟩ := info_parts Tryz.i4
  clear hh hr hk hl
  go_enter Tryz.func102, Tryz.ntmps102
  go_wp2_with fail
  go_loopw [7] (fun i wr => ∃ k : Nat, k ≤ 16 ∧ i = .int .i64 k ∧ Hid (ArrAt wr w.heap.size 125 (U32 (fillA l k))) ∧ Hid (Below w.heap.size w wr)) (fun i _ => 16 - (intOf i).toNat)
  case atStart => exact ⟨0, by omega, rfl, arr_new w (U32 (List.replicate 64 0)) _, (Below.refl _ _).alloc (Nat.le_refl _) _⟩
  case round =>
    clear hmk
    obtain ⟨k, hk, rfl, HA, HB⟩ := hrel
    by_cases hlt : k < 16
    · obtain ⟨b, off, ha, hblt, hc⟩ := (unhide HR).at (by rw [unhide HL]; omega)
      subst ha
      have h64 := unhide HL
      obtain ⟨q0, h0⟩ : ∃ q, q = 4 * k := ⟨_, rfl⟩
      obtain ⟨q1, h1⟩ : ∃ q, q = q0 + 1 := ⟨_, rfl⟩
      obtain ⟨q2, h2⟩ : ∃ q, q = q0 + 2 := ⟨_, rfl⟩
      obtain ⟨q3, h3⟩ : ∃ q, q = q0 + 3 := ⟨_, rfl⟩
      have l0 : q0 < l.length := by omega
      have l1 : q1 < l.length := by omega
      have l2 : q2 < l.length := by omega
      have l3 : q3 < l.length := by omega
      have c0 := ((unhide HB).cell (p := ⟨b, off + q0, none⟩) hblt).trans (hc q0 l0)
      have c1 := ((unhide HB).cell (p := ⟨b, off + q1, none⟩) hblt).trans (hc q1 l1)
      have c2 := ((unhide HB).cell (p := ⟨b, off + q2, none⟩) hblt).trans (hc q2 l2)
      have c3 := ((unhide HB).cell (p := ⟨b, off + q3, none⟩) hblt).trans (hc q3 l3)
      have kl : k < (U32 (fillA l k)).length := by rw [U32_len, fillA_len l k (by omega)]; omega
      obtain ⟨old, hold⟩ : ∃ v, (U32 (fillA l k))[k]? = some v := ⟨_, List.getElem?_eq_getElem kl⟩
      have ck : wr.cell? ⟨w.heap.size, k, none⟩ = some old := by rw [(unhide HA).cell, hold]
      have fk := (unhide HA).frozen k
      have e0 : IntKind.i64.wrap (4 * (k : Int)) = (q0 : Int) := by rw [wrapi _ (by omega) (by omega)]; omega
      have e1 : IntKind.i64.wrap ((q0 : Int) + 1) = (q1 : Int) := by rw [wrapi _ (by omega) (by omega)]; omega
      have e2 : IntKind.i64.wrap ((q0 : Int) + 2) = (q2 : Int) := by rw [wrapi _ (by omega) (by omega)]; omega
      have e3 : IntKind.i64.wrap ((q0 : Int) + 3) = (q3 : Int) := by rw [wrapi _ (by omega) (by omega)]; omega
      have b0 : (0 : Int) ≤ (q0 : Int) := by omega
      have b0' : (q0 : Int) < 64 := by omega
      have b1 : (0 : Int) ≤ (q1 : Int) := by omega
      have b1' : (q1 : Int) < 64 := by omega
      have b2 : (0 : Int) ≤ (q2 : Int) := by omega
      have b2' : (q2 : Int) < 64 := by omega
      have b3 : (0 : Int) ≤ (q3 : Int) := by omega
      have b3' : (q3 : Int) < 64 := by omega
      have k0 : (0 : Int) ≤ (k : Int) := by omega
      have k1 : (k : Int) < 64 := by omega
      have hnb : ¬ w.heap.size = b := by omega
      have hnb2 : ¬ b = w.heap.size := by omega
      have HV := hide (load_raw l k q0 q1 q2 q3 h0 h1 h2 h3 l0 l1 l2 l3)
      have HST := hide (fillA_step l k hlt)
      generalize (l[q0].toNat : Int) = x0 at *
      generalize (l[q1].toNat : Int) = x1 at *
      generalize (l[q2].toNat : Int) = x2 at *
      generalize (l[q3].toNat : Int) = x3 at *
      clear h0 h1 h2 h3 l0 l1 l2 l3 hc kl hold h64
      go_wp2_with fail
      go_region_held3 (fun w' => w'.cell? ⟨b, off + q0, none⟩ = some (.int .u8 x0) ∧ w'.cell? ⟨b, off + q1, none⟩ = some (.int .u8 x1) ∧ w'.cell? ⟨b, off + q2, none⟩ = some (.int .u8 x2) ∧ w'.cell? ⟨b, off + q3, none⟩ = some (.int .u8 x3)) (go_keep) (fail)
      all_goals
        go_wp2_with fail
        rw [unhide HV]
        go_roundw
        case rel => exact ⟨k + 1, by omega, by go_num, (unhide HST) ▸ ((unhide HA).set k _).drew, ((unhide HB).setCell (p := ⟨w.heap.size, k, none⟩) (Nat.le_refl _) _).drew⟩
        case measure => simp [intOf]; omega
    · have ek : k = 16 := by omega
      have R : Hid (ArrAt wr w.heap.size 125 (U32 (sched l 0 ++ List.replicate 48 0))) := by rw [show sched l 0 ++ List.replicate 48 0 = fillA l 16 from rfl, ← ek]; exact HA
      clear HA ek
      go_wp2_with fail
      go_loopw [8] (fun i wr => ∃ n m : Nat, n ≤ 48 ∧ Hid (m = 16 + n) ∧ i = .int .i64 m ∧ Hid (ArrAt wr w.heap.size 125 (U32 (sched l n ++ List.replicate (48 - n) 0))) ∧ Hid (Below w.heap.size w wr)) (fun i _ => 64 - (intOf i).toNat)
      case atStart => exact ⟨0, 16, by omega, rfl, rfl, R, HB⟩
      case round =>
        clear R HB
        obtain ⟨n, m, hn, HM, rfl, HA, HB⟩ := hrel
        have em := unhide HM
        by_cases hlt : n < 48
        · obtain ⟨z, hz⟩ : ∃ z, 48 - n = z + 1 := ⟨48 - n - 1, by omega⟩
          rw [hz] at HA
          have hsl := sched_len l n
          obtain ⟨i15, h15⟩ : ∃ i, i = m - 15 := ⟨_, rfl⟩
          have c15 : wr.cell? ⟨w.heap.size, i15, none⟩ = some (.int .u32 (wI (gt (sched l n) i15))) := by rw [(unhide HA).cell, pad_at _ _ _ (by omega)]
          have p15 : (m : Int) - 15 = (i15 : Int) := by omega
          have e15 : IntKind.i64.wrap ((m : Int) - 15) = (i15 : Int) := by rw [wrapi _ (by omega) (by omega)]; omega
          have w15 : IntKind.i64.wrap (i15 : Int) = (i15 : Int) := wrapi _ (by omega) (by omega)
          have b15a : (0 : Int) ≤ (i15 : Int) := by omega
          have b15b : (i15 : Int) < 64 := by omega
          have n15 : ¬ m = i15 := by omega
          have m15 : ¬ i15 = m := by omega
          obtain ⟨i2, h2⟩ : ∃ i, i = m - 2 := ⟨_, rfl⟩
          have c2 : wr.cell? ⟨w.heap.size, i2, none⟩ = some (.int .u32 (wI (gt (sched l n) i2))) := by rw [(unhide HA).cell, pad_at _ _ _ (by omega)]
          have p2 : (m : Int) - 2 = (i2 : Int) := by omega
          have e2 : IntKind.i64.wrap ((m : Int) - 2) = (i2 : Int) := by rw [wrapi _ (by omega) (by omega)]; omega
          have w2 : IntKind.i64.wrap (i2 : Int) = (i2 : Int) := wrapi _ (by omega) (by omega)
          have b2a : (0 : Int) ≤ (i2 : Int) := by omega
          have b2b : (i2 : Int) < 64 := by omega
          have n2 : ¬ m = i2 := by omega
          have m2 : ¬ i2 = m := by omega
          obtain ⟨i16, h16⟩ : ∃ i, i = m - 16 := ⟨_, rfl⟩
          have c16 : wr.cell? ⟨w.heap.size, i16, none⟩ = some (.int .u32 (wI (gt (sched l n) i16))) := by rw [(unhide HA).cell, pad_at _ _ _ (by omega)]
          have p16 : (m : Int) - 16 = (i16 : Int) := by omega
          have e16 : IntKind.i64.wrap ((m : Int) - 16) = (i16 : Int) := by rw [wrapi _ (by omega) (by omega)]; omega
          have w16 : IntKind.i64.wrap (i16 : Int) = (i16 : Int) := wrapi _ (by omega) (by omega)
          have b16a : (0 : Int) ≤ (i16 : Int) := by omega
          have b16b : (i16 : Int) < 64 := by omega
          have n16 : ¬ m = i16 := by omega
          have m16 : ¬ i16 = m := by omega
          obtain ⟨i7, h7⟩ : ∃ i, i = m - 7 := ⟨_, rfl⟩
          have c7 : wr.cell? ⟨w.heap.size, i7, none⟩ = some (.int .u32 (wI (gt (sched l n) i7))) := by rw [(unhide HA).cell, pad_at _ _ _ (by omega)]
          have p7 : (m : Int) - 7 = (i7 : Int) := by omega
          have e7 : IntKind.i64.wrap ((m : Int) - 7) = (i7 : Int) := by rw [wrapi _ (by omega) (by omega)]; omega
          have w7 : IntKind.i64.wrap (i7 : Int) = (i7 : Int) := wrapi _ (by omega) (by omega)
          have b7a : (0 : Int) ≤ (i7 : Int) := by omega
          have b7b : (i7 : Int) < 64 := by omega
          have n7 : ¬ m = i7 := by omega
          have m7 : ¬ i7 = m := by omega
          have cm : wr.cell? ⟨w.heap.size, m, none⟩ = some (.int .u32 (wI 0)) := by rw [(unhide HA).cell, pad_end _ _ _ (by omega)]
          have fm := (unhide HA).frozen m
          have bma : (0 : Int) ≤ (m : Int) := by omega
          have bmb : (m : Int) < 64 := by omega
          have HV : Hid (ext (sched l n) (16 + n) = gt (sched l n) i16 + ss0 (gt (sched l n) i15) + gt (sched l n) i7 + ss1 (gt (sched l n) i2)) := by
            show _ = _; unfold ext; rw [h16, h15, h7, h2, em]
          have HS := hide hsl
          have HW := hide hz
          generalize gt (sched l n) i15 = x15 at *
          generalize gt (sched l n) i2 = x2 at *
          generalize gt (sched l n) i16 = x16 at *
          generalize gt (sched l n) i7 = x7 at *
          clear hsl h15 h2 h16 h7 em hz
          go_wp2_with fail
          go_region_held3 (fun w' => w'.cell? ⟨w.heap.size, i16, none⟩ = some (.int .u32 (wI x16)) ∧ w'.cell? ⟨w.heap.size, i7, none⟩ = some (.int .u32 (wI x7))) (first | exact ⟨cell_apart n16 c16, cell_apart n7 c7⟩ | go_keep) (first | (go_at_call 109; refine (turnH _ _ (by decide) (by decide) _).mono ?_; rintro e w1 ⟨rfl, hw⟩; subst w1))
          all_goals
            go_wp2_with fail
            rw [ext_raw2 x16 x15 x7 x2, ← unhide HV]
            go_roundw
            case rel => exact ⟨n + 1, m + 1, by omega, by show m + 1 = 16 + (n + 1); have := unhide HM; omega, by go_num, by rw [show 48 - (n + 1) = z from by have := unhide HW; omega]; exact (pad_set (sched l n) z m (by have := unhide HS; have := unhide HM; omega) _) ▸ ((unhide HA).set m _), ((unhide HB).setCell (p := ⟨w.heap.size, m, none⟩) (Nat.le_refl _) _).drew⟩
            case measure => simp [intOf]; omega
        · have en : n = 48 := by omega
          obtain ⟨S, hS⟩ : ∃ S, S = sched l 48 := ⟨_, rfl⟩
          have HA2 : Hid (ArrAt wr w.heap.size 125 (U32 S)) := by rw [hS]; rw [en, show 48 - 48 = 0 from rfl, List.replicate_zero, List.append_nil] at HA; exact HA
          have HSL : Hid (S.length = 64) := by show _ = _; rw [hS, sched_len]
          have HSS := hide hS
          have bm : ¬ (m : Int) < 64 := by omega
          have HH2 : Hid (ArrAt wr gh 125 (U32 r.l)) := (unhide HH).below (unhide HB) hghl
          have hz := (unhide HB).size
          have hzw := (unhide HA2).lt
          clear en em HA hS
          go_wp2_with (at_builtin; refine wpList_append_lies _ rfl _ _ 126 rfl (w.heap.size + 1) 125 i1 (.int .u32 0) 1 4 Tryz.underlying126 hi hz0 hz1 hz2 rfl (by decide) _ _ _ rfl (lit_own wr (w.heap.size + 1) 125 (by omega)) ⟨gh, 0, none⟩ 8 ch (U32 r.l) rfl rfl (arr_src ((unhide HH2).alloc _)) (U32_one _) (by decide) (by decide) (by decide) (by simp; omega) _ rfl ?_; intro gv cv w1 hown1 hgrow1 hat1 hlt1; obtain ⟨HV, HA3, HB3, hgv⟩ := block_stage3 hzw hown1 hgrow1 (unhide HA2) (unhide HB); clear hown1 hgrow1 hat1 hlt1)
          go_loopw [11, 12] (fun v i wr => ∃ k gv cv : Nat, k ≤ 64 ∧ i = .int .i64 k ∧ v = .slice (some ⟨gv, 0, none⟩) 8 cv ∧ w.heap.size < gv ∧ Hid (V8 wr gv (rounds S k r)) ∧ Hid (ArrAt wr w.heap.size 125 (U32 S)) ∧ Hid (Below w.heap.size w wr)) (fun _ i _ => 64 - (intOf i).toNat)
          case atStart => exact ⟨0, gv, cv, by omega, rfl, rfl, hgv, HV, HA3, HB3⟩
          case round =>
            clear HV HA3 HB3 hgv HA2 HH2 hz hzw HB
            obtain ⟨k, gv, cv, hk, rfl, rfl, hgv, HQ0, HA, HB⟩ := hrel
            by_cases hlt : k < 64
            · obtain ⟨q, hq⟩ : ∃ q, q = rounds S k r := ⟨_, rfl⟩
              have HQ : Hid (V8 wr gv q) := by rw [hq]; exact HQ0
              have HNX : Hid (rounds S (k + 1) r = stepR q (gt kW k + gt S k)) := by rw [hq]; rfl
              have hSl := unhide HSL
              have cK : wr.cell? ⟨gk, k, none⟩ = some (.int .u32 (wI (gt kW k))) := by
                rw [(unhide HB).cell (p := ⟨gk, k, none⟩) hgkl, (unhide HK).cell, U32_gt kW k hlt]
              have cS : wr.cell? ⟨w.heap.size, k, none⟩ = some (.int .u32 (wI (gt S k))) := by
                rw [(unhide HA).cell, U32_gt S k (by omega)]
              clear HQ0 hq hSl
              have c0 : wr.cell? ⟨gv, 0, none⟩ = some (.int .u32 (wI q.a)) := (unhide HQ).2 0 (by decide)
              have c1 : wr.cell? ⟨gv, 1, none⟩ = some (.int .u32 (wI q.b)) := (unhide HQ).2 1 (by decide)
              have c2 : wr.cell? ⟨gv, 2, none⟩ = some (.int .u32 (wI q.c)) := (unhide HQ).2 2 (by decide)
              have c3 : wr.cell? ⟨gv, 3, none⟩ = some (.int .u32 (wI q.d)) := (unhide HQ).2 3 (by decide)
              have c4 : wr.cell? ⟨gv, 4, none⟩ = some (.int .u32 (wI q.e)) := (unhide HQ).2 4 (by decide)
              have c5 : wr.cell? ⟨gv, 5, none⟩ = some (.int .u32 (wI q.f)) := (unhide HQ).2 5 (by decide)
              have c6 : wr.cell? ⟨gv, 6, none⟩ = some (.int .u32 (wI q.g)) := (unhide HQ).2 6 (by decide)
              have c7 : wr.cell? ⟨gv, 7, none⟩ = some (.int .u32 (wI q.y)) := (unhide HQ).2 7 (by decide)
              have N0 : ¬ wr.heap.size = gv := by have := (unhide HQ).1; omega
              have hz := (unhide HB).size
              have hzl := (unhide HA).lt
              generalize gt kW k = kx at *
              generalize gt S k = sx at *
              have k0 : (0 : Int) ≤ (k : Int) := by omega
              have k1 : (k : Int) < 64 := by omega
              go_wp2_with fail
              go_region_held3 (fun w' => w'.cell? ⟨gv, 5, none⟩ = some (.int .u32 (wI q.f)) ∧ w'.cell? ⟨gv, 6, none⟩ = some (.int .u32 (wI q.g)) ∧ w'.cell? ⟨gv, 7, none⟩ = some (.int .u32 (wI q.y)) ∧ w'.cell? ⟨gk, k, none⟩ = some (.int .u32 (wI kx)) ∧ w'.cell? ⟨w.heap.size, k, none⟩ = some (.int .u32 (wI sx))) (go_keep) (first | (go_at_call 109; refine (turnH _ _ (by decide) (by decide) _).mono ?_; rintro e w1 ⟨rfl, hw⟩; subst w1))
              go_wp2_with fail
              go_region_held3 (fun w' => w'.cell? ⟨gv, 1, none⟩ = some (.int .u32 (wI q.b)) ∧ w'.cell? ⟨gv, 2, none⟩ = some (.int .u32 (wI q.c))) (go_keep) (first | (go_at_call 109; refine (turnH _ _ (by decide) (by decide) _).mono ?_; rintro e w1 ⟨rfl, hw⟩; subst w1))
              go_wp2_with fail
              go_region_held3 (fun w' => w'.cell? ⟨gv, 0, none⟩ = some (.int .u32 (wI q.a)) ∧ w'.cell? ⟨gv, 1, none⟩ = some (.int .u32 (wI q.b)) ∧ w'.cell? ⟨gv, 2, none⟩ = some (.int .u32 (wI q.c)) ∧ w'.cell? ⟨gv, 3, none⟩ = some (.int .u32 (wI q.d)) ∧ w'.cell? ⟨gv, 4, none⟩ = some (.int .u32 (wI q.e)) ∧ w'.cell? ⟨gv, 5, none⟩ = some (.int .u32 (wI q.f)) ∧ w'.cell? ⟨gv, 6, none⟩ = some (.int .u32 (wI q.g))) (go_keep) (fail)
              all_goals go_wp2_with fail
              all_goals
                simp only [w_xor, w_and, w_not, w_add, step_a, step_e]
                go_roundw
                case rel => exact ⟨k + 1, wr.heap.size, 8, by omega, by go_num, rfl, by omega, by rw [unhide HNX]; exact (((v8_new wr (stepR q (kx + sx)) 125).drew).drew).drew, (unhide HA).alloc _, ((((unhide HB).alloc hz _).drew).drew).drew⟩
                case measure => simp [intOf]; omega
            · have ek : k = 64 := by omega
              obtain ⟨q, hq⟩ : ∃ q, q = rounds S 64 r := ⟨_, rfl⟩
              have HQ : Hid (V8 wr gv q) := by rw [hq, ← ek]; exact HQ0
              have HNX : Hid (mixR r l = addR r q) := by show _ = _; unfold mixR; rw [← unhide HSS, ← hq]
              have HA4 : Hid (ArrAt wr gh 125 (U32 (addTo r q 0))) := (unhide HH).below (unhide HB) hghl
              have HG : Hid (w.grownBy wr (some gh)) := ⟨(unhide HB).os, (unhide HB).tape, (unhide HB).output, (unhide HB).size, fun j hj _ => (unhide HB).block j hj⟩
              have hng : ¬ gh = gv := by omega
              have hng2 : ¬ gv = gh := by omega
              clear HQ0 hq ek HA HB
              go_wp2_with fail
              go_loopw [17] (fun i wr => ∃ k : Nat, k ≤ 8 ∧ i = .int .i64 k ∧ Hid (ArrAt wr gh 125 (U32 (addTo r q k))) ∧ Hid (V8 wr gv q) ∧ Hid (w.grownBy wr (some gh))) (fun i _ => 8 - (intOf i).toNat)
              case atStart => exact ⟨0, by omega, rfl, HA4, HQ, HG⟩
              case round =>
                clear HQ HA4 HG
                obtain ⟨k, hk, rfl, HA4, HQ, HG⟩ := hrel
                by_cases hlt : k < 8
                · have c1 : wr.cell? ⟨gh, k, none⟩ = some (.int .u32 (wI (gt r.l k))) := by rw [(unhide HA4).cell, addTo_at r q k hlt]
                  have c2 : wr.cell? ⟨gv, k, none⟩ = some (.int .u32 (wI (gt q.l k))) := (unhide HQ).2 k hlt
                  have f1 := (unhide HA4).frozen k
                  have HST := hide (addTo_set r q k hlt)
                  generalize gt r.l k = x1 at *
                  generalize gt q.l k = x2 at *
                  have ea := w_addw x1 x2
                  have k0 : (0 : Int) ≤ (k : Int) := by omega
                  have k1 : (k : Int) < 8 := by omega
                  go_wp2_with fail
                  go_region
                  all_goals
                    clear c1 c2 f1 ea
                    go_wp2_with fail
                    go_roundw
                    case rel => exact ⟨k + 1, by omega, by go_num, (unhide HST) ▸ ((unhide HA4).set k _).drew, v8_other (unhide HQ) hng2 k _, grown_set (unhide HG)⟩
                    case measure => simp [intOf]; omega
                · have ek : k = 8 := by omega
                  have HF : Hid (ArrAt wr gh 125 (U32 (mixR r l).l)) := by rw [unhide HNX, ← addTo_all r q, ← ek]; exact HA4
                  clear HA4 ek
                  go_wp2_with fail
                  go_end0
                  exact ⟨rfl, HF, HG⟩
end Go.Proofs.YtmmnoepcklfonaaGreatDoor

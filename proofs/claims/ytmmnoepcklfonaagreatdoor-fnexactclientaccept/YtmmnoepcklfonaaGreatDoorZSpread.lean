/- The schedule of a block: what spreadBlock answers. -/
import Derived.Test.YtmmnoepcklfonaaGreatDoorZArr
namespace Go.Proofs.YtmmnoepcklfonaaGreatDoor
open Go.ChangeShapes Go.WideShapes Go.ChangeAt Go.RowKit

/-- The word in the making: behind j of its four bytes. -/
def part4 (l : List UInt8) (i : Nat) : Nat → BitVec 32
  | 0 => 0
  | j + 1 => part4 l i j <<< 8 ||| bb l (4 * i + j)
def fillA (l : List UInt8) (k : Nat) : List (BitVec 32) := (List.range k).map (load4 l) ++ List.replicate (64 - k) 0
def fillB (l : List UInt8) (k j : Nat) : List (BitVec 32) := (fillA l k).set k (part4 l k j)

theorem fillA_len (l : List UInt8) (k : Nat) (h : k ≤ 64) : (fillA l k).length = 64 := by simp [fillA]; omega
theorem fillB_zero (l : List UInt8) (k : Nat) (h : k < 16) : fillA l k = fillB l k 0 := by
  unfold fillB
  apply List.ext_getElem?
  intro i
  by_cases e : i = k
  · subst e
    have hl := fillA_len l i (by omega)
    rw [List.getElem?_set_self (by omega)]
    unfold fillA
    rw [List.getElem?_append_right (by simp)]
    rw [List.getElem?_replicate, if_pos (by simp; omega)]
    rfl
  · rw [List.getElem?_set_ne (by omega)]
theorem fillB_at (l : List UInt8) (k j : Nat) (h : k < 16) : (U32 (fillB l k j))[k]? = some (.int .u32 (wI (part4 l k j))) := by
  have hl := fillA_len l k (by omega)
  have hk : k < (fillB l k j).length := by unfold fillB; rw [List.length_set]; omega
  rw [U32_at _ _ hk]
  simp [fillB]
theorem part_load (l : List UInt8) (k : Nat) : part4 l k 4 = load4 l k := by
  show (((((0 : BitVec 32) <<< 8 ||| bb l (4 * k + 0)) <<< 8 ||| bb l (4 * k + 1)) <<< 8 ||| bb l (4 * k + 2)) <<< 8 ||| bb l (4 * k + 3)) = _
  unfold load4
  rw [Nat.add_zero]
  generalize bb l (4 * k) = a; generalize bb l (4 * k + 1) = b; generalize bb l (4 * k + 2) = c; generalize bb l (4 * k + 3) = d
  rw [show (0 : BitVec 32) <<< 8 = 0#32 from rfl, BitVec.zero_or]
  simp only [BitVec.shiftLeft_or_distrib, ← BitVec.shiftLeft_add]
theorem fillB_step (l : List UInt8) (k j : Nat) : (U32 (fillB l k j)).set k (.int .u32 (wI (part4 l k (j + 1)))) = U32 (fillB l k (j + 1)) := by
  simp [U32, fillB, List.map_set]
theorem fillB_all (l : List UInt8) (k : Nat) (h : k < 16) : fillB l k 4 = fillA l (k + 1) := by
  unfold fillB fillA
  have e : ((List.range k).map (load4 l)).length = k := by simp
  rw [List.set_append_right _ _ (by omega), e, Nat.sub_self, List.range_succ, List.map_append]
  obtain ⟨m, hm⟩ : ∃ m, 64 - k = m + 1 := ⟨64 - k - 1, by omega⟩
  rw [hm, show 64 - (k + 1) = m from by omega, List.replicate_succ, List.set_cons_zero, List.append_assoc]
  have hp : part4 l k 4 = load4 l k := part_load l k
  rw [hp]; rfl
theorem byte_wrap (c : UInt8) : (c.toNat : Int) % 4294967296 = wI (b32 c) := by
  have := c.toNat_lt
  unfold wI b32; rw [BitVec.toNat_ofNat]; omega
theorem part_step (l : List UInt8) (k j q : Nat) (hq : q = 4 * k + j) (h : q < l.length) :
    bits BinOp.or IntKind.u32 (wI (part4 l k j) * 256 % 4294967296) ((l[q].toNat : Int) % 4294967296) = wI (part4 l k (j + 1)) := by
  have e1 : wI (part4 l k j) * (256 : Int) % (4294967296 : Int) = wI (part4 l k j <<< 8) := by rw [← w_shl]; rfl
  rw [e1, byte_wrap, w_or]
  have e2 : b32 l[q] = bb l (4 * k + j) := by unfold bb; rw [← hq]; simp [h]
  rw [e2]; rfl
theorem ext_raw (x16 x15 x7 x2 : BitVec 32) : (wI x16 + bits BinOp.xor IntKind.u32 (bits BinOp.xor IntKind.u32 (wI (rot x15 7)) (wI (rot x15 18))) (wI x15 / 8) + wI x7 + bits BinOp.xor IntKind.u32 (bits BinOp.xor IntKind.u32 (wI (rot x2 17)) (wI (rot x2 19))) (wI x2 / 1024)) % 4294967296 = wI (x16 + ss0 x15 + x7 + ss1 x2) := by
  have e1 : wI x15 / (8 : Int) = wI (x15 >>> 3) := w_shr x15 3
  have e2 : wI x2 / (1024 : Int) = wI (x2 >>> 10) := w_shr x2 10
  rw [e1, e2]
  simp only [w_xor, wI_add]
  show _ = ((((wI x16 + wI (ss0 x15)) % 4294967296 + wI x7) % 4294967296 + wI (ss1 x2)) % 4294967296)
  unfold ss0 ss1
  omega
set_option maxHeartbeats 1000000 in
set_option maxRecDepth 100000 in
theorem spread32 (a : Option Addr) (cap : Nat) (l : List UInt8) (hl : l.length = 64) (w : World) (hr : Row8 w a l) :
    Calls Tryz.prog 119 #[.slice a 64 cap] w fun r w' => r = .returned (.agg (U32 (sched l 48)).toArray) ∧ Below w.heap.size w w' := by
  have HR := hide hr
  have HL := hide hl
  clear hr hl
  go_enter Tryz.func119, Tryz.ntmps119
  go_wp2_with fail
  go_loopw [9] (fun i wr => ∃ k : Nat, k ≤ 16 ∧ i = .int .i64 k ∧ ArrAt wr (w.heap.size + 1) 145 (U32 (fillA l k)) ∧ ArrAt wr w.heap.size 145 (U32 (List.replicate 64 0)) ∧ Below w.heap.size w wr) (fun i _ => 16 - (intOf i).toNat)
  case atStart =>
    rw [z64]
    exact ⟨0, by omega, rfl, arr_second w _ (U32 (List.replicate 64 0)) _, (arr_new w (U32 (List.replicate 64 0)) _).alloc _, ((Below.refl _ _).alloc (Nat.le_refl _) _).alloc (by simp) _⟩
  case round =>
    obtain ⟨k, hk, rfl, hA, hZ, hb⟩ := hrel
    by_cases hlt : k < 16
    · go_wp2_with fail
      go_loopw [12] (fun i wr => ∃ j : Nat, j ≤ 4 ∧ i = .int .i64 j ∧ ArrAt wr (w.heap.size + 1) 145 (U32 (fillB l k j)) ∧ ArrAt wr w.heap.size 145 (U32 (List.replicate 64 0)) ∧ Below w.heap.size w wr) (fun i _ => 4 - (intOf i).toNat)
      case atStart => exact ⟨0, by omega, rfl, fillB_zero l k hlt ▸ hA, hZ, hb⟩
      case round =>
        clear hA hZ hb
        obtain ⟨j, hj, rfl, hA, hZ, hb⟩ := hrel
        by_cases hjt : j < 4
        · obtain ⟨b, off, ha, hblt, hc⟩ := (unhide HR).at (by rw [unhide HL]; omega)
          subst ha
          have h64 := unhide HL
          obtain ⟨q, hq⟩ : ∃ q, q = 4 * k + j := ⟨_, rfl⟩
          have hq64 : q < l.length := by omega
          have c1 := (hb.cell (p := ⟨b, off + q, none⟩) hblt).trans (hc q hq64)
          have c2 : wr.cell? ⟨w.heap.size + 1, k, none⟩ = some (.int .u32 (wI (part4 l k j))) := by rw [hA.cell k, fillB_at l k j hlt]
          have f2 := hA.frozen k
          have k0 : (0 : Int) ≤ (k : Int) := by omega
          have k1 : (k : Int) < 64 := by omega
          have q0 : (0 : Int) ≤ (q : Int) := by omega
          have q1 : (q : Int) < 64 := by omega
          have e1 : IntKind.i64.wrap (4 * (k : Int)) = 4 * (k : Int) := wrapi _ (by omega) (by omega)
          have e2 : IntKind.i64.wrap (4 * (k : Int) + (j : Int)) = (q : Int) := by rw [wrapi _ (by omega) (by omega)]; omega
          have HQ := hide hq
          have HA := hide hA
          have HZ := hide hZ
          have HB := hide hb
          clear hq hc hA hZ hb h64
          go_wp2_with fail
          go_region
          all_goals
            go_wp2_with fail
            rw [part_step l k j q (unhide HQ) hq64]
            go_roundw
            case rel => exact ⟨j + 1, by omega, by go_num, fillB_step l k j ▸ ((unhide HA).set k _).drew, ((unhide HZ).other (by omega) k _).drew, ((unhide HB).setCell (p := ⟨w.heap.size + 1, k, none⟩) (by simp) _).drew⟩
            case measure => simp [intOf]; omega
        · have ej : j = 4 := by omega
          have R : ArrAt wr (w.heap.size + 1) 145 (U32 (fillA l (k + 1))) := by rw [← fillB_all l k hlt, ← ej]; exact hA
          clear hA ej
          go_wp2_with fail
          go_roundw
          case rel => exact ⟨k + 1, by omega, by go_num, R, hZ, hb⟩
          case measure => simp [intOf]; omega
    · have ek : k = 16 := by omega
      have R : ArrAt wr (w.heap.size + 1) 145 (U32 (sched l 0 ++ List.replicate 48 0)) := by rw [show sched l 0 ++ List.replicate 48 0 = fillA l 16 from rfl, ← ek]; exact hA
      clear hA ek
      go_wp2_with fail
      go_loopw [6] (fun i wr => ∃ n m : Nat, n ≤ 48 ∧ Hid (m = 16 + n) ∧ i = .int .i64 m ∧ ArrAt wr (w.heap.size + 1) 145 (U32 (sched l n ++ List.replicate (48 - n) 0)) ∧ ArrAt wr w.heap.size 145 (U32 (List.replicate 64 0)) ∧ Below w.heap.size w wr) (fun i _ => 64 - (intOf i).toNat)
      case atStart => exact ⟨0, 16, by omega, rfl, rfl, R, hZ, hb⟩
      case round =>
        clear R hZ hb
        obtain ⟨n, m, hn, HM, rfl, hA, hZ, hb⟩ := hrel
        have em := unhide HM
        by_cases hlt : n < 48
        · obtain ⟨z, hz⟩ : ∃ z, 48 - n = z + 1 := ⟨48 - n - 1, by omega⟩
          rw [hz] at hA
          have hsl := sched_len l n
          obtain ⟨i15, h15⟩ : ∃ i, i = m - 15 := ⟨_, rfl⟩
          obtain ⟨i2, h2⟩ : ∃ i, i = m - 2 := ⟨_, rfl⟩
          obtain ⟨i16, h16⟩ : ∃ i, i = m - 16 := ⟨_, rfl⟩
          obtain ⟨i7, h7⟩ : ∃ i, i = m - 7 := ⟨_, rfl⟩
          have c15 : wr.cell? ⟨w.heap.size + 1, i15, none⟩ = some (.int .u32 (wI (gt (sched l n) i15))) := by rw [hA.cell, pad_at _ _ _ (by omega)]
          have c2 : wr.cell? ⟨w.heap.size + 1, i2, none⟩ = some (.int .u32 (wI (gt (sched l n) i2))) := by rw [hA.cell, pad_at _ _ _ (by omega)]
          have c16 : wr.cell? ⟨w.heap.size + 1, i16, none⟩ = some (.int .u32 (wI (gt (sched l n) i16))) := by rw [hA.cell, pad_at _ _ _ (by omega)]
          have c7 : wr.cell? ⟨w.heap.size + 1, i7, none⟩ = some (.int .u32 (wI (gt (sched l n) i7))) := by rw [hA.cell, pad_at _ _ _ (by omega)]
          have cm : wr.cell? ⟨w.heap.size + 1, m, none⟩ = some (.int .u32 (wI 0)) := by rw [hA.cell, pad_end _ _ _ (by omega)]
          have fm := hA.frozen m
          have e15 : IntKind.i64.wrap ((m : Int) - 15) = (i15 : Int) := by rw [wrapi _ (by omega) (by omega)]; omega
          have e2 : IntKind.i64.wrap ((m : Int) - 2) = (i2 : Int) := by rw [wrapi _ (by omega) (by omega)]; omega
          have e16 : IntKind.i64.wrap ((m : Int) - 16) = (i16 : Int) := by rw [wrapi _ (by omega) (by omega)]; omega
          have e7 : IntKind.i64.wrap ((m : Int) - 7) = (i7 : Int) := by rw [wrapi _ (by omega) (by omega)]; omega
          have b15 : (0 : Int) ≤ (i15 : Int) ∧ (i15 : Int) < 64 := by omega
          have b2 : (0 : Int) ≤ (i2 : Int) ∧ (i2 : Int) < 64 := by omega
          have b16 : (0 : Int) ≤ (i16 : Int) ∧ (i16 : Int) < 64 := by omega
          have b7 : (0 : Int) ≤ (i7 : Int) ∧ (i7 : Int) < 64 := by omega
          have bm : (0 : Int) ≤ (m : Int) ∧ (m : Int) < 64 := by omega
          obtain ⟨b15a, b15b⟩ := b15
          obtain ⟨b2a, b2b⟩ := b2
          obtain ⟨b16a, b16b⟩ := b16
          obtain ⟨b7a, b7b⟩ := b7
          obtain ⟨bma, bmb⟩ := bm
          have HV : Hid (ext (sched l n) (16 + n) = gt (sched l n) i16 + ss0 (gt (sched l n) i15) + gt (sched l n) i7 + ss1 (gt (sched l n) i2)) := by
            show _ = _; unfold ext; rw [h16, h15, h7, h2, em]
          have HA := hide hA
          have HZ := hide hZ
          have HB := hide hb
          have HS := hide hsl
          generalize gt (sched l n) i15 = x15 at *
          generalize gt (sched l n) i2 = x2 at *
          generalize gt (sched l n) i16 = x16 at *
          generalize gt (sched l n) i7 = x7 at *
          have HW := hide hz
          clear hA hZ hb hsl h15 h2 h16 h7 em hz
          go_wp2_with fail
          go_region_held3 (fun w' => w'.cell? ⟨w.heap.size + 1, i15, none⟩ = some (.int .u32 (wI x15))) (go_keep) (first | (go_at_call 126; refine (turnG x15 _ (by decide) (by decide) _).mono ?_; rintro e w1 ⟨rfl, hw⟩; subst w1))
          go_wp2_with fail
          go_region_held3 (fun w' => w'.cell? ⟨w.heap.size + 1, i2, none⟩ = some (.int .u32 (wI x2))) (go_keep) (first | (go_at_call 126; refine (turnG x2 _ (by decide) (by decide) _).mono ?_; rintro e w1 ⟨rfl, hw⟩; subst w1))
          go_wp2_with fail
          go_region
          all_goals
            go_wp2_with fail
            rw [ext_raw x16 x15 x7 x2, ← unhide HV]
            go_roundw
            case rel => exact ⟨n + 1, m + 1, by omega, by show m + 1 = 16 + (n + 1); have := unhide HM; omega, by go_num, by rw [show 48 - (n + 1) = z from by have := unhide HW; omega]; exact (pad_set (sched l n) z m (by have := unhide HS; have := unhide HM; omega) _) ▸ ((unhide HA).set m _), (unhide HZ).other (by omega) m _, ((((unhide HB).setCell (p := ⟨w.heap.size + 1, m, none⟩) (by simp) _).drew).drew).drew⟩
            case measure => simp [intOf]; omega
        · have en : n = 48 := by omega
          rw [en, show 48 - 48 = 0 from rfl, List.replicate_zero, List.append_nil] at hA
          have bm : ¬ (m : Int) < 64 := by omega
          have hsz : (Tryz.prog.info? 145).map (·.size) = some (U32 (sched l 48)).toArray.size := by
            rw [List.size_toArray, U32_len, sched_len]; kernel_rfl
          have hsl : (U32 (sched l 48)).length = (U32 (List.replicate 64 0)).length := by rw [U32_len, sched_len, U32_len]; rfl
          have ht : wr.there w.heap.size 0 (U32 (sched l 48)).toArray.size := by rw [show (U32 (sched l 48)).toArray.size = (U32 (List.replicate 64 0)).length from by rw [List.size_toArray, hsl]]; exact hZ.there
          have HA := hide hA
          have HZ := hide hZ
          have HB := hide hb
          have HT := hide ht
          have HZS := hide hsz
          clear en em hA hZ hb ht hsz hsl
          go_wp2_with (first | (refine wpList_load_row rfl 145 _ rfl (w.heap.size + 1) rfl 145 _ (0, 0) _ (unhide HA) Tryz.underlying145 rfl (unhide HZS) ?_) | (refine wpList_store_mid rfl 145 _ _ rfl w.heap.size 0 _ rfl rfl (unhide HT) (unhide HZS) (all_oneCell_toArray (U32_one _)) ?_))
          refine bodyPost_ret (v := .agg (U32 (sched l 48)).toArray) (results_cell1 Tryz.results119 rfl (run_loadVar_mid _ w.heap.size 0 145 (U32 (sched l 48)) _ (World.rangeAt_setCells_same _ _ _ _ (by simpa using unhide HT)) Tryz.underlying145 rfl (by simpa using unhide HZS))) rfl ⟨rfl, below_setCells (Nat.le_refl _) _ _ _ (unhide HB)⟩
theorem spreadS (a : Option Addr) (cap : Nat) (l : List UInt8) (hl : l.length = 64) (w : World) (hr : Row8 w a l) (S : List (BitVec 32)) (hS : S = sched l 48) :
    Calls Tryz.prog 119 #[.slice a 64 cap] w fun r w' => r = .returned (.agg (U32 S).toArray) ∧ Below w.heap.size w w' := by
  rw [hS]; exact spread32 a cap l hl w hr
end Go.Proofs.YtmmnoepcklfonaaGreatDoor

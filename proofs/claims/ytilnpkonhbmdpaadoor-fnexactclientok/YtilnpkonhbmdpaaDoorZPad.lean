/- A message is padded: what padMessage answers. -/
import Derived.Test.YtilnpkonhbmdpaaDoorZWords
import Derived.Test.YtilnpkonhbmdpaaDoorZByteS
import Derived.Laws.CopyOwn
namespace Go.Proofs.YtilnpkonhbmdpaaDoor
open Go.ChangeShapes Go.WideShapes Go.ChangeAt Go.RowKit

def padN (n : Nat) : Nat := (n + 72) / 64 * 64
def lb (v j : Nat) : UInt8 := UInt8.ofNat (v / 256 ^ j % 256)
def be8 (v : Nat) : List UInt8 := [lb v 7, lb v 6, lb v 5, lb v 4, lb v 3, lb v 2, lb v 1, lb v 0]
/-- The padded message with the last k bytes of its length laid. -/
def padK (l : List UInt8) (k : Nat) : List UInt8 := l ++ (128 :: (List.replicate (padN l.length - l.length - 1 - k) 0 ++ (be8 (8 * l.length)).drop (8 - k)))
def padL (l : List UInt8) : List UInt8 := padK l 8
theorem padN_bd (n : Nat) : n + 9 ≤ padN n ∧ padN n ≤ n + 72 := by unfold padN; omega
theorem be8_drop (v k : Nat) (h : k < 8) : (be8 v).drop (8 - (k + 1)) = lb v k :: (be8 v).drop (8 - k) := by
  have hc : k = 0 ∨ k = 1 ∨ k = 2 ∨ k = 3 ∨ k = 4 ∨ k = 5 ∨ k = 6 ∨ k = 7 := by omega
  rcases hc with rfl | rfl | rfl | rfl | rfl | rfl | rfl | rfl <;> rfl
theorem padK_len (l : List UInt8) (k : Nat) (h : k ≤ 8) : (padK l k).length = padN l.length := by
  have := padN_bd l.length
  have hd : ((be8 (8 * l.length)).drop (8 - k)).length = k := by rw [List.length_drop]; show 8 - (8 - k) = k; omega
  simp only [padK, List.length_append, List.length_cons, List.length_replicate, hd]
  omega
theorem padK_set (l : List UInt8) (k : Nat) (h : k < 8) : (padK l k).set (padN l.length - 1 - k) (lb (8 * l.length) k) = padK l (k + 1) := by
  have hb := padN_bd l.length
  unfold padK
  rw [be8_drop _ _ h]
  obtain ⟨z, hz⟩ : ∃ z, padN l.length - l.length - 1 - k = z + 1 := ⟨padN l.length - l.length - 1 - k - 1, by omega⟩
  rw [show padN l.length - l.length - 1 - (k + 1) = z from by omega, hz, List.replicate_succ' ]
  rw [List.set_append_right _ _ (by omega)]
  obtain ⟨p, hp⟩ : ∃ p, padN l.length - 1 - k - l.length = p + 1 := ⟨z, by omega⟩
  rw [hp, List.set_cons_succ, List.append_assoc, List.set_append_right _ _ (by simp; omega)]
  have e : p - (List.replicate z (0 : UInt8)).length = 0 := by simp; omega
  rw [e]; rfl
theorem lb_val (n k : Nat) : (n : Int) * 8 / 2 ^ (8 * k) % 256 = ((lb (8 * n) k).toNat : Int) := by
  have e : (2 : Int) ^ (8 * k) = ((256 ^ k : Nat) : Int) := by rw [Int.pow_mul]; simp
  rw [e, show (n : Int) * 8 = ((8 * n : Nat) : Int) from by omega]
  unfold lb
  rw [UInt8.toNat_ofNat', ← Int.natCast_ediv]
  omega
theorem B8_set (l : List UInt8) (k : Nat) (c : UInt8) : (B8 l).set k (.int .u8 (c.toNat : Int)) = B8 (l.set k c) := by simp [B8, List.map_set]

theorem Tryd.sizeb : (Tryd.prog.info? 5).map (·.size) = some 1 := by kernel_rfl
theorem own_arr {w : World} {base : Nat} {e : TypeId} {g n : Nat} {xs : List Value} (h : w.ownsRow base e 1 (.slice (some ⟨g, 0, none⟩) n n) n xs) : ArrAt w g e xs := by
  rcases h.2 with ⟨h', _⟩ | ⟨g', cap', cur, h', _, hg, _, _, hcs, ht⟩
  · simp at h'
  · simp only [Value.slice.injEq, Option.some.injEq, Addr.mk.injEq, and_true, true_and] at h'
    obtain ⟨rfl, rfl⟩ := h'
    rw [List.take_of_length_le (by rw [Array.length_toList, hcs]; exact Nat.le_refl _)] at ht
    unfold ArrAt; rw [hg, ← ht]
theorem B8_rep (n : Nat) : B8 (List.replicate n 0) = List.replicate n (.int .u8 0) := by simp [B8]
theorem pad_stage1 {w w1 : World} {N : Nat} (hown : w1.ownsRow w.heap.size 5 1 (.slice (some ⟨w.heap.size, 0, none⟩) N N) N (madeCells (Value.int .u8 0).cells (N * 1)).toList) (hg : w.grownBy w1 none) :
    Hid (ArrAt w1 w.heap.size 5 (B8 (List.replicate N 0))) ∧ Hid (Below w.heap.size w w1) := by
  have h := own_arr hown
  have e : (madeCells (Value.int .u8 0).cells (N * 1)).toList = B8 (List.replicate N 0) := by
    show (madeCells #[Value.int .u8 0] (N * 1)).toList = _
    rw [toList_madeCells_one, B8_rep, Nat.mul_one]
  rw [e] at h
  exact ⟨h, (Below.refl w.heap.size w).grown hg (Nat.le_refl _) (fun k hk => by cases hk)⟩
theorem row8_src {w : World} {a : Option Addr} {l : List UInt8} (h : Row8 w a l) (hp : 0 < l.length) : ∃ ad, a = some ad ∧ ∀ j v, (B8 l)[j]? = some v → w.cell? (ad.add j) = some v := by
  obtain ⟨b, off, rfl, _, hc⟩ := h.at hp
  refine ⟨_, rfl, fun j v hv => ?_⟩
  have hj : j < l.length := by have := (List.getElem?_eq_some_iff.1 hv).1; rwa [B8_len] at this
  rw [Addr.add_mid, hc j hj, ← hv]
  simp [B8, List.getElem?_eq_getElem hj]
theorem pad_stage2 {w w2 : World} {l : List UInt8} (hb : l.length + 9 ≤ padN l.length) (hh : w2.heap[w.heap.size]? = some (.cells (splice (B8 (List.replicate (padN l.length) 0)) 0 (B8 l)).toArray 5 (0, 0))) :
    Hid (ArrAt w2 w.heap.size 5 (B8 (l ++ List.replicate (padN l.length - l.length) 0))) ∧ w2.cell? ⟨w.heap.size, l.length, none⟩ = some (.int .u8 0) ∧ w2.frozen? ⟨w.heap.size, l.length, none⟩ = false := by
  have e : splice (B8 (List.replicate (padN l.length) 0)) 0 (B8 l) = B8 (l ++ List.replicate (padN l.length - l.length) 0) := by
    unfold splice
    rw [B8_app, B8_rep, B8_rep, B8_len]; simp
  rw [e] at hh
  have hA : ArrAt w2 w.heap.size 5 (B8 (l ++ List.replicate (padN l.length - l.length) 0)) := hh
  refine ⟨hA, ?_, hA.frozen _⟩
  rw [hA.cell, B8_app, List.getElem?_append_right (by rw [B8_len]; omega), B8_len, Nat.sub_self, B8_rep, List.getElem?_replicate, if_pos (by omega)]

theorem pad_stage3 {w w2 : World} {l : List UInt8} (hb : l.length + 9 ≤ padN l.length) (hA : ArrAt w2 w.heap.size 5 (B8 (l ++ List.replicate (padN l.length - l.length) 0))) :
    ArrAt (w2.setCell ⟨w.heap.size, l.length, none⟩ (.int .u8 128)) w.heap.size 5 (B8 (padK l 0)) := by
  have h := hA.set l.length (.int .u8 128)
  have e : (B8 (l ++ List.replicate (padN l.length - l.length) 0)).set l.length (.int .u8 128) = B8 (padK l 0) := by
    rw [show (Value.int .u8 128) = .int .u8 (((128 : UInt8).toNat : Nat) : Int) from rfl, B8_set, List.set_append_right _ _ (Nat.le_refl _), Nat.sub_self]
    obtain ⟨z, hz⟩ : ∃ z, padN l.length - l.length = z + 1 := ⟨padN l.length - l.length - 1, by omega⟩
    unfold padK
    rw [hz, List.replicate_succ, List.set_cons_zero, show z + 1 - 1 - 0 = z from by omega, show (be8 (8 * l.length)).drop (8 - 0) = [] from rfl, List.append_nil]
  rw [e] at h
  exact h

set_option maxHeartbeats 400000 in
set_option maxRecDepth 100000 in
theorem pad26 (a : Option Addr) (cap : Nat) (l : List UInt8) (hl : l.length ≤ 1048576) (w : World) (hr : Row8 w a l) :
    Calls Tryd.prog 77 #[.slice a l.length cap] w fun e w' => e = .returned (.slice (some ⟨w.heap.size, 0, none⟩) (padN l.length) (padN l.length)) ∧
      ArrAt w' w.heap.size 5 (B8 (padL l)) ∧ Below w.heap.size w w' := by
  obtain ⟨i0, hi, hz0, hz1, hz2⟩ := info_parts Tryd.ib5
  have HR := hide hr
  have hb := padN_bd l.length
  have HN : Hid (((l.length : Int) + 1 + 8 + 64 - 1) / 64 * 64 = (padN l.length : Int)) := by show _ = _; unfold padN; omega
  clear hr
  go_enter Tryd.func77, Tryd.ntmps77
  go_wp2_with (first | (at_make; refine wpList_make_full _ rfl _ _ 71 rfl w.heap.size 5 i0 (.int .u8 0) 1 Tryd.underlying71 hi hz0 hz1 .i64 .i64 _ _ (padN l.length) rfl rfl (unhide HN) (unhide HN) (by rw [hz2]; omega) (by unfold maxLen; omega) (Nat.le_refl _) ?_; intro w1 hown hgrow; obtain ⟨HA, HB⟩ := pad_stage1 hown hgrow; clear hown hgrow) | (refine wpList_copy_splice rfl _ _ 71 71 rfl 5 Tryd.underlying71 Tryd.sizeb _ _ _ _ _ _ rfl rfl w.heap.size 0 (B8 (List.replicate (padN l.length) 0)) 5 (unhide HA) (B8 l) (by rw [B8_len]; exact (Nat.min_eq_left (by omega)).symm) (fun hp => ⟨rfl, row8_src ((unhide HR).below (unhide HB)) (by rw [B8_len] at hp; exact hp)⟩) (by rw [B8_len, B8_len, List.length_replicate]; omega) (B8_one _) w.heap.size w (unhide HB) (Nat.le_refl _) ?_; intro w2 hh2 hb2; obtain ⟨HA2, c2, f2⟩ := pad_stage2 hb.1 (unhide hh2); have HB2 := hide hb2; clear hh2 hb2))
  have HA3 : Hid (ArrAt (w2.setCell ⟨w.heap.size, l.length, none⟩ (.int .u8 128)) w.heap.size 5 (B8 (padK l 0))) := pad_stage3 hb.1 (unhide HA2)
  have HB3 : Hid (Below w.heap.size w (w2.setCell ⟨w.heap.size, l.length, none⟩ (.int .u8 128))) := (unhide HB2).setCell (p := ⟨w.heap.size, l.length, none⟩) (Nat.le_refl _) _
  go_loopw [28] (fun i wr => ∃ k : Nat, k ≤ 8 ∧ i = .int .i64 k ∧ Hid (ArrAt wr w.heap.size 5 (B8 (padK l k))) ∧ Hid (Below w.heap.size w wr)) (fun i _ => 8 - (intOf i).toNat)
  case atStart => exact ⟨0, by omega, rfl, HA3, HB3⟩
  case round =>
    clear HA HB HA2 HB2 HA3 HB3 c2 f2 HR
    obtain ⟨k, hk, rfl, HA, HB⟩ := hrel
    by_cases hlt : k < 8
    · obtain ⟨q, hq⟩ : ∃ q, q = padN l.length - 1 - k := ⟨_, rfl⟩
      have hqi : (padN l.length : Int) - 1 - (k : Int) = (q : Int) := by omega
      have hql : q < (padK l k).length := by rw [padK_len l k hk]; omega
      have q1 : (q : Int) < (padN l.length : Int) := by omega
      have q0 : (0 : Int) ≤ (q : Int) := by omega
      have c1 : wr.cell? ⟨w.heap.size, q, none⟩ = some (.int .u8 ((padK l k)[q].toNat : Int)) := by rw [(unhide HA).cell]; simp [B8, List.getElem?_eq_getElem hql]
      have f1 := (unhide HA).frozen q
      have HST : Hid ((B8 (padK l k)).set q (.int .u8 ((lb (8 * l.length) k).toNat : Int)) = B8 (padK l (k + 1))) := by show _ = _; rw [hq, B8_set, padK_set l k hlt]
      generalize ((padK l k)[q].toNat : Int) = old at *
      clear hql hq
      have HQ := hide hb
      go_wp2_with fail
      rw [lb_val l.length k]
      go_roundw
      case rel => exact ⟨k + 1, by omega, by go_num, (unhide HST) ▸ (unhide HA).set q _, (unhide HB).setCell (p := ⟨w.heap.size, q, none⟩) (Nat.le_refl _) _⟩
      case measure => simp [intOf]; omega
    · have ek : k = 8 := by omega
      rw [ek] at HA
      clear ek
      go_wp2_with fail
      go_ret
      exact ⟨rfl, HA, HB⟩
end Go.Proofs.YtilnpkonhbmdpaaDoor

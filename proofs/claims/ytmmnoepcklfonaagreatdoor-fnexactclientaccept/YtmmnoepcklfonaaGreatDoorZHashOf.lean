/- SHA-256: what hashOf answers. -/
import Derived.Test.YtmmnoepcklfonaaGreatDoorZG5
namespace Go.Proofs.YtmmnoepcklfonaaGreatDoor
open Go.ChangeShapes Go.WideShapes Go.ChangeAt Go.RowKit

def iv (n : Nat) : BitVec 32 := BitVec.ofNat 32 n
def startR : R8 := ⟨iv 1779033703, iv 3144134277, iv 1013904242, iv 2773480762, iv 1359893119, iv 2600822924, iv 528734635, iv 1541459225⟩
def blockAt (m : List UInt8) (k : Nat) : List UInt8 := (m.drop (64 * k)).take 64
def hashTo (m : List UInt8) : Nat → R8
  | 0 => startR
  | k + 1 => mixR (hashTo m k) (blockAt m k)
def nB (n : Nat) : Nat := (n + 72) / 64
def shaR (l : List UInt8) : R8 := hashTo (padL l) (nB l.length)
theorem padL_len (l : List UInt8) : (padL l).length = 64 * nB l.length := by
  rw [padL, padK_len l 8 (Nat.le_refl _)]; unfold padN nB; omega
theorem block_len (m : List UInt8) (k n : Nat) (h : k < n) (hm : m.length = 64 * n) : (blockAt m k).length = 64 := by
  unfold blockAt; rw [List.length_take, List.length_drop]; omega
theorem start_arr : (#[Value.int IntKind.u32 1779033703, Value.int IntKind.u32 3144134277, Value.int IntKind.u32 1013904242, Value.int IntKind.u32 2773480762, Value.int IntKind.u32 1359893119, Value.int IntKind.u32 2600822924, Value.int IntKind.u32 528734635, Value.int IntKind.u32 1541459225] : Array Value) = (U32 startR.l).toArray := by kernel_rfl
theorem block_row {w : World} {g : Nat} {t : TypeId} {m : List UInt8} (h : ArrAt w g t (B8 m)) (k n : Nat) (hk : k < n) (hm : m.length = 64 * n) (at_ : Nat) (ha : at_ = 64 * k) : Row8 w (some ⟨g, at_, none⟩) (blockAt m k) := by
  refine .inr ⟨g, at_, rfl, h.lt, fun i hi => ?_⟩
  have hl := block_len m k n hk hm
  rw [h.cell]
  have hlt : at_ + i < m.length := by omega
  have e : (blockAt m k)[i]? = some m[at_ + i] := by
    unfold blockAt; rw [List.getElem?_take, if_pos (by omega), List.getElem?_drop, ← ha, List.getElem?_eq_getElem hlt]
  rw [List.getElem?_eq_getElem hi] at e
  rw [Option.some.inj e]; simp [B8, List.getElem?_eq_getElem hlt]

set_option maxHeartbeats 400000 in
set_option maxRecDepth 100000 in
theorem hash20 (a : Option Addr) (cap : Nat) (l : List UInt8) (hl : l.length ≤ 1048576) (w : World) (hr : Row8 w a l) (hk : KIn w) :
    Calls Tryz.prog 104 #[.slice a l.length cap] w fun e w' => e = .returned (.string (hashB (shaR l))) ∧ Below w.heap.size w w' := by
  have HR := hide hr
  have HK := hide hk
  have HL := hide hl
  have H0 := hide hk.pos
  have hb := padN_bd l.length
  have HP := hide (padL_len l)
  clear hr hk
  go_enter Tryz.func104, Tryz.ntmps104
  go_wp2_with fail
  refine (pad26 a cap l (unhide HL) _ ((unhide HR).below ((Below.refl _ _).alloc (Nat.le_refl _) _))).mono ?_
  rintro z1 w1 ⟨rfl, hA1, hb1⟩
  have HQ : Hid (ArrAt w1 w.heap.size 135 (U32 startR.l)) := by rw [start_arr] at hb1; exact (arr_new w (U32 startR.l) 135).below hb1 (by simp)
  have HA : Hid (ArrAt w1 (w.heap.size + 1) 5 (B8 (padL l))) := by rw [show (w.alloc _).heap.size = w.heap.size + 1 from by simp] at hA1; exact hA1
  have HB : Hid (Below w.heap.size w w1) := ((Below.refl _ _).alloc (Nat.le_refl _) _).trans (hb1.mono (by simp))
  clear hA1 hb1
  obtain ⟨m, hm⟩ : ∃ m, m = padL l := ⟨_, rfl⟩
  obtain ⟨n, hn⟩ : ∃ n, n = nB l.length := ⟨_, rfl⟩
  have hN : padN l.length = 64 * n := by rw [hn]; unfold padN nB; omega
  have hml : m.length = 64 * n := by rw [hm, hn]; exact unhide HP
  have HSH : Hid (shaR l = hashTo m n) := by rw [hm, hn]; rfl
  rw [← hm] at HA
  have HML := hide hml
  have hn2 : n ≤ 16386 := by omega
  obtain ⟨N, hNN⟩ : ∃ N, N = padN l.length := ⟨_, rfl⟩
  rw [← hNN] at hN
  have HN := hide hN
  have HNN := hide hNN
  clear hm hn hN hml hb HP hNN
  go_wp2_with fail
  rw [← unhide HNN]
  go_loopw [5] (fun i wr => ∃ k at_ : Nat, k ≤ n ∧ Hid (at_ = 64 * k) ∧ i = .int .i64 at_ ∧ Hid (ArrAt wr w.heap.size 135 (U32 (hashTo m k).l)) ∧ Hid (ArrAt wr (w.heap.size + 1) 5 (B8 m)) ∧ Hid (Below w.heap.size w wr)) (fun i _ => N - (intOf i).toNat)
  case atStart => exact ⟨0, 0, by omega, rfl, rfl, HQ, HA, HB⟩
  case round =>
    clear HQ HA HB HNN
    obtain ⟨k, at_, hk, HAT, rfl, HQ0, HA, HB⟩ := hrel
    have ea := unhide HAT
    have eN := unhide HN
    by_cases hlt : k < n
    · obtain ⟨q, hq⟩ : ∃ q, q = hashTo m k := ⟨_, rfl⟩
      have HQ : Hid (ArrAt wr w.heap.size 135 (U32 q.l)) := by rw [hq]; exact HQ0
      have HNX0 : Hid (hashTo m (k + 1) = mixR q (blockAt m k)) := by rw [hq]; rfl
      have a1 : (at_ : Int) < (N : Int) := by omega
      have a2 : (at_ : Int) + 64 ≤ (N : Int) := by omega
      have a3 : ¬ N = at_ := by omega
      have a9 : (at_ : Int) ≤ 1048704 := by omega
      obtain ⟨b_, hbb⟩ : ∃ b_, b_ = at_ + 64 := ⟨_, rfl⟩
      have a4 : IntKind.i64.wrap ((at_ : Int) + 64) = (b_ : Int) := by rw [wrapi _ (by omega) (by omega)]; omega
      have a5 : (0 : Int) ≤ (b_ : Int) := by omega
      have a6 : (b_ : Int) ≤ (N : Int) := by omega
      have a7 : at_ ≤ b_ := by omega
      have a8 : b_ - at_ = 64 := by omega
      obtain ⟨s, hs⟩ : ∃ s, s = mixR q (blockAt m k) := ⟨_, rfl⟩
      have HSS := hide hs
      have HBR : Hid (Row8 wr (some ⟨w.heap.size + 1, at_, none⟩) (blockAt m k)) := block_row (unhide HA) k n hlt (unhide HML) at_ ea
      have HBL := hide (block_len m k n hlt (unhide HML))
      have HNX : Hid (hashTo m (k + 1) = s) := by rw [hs]; exact HNX0
      clear HQ0 hq ea eN HNX0 hs hbb a2
      have c0 : wr.cell? ⟨w.heap.size, 0, none⟩ = some (.int .u32 (wI q.a)) := by rw [(unhide HQ).cell]; rfl
      have c1 : wr.cell? ⟨w.heap.size, 1, none⟩ = some (.int .u32 (wI q.b)) := by rw [(unhide HQ).cell]; rfl
      have c2 : wr.cell? ⟨w.heap.size, 2, none⟩ = some (.int .u32 (wI q.c)) := by rw [(unhide HQ).cell]; rfl
      have c3 : wr.cell? ⟨w.heap.size, 3, none⟩ = some (.int .u32 (wI q.d)) := by rw [(unhide HQ).cell]; rfl
      have c4 : wr.cell? ⟨w.heap.size, 4, none⟩ = some (.int .u32 (wI q.e)) := by rw [(unhide HQ).cell]; rfl
      have c5 : wr.cell? ⟨w.heap.size, 5, none⟩ = some (.int .u32 (wI q.f)) := by rw [(unhide HQ).cell]; rfl
      have c6 : wr.cell? ⟨w.heap.size, 6, none⟩ = some (.int .u32 (wI q.g)) := by rw [(unhide HQ).cell]; rfl
      have c7 : wr.cell? ⟨w.heap.size, 7, none⟩ = some (.int .u32 (wI q.y)) := by rw [(unhide HQ).cell]; rfl
      go_wp2_with fail
      go_region_with (go_at_call 113; refine (mixS q _ _ (blockAt m k) (unhide HBL) _ (unhide HBR).drew ((unhide HK).below (unhide HB).drew (unhide H0)) s (unhide HSS)).mono ?_; rintro z1 w4 ⟨rfl, hb4⟩; have hA4 := (unhide HQ).drew.below hb4 (unhide HQ).drew.lt; have d0 : w4.cell? ⟨w.heap.size, 0, none⟩ = some (.int .u32 (wI q.a)) := (hA4.cell 0).trans rfl; have f0 := hA4.frozen 0; have d1 : w4.cell? ⟨w.heap.size, 1, none⟩ = some (.int .u32 (wI q.b)) := (hA4.cell 1).trans rfl; have f1 := hA4.frozen 1; have d2 : w4.cell? ⟨w.heap.size, 2, none⟩ = some (.int .u32 (wI q.c)) := (hA4.cell 2).trans rfl; have f2 := hA4.frozen 2; have d3 : w4.cell? ⟨w.heap.size, 3, none⟩ = some (.int .u32 (wI q.d)) := (hA4.cell 3).trans rfl; have f3 := hA4.frozen 3; have d4 : w4.cell? ⟨w.heap.size, 4, none⟩ = some (.int .u32 (wI q.e)) := (hA4.cell 4).trans rfl; have f4 := hA4.frozen 4; have d5 : w4.cell? ⟨w.heap.size, 5, none⟩ = some (.int .u32 (wI q.f)) := (hA4.cell 5).trans rfl; have f5 := hA4.frozen 5; have d6 : w4.cell? ⟨w.heap.size, 6, none⟩ = some (.int .u32 (wI q.g)) := (hA4.cell 6).trans rfl; have f6 := hA4.frozen 6; have d7 : w4.cell? ⟨w.heap.size, 7, none⟩ = some (.int .u32 (wI q.y)) := (hA4.cell 7).trans rfl; have f7 := hA4.frozen 7; have HA4 := hide hA4; clear hA4)
      all_goals
        have R1 : Hid (Below w.heap.size w w4) := (unhide HB).drew.trans (hb4.mono (unhide HB).drew.size)
        have R2 : Hid (ArrAt w4 (w.heap.size + 1) 5 (B8 m)) := (unhide HA).drew.below hb4 (unhide HA).drew.lt
        clear hb4 c0 c1 c2 c3 c4 c5 c6 c7 d0 d1 d2 d3 d4 d5 d6 d7 f0 f1 f2 f3 f4 f5 f6 f7 HQ HA HB a4 a8 HBR
        go_wp2_with fail
        go_roundw
        case rel => exact ⟨k + 1, at_ + 64, by omega, by show at_ + 64 = 64 * (k + 1); have := unhide HAT; omega, by go_num, by rw [unhide HNX]; exact set8 (unhide HA4) s, other8 (unhide R2) (by omega) s, below8 (unhide R1) (Nat.le_refl _) s⟩
        case measure => simp [intOf]; omega
    · have ek : k = n := by omega
      obtain ⟨q, hq⟩ : ∃ q, q = hashTo m n := ⟨_, rfl⟩
      have HQ : Hid (ArrAt wr w.heap.size 135 (U32 q.l)) := by rw [hq, ← ek]; exact HQ0
      have HV : Hid (shaR l = q) := by rw [hq]; exact HSH
      have a1 : ¬ (at_ : Int) < (N : Int) := by omega
      clear HQ0 hq ek ea eN
      go_wp2_with (refine wpList_load_row rfl 135 _ rfl w.heap.size rfl 135 (U32 q.l).toArray (0, 0) _ (unhide HQ) Tryz.underlying135 rfl Tryz.size8 ?_)
      refine (words28 q _).mono ?_
      rintro z1 w4 ⟨rfl, hb4⟩
      go_wp2_with fail
      go_ret
      rw [unhide HV]
      exact ⟨rfl, (unhide HB).trans (hb4.mono (unhide HB).size)⟩
end Go.Proofs.YtmmnoepcklfonaaGreatDoor

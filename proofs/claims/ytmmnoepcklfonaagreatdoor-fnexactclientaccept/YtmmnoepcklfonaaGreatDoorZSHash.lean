/- The specification's SHA-256: what l01Hash answers. -/
import Derived.Test.YtmmnoepcklfonaaGreatDoorZSBlock
import Derived.Test.YtmmnoepcklfonaaGreatDoorZAppendAny
namespace Go.Proofs.YtmmnoepcklfonaaGreatDoor
open Go.ChangeShapes Go.WideShapes Go.ChangeAt Go.RowKit

def padZ (l : List UInt8) (z : Nat) : List UInt8 := l ++ (128 :: List.replicate z 0)
def padNeed (n : Nat) : Nat := padN n - n - 9
def padB (l : List UInt8) (b : Nat) : List UInt8 := padZ l (padNeed l.length) ++ (be8 (8 * l.length)).take (8 - b)
theorem padB_zero (l : List UInt8) : padB l 0 = padL l := by
  have h : padN l.length - l.length - 1 - 8 = padNeed l.length := by unfold padNeed; omega
  unfold padB padZ padL padK
  rw [h]
  show l ++ (128 :: List.replicate (padNeed l.length) 0) ++ be8 (8 * l.length) = l ++ (128 :: (List.replicate (padNeed l.length) 0 ++ be8 (8 * l.length)))
  simp
theorem padB_eight (l : List UInt8) : padB l 8 = padZ l (padNeed l.length) := by unfold padB; simp
theorem be8_take (v : Nat) : ∀ b, b < 8 → (be8 v).take (8 - b) = (be8 v).take (8 - (b + 1)) ++ [lb v b] := by
  intro b hb
  have hc : b = 0 ∨ b = 1 ∨ b = 2 ∨ b = 3 ∨ b = 4 ∨ b = 5 ∨ b = 6 ∨ b = 7 := by omega
  rcases hc with rfl | rfl | rfl | rfl | rfl | rfl | rfl | rfl <;> rfl
theorem padB_step (l : List UInt8) (b : Nat) (h : b < 8) : padB l b = padB l (b + 1) ++ [lb (8 * l.length) b] := by
  unfold padB; rw [be8_take _ b h, List.append_assoc]
theorem padZ_step (l : List UInt8) (z : Nat) : padZ l (z + 1) = padZ l z ++ [0] := by
  unfold padZ; rw [List.replicate_succ', List.append_assoc]; rfl
theorem need_more (n z : Nat) (h : z < padNeed n) : (n + 1 + z) % 64 ≠ 56 := by unfold padNeed padN at h; omega
theorem need_done (n z : Nat) (h : z = padNeed n) : (n + 1 + z) % 64 = 56 := by unfold padNeed padN at h; omega

theorem sh_stage1 {w w1 : World} {o : Obj} (hg : ((w.alloc (.cells #[Value.int IntKind.u32 1779033703, Value.int IntKind.u32 3144134277, Value.int IntKind.u32 1013904242, Value.int IntKind.u32 2773480762, Value.int IntKind.u32 1359893119, Value.int IntKind.u32 2600822924, Value.int IntKind.u32 528734635, Value.int IntKind.u32 1541459225] 125)).alloc o).grownBy w1 (some (w.heap.size + 1))) : Hid (ArrAt w1 w.heap.size 125 (U32 startR.l)) ∧ Hid (Below w.heap.size w w1) := by
  rw [start_arr] at hg
  refine ⟨?_, ?_⟩
  · have h := (arr_new w (U32 startR.l) 125).alloc o
    exact (hg.block w.heap.size (by simp; omega) (by simp)).trans h
  · exact (((Below.refl _ _).alloc (Nat.le_refl _) _).alloc (by simp) _).grown hg (by simp; omega) (fun k hk => by injection hk with hk; omega)
theorem own_keep {w1 w2 : World} {o : Obj} {v : Value} {n base gh : Nat} {xs X : List Value} {e t : TypeId} (hown : w1.ownsRow base e 1 v n xs) (hg : (w1.alloc o).grownBy w2 v.ownBlock) (hA : ArrAt w1 gh t X) (hlt : gh < base) : ArrAt w2 gh t X := by
  have h := hA.alloc o
  refine (hg.block gh h.lt ?_).trans h
  intro he
  have := (hown.lt gh he.symm).1
  omega
theorem lit_own2 (w : World) (o : Obj) (e : TypeId) : ((w.alloc o).alloc (.cells #[] e)).ownsRow (w.heap.size + 1) e 1 (.slice (some ⟨w.heap.size + 1, 0, none⟩) 0 0) 0 [] := by
  have h := lit_own (w.alloc o) (w.heap.size + 1) e (by simp)
  rwa [show (w.alloc o).heap.size = w.heap.size + 1 from by simp] at h
theorem lb_val2 (n k : Nat) : 8 * (n : Int) / 2 ^ (8 * k) % 256 = ((lb (8 * n) k).toNat : Int) := by
  rw [Int.mul_comm]; exact lb_val n k
theorem block_row2 {w : World} {base g c N : Nat} {e : TypeId} {m : List UInt8} (h : w.ownsRow base e 1 (.slice (some ⟨g, 0, none⟩) N c) N (B8 m)) (k n : Nat) (hk : k < n) (hm : m.length = 64 * n) (at_ : Nat) (ha : at_ = 64 * k) : Row8 w (some ⟨g, at_, none⟩) (blockAt m k) := by
  have hN := h.1
  rw [B8_len] at hN
  refine .inr ⟨g, at_, rfl, (h.lt g rfl).2, fun i hi => ?_⟩
  have hl := block_len m k n hk hm
  have hlt : at_ + i < m.length := by omega
  rw [h.cellAt (at_ + i) (by omega)]
  have e : (blockAt m k)[i]? = some m[at_ + i] := by
    unfold blockAt; rw [List.getElem?_take, if_pos (by omega), List.getElem?_drop, ← ha, List.getElem?_eq_getElem hlt]
  rw [List.getElem?_eq_getElem hi] at e
  rw [Option.some.inj e]; simp [B8, List.getElem?_eq_getElem hlt]
def sliceLen : Value → Nat
  | .slice _ n _ => n
  | _ => 0

set_option maxHeartbeats 4000000 in
set_option maxRecDepth 100000 in
theorem shash23 (a : Option Addr) (cap : Nat) (l : List UInt8) (hl : l.length ≤ 1048576) (w : World) (hr : Row8 w a l) :
    Calls Tryz.prog 93 #[.slice a l.length cap] w fun e w' => e = .returned (.string (hashB (shaR l))) ∧ Below w.heap.size w w' := by
  obtain ⟨i0, hi, hz0, hz1, hz2⟩ := info_parts Tryz.ib5
  have HR := hide hr
  have HL := hide hl
  clear hr
  go_enter Tryz.func93, Tryz.ntmps93
  go_wp2_with (first | (at_builtin; refine append_row8 _ rfl (.tmp 11) (.tmp 12) 101 rfl (w.heap.size + 1) 5 i0 Tryz.underlying101 hi hz0 hz1 hz2 (w.heap.size + 1) 0 0 [] rfl (lit_own2 _ _ _) _ _ l rfl ((unhide HR).below (((Below.refl _ _).alloc (Nat.le_refl _) _).alloc (by simp) _)) (by omega) (by simp) ?_; intro g1 c1 w1 hown1 hgrow1; obtain ⟨HA1, HB1⟩ := sh_stage1 hgrow1; simp only [Nat.zero_add, List.nil_append] at hown1 ⊢; have hz := (unhide HB1).size; have hzl := (unhide HA1).lt; clear hgrow1) | (at_builtin; refine wpList_append_lies _ rfl (.tmp 13) (.tmp 14) 101 rfl (w.heap.size + 1) 5 i0 (.int .u8 0) 1 1 Tryz.underlying101 hi hz0 hz1 hz2 rfl (by decide) _ _ _ rfl (hown1.alloc _) ⟨w1.heap.size, 0, none⟩ 1 1 (B8 [128]) rfl rfl (by exact news_new w1 (B8 [128]) 5) (B8_one _) (by decide) (by unfold maxLen; omega) (by omega) (by simp; omega) _ rfl ?_; intro g2 c2 w2 hown2 hgrow2 hat2 hlt2; have HA2 := hide (own_keep hown1 hgrow2 (unhide HA1) (Nat.lt_succ_self _)); have HB2 := hide (below_app (unhide HB1) (by omega) hown1 (Nat.le_succ _) hgrow2); have HO2 := hide (own_app (l := l) (m := [128]) hown2 rfl); clear hown2 hgrow2 hat2 hlt2 hown1 HA1 HB1))
  go_loopw [4] (fun v wr => ∃ z g c N : Nat, z ≤ padNeed l.length ∧ Hid (N = l.length + 1 + z) ∧ v = .slice (some ⟨g, 0, none⟩) N c ∧ Hid (wr.ownsRow (w.heap.size + 1) 5 1 (.slice (some ⟨g, 0, none⟩) N c) N (B8 (padZ l z))) ∧ Hid (ArrAt wr w.heap.size 125 (U32 startR.l)) ∧ Hid (Below w.heap.size w wr)) (fun v _ => l.length + 1 + padNeed l.length - sliceLen v)
  case atStart => exact ⟨0, g2, c2, l.length + 1, by omega, rfl, rfl, by have := unhide HO2; rwa [List.length_append] at this, HA2, HB2⟩
  case round =>
    clear HA2 HB2 HO2 hz hzl
    obtain ⟨z, g, c, N, hzN, HN, rfl, HO, HA, HB⟩ := hrel
    have eN := unhide HN
    have hbd := padN_bd l.length
    have hnd : padNeed l.length ≤ 63 := by unfold padNeed; omega
    have hzz := (unhide HB).size
    have hzl := (unhide HA).lt
    have N1 : N ≤ 1048700 := by omega
    by_cases hlt : z < padNeed l.length
    · have ht : ((N : Int).tmod 64 != 56) = true := by rw [Int.tmod_eq_emod_of_nonneg (by omega), bne_iff_ne]; have := need_more l.length z hlt; omega
      have ht2 : ((N : Int) % 64 != 56) = true := by rw [bne_iff_ne]; have := need_more l.length z hlt; omega
      have hown := unhide HO
      clear eN HO
      go_wp2_with (at_builtin; refine wpList_append_lies _ rfl (.tmp 20) (.tmp 21) 101 rfl (w.heap.size + 1) 5 i0 (.int .u8 0) 1 1 Tryz.underlying101 hi hz0 hz1 hz2 rfl (by decide) _ _ _ rfl (hown.alloc _) ⟨wr.heap.size, 0, none⟩ 1 1 (B8 [0]) rfl rfl (by exact news_new wr (B8 [0]) 5) (B8_one _) (by decide) (by unfold maxLen; omega) (by omega) (by simp; omega) _ rfl ?_; intro g2 c2 w2 hown2 hgrow2 hat2 hlt2; have HA2 := hide (own_keep hown hgrow2 (unhide HA) (Nat.lt_succ_self _)); have HB2 := hide (below_app (unhide HB) (by omega) hown (Nat.le_succ _) hgrow2); have HO2 : Hid (w2.ownsRow (w.heap.size + 1) 5 1 (.slice (some ⟨g2, 0, none⟩) (N + 1) c2) (N + 1) (B8 (padZ l (z + 1)))) := (by rw [padZ_step, B8_app]; exact hown2); clear hown2 hgrow2 hat2 hlt2 hown HA HB ht ht2)
      go_roundw
      case rel => exact ⟨z + 1, g2, c2, N + 1, by omega, by show N + 1 = l.length + 1 + (z + 1); have := unhide HN; omega, rfl, HO2, HA2, HB2⟩
      case measure => simp [sliceLen]; have := unhide HN; omega
    · have ez : z = padNeed l.length := by omega
      have ht : ((N : Int).tmod 64 != 56) = false := by rw [Int.tmod_eq_emod_of_nonneg (by omega), bne_eq_false_iff_eq]; have := need_done l.length z ez; omega
      have ht2 : ((N : Int) % 64 != 56) = false := by rw [bne_eq_false_iff_eq]; have := need_done l.length z ez; omega
      have HO3 : Hid (wr.ownsRow (w.heap.size + 1) 5 1 (.slice (some ⟨g, 0, none⟩) N c) N (B8 (padB l 8))) := by rw [padB_eight, ← ez]; exact HO
      clear ez eN HO
      go_wp2_with fail
      go_loopw [4, 5] (fun v i wr => ∃ b g c N : Nat, b ≤ 8 ∧ i = .int .i64 ((b : Int) - 1) ∧ N ≤ 1048800 + (8 - b) ∧ v = .slice (some ⟨g, 0, none⟩) N c ∧ Hid (wr.ownsRow (w.heap.size + 1) 5 1 (.slice (some ⟨g, 0, none⟩) N c) N (B8 (padB l b))) ∧ Hid (ArrAt wr w.heap.size 125 (U32 startR.l)) ∧ Hid (Below w.heap.size w wr)) (fun _ i _ => (intOf i + 1).toNat)
      case atStart => exact ⟨8, g, c, N, by omega, rfl, by omega, rfl, HO3, HA, HB⟩
      case round =>
        clear HA HB HO3 hzz hzl hbd hnd
        obtain ⟨b, g, c, N, hb8, rfl, hN8, rfl, HO, HA, HB⟩ := hrel
        have hzz := (unhide HB).size
        have hzl := (unhide HA).lt
        by_cases hb0 : b = 0
        · subst hb0
          rw [padB_zero] at HO
          have hNl := (unhide HO).1
          rw [B8_len, padL_len] at hNl
          obtain ⟨n, hn⟩ : ∃ n, n = nB l.length := ⟨_, rfl⟩
          rw [← hn] at hNl
          obtain ⟨m, hm⟩ : ∃ m, m = padL l := ⟨_, rfl⟩
          rw [← hm] at HO
          have HSH : Hid (shaR l = hashTo m n) := by rw [hm, hn]; rfl
          have HML : Hid (m.length = 64 * n) := by show _ = _; rw [hm, hn, padL_len]
          have HNN : Hid (N = 64 * n) := by show _ = _; omega
          have hgl := (unhide HO).lt g rfl
          have hcN : N ≤ c := by
            rcases (unhide HO).2 with ⟨h', _⟩ | ⟨g', c', cur, h', _, _, hnc, _⟩
            · simp at h'
            · simp only [Value.slice.injEq, true_and] at h'; omega
          clear hn hm
          go_wp2_with fail
          refine (consts30 _).mono ?_
          rintro z1 w3 ⟨rfl, hK3, hb3⟩
          have HK : Hid (ArrAt w3 wr.heap.size 125 (U32 kW)) := hK3
          have HO3 : Hid (w3.ownsRow (w.heap.size + 1) 5 1 (.slice (some ⟨g, 0, none⟩) N c) N (B8 m)) := (unhide HO).kept (row := none) ⟨hb3.os, hb3.tape, hb3.output, hb3.size, fun k hk _ => hb3.block k hk⟩ (.inr (by simp [Value.ownBlock]))
          have HA3 : Hid (ArrAt w3 w.heap.size 125 (U32 startR.l)) := (unhide HA).below hb3 hzl
          have HB3 : Hid (Below w.heap.size w w3) := (unhide HB).trans (hb3.mono hzz)
          obtain ⟨gk, hgk⟩ : ∃ gk, gk = wr.heap.size := ⟨_, rfl⟩
          rw [← hgk] at HK
          have hgk1 : w.heap.size < gk := by omega
          have hgk2 := (unhide HK).lt
          have N2 : N ≤ 1048808 := by omega
          have HGK := hide hgk
          clear hK3 hb3 HO HA HB hzz hgl hgk hNl
          go_wp2_with fail
          rw [← unhide HGK]
          go_loopw [7] (fun i wr => ∃ k at_ : Nat, k ≤ n ∧ Hid (at_ = 64 * k) ∧ i = .int .i64 at_ ∧ Hid (ArrAt wr w.heap.size 125 (U32 (hashTo m k).l)) ∧ Hid (wr.ownsRow (w.heap.size + 1) 5 1 (.slice (some ⟨g, 0, none⟩) N c) N (B8 m)) ∧ Hid (ArrAt wr gk 125 (U32 kW)) ∧ Hid (Below w.heap.size w wr)) (fun i _ => N - (intOf i).toNat)
          case atStart => exact ⟨0, 0, by omega, rfl, rfl, HA3, HO3, HK, HB3⟩
          case round =>
            clear HA3 HO3 HK HB3 hgk2 HGK
            obtain ⟨k, at_, hk, HAT, rfl, HQ0, HO, HK, HB⟩ := hrel
            have ea := unhide HAT
            have eN := unhide HNN
            have hgl := (unhide HO).lt g rfl
            by_cases hlt : k < n
            · obtain ⟨q, hq⟩ : ∃ q, q = hashTo m k := ⟨_, rfl⟩
              have HQ : Hid (ArrAt wr w.heap.size 125 (U32 q.l)) := by rw [hq]; exact HQ0
              have HNX : Hid (hashTo m (k + 1) = mixR q (blockAt m k)) := by rw [hq]; rfl
              have a1 : (at_ : Int) < (N : Int) := by omega
              have a3 : ¬ c = at_ := by omega
              have a9 : (at_ : Int) ≤ 1048808 := by omega
              obtain ⟨b_, hbb⟩ : ∃ b_, b_ = at_ + 64 := ⟨_, rfl⟩
              have a4 : (at_ : Int) + 64 = (b_ : Int) := by omega
              have a5 : (0 : Int) ≤ (b_ : Int) := by omega
              have a6 : (b_ : Int) ≤ (c : Int) := by omega
              have a7 : at_ ≤ b_ := by omega
              have a8 : b_ - at_ = 64 := by omega
              have HBR : Hid (Row8 wr (some ⟨g, at_, none⟩) (blockAt m k)) := block_row2 (unhide HO) k n hlt (unhide HML) at_ ea
              have HBL := hide (block_len m k n hlt (unhide HML))
              have HBB := hide hbb
              clear HQ0 hq ea eN hbb
              go_wp2_with fail
              refine (sblock31 q w.heap.size 8 _ _ (blockAt m k) (unhide HBL) gk _ (unhide HQ) (unhide HBR) (unhide HK)).mono ?_
              rintro z1 w4 ⟨rfl, hA4, hg4⟩
              have R1 : Hid (ArrAt w4 w.heap.size 125 (U32 (hashTo m (k + 1)).l)) := by rw [unhide HNX]; exact hA4
              have R2 : Hid (w4.ownsRow (w.heap.size + 1) 5 1 (.slice (some ⟨g, 0, none⟩) N c) N (B8 m)) := (unhide HO).kept hg4 (.inr (by simp [Value.ownBlock]; omega))
              have R3 : Hid (ArrAt w4 gk 125 (U32 kW)) := (hg4.block gk (unhide HK).lt (by simp; omega)).trans (unhide HK)
              have R4 : Hid (Below w.heap.size w w4) := (unhide HB).grown hg4 (unhide HB).size (fun j hj => by injection hj with hj; omega)
              clear hA4 hg4 HQ HBR HO HK HB
              go_wp2_with fail
              go_roundw
              case rel => exact ⟨k + 1, b_, by omega, by show b_ = 64 * (k + 1); have := unhide HAT; have := unhide HBB; omega, by go_num, R1, R2, R3, R4⟩
              case measure => simp [intOf]; omega
            · have ek : k = n := by omega
              obtain ⟨q, hq⟩ : ∃ q, q = hashTo m n := ⟨_, rfl⟩
              have HQ : Hid (ArrAt wr w.heap.size 125 (U32 q.l)) := by rw [hq, ← ek]; exact HQ0
              have HV : Hid (shaR l = q) := by rw [hq]; exact HSH
              have a1 : ¬ (at_ : Int) < (N : Int) := by omega
              have hzq := (unhide HQ).lt
              clear HQ0 hq ek ea eN HO HK hgl
              go_wp2_with fail
              go_loopw [8, 9] (fun v i wr => ∃ k : Nat, k ≤ 8 ∧ i = .int .i64 k ∧ wr.ownsRow (w.heap.size + 1) 5 1 v (textL (q.l.take k)).length (B8 (textL (q.l.take k))) ∧ Hid (ArrAt wr w.heap.size 125 (U32 q.l)) ∧ Below w.heap.size w wr) (fun _ i _ => 8 - (intOf i).toNat)
              case atStart => exact ⟨0, by omega, rfl, lit_own wr (w.heap.size + 1) 5 (by omega), (unhide HQ).alloc _, (unhide HB).alloc (unhide HB).size _⟩
              case round =>
                clear HQ HB hzq
                obtain ⟨k, hk, rfl, hown, HQ, hb⟩ := hrel
                by_cases hlt : k < 8
                · have hkl : Hid (k < q.l.length) := hlt
                  have hz := hb.size
                  have hzq := (unhide HQ).lt
                  obtain ⟨m2, hm2⟩ : ∃ m, m = textL (q.l.take k) := ⟨_, rfl⟩
                  rw [← hm2] at hown
                  have HM2 := hide hm2
                  have HL2 : m2.length ≤ 32 := by rw [hm2, textL_len]; have := List.length_take_le k q.l; omega
                  obtain ⟨x, hx⟩ : ∃ x, x = gt q.l k := ⟨_, rfl⟩
                  have ck : wr.cell? ⟨w.heap.size, k, none⟩ = some (.int .u32 (wI x)) := by rw [(unhide HQ).cell, hx, R8_at q k hlt]
                  have HX := hide hx
                  have v1 : IntKind.u8.wrap (wI x / 16777216) = ((wb x 16777216).toNat : Int) := by rw [IntKind.wrap_u8']; exact wb_val x 16777216
                  have v2 : IntKind.u8.wrap (wI x / 65536) = ((wb x 65536).toNat : Int) := by rw [IntKind.wrap_u8']; exact wb_val x 65536
                  have v3 : IntKind.u8.wrap (wI x / 256) = ((wb x 256).toNat : Int) := by rw [IntKind.wrap_u8']; exact wb_val x 256
                  have v4 : IntKind.u8.wrap (wI x) = ((wb x 1).toNat : Int) := by rw [IntKind.wrap_u8']; exact wb_one x
                  have k0 : (0 : Int) ≤ (k : Int) := by omega
                  have k1 : (k : Int) < 8 := by omega
                  have hne : ¬ wr.heap.size = w.heap.size := by omega
                  have hne2 : ¬ w.heap.size = wr.heap.size := by omega
                  clear hm2 hx
                  go_wp2_with fail
                  go_region_held3 (fun w' => w'.cell? ⟨w.heap.size, k, none⟩ = some (.int .u32 (wI x))) (first | go_keep | exact (hgrow1.cell_far ⟨w.heap.size, k, none⟩ (by simp; omega) (by intro e; have := (hown.lt w.heap.size e.symm).1; omega)).trans ((World.cell?_alloc_lt wr _ ⟨w.heap.size, k, none⟩ hzq).trans ck)) ((refine step_append_lies _ rfl _ _ 101 rfl (w.heap.size + 1) 5 i0 (.int .u8 0) 1 1 Tryz.underlying101 hi hz0 hz1 hz2 rfl (by decide) _ _ _ rfl (by exact hown.alloc _) ⟨wr.heap.size, 0, none⟩ 4 4 (B8 (word4 x)) rfl rfl (by exact news_drew wr (B8 (word4 x)) 5) (B8_one _) (by decide) (by unfold maxLen; omega) (by omega) (by simp; omega) _ rfl ?_; intro g4 c4 w4 hown1 hgrow1 hat1 hlt1))
                  all_goals
                    have R := text_rel (unhide hkl) (unhide HM2) (by omega) hown hb ((unhide HX) ▸ hown1) (undrew hgrow1)
                    have R3 : Hid (ArrAt w4 w.heap.size 125 (U32 q.l)) := own_keep hown (undrew hgrow1) (unhide HQ) (Nat.lt_succ_self _)
                    clear hown1 hgrow1 hown hb hat1 hlt1 v1 v2 v3 v4 ck HQ
                    go_wp2_with fail
                    go_roundw
                    case rel => exact ⟨k + 1, by omega, by go_num, R.1, R3, R.2⟩
                    case measure => simp [intOf]; omega
                · have ek : k = 8 := by omega
                  rw [ek, show q.l.take 8 = q.l from rfl] at hown
                  have hcv := conv_own (P := Tryz.prog) Tryz.underlying101 Tryz.underlying5 Tryz.underlying9 hown
                  clear hown ek
                  go_wp2_with fail
                  go_ret
                  rw [unhide HV]
                  exact ⟨rfl, hb⟩
        · obtain ⟨k, rfl⟩ : ∃ k, b = k + 1 := ⟨b - 1, by omega⟩
          have hk : (k : Int) ≤ 7 := by omega
          have hv := lb_val2 l.length k
          have hown := unhide HO
          clear HO
          go_wp2_with (at_builtin; refine wpList_append_lies _ rfl (.tmp 27) (.tmp 36) 101 rfl (w.heap.size + 1) 5 i0 (.int .u8 0) 1 1 Tryz.underlying101 hi hz0 hz1 hz2 rfl (by decide) _ _ _ rfl (hown.alloc _) ⟨wr.heap.size, 0, none⟩ 1 1 (B8 [lb (8 * l.length) k]) rfl rfl (by exact news_new wr (B8 [lb (8 * l.length) k]) 5) (B8_one _) (by decide) (by unfold maxLen; omega) (by omega) (by simp; omega) _ rfl ?_; intro g2 c2 w2 hown2 hgrow2 hat2 hlt2; have HA2 := hide (own_keep hown hgrow2 (unhide HA) (Nat.lt_succ_self _)); have HB2 := hide (below_app (unhide HB) (by omega) hown (Nat.le_succ _) hgrow2); have HO2 : Hid (w2.ownsRow (w.heap.size + 1) 5 1 (.slice (some ⟨g2, 0, none⟩) (N + 1) c2) (N + 1) (B8 (padB l k))) := (by rw [padB_step l k (by omega), B8_app]; exact hown2); clear hown2 hgrow2 hat2 hlt2 hown HA HB hv)
          go_roundw
          case rel => exact ⟨k, g2, c2, N + 1, by omega, by go_num, by omega, rfl, HO2, HA2, HB2⟩
          case measure => simp [intOf]
end Go.Proofs.YtmmnoepcklfonaaGreatDoor

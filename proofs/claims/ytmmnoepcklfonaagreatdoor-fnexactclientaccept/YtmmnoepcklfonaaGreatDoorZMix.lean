/- A block is mixed into the registers: what mixBlock answers. -/
import Derived.Test.YtmmnoepcklfonaaGreatDoorZSpread
namespace Go.Proofs.YtmmnoepcklfonaaGreatDoor
open Go.ChangeShapes Go.WideShapes Go.ChangeAt Go.RowKit

structure R8 where
  a : BitVec 32
  b : BitVec 32
  c : BitVec 32
  d : BitVec 32
  e : BitVec 32
  f : BitVec 32
  g : BitVec 32
  y : BitVec 32
def R8.l (r : R8) : List (BitVec 32) := [r.a, r.b, r.c, r.d, r.e, r.f, r.g, r.y]
def stepR (r : R8) (x : BitVec 32) : R8 := ⟨tOne r.e r.f r.g r.y x + tTwo r.a r.b r.c, r.a, r.b, r.c, r.d + tOne r.e r.f r.g r.y x, r.e, r.f, r.g⟩
def kN : List Nat := [1116352408, 1899447441, 3049323471, 3921009573, 961987163, 1508970993, 2453635748, 2870763221, 3624381080, 310598401, 607225278, 1426881987, 1925078388, 2162078206, 2614888103, 3248222580, 3835390401, 4022224774, 264347078, 604807628, 770255983, 1249150122, 1555081692, 1996064986, 2554220882, 2821834349, 2952996808, 3210313671, 3336571891, 3584528711, 113926993, 338241895, 666307205, 773529912, 1294757372, 1396182291, 1695183700, 1986661051, 2177026350, 2456956037, 2730485921, 2820302411, 3259730800, 3345764771, 3516065817, 3600352804, 4094571909, 275423344, 430227734, 506948616, 659060556, 883997877, 958139571, 1322822218, 1537002063, 1747873779, 1955562222, 2024104815, 2227730452, 2361852424, 2428436474, 2756734187, 3204031479, 3329325298]
def kW : List (BitVec 32) := kN.map (BitVec.ofNat 32)
def rounds (W : List (BitVec 32)) : Nat → R8 → R8
  | 0, r => r
  | n + 1, r => stepR (rounds W n r) (gt kW n + gt W n)
def addR (r s : R8) : R8 := ⟨r.a + s.a, r.b + s.b, r.c + s.c, r.d + s.d, r.e + s.e, r.f + s.f, r.g + s.g, r.y + s.y⟩
def mixR (r : R8) (l : List UInt8) : R8 := addR r (rounds (sched l 48) 64 r)
/-- The first k of the sums, and the rest as it was. -/
def addTo (r s : R8) (k : Nat) : List (BitVec 32) := (addR r s).l.take k ++ r.l.drop k
/-- The table of round words lies in its variable. -/
def KIn (w : World) : Prop := ∀ k, k < 64 → w.cell? ⟨0, k, none⟩ = some (.int .u32 (wI (gt kW k)))
theorem KIn.below {w w' : World} {B : Nat} (h : KIn w) (hb : Below B w w') (h0 : 0 < B) : KIn w' :=
  fun k hk => (hb.cell (p := ⟨0, k, none⟩) h0).trans (h k hk)
theorem KIn.pos {w : World} (h : KIn w) : 0 < w.heap.size := World.block_lt_of_cell? w _ (h 0 (by decide))
theorem Tryz.size8 : (Tryz.prog.info? 135).map (·.size) = some 8 := by kernel_rfl
theorem Tryz.size64 : (Tryz.prog.info? 145).map (·.size) = some 64 := by kernel_rfl

theorem set8 {w : World} {g : Nat} {t : TypeId} {r : R8} (h : ArrAt w g t (U32 r.l)) (s : R8) : ArrAt ((((((((w.setCell ⟨g, 0, none⟩ (.int .u32 (wI s.a))).setCell ⟨g, 1, none⟩ (.int .u32 (wI s.b))).setCell ⟨g, 2, none⟩ (.int .u32 (wI s.c))).setCell ⟨g, 3, none⟩ (.int .u32 (wI s.d))).setCell ⟨g, 4, none⟩ (.int .u32 (wI s.e))).setCell ⟨g, 5, none⟩ (.int .u32 (wI s.f))).setCell ⟨g, 6, none⟩ (.int .u32 (wI s.g))).setCell ⟨g, 7, none⟩ (.int .u32 (wI s.y))) g t (U32 s.l) :=
  (((((((h.set 0 _).set 1 _).set 2 _).set 3 _).set 4 _).set 5 _).set 6 _).set 7 _
theorem other8 {w : World} {g g' : Nat} {t : TypeId} {l : List Value} (h : ArrAt w g t l) (hne : g ≠ g') (s : R8) : ArrAt ((((((((w.setCell ⟨g', 0, none⟩ (.int .u32 (wI s.a))).setCell ⟨g', 1, none⟩ (.int .u32 (wI s.b))).setCell ⟨g', 2, none⟩ (.int .u32 (wI s.c))).setCell ⟨g', 3, none⟩ (.int .u32 (wI s.d))).setCell ⟨g', 4, none⟩ (.int .u32 (wI s.e))).setCell ⟨g', 5, none⟩ (.int .u32 (wI s.f))).setCell ⟨g', 6, none⟩ (.int .u32 (wI s.g))).setCell ⟨g', 7, none⟩ (.int .u32 (wI s.y))) g t l :=
  (((((((h.other hne 0 _).other hne 1 _).other hne 2 _).other hne 3 _).other hne 4 _).other hne 5 _).other hne 6 _).other hne 7 _
theorem below8 {w a : World} {B g : Nat} (h : Below B a w) (hg : B ≤ g) (s : R8) : Below B a ((((((((w.setCell ⟨g, 0, none⟩ (.int .u32 (wI s.a))).setCell ⟨g, 1, none⟩ (.int .u32 (wI s.b))).setCell ⟨g, 2, none⟩ (.int .u32 (wI s.c))).setCell ⟨g, 3, none⟩ (.int .u32 (wI s.d))).setCell ⟨g, 4, none⟩ (.int .u32 (wI s.e))).setCell ⟨g, 5, none⟩ (.int .u32 (wI s.f))).setCell ⟨g, 6, none⟩ (.int .u32 (wI s.g))).setCell ⟨g, 7, none⟩ (.int .u32 (wI s.y))) :=
  (((((((h.setCell (p := ⟨g, 0, none⟩) hg _).setCell (p := ⟨g, 1, none⟩) hg _).setCell (p := ⟨g, 2, none⟩) hg _).setCell (p := ⟨g, 3, none⟩) hg _).setCell (p := ⟨g, 4, none⟩) hg _).setCell (p := ⟨g, 5, none⟩) hg _).setCell (p := ⟨g, 6, none⟩) hg _).setCell (p := ⟨g, 7, none⟩) hg _
theorem R8_at (r : R8) (k : Nat) (h : k < 8) : (U32 r.l)[k]? = some (.int .u32 (wI (gt r.l k))) := by
  have hl : k < r.l.length := h
  rw [U32_at _ _ hl]; unfold gt; simp [hl]
theorem addTo_at (r s : R8) (k : Nat) (h : k < 8) : (U32 (addTo r s k))[k]? = some (.int .u32 (wI (gt r.l k))) := by
  match k, h with
  | 0, _ => rfl
  | 1, _ => rfl
  | 2, _ => rfl
  | 3, _ => rfl
  | 4, _ => rfl
  | 5, _ => rfl
  | 6, _ => rfl
  | 7, _ => rfl
theorem addTo_set (r s : R8) (k : Nat) (h : k < 8) : (U32 (addTo r s k)).set k (.int .u32 (wI (gt r.l k + gt s.l k))) = U32 (addTo r s (k + 1)) := by
  match k, h with
  | 0, _ => rfl
  | 1, _ => rfl
  | 2, _ => rfl
  | 3, _ => rfl
  | 4, _ => rfl
  | 5, _ => rfl
  | 6, _ => rfl
  | 7, _ => rfl
theorem addTo_all (r s : R8) : addTo r s 8 = (addR r s).l := rfl
theorem mix_stage1 {w w1 w2 : World} {r : R8} {S : List (BitVec 32)} (hW : (w1.alloc (.cells #[Value.int IntKind.u32 0, Value.int IntKind.u32 0, Value.int IntKind.u32 0, Value.int IntKind.u32 0, Value.int IntKind.u32 0, Value.int IntKind.u32 0, Value.int IntKind.u32 0, Value.int IntKind.u32 0, Value.int IntKind.u32 0, Value.int IntKind.u32 0, Value.int IntKind.u32 0, Value.int IntKind.u32 0, Value.int IntKind.u32 0, Value.int IntKind.u32 0, Value.int IntKind.u32 0, Value.int IntKind.u32 0, Value.int IntKind.u32 0, Value.int IntKind.u32 0, Value.int IntKind.u32 0, Value.int IntKind.u32 0, Value.int IntKind.u32 0, Value.int IntKind.u32 0, Value.int IntKind.u32 0, Value.int IntKind.u32 0, Value.int IntKind.u32 0, Value.int IntKind.u32 0, Value.int IntKind.u32 0, Value.int IntKind.u32 0, Value.int IntKind.u32 0, Value.int IntKind.u32 0, Value.int IntKind.u32 0, Value.int IntKind.u32 0, Value.int IntKind.u32 0, Value.int IntKind.u32 0, Value.int IntKind.u32 0, Value.int IntKind.u32 0, Value.int IntKind.u32 0, Value.int IntKind.u32 0, Value.int IntKind.u32 0, Value.int IntKind.u32 0, Value.int IntKind.u32 0, Value.int IntKind.u32 0, Value.int IntKind.u32 0, Value.int IntKind.u32 0, Value.int IntKind.u32 0, Value.int IntKind.u32 0, Value.int IntKind.u32 0, Value.int IntKind.u32 0, Value.int IntKind.u32 0, Value.int IntKind.u32 0, Value.int IntKind.u32 0, Value.int IntKind.u32 0, Value.int IntKind.u32 0, Value.int IntKind.u32 0, Value.int IntKind.u32 0, Value.int IntKind.u32 0, Value.int IntKind.u32 0, Value.int IntKind.u32 0, Value.int IntKind.u32 0, Value.int IntKind.u32 0, Value.int IntKind.u32 0, Value.int IntKind.u32 0, Value.int IntKind.u32 0, Value.int IntKind.u32 0] 145)).setCells w1.heap.size 0 (U32 S).toArray.toList = w2) (hz : w.heap.size + 2 ≤ w1.heap.size) (hs : (U32 S).toArray.size = 64)
    (h0 : ArrAt w1 w.heap.size 135 (U32 r.l)) (h1 : ArrAt w1 (w.heap.size + 1) 135 (U32 (List.replicate 8 0))) (hb : Below w.heap.size w w1) :
    Hid (ArrAt w2 w.heap.size 135 (U32 r.l)) ∧ Hid (ArrAt w2 (w.heap.size + 1) 135 (U32 (List.replicate 8 0))) ∧ Hid (ArrAt w2 w1.heap.size 145 (U32 S)) ∧ Hid (Below w.heap.size w w2) ∧ Hid (w2.heap.size = w1.heap.size + 1) := by
  subst hW
  refine ⟨?_, ?_, ?_, ?_, ?_⟩
  · exact ArrAt.otherCells (by omega) _ _ _ (h0.alloc _)
  · exact ArrAt.otherCells (by omega) _ _ _ (h1.alloc _)
  · exact (arr64 w1 _).setAll (U32 S) (by rw [U32_rep]; simpa using hs)
  · exact below_setCells (by omega) _ _ _ (hb.alloc (by omega) _)
  · show _ = _
    rw [size_setCells]; simp
theorem mix_stage2 {w w1 w2 w3 : World} {r : R8} {S : List (BitVec 32)} (hW : (w2.alloc (.cells #[Value.int IntKind.u32 0, Value.int IntKind.u32 0, Value.int IntKind.u32 0, Value.int IntKind.u32 0, Value.int IntKind.u32 0, Value.int IntKind.u32 0, Value.int IntKind.u32 0, Value.int IntKind.u32 0] 135)).setCells w2.heap.size 0 (U32 r.l).toArray.toList = w3) (hz : w.heap.size + 2 ≤ w1.heap.size) (hs : w2.heap.size = w1.heap.size + 1)
    (h0 : ArrAt w2 w.heap.size 135 (U32 r.l)) (h1 : ArrAt w2 (w.heap.size + 1) 135 (U32 (List.replicate 8 0))) (h2 : ArrAt w2 w1.heap.size 145 (U32 S)) (hb : Below w.heap.size w w2) :
    Hid (ArrAt w3 w.heap.size 135 (U32 r.l)) ∧ Hid (ArrAt w3 (w.heap.size + 1) 135 (U32 (List.replicate 8 0))) ∧ Hid (ArrAt w3 w1.heap.size 145 (U32 S)) ∧ Hid (ArrAt w3 w2.heap.size 135 (U32 r.l)) ∧ Hid (Below w.heap.size w w3) := by
  subst hW
  refine ⟨?_, ?_, ?_, ?_, ?_⟩
  · exact ArrAt.otherCells (by omega) _ _ _ (h0.alloc _)
  · exact ArrAt.otherCells (by omega) _ _ _ (h1.alloc _)
  · exact ArrAt.otherCells (by omega) _ _ _ (h2.alloc _)
  · exact (arr8 w2 _).setAll (U32 r.l) (by rw [U32_rep]; rfl)
  · exact below_setCells (by omega) _ _ _ (hb.alloc (by omega) _)

set_option maxHeartbeats 1000000 in
set_option maxRecDepth 100000 in
theorem mix27 (r : R8) (a0 : Option Addr) (cap : Nat) (l : List UInt8) (hl : l.length = 64) (w : World) (hr : Row8 w a0 l) (hk : KIn w) :
    Calls Tryz.prog 113 #[.agg #[.int .u32 (wI r.a), .int .u32 (wI r.b), .int .u32 (wI r.c), .int .u32 (wI r.d), .int .u32 (wI r.e), .int .u32 (wI r.f), .int .u32 (wI r.g), .int .u32 (wI r.y)], .slice a0 64 cap] w fun z w' => z = .returned (.agg (U32 (mixR r l).l).toArray) ∧ Below w.heap.size w w' := by
  have HR := hide hr
  have HL := hide hl
  have HK := hide hk
  have H0 := hide hk.pos
  obtain ⟨S, hS⟩ : ∃ S, S = sched l 48 := ⟨_, rfl⟩
  have HSS := hide hS
  have HS : Hid ((U32 S).toArray.size = 64) := by show _ = _; rw [List.size_toArray, U32_len, hS, sched_len]
  clear hS
  clear hr hl hk
  go_enter Tryz.func113, Tryz.ntmps113
  go_wp2_with fail
  refine (spreadS a0 cap l (unhide HL) _ ((unhide HR).below (((Below.refl _ _).alloc (Nat.le_refl _) _).alloc (by simp) _)) S (unhide HSS)).mono ?_
  rintro e w1 ⟨rfl, hb1⟩
  have hz1 : w.heap.size + 2 ≤ w1.heap.size := by have := hb1.size; simpa using this
  have HA0 : Hid (ArrAt w1 w.heap.size 135 (U32 r.l)) := ((arr_new w (U32 r.l) 135).alloc _).below hb1 (by simp; omega)
  have HA1 : Hid (ArrAt w1 (w.heap.size + 1) 135 (U32 (List.replicate 8 0))) := (arr_second w _ (U32 (List.replicate 8 0)) 135).below hb1 (by simp)
  have HB1 : Hid (Below w.heap.size w w1) := (((Below.refl _ _).alloc (Nat.le_refl _) _).alloc (by simp) _).trans (hb1.mono (by simp; omega))
  clear hb1
  go_wp2_with (first | (refine wpList_store_mid rfl 145 _ _ rfl w1.heap.size 0 _ rfl rfl (there64 _ _ _ (unhide HS)) (by rw [unhide HS]; exact Tryz.size64) (all_oneCell_toArray (U32_one _)) ?_; generalize hW : World.setCells _ w1.heap.size 0 _ = w2; obtain ⟨HC0, HC1, HC2, HC3, HC4⟩ := mix_stage1 hW hz1 (unhide HS) (unhide HA0) (unhide HA1) (unhide HB1); clear hW) | (refine wpList_load_row rfl 135 _ rfl w.heap.size rfl 135 (U32 r.l).toArray (0, 0) _ (unhide HC0) Tryz.underlying135 rfl Tryz.size8 ?_) | (refine wpList_store_mid rfl 135 _ _ rfl w2.heap.size 0 (U32 r.l).toArray rfl rfl (there8 _ _ _ rfl) Tryz.size8 (all_oneCell_toArray (U32_one _)) ?_; generalize hW : World.setCells _ w2.heap.size 0 _ = w3; obtain ⟨HD0, HD1, HD2, HD3, HD4⟩ := mix_stage2 hW hz1 (unhide HC4) (unhide HC0) (unhide HC1) (unhide HC2) (unhide HC3); clear hW))
  go_loopw [12] (fun i wr => ∃ k : Nat, k ≤ 64 ∧ i = .int .i64 k ∧ Hid (ArrAt wr w2.heap.size 135 (U32 (rounds S k r).l)) ∧ Hid (ArrAt wr w1.heap.size 145 (U32 S)) ∧ Hid (ArrAt wr w.heap.size 135 (U32 r.l)) ∧ Hid (ArrAt wr (w.heap.size + 1) 135 (U32 (List.replicate 8 0))) ∧ Hid (Below w.heap.size w wr)) (fun i _ => 64 - (intOf i).toNat)
  case atStart => exact ⟨0, by omega, rfl, HD3, HD2, HD0, HD1, HD4⟩
  case round =>
    have hz2 := unhide HC4
    have N1 : Hid (w1.heap.size ≠ w2.heap.size) := by show _ ≠ _; omega
    have N2 : Hid (w.heap.size ≠ w2.heap.size) := by show _ ≠ _; omega
    have N3 : Hid (w.heap.size + 1 ≠ w2.heap.size) := by show _ ≠ _; omega
    have N4 : Hid (w.heap.size ≤ w2.heap.size) := by show _ ≤ _; omega
    clear HD0 HD1 HD2 HD3 HD4 HC0 HC1 HC2 HC3 HA0 HA1 HB1 HC4 hz2 hz1
    obtain ⟨k, hk, rfl, HQ0, HW, HA0, HA1, HB⟩ := hrel
    by_cases hlt : k < 64
    · obtain ⟨q, hq⟩ : ∃ q, q = rounds S k r := ⟨_, rfl⟩
      have HQ : Hid (ArrAt wr w2.heap.size 135 (U32 q.l)) := by rw [hq]; exact HQ0
      have HNX : Hid (rounds S (k + 1) r = stepR q (gt kW k + gt S k)) := by rw [hq]; rfl
      clear HQ0 hq
      have c0 : wr.cell? ⟨w2.heap.size, 0, none⟩ = some (.int .u32 (wI q.a)) := by rw [(unhide HQ).cell]; rfl
      have c1 : wr.cell? ⟨w2.heap.size, 1, none⟩ = some (.int .u32 (wI q.b)) := by rw [(unhide HQ).cell]; rfl
      have c2 : wr.cell? ⟨w2.heap.size, 2, none⟩ = some (.int .u32 (wI q.c)) := by rw [(unhide HQ).cell]; rfl
      have c3 : wr.cell? ⟨w2.heap.size, 3, none⟩ = some (.int .u32 (wI q.d)) := by rw [(unhide HQ).cell]; rfl
      have c4 : wr.cell? ⟨w2.heap.size, 4, none⟩ = some (.int .u32 (wI q.e)) := by rw [(unhide HQ).cell]; rfl
      have c5 : wr.cell? ⟨w2.heap.size, 5, none⟩ = some (.int .u32 (wI q.f)) := by rw [(unhide HQ).cell]; rfl
      have c6 : wr.cell? ⟨w2.heap.size, 6, none⟩ = some (.int .u32 (wI q.g)) := by rw [(unhide HQ).cell]; rfl
      have c7 : wr.cell? ⟨w2.heap.size, 7, none⟩ = some (.int .u32 (wI q.y)) := by rw [(unhide HQ).cell]; rfl
      have cK : wr.cell? ⟨0, k, none⟩ = some (.int .u32 (wI (gt kW k))) := (unhide HK).below (unhide HB) (unhide H0) k hlt
      have hSl : S.length = 64 := by have := unhide HS; rwa [List.size_toArray, U32_len] at this
      have cS : wr.cell? ⟨w1.heap.size, k, none⟩ = some (.int .u32 (wI (gt S k))) := by
        rw [(unhide HW).cell, U32_at S k (by omega)]; unfold gt; simp [hSl, hlt]
      generalize gt kW k = kx at *
      generalize gt S k = sx at *
      have ea := w_addw kx sx
      have k0 : (0 : Int) ≤ (k : Int) := by omega
      have k1 : (k : Int) < 64 := by omega
      clear hSl
      go_wp2_with fail
      go_region_with (go_at_call 120; refine (regs33 q.a q.b q.c q.d q.e q.f q.g q.y (kx + sx) _).mono ?_; rintro z1 w4 ⟨rfl, hb4⟩; have hA4 := (unhide HQ).drew.below hb4 (unhide HQ).drew.lt; have d0 : w4.cell? ⟨w2.heap.size, 0, none⟩ = some (.int .u32 (wI q.a)) := (hA4.cell 0).trans rfl; have f0 := hA4.frozen 0; have d1 : w4.cell? ⟨w2.heap.size, 1, none⟩ = some (.int .u32 (wI q.b)) := (hA4.cell 1).trans rfl; have f1 := hA4.frozen 1; have d2 : w4.cell? ⟨w2.heap.size, 2, none⟩ = some (.int .u32 (wI q.c)) := (hA4.cell 2).trans rfl; have f2 := hA4.frozen 2; have d3 : w4.cell? ⟨w2.heap.size, 3, none⟩ = some (.int .u32 (wI q.d)) := (hA4.cell 3).trans rfl; have f3 := hA4.frozen 3; have d4 : w4.cell? ⟨w2.heap.size, 4, none⟩ = some (.int .u32 (wI q.e)) := (hA4.cell 4).trans rfl; have f4 := hA4.frozen 4; have d5 : w4.cell? ⟨w2.heap.size, 5, none⟩ = some (.int .u32 (wI q.f)) := (hA4.cell 5).trans rfl; have f5 := hA4.frozen 5; have d6 : w4.cell? ⟨w2.heap.size, 6, none⟩ = some (.int .u32 (wI q.g)) := (hA4.cell 6).trans rfl; have f6 := hA4.frozen 6; have d7 : w4.cell? ⟨w2.heap.size, 7, none⟩ = some (.int .u32 (wI q.y)) := (hA4.cell 7).trans rfl; have f7 := hA4.frozen 7; have HA4 := hide hA4; clear hA4)
      all_goals
        have R1 : Hid (Below w.heap.size w w4) := (unhide HB).drew.trans (hb4.mono (unhide HB).drew.size)
        have R2 : Hid (ArrAt w4 w1.heap.size 145 (U32 S)) := (unhide HW).drew.below hb4 (unhide HW).drew.lt
        have R3 : Hid (ArrAt w4 w.heap.size 135 (U32 r.l)) := (unhide HA0).drew.below hb4 (unhide HA0).drew.lt
        have R4 : Hid (ArrAt w4 (w.heap.size + 1) 135 (U32 (List.replicate 8 0))) := (unhide HA1).drew.below hb4 (unhide HA1).drew.lt
        clear hb4 c0 c1 c2 c3 c4 c5 c6 c7 d0 d1 d2 d3 d4 d5 d6 d7 f0 f1 f2 f3 f4 f5 f6 f7 cK cS HQ HW HA0 HA1 HB ea
        go_wp2_with fail
        go_roundw
        case rel => exact ⟨k + 1, by omega, by go_num, by rw [unhide HNX]; exact set8 (unhide HA4) (stepR q (kx + sx)), other8 (unhide R2) (unhide N1) (stepR q (kx + sx)), other8 (unhide R3) (unhide N2) (stepR q (kx + sx)), other8 (unhide R4) (unhide N3) (stepR q (kx + sx)), below8 (unhide R1) (unhide N4) (stepR q (kx + sx))⟩
        case measure => simp [intOf]; omega
    · have ek : k = 64 := by omega
      obtain ⟨q, hq⟩ : ∃ q, q = rounds S 64 r := ⟨_, rfl⟩
      have HQ : Hid (ArrAt wr w2.heap.size 135 (U32 q.l)) := by rw [hq, ← ek]; exact HQ0
      have HNX : Hid (mixR r l = addR r q) := by show _ = _; unfold mixR; rw [← unhide HSS, ← hq]
      clear HQ0 hq ek HSS
      go_wp2_with fail
      go_loopw [25] (fun i wr => ∃ k : Nat, k ≤ 8 ∧ i = .int .i64 k ∧ Hid (ArrAt wr w.heap.size 135 (U32 (addTo r q k))) ∧ Hid (ArrAt wr w2.heap.size 135 (U32 q.l)) ∧ Hid (ArrAt wr (w.heap.size + 1) 135 (U32 (List.replicate 8 0))) ∧ Hid (Below w.heap.size w wr)) (fun i _ => 8 - (intOf i).toNat)
      case atStart => exact ⟨0, by omega, rfl, HA0, HQ, HA1, HB⟩
      case round =>
        clear HW HA0 HQ HA1 HB
        obtain ⟨k, hk, rfl, HA0, HQ, HA1, HB⟩ := hrel
        by_cases hlt : k < 8
        · have c1 : wr.cell? ⟨w.heap.size, k, none⟩ = some (.int .u32 (wI (gt r.l k))) := by rw [(unhide HA0).cell, addTo_at r q k hlt]
          have c2 : wr.cell? ⟨w2.heap.size, k, none⟩ = some (.int .u32 (wI (gt q.l k))) := by rw [(unhide HQ).cell, R8_at q k hlt]
          have f1 := (unhide HA0).frozen k
          have HST := hide (addTo_set r q k hlt)
          generalize gt r.l k = x1 at *
          generalize gt q.l k = x2 at *
          have ea := w_addw x1 x2
          have k0 : (0 : Int) ≤ (k : Int) := by omega
          have k1 : (k : Int) < 8 := by omega
          go_wp2_with fail
          go_region
          all_goals
            clear c1 c2 f1 ea
            go_wp2_with fail
            go_roundw
            case rel => exact ⟨k + 1, by omega, by go_num, (unhide HST) ▸ ((unhide HA0).set k _).drew, ((unhide HQ).other (Ne.symm (unhide N2)) k _).drew, ((unhide HA1).other (by omega) k _).drew, ((unhide HB).setCell (p := ⟨w.heap.size, k, none⟩) (Nat.le_refl _) _).drew⟩
            case measure => simp [intOf]; omega
        · have ek : k = 8 := by omega
          have HF : Hid (ArrAt wr w.heap.size 135 (U32 (mixR r l).l)) := by rw [unhide HNX, ← addTo_all r q, ← ek]; exact HA0
          clear HA0 ek
          obtain ⟨m, hm⟩ : ∃ m, m = mixR r l := ⟨_, rfl⟩
          rw [← hm] at HF
          have HM := hide hm
          clear hm
          have HT : Hid (wr.there (w.heap.size + 1) 0 8) := by have := (unhide HA1).there; rwa [U32_rep] at this
          go_wp2_with (first | (refine wpList_load_row rfl 135 _ rfl w.heap.size rfl 135 (U32 m.l).toArray (0, 0) _ (unhide HF) Tryz.underlying135 rfl Tryz.size8 ?_) | (refine wpList_store_mid rfl 135 _ _ rfl (w.heap.size + 1) 0 (U32 m.l).toArray rfl rfl (unhide HT) Tryz.size8 (all_oneCell_toArray (U32_one _)) ?_))
          refine bodyPost_ret (v := .agg (U32 m.l).toArray) (results_cell1 Tryz.results113 rfl (run_loadVar_mid _ (w.heap.size + 1) 0 135 (U32 m.l) _ (World.rangeAt_setCells_same _ _ _ _ (unhide HT)) Tryz.underlying135 rfl Tryz.size8)) rfl ⟨by rw [unhide HM], below_setCells (by omega) _ _ _ (unhide HB)⟩
theorem mixS (r : R8) (a0 : Option Addr) (cap : Nat) (l : List UInt8) (hl : l.length = 64) (w : World) (hr : Row8 w a0 l) (hk : KIn w) (s : R8) (hs : s = mixR r l) :
    Calls Tryz.prog 113 #[.agg #[.int .u32 (wI r.a), .int .u32 (wI r.b), .int .u32 (wI r.c), .int .u32 (wI r.d), .int .u32 (wI r.e), .int .u32 (wI r.f), .int .u32 (wI r.g), .int .u32 (wI r.y)], .slice a0 64 cap] w fun z w' => z = .returned (.agg #[.int .u32 (wI s.a), .int .u32 (wI s.b), .int .u32 (wI s.c), .int .u32 (wI s.d), .int .u32 (wI s.e), .int .u32 (wI s.f), .int .u32 (wI s.g), .int .u32 (wI s.y)]) ∧ Below w.heap.size w w' := by
  refine (mix27 r a0 cap l hl w hr hk).mono ?_
  rintro z w' ⟨rfl, hb⟩
  exact ⟨by rw [hs]; rfl, hb⟩
theorem Row8.drew {w : World} {a : Option Addr} {l : List UInt8} (h : Row8 w a l) : Row8 w.drew a l := h
theorem KIn.drew {w : World} (h : KIn w) : KIn w.drew := h
end Go.Proofs.YtmmnoepcklfonaaGreatDoor

/- Texts put together: FldI StrS. -/
import Derived.Test.YtialpepklejejaaDoorZG6
import Derived.Test.YtialpepklejejaaDoorZRowV
/- impl.takeField: one field of a row of bytes, and what stands behind it. -/
namespace Go.Proofs.YtialpepklejejaaDoor
open Go.ChangeShapes Go.WideShapes Go.ChangeAt Go.RowKit
/-- One field and what stands behind it; none where the bytes are cut off or the length is out of its bounds. -/
def fld (l : List UInt8) : Option (List UInt8 × List UInt8) :=
  if l.length < 2 then none else if 20000 < ofBE (l.take 2) then none else if l.length - 2 < ofBE (l.take 2) then none
  else some ((l.drop 2).take (ofBE (l.take 2)), (l.drop 2).drop (ofBE (l.take 2)))
theorem fld_some {l x r : List UInt8} (h : fld l = some (x, r)) : 2 ≤ l.length ∧ ofBE (l.take 2) ≤ 20000 ∧ ofBE (l.take 2) ≤ l.length - 2 ∧ x = (l.drop 2).take (ofBE (l.take 2)) ∧ r = (l.drop 2).drop (ofBE (l.take 2)) := by
  unfold fld at h
  split at h
  · simp at h
  · split at h
    · simp at h
    · split at h
      · simp at h
      · simp only [Option.some.injEq, Prod.mk.injEq] at h
        exact ⟨by omega, by omega, by omega, h.1.symm, h.2.symm⟩
set_option maxHeartbeats 400000 in
theorem itakefieldOk (b off cap len : Nat) (l x r : List UInt8) (el : l.length = len) (hc : len ≤ cap) (hf : fld l = some (x, r)) (w : World) (hr : Row8 w (some ⟨b, off, none⟩) l) :
    Calls Tryd.prog 60 #[.slice (some ⟨b, off, none⟩) len cap] w fun e w' => ∃ o1 o2, e = .returned (.tuple #[.slice (some ⟨b, o1, none⟩) x.length (cap - 2), .slice (some ⟨b, o2, none⟩) r.length (cap - 2 - x.length), .nilIface]) ∧ Row8 w' (some ⟨b, o1, none⟩) x ∧ Row8 w' (some ⟨b, o2, none⟩) r ∧ Below w.heap.size w w' := by
  obtain ⟨h2, hy, hle, ex, er⟩ := fld_some hf
  rw [el] at h2 hle
  have HTL : Hid ((l.take 2).length = 2) := by show _ = _; rw [List.length_take]; omega
  have HDL : Hid ((l.drop 2).length = len - 2) := by show _ = _; rw [List.length_drop, el]
  have T1 := itake b off cap 2 l len el h2 hc w hr
  change Calls _ _ #[_, .int .i64 2] _ _ at T1
  obtain ⟨y, ey⟩ : ∃ y : Nat, y = ofBE (l.take 2) := ⟨_, rfl⟩
  rw [← ey] at hy hle ex er
  have xl : x.length = y := by rw [ex, List.length_take, unhide HDL]; omega
  have rl : r.length = len - 2 - y := by rw [er, List.length_drop, unhide HDL]
  rw [xl, rl]
  have HEY := hide ey
  have HEX := hide ex
  have HER := hide er
  obtain ⟨m, em⟩ : ∃ m, m = len - 2 := ⟨_, rfl⟩
  obtain ⟨cp, ecp⟩ : ∃ cp, cp = cap - 2 := ⟨_, rfl⟩
  rw [← em, ← ecp] at T1 ⊢
  rw [← em] at HDL hle
  have hc2 : m ≤ cp := by omega
  have n1 : ¬ (20000 : Int) < (y : Int) := by omega
  clear hf ey ex er xl rl hr em ecp hc
  go_enter Tryd.func60, Tryd.ntmps60
  go_wp2_with (first | (have hq := HR2; go_at_call 47; refine (itake b o2 cp y (l.drop 2) m (unhide HDL) hle hc2 _ (unhide HR2)).mono ?_; rintro e w3 ⟨o3, rfl, hx, hrr, hb3⟩; have HX := hide hx; have HRR := hide hrr; have HB3 := hide ((unhide HB).trans (hb3.mono (unhide HB).size)); clear hx hrr hb3 HR2) | (have hq := HT; go_at_call 48; have h3 := inumber (some ⟨b, off, none⟩) cap (l.take 2) (by rw [unhide HTL]; decide) _ (unhide HT); rw [unhide HTL, ← unhide HEY] at h3; refine h3.mono ?_; clear h3; rintro e w2 ⟨rfl, hw⟩; subst w2) | (go_at_call 47; refine T1.mono ?_; clear T1; rintro e w1 ⟨o2, rfl, ht, hd, hb⟩; have HT := hide ht; have HR2 := hide hd; have HB := hide hb; clear ht hd hb))
  go_ret3
  refine ⟨o2, o3, rfl, ?_, ?_, unhide HB3⟩
  · rw [unhide HEX]; exact unhide HX
  · rw [unhide HER]; exact unhide HRR
/-- What the listed variables hold that reading asks for. -/
structure ErrsIn (w : World) : Prop where
  type : w.cell? ⟨8, 0, none⟩ = some (.iface 93 (.agg #[.pointer (some ⟨10, 40, none⟩)]))
  cut : ∃ u y, w.cell? ⟨0, 0, none⟩ = some (.iface u y)
  bounds : ∃ u y, w.cell? ⟨6, 0, none⟩ = some (.iface u y)
  behind : ∃ u y, w.cell? ⟨9, 0, none⟩ = some (.iface u y)
theorem ErrsIn.below {w w' : World} (h : ErrsIn w) (hb : Below w.heap.size w w') : ErrsIn w' := by
  obtain ⟨t, ⟨u1, y1, c1⟩, ⟨u2, y2, c2⟩, ⟨u3, y3, c3⟩⟩ := h
  exact ⟨cell_later hb t, ⟨u1, y1, cell_later hb c1⟩, ⟨u2, y2, cell_later hb c2⟩, ⟨u3, y3, cell_later hb c3⟩⟩
set_option maxHeartbeats 400000 in
theorem itakefieldNo (b off cap len : Nat) (l : List UInt8) (el : l.length = len) (hc : len ≤ cap) (hf : fld l = none) (w : World) (hE : ErrsIn w) (hr : Row8 w (some ⟨b, off, none⟩) l) :
    Calls Tryd.prog 60 #[.slice (some ⟨b, off, none⟩) len cap] w fun e w' => (∃ u y, e = .returned (.tuple #[.slice none 0 0, .slice none 0 0, .iface 81 (.agg #[.int .i64 3, .iface u y])])) ∧ Below w.heap.size w w' := by
  obtain ⟨u1, y1, c1⟩ := hE.cut
  by_cases h2 : len < 2
  · have T1 := itakeNo (some ⟨b, off, none⟩) len cap 2 h2 u1 y1 w c1
    change Calls _ _ #[_, .int .i64 2] _ _ at T1
    clear hf hr hE
    go_enter Tryd.func60, Tryd.ntmps60
    go_wp2_with (go_at_call 47; refine T1.mono ?_; clear T1; rintro e w1 ⟨rfl, hb⟩)
    go_ret3
    exact ⟨⟨_, _, rfl⟩, hb⟩
  have HTL : Hid ((l.take 2).length = 2) := by show _ = _; rw [List.length_take]; omega
  have HDL : Hid ((l.drop 2).length = len - 2) := by show _ = _; rw [List.length_drop, el]
  have T1 := itake b off cap 2 l len el (by omega) hc w hr
  change Calls _ _ #[_, .int .i64 2] _ _ at T1
  obtain ⟨y, ey⟩ : ∃ y : Nat, y = ofBE (l.take 2) := ⟨_, rfl⟩
  have HEY := hide ey
  have HE := hide hE
  obtain ⟨m, em⟩ : ∃ m, m = len - 2 := ⟨_, rfl⟩
  obtain ⟨cp, ecp⟩ : ∃ cp, cp = cap - 2 := ⟨_, rfl⟩
  have hf2 : 20000 < y ∨ m < y := by
    unfold fld at hf
    rw [← ey, el, if_neg h2, ← em] at hf
    by_cases q1 : 20000 < y
    · exact .inl q1
    · rw [if_neg q1] at hf
      by_cases q2 : m < y
      · exact .inr q2
      · rw [if_neg q2] at hf; simp at hf
  rw [← em, ← ecp] at T1
  clear hf ey hr em ecp hc hE c1
  by_cases n1 : 20000 < y
  · have n2 : (20000 : Int) < (y : Int) := by omega
    clear hf2
    go_enter Tryd.func60, Tryd.ntmps60
    go_wp2_with (first | (have hq := HT; go_at_call 48; have h3 := inumber (some ⟨b, off, none⟩) cap (l.take 2) (by rw [unhide HTL]; decide) _ (unhide HT); rw [unhide HTL, ← unhide HEY] at h3; refine h3.mono ?_; clear h3; rintro e w2 ⟨rfl, hw⟩; subst w2; obtain ⟨u2, y2, c2⟩ := (unhide HE1).bounds; clear HE1) | (go_at_call 47; refine T1.mono ?_; clear T1; rintro e w1 ⟨o2, rfl, ht, hd, hb⟩; have HT := hide ht; have HB := hide hb; have HE1 := hide ((unhide HE).below hb); clear ht hd hb))
    go_region_held3 (fun w' => w'.cell? ⟨6, 0, none⟩ = some (.iface u2 y2)) (go_keep) (fail)
    go_wp2
    go_ret3
    exact ⟨⟨_, _, rfl⟩, (unhide HB).drew⟩
  · have n2 : ¬ (20000 : Int) < (y : Int) := by omega
    have n3 : m < y := by omega
    clear hf2
    go_enter Tryd.func60, Tryd.ntmps60
    go_wp2_with (first | (have hq := HR2; go_at_call 47; obtain ⟨u1, y1, c1⟩ := (unhide HE1).cut; refine (itakeNo (some ⟨b, o2, none⟩) m cp y n3 u1 y1 _ c1).mono ?_; rintro e w3 ⟨rfl, hb3⟩; have HB3 := hide ((unhide HB).trans (hb3.mono (unhide HB).size)); clear hb3 HR2 c1) | (have hq := HT; go_at_call 48; have h3 := inumber (some ⟨b, off, none⟩) cap (l.take 2) (by rw [unhide HTL]; decide) _ (unhide HT); rw [unhide HTL, ← unhide HEY] at h3; refine h3.mono ?_; clear h3; rintro e w2 ⟨rfl, hw⟩; subst w2) | (go_at_call 47; refine T1.mono ?_; clear T1; rintro e w1 ⟨o2, rfl, ht, hd, hb⟩; have HT := hide ht; have HR2 := hide hd; have HB := hide hb; have HE1 := hide ((unhide HE).below hb); clear ht hd hb))
    go_ret3
    exact ⟨⟨_, _, rfl⟩, unhide HB3⟩
end Go.Proofs.YtialpepklejejaaDoor

/- Rows of texts: the laws' own helpers. -/
namespace Go.Proofs.YtialpepklejejaaDoor
open Go.ChangeShapes Go.WideShapes Go.ChangeAt Go.RowKit
theorem Tryd.infL9 : (Tryd.prog.info? 9).map (fun i => (i.zero, i.size, i.bytes)) = some (some (.string ⟨#[]⟩), 1, 16) := by kernel_rfl
def cS (l : List ByteArray) : List Value := l.map fun c => .string (c)
theorem cS_len (l : List ByteArray) : (cS l).length = l.length := by simp [cS]
theorem cS_at (l : List ByteArray) (k : Nat) (h : k < l.length) : (cS l)[k]? = some (.string (l[k])) := by simp [cS, List.getElem?_eq_getElem h]
theorem cS_app (l m : List ByteArray) : cS (l ++ m) = cS l ++ cS m := by simp [cS]
theorem cS_one (l : List ByteArray) : ∀ u ∈ cS l, u.oneCell' = true := by
  intro u hu; simp [cS] at hu; obtain ⟨c, _, rfl⟩ := hu; rfl

/-- The text of a mark. -/
def mtD : Nat → Nat → List UInt8 → List UInt8
  | 0, _, acc => acc
  | f + 1, k, acc => if k = 0 then acc else mtD f (k / 10) (UInt8.ofNat (48 + k % 10) :: acc)
def mtS (k : Nat) : ByteArray := ⟨(109 :: mtD k k []).toArray⟩
theorem mtD_zero (f : Nat) (acc : List UInt8) : mtD f 0 acc = acc := by cases f <;> simp [mtD]
theorem mtD_step (f k : Nat) (acc : List UInt8) (hk : 0 < k) (hf : k ≤ f) : mtD f k acc = mtD (f - 1) (k / 10) (UInt8.ofNat (48 + k % 10) :: acc) := by
  obtain ⟨f, rfl⟩ : ∃ g, f = g + 1 := ⟨f - 1, by omega⟩
  show (if k = 0 then acc else _) = _
  rw [if_neg (by omega)]; rfl
theorem str_app (a b : List UInt8) : (⟨a.toArray⟩ : ByteArray) ++ ⟨b.toArray⟩ = ⟨(a ++ b).toArray⟩ := by
  apply ByteArray.ext; simp
set_option maxHeartbeats 400000 in
set_option maxRecDepth 100000 in
theorem markText27 (k0 : Nat) (h0 : 0 < k0) (hk0 : k0 ≤ 4000000) (w : World) :
    Calls Tryd.prog 33 #[.int .i64 (k0 : Int)] w fun e w' => e = .returned (.string (mtS k0)) ∧ Below w.heap.size w w' := by
  have h0' : ¬ (k0 : Int) ≤ 0 := by omega
  go_enter Tryd.func33, Tryd.ntmps33
  go_wp2_with fail
  go_loopw [0, 3] (fun kk s wr => ∃ (k f : Nat) (acc : List UInt8), kk = .int .i64 (k : Int) ∧ k ≤ 4000000 ∧ k ≤ f ∧ s = .string ⟨acc.toArray⟩ ∧ Hid (acc.length + k ≤ 4000000) ∧ Hid (mtD f k acc = mtD k0 k0 []) ∧ Below w.heap.size w wr) (fun kk _ _ => (intOf kk).toNat)
  case atStart => exact ⟨k0, k0, [], rfl, hk0, Nat.le_refl _, rfl, by show [].length + k0 ≤ 4000000; simpa using hk0, rfl, Below.refl _ _⟩
  case round =>
    obtain ⟨k, f, acc, rfl, hk, hf, rfl, HA, HM, hb⟩ := hrel
    by_cases hp : 0 < k
    · have hp' : 0 < (k : Int) := by omega
      obtain ⟨c, hc⟩ : ∃ c : UInt8, c = UInt8.ofNat (48 + k % 10) := ⟨_, rfl⟩
      have hcv : (48 + (k : Int) % 10) = (c.toNat : Int) := by rw [hc, UInt8.toNat_ofNat']; omega
      have hcv2 : (48 + (k : Int).tmod 10) = (c.toNat : Int) := by rw [Int.tmod_eq_emod_of_nonneg (by omega)]; exact hcv
      have hc255 : (c.toNat : Int) % 256 = (c.toNat : Int) := by have := c.toNat_lt; omega
      have hdq : (k : Int).tdiv 10 = ((k / 10 : Nat) : Int) := by rw [Int.tdiv_eq_ediv_of_nonneg (by omega)]; omega
      have HM2 : Hid (mtD (f - 1) (k / 10) (c :: acc) = mtD k0 k0 []) := by show _ = _; rw [← unhide HM, mtD_step f k acc hp hf, hc]
      have HC := hide hc
      have hcw : (convert 54 9 (.slice (some ⟨wr.heap.size, 0, none⟩) 1 1)).run Tryd.prog (wr.alloc (.cells #[.int .u8 (c.toNat : Int)] 5)) = .ok (.string ⟨#[c]⟩) (wr.alloc (.cells #[.int .u8 (c.toNat : Int)] 5)) := by
        have := conv_own (P := Tryd.prog) (l := [c]) (base := wr.heap.size) Tryd.underlying54 Tryd.underlying5 Tryd.underlying9 (World.ownsRow_lit wr #[.int .u8 (c.toNat : Int)] 1 (Nat.le_refl _) (by decide) rfl)
        exact this
      have hap : (⟨#[c]⟩ : ByteArray) ++ ⟨acc.toArray⟩ = ⟨(c :: acc).toArray⟩ := str_app [c] acc
      have hal : acc.length ≤ 4000000 := by have := unhide HA; omega
      clear hc
      go_wp2_with fail
      go_roundw
      case rel => exact ⟨k / 10, f - 1, c :: acc, by go_num, by omega, by omega, rfl, by show (c :: acc).length + k / 10 ≤ 4000000; have := unhide HA; rw [List.length_cons]; omega, HM2, hb.alloc hb.size _⟩
      case measure => simp [intOf]; omega
    · have hp' : ¬ 0 < (k : Int) := by omega
      have ek : k = 0 := by omega
      have HV : Hid ((⟨#[109]⟩ : ByteArray) ++ ⟨acc.toArray⟩ = mtS k0) := by
        show _ = _
        have := unhide HM
        rw [ek, mtD_zero] at this
        rw [this]; exact str_app [109] (mtD k0 k0 [])
      have hal : acc.length ≤ 4000000 := by have := unhide HA; omega
      clear ek
      go_wp2_with fail
      go_ret
      exact ⟨ret_string (unhide HV), hb⟩
end Go.Proofs.YtialpepklejejaaDoor

/- impl.splitFrames and impl.ReadFrames: what the program answers at every row of bytes. -/
import Derived.Test.YtialpepklejejaaDoorZFrmI
import Derived.Test.YtialpepklejejaaDoorZG7
namespace Go.Proofs.YtialpepklejejaaDoor
open Go.RowKit Go.Extern.Stop Go.Stop Go.Extern Go.ChangeShapes Go.WideShapes Go.ChangeAt
set_option linter.unusedVariables false
theorem itfNo (b off cap len : Nat) (l : List UInt8) (el : l.length = len) (hc : len ≤ cap) (hl : len ≤ 65536) (h : ¬ frC l = 0) (w : World) (hE : ErrsR w) (hr : Row8 w (some ⟨b, off, none⟩) l) :
    Calls Tryd.prog 39 #[.slice (some ⟨b, off, none⟩) len cap] w fun e w' => (∃ u z, e = .returned (.tuple #[.slice none 0 0, .slice none 0 0, .iface 81 (.agg #[.int .i64 (frC l), .iface u z])])) ∧ Below w.heap.size w w' := by
  unfold frC frN at h ⊢
  rw [el] at h ⊢
  by_cases h7 : len < 7
  · rw [if_pos h7]; exact itfA _ cap len h7 w hE
  · rw [if_neg h7] at h ⊢
    by_cases h1 : ofBE (l.take 3) < 1 ∨ 65536 < ofBE (l.take 3)
    · rw [if_pos h1]; exact itfB b off cap len _ l el hc (by omega) rfl h1 w hE hr
    · rw [if_neg h1] at h ⊢
      by_cases h2 : len - 7 < ofBE (l.take 3)
      · rw [if_pos h2]; exact itfD b off cap len _ l el hc (by omega) rfl (by omega) (by omega) h2 w hE hr
      · rw [if_neg h2] at h ⊢
        by_cases h3 : chk (l.take 3 ++ (l.drop 7).take (ofBE (l.take 3))) = ((ofBE ((l.drop 3).take 4) : Nat) : Int)
        · rw [if_pos h3] at h; exact absurd rfl h
        · rw [if_neg h3]; exact itfE b off cap len _ l el hc (by omega) rfl (by omega) (by omega) hl h2 h3 w hE hr
theorem itfOk (b off cap len : Nat) (l : List UInt8) (el : l.length = len) (hc : len ≤ cap) (hl : len ≤ 65536) (h : frC l = 0) (w : World) (hE : ErrsR w) (hr : Row8 w (some ⟨b, off, none⟩) l) :
    Calls Tryd.prog 39 #[.slice (some ⟨b, off, none⟩) len cap] w fun e w' => (∃ o1 o2 c1 c2, e = .returned (.tuple #[.slice (some ⟨b, o1, none⟩) (frN l) c1, .slice (some ⟨b, o2, none⟩) (len - 7 - frN l) c2, .nilIface]) ∧ len - 7 - frN l ≤ c2 ∧ Row8 w' (some ⟨b, o1, none⟩) (frD l) ∧ Row8 w' (some ⟨b, o2, none⟩) (frT l)) ∧ Below w.heap.size w w' := by
  obtain ⟨h1, h2, h3, h4, h5⟩ := frC_ok h
  rw [el] at h1 h4
  exact itfF b off cap len (frN l) l el hc h1 rfl (by omega) (by omega) hl (by omega) h5 w hE hr
def sliceLen : Value → Nat
  | .slice _ n _ => n
  | _ => 0
theorem nil_ownT (w : World) (base : Nat) (t : TypeId) : w.ownsRow base t 1 (.slice none 0 0) ([] : List ByteArray).length (cS []) := World.ownsRow_nil w base t 1
theorem own_appT {w : World} {base : Nat} {e : TypeId} {v : Value} {l m : List ByteArray} {n : Nat} (h : w.ownsRow base e 1 v (l.length + n) (cS l ++ cS m)) (hn : m.length = n) : w.ownsRow base e 1 v (l ++ m).length (cS (l ++ m)) := by
  rw [cS_app, List.length_append, hn]; exact h
theorem row8_lowT {w w' : World} {B b o : Nat} {l : List UInt8} (h : Row8 w (some ⟨b, o, none⟩) l) (hB : b < B) (hb : Below B w w') : Row8 w' (some ⟨b, o, none⟩) l := by
  rcases h with h | ⟨b', off, e, hlt, hc⟩
  · exact .inl h
  · simp only [Option.some.injEq, Addr.mk.injEq, and_true] at e
    obtain ⟨rfl, rfl⟩ := e
    exact .inr ⟨b, o, rfl, Nat.lt_of_lt_of_le hlt hb.size, fun i hi => (hb.cell (p := ⟨b, o + i, none⟩) hB).trans (hc i hi)⟩
/-- What splitFrames answers. -/
def SplR (r : List ByteArray × Nat × Int) (w : World) (e : Ending) (w' : World) : Prop :=
  ∃ v, w'.ownsRow w.heap.size 9 1 v r.1.length (cS r.1) ∧ Below w.heap.size w w' ∧
    ((r.2.2 = 0 ∧ e = .returned (.tuple #[v, .nilIface])) ∨ (¬ r.2.2 = 0 ∧ ∃ u z, e = .returned (.tuple #[v, .iface 74 (.agg #[.int .i64 (r.2.1 : Int), .iface 81 (.agg #[.int .i64 r.2.2, .iface u z])])])))
set_option maxHeartbeats 2000000 in
set_option maxRecDepth 100000 in
theorem isplitfr (b off cap len : Nat) (l : List UInt8) (el : l.length = len) (hc : len ≤ cap) (hl : len ≤ 65536) (w : World) (hblt : b < w.heap.size) (hE : ErrsR w) (hr : Row8 w (some ⟨b, off, none⟩) l) :
    Calls Tryd.prog 27 #[.slice (some ⟨b, off, none⟩) len cap] w fun e w' => SplR (frs len l) w e w' := by
  obtain ⟨i0, hi, hz0, hz1, hz2⟩ := info_parts Tryd.infL9
  have HR0 := hide hr
  have HE := hide hE
  have HL0 := hide el
  have h63 : (len : Int) ≤ 65536 := by omega
  obtain ⟨R, hR⟩ : ∃ R, R = frs len l := ⟨_, rfl⟩
  rw [← hR]
  have HRR := hide hR
  clear hr hE el hR
  go_enter Tryd.func27, Tryd.ntmps27
  go_wp2_with fail
  go_loopw [4, 5] (fun v r wr => ∃ (o q cq f : Nat) (m : List ByteArray) (rr : List UInt8), r = .slice (some ⟨b, o, none⟩) q cq ∧ q ≤ cq ∧ q ≤ len ∧ q ≤ f ∧ m.length + q ≤ len ∧ Hid (rr.length = q) ∧ Hid ((m ++ (frs f rr).1, len - q + (frs f rr).2.1, (frs f rr).2.2) = R) ∧ Hid (Row8 wr (some ⟨b, o, none⟩) rr) ∧ Hid (wr.ownsRow w.heap.size 9 1 v m.length (cS m)) ∧ Hid (Below w.heap.size w wr)) (fun _ r _ => sliceLen r)
  case atStart => exact ⟨off, len, cap, len, [], l, rfl, hc, Nat.le_refl _, Nat.le_refl _, by simp, HL0, by show _ = _; rw [unhide HRR, Nat.sub_self, Nat.zero_add, List.nil_append], HR0, nil_ownT _ _ _, Below.refl _ _⟩
  case round =>
    clear HR0 HL0 HRR
    obtain ⟨o, q, cq, f, m, rr, rfl, hcq, hql, hqf, hmq, HL, HI, HR, HO, HB⟩ := hrel
    by_cases h0 : q = 0
    · subst h0
      have hrr : rr = [] := List.eq_nil_of_length_eq_zero (unhide HL)
      have hi2 := unhide HI
      rw [hrr, frs_nil] at hi2
      simp only [List.append_nil, Nat.sub_zero, Nat.add_zero] at hi2
      have HI2 := hide hi2
      clear hi2 hrr HI HL HR
      go_wp2_with fail
      go_ret2
      exact ⟨_, by rw [← unhide HI2]; exact unhide HO, unhide HB, .inl ⟨by rw [← unhide HI2], rfl⟩⟩
    · obtain ⟨f', rfl⟩ : ∃ f', f = f' + 1 := ⟨f - 1, by omega⟩
      have hne : rr ≠ [] := fun h => by have := unhide HL; rw [h] at this; simp at this; omega
      have h0' : (0 : Int) < (q : Int) := by omega
      have HEr := hide ((unhide HE).below (unhide HB))
      by_cases hf : frC rr = 0
      · have hi2 := unhide HI
        rw [frs_step f' hne hf] at hi2
        have T2 := itfOk b o cq q rr (unhide HL) hcq (by omega) hf wr (unhide HEr) (unhide HR)
        have htl := frT_len hf
        have hdl := frD_len hf
        obtain ⟨f7, f1, f65, f4, _⟩ := frC_ok hf
        rw [unhide HL] at htl f4
        obtain ⟨x, ex⟩ : ∃ x, x = frD rr := ⟨_, rfl⟩
        obtain ⟨r2, er⟩ : ∃ r2, r2 = frT rr := ⟨_, rfl⟩
        obtain ⟨y, ey⟩ : ∃ y, y = frN rr := ⟨_, rfl⟩
        rw [← ex, ← er, ← ey] at T2 hi2
        rw [← er, ← ey] at htl
        rw [← ex, ← ey] at hdl
        rw [← ey] at f1 f65 f4
        obtain ⟨q2, eq2⟩ : ∃ q2, q2 = q - 7 - y := ⟨_, rfl⟩
        rw [← eq2] at T2
        have HL2 : Hid (r2.length = q2) := by show _ = _; omega
        have HI2 : Hid (((m ++ [⟨x.toArray⟩]) ++ (frs f' r2).1, len - q2 + (frs f' r2).2.1, (frs f' r2).2.2) = R) := by
          show _ = _
          rw [← hi2, List.append_assoc, List.singleton_append, show len - q2 + (frs f' r2).2.1 = len - q + (7 + y + (frs f' r2).2.1) from by omega]
        have HXL := hide hdl
        have g1 : q2 ≤ len := by omega
        have g2 : q2 ≤ f' := by omega
        have g3 : m.length + 1 + q2 ≤ len := by omega
        have g4 : q2 < q := by omega
        clear hi2 hf htl hdl ex er ey eq2 HI HL HEr hne f7 f1 f65 f4
        go_wp2_with (first | (at_builtin; (refine wpList_append_lies _ rfl (.tmp 30) (.tmp 33) 38 rfl w.heap.size 9 i0 (.string ⟨#[]⟩) 1 16 Tryd.underlying38 hi hz0 hz1 hz2 rfl (by decide) _ _ _ rfl ((unhide HO3).alloc _) ⟨w3.heap.size, 0, none⟩ 1 1 (cS [⟨x.toArray⟩]) rfl rfl (by exact news_new w3 (cS [⟨x.toArray⟩]) 9) (cS_one _) (by decide) (by unfold maxLen; omega) (by omega) (by simp; omega) _ rfl ?_; intro g5 d2 w2 hown2 hgrow2 hat2 hlt2; have HB2 := hide (below_app (unhide HB3) (unhide HB3).size (unhide HO3) (Nat.le_refl _) hgrow2); have HR4 : Hid (Row8 w2 (some ⟨b, o4, none⟩) r2) := row8_lowT (unhide HR3) hblt (below_app (Below.refl _ _) (unhide HB3).size (unhide HO3) (Nat.le_refl _) hgrow2); have HO2 := hide (own_appT (l := m) (m := [⟨x.toArray⟩]) hown2 rfl); clear hown2 hgrow2 hat2 hlt2)) | (go_at_call 39; refine T2.mono ?_; clear T2; rintro e w3 ⟨⟨o3, o4, c1, c2, rfl, hc2, hx, hr3⟩, hb3⟩; have HB3 := hide ((unhide HB).trans (hb3.mono (unhide HB).size)); have hcv := conv_row8 (P := Tryd.prog) (src := 54) (dst := 9) (e := 5) (cap := c1) Tryd.underlying54 Tryd.underlying5 Tryd.underlying9 hx; rw [unhide HXL] at hcv; have HR3 := hide hr3; have HO3 := hide ((held_of (unhide HO)).below hb3 (Nat.le_refl _)).own; have hz := (unhide HB3).size; clear hx hr3 hb3))
        go_roundw
        case rel => exact ⟨o4, q2, c2, f', m ++ [⟨x.toArray⟩], r2, rfl, hc2, g1, g2, by rw [List.length_append]; exact g3, HL2, HI2, HR4, HO2, HB2⟩
        case measure => simp [sliceLen]; omega
      · have hi2 := unhide HI
        rw [frs_bad f' hne hf] at hi2
        simp only [List.append_nil, Nat.add_zero] at hi2
        have T2 := itfNo b o cq q rr (unhide HL) hcq (by omega) hf wr (unhide HEr) (unhide HR)
        obtain ⟨c, ec⟩ : ∃ c, c = frC rr := ⟨_, rfl⟩
        rw [← ec] at T2 hi2 hf
        have HI2 := hide hi2
        have HF := hide hf
        have hsub : (len : Int) - (q : Int) = ((len - q : Nat) : Int) := by omega
        clear hi2 hf ec HI HL HR HEr hne
        go_wp2_with (go_at_call 39; refine T2.mono ?_; clear T2; rintro e w3 ⟨⟨u, z, rfl⟩, hb3⟩; have HB3 := hide ((unhide HB).trans (hb3.mono (unhide HB).size)); have HO3 := hide ((held_of (unhide HO)).below hb3 (Nat.le_refl _)).own; clear hb3)
        go_ret2
        exact ⟨_, by rw [← unhide HI2]; exact unhide HO3, unhide HB3, .inr ⟨by rw [← unhide HI2]; exact unhide HF, u, z, by rw [← unhide HI2]; rfl⟩⟩
theorem rd_parts {l : List UInt8} {len : Nat} (el : l.length = len) (h : ¬ 65536 < len) : rdL l = (frs len l).1 ∧ rdP l = ((frs len l).2.1 : Int) ∧ rdC l = (frs len l).2.2 := by
  unfold rdL rdP rdC
  rw [el, if_neg h, if_neg h, if_neg h]; exact ⟨rfl, rfl, rfl⟩
end Go.Proofs.YtialpepklejejaaDoor

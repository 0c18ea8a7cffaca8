import Derived.Test.YthaklmdhkkfigaaGreatTa
import Derived.Test.YthaklmdhkkfigaaGreatKz8
namespace Go.Proofs.YthaklmdhkkfigaaGreat
open Go.RowKit Go.Sort
set_option linter.unusedVariables false
attribute [local go_sem ↓] Go.wp_at_zero Go.wp_at_succ

theorem alC_set : ∀ (es : List ((Int × Int) × Int × Int)) (t : Nat) (z : Int), t < es.length → alC (es.set t ((es.getD t al0).1, z, (es.getD t al0).2.2)) = (alC es).set (t * 4 + 2) (.int .i64 z)
  | [], _, _, h => by simp at h
  | e :: r, 0, z, _ => by simp [alC]
  | e :: r, t + 1, z, h => by
    rw [show (t + 1) * 4 + 2 = t * 4 + 2 + 4 by omega]
    have := alC_set r t z (by simpa using h)
    simpa [alC] using this
theorem alL_at {ts : List (Int × Int)} {k : KerD} {n t : Nat} (h : t < n) : (alL ts k n).getD t al0 = alF ts k t := by
  simp [alL, List.getD_eq_getElem?_getD, h]
theorem alL_set {ts : List (Int × Int)} {k : KerD} {n t : Nat} {z : Int} (h : t < n) (hk : k.left.length = n) : alL ts { k with left := k.left.set t z } n = (alL ts k n).set t (((alL ts k n).getD t al0).1, z, ((alL ts k n).getD t al0).2.2) := by
  rw [alL_at h]
  apply List.ext_getElem
  · simp [alL]
  · intro i h1 h2
    simp only [alL, List.length_map, List.length_range] at h1
    rw [List.getElem_set]
    by_cases e : t = i
    · subst e
      rw [if_pos rfl]
      have : t < k.left.length := by omega
      simp [alL, alF, List.getD_eq_getElem?_getD, this]
    · rw [if_neg e]
      simp [alL, alF, e]
theorem alL_same {ts : List (Int × Int)} {k k' : KerD} {n : Nat} (h1 : k'.left = k.left) (h2 : k'.every = k.every) : alL ts k' n = alL ts k n := by
  unfold alL alF
  rw [h1, h2]
section
variable {w0 w w' : World} {H : Nat} {sg : Int} {A R M X s6 g9 g10 rv : Value} {wt tk : Int} {rs : List (Int × Int × Int)} {cl : List Ac} {os : List ObD} {k : KerD} {ts : List (Int × Int)}
/-- What is left of a timer is set. -/
theorem EngS.setA {gX n c t m : Nat} (h : EngS w0 w H sg A R M (.slice (some ⟨gX, 0, none⟩) n c) s6 g9 g10 rv wt tk rs cl os k (alL ts k m)) (ht : t < m) (hk : k.left.length = m) (z : Int) : EngS w0 (w.setCell ⟨gX, t * 4 + 2, none⟩ (.int .i64 z)) H sg A R M (.slice (some ⟨gX, 0, none⟩) n c) s6 g9 g10 rv wt tk rs cl os { k with left := k.left.set t z } (alL ts { k with left := k.left.set t z } m) := by
  have hg : ∃ cs, w.heap[gX]? = some (.cells cs 159 (0, 0)) := by
    rcases h.alr.2 with ⟨h0, _⟩ | ⟨g', cap', cur, h1, _, h3, _⟩
    · cases h0
    · simp only [Value.slice.injEq, Option.some.injEq, Addr.mk.injEq] at h1
      obtain ⟨⟨rfl, _⟩, _⟩ := h1
      exact ⟨_, h3⟩
  obtain ⟨cs, hcs⟩ := hg
  have hgB : w0.heap.size ≤ gX := (h.alr.lt gX rfl).1
  have tn : Tn (· = gX) w (w.setCell ⟨gX, t * 4 + 2, none⟩ (.int .i64 z)) := Tn.one _
  have far : ∀ b, b ≠ gX → (w.setCell ⟨gX, t * 4 + 2, none⟩ (.int .i64 z)).heap[b]? = w.heap[b]? := fun b hb => Below.heap_setCell _ _ _ _ hb
  have hK : ∀ (e : TypeId), e ≠ 159 → ∀ b cs, b = gX → w.heap[b]? ≠ some (.cells cs e (0, 0)) := by
    rintro e h1 b c2 rfl he
    rw [hcs] at he
    simp at he
    exact h1 he.2.symm
  have ac := h.acts.tag (t := 159) hcs (by decide) (by decide) (by decide) tn (fun b hb => .inl hb)
  have hn := row_len h.alr
  rw [alL_len] at hn
  subst hn
  have al := h.alr
  unfold AlRow at al
  rw [alL_len] at al
  have st := (World.ownsRow.stored al (t * 4 + 2) (.int .i64 z)).1
  refine ⟨⟨(far _ (fun x => tag_ne2 h.eng.o hcs (by decide) x)).trans h.eng.o, h.eng.hH, row_tn h.eng.r tn (hK _ (by decide))⟩, row_tn h.row tn (hK _ (by decide)), ⟨ac.at_, ac.up⟩, ?_, h.bel.trans ((Below.refl _ _).setCell hgB _ |>.mono (Nat.le_refl _))⟩
  unfold AlRow
  rw [alL_len, alL_set ht hk, alC_set _ _ _ (by rw [alL_len]; exact ht)]
  exact st
theorem EngS.alAt {gX n c t m : Nat} (h : EngS w0 w H sg A R M (.slice (some ⟨gX, 0, none⟩) n c) s6 g9 g10 rv wt tk rs cl os k (alL ts k m)) (ht : t < m) : ((w.cell? ⟨gX, t * 4, none⟩ = some (.int .i64 (ts.getD t (0, 0)).1) ∧ w.cell? ⟨gX, t * 4 + 1, none⟩ = some (.int .i64 (ts.getD t (0, 0)).2)) ∧ w.cell? ⟨gX, t * 4 + 2, none⟩ = some (.int .i64 (k.left.getD t 0)) ∧ w.cell? ⟨gX, t * 4 + 3, none⟩ = some (.int .i64 (k.every.getD t 0))) ∧ w.frozen? ⟨gX, t * 4 + 2, none⟩ = false ∧ gX < w.heap.size := by
  obtain ⟨⟨x0, x1⟩, x2, x3⟩ := alC_get (alL ts k m) t (by rw [alL_len]; exact ht)
  rw [alL_at ht] at x0 x1 x2 x3
  have al := h.alr
  unfold AlRow at al
  have hn := row_len al
  subst hn
  have hl := alL_len ts k m
  have c0 := (World.ownsRow.cellAt al (t * 4) (by omega)).trans x0
  refine ⟨⟨⟨c0, (World.ownsRow.cellAt al (t * 4 + 1) (by omega)).trans x1⟩, (World.ownsRow.cellAt al (t * 4 + 2) (by omega)).trans x2, (World.ownsRow.cellAt al (t * 4 + 3) (by omega)).trans x3⟩, World.ownsRow.frozenAt al _, World.block_lt_of_cell? w _ c0⟩
end
set_option maxRecDepth 100000 in
set_option maxHeartbeats 3200000 in
theorem tick_any (w0 w : World) (H : Nat) (sg : Int) (A R M X s6 g9 g10 rv : Value) (wt tk : Int) (cl : List Ac) (os : List ObD) (ts : List (Int × Int)) (kd : KerD) (h : EngS w0 w H sg A R M X s6 g9 g10 rv wt tk [] cl os kd (alL ts kd ts.length)) (hcl : cl.length = os.length) (hy : kerB sg os ts kd = true) :
    Calls Tryz.prog 59 #[.pointer (some ⟨H, 0, none⟩)] w fun e w' => e = .returned (.tuple #[]) ∧ ∃ rv' wt', EngS w0 w' H sg A R M X s6 g9 g10 rv' wt' tk (tkK os ts kd ts.length).2 cl os (tkK os ts kd ts.length).1 (alL ts (tkK os ts kd ts.length).1 ts.length) := by
  obtain ⟨xa, xn, xc, rfl⟩ := row_form h.alr
  have XL : Hid (xn = ts.length) := hid (by have := row_len h.alr; rw [alL_len] at this; exact this)
  rw [← XL.out] at h ⊢
  obtain ⟨hp1, ⟨⟨_, _⟩, ⟨on1, on2⟩, tn2⟩, hp3⟩ := ker_parts hy
  have hlen : (cl.map Ac.a).length = cl.length := List.length_map ..
  obtain ⟨gA, cA, rfl, _, gAl⟩ := World.ownsRow.form h.row (by rw [hlen, hcl]; omega)
  obtain ⟨n, hn⟩ : ∃ n, n = cl.length := ⟨_, rfl⟩
  rw [hlen, ← hn] at h
  rw [hlen, ← hn]
  have HN := hid hn
  have HCL := hid hcl
  have HY := hid hy
  have LN := hid hp1
  have CA := hid (fun i (hi : i < os.length) => ob_caps hy hi)
  have TI := hid (fun t => tki (ts := ts) (ker_qok hy) t)
  have tn3 : xn ≤ 200 := by rw [XL.out]; exact tn2
  have hn64 : n ≤ 64 := by omega
  have HS := hid h
  obtain ⟨⟨_, _, _, _, c4⟩, _, _⟩ := eng_cells h.eng.o
  have hHl := lt_of_block h.eng.o
  clear h hn hcl hy hp1 hp3 tn2 on1 on2 hlen gAl
  go_enter Tryz.func59, Tryz.ntmps59
  go_wp2_with fail
  clear c4 hHl
  go_loopg [2, 3, 9] xn (fun mm s2 s3 ix Y => ∃ (t : Nat) (rv' : Value) (wt' : Int), t ≤ xn ∧ mm = xn - t ∧ ix = .int .i64 t ∧ Hid (EngS w0 Y H sg (.slice (some ⟨gA, 0, none⟩) n cA) R M (.slice xa xn xc) s6 g9 g10 rv' wt' tk (tkK os ts kd t).2 cl os (tkK os ts kd t).1 (alL ts (tkK os ts kd t).1 xn)))
  case atStart => exact ⟨0, _, _, Nat.zero_le _, by omega, rfl, HS⟩
  case round =>
    clear HS
    obtain ⟨t, rv', wt', ht, rfl, rfl, HW⟩ := hrel
    by_cases hlt : t < xn
    · have hlt' : (t : Int) < (xn : Int) := by omega
      have TT := hid (TI.out t)
      have TN := hid (tkK_succ os ts kd t)
      obtain ⟨kS, hkS⟩ : ∃ x, x = (tkK os ts kd t).1 := ⟨_, rfl⟩
      obtain ⟨rS, hrS⟩ : ∃ x, x = (tkK os ts kd t).2 := ⟨_, rfl⟩
      have ES : Hid (tkK os ts kd t = (kS, rS)) := hid (by rw [hkS, hrS])
      rw [← hkS, ← hrS] at HW
      rw [ES.out] at TT TN
      clear hkS hrS
      have LLn : Hid (kS.left.length = xn) := hid (by have h1 := TT.out.e; rw [XL.out]; exact h1.trans LN.out.2.1)
      have QLn : Hid (kS.qs.length = n) := hid (by rw [HN.out, HCL.out]; exact TT.out.q.trans LN.out.1.2.2.1)
      have tm := sys_tm HY.out (show t < ts.length by rw [← XL.out]; exact hlt)
      obtain ⟨oi, hoi⟩ : ∃ x : Nat, x = (ts.getD t (0, 0)).1.toNat := ⟨_, rfl⟩
      obtain ⟨z2, hz2⟩ : ∃ x, x = (ts.getD t (0, 0)).2 := ⟨_, rfl⟩
      have ZO := hid hoi
      have Z2 := hid hz2
      have E1 : Hid ((ts.getD t (0, 0)).1 = (oi : Int)) := hid (by rw [hoi]; omega)
      have oil : oi < os.length := by rw [hoi]; exact tm.2
      have oic : oi < cl.length := by rw [HCL.out]; exact oil
      have oin : oi < n := by rw [HN.out]; exact oic
      have oin' : (oi : Int) < (n : Int) := by omega
      obtain ⟨gX, hgX⟩ : ∃ gX, xa = some ⟨gX, 0, none⟩ := by
        obtain ⟨g, cap, e, _⟩ := World.ownsRow.form HW.out.alr (by rw [alL_len]; omega)
        simp only [Value.slice.injEq] at e
        exact ⟨g, e.1⟩
      subst hgX
      obtain ⟨l, hl⟩ : ∃ x, x = kS.left.getD t 0 := ⟨_, rfl⟩
      obtain ⟨ev, hev⟩ : ∃ x, x = kS.every.getD t 0 := ⟨_, rfl⟩
      have ZL := hid hl
      have ZV := hid hev
      clear hl hev hoi hz2 tm
      obtain ⟨⟨⟨x0, x1⟩, x2, x3⟩, fx, gl⟩ := HW.out.alAt hlt
      rw [E1.out] at x0
      rw [← Z2.out] at x1
      rw [← ZL.out] at x2
      rw [← ZV.out] at x3
      obtain ⟨⟨_, c1, _, _, c4⟩, _, _⟩ := eng_cells HW.out.eng.o
      have hHl := lt_of_block HW.out.eng.o
      have n0 : Hid (¬ l = 0 → ¬ (kS, rS).1.left.getD t 0 = 0) := hid (fun h0 x => h0 (ZL.out.trans x))
      by_cases h0 : l = 0
      · have e9 : Hid (tkK os ts kd (t + 1) = (kS, rS)) := hid (by rw [TN.out]; unfold tkS; rw [if_pos (show (kS, rS).1.left.getD t 0 = 0 from ZL.out.symm.trans h0)])
        subst h0
        go_wp2_with fail
        go_roundg (xn - (t + 1))
        case measure => omega
        case rel => exact ⟨t + 1, rv', wt', hlt, rfl, by go_num, hid (by rw [e9.out]; exact HW.out)⟩
      · obtain ⟨lm, hlm⟩ : ∃ x, x = wrap64 (l - 1) := ⟨_, rfl⟩
        have h0b : (l == 0) = false := by simp [h0]
        have HLM := hid hlm
        have SE := hid (HW.out.setA hlt LLn.out lm)
        by_cases h1 : lm = 0
        · have e9 : Hid (tkK os ts kd (t + 1) = ({ (putK os kS rS oi (z2, (t : Int))).1 with left := kS.left.set t ev }, (putK os kS rS oi (z2, (t : Int))).2)) := hid (by
            rw [TN.out]
            unfold tkS
            rw [if_neg (n0.out h0), if_pos (show wrap64 ((kS, rS).1.left.getD t 0 - 1) = 0 from ((congrArg (fun x => wrap64 (x - 1)) ZL.out.symm).trans (HLM.out.symm.trans h1))), ← ZO.out, ← Z2.out, ← ZV.out])
          have hw0 : wrap64 (l - 1) = 0 := hlm.symm.trans h1
          subst h1
          clear hlm
          go_upto_region 7 with fail
          obtain ⟨W5, hW5⟩ : ∃ W, W = wr.setCell ⟨gX, t * 4 + 2, none⟩ (.int .i64 0) := ⟨_, rfl⟩
          rw [← hW5] at SE ⊢
          clear hW5 x0 x1 x2 x3 fx gl c1 c4 hHl hw0 h0b
          obtain ⟨⟨⟨x0, x1⟩, x2, x3⟩, fx, gl⟩ := SE.out.alAt hlt
          rw [E1.out] at x0
          rw [← Z2.out] at x1
          obtain ⟨⟨_, c1, _, _, c4⟩, _, _⟩ := eng_cells SE.out.eng.o
          have hHl := lt_of_block SE.out.eng.o
          obtain ⟨ca, gal⟩ := act_at SE.out.row oic
          obtain ⟨a, ha⟩ : ∃ a, a = (cl.getD oi ac0).a := ⟨_, rfl⟩
          rw [← ha] at ca
          have CP := hid (putLast_any w0 W5.drew H sg _ R M _ s6 g9 g10 rv' wt' tk rS cl os _ _ oi (z2, (t : Int)) (SE.out.below (Below.refl _ _).drew) oic (by show oi < kS.qs.length; rw [QLn.out]; exact oin) (by have h1 : rS.length ≤ t := TT.out.r; omega) (TT.out.qo oi oil) (by have := (CA.out oi oil).1; omega))
          rw [← ha] at CP
          clear ha x2 x3 fx
          go_region_with
            (first | (go_at_call 78; with_reducible refine CP.out.mono ?_; rintro e w5 ⟨rfl, rv5, wt5, hE⟩; have FE := hid hE; clear hE))
          all_goals
            clear x0 x1 c1 c4 hHl ca gal gl
            have F5 : Hid (EngS w0 w5 H sg (.slice (some ⟨gA, 0, none⟩) n cA) R M (.slice (some ⟨gX, 0, none⟩) xn xc) s6 g9 g10 rv5 wt5 tk (putK os { kS with left := kS.left.set t 0 } rS oi (z2, (t : Int))).2 cl os (putK os { kS with left := kS.left.set t 0 } rS oi (z2, (t : Int))).1 (alL ts (putK os { kS with left := kS.left.set t 0 } rS oi (z2, (t : Int))).1 xn)) := hid (by have h := FE.out; rw [← alL_same (ts := ts) (n := xn) (putK_i os { kS with left := kS.left.set t 0 } rS oi (z2, (t : Int))).e (putK_i os { kS with left := kS.left.set t 0 } rS oi (z2, (t : Int))).f] at h; exact h)
            have P6 := hid (putK_i os { kS with left := kS.left.set t 0 } rS oi (z2, (t : Int)))
            have SF := hid (F5.out.setA hlt (by rw [P6.out.e]; show (kS.left.set t 0).length = xn; rw [List.length_set]; exact LLn.out) ev)
            obtain ⟨⟨⟨_, _⟩, x2, x3⟩, fx, gl⟩ := F5.out.alAt hlt
            rw [P6.out.f, show ({ kS with left := kS.left.set t 0 } : KerD).every.getD t 0 = ev from ZV.out.symm] at x3
            rw [P6.out.e] at x2
            clear FE
            go_wp2_with fail
            go_roundg (xn - (t + 1))
            case measure => omega
            case rel =>
              refine ⟨t + 1, rv5, wt5, hlt, rfl, by go_num, hid ?_⟩
              have h := SF.out
              rw [putK_left] at h
              rw [e9.out]
              rw [show ((({ (putK os kS rS oi (z2, (t : Int))).1 with left := kS.left.set t 0 }, (putK os kS rS oi (z2, (t : Int))).2) : KerD × List (Int × Int × Int)).1.left.set t ev) = kS.left.set t ev from List.set_set _] at h
              exact h
        · have e9 : Hid (tkK os ts kd (t + 1) = ({ kS with left := kS.left.set t lm }, rS)) := hid (by
            rw [TN.out]
            unfold tkS
            rw [if_neg (n0.out h0), if_neg (show ¬ wrap64 ((kS, rS).1.left.getD t 0 - 1) = 0 by intro x; exact h1 (by rw [HLM.out, ZL.out]; exact x)), HLM.out, ZL.out])
          have h1b : (wrap64 (l - 1) == 0) = false := by rw [← hlm]; simp [h1]
          clear hlm
          go_wp2_with fail
          go_roundg (xn - (t + 1))
          case measure => omega
          case rel => exact ⟨t + 1, rv', wt', hlt, rfl, by go_num, hid (by rw [e9.out, ← HLM.out]; exact SE.out)⟩
    · have hnl : ¬ ((t : Int) < (xn : Int)) := by omega
      have ETX : Hid (t = xn) := hid (by omega)
      go_wp2_with fail
      go_end0
      exact ⟨rfl, rv', wt', by rw [← ETX.out]; have := HW.out; rw [← ETX.out] at this; exact this⟩
end Go.Proofs.YthaklmdhkkfigaaGreat

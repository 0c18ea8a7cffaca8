import Derived.Test.YtiimkhepplkocaaGreatZ13
namespace Go.Proofs.YtiimkhepplkocaaGreat
open Go.RowKit Go.Sort
set_option linter.unusedVariables false
attribute [local go_sem ↓] Go.wp_at_zero Go.wp_at_succ

set_option maxRecDepth 100000 in
set_option maxHeartbeats 8000000 in
theorem l3Script_any (so tq : Option Addr) (n sc tn tc : Nat) (ss : List StD) (ts : List TrD) (l : LimD) (hC : Chk ss ts l) (xo ao eo : Option Addr) (xc an ac ec : Nat) (ex en : List Nat) (acts : List StmD) (w : World) (hx2 : ex.length ≤ 400) (hn2 : en.length ≤ 400) (hex : ∀ x, x ∈ ex → x < n) (hen : ∀ x, x ∈ en → x < n) (ha2 : an ≤ 50) (hs : StatesOf w so n ss) (hxo : NatsOf w xo ex) (heo : NatsOf w eo en) (hac : StmsOf w ao an acts) :
    Calls Tryz.prog 114 #[.agg #[.slice so n sc, .slice tq tn tc], .slice xo ex.length xc, .slice ao an ac, .slice eo en.length ec] w fun e w' => ∃ g cap, e = .returned (.slice (some ⟨g, 0, none⟩) (scriptS ss ex acts en).length cap) ∧ (scriptS ss ex acts en).length ≤ cap ∧ StmsOf w' (some ⟨g, 0, none⟩) (scriptS ss ex acts en).length (scriptS ss ex acts en) ∧ Below w.heap.size w w' := by
  obtain ⟨i0, hi0, hz0, hz1, hz2⟩ := info_parts infoStm
  have HL := hid hs.1
  have n1 : 1 ≤ n := by rw [← HL.out]; exact hC.good.n1
  have n2 : n ≤ 200 := by rw [← HL.out]; exact hC.good.n2
  obtain ⟨sb, soff, rfl, hsl, hsc⟩ := hs.2 (by omega)
  have HSt : Hid (∀ i, i < n → StAt w sb (soff + i * 4) (ss.getD i st0)) := hid hsc
  have HXO := hid hxo
  have HEO := hid heo
  have HAC := hid hac
  have Hex := hid hex
  have Hen := hid hen
  have L50exit : Hid (∀ x, x < n → (ss.getD x st0).exit.length ≤ 50) := hid (fun x hx => by obtain ⟨vs, hv⟩ := hC.ext x (by rw [HL.out]; exact hx); exact lift_len hv)
  have L50entry : Hid (∀ x, x < n → (ss.getD x st0).entry.length ≤ 50) := hid (fun x hx => by obtain ⟨vs, hv⟩ := hC.ent x (by rw [HL.out]; exact hx); exact lift_len hv)
  have S0 : Hid (Sc w #[.slice (some ⟨sb, soff, none⟩) n sc, .slice tq tn tc] (.slice (some ⟨w.heap.size + 1, 0, none⟩) 0 0) [] ((w.alloc (.cells #[.slice (some ⟨sb, soff, none⟩) n sc, .slice tq tn tc] 36)).alloc (.cells #[] 210))) := hid (by
    have h2 := heap_alloc_new (w.alloc (.cells #[.slice (some ⟨sb, soff, none⟩) n sc, .slice tq tn tc] 36)) (.cells #[] 210)
    rw [World.size_alloc] at h2
    exact ⟨below2 _ _ _, block_below (heap_alloc_new w _) (below1 _ _), _, _, [], rfl, ⟨by simp, .inr ⟨w.heap.size + 1, 0, #[], rfl, by omega, h2, by simp, by simp⟩⟩, stc_nil w⟩)
  have LPRE : Hid (([] : List StmD).length ≤ 50000) := hid (by simp)
  clear hs hsc hxo heo hac hex hen
  go_enter Tryz.func114, Tryz.ntmps114
  go_wp2_with fail
  go_loopg [9, 17] ex.length (fun mm lv i X => ∃ c : Nat, c ≤ ex.length ∧ mm = ex.length - c ∧ i = .int .i64 c ∧ Sc w #[.slice (some ⟨sb, soff, none⟩) n sc, .slice tq tn tc] lv ([] ++ ((ex.take c).map (fun i => (ss.getD i st0).exit)).flatten) X)
  case atStart => exact ⟨0, by omega, by omega, rfl, by simpa using S0.out⟩
  case round =>
    obtain ⟨c, hc, rfl, rfl, hS⟩ := hrel
    have SS := hid hS
    obtain ⟨g, cap, cells, hlv, ho, hst⟩ := hS.o
    subst hlv
    have hcap := own_cap ho
    by_cases hlt : c < ex.length
    · obtain ⟨gx, hgx, hgl, hgc⟩ := HXO.out (by omega)
      obtain ⟨st, hst0⟩ : ∃ st, st = ex.getD c 0 := ⟨_, rfl⟩
      have hsn : st < n := Hex.out st (by rw [hst0, List.getD_eq_getElem?_getD, List.getElem?_eq_getElem hlt]; simp)
      have cx0 := (hS.bel.cell (p := ⟨gx, c, none⟩) hgl).trans (hgc c hlt)
      rw [← hst0] at cx0
      obtain ⟨p1, p2, ⟨co2, cn2, cc2, p3, hcn2, hcs2⟩, ⟨do2, dn2, dc2, p4, hdn2, hds2⟩⟩ := HSt.out st hsn
      have p3 := (hS.bel.cell (p := ⟨sb, soff + st * 4 + 2, none⟩) hsl).trans p3
      have p4 := (hS.bel.cell (p := ⟨sb, soff + st * 4 + 3, none⟩) hsl).trans p4
      obtain ⟨q0, q1, _, _⟩ := pair_cells hS.q
      have TK : Hid (([] ++ ((ex.take (c + 1)).map (fun i => (ss.getD i st0).exit)).flatten) = ([] ++ ((ex.take c).map (fun i => (ss.getD i st0).exit)).flatten) ++ (ss.getD st st0).exit) := hid (by
        have h1 : ex.take (c + 1) = ex.take c ++ [st] := by rw [hst0, List.take_add_one, List.getD_eq_getElem?_getD, List.getElem?_eq_getElem hlt]; rfl
        rw [h1, List.map_append, List.flatten_append, ← List.append_assoc]; simp)
      have L5 := L50exit.out st hsn
      have LX : Hid ((([] ++ ((ex.take c).map (fun i => (ss.getD i st0).exit)).flatten)).length ≤ 100000) := hid (by
        have h1 := flat_le (K := ex.take c) (g := fun i => (ss.getD i st0).exit) (fun x hx => L50exit.out x (Hex.out x (List.mem_of_mem_take hx)))
        have h2 : (ex.take c).length ≤ 400 := by simp; omega
        have h3 := LPRE.out
        rw [List.length_append]
        omega)
      have ci : (c : Int) < (ex.length : Int) := by omega
      have c5 : c ≤ 500 := by omega
      have si : (st : Int) < (n : Int) := by omega
      obtain ⟨cur, hcur⟩ : ∃ x, x = ([] ++ ((ex.take c).map (fun i => (ss.getD i st0).exit)).flatten) := ⟨_, rfl⟩
      rw [← hcur] at SS ho hst hcap TK LX ⊢
      have LN : Hid ((ss.getD st st0).exit.length = dn2) := hid hds2.1
      subst hgx
      clear hS hst0 hcur
      by_cases hz : dn2 = 0
      · subst hz
        have e0 : Hid ((ss.getD st st0).exit = []) := hid (List.length_eq_zero_iff.1 LN.out)
        have hcap2 : (cur.length : Int) ≤ (cap : Int) := by omega
        have hp0 : ∀ w : World, (pure #[] : Sem (Array Value)).run Tryz.prog w = .ok #[] w := fun _ => rfl
        have hs0 : ∀ (a : Addr) (w : World), (storeCells a ([] : List Value)).run Tryz.prog w = .ok () w := fun _ _ => rfl
        clear ho hst
        rcases do2 with _ | ad
        all_goals
          go_wp2_with fail
          go_roundg (ex.length - (c + 1))
          case measure => omega
          case rel => exact ⟨c + 1, by omega, rfl, by go_num, by rw [TK.out, e0.out, List.append_nil]; exact SS.out⟩
      · obtain ⟨b2, off2, hb2, hbl2, hbc2⟩ := hds2.2 (by omega)
        subst hb2
        obtain ⟨hsr, hnw⟩ := stc_row LN.out hbc2
        have HNW : Hid (∀ j u, (rowC w b2 off2 (dn2 * 4))[j]? = some u → wr.cell? ((⟨b2, off2, none⟩ : Addr).add j) = some u) := hid (fun j u hu => by
          have h1 := (SS.out.bel.cell (p := ⟨b2, off2 + j, none⟩) hbl2).trans (hnw j u hu)
          by_cases hj : j = 0
          · subst hj; simpa [Addr.add] using h1
          · simpa [Addr.add, hj] using h1)
        have HSR := hid hsr
        have HO := hid ho
        have HST := hid hst
        have L4 : Hid ((rowC w b2 off2 (dn2 * 4)).length = dn2 * 4) := hid (by simp [rowC])
        have hcn5 : dn2 ≤ 50 := by rw [← LN.out]; exact L5
        have SZ : Hid (w.heap.size ≤ wr.heap.size) := hid SS.out.bel.size
        clear ho hst hsr hnw hbc2
        go_wp2_with (at_builtin; refine wpList_append_lies _ rfl (.tmp 21) (.tmp 27) 58 rfl w.heap.size 210 i0 _ 4 48 Tryz.underlying58 hi0 hz0 hz1 hz2 rfl (by decide) (.slice (some ⟨g, 0, none⟩) cur.length cap) cur.length cells rfl HO.out ⟨b2, off2, none⟩ dn2 dc2 (rowC w b2 off2 (dn2 * 4)) rfl L4.out HNW.out HSR.out.2.1 (by omega) (by have := LX.out; unfold maxLen; omega) (by have := LX.out; omega) SZ.out wr.heap.size rfl ?_)
        intro g2 cap2 w2 hown hgrow hat _
        have KK := Sc.grown (ys := (ss.getD st st0).exit) SS.out.bel SS.out.q HO.out HST.out HSR.out hgrow (by rw [LN.out]; exact hown)
        rw [LN.out] at KK
        have K2 := hid KK
        clear hown hgrow hat KK
        go_wp2_with fail
        go_roundg (ex.length - (c + 1))
        case measure => omega
        case rel => exact ⟨c + 1, by omega, rfl, by go_num, by rw [TK.out]; exact K2.out⟩
    · obtain rfl : c = ex.length := by omega
      rw [List.take_length, List.nil_append] at hS SS hcap ho hst
      obtain ⟨pre, hpre⟩ : ∃ x, x = (ex.map (fun i => (ss.getD i st0).exit)).flatten := ⟨_, rfl⟩
      have LP : Hid (pre.length ≤ 20000) := hid (by
        have h1 := flat_le (K := ex) (g := fun i => (ss.getD i st0).exit) (fun x hx => L50exit.out x (Hex.out x hx))
        rw [hpre]; omega)
      rw [List.take_length, List.nil_append, ← hpre]
      rw [← hpre] at hS SS hcap ho hst
      have HPRE := hid hpre
      clear hpre
      go_upto_region 7 with fail
      go_cut [9] (fun lv wx => Sc w #[.slice (some ⟨sb, soff, none⟩) n sc, .slice tq tn tc] lv (pre ++ acts) wx)
      case first =>
        have LN : Hid (acts.length = an) := hid HAC.out.1
        by_cases hz : an = 0
        · subst hz
          have e0 : Hid (acts = []) := hid (List.length_eq_zero_iff.1 LN.out)
          have hcap2 : (pre.length : Int) ≤ (cap : Int) := by omega
          have hp0 : ∀ w : World, (pure #[] : Sem (Array Value)).run Tryz.prog w = .ok #[] w := fun _ => rfl
          have hs0 : ∀ (a : Addr) (w : World), (storeCells a ([] : List Value)).run Tryz.prog w = .ok () w := fun _ _ => rfl
          clear ho hst hS
          rcases ao with _ | ad
          all_goals
            go_wp2_with fail
            go_meet
            rw [e0.out, List.append_nil]; exact SS.out
        · obtain ⟨b2, off2, hb2, hbl2, hbc2⟩ := HAC.out.2 (by omega)
          subst hb2
          obtain ⟨hsr, hnw⟩ := stc_row LN.out hbc2
          have HNW : Hid (∀ j u, (rowC w b2 off2 (an * 4))[j]? = some u → wr.cell? ((⟨b2, off2, none⟩ : Addr).add j) = some u) := hid (fun j u hu => by
            have h1 := (SS.out.bel.cell (p := ⟨b2, off2 + j, none⟩) hbl2).trans (hnw j u hu)
            by_cases hj : j = 0
            · subst hj; simpa [Addr.add] using h1
            · simpa [Addr.add, hj] using h1)
          have HSR := hid hsr
          have HO := hid ho
          have HST := hid hst
          have L4 : Hid ((rowC w b2 off2 (an * 4)).length = an * 4) := hid (by simp [rowC])
          have SZ : Hid (w.heap.size ≤ wr.heap.size) := hid SS.out.bel.size
          clear ho hst hsr hnw hbc2 hS
          go_wp2_with (at_builtin; refine wpList_append_lies _ rfl (.tmp 30) (.tmp 31) 58 rfl w.heap.size 210 i0 _ 4 48 Tryz.underlying58 hi0 hz0 hz1 hz2 rfl (by decide) (.slice (some ⟨g, 0, none⟩) pre.length cap) pre.length cells rfl HO.out ⟨b2, off2, none⟩ an ac (rowC w b2 off2 (an * 4)) rfl L4.out HNW.out HSR.out.2.1 (by omega) (by have := LP.out; unfold maxLen; omega) (by have := LP.out; omega) SZ.out wr.heap.size rfl ?_)
          intro g2 cap2 w2 hown hgrow hat _
          have KK := Sc.grown (ys := acts) SS.out.bel SS.out.q HO.out HST.out HSR.out hgrow (by rw [LN.out]; exact hown)
          rw [LN.out] at KK
          have K2 := hid KK
          clear hown hgrow hat KK
          go_wp2_with fail
          go_meet
          exact K2.out
      case rest =>
        have S0 := hid hcut
        have LPRE : Hid ((pre ++ acts).length ≤ 50000) := hid (by have := LP.out; have := HAC.out.1; rw [List.length_append]; omega)
        obtain ⟨g0, cap0, cells0, hlv0, _, _⟩ := hcut.o
        subst hlv0
        clear hcut ho hst hS SS hcap
        go_wp2_with fail
        go_loopg [9, 35] en.length (fun mm lv i X => ∃ c : Nat, c ≤ en.length ∧ mm = en.length - c ∧ i = .int .i64 c ∧ Sc w #[.slice (some ⟨sb, soff, none⟩) n sc, .slice tq tn tc] lv ((pre ++ acts) ++ ((en.take c).map (fun i => (ss.getD i st0).entry)).flatten) X)
        case atStart => exact ⟨0, by omega, by omega, rfl, by simpa using S0.out⟩
        case round =>
          obtain ⟨c, hc, rfl, rfl, hS⟩ := hrel
          have SS := hid hS
          obtain ⟨g, cap, cells, hlv, ho, hst⟩ := hS.o
          subst hlv
          have hcap := own_cap ho
          by_cases hlt : c < en.length
          · obtain ⟨gx, hgx, hgl, hgc⟩ := HEO.out (by omega)
            obtain ⟨st, hst0⟩ : ∃ st, st = en.getD c 0 := ⟨_, rfl⟩
            have hsn : st < n := Hen.out st (by rw [hst0, List.getD_eq_getElem?_getD, List.getElem?_eq_getElem hlt]; simp)
            have cx0 := (hS.bel.cell (p := ⟨gx, c, none⟩) hgl).trans (hgc c hlt)
            rw [← hst0] at cx0
            obtain ⟨p1, p2, ⟨co2, cn2, cc2, p3, hcn2, hcs2⟩, ⟨do2, dn2, dc2, p4, hdn2, hds2⟩⟩ := HSt.out st hsn
            have p3 := (hS.bel.cell (p := ⟨sb, soff + st * 4 + 2, none⟩) hsl).trans p3
            have p4 := (hS.bel.cell (p := ⟨sb, soff + st * 4 + 3, none⟩) hsl).trans p4
            obtain ⟨q0, q1, _, _⟩ := pair_cells hS.q
            have TK : Hid (((pre ++ acts) ++ ((en.take (c + 1)).map (fun i => (ss.getD i st0).entry)).flatten) = ((pre ++ acts) ++ ((en.take c).map (fun i => (ss.getD i st0).entry)).flatten) ++ (ss.getD st st0).entry) := hid (by
              have h1 : en.take (c + 1) = en.take c ++ [st] := by rw [hst0, List.take_add_one, List.getD_eq_getElem?_getD, List.getElem?_eq_getElem hlt]; rfl
              rw [h1, List.map_append, List.flatten_append, ← List.append_assoc]; simp)
            have L5 := L50entry.out st hsn
            have LX : Hid ((((pre ++ acts) ++ ((en.take c).map (fun i => (ss.getD i st0).entry)).flatten)).length ≤ 100000) := hid (by
              have h1 := flat_le (K := en.take c) (g := fun i => (ss.getD i st0).entry) (fun x hx => L50entry.out x (Hen.out x (List.mem_of_mem_take hx)))
              have h2 : (en.take c).length ≤ 400 := by simp; omega
              have h3 := LPRE.out
              rw [List.length_append]
              omega)
            have ci : (c : Int) < (en.length : Int) := by omega
            have c5 : c ≤ 500 := by omega
            have si : (st : Int) < (n : Int) := by omega
            obtain ⟨cur, hcur⟩ : ∃ x, x = ((pre ++ acts) ++ ((en.take c).map (fun i => (ss.getD i st0).entry)).flatten) := ⟨_, rfl⟩
            rw [← hcur] at SS ho hst hcap TK LX ⊢
            have LN : Hid ((ss.getD st st0).entry.length = cn2) := hid hcs2.1
            subst hgx
            clear hS hst0 hcur
            by_cases hz : cn2 = 0
            · subst hz
              have e0 : Hid ((ss.getD st st0).entry = []) := hid (List.length_eq_zero_iff.1 LN.out)
              have hcap2 : (cur.length : Int) ≤ (cap : Int) := by omega
              have hp0 : ∀ w : World, (pure #[] : Sem (Array Value)).run Tryz.prog w = .ok #[] w := fun _ => rfl
              have hs0 : ∀ (a : Addr) (w : World), (storeCells a ([] : List Value)).run Tryz.prog w = .ok () w := fun _ _ => rfl
              clear ho hst
              rcases co2 with _ | ad
              all_goals
                go_wp2_with fail
                go_roundg (en.length - (c + 1))
                case measure => omega
                case rel => exact ⟨c + 1, by omega, rfl, by go_num, by rw [TK.out, e0.out, List.append_nil]; exact SS.out⟩
            · obtain ⟨b2, off2, hb2, hbl2, hbc2⟩ := hcs2.2 (by omega)
              subst hb2
              obtain ⟨hsr, hnw⟩ := stc_row LN.out hbc2
              have HNW : Hid (∀ j u, (rowC w b2 off2 (cn2 * 4))[j]? = some u → wr.cell? ((⟨b2, off2, none⟩ : Addr).add j) = some u) := hid (fun j u hu => by
                have h1 := (SS.out.bel.cell (p := ⟨b2, off2 + j, none⟩) hbl2).trans (hnw j u hu)
                by_cases hj : j = 0
                · subst hj; simpa [Addr.add] using h1
                · simpa [Addr.add, hj] using h1)
              have HSR := hid hsr
              have HO := hid ho
              have HST := hid hst
              have L4 : Hid ((rowC w b2 off2 (cn2 * 4)).length = cn2 * 4) := hid (by simp [rowC])
              have hcn5 : cn2 ≤ 50 := by rw [← LN.out]; exact L5
              have SZ : Hid (w.heap.size ≤ wr.heap.size) := hid SS.out.bel.size
              clear ho hst hsr hnw hbc2
              go_wp2_with (at_builtin; refine wpList_append_lies _ rfl (.tmp 39) (.tmp 45) 58 rfl w.heap.size 210 i0 _ 4 48 Tryz.underlying58 hi0 hz0 hz1 hz2 rfl (by decide) (.slice (some ⟨g, 0, none⟩) cur.length cap) cur.length cells rfl HO.out ⟨b2, off2, none⟩ cn2 cc2 (rowC w b2 off2 (cn2 * 4)) rfl L4.out HNW.out HSR.out.2.1 (by omega) (by have := LX.out; unfold maxLen; omega) (by have := LX.out; omega) SZ.out wr.heap.size rfl ?_)
              intro g2 cap2 w2 hown hgrow hat _
              have KK := Sc.grown (ys := (ss.getD st st0).entry) SS.out.bel SS.out.q HO.out HST.out HSR.out hgrow (by rw [LN.out]; exact hown)
              rw [LN.out] at KK
              have K2 := hid KK
              clear hown hgrow hat KK
              go_wp2_with fail
              go_roundg (en.length - (c + 1))
              case measure => omega
              case rel => exact ⟨c + 1, by omega, rfl, by go_num, by rw [TK.out]; exact K2.out⟩
          · obtain rfl : c = en.length := by omega
            rw [List.take_length] at hS SS hcap ho hst
            have EQ : Hid (scriptS ss ex acts en = pre ++ acts ++ (en.map (fun i => (ss.getD i st0).entry)).flatten) := hid (by unfold scriptS; rw [HPRE.out])
            rw [← EQ.out] at hS SS hcap ho hst
            rw [List.take_length, ← EQ.out]
            have HO := hid ho
            have HST := hid hst
            clear hS ho hst
            go_wp2_with fail
            go_ret
            exact ⟨g, cap, rfl, hcap, stc_stms HO.out rfl (HST.out.below SS.out.bel), SS.out.bel⟩
end Go.Proofs.YtiimkhepplkocaaGreat

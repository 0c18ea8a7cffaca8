import Derived.Test.YthaklmdhkkfigaaGreatSa
import Derived.Test.YthaklmdhkkfigaaGreatOa
import Derived.Deep.LoopGhost
namespace Go.Proofs.YthaklmdhkkfigaaGreat
open Go.RowKit Go.Sort
attribute [local go_sem ↓] Go.wp_at_zero Go.wp_at_succ

def badA (l : LimD) (ss : List StD) (i : Nat) : Bool := !(stmsB l (ss.getD i st0).entry && stmsB l (ss.getD i st0).exit)
def grdB (l : LimD) (g : List (Int × Int)) : Bool := decide (g.length = 0) || codeB g l.v
def okTr (n : Nat) (l : LimD) (t : TrD) : Bool := betB t.src 0 ((n : Int) - 1) && (betB t.sig 0 (l.s - 1) && (betB t.target (-1) ((n : Int) - 1) && (grdB l t.guard && stmsB l t.action)))
def badT (n : Nat) (l : LimD) (ts : List TrD) (j : Nat) : Bool := !(okTr n l (ts.getD j tr0))
/-- The checker's answer. -/
def checkOf (ss : List StD) (ts : List TrD) (l : LimD) : Int × Int :=
  if (faultOf ss ts.length (limB l)).1 = 0 then
    match firstB (badA l ss) ss.length with
    | some i => (5, i)
    | none => match firstB (badT ss.length l ts) ts.length with
      | some j => (6, j)
      | none => (0, 0)
  else faultOf ss ts.length (limB l)
theorem check_fault {ss : List StD} {ts : List TrD} {l : LimD} (h : ¬ (faultOf ss ts.length (limB l)).1 = 0) : checkOf ss ts l = faultOf ss ts.length (limB l) := if_neg h
theorem check_action {ss : List StD} {ts : List TrD} {l : LimD} (h : (faultOf ss ts.length (limB l)).1 = 0) {k : Nat} (hk : k < ss.length) (h1 : badA l ss k = true) (h2 : ∀ j, j < k → badA l ss j = false) : checkOf ss ts l = (5, (k : Int)) := by
  unfold checkOf; rw [if_pos h, firstB_some hk h1 h2]
theorem check_trans {ss : List StD} {ts : List TrD} {l : LimD} (h : (faultOf ss ts.length (limB l)).1 = 0) (ha : ∀ j, j < ss.length → badA l ss j = false) {k : Nat} (hk : k < ts.length) (h1 : badT ss.length l ts k = true) (h2 : ∀ j, j < k → badT ss.length l ts j = false) : checkOf ss ts l = (6, (k : Int)) := by
  unfold checkOf; rw [if_pos h, firstB_none ha, firstB_some hk h1 h2]
theorem check_ok {ss : List StD} {ts : List TrD} {l : LimD} (h : (faultOf ss ts.length (limB l)).1 = 0) (ha : ∀ j, j < ss.length → badA l ss j = false) (ht : ∀ j, j < ts.length → badT ss.length l ts j = false) : checkOf ss ts l = (0, 0) := by
  unfold checkOf; rw [if_pos h, firstB_none ha, firstB_none ht]

/-- What stays of the call's own two boxes. -/
structure Env (w wr : World) (c l : Array Value) : Prop where
  bel : Below w.heap.size w wr
  ch : wr.heap[w.heap.size]? = some (.cells c 132 (0, 0))
  li : wr.heap[w.heap.size + 1]? = some (.cells l 148 (0, 0))
theorem Env.below {w wr w1 : World} {c l : Array Value} (h : Env w wr c l) (hb : Below wr.heap.size wr w1) : Env w w1 c l := ⟨h.bel.trans (hb.mono h.bel.size), block_below h.ch hb, block_below h.li hb⟩
theorem Env.alloc {w wr : World} {c l : Array Value} (h : Env w wr c l) (o : Obj) : Env w (wr.alloc o) c l := h.below (below1 _ _)
theorem env_start (w : World) (c l : Array Value) : Env w ((w.alloc (.cells c 132)).alloc (.cells l 148)) c l :=
  ⟨below2 _ _ _, block_below (heap_alloc_new w _) (below1 _ _), by simpa using heap_alloc_new (w.alloc (.cells c 132)) (.cells l 148)⟩
theorem env_var {w wr w1 : World} {c l : Array Value} {o : Obj} (h : Env w wr c l) (hb : Below (wr.alloc o).heap.size (wr.alloc o) w1) : Env w w1 c l ∧ w1.heap[wr.heap.size]? = some o := ⟨(h.alloc o).below hb, block_below (heap_alloc_new wr o) hb⟩
theorem lim_s {o s t v : Int} (h : limB ⟨o, s, t, v⟩ = true) : 0 ≤ s ∧ s ≤ 64 ∧ 0 ≤ v ∧ v ≤ 32 := by
  unfold limB at h
  have := of_decide_eq_true h
  unfold limP at this
  simp only at this
  omega

set_option maxRecDepth 100000 in
set_option maxHeartbeats 6400000 in
theorem specCheck_any (so to : Option Addr) (n sc tn tc : Nat) (ss : List StD) (ts : List TrD) (o s t v : Int) (w : World) (hn : n ≤ 9223372036854775807) (htn : tn ≤ 9223372036854775807) (hs : StatesOf w so n ss) (ht : TransOf w to tn ts) :
    Calls Tryz.prog 140 #[.agg #[.slice so n sc, .slice to tn tc], .agg #[.int .i64 o, .int .i64 s, .int .i64 t, .int .i64 v]] w fun e w' => e = .returned (.tuple #[.int .i64 (checkOf ss ts ⟨o, s, t, v⟩).1, .int .i64 (checkOf ss ts ⟨o, s, t, v⟩).2]) ∧ Below w.heap.size w w' := by
  have HL := hid hs.1
  have HT := hid ht.1
  have EN := hid (env_start w #[.slice so n sc, .slice to tn tc] #[.int .i64 o, .int .i64 s, .int .i64 t, .int .i64 v])
  have C := hid (l2TreeFault_any so to n sc tn tc ss o s t v _ hn htn (hs.below EN.out.bel))
  obtain ⟨fc, hfc⟩ : ∃ fc, fc = (faultOf ss tn (limB ⟨o, s, t, v⟩)).1 := ⟨_, rfl⟩
  obtain ⟨fp, hfp⟩ : ∃ fp, fp = (faultOf ss tn (limB ⟨o, s, t, v⟩)).2 := ⟨_, rfl⟩
  rw [← hfc, ← hfp] at C
  by_cases h0 : fc = 0
  case neg =>
    have E : Hid (checkOf ss ts ⟨o, s, t, v⟩ = (fc, fp)) := hid (by rw [check_fault (by rw [HT.out, ← hfc]; exact h0), HT.out, hfc, hfp])
    have h0' : (fc != 0) = true := by simpa using h0
    rw [E.out]
    clear hs ht hfc hfp h0
    go_enter Tryz.func140, Tryz.ntmps140
    go_wp2_with (go_at_call 180; refine C.out.mono ?_; rintro e w1 ⟨rfl, hb1⟩; have B1 := hid (EN.out.below hb1); clear hb1)
    go_ret2
    exact ⟨rfl, B1.out.bel⟩
  have F0 : Hid ((faultOf ss ts.length (limB ⟨o, s, t, v⟩)).1 = 0) := hid (by rw [HT.out, ← hfc]; exact h0)
  have G := good_of F0.out
  have hlim : limB ⟨o, s, t, v⟩ = true := by
    cases hl : limB ⟨o, s, t, v⟩ with
    | true => rfl
    | false => have := F0.out; rw [hl, fault_count (by intro h; cases h.2.2.2)] at this; cases this
  obtain ⟨ls0, ls1, lv0, lv1⟩ := lim_s hlim
  have n1 : 1 ≤ n := by rw [← HL.out]; exact G.n1
  have n2 : n ≤ 200 := by rw [← HL.out]; exact G.n2
  have tn2 : tn ≤ 500 := by rw [← HT.out]; exact G.tn
  obtain ⟨b, off, rfl, hbl, hc⟩ := hs.2 (by omega)
  have HA := hid hc
  have HTT := hid ht.2
  subst h0
  clear hs ht hc hfc hfp hlim G
  go_enter Tryz.func140, Tryz.ntmps140
  go_wp2_with (go_at_call 180; refine C.out.mono ?_; rintro e w1 ⟨rfl, hb1⟩; have B1 := hid (EN.out.below hb1); obtain ⟨q0, q1⟩ := two_cells B1.out.ch; clear hb1)
  -- the lists of the states
  go_loopg [29] n (fun mm i wr => ∃ k : Nat, k ≤ n ∧ mm = n - k ∧ i = .int .i64 k ∧ Hid (∀ j, j < k → badA ⟨o, s, t, v⟩ ss j = false) ∧ Env w wr #[.slice (some ⟨b, off, none⟩) n sc, .slice to tn tc] #[.int .i64 o, .int .i64 s, .int .i64 t, .int .i64 v])
  case atStart => exact ⟨0, Nat.zero_le _, by omega, rfl, hid (fun j h => absurd h (by omega)), B1.out⟩
  case round =>
    obtain ⟨k, hk, rfl, rfl, HP, hE⟩ := hrel
    have E := hid hE
    obtain ⟨r0, r1⟩ := two_cells hE.ch
    obtain ⟨l0, l1, l2, l3⟩ := quad_cells hE.li
    have hzl : w.heap.size + 1 < wr.heap.size := lt_of_block hE.li
    have hzl0 : w.heap.size < wr.heap.size := by omega
    have hb := hE.bel
    clear hE
    by_cases hlt : k < n
    · obtain ⟨sd, es⟩ : ∃ sd, sd = ss.getD k st0 := ⟨_, rfl⟩
      have hk4 := HA.out k hlt
      rw [← es] at hk4
      obtain ⟨k1, k2, ⟨co, cn, cc, k3, hcn, hi1⟩, ⟨do_, dn, dc, k4, hdn, hi2⟩⟩ := hk4
      have k1 := (hb.cell (p := ⟨b, off + k * 4, none⟩) hbl).trans k1
      have k2 := (hb.cell (p := ⟨b, off + k * 4 + 1, none⟩) hbl).trans k2
      have k3 := (hb.cell (p := ⟨b, off + k * 4 + 2, none⟩) hbl).trans k3
      have k4 := (hb.cell (p := ⟨b, off + k * 4 + 3, none⟩) hbl).trans k4
      have S1 : Hid (∀ w', Below w.heap.size w w' → StmsOf w' co cn sd.entry ∧ StmsOf w' do_ dn sd.exit) := hid (fun w' h => ⟨hi1.below h, hi2.below h⟩)
      obtain ⟨pv, hpv⟩ : ∃ pv, pv = sd.parent := ⟨_, rfl⟩
      obtain ⟨iv, hiv⟩ : ∃ iv, iv = sd.initial := ⟨_, rfl⟩
      rw [← hpv] at k1
      rw [← hiv] at k2
      obtain ⟨b1, hb1⟩ : ∃ b1, b1 = stmsB ⟨o, s, t, v⟩ sd.entry := ⟨_, rfl⟩
      obtain ⟨b2, hb2⟩ : ∃ b2, b2 = stmsB ⟨o, s, t, v⟩ sd.exit := ⟨_, rfl⟩
      have BA : Hid (badA ⟨o, s, t, v⟩ ss k = !(b1 && b2)) := hid (by unfold badA; rw [← es, hb1, hb2])
      have C1 := hid (fun w hw => specStmsOK_any co cn cc sd.entry o s t v w hcn hw)
      have C2 := hid (fun w hw => specStmsOK_any do_ dn dc sd.exit o s t v w hdn hw)
      rw [← hb1] at C1
      rw [← hb2] at C2
      have kn : (k : Int) < (n : Int) := by omega
      have EV : Hid (∀ w1, Below (wr.alloc (.cells #[.int .i64 pv, .int .i64 iv, .slice co cn cc, .slice do_ dn dc] 196)).heap.size (wr.alloc (.cells #[.int .i64 pv, .int .i64 iv, .slice co cn cc, .slice do_ dn dc] 196)) w1 → Env w w1 #[.slice (some ⟨b, off, none⟩) n sc, .slice to tn tc] #[.int .i64 o, .int .i64 s, .int .i64 t, .int .i64 v] ∧ w1.heap[wr.heap.size]? = some (.cells #[.int .i64 pv, .int .i64 iv, .slice co cn cc, .slice do_ dn dc] 196 (0, 0))) := hid (fun w1 h => env_var E.out h)
      clear hb es hi1 hi2 hpv hiv hb1 hb2
      cases b1 with
      | false =>
        have E5 : Hid (checkOf ss ts ⟨o, s, t, v⟩ = (5, (k : Int))) := hid (check_action F0.out (by rw [HL.out]; exact hlt) (by rw [BA.out]; rfl) HP.out)
        go_wp2_with (go_at_call_of 181 (Value.slice co cn cc); refine (C1.out _ (S1.out _ (E.out.alloc _).bel).1).mono ?_; rintro e w1 ⟨rfl, hb1⟩; have V1 := hid (EV.out _ hb1); clear hb1)
        go_ret2
        rw [E5.out]
        exact ⟨rfl, V1.out.1.bel⟩
      | true =>
        cases b2 with
        | false =>
          have E5 : Hid (checkOf ss ts ⟨o, s, t, v⟩ = (5, (k : Int))) := hid (check_action F0.out (by rw [HL.out]; exact hlt) (by rw [BA.out]; rfl) HP.out)
          go_wp2_with (first | (go_at_call_of 181 (Value.slice co cn cc); refine (C1.out _ (S1.out _ (E.out.alloc _).bel).1).mono ?_; rintro e w1 ⟨rfl, hb1⟩; have V1 := hid (EV.out _ hb1); obtain ⟨x0, x1, x2, x3⟩ := quad_cells V1.out.2; obtain ⟨y0, y1, y2, y3⟩ := quad_cells V1.out.1.li; clear hb1) | (go_at_call_of 181 (Value.slice do_ dn dc); refine (C2.out _ (S1.out _ V1.out.1.bel).2).mono ?_; rintro e w2 ⟨rfl, hb2⟩; have V2 := hid (V1.out.1.below hb2); clear hb2))
          go_ret2
          rw [E5.out]
          exact ⟨rfl, V2.out.bel⟩
        | true =>
          go_wp2_with (first | (go_at_call_of 181 (Value.slice co cn cc); refine (C1.out _ (S1.out _ (E.out.alloc _).bel).1).mono ?_; rintro e w1 ⟨rfl, hb1⟩; have V1 := hid (EV.out _ hb1); obtain ⟨x0, x1, x2, x3⟩ := quad_cells V1.out.2; obtain ⟨y0, y1, y2, y3⟩ := quad_cells V1.out.1.li; clear hb1) | (go_at_call_of 181 (Value.slice do_ dn dc); refine (C2.out _ (S1.out _ V1.out.1.bel).2).mono ?_; rintro e w2 ⟨rfl, hb2⟩; have V2 := hid (V1.out.1.below hb2); clear hb2))
          go_roundg (n - (k + 1))
          case measure => omega
          case rel =>
            refine ⟨k + 1, by omega, rfl, by go_num, hid (fun j hj => ?_), V2.out⟩
            by_cases e : j = k
            · subst e; rw [BA.out]; rfl
            · exact HP.out j (by omega)
    · have e : k = n := by omega
      subst e
      have HP' : Hid (∀ j, j < ss.length → badA ⟨o, s, t, v⟩ ss j = false) := hid (by rw [HL.out]; exact HP.out)
      clear hb HP
      go_wp2
      -- the transitions
      go_loopg [51] tn (fun mm i wr => ∃ q : Nat, q ≤ tn ∧ mm = tn - q ∧ i = .int .i64 q ∧ Hid (∀ j, j < q → badT ss.length ⟨o, s, t, v⟩ ts j = false) ∧ Env w wr #[.slice (some ⟨b, off, none⟩) k sc, .slice to tn tc] #[.int .i64 o, .int .i64 s, .int .i64 t, .int .i64 v])
      case atStart => exact ⟨0, Nat.zero_le _, by omega, rfl, hid (fun j h => absurd h (by omega)), E.out⟩
      case round =>
        obtain ⟨q, hq, rfl, rfl, HP, hE⟩ := hrel
        have E := hid hE
        obtain ⟨r0, r1⟩ := two_cells hE.ch
        obtain ⟨l0, l1, l2, l3⟩ := quad_cells hE.li
        have hzl : w.heap.size + 1 < wr.heap.size := lt_of_block hE.li
        have hzl0 : w.heap.size < wr.heap.size := by omega
        have hb := hE.bel
        clear hE
        by_cases hlt : q < tn
        · obtain ⟨bt, offt, rfl, hbtl, hct⟩ := HTT.out (by omega)
          obtain ⟨td, es⟩ : ∃ td, td = ts.getD q tr0 := ⟨_, rfl⟩
          have hk4 := hct q hlt
          rw [← es] at hk4
          obtain ⟨k1, k2, ⟨co, cn, cc, k3, hcn, hi1⟩, k5, ⟨do_, dn, dc, k4, hdn, hi2⟩⟩ := hk4
          have k1 := (hb.cell (p := ⟨bt, offt + q * 5, none⟩) hbtl).trans k1
          have k2 := (hb.cell (p := ⟨bt, offt + q * 5 + 1, none⟩) hbtl).trans k2
          have k3 := (hb.cell (p := ⟨bt, offt + q * 5 + 2, none⟩) hbtl).trans k3
          have k5 := (hb.cell (p := ⟨bt, offt + q * 5 + 3, none⟩) hbtl).trans k5
          have k4 := (hb.cell (p := ⟨bt, offt + q * 5 + 4, none⟩) hbtl).trans k4
          have S1 : Hid (∀ w', Below w.heap.size w w' → ItemsOf w' co cn td.guard ∧ StmsOf w' do_ dn td.action) := hid (fun w' h => ⟨hi1.below h, hi2.below h⟩)
          have hgl := hi1.1
          obtain ⟨fv, hfv⟩ : ∃ x, x = td.src := ⟨_, rfl⟩
          obtain ⟨gv, hgv⟩ : ∃ x, x = td.sig := ⟨_, rfl⟩
          obtain ⟨tv, htv⟩ : ∃ x, x = td.target := ⟨_, rfl⟩
          rw [← hfv] at k1
          rw [← hgv] at k2
          rw [← htv] at k5
          obtain ⟨bF, hbF⟩ : ∃ x, x = betB fv 0 ((k : Int) - 1) := ⟨_, rfl⟩
          obtain ⟨bS, hbS⟩ : ∃ x, x = betB gv 0 (s - 1) := ⟨_, rfl⟩
          obtain ⟨bT, hbT⟩ : ∃ x, x = betB tv (-1) ((k : Int) - 1) := ⟨_, rfl⟩
          obtain ⟨bG, hbG⟩ : ∃ x, x = codeB td.guard v := ⟨_, rfl⟩
          obtain ⟨bA, hbA⟩ : ∃ x, x = stmsB ⟨o, s, t, v⟩ td.action := ⟨_, rfl⟩
          have CF := hid (l1Between_of fv 0 ((k : Int) - 1) bF hbF)
          have CS := hid (l1Between_of gv 0 (s - 1) bS hbS)
          have CT := hid (l1Between_of tv (-1) ((k : Int) - 1) bT hbT)
          have CG := hid (fun w hw => specCodeOK_any co cn cc td.guard v w hcn hw)
          have CA := hid (fun w hw => specStmsOK_any do_ dn dc td.action o s t v w hdn hw)
          rw [← hbG] at CG
          rw [← hbA] at CA
          have BT : Hid (badT ss.length ⟨o, s, t, v⟩ ts q = !(bF && (bS && (bT && ((decide (cn = 0) || bG) && bA))))) := hid (by unfold badT okTr grdB; rw [← es, HL.out, ← hfv, ← hgv, ← htv, hgl, ← hbG, ← hbA, hbF, hbS, hbT])
          have E6 : Hid (badT ss.length ⟨o, s, t, v⟩ ts q = true → checkOf ss ts ⟨o, s, t, v⟩ = (6, (q : Int))) := hid (fun h => check_trans F0.out HP'.out (by rw [HT.out]; exact hlt) h HP.out)
          have R6 : Hid (badT ss.length ⟨o, s, t, v⟩ ts q = false → ∀ j, j < q + 1 → badT ss.length ⟨o, s, t, v⟩ ts j = false) := hid (fun h j hj => by
            by_cases e : j = q
            · subst e; exact h
            · exact HP.out j (by omega))
          have qn : (q : Int) < (tn : Int) := by omega
          have EA := hid (E.out.alloc (.cells #[.int .i64 fv, .int .i64 gv, .slice co cn cc, .int .i64 tv, .slice do_ dn dc] 200))
          have XA := hid (heap_alloc_new wr (.cells #[.int .i64 fv, .int .i64 gv, .slice co cn cc, .int .i64 tv, .slice do_ dn dc] 200))
          clear hb es hi1 hi2 hfv hgv htv hbF hbS hbT hbG hbA hgl
          by_cases hg0 : cn = 0
          · have g0 : ((cn : Int) == 0) = true := by simp [hg0]
            rw [decide_eq_true hg0] at BT
            clear hg0
            cases bF with
            | false =>
              have BX := hid (E6.out (by rw [BT.out]; simp))
              go_wp2_with (first | (go_at_call_of 31 (Value.int .i64 fv); refine (CF.out _).mono ?_; rintro e wa ⟨rfl, hw⟩; obtain rfl := hw.symm) | (go_at_call_of 31 (Value.int .i64 gv); refine (CS.out _).mono ?_; rintro e wa ⟨rfl, hw⟩; obtain rfl := hw.symm) | (go_at_call_of 31 (Value.int .i64 tv); refine (CT.out _).mono ?_; rintro e wa ⟨rfl, hw⟩; obtain rfl := hw.symm))
              go_ret2
              rw [BX.out]
              exact ⟨rfl, EA.out.bel⟩
            | true =>
              cases bS with
              | false =>
                have BX := hid (E6.out (by rw [BT.out]; simp))
                go_wp2_with (first | (go_at_call_of 31 (Value.int .i64 fv); refine (CF.out _).mono ?_; rintro e wa ⟨rfl, hw⟩; obtain rfl := hw.symm) | (go_at_call_of 31 (Value.int .i64 gv); refine (CS.out _).mono ?_; rintro e wa ⟨rfl, hw⟩; obtain rfl := hw.symm) | (go_at_call_of 31 (Value.int .i64 tv); refine (CT.out _).mono ?_; rintro e wa ⟨rfl, hw⟩; obtain rfl := hw.symm))
                go_ret2
                rw [BX.out]
                exact ⟨rfl, EA.out.bel⟩
              | true =>
                cases bT with
                | false =>
                  have BX := hid (E6.out (by rw [BT.out]; simp))
                  go_wp2_with (first | (go_at_call_of 31 (Value.int .i64 fv); refine (CF.out _).mono ?_; rintro e wa ⟨rfl, hw⟩; obtain rfl := hw.symm) | (go_at_call_of 31 (Value.int .i64 gv); refine (CS.out _).mono ?_; rintro e wa ⟨rfl, hw⟩; obtain rfl := hw.symm) | (go_at_call_of 31 (Value.int .i64 tv); refine (CT.out _).mono ?_; rintro e wa ⟨rfl, hw⟩; obtain rfl := hw.symm))
                  go_ret2
                  rw [BX.out]
                  exact ⟨rfl, EA.out.bel⟩
                | true =>
                  cases bA with
                  | false =>
                    have BX := hid (E6.out (by rw [BT.out]; simp))
                    go_wp2_with (first | (go_at_call_of 31 (Value.int .i64 fv); refine (CF.out _).mono ?_; rintro e wa ⟨rfl, hw⟩; obtain rfl := hw.symm) | (go_at_call_of 31 (Value.int .i64 gv); refine (CS.out _).mono ?_; rintro e wa ⟨rfl, hw⟩; obtain rfl := hw.symm) | (go_at_call_of 31 (Value.int .i64 tv); refine (CT.out _).mono ?_; rintro e wa ⟨rfl, hw⟩; obtain rfl := hw.symm) | (go_at_call 181; refine (CA.out _ (S1.out _ EA.out.bel).2).mono ?_; rintro e w2 ⟨rfl, hb2⟩; have V2 := hid (EA.out.below hb2); clear hb2))
                    go_ret2
                    rw [BX.out]
                    exact ⟨rfl, V2.out.bel⟩
                  | true =>
                    have RX := hid (R6.out (by rw [BT.out]; simp))
                    go_wp2_with (first | (go_at_call_of 31 (Value.int .i64 fv); refine (CF.out _).mono ?_; rintro e wa ⟨rfl, hw⟩; obtain rfl := hw.symm) | (go_at_call_of 31 (Value.int .i64 gv); refine (CS.out _).mono ?_; rintro e wa ⟨rfl, hw⟩; obtain rfl := hw.symm) | (go_at_call_of 31 (Value.int .i64 tv); refine (CT.out _).mono ?_; rintro e wa ⟨rfl, hw⟩; obtain rfl := hw.symm) | (go_at_call 181; refine (CA.out _ (S1.out _ EA.out.bel).2).mono ?_; rintro e w2 ⟨rfl, hb2⟩; have V2 := hid (EA.out.below hb2); clear hb2))
                    go_roundg (tn - (q + 1))
                    case measure => omega
                    case rel => exact ⟨q + 1, by omega, rfl, by go_num, RX, V2.out⟩
          · have g0 : ((cn : Int) == 0) = false := by simpa using hg0
            rw [decide_eq_false hg0] at BT
            clear hg0
            cases bF with
            | false =>
              have BX := hid (E6.out (by rw [BT.out]; simp))
              go_wp2_with (first | (go_at_call_of 31 (Value.int .i64 fv); refine (CF.out _).mono ?_; rintro e wa ⟨rfl, hw⟩; obtain rfl := hw.symm) | (go_at_call_of 31 (Value.int .i64 gv); refine (CS.out _).mono ?_; rintro e wa ⟨rfl, hw⟩; obtain rfl := hw.symm) | (go_at_call_of 31 (Value.int .i64 tv); refine (CT.out _).mono ?_; rintro e wa ⟨rfl, hw⟩; obtain rfl := hw.symm) | (go_at_call 182; refine (CG.out _ (S1.out _ EA.out.bel).1).mono ?_; rintro e w1 ⟨rfl, hb1⟩; have V1 := hid (EA.out.below hb1); obtain ⟨x0, x1, x2, x3, x4⟩ := five_cells (block_below XA.out hb1); obtain ⟨y0, y1, y2, y3⟩ := quad_cells V1.out.li; obtain ⟨z0, z1⟩ := two_cells V1.out.ch; clear hb1))
              go_ret2
              rw [BX.out]
              exact ⟨rfl, V1.out.bel⟩
            | true =>
              cases bS with
              | false =>
                have BX := hid (E6.out (by rw [BT.out]; simp))
                go_wp2_with (first | (go_at_call_of 31 (Value.int .i64 fv); refine (CF.out _).mono ?_; rintro e wa ⟨rfl, hw⟩; obtain rfl := hw.symm) | (go_at_call_of 31 (Value.int .i64 gv); refine (CS.out _).mono ?_; rintro e wa ⟨rfl, hw⟩; obtain rfl := hw.symm) | (go_at_call_of 31 (Value.int .i64 tv); refine (CT.out _).mono ?_; rintro e wa ⟨rfl, hw⟩; obtain rfl := hw.symm) | (go_at_call 182; refine (CG.out _ (S1.out _ EA.out.bel).1).mono ?_; rintro e w1 ⟨rfl, hb1⟩; have V1 := hid (EA.out.below hb1); obtain ⟨x0, x1, x2, x3, x4⟩ := five_cells (block_below XA.out hb1); obtain ⟨y0, y1, y2, y3⟩ := quad_cells V1.out.li; obtain ⟨z0, z1⟩ := two_cells V1.out.ch; clear hb1))
                go_ret2
                rw [BX.out]
                exact ⟨rfl, V1.out.bel⟩
              | true =>
                cases bT with
                | false =>
                  have BX := hid (E6.out (by rw [BT.out]; simp))
                  go_wp2_with (first | (go_at_call_of 31 (Value.int .i64 fv); refine (CF.out _).mono ?_; rintro e wa ⟨rfl, hw⟩; obtain rfl := hw.symm) | (go_at_call_of 31 (Value.int .i64 gv); refine (CS.out _).mono ?_; rintro e wa ⟨rfl, hw⟩; obtain rfl := hw.symm) | (go_at_call_of 31 (Value.int .i64 tv); refine (CT.out _).mono ?_; rintro e wa ⟨rfl, hw⟩; obtain rfl := hw.symm) | (go_at_call 182; refine (CG.out _ (S1.out _ EA.out.bel).1).mono ?_; rintro e w1 ⟨rfl, hb1⟩; have V1 := hid (EA.out.below hb1); obtain ⟨x0, x1, x2, x3, x4⟩ := five_cells (block_below XA.out hb1); obtain ⟨y0, y1, y2, y3⟩ := quad_cells V1.out.li; obtain ⟨z0, z1⟩ := two_cells V1.out.ch; clear hb1))
                  go_ret2
                  rw [BX.out]
                  exact ⟨rfl, V1.out.bel⟩
                | true =>
                  cases bG with
                  | false =>
                    have BX := hid (E6.out (by rw [BT.out]; simp))
                    go_wp2_with (first | (go_at_call_of 31 (Value.int .i64 fv); refine (CF.out _).mono ?_; rintro e wa ⟨rfl, hw⟩; obtain rfl := hw.symm) | (go_at_call_of 31 (Value.int .i64 gv); refine (CS.out _).mono ?_; rintro e wa ⟨rfl, hw⟩; obtain rfl := hw.symm) | (go_at_call_of 31 (Value.int .i64 tv); refine (CT.out _).mono ?_; rintro e wa ⟨rfl, hw⟩; obtain rfl := hw.symm) | (go_at_call 182; refine (CG.out _ (S1.out _ EA.out.bel).1).mono ?_; rintro e w1 ⟨rfl, hb1⟩; have V1 := hid (EA.out.below hb1); obtain ⟨x0, x1, x2, x3, x4⟩ := five_cells (block_below XA.out hb1); obtain ⟨y0, y1, y2, y3⟩ := quad_cells V1.out.li; obtain ⟨z0, z1⟩ := two_cells V1.out.ch; clear hb1))
                    go_ret2
                    rw [BX.out]
                    exact ⟨rfl, V1.out.bel⟩
                  | true =>
                    cases bA with
                    | false =>
                      have BX := hid (E6.out (by rw [BT.out]; simp))
                      go_wp2_with (first | (go_at_call_of 31 (Value.int .i64 fv); refine (CF.out _).mono ?_; rintro e wa ⟨rfl, hw⟩; obtain rfl := hw.symm) | (go_at_call_of 31 (Value.int .i64 gv); refine (CS.out _).mono ?_; rintro e wa ⟨rfl, hw⟩; obtain rfl := hw.symm) | (go_at_call_of 31 (Value.int .i64 tv); refine (CT.out _).mono ?_; rintro e wa ⟨rfl, hw⟩; obtain rfl := hw.symm) | (go_at_call 182; refine (CG.out _ (S1.out _ EA.out.bel).1).mono ?_; rintro e w1 ⟨rfl, hb1⟩; have V1 := hid (EA.out.below hb1); obtain ⟨x0, x1, x2, x3, x4⟩ := five_cells (block_below XA.out hb1); obtain ⟨y0, y1, y2, y3⟩ := quad_cells V1.out.li; obtain ⟨z0, z1⟩ := two_cells V1.out.ch; clear hb1) | (go_at_call 181; refine (CA.out _ (S1.out _ V1.out.bel).2).mono ?_; rintro e w2 ⟨rfl, hb2⟩; have V2 := hid (V1.out.below hb2); clear hb2))
                      go_ret2
                      rw [BX.out]
                      exact ⟨rfl, V2.out.bel⟩
                    | true =>
                      have RX := hid (R6.out (by rw [BT.out]; simp))
                      go_wp2_with (first | (go_at_call_of 31 (Value.int .i64 fv); refine (CF.out _).mono ?_; rintro e wa ⟨rfl, hw⟩; obtain rfl := hw.symm) | (go_at_call_of 31 (Value.int .i64 gv); refine (CS.out _).mono ?_; rintro e wa ⟨rfl, hw⟩; obtain rfl := hw.symm) | (go_at_call_of 31 (Value.int .i64 tv); refine (CT.out _).mono ?_; rintro e wa ⟨rfl, hw⟩; obtain rfl := hw.symm) | (go_at_call 182; refine (CG.out _ (S1.out _ EA.out.bel).1).mono ?_; rintro e w1 ⟨rfl, hb1⟩; have V1 := hid (EA.out.below hb1); obtain ⟨x0, x1, x2, x3, x4⟩ := five_cells (block_below XA.out hb1); obtain ⟨y0, y1, y2, y3⟩ := quad_cells V1.out.li; obtain ⟨z0, z1⟩ := two_cells V1.out.ch; clear hb1) | (go_at_call 181; refine (CA.out _ (S1.out _ V1.out.bel).2).mono ?_; rintro e w2 ⟨rfl, hb2⟩; have V2 := hid (V1.out.below hb2); clear hb2))
                      go_roundg (tn - (q + 1))
                      case measure => omega
                      case rel => exact ⟨q + 1, by omega, rfl, by go_num, RX, V2.out⟩
        · have e : q = tn := by omega
          subst e
          have E0 : Hid (checkOf ss ts ⟨o, s, t, v⟩ = (0, 0)) := hid (check_ok F0.out HP'.out (by rw [HT.out]; exact HP.out))
          clear hb
          go_wp2
          go_ret2
          rw [E0.out]
          exact ⟨rfl, E.out.bel⟩
end Go.Proofs.YthaklmdhkkfigaaGreat

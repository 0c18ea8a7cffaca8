import Derived.Test.YtkcbomhhdfgihaaGreatO5
namespace Go.Proofs.YtkcbomhhdfgihaaGreat
open Go.RowKit Go.Sort

theorem nodeOf_form {l : LimD} {s : StmD} {v : Value} (h : nodeOf l s = some v) : ∃ y x, v = .iface y x := by
  unfold nodeOf at h
  split at h
  · cases h
  split at h
  · cases h; exact ⟨_, _, rfl⟩
  split at h
  · cases h; exact ⟨_, _, rfl⟩
  split at h
  · cases h; exact ⟨_, _, rfl⟩
  cases hl : liftT s.code l.v with
  | none => rw [hl] at h; cases h
  | some t =>
    rw [hl] at h
    simp only [Option.bind_some] at h
    repeat (split at h; (cases h; exact ⟨_, _, rfl⟩))
    cases h

def nodesR (l : LimD) : List StmD → Option (List Value)
  | [] => some []
  | s :: r => (nodeOf l s).bind fun v => (nodesR l r).map (v :: ·)

theorem nodesR_append (l : LimD) (a b : List StmD) : nodesR l (a ++ b) = (nodesR l a).bind fun x => (nodesR l b).map (x ++ ·) := by
  induction a with
  | nil => simp [nodesR]
  | cons s a ih =>
    simp only [List.cons_append, nodesR, ih]
    cases nodeOf l s with
    | none => rfl
    | some v =>
      simp only [Option.bind_some]
      cases nodesR l a with
      | none => rfl
      | some x =>
        simp only [Option.bind_some, Option.map_some]
        cases nodesR l b <;> rfl

/-- The nodes of a list, if it is right. -/
def liftAll (l : LimD) (ss : List StmD) : Option (List Value) := if limP l ∧ ss.length ≤ 50 then nodesR l ss else none

def StmsEnd (w : World) (r : Option (List Value)) (e : Ending) (w' : World) : Prop :=
  match r with
  | some vs => (∃ val, e = .returned val ∧ w'.ownsRow (w.heap.size + 1) 181 1 val vs.length vs) ∧ Below w.heap.size w w'
  | none => Pan e ∧ Below w.heap.size w w'

theorem Tryz.info181 : (Tryz.prog.info? 181).map (fun i => (i.zero, i.size, i.bytes)) = some (some .nilIface, 1, 16) := by kernel_rfl

theorem splitS {ss : List StmD} {k : Nat} (h : k < ss.length) : ss = ss.take k ++ ss.getD k stm0 :: ss.drop (k + 1) := by
  have e : ss.getD k stm0 = ss[k] := by simp [List.getD_eq_getElem?_getD, List.getElem?_eq_getElem h]
  rw [e]
  simp

theorem takeS {ss : List StmD} {k : Nat} (h : k < ss.length) : ss.take (k + 1) = ss.take k ++ [ss.getD k stm0] := by
  have e : ss.getD k stm0 = ss[k] := by simp [List.getD_eq_getElem?_getD, List.getElem?_eq_getElem h]
  rw [e, List.take_succ_eq_append_getElem h]

set_option maxHeartbeats 2000000 in
theorem liftStms_any (ao : Option Addr) (n c : Nat) (ss : List StmD) (o s t v : Int) (w : World) (hn : n ≤ 9223372036854775807) (hs : StmsOf w ao n ss) :
    Calls Tryz.prog 99 #[.slice ao n c, .agg #[.int .i64 o, .int .i64 s, .int .i64 t, .int .i64 v]] w (StmsEnd w (liftAll ⟨o, s, t, v⟩ ss)) := by
  have HL := hid hs.1
  obtain ⟨lb, hlb⟩ : ∃ lb, lb = limB ⟨o, s, t, v⟩ := ⟨_, rfl⟩
  have CL : Hid (∀ w, Calls Tryz.prog 116 #[.agg #[.int .i64 o, .int .i64 s, .int .i64 t, .int .i64 v]] w fun e w' => e = .returned (.bool lb) ∧ Below w.heap.size w w') := fun w => by rw [hlb]; exact limitsOK_any o s t v w
  cases lb with
  | false =>
    have E : Hid (liftAll ⟨o, s, t, v⟩ ss = none) := hid (by unfold liftAll; rw [if_neg]; intro h; rw [show limB ⟨o, s, t, v⟩ = true from decide_eq_true h.1] at hlb; cases hlb)
    rw [E.out]
    clear hs hlb
    go_enter Tryz.func99, Tryz.ntmps99
    go_wp2_with (first | (go_at_call 116; refine (CL.out _).mono ?_; rintro e w1 ⟨rfl, hb⟩; have HB := hid hb; clear hb) | (go_at_call 119; refine (demand_no _ _).mono ?_; rintro e w2 ⟨rfl, hw⟩; obtain rfl := hw.symm))
    exact ⟨rfl, ⟨_, rfl⟩, (below1 _ _).trans (HB.out.mono (by simp))⟩
  | true =>
    have hlim : limP ⟨o, s, t, v⟩ := by have := hlb.symm; unfold limB at this; exact of_decide_eq_true this
    clear hlb
    by_cases h50 : n ≤ 50
    · have i50 : (n : Int) ≤ 50 := by omega
      have EA : Hid (liftAll ⟨o, s, t, v⟩ ss = nodesR ⟨o, s, t, v⟩ ss) := hid (by unfold liftAll; rw [if_pos ⟨hlim, by rw [HL.out]; exact h50⟩])
      obtain ⟨i0, hi, hz0, hz1, hz2⟩ := info_parts Tryz.info181
      go_enter Tryz.func99, Tryz.ntmps99
      go_wp2_with (first | (go_at_call 116; refine (CL.out _).mono ?_; rintro e w1 ⟨rfl, hb⟩; have HB0 := hid ((below1 _ _).trans (hb.mono (by simp))); have Q0 := hid (block_below (heap_alloc_new w _) hb); clear hb) | (go_at_call 119; refine (demand_yes _ _).mono ?_; rintro e w2 ⟨rfl, hw⟩; obtain rfl := hw.symm))
      go_loopw [5, 17] (fun nv i wr => ∃ (k : Nat) (vs : List Value), k ≤ n ∧ i = .int .i64 k ∧ nodesR ⟨o, s, t, v⟩ (ss.take k) = some vs ∧ vs.length = k ∧ wr.ownsRow (w.heap.size + 1) 181 1 nv k vs ∧ wr.heap[w.heap.size]? = some (.cells #[.int .i64 o, .int .i64 s, .int .i64 t, .int .i64 v] 93 (0, 0)) ∧ Below w.heap.size w wr) (fun _ i _ => n - (intOf i).toNat)
      case atStart => exact ⟨0, [], Nat.zero_le _, rfl, rfl, rfl, World.ownsRow_nil _ _ _ _, Q0.out, HB0.out⟩
      case round =>
        obtain ⟨k, vs, hk, rfl, hrun, hvl, ho, hq, hb⟩ := hrel
        have HB := hid hb
        have HQ := hid hq
        have HO := hid ho
        have HR := hid hrun
        have HVL := hid hvl
        have hszl := lt_of_block hq
        clear hq ho hrun hvl
        by_cases hlt : k < n
        · obtain ⟨b, off, rfl, hbl, hc⟩ := hs.2 (by omega)
          obtain ⟨sd, es⟩ : ∃ sd, sd = ss.getD k stm0 := ⟨_, rfl⟩
          have hk4 := hc k hlt
          rw [← es] at hk4
          obtain ⟨x1, x2, x3, co, cn, cc, x4, hcn, hit⟩ := hk4
          have HI : Hid (∀ w', Below wr.heap.size wr w' → ItemsOf w' co cn sd.code) := hid (fun w' h => hit.below (hb.trans (h.mono hb.size)))
          obtain ⟨kd, a, bb, code⟩ := sd
          have k1 : wr.cell? ⟨b, off + k * 4, none⟩ = some (.int .i64 kd) := (hb.cell (p := ⟨b, off + k * 4, none⟩) hbl).trans x1
          have k2 : wr.cell? ⟨b, off + k * 4 + 1, none⟩ = some (.int .i64 a) := (hb.cell (p := ⟨b, off + k * 4 + 1, none⟩) hbl).trans x2
          have k3 : wr.cell? ⟨b, off + k * 4 + 2, none⟩ = some (.int .i64 bb) := (hb.cell (p := ⟨b, off + k * 4 + 2, none⟩) hbl).trans x3
          have k4 : wr.cell? ⟨b, off + k * 4 + 3, none⟩ = some (.slice co cn cc) := (hb.cell (p := ⟨b, off + k * 4 + 3, none⟩) hbl).trans x4
          have ES := hid es
          have Q1 := hid (block_below HQ.out (below1 wr (.cells #[.int .i64 kd, .int .i64 a, .int .i64 bb, .slice co cn cc] 143)))
          obtain ⟨q10, q11, q12, q13⟩ := quad_cells Q1.out
          have L := hid (liftStm_any kd a bb co cn cc code o s t v (wr.alloc (.cells #[.int .i64 kd, .int .i64 a, .int .i64 bb, .slice co cn cc] 143)) hcn (HI.out _ (below1 _ _)))
          obtain ⟨ao5, m5, cap5, hnv⟩ : ∃ ao5 m5 cap5, u5 = .slice ao5 m5 cap5 := by
            rcases HO.out.2 with ⟨h, _⟩ | ⟨g, cap, cur, h, _⟩
            · exact ⟨_, _, _, h⟩
            · exact ⟨_, _, _, h⟩
          subst hnv
          clear hc hs hb es x1 x2 x3 x4 hit
          cases hnode : nodeOf ⟨o, s, t, v⟩ ⟨kd, a, bb, code⟩ with
          | none =>
            have EN : Hid (liftAll ⟨o, s, t, v⟩ ss = none) := hid (by
              rw [EA.out, splitS (ss := ss) (k := k) (by rw [HL.out]; exact hlt), nodesR_append, HR.out, ← ES.out]
              simp [nodesR, hnode])
            rw [hnode] at L
            unfold StmEnd at L
            simp only at L
            clear hnode
            go_wp2_with (go_at_call 120; refine L.out.mono ?_; rintro e w1 ⟨⟨sx, rfl⟩, hb1⟩; have B1 := hid hb1; clear hb1)
            refine ⟨rfl, ?_⟩
            rw [EN.out]
            exact ⟨⟨_, rfl⟩, (HB.out.alloc (by omega) _).trans (B1.out.mono (by simp; omega))⟩
          | some nd =>
            obtain ⟨y, x, hy⟩ := nodeOf_form hnode
            have EN : Hid (nodesR ⟨o, s, t, v⟩ (ss.take (k + 1)) = some (vs ++ [.iface y x])) := hid (by
              rw [takeS (by rw [HL.out]; exact hlt), nodesR_append, HR.out, ← ES.out]
              simp [nodesR, hnode, hy])
            rw [hnode] at L
            unfold StmEnd at L
            simp only [hy] at L
            clear hnode hy
            go_wp2_with (first | (go_at_call 120; refine L.out.mono ?_; rintro e w1 ⟨rfl, hb1⟩; have B1 := hid hb1; have O1 := hid (ownsRow_below (HO.out.alloc _) hb1); have Q2 := hid (block_below Q1.out hb1); clear hb1) | (at_builtin; refine wpList_append_own _ rfl (.tmp 21) (.tmp 25) 161 rfl (w.heap.size + 1) 181 i0 .nilIface 1 16 Tryz.underlying161 hi hz0 hz1 hz2 rfl (by decide) _ _ _ rfl (O1.out.alloc _) ⟨w1.heap.size, 0, none⟩ 1 1 [.iface y x] rfl rfl ?c1 ?c2 ?c3 ?c4 ?c5 ?_))
            case c1 =>
              intro j u hj
              match j, hj with
              | 0, hj => simp at hj; subst hj; simp [Addr.add]
            case c2 => intro u hu; simp at hu; subst hu; rfl
            case c3 => unfold maxLen; omega
            case c4 => omega
            case c5 => have := B1.out.size; simp at this ⊢; omega
            · intro v' w2 hown' hgrow _
              have O2 := hid hown'
              have G := hid hgrow
              clear hown' hgrow
              go_wp2
              go_roundw
              case rel =>
                have hrow : ∀ kk, (Value.slice ao5 m5 cap5).ownBlock = some kk → w.heap.size + 1 ≤ kk := fun kk e => (HO.out.lt kk e).1
                have s1 := B1.out.size
                simp at s1
                refine ⟨k + 1, _, by omega, by go_num, EN.out, by simp [HVL.out], O2.out, ?_, ?_⟩
                · rw [grown_block G.out (by simp; omega) (fun e => by have := hrow _ e; omega), heap_alloc_old _ _ (by omega)]
                  exact Q2.out
                · exact ((((HB.out.alloc (by omega) _).trans (B1.out.mono (by simp; omega))).alloc (by omega) _).grown G.out (by simp; omega) (fun kk e => by have := hrow kk e; omega))
              case measure => simp [intOf]; omega
        · have e : k = n := by omega
          subst e
          have ER : Hid (liftAll ⟨o, s, t, v⟩ ss = some vs) := hid (by rw [EA.out]; have := HR.out; rwa [List.take_of_length_le (by rw [HL.out]; exact Nat.le_refl _)] at this)
          clear hs hb
          go_wp2
          go_ret
          rw [ER.out]
          exact ⟨⟨_, rfl, by rw [HVL.out]; exact HO.out⟩, HB.out⟩
    · have i50 : decide ((n : Int) ≤ 50) = false := by simp; omega
      have E : Hid (liftAll ⟨o, s, t, v⟩ ss = none) := hid (by unfold liftAll; rw [if_neg]; intro h; rw [HL.out] at h; exact h50 h.2)
      rw [E.out]
      clear hs
      go_enter Tryz.func99, Tryz.ntmps99
      go_wp2_with (first | (go_at_call 116; refine (CL.out _).mono ?_; rintro e w1 ⟨rfl, hb⟩; have HB := hid hb; clear hb) | (go_at_call_of 119 (Value.bool true); refine (demand_yes _ _).mono ?_; rintro e w2 ⟨rfl, hw⟩; obtain rfl := hw.symm) | (go_at_call_of 119 (Value.bool false); refine (demand_no _ _).mono ?_; rintro e w2 ⟨rfl, hw⟩; obtain rfl := hw.symm))
      exact ⟨rfl, ⟨_, rfl⟩, (below1 _ _).trans (HB.out.mono (by simp))⟩

end Go.Proofs.YtkcbomhhdfgihaaGreat

import Derived.Test.YtjeckanjekgkkaaI1
import Derived.LaidEqlPtr
namespace Go.Proofs.Ytjeckanjekgkkaa
open Go.RowKit Go.Sort
attribute [local go_sem ↓] Go.wp_at_zero Go.wp_at_succ

set_option maxHeartbeats 400000 in
theorem depth_any (N : Nat → Nat) (ss : List StD) (T : TreeOK ss) (h200 : ss.length ≤ 200) (k : Nat) (hk : k < ss.length) (w : World) (hN : Nodes w N ss ss.length) :
    Calls Try.prog 59 #[.pointer (some ⟨N k, 0, none⟩)] w fun e w' => e = .returned (.int .i64 (((up ss k).length : Int) - 1)) ∧ Below w.heap.size w w' := by
  have C := hid (path_any N ss T h200 k hk w hN)
  have hu := up_len T k hk
  have hu1 : (up ss k).length ≤ 300 := by omega
  clear hN hu
  go_enter Try.func59, Try.ntmps59
  go_wp2_with (go_at_call 28; refine C.out.mono ?_; rintro e w1 ⟨g, cap, rfl, _, hb1⟩; have B1 := hid hb1; clear hb1)
  go_ret
  exact ⟨rfl, B1.out⟩

set_option maxHeartbeats 1600000 in
theorem drill_any (N : Nat → Nat) (ss : List StD) (tn : Nat) (G : GoodT ss tn) (k : Nat) (hk : k < ss.length) (w : World) (hN : NodesI w N ss ss.length) :
    Calls Try.prog 36 #[.pointer (some ⟨N k, 0, none⟩)] w fun e w' => ∃ v, e = .returned v ∧ OwnP w w' v N (down ss k) ∧ Below w.heap.size w w' := by
  obtain ⟨i0, hi, hz0, hz1, hz2⟩ := info_parts Try.info50
  have HN := hid hN
  have h200 := G.n2
  have HU := hid (down_len G (ss.length - k) k hk rfl)
  -- one step inwards
  have ST : Hid (∀ j, j < ss.length → ∃ p m, w.cell? ⟨N j, 2, none⟩ = some (.pointer p) ∧ ((m = 0 ∧ p = none ∧ down ss j = []) ∨ ∃ q, q < ss.length ∧ j < q ∧ m = ss.length - q ∧ p = some ⟨N q, 0, none⟩ ∧ down ss j = q :: down ss q)) := hid (by
    intro j hj
    have h2 := HN.out.2 j hj
    by_cases hneg : ini ss j < 0
    · exact ⟨none, 0, by rw [h2, iniV, if_pos hneg], .inl ⟨rfl, rfl, down_leaf hneg⟩⟩
    · rcases ini_good G hj with e | ⟨h3, h4⟩
      · omega
      · refine ⟨some ⟨N (ini ss j).toNat, 0, none⟩, ss.length - (ini ss j).toNat, by rw [h2, iniV, if_neg hneg], .inr ⟨(ini ss j).toNat, by omega, by omega, rfl, rfl, down_in G hj hneg⟩⟩)
  obtain ⟨p0, m0, c0, h0⟩ := ST.out k hk
  have nk := (HN.out.1 k hk).1
  have H0 := hid h0
  clear hN h0
  go_enter Try.func36, Try.ntmps36
  go_wp2
  go_loopg [3, 4] m0 (fun m l p wr => Below w.heap.size w wr ∧ ∃ pre : List Nat, wr.ownsRow w.heap.size 50 1 l pre.length (ptrs N pre) ∧ ((m = 0 ∧ p = .pointer none ∧ pre = down ss k) ∨ ∃ j, j < ss.length ∧ m = ss.length - j ∧ p = .pointer (some ⟨N j, 0, none⟩) ∧ down ss k = pre ++ j :: down ss j))
  case atStart =>
    refine ⟨Below.refl _ _, [], World.ownsRow_nil _ _ _ _, ?_⟩
    rcases H0.out with ⟨rfl, rfl, e⟩ | ⟨q, h1, _, rfl, rfl, e⟩
    · exact .inl ⟨rfl, rfl, e.symm⟩
    · exact .inr ⟨q, h1, rfl, rfl, e⟩
  case round =>
    obtain ⟨hb, pre, ho, hcase⟩ := hrel
    have HB := hid hb
    have HO := hid ho
    obtain ⟨ao, cap, hv⟩ := slice_of ho
    subst hv
    clear hb ho
    rcases hcase with ⟨rfl, rfl, rfl⟩ | ⟨j, hj, rfl, rfl, hpre⟩
    · go_wp2
      go_ret
      exact ⟨_, rfl, HO.out, HB.out⟩
    · have n1 := (HN.out.1 j hj).1
      have hlen : pre.length + 1 ≤ 300 := by
        have := HU.out
        rw [hpre, List.length_append, List.length_cons] at this
        omega
      have HP := hid hpre
      obtain ⟨p, m, c2, hst⟩ := ST.out j hj
      have HST := hid hst
      clear hpre hst
      go_wp2_with (at_builtin; refine wpList_append_lies _ rfl (.tmp 15) (.tmp 17) 46 rfl w.heap.size 50 i0 _ 1 8 Try.underlying46 hi hz0 hz1 hz2 rfl (by decide) _ _ _ rfl (HO.out.alloc _) ⟨wr.heap.size, 0, none⟩ 1 1 [.pointer (some ⟨N j, 0, none⟩)] rfl rfl (news_one _ _ _) (by intro u hu; simp at hu; subst hu; rfl) (by omega) (by unfold maxLen; omega) (by omega) (by have := HB.out.size; simp; omega) (wr.heap.size + 1) (by simp) ?_)
      intro g cap' w2 hown hgrow _ _
      have B2 : Hid (Below w.heap.size w w2) := hid ((HB.out.alloc HB.out.size _).grown hgrow (by have := HB.out.size; simp; omega) (fun kk e => (HO.out.lt kk e).1))
      have c1 := (B2.out.cell (p := ⟨N j, 2, none⟩) n1).trans c2
      have O2 := hid hown
      clear hown hgrow
      go_wp2
      go_roundg m
      case measure =>
        rcases HST.out with ⟨rfl, _, _⟩ | ⟨q, h1, h2, rfl, _, _⟩ <;> omega
      case rel =>
        refine ⟨B2.out, pre ++ [j], by simpa [ptrs] using O2.out, ?_⟩
        rcases HST.out with ⟨rfl, rfl, e⟩ | ⟨q, h1, h2, rfl, rfl, e⟩
        · exact .inl ⟨rfl, rfl, by rw [HP.out, e]⟩
        · exact .inr ⟨q, h1, rfl, rfl, by rw [HP.out, e]; simp⟩

def NodeB (w : World) (N : Nat → Nat) (n : Nat) : Prop := ∀ k, k < n → ∃ cs, w.heap[N k]? = some (.cells cs 58 (0, 0))
theorem NodeB.below {w w' : World} {N : Nat → Nat} {n : Nat} (h : NodeB w N n) (hb : Below w.heap.size w w') : NodeB w' N n := fun k hk => by
  obtain ⟨cs, hc⟩ := h k hk
  exact ⟨cs, block_below hc hb⟩
theorem sizeNode : (Try.prog.info? 58).map (·.size) = some 4 := by kernel_rfl
theorem eqPtr {w : World} {N : Nat → Nat} {ss : List StD} {n : Nat} (hN : Nodes w N ss n) (hB : NodeB w N n) {i j : Nat} (hi : i < n) (hj : j < n) {b : Bool} (hb : b = decide (i = j)) :
    (binOp .eql 50 (.pointer (some ⟨N i, 0, none⟩)) (.pointer (some ⟨N j, 0, none⟩))).run Try.prog w = .ok (.bool b) w := by
  obtain ⟨q, hq, hqs⟩ := Option.map_eq_some_iff.1 sizeNode
  by_cases e : i = j
  · subst e
    rw [hb, decide_eq_true rfl]
    exact run_eql_ptr_same w _ Try.underlying50 hq
  · rw [hb, decide_eq_false e]
    obtain ⟨ca, ha⟩ := hB i hi
    obtain ⟨cb, hb⟩ := hB j hj
    exact run_eql_ptr_other w Try.underlying50 hq (by rw [hqs]; decide) (fun h => e (hN.inj hi hj (by simpa using h))) ha hb

set_option maxHeartbeats 800000 in
theorem isInside_any (N : Nat → Nat) (ss : List StD) (T : TreeOK ss) (k a : Nat) (hk : k < ss.length) (ha : a < ss.length) (w : World) (hN : Nodes w N ss ss.length) (hNB : NodeB w N ss.length) :
    Calls Try.prog 49 #[.pointer (some ⟨N k, 0, none⟩), .pointer (some ⟨N a, 0, none⟩)] w fun e w' => e = .returned (.bool (aboveB ss a k)) ∧ w' = w := by
  have HN := hid hN
  -- one step outwards
  have ST : Hid (∀ j, j < ss.length → ∃ p m, w.cell? ⟨N j, 1, none⟩ = some (.pointer p) ∧ ((m = 0 ∧ p = none ∧ (up ss j).tail = []) ∨ ∃ q, q < ss.length ∧ q < j ∧ m = q + 1 ∧ p = some ⟨N q, 0, none⟩ ∧ (up ss j).tail = up ss q)) := hid (by
    intro j hj
    have h2 := (HN.out j hj).2.2
    by_cases h0 : j = 0
    · subst h0
      exact ⟨none, 0, by rw [h2]; rfl, .inl ⟨rfl, rfl, by simp [up_zero]⟩⟩
    · have ht := T.2 j (by omega) hj
      exact ⟨some ⟨N (par ss j).toNat, 0, none⟩, (par ss j).toNat + 1, by rw [h2, parV, if_neg h0], .inr ⟨(par ss j).toNat, by omega, by omega, rfl, rfl, up_tail T (by omega) hj⟩⟩)
  obtain ⟨p0, m0, c0, h0⟩ := ST.out k hk
  have H0 := hid h0
  clear hN h0
  go_enter Try.func49, Try.ntmps49
  go_wp2
  go_loopg [5] m0 (fun m p wr => wr = w ∧ ((m = 0 ∧ p = .pointer none ∧ aboveB ss a k = false) ∨ ∃ j, j < ss.length ∧ m = j + 1 ∧ p = .pointer (some ⟨N j, 0, none⟩) ∧ aboveB ss a k = decide (a ∈ up ss j)))
  case atStart =>
    refine ⟨rfl, ?_⟩
    rcases H0.out with ⟨rfl, rfl, e⟩ | ⟨q, h1, _, rfl, rfl, e⟩
    · exact .inl ⟨rfl, rfl, by simp [aboveB, e]⟩
    · exact .inr ⟨q, h1, rfl, rfl, by simp [aboveB, e]⟩
  case round =>
    obtain ⟨rfl, hcase⟩ := hrel
    rcases hcase with ⟨rfl, rfl, he⟩ | ⟨j, hj, rfl, rfl, he⟩
    · have HE := hid he
      clear he
      go_wp2
      go_ret
      exact ⟨ret_bool HE.out.symm, rfl⟩
    · have HE := hid he
      clear he
      by_cases e : j = a
      · subst e
        have hq := eqPtr HN.out hNB hj ha (b := true) (by simp)
        go_wp2
        go_ret
        refine ⟨ret_bool ?_, rfl⟩
        rw [HE.out, up_form T hj]
        simp
      · have hq := eqPtr HN.out hNB hj ha (b := false) (by simp [e])
        obtain ⟨p, m, c2, hst⟩ := ST.out j hj
        have HST := hid hst
        clear hst
        go_wp2
        go_roundg m
        case measure =>
          rcases HST.out with ⟨rfl, _, _⟩ | ⟨q, h1, h2, rfl, _, _⟩ <;> omega
        case rel =>
          refine ⟨by first | rfl | trivial, ?_⟩
          have hm : decide (a ∈ up ss j) = decide (a ∈ (up ss j).tail) := by
            rw [Bool.eq_iff_iff, decide_eq_true_iff, decide_eq_true_iff]
            refine ⟨fun h => ?_, List.mem_of_mem_tail⟩
            rw [up_form T hj] at h
            rcases List.mem_cons.1 h with h | h
            · exact absurd h.symm e
            · exact h
          rcases HST.out with ⟨rfl, rfl, e2⟩ | ⟨q, h1, h2, rfl, rfl, e2⟩
          · exact .inl ⟨rfl, rfl, by rw [HE.out, hm, e2]; simp⟩
          · exact .inr ⟨q, h1, rfl, rfl, by rw [HE.out, hm, e2]⟩

set_option maxHeartbeats 800000 in
theorem indices_any (N : Nat → Nat) (ss : List StD) (l : List Nat) (hl : l.length ≤ 300) (hm : ∀ x, x ∈ l → x < ss.length) (v : Value) (w0 w : World) (hN : Nodes w N ss ss.length) (ho : OwnP w0 w v N l) :
    Calls Try.prog 27 #[v] w fun e w' => ∃ g cap, e = .returned (.slice (some ⟨g, 0, none⟩) l.length cap) ∧ OwnI w w' (.slice (some ⟨g, 0, none⟩) l.length cap) l ∧ Below w.heap.size w w' := by
  obtain ⟨i0, hi, hz0, hz1, hz2⟩ := info_parts Try.info3
  have HN := hid hN
  have HO := hid ho
  obtain ⟨ao, c, hv⟩ := slice_of ho
  subst hv
  have HC : Hid (∀ k, k < l.length → ∃ g, ao = some ⟨g, 0, none⟩ ∧ g < w.heap.size ∧ w.cell? ⟨g, k, none⟩ = some (.pointer (some ⟨N (l.getD k 0), 0, none⟩))) := hid (by
    intro k hk
    obtain ⟨g, cap, e, _, h3⟩ := World.ownsRow.form HO.out (by omega)
    simp at e
    obtain ⟨rfl, rfl⟩ := e
    refine ⟨g, rfl, h3, ?_⟩
    rw [World.ownsRow.cellAt HO.out k (by omega)]
    simp [ptrs, List.getD_eq_getElem?_getD, hk])
  have HM : Hid (∀ k, k < l.length → l.getD k 0 < ss.length) := hid (by
    intro k hk
    apply hm
    rw [List.getD_eq_getElem?_getD, List.getElem?_eq_getElem hk]
    exact List.getElem_mem _)
  clear hN ho hm
  go_enter Try.func27, Try.ntmps27
  go_wp2
  go_loopw [3, 9] (fun lv i wr => ∃ k : Nat, k ≤ l.length ∧ i = .int .i64 k ∧ (∃ g cap, lv = .slice (some ⟨g, 0, none⟩) k cap) ∧ wr.ownsRow w.heap.size 3 1 lv k (ints (l.take k)) ∧ Below w.heap.size w wr) (fun _ i _ => l.length - (intOf i).toNat)
  case atStart => exact ⟨0, Nat.zero_le _, rfl, ⟨_, _, rfl⟩, by simpa [ints, OwnI] using own_nil w w (Nat.le_refl _), below1 _ _⟩
  case round =>
    obtain ⟨k, hk, rfl, ⟨g, cap, rfl⟩, ho, hb⟩ := hrel
    have HB := hid hb
    have HO' := hid ho
    clear hb ho
    by_cases hlt : k < l.length
    · obtain ⟨gl, rfl, hgl, hc⟩ := HC.out k hlt
      have hx := HM.out k hlt
      obtain ⟨x, ex⟩ : ∃ x, x = l.getD k 0 := ⟨_, rfl⟩
      rw [← ex] at hc hx
      obtain ⟨x1, x2, _⟩ := HN.out x hx
      have c1 := (HB.out.cell (p := ⟨gl, k, none⟩) hgl).trans hc
      have c2 := (HB.out.cell (p := ⟨N x, 0, none⟩) x1).trans x2
      have ET : Hid (ints (l.take (k + 1)) = ints (l.take k) ++ [.int .i64 (x : Int)]) := hid (by
        have eg : l[k] = x := by rw [ex, List.getD_eq_getElem?_getD, List.getElem?_eq_getElem hlt]; rfl
        rw [List.take_succ_eq_append_getElem hlt, eg]
        simp [ints])
      have kn : (k : Int) < (l.length : Int) := by omega
      clear hc x2 ex
      go_wp2_with (at_builtin; refine wpList_append_lies _ rfl (.tmp 13) (.tmp 18) 27 rfl w.heap.size 3 i0 _ 1 8 Try.underlying27 hi hz0 hz1 hz2 rfl (by decide) _ _ _ rfl (HO'.out.alloc _) ⟨wr.heap.size, 0, none⟩ 1 1 [.int .i64 (x : Int)] rfl rfl (news_one _ _ _) (by intro u hu; simp at hu; subst hu; rfl) (by omega) (by unfold maxLen; omega) (by omega) (by have := HB.out.size; simp; omega) (wr.heap.size + 1) (by simp) ?_)
      intro g' cap' w2 hown hgrow _ _
      have B2 : Hid (Below w.heap.size w w2) := hid ((HB.out.alloc HB.out.size _).grown hgrow (by have := HB.out.size; simp; omega) (fun kk e => (HO'.out.lt kk e).1))
      have O2 := hid hown
      clear hown hgrow
      go_wp2
      go_roundw
      case rel => exact ⟨k + 1, by omega, by go_num, ⟨g', cap', rfl⟩, by rw [ET.out]; exact O2.out, B2.out⟩
      case measure => simp [intOf]; omega
    · have e : k = l.length := by omega
      subst e
      go_wp2
      go_ret
      exact ⟨g, cap, rfl, by simpa [OwnI] using HO'.out, HB.out⟩
end Go.Proofs.Ytjeckanjekgkkaa

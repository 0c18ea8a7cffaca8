import Derived.Test.YtjeckanjekgkkaaI5
namespace Go.Proofs.Ytjeckanjekgkkaa
open Go.RowKit Go.Sort
attribute [local go_sem ↓] Go.wp_at_zero Go.wp_at_succ

/-- The tree as it is handed on. -/
def TreeAt (w w' : World) (tv : Value) (N : Nat → Nat) (ss : List StD) : Prop := NodesI w' N ss ss.length ∧ NodeB w' N ss.length ∧ w'.ownsRow w.heap.size 50 1 tv ss.length (ptrs N (List.range ss.length))
def LiftRes (w : World) (ss : List StD) (f : Int × Int) (e : Ending) (w' : World) : Prop :=
  Below w.heap.size w w' ∧ ((¬ f.1 = 0 ∧ e = .returned (.tuple #[.slice none 0 0, .int .i64 f.1, .int .i64 f.2])) ∨ (f = (0, 0) ∧ ∃ N tv, e = .returned (.tuple #[tv, .int .i64 0, .int .i64 0]) ∧ TreeAt w w' tv N ss))

theorem forest_new {w : World} {st nd : Obj} {B : Nat} {N : Nat → Nat} {V I : Nat → Value} {ss : List StD} {m : Nat} (h : Forest w B N V I ss m) : Forest ((w.alloc st).alloc nd) B N V I ss m := h.below (below2 _ _ _)

/-- What the first loop keeps. -/
structure Inv1 (w wr : World) (cs : Array Value) (N : Nat → Nat) (V : Nat → Value) (tv : Value) (ss : List StD) (m : Nat) : Prop where
  forest : Forest wr w.heap.size N V (fun _ => .pointer none) ss m
  tree : TreeRow wr w.heap.size N V tv m
  box : wr.heap[w.heap.size]? = some (.cells cs 32 (0, 0))
  below : Below w.heap.size w wr
  good : ∀ j, j < m → badP ss j = false

/-- What the third loop keeps. -/
structure Inv3 (w wr : World) (cs : Array Value) (N : Nat → Nat) (V : Nat → Value) (tv : Value) (ss : List StD) (p : Nat) : Prop where
  forest : Forest wr w.heap.size N V (fun k => if k < p then iniV N ss k else .pointer none) ss ss.length
  tree : TreeRow wr w.heap.size N V tv ss.length
  box : wr.heap[w.heap.size]? = some (.cells cs 32 (0, 0))
  below : Below w.heap.size w wr
  good : ∀ j, j < p → badI ss j = false
theorem inv3_same {w wr : World} {cs : Array Value} {N : Nat → Nat} {V : Nat → Value} {tv : Value} {ss : List StD} {p : Nat} (h : Inv3 w wr cs N V tv ss p) (hneg : ini ss p = -1) (hg : badI ss p = false) : Inv3 w wr cs N V tv ss (p + 1) := by
  refine ⟨h.forest.congrI (fun k _ => ?_), h.tree, h.box, h.below, fun j hj => ?_⟩
  · by_cases e : k = p
    · subst e
      rw [if_neg (by omega), if_pos (by omega), iniV, if_pos (by omega)]
    · by_cases e2 : k < p
      · rw [if_pos e2, if_pos (by omega)]
      · rw [if_neg e2, if_neg (by omega)]
  · by_cases e : j = p
    · subst e; exact hg
    · exact h.good j (by omega)
theorem inv3_set {w wr : World} {cs : Array Value} {N : Nat → Nat} {V : Nat → Value} {tv : Value} {ss : List StD} {p x : Nat} (h : Inv3 w wr cs N V tv ss p) (hp : p < ss.length) (hx : (x : Int) = ini ss p) (hg : badI ss p = false) : Inv3 w (wr.setCell ⟨N p, 2, none⟩ (.pointer (some ⟨N x, 0, none⟩))) cs N V tv ss (p + 1) := by
  have hb := (h.forest.node p hp).1
  refine ⟨(forest_initial (x := x) h.forest hp).congrI (fun k _ => ?_), ⟨ownsRow_of h.tree.row (fun q e => heap_setCell_other _ _ _ _ ?_), h.tree.apart⟩, ?_, h.below.setCell hb _, fun j hj => ?_⟩
  · by_cases e : k = p
    · subst e
      rw [if_pos rfl, if_pos (by omega), iniV, if_neg (by omega), ← hx, Int.toNat_natCast]
    · rw [if_neg e]
      by_cases e2 : k < p
      · rw [if_pos e2, if_pos (by omega)]
      · rw [if_neg e2, if_neg (by omega)]
  · rintro rfl
    exact row_node h.tree.row (h.forest.node p hp).2 e
  · rw [heap_setCell_other _ _ _ _ ?_]
    · exact h.box
    · intro e
      have h7 := (h.forest.node p hp).2
      rw [← show w.heap.size = N p from e, h.box] at h7
      simp at h7
  · by_cases e : j = p
    · subst e; exact hg
    · exact h.good j (by omega)

theorem inv_tail {w w2 w3 : World} {lit : Obj} {cs : Array Value} {N : Nat → Nat} {V : Nat → Value} {tv : Value} {ss : List StD} {m H g cap : Nat} (F : Forest w2 w.heap.size (upN N m H) V (fun _ => .pointer none) ss (m + 1))
    (ht : w2.ownsRow w.heap.size 50 1 tv m (ptrs N (List.range m))) (ha : ∀ k b, k < m + 1 → (V k).ownBlock = some b → tv.ownBlock ≠ some b)
    (box : w2.heap[w.heap.size]? = some (.cells cs 32 (0, 0))) (below : Below w.heap.size w w2) (good : ∀ j, j < m + 1 → badP ss j = false)
    (hown : w3.ownsRow w.heap.size 50 1 (.slice (some ⟨g, 0, none⟩) (m + 1) cap) (m + 1) (ptrs N (List.range m) ++ [.pointer (some ⟨H, 0, none⟩)])) (hgrow : (w2.alloc lit).grownBy w3 tv.ownBlock) (hat : tv.ownBlock = some g ∨ g = w2.heap.size + 1) :
    Inv1 w w3 cs (upN N m H) V (.slice (some ⟨g, 0, none⟩) (m + 1) cap) ss (m + 1) := by
  obtain ⟨h1, h2⟩ := tree_next F ht ha hown hgrow hat
  refine ⟨h1, h2, ?_, (below.alloc below.size lit).grown hgrow (by have := below.size; simp; omega) (fun kk e => (ht.lt kk e).1), good⟩
  have hl := lt_of_block box
  rw [grown_block hgrow (by simp; omega) (row_away ht (by decide) box), heap_alloc_old _ _ hl]
  exact box

theorem inv_first {w wr w3 : World} {st lit : Obj} {cs : Array Value} {N : Nat → Nat} {V : Nat → Value} {tv : Value} {ss : List StD} {g cap : Nat} (h : Inv1 w wr cs N V tv ss 0) (h0 : par ss 0 = -1)
    (hown : w3.ownsRow w.heap.size 50 1 (.slice (some ⟨g, 0, none⟩) (0 + 1) cap) (0 + 1) (ptrs N (List.range 0) ++ [.pointer (some ⟨wr.heap.size + 1, 0, none⟩)]))
    (hgrow : (((wr.alloc st).alloc (.cells #[.int .i64 0, .pointer none, .pointer none, .slice none 0 0] 58)).alloc lit).grownBy w3 tv.ownBlock) (hat : tv.ownBlock = some g ∨ g = wr.heap.size + 1 + 1 + 1) :
    Inv1 w w3 cs (upN N 0 (wr.heap.size + 1)) (fun k => if k = 0 then .slice none 0 0 else V k) (.slice (some ⟨g, 0, none⟩) (0 + 1) cap) ss (0 + 1) := by
  have hsz := h.below.size
  have hl := lt_of_block h.box
  refine inv_tail (w2 := (wr.alloc st).alloc (.cells #[.int .i64 0, .pointer none, .pointer none, .slice none 0 0] 58)) ?_ (ownsRow_below h.tree.row (below2 _ _ _)) ?_ (block_below h.box (below2 _ _ _)) (h.below.trans ((below2 _ _ _).mono hsz)) ?_ hown hgrow (by simpa using hat)
  · exact forest_first (by omega) h0 (by have := heap_alloc_new (wr.alloc st) (.cells #[.int .i64 0, .pointer none, .pointer none, .slice none 0 0] 58); simpa using this)
  · intro k b hk e
    have : k = 0 := by omega
    subst this
    simp [Value.ownBlock] at e
  · intro j hj
    have : j = 0 := by omega
    subst this
    simp [badP, h0]

theorem inv_next {w wr w2 w3 : World} {st lit : Obj} {cs : Array Value} {N : Nat → Nat} {V : Nat → Value} {tv cv' : Value} {ss : List StD} {m p g cap : Nat} (h : Inv1 w wr cs N V tv ss m) (hm : 0 < m) (hp : par ss m = p) (hpm : p < m)
    (hP2 : w2.heap[N p]? = some (.cells #[.int .i64 (p : Int), parV N ss p, .pointer none, cv'] 58 (0, 0)))
    (hH2 : w2.heap[wr.heap.size + 1]? = some (.cells #[.int .i64 (m : Int), .pointer (some ⟨N p, 0, none⟩), .pointer none, .slice none 0 0] 58 (0, 0)))
    (ho : w2.ownsRow w.heap.size 50 1 cv' ((kids ss m p).length + 1) (ptrs N (kids ss m p) ++ [.pointer (some ⟨wr.heap.size + 1, 0, none⟩)]))
    (hcv : cv'.ownBlock = (V p).ownBlock ∨ ∃ b, cv'.ownBlock = some b ∧ ((wr.alloc st).alloc (.cells #[.int .i64 (m : Int), .pointer none, .pointer none, .slice none 0 0] 58)).heap.size ≤ b)
    (hk : Kept (fun q => q = N p ∨ q = wr.heap.size + 1 ∨ (V p).ownBlock = some q) ((wr.alloc st).alloc (.cells #[.int .i64 (m : Int), .pointer none, .pointer none, .slice none 0 0] 58)) w2)
    (hown : w3.ownsRow w.heap.size 50 1 (.slice (some ⟨g, 0, none⟩) (m + 1) cap) (m + 1) (ptrs N (List.range m) ++ [.pointer (some ⟨wr.heap.size + 1, 0, none⟩)]))
    (hgrow : (w2.alloc lit).grownBy w3 tv.ownBlock) (hat : tv.ownBlock = some g ∨ g = w2.heap.size + 1) :
    Inv1 w w3 cs (upN N m (wr.heap.size + 1)) (fun k => if k = m then .slice none 0 0 else if k = p then cv' else V k) (.slice (some ⟨g, 0, none⟩) (m + 1) cap) ss (m + 1) := by
  have hsz := h.below.size
  have hl := lt_of_block h.box
  have hg := h.good
  have h00 : par ss 0 = -1 := by have := hg 0 hm; simpa [badP] using this
  have hT : ∀ i, 0 < i → i < m → 0 ≤ par ss i ∧ par ss i < i := by
    intro i hi hl
    have := hg i hl
    rw [badP, if_neg (by omega)] at this
    simpa using this
  have hbox1 := block_below h.box (below2 wr st (.cells #[.int .i64 (m : Int), .pointer none, .pointer none, .slice none 0 0] 58))
  have hF1 : Forest ((wr.alloc st).alloc (.cells #[.int .i64 (m : Int), .pointer none, .pointer none, .slice none 0 0] 58)) w.heap.size N V (fun _ => .pointer none) ss m := forest_new h.forest
  have hrow1 := ownsRow_below h.tree.row (below2 wr st (.cells #[.int .i64 (m : Int), .pointer none, .pointer none, .slice none 0 0] 58))
  have F := forest_next (H := wr.heap.size + 1) hF1 hT h00 hm hp hpm (by omega) (fun k hk' e => by have := h.forest.lt hk'; omega) hP2 hH2 ho hcv (by have := heap_alloc_new (wr.alloc st) (.cells #[.int .i64 (m : Int), .pointer none, .pointer none, .slice none 0 0] 58); simpa using this) hk
  refine inv_tail F ?_ ?_ ?_ (Below.trans (h.below.trans ((below2 _ _ _).mono hsz)) (hk.below (by simp; omega) ?_)) ?_ hown hgrow hat
  · refine ownsRow_of hrow1 (fun b e => hk.block b (hrow1.lt b e).2 ?_)
    rintro (e4 | e4 | e4)
    · subst e4; exact row_node hrow1 (hF1.node p hpm).2 e
    · have := (h.tree.row.lt b e).2; omega
    · exact h.tree.apart p b hpm e4 e
  · intro k b hk' e
    by_cases ek : k = m
    · simp [ek, Value.ownBlock] at e
    · simp only [ek, if_false] at e
      by_cases ep : k = p
      · simp only [ep, if_true] at e
        rcases hcv with h5 | ⟨b', h5, h6⟩
        · rw [h5] at e; exact h.tree.apart p b hpm e
        · rw [h5] at e
          simp at e h6
          intro e6
          have := (h.tree.row.lt b e6).2
          omega
      · simp only [ep, if_false] at e
        exact h.tree.apart k b (by omega) e
  · rw [hk.block _ (lt_of_block hbox1) ?_]
    · exact hbox1
    · rintro (e4 | e4 | e4)
      · have h7 := (hF1.node p hpm).2
        rw [← e4, hbox1] at h7
        simp at h7
      · omega
      · exact row_away (hF1.kid p hpm) (by decide) hbox1 e4
  · rintro q (e4 | e4 | e4)
    · rw [e4]; exact (h.forest.node p hpm).1
    · omega
    · exact ((h.forest.kid p hpm).lt q e4).1
  · intro j hj
    by_cases ej : j = m
    · subst ej
      rw [badP, if_neg (by omega), hp]
      simp
      omega
    · exact hg j (by omega)

set_option maxRecDepth 100000 in
set_option maxHeartbeats 6400000 in
theorem liftTree_any (so to : Option Addr) (n sc tn tc : Nat) (ss : List StD) (o s t v : Int) (w : World) (hn : n ≤ 9223372036854775807) (htn : tn ≤ 9223372036854775807) (hs : StatesOf w so n ss) :
    Calls Try.prog 43 #[.agg #[.slice so n sc, .slice to tn tc], .agg #[.int .i64 o, .int .i64 s, .int .i64 t, .int .i64 v]] w (LiftRes w ss (faultOf ss tn (limB ⟨o, s, t, v⟩))) := by
  have HL := hid hs.1
  have CC := hid (countsOK_any so to n sc tn tc o s t v ((w.alloc (.cells #[.slice so n sc, .slice to tn tc] 32)).alloc (.cells #[.int .i64 o, .int .i64 s, .int .i64 t, .int .i64 v] 70)) hn htn)
  obtain ⟨lb, hlb⟩ : ∃ lb, lb = limB ⟨o, s, t, v⟩ := ⟨_, rfl⟩
  rw [← hlb] at CC ⊢
  obtain ⟨cb, hcb⟩ : ∃ cb, cb = cntB n tn lb := ⟨_, rfl⟩
  rw [← hcb] at CC
  have HCB := hid hcb
  clear hlb hcb
  cases cb with
  | false =>
    have E : Hid (faultOf ss tn lb = (1, 0)) := hid (fault_count (by
      have := HCB.out
      unfold cntB at this
      have := of_decide_eq_false this.symm
      rw [HL.out]
      exact this))
    clear hs
    go_enter Try.func43, Try.ntmps43
    go_wp2_with (go_at_call 57; refine CC.out.mono ?_; rintro e w1 ⟨rfl, hb1⟩; have B1 := hid hb1; clear hb1)
    go_ret3
    rw [E.out]
    exact ⟨(below2 _ _ _).trans (B1.out.mono (by simp; omega)), .inl ⟨by simp, rfl⟩⟩
  | true =>
    obtain ⟨n1, n2, h500, hlb⟩ : 1 ≤ n ∧ n ≤ 200 ∧ tn ≤ 500 ∧ lb = true := by have := HCB.out; unfold cntB at this; exact of_decide_eq_true this.symm
    subst hlb
    have HC : Hid (CntOK ss tn true) := hid (by unfold CntOK; rw [HL.out]; exact ⟨n1, n2, h500, rfl⟩)
    obtain ⟨b, off, rfl, hbl, hc⟩ := hs.2 (by omega)
    have HA := hid hc
    obtain ⟨i0, hi, hz0, hz1, hz2⟩ := info_parts Try.info50
    obtain ⟨cs, hcs⟩ : ∃ cs : Array Value, cs = #[.slice (some ⟨b, off, none⟩) n sc, .slice to tn tc] := ⟨_, rfl⟩
    have HCS := hid hcs
    clear hs hc hcs
    go_enter Try.func43, Try.ntmps43
    go_wp2_with (go_at_call 57; refine CC.out.mono ?_; rintro e w1 ⟨rfl, hb1⟩; have Q0 := hid (block_below (block_below (heap_alloc_new w _) (below1 _ _)) hb1); have B0 := hid ((below2 _ _ _).trans (hb1.mono (by simp; omega))); obtain ⟨q0, q1⟩ := two_cells Q0.out; clear hb1)
    -- the nodes are made
    go_loopw [7, 22] (fun tv i wr => ∃ m : Nat, m ≤ n ∧ i = .int .i64 m ∧ ∃ N V, Inv1 w wr cs N V tv ss m) (fun _ i _ => n - (intOf i).toNat)
    case atStart => exact ⟨0, Nat.zero_le _, rfl, fun _ => 0, fun _ => .slice none 0 0, ⟨fun k h => absurd h (by omega), fun k h => absurd h (by omega), fun k j b h => absurd h (by omega)⟩, ⟨World.ownsRow_nil _ _ _ _, fun k b h => absurd h (by omega)⟩, by rw [HCS.out]; exact Q0.out, B0.out, fun j h => absurd h (by omega)⟩
    case round =>
      obtain ⟨m, hm, rfl, N, V, hI⟩ := hrel
      have HI := hid hI
      obtain ⟨ao, tcap, htv⟩ := slice_of hI.tree.row
      subst htv
      obtain ⟨r0, r1⟩ := two_cells (show wr.heap[w.heap.size]? = some (.cells #[.slice (some ⟨b, off, none⟩) n sc, .slice to tn tc] 32 (0, 0)) by rw [← HCS.out]; exact hI.box)
      have hb := hI.below
      have hz : w.heap.size ≤ wr.heap.size := hb.size
      have hzl : w.heap.size < wr.heap.size := lt_of_block hI.box
      clear hI
      by_cases hlt : m < n
      · obtain ⟨k1, k2, ⟨co, cn, cc, k3, _, _⟩, ⟨do_, dn, dc, k4, _, _⟩⟩ := HA.out m hlt
        have k1 : wr.cell? ⟨b, off + m * 4, none⟩ = some (.int .i64 (par ss m)) := (hb.cell (p := ⟨b, off + m * 4, none⟩) hbl).trans k1
        have k2 : wr.cell? ⟨b, off + m * 4 + 1, none⟩ = some (.int .i64 (ini ss m)) := (hb.cell (p := ⟨b, off + m * 4 + 1, none⟩) hbl).trans k2
        have k3 := (hb.cell (p := ⟨b, off + m * 4 + 2, none⟩) hbl).trans k3
        have k4 := (hb.cell (p := ⟨b, off + m * 4 + 3, none⟩) hbl).trans k4
        obtain ⟨pv, hpv⟩ : ∃ pv, pv = par ss m := ⟨_, rfl⟩
        obtain ⟨iv, hiv⟩ : ∃ iv, iv = ini ss m := ⟨_, rfl⟩
        rw [← hpv] at k1
        rw [← hiv] at k2
        have HPV := hid hpv
        have mn : (m : Int) < (n : Int) := by omega
        clear hb hpv hiv
        by_cases h0 : m = 0
        · subst h0
          simp only [Nat.zero_mul, Nat.add_zero] at k1 k2 k3 k4
          have WB : Hid (∀ w, Calls Try.prog 26 #[.int .i64 pv, .int .i64 0] w fun e w' => e = .returned (.bool false) ∧ w' = w) := hid (fun w => by
            have := within_any pv 0 w
            rwa [show decide (0 ≤ pv ∧ pv < 0) = false by rw [decide_eq_false_iff_not]; omega] at this)
          by_cases hp : pv = -1
          · subst hp
            go_wp2_with (first | (go_at_call 26; refine (WB.out _).mono ?_; rintro e w2 ⟨rfl, hw⟩; obtain rfl := hw.symm) | (at_builtin; refine wpList_append_lies _ rfl (.tmp 51) (.tmp 53) 46 rfl w.heap.size 50 i0 _ 1 8 Try.underlying46 hi hz0 hz1 hz2 rfl (by decide) _ _ _ rfl (((HI.out.tree.row.alloc _).alloc _).alloc _) ⟨wr.heap.size + 1 + 1, 0, none⟩ 1 1 [.pointer (some ⟨wr.heap.size + 1, 0, none⟩)] rfl rfl (by simpa using news_one ((wr.alloc (.cells #[.int .i64 (-1), .int .i64 iv, .slice co cn cc, .slice do_ dn dc] 74)).alloc (.cells #[.int .i64 0, .pointer none, .pointer none, .slice none 0 0] 58)) (.pointer (some ⟨wr.heap.size + 1, 0, none⟩)) 50) (by intro u hu; simp at hu; subst hu; rfl) (by omega) (by unfold maxLen; omega) (by omega) (by simp; omega) (wr.heap.size + 1 + 1 + 1) (by simp) ?_))
            intro g cap' w3 hown hgrow hat _
            have NI := hid (inv_first HI.out HPV.out.symm hown hgrow hat)
            clear hown hgrow hat
            go_wp2
            go_roundw
            case rel => exact ⟨0 + 1, by omega, by go_num, _, _, NI.out⟩
            case measure => simp [intOf]; omega
          · have hp' : (pv != -1) = true := by simpa using hp
            have E : Hid (faultOf ss tn true = (2, ((0 : Nat) : Int))) := hid (fault_tree HC.out (by rw [HL.out]; exact hlt) (by simp [badP, ← HPV.out, hp]) (fun j h => absurd h (by omega)))
            go_wp2_with (go_at_call 26; refine (WB.out _).mono ?_; rintro e w2 ⟨rfl, hw⟩; obtain rfl := hw.symm)
            go_ret3
            rw [E.out]
            exact ⟨HI.out.below.trans ((below2 _ _ _).mono hz), .inl ⟨by simp, rfl⟩⟩
        · have kp : (0 : Int) < (m : Int) := by omega
          obtain ⟨wb, hwb⟩ : ∃ wb, wb = decide (0 ≤ pv ∧ pv < (m : Int)) := ⟨_, rfl⟩
          have WB : Hid (∀ w, Calls Try.prog 26 #[.int .i64 pv, .int .i64 (m : Int)] w fun e w' => e = .returned (.bool wb) ∧ w' = w) := hid (fun w => by rw [hwb]; exact within_any pv m w)
          have HWB := hid hwb
          clear hwb
          cases wb with
          | false =>
            have E : Hid (faultOf ss tn true = (2, (m : Int))) := hid (fault_tree HC.out (by rw [HL.out]; exact hlt) (by
              rw [badP, if_neg h0, ← HPV.out]
              exact decide_eq_true (of_decide_eq_false HWB.out.symm)) HI.out.good)
            go_wp2_with (go_at_call 26; refine (WB.out _).mono ?_; rintro e w2 ⟨rfl, hw⟩; obtain rfl := hw.symm)
            go_ret3
            rw [E.out]
            exact ⟨HI.out.below.trans ((below2 _ _ _).mono hz), .inl ⟨by simp, rfl⟩⟩
          | true =>
            obtain ⟨hp0, hp1⟩ : 0 ≤ pv ∧ pv < (m : Int) := of_decide_eq_true HWB.out.symm
            obtain ⟨p, rfl⟩ : ∃ p : Nat, pv = p := ⟨pv.toNat, by omega⟩
            have hpm : p < m := by omega
            obtain ⟨gt, hgt, ct⟩ : ∃ g, ao = some ⟨g, 0, none⟩ ∧ wr.cell? ⟨g, p, none⟩ = some (.pointer (some ⟨N p, 0, none⟩)) := by
              obtain ⟨g, cap, e, _, h3⟩ := World.ownsRow.form HI.out.tree.row (by omega)
              simp at e
              obtain ⟨rfl, rfl⟩ := e
              refine ⟨g, rfl, ?_⟩
              rw [World.ownsRow.cellAt HI.out.tree.row p (by omega)]
              simp [ptrs, hpm]
            subst hgt
            have hgl := block_lt_of_cell ct
            obtain ⟨stv, hstv⟩ : ∃ stv : Obj, stv = .cells #[.int .i64 (p : Int), .int .i64 iv, .slice co cn cc, .slice do_ dn dc] 74 := ⟨_, rfl⟩
            have hkl : (kids ss m p).length ≤ 300 := by
              have h1 : (kids ss m p).length ≤ (List.range m).length := List.length_filter_le _ _
              rw [List.length_range] at h1
              omega
            have CA := hid (addChild_any (N p) (wr.heap.size + 1) w.heap.size (.int .i64 (p : Int)) (parV N ss p) (.pointer none) (V p) (.int .i64 (m : Int)) (.pointer none) (.slice none 0 0) _ _ ((wr.alloc stv).alloc (.cells #[.int .i64 (m : Int), .pointer none, .pointer none, .slice none 0 0] 58)) ((forest_new HI.out.forest).node p hpm).2 (by have := heap_alloc_new (wr.alloc stv) (.cells #[.int .i64 (m : Int), .pointer none, .pointer none, .slice none 0 0] 58); simpa using this) (by have := HI.out.forest.lt hpm; omega) ((forest_new HI.out.forest).kid p hpm) hkl (by simp; omega))
            have INX := hid (fun w2 w3 (lit : Obj) cv' g cap => inv_next (st := stv) (w2 := w2) (w3 := w3) (lit := lit) (cv' := cv') (g := g) (cap := cap) HI.out (by omega) HPV.out.symm hpm)
            have RX : Hid (∀ w2, Kept (fun q => q = N p ∨ q = wr.heap.size + 1 ∨ (V p).ownBlock = some q) ((wr.alloc stv).alloc (.cells #[.int .i64 (m : Int), .pointer none, .pointer none, .slice none 0 0] 58)) w2 → w2.ownsRow w.heap.size 50 1 (.slice (some ⟨gt, 0, none⟩) m tcap) m (ptrs N (List.range m)) ∧ w.heap.size ≤ w2.heap.size) := hid (fun w2 hk => by
              have hrow1 := ownsRow_below HI.out.tree.row (below2 wr stv (.cells #[.int .i64 (m : Int), .pointer none, .pointer none, .slice none 0 0] 58))
              refine ⟨ownsRow_of hrow1 (fun b e => hk.block b (hrow1.lt b e).2 ?_), ?_⟩
              · rintro (e4 | e4 | e4)
                · subst e4; exact row_node hrow1 ((forest_new HI.out.forest).node p hpm).2 e
                · have := (HI.out.tree.row.lt b e).2; omega
                · exact HI.out.tree.apart p b hpm e4 e
              · have := hk.size; simp at this; omega)
            rw [hstv] at CA INX RX
            clear hstv
            go_wp2_with (first | (go_at_call 26; refine (WB.out _).mono ?_; rintro e w2 ⟨rfl, hw⟩; obtain rfl := hw.symm) | (go_at_call 58; refine CA.out.mono ?_; rintro e w2 ⟨rfl, cv', x1, x2, x3, x4, x5⟩; have X1 := hid x1; have X2 := hid x2; have X3 := hid x3; have X4 := hid x4; have X5 := hid x5; clear x1 x2 x3 x4 x5) | (at_builtin; refine wpList_append_lies _ rfl (.tmp 51) (.tmp 53) 46 rfl w.heap.size 50 i0 _ 1 8 Try.underlying46 hi hz0 hz1 hz2 rfl (by decide) _ _ _ rfl ((RX.out w2 X5.out).1.alloc _) ⟨w2.heap.size, 0, none⟩ 1 1 [.pointer (some ⟨wr.heap.size + 1, 0, none⟩)] rfl rfl (news_one _ _ _) (by intro u hu; simp at hu; subst hu; rfl) (by omega) (by unfold maxLen; omega) (by omega) (by have := (RX.out w2 X5.out).2; simp; omega) (w2.heap.size + 1) (by simp) ?_))
            intro g cap' w3 hown hgrow hat _
            have NI := hid (INX.out w2 w3 _ cv' g cap' X1.out X2.out X3.out X4.out X5.out hown hgrow hat)
            clear hown hgrow hat
            go_wp2
            go_roundw
            case rel => exact ⟨m + 1, by omega, by go_num, _, _, NI.out⟩
            case measure => simp [intOf]; omega
      · have e : m = n := by omega
        subst e
        have HP' : Hid (∀ j, j < ss.length → badP ss j = false) := hid (by rw [HL.out]; exact HI.out.good)
        have T : TreeOK ss := tree_of (by rw [HL.out]; omega) HP'.out
        have h200 : ss.length ≤ 200 := by rw [HL.out]; exact n2
        obtain ⟨gt, hgt, CT⟩ : ∃ g, ao = some ⟨g, 0, none⟩ ∧ Hid (∀ k, k < m → wr.cell? ⟨g, k, none⟩ = some (.pointer (some ⟨N k, 0, none⟩)) ∧ g < wr.heap.size) := by
          obtain ⟨g, cap, e, _, h3⟩ := World.ownsRow.form HI.out.tree.row (by omega)
          simp at e
          obtain ⟨rfl, rfl⟩ := e
          refine ⟨g, rfl, hid (fun k hk => ⟨?_, h3⟩)⟩
          rw [World.ownsRow.cellAt HI.out.tree.row k (by omega)]
          simp [ptrs, hk]
        subst hgt
        obtain ⟨wp, hwp⟩ : ∃ wp, wp = wr := ⟨_, rfl⟩
        rw [← hwp] at CT HI
        have HWP := hid hwp
        clear hb hwp
        go_wp2
        -- the depths
        go_loopw [58] (fun i wr => ∃ q : Nat, q ≤ m ∧ i = .int .i64 q ∧ Hid (∀ j, j < q → badD ss j = false) ∧ Below wp.heap.size wp wr) (fun i _ => m - (intOf i).toNat)
        case atStart => exact ⟨0, Nat.zero_le _, rfl, hid (fun j h => absurd h (by omega)), by rw [HWP.out]; exact Below.refl _ _⟩
        case round =>
          obtain ⟨q, hqk, rfl, HD, hb⟩ := hrel
          have HB := hid hb
          clear hb
          by_cases hltq : q < m
          · have hqs : q < ss.length := by rw [HL.out]; exact hltq
            have NQ := hid (show Nodes wr N ss ss.length by have := HI.out.forest.nodes.below HB.out; rw [HL.out]; exact this)
            have CD := hid (depth_any N ss T h200 q hqs wr NQ.out)
            have ce := (HB.out.cell (p := ⟨gt, q, none⟩) (CT.out q hltq).2).trans (CT.out q hltq).1
            have qn : (q : Int) < (m : Int) := by omega
            obtain ⟨d, hd⟩ : ∃ d, d = ((up ss q).length : Int) := ⟨_, rfl⟩
            have BD : Hid (badD ss q = decide (17 ≤ d)) := hid (by rw [hd, Bool.eq_iff_iff]; simp [badD]; omega)
            have hdb : d ≤ 300 := by have := up_len T q hqs; omega
            have hd0 : 0 ≤ d := by omega
            rw [← hd] at CD
            clear hd
            by_cases h17 : 17 ≤ d
            · have t1 : (16 : Int) ≤ d - 1 := by omega
              have E : Hid (faultOf ss tn true = (3, (q : Int))) := hid (fault_depth HC.out HP'.out hqs (by rw [BD.out]; simpa using h17) HD.out)
              go_wp2_with (go_at_call 59; refine CD.out.mono ?_; rintro e w1 ⟨rfl, hb1⟩; have B1 := hid hb1; clear hb1)
              go_ret3
              rw [E.out]
              exact ⟨HI.out.below.trans ((HB.out.trans (B1.out.mono HB.out.size)).mono HI.out.below.size), .inl ⟨by simp, rfl⟩⟩
            · have t1 : ¬ (16 : Int) ≤ d - 1 := by omega
              go_wp2_with (go_at_call 59; refine CD.out.mono ?_; rintro e w1 ⟨rfl, hb1⟩; have B1 := hid hb1; clear hb1)
              go_roundw
              case rel =>
                refine ⟨q + 1, by omega, by go_num, hid (fun j hj => ?_), HB.out.trans (B1.out.mono HB.out.size)⟩
                by_cases e : j = q
                · subst e; rw [BD.out]; simpa using h17
                · exact HD.out j (by omega)
              case measure => simp [intOf]; omega
          · have e : q = m := by omega
            subst e
            have HD' : Hid (∀ j, j < ss.length → badD ss j = false) := hid (by rw [HL.out]; exact HD.out)
            have I30 : Hid (Inv3 w wr cs N V (.slice (some ⟨gt, 0, none⟩) q tcap) ss 0) := hid (by
              refine ⟨?_, ?_, block_below HI.out.box HB.out, HI.out.below.trans (HB.out.mono HI.out.below.size), fun j h => absurd h (by omega)⟩
              · rw [HL.out]
                exact (HI.out.forest.below HB.out).congrI (fun k _ => by rw [if_neg (by omega)])
              · rw [HL.out]
                exact HI.out.tree.below HB.out)
            clear HD
            go_wp2
            -- the initial states
            go_loopw [70] (fun i wr => ∃ p : Nat, p ≤ q ∧ i = .int .i64 p ∧ Inv3 w wr cs N V (.slice (some ⟨gt, 0, none⟩) q tcap) ss p) (fun i _ => q - (intOf i).toNat)
            case atStart => exact ⟨0, Nat.zero_le _, rfl, I30.out⟩
            case round =>
              obtain ⟨p, hpq, rfl, hI3⟩ := hrel
              have J := hid hI3
              obtain ⟨r0, r1⟩ := two_cells (show wr.heap[w.heap.size]? = some (.cells #[.slice (some ⟨b, off, none⟩) q sc, .slice to tn tc] 32 (0, 0)) by rw [← HCS.out]; exact hI3.box)
              clear hI3
              by_cases hltp : p < q
              · have hps : p < ss.length := by rw [HL.out]; exact hltp
                have k2 : wr.cell? ⟨b, off + p * 4 + 1, none⟩ = some (.int .i64 (ini ss p)) := (J.out.below.cell (p := ⟨b, off + p * 4 + 1, none⟩) hbl).trans (HA.out p hltp).2.1
                have ce : wr.cell? ⟨gt, p, none⟩ = some (.pointer (some ⟨N p, 0, none⟩)) := by
                  have h1 := J.out.tree.row
                  rw [HL.out] at h1
                  rw [World.ownsRow.cellAt h1 p (by omega)]
                  simp [ptrs, hltp]
                have pn : (p : Int) < (q : Int) := by omega
                have hkl : (kids ss ss.length p).length ≤ 300 := by
                  have h1 : (kids ss ss.length p).length ≤ (List.range ss.length).length := List.length_filter_le _ _
                  rw [List.length_range] at h1
                  omega
                have CS := setInitial_any N (kids ss ss.length p) (N p) w.heap.size _ _ _ (V p) (ini ss p) wr (J.out.forest.node p hps).2 (J.out.forest.kid p hps) hkl (fun x hx => (J.out.forest.nodes x (kids_lt hx)).2.1) (by rw [if_neg (by omega)]; exact ⟨_, rfl⟩)
                have BE := badI_eq ss p
                by_cases hex : ∃ x, x ∈ kids ss ss.length p ∧ (x : Int) = ini ss p
                · have BG : Hid (badI ss p = false) := hid (by
                    rw [BE]
                    have : (kids ss ss.length p).any (fun j => decide ((j : Int) = ini ss p)) = true := by
                      rw [List.any_eq_true]
                      obtain ⟨x, h1, h2⟩ := hex
                      exact ⟨x, h1, decide_eq_true h2⟩
                    rw [this]
                    rfl)
                  have C2 : Hid (Calls Try.prog 60 #[.pointer (some ⟨N p, 0, none⟩), .int .i64 (ini ss p)] wr fun e w' => e = .returned (.bool true) ∧ Inv3 w w' cs N V (.slice (some ⟨gt, 0, none⟩) q tcap) ss (p + 1)) := hid (CS.mono (by
                    rintro e w' (⟨x, h1, h2, rfl, rfl⟩ | ⟨h1, rfl, rfl⟩)
                    · exact ⟨rfl, inv3_set J.out hps h2 BG.out⟩
                    · obtain ⟨x, h3, h4⟩ := hex
                      exact absurd h4 (h1 x h3)))
                  obtain ⟨iv, hiv⟩ : ∃ iv, iv = ini ss p := ⟨_, rfl⟩
                  rw [← hiv] at k2 C2
                  clear CS BE hex hiv
                  go_wp2_with (go_at_call 60; refine C2.out.mono ?_; rintro e w1 ⟨rfl, h3⟩; have J1 := hid h3; clear h3)
                  go_roundw
                  case rel => exact ⟨p + 1, by omega, by go_num, J1.out⟩
                  case measure => simp [intOf]; omega
                · obtain ⟨bb, hbb⟩ : ∃ bb, bb = (decide (kids ss ss.length p = []) && decide (ini ss p = -1)) := ⟨_, rfl⟩
                  have BG : Hid (badI ss p = !bb) := hid (by
                    rw [BE, hbb]
                    have : (kids ss ss.length p).any (fun j => decide ((j : Int) = ini ss p)) = false := by
                      rw [List.any_eq_false]
                      intro x h1 h2
                      exact hex ⟨x, h1, of_decide_eq_true h2⟩
                    rw [this, Bool.false_or])
                  have C2 : Hid (Calls Try.prog 60 #[.pointer (some ⟨N p, 0, none⟩), .int .i64 (ini ss p)] wr fun e w' => e = .returned (.bool bb) ∧ w' = wr) := hid (CS.mono (by
                    rintro e w' (⟨x, h1, h2, rfl, rfl⟩ | ⟨h1, rfl, rfl⟩)
                    · exact absurd ⟨x, h1, h2⟩ hex
                    · exact ⟨by rw [hbb], rfl⟩))
                  have HBB := hid hbb
                  obtain ⟨iv, hiv⟩ : ∃ iv, iv = ini ss p := ⟨_, rfl⟩
                  rw [← hiv] at k2 C2
                  clear CS BE hex hiv hbb
                  cases bb with
                  | true =>
                    have NI : Hid (Inv3 w wr cs N V (.slice (some ⟨gt, 0, none⟩) q tcap) ss (p + 1)) := hid (inv3_same J.out (by have := HBB.out.symm; rw [Bool.and_eq_true] at this; exact of_decide_eq_true this.2) BG.out)
                    go_wp2_with (go_at_call 60; refine C2.out.mono ?_; rintro e w1 ⟨rfl, hw⟩; obtain rfl := hw.symm)
                    go_roundw
                    case rel => exact ⟨p + 1, by omega, by go_num, NI.out⟩
                    case measure => simp [intOf]; omega
                  | false =>
                    have E : Hid (faultOf ss tn true = (4, (p : Int))) := hid (fault_initial HC.out HP'.out HD'.out hps BG.out J.out.good)
                    go_wp2_with (go_at_call 60; refine C2.out.mono ?_; rintro e w1 ⟨rfl, hw⟩; obtain rfl := hw.symm)
                    go_ret3
                    rw [E.out]
                    exact ⟨J.out.below, .inl ⟨by simp, rfl⟩⟩
              · have e : p = q := by omega
                subst e
                have E : Hid (faultOf ss tn true = (0, 0)) := hid (fault_none HC.out HP'.out HD'.out (by rw [HL.out]; exact J.out.good))
                go_wp2
                go_ret3
                rw [E.out]
                refine ⟨J.out.below, .inr ⟨rfl, N, _, rfl, ⟨J.out.forest.nodes, fun k hk => ?_⟩, J.out.forest.nodeB, J.out.tree.row⟩⟩
                obtain ⟨_, _, c2, _⟩ := quad_cells (J.out.forest.node k hk).2
                rw [c2, if_pos (by rw [← HL.out]; exact hk)]
end Go.Proofs.Ytjeckanjekgkkaa

import Derived.Test.YthaklmdhkkfigaaGreatXc
import Derived.Test.YthaklmdhkkfigaaGreatEa
import Derived.Laws.CopyOwn
namespace Go.Proofs.YthaklmdhkkfigaaGreat
open Go.RowKit Go.Sort
set_option linter.unusedVariables false
attribute [local go_sem ↓] Go.wp_at_zero Go.wp_at_succ

/-- copy, at elements of whatever size. -/
theorem run_copy_rowN {P : Program} (w : World) (dT sT ty elem : TypeId) (g o dLen dCap : Nat) (a : Addr) (sLen sCap : Nat) (cur : Array Value) (t : TypeId) (cs : List Value) (n sz : Nat)
    (hu : P.underlying dT = some (.slice elem)) (hs : (P.info? elem).map (·.size) = some sz)
    (hg : w.heap[g]? = some (.cells cur t (0, 0))) (hn : n = Nat.min sLen dLen) (hc : cs.length = n * sz)
    (hsrc : ∀ j v, cs[j]? = some v → w.cell? (a.add j) = some v) (hfit : o + cs.length ≤ cur.size) (h1 : ∀ v ∈ cs, v.oneCell' = true) :
    (Builtin.copy_ #[dT, sT] ty #[.slice (some ⟨g, o, none⟩) dLen dCap, .slice (some a) sLen sCap]).run P w =
      .ok (goInt n) (w.setRow g (cur.toList.take o ++ cs ++ cur.toList.drop (o + cs.length)).toArray) := by
  have hl := run_loadCells_list (P := P) w a cs hsrc
  have hst := run_storeCells_at P g o t cs 0 cur w hg (by simpa using hfit) h1
  rw [hc] at hl
  cases hq : P.info? elem with
  | none => simp [hq] at hs
  | some i =>
    have hi : i.size = sz := by simpa [hq] using hs
    simp [Builtin.copy_, run_underlying hu, Builtin.lenOf, Builtin.firstCells, sizeOf, typeInfo, hq, hi, ← hn, hl, hst]
theorem run_copy_none0 {P : Program} (w : World) (dT sT ty elem : TypeId) (d : Option Addr) (dLen dCap sCap : Nat) (hu : P.underlying dT = some (.slice elem)) (hs : ((P.info? elem).map (·.size)).isSome = true) :
    (Builtin.copy_ #[dT, sT] ty #[.slice d dLen dCap, .slice none 0 sCap]).run P w = .ok (goInt 0) w := by
  cases hq : P.info? elem with
  | none => simp [hq] at hs
  | some i => cases d <;> simp [Builtin.copy_, run_underlying hu, Builtin.lenOf, Builtin.firstCells, sizeOf, typeInfo, hq, storeCells]
theorem run_copy_n {P : Program} (w : World) (dT sT ty elem : TypeId) (sz : Nat) (hu : P.underlying dT = some (.slice elem)) (hsz : (P.info? elem).map (·.size) = some sz)
    (g dLen dCap : Nat) (sp : Option Addr) (sLen sCap : Nat) (hle : sLen ≤ dLen) (cur : Array Value) (t : TypeId) (hg : w.heap[g]? = some (.cells cur t (0, 0))) (cs : List Value) (hc : cs.length = sLen * sz) (hnews : NewsAt w sp sLen cs) (hfit : cs.length ≤ cur.size) (h1 : ∀ v ∈ cs, v.oneCell' = true) :
    (Builtin.copy_ #[dT, sT] ty #[.slice (some ⟨g, 0, none⟩) dLen dCap, .slice sp sLen sCap]).run P w = .ok (goInt sLen) (w.setRow g (cs ++ cur.toList.drop cs.length).toArray) := by
  cases sp with
  | none =>
    obtain rfl : sLen = 0 := hnews.1 rfl
    obtain rfl : cs = [] := List.eq_nil_of_length_eq_zero (by simpa using hc)
    have e : w.setRow g ([] ++ cur.toList.drop 0).toArray = w := by simpa using setRow_self w g cur t (0, 0) hg
    rw [List.length_nil, e]
    exact run_copy_none0 (P := P) w dT sT ty elem (some ⟨g, 0, none⟩) dLen dCap sCap hu (by rw [hsz]; rfl)
  | some ad =>
    have hrun := run_copy_rowN (P := P) w dT sT ty elem g 0 dLen dCap ad sLen sCap cur t cs sLen sz hu hsz hg (by simp [Nat.min_def]; omega) hc (hnews.2 ad rfl) (by simpa using hfit) h1
    simp only [List.take_zero, List.nil_append, Nat.zero_add] at hrun
    exact hrun
end Go.Proofs.YthaklmdhkkfigaaGreat
namespace Go.Proofs.YthaklmdhkkfigaaGreat
open Go.RowKit Go.Sort
set_option linter.unusedVariables false
attribute [local go_sem ↓] Go.wp_at_zero Go.wp_at_succ

theorem ring_new {w : World} {B P S cap : Nat} {es : List (Int × Int)} {cur : Array Value} (hP : B ≤ P) (hS : B ≤ S) (hl : es.length ≤ cap) (hc : cap ≤ 1000) (hz : cur.size = cap * 2) (h1 : w.heap[P]? = some (.cells (ringC S cap ((0 : Nat) : Int) (es.length : Nat)) 182 (0, 0))) (h2 : w.heap[S]? = some (.cells (evC es ++ cur.toList.drop (evC es).length).toArray 70 (0, 0))) : RingAt w B P S cap es := by
  have hlen : (evC es ++ cur.toList.drop (evC es).length).length = cap * 2 := by simp [evC_len, hz]; omega
  refine ⟨hP, hS, hl, hc, 0, fun i => (evC es ++ cur.toList.drop (evC es).length).getD i undef, h1, ⟨_, h2, by simpa using hlen, fun i hi => ?_⟩, fun h => h, ?_⟩
  · have hi' : i < (evC es ++ cur.toList.drop (evC es).length).length := by rw [hlen]; exact hi
    simp only [List.getElem?_toArray]
    rw [List.getElem?_eq_getElem hi']
    simp [List.getD_eq_getElem?_getD, List.getElem?_eq_getElem hi']
  · intro j hj
    have hm : (0 + j) % cap = j := by rw [Nat.zero_add]; exact Nat.mod_eq_of_lt (by omega)
    obtain ⟨e1, e2⟩ := evC_get es j hj
    have l1 := evC_len es
    simp only [hm, List.getD_eq_getElem?_getD]
    rw [List.getElem?_append_left (by omega), List.getElem?_append_left (by omega), e1, e2]
    exact ⟨rfl, rfl⟩
theorem Tryz.sizeEv : (Tryz.prog.info? 70).map (·.size) = some 2 := by kernel_rfl
set_option maxRecDepth 100000 in
set_option maxHeartbeats 1600000 in
theorem ringOf_any (cap : Nat) (ao : Option Addr) (n c : Nat) (es : List (Int × Int)) (w : World) (hc : cap ≤ 1000) (hn : n ≤ cap) (hs : ItemsOf w ao n es) :
    Calls Tryz.prog 73 #[.int .i64 cap, .slice ao n c] w fun e w' => e = .returned (.pointer (some ⟨w.heap.size + 1, 0, none⟩)) ∧ RingAt w' w.heap.size (w.heap.size + 1) w.heap.size cap es ∧ Below w.heap.size w w' ∧ w'.heap.size = w.heap.size + 2 := by
  have hmk := run_make_pairs 138 70 (.int .i64 0) (.int .i64 0) 16 Tryz.underlying138 Tryz.info70 .i64 .i64 cap (by omega) (by omega)
  have HS := hid hs
  have HL := hid hs.1
  obtain ⟨cur, hcur⟩ : ∃ cur, cur = madeCells #[Value.int .i64 0, .int .i64 0] (cap * 2) := ⟨_, rfl⟩
  have HZ : Hid (cur.size = cap * 2) := hid (by rw [hcur]; exact size_madeCells _ _)
  rw [← hcur] at hmk
  have LE : Hid ((evC es).length = n * 2) := hid (by rw [evC_len, hs.1])
  have hcp := run_copy_n (P := Tryz.prog) ((w.alloc (.cells cur 70)).alloc (.cells #[.slice (some ⟨w.heap.size, 0, none⟩) cap cap, .int .i64 0, .int .i64 n] 182)) 138 138 3 70 2 Tryz.underlying138 Tryz.sizeEv w.heap.size cap cap ao n c hn cur 70 (block_below (heap_alloc_new w _) (below1 _ _)) (evC es) LE.out (news_ev hs (below2 _ _ _)) (by rw [LE.out, HZ.out]; omega) (evC_one es)
  obtain ⟨rw2, hrw⟩ : ∃ r, r = (evC es ++ cur.toList.drop (evC es).length).toArray := ⟨_, rfl⟩
  rw [← hrw] at hcp
  have HRW := hid hrw
  clear hs hcur hrw
  go_enter Tryz.func73, Tryz.ntmps73
  go_wp2
  go_ret
  obtain ⟨X, hX⟩ : ∃ X, X = (w.alloc (.cells cur 70)).alloc (.cells #[.slice (some ⟨w.heap.size, 0, none⟩) cap cap, .int .i64 0, .int .i64 n] 182) := ⟨_, rfl⟩
  have x1 : X.heap[w.heap.size]? = some (.cells cur 70 (0, 0)) := by rw [hX]; exact block_below (heap_alloc_new w _) (below1 _ _)
  have x2 : X.heap[w.heap.size + 1]? = some (.cells #[.slice (some ⟨w.heap.size, 0, none⟩) cap cap, .int .i64 0, .int .i64 n] 182 (0, 0)) := by rw [hX]; have := heap_alloc_new (w.alloc (.cells cur 70)) (.cells #[.slice (some ⟨w.heap.size, 0, none⟩) cap cap, .int .i64 0, .int .i64 n] 182); rw [World.size_alloc] at this; exact this
  have x3 : Below w.heap.size w X := by rw [hX]; exact below2 _ _ _
  have x4 : X.heap.size = w.heap.size + 2 := by rw [hX]; simp
  rw [← hX]
  refine ⟨rfl, ring_new (cur := cur) (by omega) (Nat.le_refl _) (by rw [HL.out]; exact hn) hc HZ.out ?_ ?_, below_setRow x3 (Nat.le_refl _) _, by simp [World.setRow, x4]⟩
  · rw [setRow_other X _ _ _ (by omega), x2, HL.out]; rfl
  · rw [setRow_heap X _ _ _ _ _ x1, HRW.out]
end Go.Proofs.YthaklmdhkkfigaaGreat
namespace Go.Proofs.YthaklmdhkkfigaaGreat
open Go.RowKit Go.Sort
set_option linter.unusedVariables false
attribute [local go_sem ↓] Go.wp_at_zero Go.wp_at_succ

theorem RingAt.below {w w' : World} {B P S cap : Nat} {es : List (Int × Int)} (h : RingAt w B P S cap es) (hb : Below w.heap.size w w') : RingAt w' B P S cap es := by
  obtain ⟨a, b, c, d, f, F, h1, h2, h3, h4⟩ := h
  exact ⟨a, b, c, d, f, F, block_below h1 hb, h2.of_block (hb.block _ h2.lt), h3, h4⟩
theorem evRow_snoc {w : World} {B : Nat} {v : Value} {l : List (Int × Int)} {x : Int × Int} (h : w.ownsRow B 70 2 v (l.length + 1) (evC l ++ [.int .i64 x.1, .int .i64 x.2])) : EvRow w B v (l ++ [x]) := by
  show w.ownsRow B 70 2 v (l ++ [x]).length (evC (l ++ [x]))
  rw [evC_append, List.length_append]
  exact h
set_option maxRecDepth 100000 in
set_option maxHeartbeats 1600000 in
theorem list_any (B P S cap : Nat) (es : List (Int × Int)) (w : World) (h : RingAt w B P S cap es) :
    Calls Tryz.prog 80 #[.pointer (some ⟨P, 0, none⟩)] w fun e w' => ∃ v, e = .returned v ∧ EvRow w' w.heap.size v es ∧ Below w.heap.size w w' := by
  obtain ⟨i0, hi0, hz0, hz1, hz2⟩ := info_parts Tryz.infoEv
  obtain ⟨_, _, hl, hc, f, F, h1, h2, h3, h4⟩ := h
  obtain ⟨c0, c1, c2⟩ := ring_cells h1
  have H1 := hid h1
  have H2 := hid h2
  have H3 := hid h3
  have H4 := hid h4
  have pl := lt_of_block h1
  obtain ⟨n, hn⟩ : ∃ n, n = es.length := ⟨_, rfl⟩
  rw [← hn] at c2 hl
  have HN := hid hn
  clear h1 h2 h3 h4 hn
  go_enter Tryz.func80, Tryz.ntmps80
  go_wp2
  go_loopw [3, 10] (fun p i wr => ∃ k : Nat, k ≤ n ∧ i = .int .i64 k ∧ Hid (EvRow wr w.heap.size p (es.take k)) ∧ Hid (Below w.heap.size w wr)) (fun _ i _ => n - (intOf i).toNat)
  case atStart => exact ⟨0, Nat.zero_le _, rfl, hid (World.ownsRow_lit w #[] 0 (Nat.le_refl _) (by decide) rfl), hid (below1 _ _)⟩
  case round =>
    obtain ⟨k, hk, rfl, hE, hB⟩ := hrel
    obtain ⟨pa, pm, pc, rfl⟩ := row_form hE.out
    by_cases hlt : k < n
    · have hlt' : (k : Int) < (n : Int) := by omega
      have hke : k < es.length := by rw [← HN.out]; exact hlt
      have hcap : 0 < cap := by omega
      have C1 := hid (fun W (hW : Below w.heap.size w W) => slot_any P S cap f k es.length W hcap hc (H3.out hcap) (by omega) ((hW.block _ pl).trans H1.out))
      have TK := hid (take_snocA (0, 0) hke)
      obtain ⟨s1, s2⟩ := H4.out k hke
      have hm : (f + k) % cap < cap := Nat.mod_lt _ hcap
      obtain ⟨x, hx⟩ : ∃ x, x = es.getD k (0, 0) := ⟨_, rfl⟩
      rw [← hx] at s1 s2 TK
      obtain ⟨m, hmm⟩ : ∃ m, m = (f + k) % cap := ⟨_, rfl⟩
      rw [← hmm] at s1 s2 hm C1
      have g1 := H2.out.cell (i := m * 2) (by omega)
      have g2 := H2.out.cell (i := m * 2 + 1) (by omega)
      rw [s1] at g1
      rw [s2] at g2
      have sl := H2.out.lt
      have r1 := hid (fun W (hW : Below w.heap.size w W) => And.intro ((hW.cell (p := ⟨S, m * 2, none⟩) sl).trans g1) ((hW.cell (p := ⟨S, m * 2 + 1, none⟩) sl).trans g2))
      have hvl : Hid ((es.take k).length = k) := hid (by simp; omega)
      clear s1 s2 hx hmm g1 g2
      go_wp2_with (first
        | (go_at_call 110; with_reducible refine (C1.out _ hB.out).mono ?_; rintro e w1 ⟨rfl, q, hw1⟩; have B1 : Hid (Below w.heap.size w w1) := hid (by rw [hw1]; exact belowDraws hB.out q); have E1 : Hid (EvRow w1 w.heap.size (.slice pa pm pc) (es.take k)) := hid (by rw [hw1]; exact ownsRow_below hE.out (belowDraws (Below.refl _ _) q)); obtain ⟨t1, t2⟩ := r1.out w1 B1.out; clear hw1)
        | (at_builtin; refine wpList_append_own _ rfl (.tmp 13) (.tmp 19) 138 rfl w.heap.size 70 i0 (.agg #[.int .i64 0, .int .i64 0]) 2 16 Tryz.underlying138 hi0 hz0 hz1 hz2 rfl (by decide) (.slice pa pm pc) (es.take k).length (evC (es.take k)) rfl (ownsRow_below E1.out (below1 _ _)) ⟨w1.heap.size, 0, none⟩ 1 1 [.int .i64 x.1, .int .i64 x.2] rfl rfl (World.news_of_block (heap_alloc_new w1 _)) (one2 _ _) (by rw [hvl.out]; unfold maxLen; omega) (by rw [hvl.out]; omega) (Nat.le_trans B1.out.size (below1 _ _).size) ?_; intro v2 w2 hown hgrow _; have E2 : Hid (EvRow w2 w.heap.size v2 (es.take (k + 1))) := hid (by rw [TK.out]; exact evRow_snoc hown); have B2 := hid (below_grown B1.out (Nat.le_refl _) E1.out hgrow); clear hown hgrow))
      go_roundw
      case rel => exact ⟨k + 1, hlt, by go_num, E2, B2⟩
      case measure => simp [intOf]; omega
    · have ek : k = n := by omega
      have E9 : Hid (EvRow wr w.heap.size (.slice pa pm pc) es) := hid (by have := hE.out; rw [ek, List.take_of_length_le (by rw [HN.out]; exact Nat.le_refl _)] at this; exact this)
      have nlt : ¬ (k : Int) < (n : Int) := by omega
      clear ek
      go_wp2
      go_ret
      exact ⟨_, rfl, E9.out, hB.out⟩
end Go.Proofs.YthaklmdhkkfigaaGreat
namespace Go.Proofs.YthaklmdhkkfigaaGreat
open Go.RowKit Go.Sort
set_option linter.unusedVariables false
attribute [local go_sem ↓] Go.wp_at_zero Go.wp_at_succ

theorem mod_apart {f j k cap : Nat} (hj : j < k) (hk : k < cap) : (f + j) % cap ≠ (f + k) % cap := by
  intro e
  have h1 := Nat.div_add_mod (f + j) cap
  have h2 := Nat.div_add_mod (f + k) cap
  rw [e] at h1
  have h3 : cap * ((f + k) / cap) = cap * ((f + j) / cap) + (k - j) := by omega
  have h4 : (f + j) / cap ≤ (f + k) / cap := Nat.div_le_div_right (by omega)
  obtain ⟨d, hd⟩ : ∃ d, (f + k) / cap = (f + j) / cap + d := ⟨_, (Nat.add_sub_of_le h4).symm⟩
  rw [hd, Nat.mul_add] at h3
  have h5 : cap * d = k - j := by omega
  rcases Nat.eq_zero_or_pos d with h0 | h0
  · rw [h0] at h5; omega
  · have := Nat.le_mul_of_pos_right cap h0; omega

/-- An event is put behind the others. -/
theorem ring_add {w : World} {B P S cap f : Nat} {F : Nat → Value} {es : List (Int × Int)} {x : Int × Int} (hB : B ≤ P) (hS : B ≤ S) (hl : es.length < cap) (hc : cap ≤ 1000) (hPS : P ≠ S)
    (h1 : w.heap[P]? = some (.cells (ringC S cap (f : Nat) ((es.length + 1 : Nat) : Int)) 182 (0, 0))) (h2 : w.rowIs S 70 (cap * 2) F) (hf : f < cap) (h4 : Slots F cap f es) :
    RingAt ((w.setCell ⟨S, (f + es.length) % cap * 2, none⟩ (.int .i64 x.1)).setCell ⟨S, (f + es.length) % cap * 2 + 1, none⟩ (.int .i64 x.2)) B P S cap (es ++ [x]) := by
  have hm : (f + es.length) % cap < cap := Nat.mod_lt _ (by omega)
  refine ⟨hB, hS, by simp; omega, hc, f, _, ?_, (h2.set ((f + es.length) % cap * 2) _).set ((f + es.length) % cap * 2 + 1) _, fun _ => hf, ?_⟩
  · rw [Below.heap_setCell _ _ _ _ (fun e => hPS e), Below.heap_setCell _ _ _ _ (fun e => hPS e), h1]
    simp
  · intro j hj
    simp at hj
    have e0 : ¬ (f + es.length) % cap * 2 = (f + es.length) % cap * 2 + 1 := by omega
    by_cases e : j = es.length
    · subst e
      simp
    · have hj' : j < es.length := by omega
      have ha := mod_apart (f := f) hj' hl
      have g := h4 j hj'
      have n1 : ¬ (f + j) % cap * 2 = (f + es.length) % cap * 2 := by omega
      have n2 : ¬ (f + j) % cap * 2 = (f + es.length) % cap * 2 + 1 := by omega
      have n3 : ¬ (f + j) % cap * 2 + 1 = (f + es.length) % cap * 2 := by omega
      have n4 : ¬ (f + j) % cap * 2 + 1 = (f + es.length) % cap * 2 + 1 := by omega
      simp only [n1, n2, n3, n4, if_false]
      rw [g.1, g.2]
      simp [List.getD, hj', List.getElem?_append_left hj']

set_option maxRecDepth 100000 in
set_option maxHeartbeats 1600000 in
theorem addLast_full (B P S cap : Nat) (es : List (Int × Int)) (x1 x2 : Int) (w : World) (hr : es.length = cap) (h : RingAt w B P S cap es) :
    Calls Tryz.prog 109 #[.pointer (some ⟨P, 0, none⟩), .agg #[.int .i64 x1, .int .i64 x2]] w fun e w' => e = .returned (.bool false) ∧ Below w.heap.size w w' := by
  obtain ⟨hB, hS, hl, hc, f, F, h1, h2, hf, h4⟩ := h
  have C1 := hid (fun W (hW : Below w.heap.size w W) => isFull_any P S cap f es.length true W (by simp [hr]) (block_below h1 hW))
  clear h1 h2 hf h4
  go_enter Tryz.func109, Tryz.ntmps109
  go_wp2_with (go_at_call 135; with_reducible refine (C1.out _ (below1 _ _)).mono ?_; rintro e w1 ⟨rfl, q, hw⟩; have B1 : Hid (Below w.heap.size w w1) := hid (by rw [hw]; exact belowDraws (below1 _ _) q); clear hw)
  go_ret
  exact ⟨rfl, B1.out⟩
set_option maxRecDepth 100000 in
set_option maxHeartbeats 4000000 in
theorem addLast_room (B P S cap : Nat) (es : List (Int × Int)) (x1 x2 : Int) (w : World) (hr : es.length < cap) (h : RingAt w B P S cap es) :
    Calls Tryz.prog 109 #[.pointer (some ⟨P, 0, none⟩), .agg #[.int .i64 x1, .int .i64 x2]] w fun e w' => e = .returned (.bool true) ∧ RingAt w' B P S cap (es ++ [(x1, x2)]) ∧ Tn (fun b => b = P ∨ b = S) w w' := by
  have hPS := h.far
  obtain ⟨hB, hS, hl, hc, f, F, h1, h2, hf, h4⟩ := h
  have hf := hf (by omega)
  have C1 := hid (fun W (hW : Below w.heap.size w W) => isFull_any P S cap f es.length false W (by simp; omega) (block_below h1 hW))
  have HR := hid h2
  have H4 := hid h4
  have hlen : es.length ≤ 1000 := by omega
  obtain ⟨n, hn⟩ : ∃ n, n = es.length := ⟨_, rfl⟩
  rw [← hn] at h1 hlen hr
  have HN := hid hn
  have H1 := hid h1
  have hlt := lt_of_block h1
  have hSlt := h2.lt
  clear h2 h4 hn hl h1
  go_enter Tryz.func109, Tryz.ntmps109
  go_upto_region 4 with (go_at_call 135; with_reducible refine (C1.out _ (below1 _ _)).mono ?_; rintro e w1 ⟨rfl, q, hw⟩; have B2 : Hid (Below w.heap.size w w1) := hid (by rw [hw]; exact belowDraws (below1 _ _) q); have d1 := hid (block_below H1.out B2.out); have d2 : Hid (w1.heap[w.heap.size]? = some (.cells #[.int .i64 x1, .int .i64 x2] 70 (0, 0))) := hid (by rw [hw]; exact block_below (heap_alloc_new w _) (belowDraws (Below.refl _ _) q)); obtain ⟨c0, c1, c2⟩ := ring_cells d1.out; have f2 := froz d1.out 2; clear hw)
  obtain ⟨U, hU⟩ : ∃ U, U = w1.setCell ⟨P, 2, none⟩ (.int .i64 ((n : Int) + 1)) := ⟨_, rfl⟩
  have e1 : Hid (U.heap[P]? = some (.cells (ringC S cap f ((n + 1 : Nat) : Int)) 182 (0, 0))) := hid (by rw [hU, heap_setCell_same w1 P 2 _ _ _ d1.out]; simp [ringC])
  have e2 : Hid (U.heap[w.heap.size]? = some (.cells #[.int .i64 x1, .int .i64 x2] 70 (0, 0))) := hid (by rw [hU]; exact (Below.heap_setCell _ _ _ _ (by show w.heap.size ≠ P; omega)).trans d2.out)
  have e3 : Hid (U.rowIs S 70 (cap * 2) F) := hid (by rw [hU]; exact (HR.out.of_block (B2.out.block S HR.out.lt)).of_block (Below.heap_setCell _ _ _ _ (fun e => hPS e.symm)))
  have e4 : Hid (Tn (fun b => b = P ∨ b = S) w U) := hid (by rw [hU]; exact (Tn.of_below B2.out).trans (Tn.set (.inl rfl) _))
  rw [← hU]
  obtain ⟨k0, k1, k2⟩ := ring_cells e1.out
  obtain ⟨y0, y1⟩ := two_cells e2.out
  have C2 := hid (slot_any P S cap f n ((n + 1 : Nat) : Int) U.drew (by omega) hc hf (by omega) e1.out)
  have hm : (f + n) % cap < cap := Nat.mod_lt _ (by omega)
  obtain ⟨m, hmm⟩ : ∃ m, m = (f + n) % cap := ⟨_, rfl⟩
  rw [← hmm] at C2 hm
  have HM := hid hmm
  have g1 := e3.out.cell (i := m * 2) (by omega)
  have g2 := e3.out.cell (i := m * 2 + 1) (by omega)
  have r1 := e3.out.frozen (m * 2)
  have r2 := e3.out.frozen (m * 2 + 1)
  have n1 : ¬ S = P := fun e => hPS e.symm
  have n2 : ¬ S = w.heap.size := by omega
  have n3 : ¬ w.heap.size = S := by omega
  have wn : IntKind.i64.wrap (n : Int) = (n : Int) := by simp [IntKind.wrap, IntKind.bits, IntKind.signed]; omega
  clear hU c0 c1 c2 f2 hmm
  go_region_held3 (fun X => X.cell? ⟨P, 2, none⟩ = some (.int .i64 ((n + 1 : Nat) : Int)) ∧ X.cell? ⟨w.heap.size, 0, none⟩ = some (.int .i64 x1) ∧ X.cell? ⟨w.heap.size, 1, none⟩ = some (.int .i64 x2)) (first | (with_reducible exact SX.out) | go_keep)
    (first | (go_at_call 110; with_reducible refine C2.out.mono ?_; rintro e w3 ⟨rfl, q, hw⟩; have B3 : Hid (Below U.heap.size U w3) := hid (by rw [hw]; exact belowDraws ((Below.refl _ _).drew) q); have E3 := hid (e3.out.of_block (B3.out.block _ e3.out.lt)); have q1 := E3.out.cell (i := m * 2) (by omega); have q2 := E3.out.cell (i := m * 2 + 1) (by omega); have q3 := E3.out.frozen (m * 2); have q4 := E3.out.frozen (m * 2 + 1); have D1 := hid (block_below e1.out B3.out); have D2 := hid (block_below e2.out B3.out); have SX := hid (And.intro (ring_cells D1.out).2.2 (two_cells D2.out)); clear hw))
  all_goals
    go_wp2
    go_ret
    have RA := ring_add (x := (x1, x2)) hB hS (by rw [← HN.out]; exact hr) hc hPS (by rw [← HN.out]; exact D1.out) E3.out hf H4.out
    rw [← HN.out, ← HM.out] at RA
    exact ⟨rfl, RA, ((e4.out.trans (Tn.of_below B3.out)).trans (Tn.set (.inr rfl) _)).trans (Tn.set (.inr rfl) _)⟩
end Go.Proofs.YthaklmdhkkfigaaGreat

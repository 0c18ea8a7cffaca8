import Derived.Test.YtjeckanjekgkkaaI4
namespace Go.Proofs.Ytjeckanjekgkkaa
open Go.RowKit Go.Sort

theorem ownsRow_of {w w' : World} {B : Nat} {e : TypeId} {size : Nat} {v : Value} {n : Nat} {xs : List Value} (h : w.ownsRow B e size v n xs) (hb : ∀ b, v.ownBlock = some b → w'.heap[b]? = w.heap[b]?) : w'.ownsRow B e size v n xs := by
  refine ⟨h.1, ?_⟩
  rcases h.2 with h0 | ⟨g, cap, cur, h1, h2, h3, h4⟩
  · exact .inl h0
  · exact .inr ⟨g, cap, cur, h1, h2, (hb g (by rw [h1]; rfl)).trans h3, h4⟩

/-- The nodes that are made so far, their rows of children apart from one another. -/
structure Forest (w : World) (B : Nat) (N : Nat → Nat) (V I : Nat → Value) (ss : List StD) (m : Nat) : Prop where
  node : ∀ k, k < m → B ≤ N k ∧ w.heap[N k]? = some (.cells #[.int .i64 (k : Int), parV N ss k, I k, V k] 58 (0, 0))
  kid : ∀ k, k < m → w.ownsRow B 50 1 (V k) (kids ss m k).length (ptrs N (kids ss m k))
  apart : ∀ k j b, k < m → j < m → (V k).ownBlock = some b → (V j).ownBlock = some b → k = j
structure TreeRow (w : World) (B : Nat) (N : Nat → Nat) (V : Nat → Value) (tv : Value) (m : Nat) : Prop where
  row : w.ownsRow B 50 1 tv m (ptrs N (List.range m))
  apart : ∀ k b, k < m → (V k).ownBlock = some b → tv.ownBlock ≠ some b

theorem Forest.lt {w : World} {B : Nat} {N : Nat → Nat} {V I : Nat → Value} {ss : List StD} {m : Nat} (h : Forest w B N V I ss m) {k : Nat} (hk : k < m) : N k < w.heap.size := lt_of_block (h.node k hk).2
theorem Forest.nodes {w : World} {B : Nat} {N : Nat → Nat} {V I : Nat → Value} {ss : List StD} {m : Nat} (h : Forest w B N V I ss m) : Nodes w N ss m := fun k hk => by
  obtain ⟨c0, c1, _, _⟩ := quad_cells (h.node k hk).2
  exact ⟨h.lt hk, c0, c1⟩
theorem Forest.nodeB {w : World} {B : Nat} {N : Nat → Nat} {V I : Nat → Value} {ss : List StD} {m : Nat} (h : Forest w B N V I ss m) : NodeB w N m := fun k hk => ⟨_, (h.node k hk).2⟩
theorem Forest.inj {w : World} {B : Nat} {N : Nat → Nat} {V I : Nat → Value} {ss : List StD} {m : Nat} (h : Forest w B N V I ss m) {i j : Nat} (hi : i < m) (hj : j < m) (e : N i = N j) : i = j := h.nodes.inj hi hj e
theorem Forest.keep {w w' : World} {B : Nat} {N : Nat → Nat} {V I : Nat → Value} {ss : List StD} {m : Nat} (h : Forest w B N V I ss m) (hk : ∀ k, k < m → w'.heap[N k]? = w.heap[N k]?) (hv : ∀ k b, k < m → (V k).ownBlock = some b → w'.heap[b]? = w.heap[b]?) : Forest w' B N V I ss m :=
  ⟨fun k hk' => ⟨(h.node k hk').1, (hk k hk').trans (h.node k hk').2⟩, fun k hk' => ownsRow_of (h.kid k hk') (fun b e => hv k b hk' e), h.apart⟩
theorem Forest.below {w w' : World} {B : Nat} {N : Nat → Nat} {V I : Nat → Value} {ss : List StD} {m : Nat} (h : Forest w B N V I ss m) (hb : Below w.heap.size w w') : Forest w' B N V I ss m :=
  h.keep (fun _ hk => hb.block _ (h.lt hk)) (fun k b hk e => hb.block _ ((h.kid k hk).lt b e).2)
theorem TreeRow.below {w w' : World} {B : Nat} {N : Nat → Nat} {V : Nat → Value} {tv : Value} {m : Nat} (h : TreeRow w B N V tv m) (hb : Below w.heap.size w w') : TreeRow w' B N V tv m := ⟨ownsRow_below h.row hb, h.apart⟩
theorem row_away {w : World} {B : Nat} {v : Value} {n : Nat} {xs : List Value} (h : w.ownsRow B 50 1 v n xs) {H : Nat} {cs : Array Value} {t : TypeId} (ht : t ≠ 50) (hH : w.heap[H]? = some (.cells cs t (0, 0))) : v.ownBlock ≠ some H := by
  intro e
  rcases h.2 with ⟨h0, _⟩ | ⟨g, cap, cur, h1, h2, h3, h4⟩
  · rw [h0] at e; cases e
  · rw [h1] at e
    simp [Value.ownBlock] at e
    subst e
    rw [hH] at h3
    simp at h3
    exact ht h3.2

/-- One node more. -/
def upN (N : Nat → Nat) (m H : Nat) : Nat → Nat := fun k => if k = m then H else N k
theorem upN_lt {N : Nat → Nat} {m H k : Nat} (h : k < m) : upN N m H k = N k := if_neg (by omega)
theorem upN_at (N : Nat → Nat) (m H : Nat) : upN N m H m = H := if_pos rfl
theorem ptrs_upN {N : Nat → Nat} {m H : Nat} {l : List Nat} (h : ∀ x, x ∈ l → x < m) : ptrs (upN N m H) l = ptrs N l := by
  unfold ptrs
  apply List.map_congr_left
  intro x hx
  rw [upN_lt (h x hx)]
theorem kids_lt {ss : List StD} {m k x : Nat} (h : x ∈ kids ss m k) : x < m := (mem_kids.1 h).1
theorem range_upN {N : Nat → Nat} {m H : Nat} : ptrs (upN N m H) (List.range (m + 1)) = ptrs N (List.range m) ++ [.pointer (some ⟨H, 0, none⟩)] := by
  rw [List.range_succ]
  have h : ptrs (upN N m H) (List.range m) = ptrs N (List.range m) := ptrs_upN (fun x hx => List.mem_range.1 hx)
  unfold ptrs at h ⊢
  rw [List.map_append, h]
  simp [upN_at]

/-- The first node. -/
theorem forest_first {w : World} {B H : Nat} {ss : List StD} {N : Nat → Nat} {V : Nat → Value} (hB : B ≤ H) (h0 : par ss 0 = -1) (hH : w.heap[H]? = some (.cells #[.int .i64 0, .pointer none, .pointer none, .slice none 0 0] 58 (0, 0))) :
    Forest w B (upN N 0 H) (fun k => if k = 0 then .slice none 0 0 else V k) (fun _ => .pointer none) ss 1 := by
  have hk : kids ss 1 0 = [] := by
    rw [List.eq_nil_iff_forall_not_mem]
    intro x hx
    obtain ⟨h1, h2⟩ := mem_kids.1 hx
    have : x = 0 := by omega
    subst this
    rw [h0] at h2
    omega
  refine ⟨fun k hk' => ?_, fun k hk' => ?_, fun k j b h1 h2 _ _ => by omega⟩
  · have : k = 0 := by omega
    subst this
    exact ⟨by rw [upN_at]; exact hB, by rw [upN_at]; exact hH⟩
  · have : k = 0 := by omega
    subst this
    rw [hk]
    exact World.ownsRow_nil _ _ _ _

/-- A node that has a parent. -/
theorem forest_next {w w2 : World} {B H p m : Nat} {ss : List StD} {N : Nat → Nat} {V : Nat → Value} {cv' : Value} (h : Forest w B N V (fun _ => .pointer none) ss m) (hT : ∀ i, 0 < i → i < m → 0 ≤ par ss i ∧ par ss i < i) (h0 : par ss 0 = -1) (hm : 0 < m) (hp : par ss m = p) (hpm : p < m) (hBH : B ≤ H)
    (hHn : ∀ k, k < m → N k ≠ H)
    (hP2 : w2.heap[N p]? = some (.cells #[.int .i64 (p : Int), parV N ss p, .pointer none, cv'] 58 (0, 0)))
    (hH2 : w2.heap[H]? = some (.cells #[.int .i64 (m : Int), .pointer (some ⟨N p, 0, none⟩), .pointer none, .slice none 0 0] 58 (0, 0)))
    (ho : w2.ownsRow B 50 1 cv' ((kids ss m p).length + 1) (ptrs N (kids ss m p) ++ [.pointer (some ⟨H, 0, none⟩)]))
    (hcv : cv'.ownBlock = (V p).ownBlock ∨ ∃ b, cv'.ownBlock = some b ∧ w.heap.size ≤ b)
    (hH1 : w.heap[H]? = some (.cells #[.int .i64 (m : Int), .pointer none, .pointer none, .slice none 0 0] 58 (0, 0)))
    (hk : Kept (fun q => q = N p ∨ q = H ∨ (V p).ownBlock = some q) w w2) :
    Forest w2 B (upN N m H) (fun k => if k = m then .slice none 0 0 else if k = p then cv' else V k) (fun _ => .pointer none) ss (m + 1) := by
  have hpar : ∀ k, k < m → parV (upN N m H) ss k = parV N ss k := by
    intro k hk'
    unfold parV
    by_cases e : k = 0
    · rw [if_pos e, if_pos e]
    · have := hT k (by omega) hk'
      rw [if_neg e, if_neg e, upN_lt (by omega)]
  have hold : ∀ k, k < m → k ≠ p → w2.heap[N k]? = w.heap[N k]? := by
    intro k hk' hne
    refine hk.block _ (h.lt hk') ?_
    rintro (e | e | e)
    · exact hne (h.inj hk' hpm e)
    · exact hHn k hk' e
    · exact row_node (h.kid p hpm) (h.node k hk').2 e
  refine ⟨fun k hk' => ?_, fun k hk' => ?_, fun k j b h1 h2 e1 e2 => ?_⟩
  · by_cases e : k = m
    · subst e
      refine ⟨by rw [upN_at]; exact hBH, ?_⟩
      rw [upN_at, hH2, if_pos rfl]
      have : parV (upN N k H) ss k = .pointer (some ⟨N p, 0, none⟩) := by
        unfold parV
        rw [if_neg (by omega), hp, Int.toNat_natCast, upN_lt hpm]
      rw [this]
    · have hkm : k < m := by omega
      refine ⟨by rw [upN_lt hkm]; exact (h.node k hkm).1, ?_⟩
      rw [upN_lt hkm, hpar k hkm, if_neg e]
      by_cases e2 : k = p
      · subst e2; rw [if_pos rfl]; exact hP2
      · rw [if_neg e2, hold k hkm e2]; exact (h.node k hkm).2
  · by_cases e : k = m
    · subst e
      have hk0 : kids ss (k + 1) k = [] := by
        rw [List.eq_nil_iff_forall_not_mem]
        intro x hx
        obtain ⟨h1, h2⟩ := mem_kids.1 hx
        by_cases x0 : x = 0
        · subst x0; rw [h0] at h2; omega
        · by_cases xm : x = k
          · subst xm; omega
          · have := hT x (by omega) (by omega); omega
      rw [hk0, if_pos rfl]
      exact World.ownsRow_nil _ _ _ _
    · have hkm : k < m := by omega
      rw [if_neg e, kids_succ, hp]
      by_cases e2 : k = p
      · subst e2
        rw [if_pos rfl, if_pos rfl]
        have e3 : ptrs (upN N m H) (kids ss m k ++ [m]) = ptrs N (kids ss m k) ++ [.pointer (some ⟨H, 0, none⟩)] := by
          have h1 : ptrs (upN N m H) (kids ss m k) = ptrs N (kids ss m k) := ptrs_upN (fun x hx => kids_lt hx)
          unfold ptrs at h1 ⊢
          rw [List.map_append, h1]
          simp [upN_at]
        rw [e3, List.length_append]
        exact ho
      · rw [if_neg e2, if_neg (by omega), ptrs_upN (fun x hx => kids_lt hx)]
        refine ownsRow_of (h.kid k hkm) (fun b eb => hk.block b ((h.kid k hkm).lt b eb).2 ?_)
        rintro (e4 | e4 | e4)
        · subst e4; exact row_node (h.kid k hkm) (h.node p hpm).2 eb
        · subst e4; exact row_node (h.kid k hkm) hH1 eb
        · exact e2 (h.apart k p b hkm hpm eb e4)
  · by_cases ek : k = m
    · simp [ek, Value.ownBlock] at e1
    · by_cases ej : j = m
      · simp [ej, Value.ownBlock] at e2
      · have hkm : k < m := by omega
        have hjm : j < m := by omega
        simp only [ek, ej, if_false] at e1 e2
        by_cases ekp : k = p
        · by_cases ejp : j = p
          · rw [ekp, ejp]
          · simp only [ekp, ejp, if_true, if_false] at e1 e2
            rcases hcv with h5 | ⟨b', h5, h6⟩
            · rw [h5] at e1
              exact (ejp (h.apart j p b hjm hpm e2 e1)).elim
            · rw [h5] at e1
              have := ((h.kid j hjm).lt b e2).2
              simp at e1
              omega
        · by_cases ejp : j = p
          · simp only [ekp, ejp, if_true, if_false] at e1 e2
            rcases hcv with h5 | ⟨b', h5, h6⟩
            · rw [h5] at e2
              exact (ekp (h.apart k p b hkm hpm e1 e2)).elim
            · rw [h5] at e2
              have := ((h.kid k hkm).lt b e1).2
              simp at e2
              omega
          · simp only [ekp, ejp, if_false] at e1 e2
            exact h.apart k j b hkm hjm e1 e2

/-- The row of all nodes gets one more. -/
theorem tree_next {w w3 : World} {B H g cap m : Nat} {ss : List StD} {N : Nat → Nat} {V : Nat → Value} {tv : Value} {lit : Obj} (h : Forest w B (upN N m H) V (fun _ => .pointer none) ss (m + 1))
    (ht : w.ownsRow B 50 1 tv m (ptrs N (List.range m))) (ha : ∀ k b, k < m + 1 → (V k).ownBlock = some b → tv.ownBlock ≠ some b)
    (hown : w3.ownsRow B 50 1 (.slice (some ⟨g, 0, none⟩) (m + 1) cap) (m + 1) (ptrs N (List.range m) ++ [.pointer (some ⟨H, 0, none⟩)])) (hgrow : (w.alloc lit).grownBy w3 tv.ownBlock)
    (hat : tv.ownBlock = some g ∨ g = w.heap.size + 1) :
    Forest w3 B (upN N m H) V (fun _ => .pointer none) ss (m + 1) ∧ TreeRow w3 B (upN N m H) V (.slice (some ⟨g, 0, none⟩) (m + 1) cap) (m + 1) := by
  have same : ∀ q, q < w.heap.size → tv.ownBlock ≠ some q → w3.heap[q]? = w.heap[q]? := fun q hq hne => by
    rw [grown_block hgrow (by simp; omega) hne, heap_alloc_old _ _ hq]
  refine ⟨h.keep (fun k hk => same _ (h.lt hk) ?_) (fun k b hk e => same b ((h.kid k hk).lt b e).2 (ha k b hk e)), ⟨by rw [range_upN]; exact hown, fun k b hk e => ?_⟩⟩
  · exact row_node ht (h.node k hk).2
  · intro e2
    simp [Value.ownBlock] at e2
    subst e2
    rcases hat with h1 | h1
    · exact ha k g hk e h1
    · have := ((h.kid k hk).lt g e).2
      omega

/-- An initial state is laid into a node. -/
theorem forest_initial {w : World} {B i x : Nat} {ss : List StD} {N : Nat → Nat} {V I : Nat → Value} {m : Nat} (h : Forest w B N V I ss m) (hi : i < m) :
    Forest (w.setCell ⟨N i, 2, none⟩ (.pointer (some ⟨N x, 0, none⟩))) B N V (fun k => if k = i then .pointer (some ⟨N x, 0, none⟩) else I k) ss m := by
  refine ⟨fun k hk => ⟨(h.node k hk).1, ?_⟩, fun k hk => ownsRow_of (h.kid k hk) (fun b e => heap_setCell_other _ _ _ _ ?_), h.apart⟩
  · by_cases e : k = i
    · subst e
      rw [heap_setCell_same w _ 2 _ _ _ (h.node k hk).2]
      simp
    · rw [heap_setCell_other _ _ _ _ (by simpa using fun e2 => e (h.inj hk hi e2)), (h.node k hk).2]
      simp [e]
  · rintro rfl
    exact row_node (h.kid k hk) (h.node i hi).2 e
theorem Forest.congrI {w : World} {B : Nat} {N : Nat → Nat} {V I J : Nat → Value} {ss : List StD} {m : Nat} (h : Forest w B N V I ss m) (e : ∀ k, k < m → I k = J k) : Forest w B N V J ss m :=
  ⟨fun k hk => by rw [← e k hk]; exact h.node k hk, h.kid, h.apart⟩
end Go.Proofs.Ytjeckanjekgkkaa

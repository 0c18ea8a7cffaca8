import Derived.Test.YthaklmdhkkfigaaGreatZb
import Derived.Test.YthaklmdhkkfigaaGreatKx11
import Derived.Test.YthaklmdhkkfigaaGreatZd
namespace Go.Proofs.YthaklmdhkkfigaaGreat
open Go.RowKit Go.Sort
set_option linter.unusedVariables false
attribute [local go_sem ↓] Go.wp_at_zero Go.wp_at_succ

/-- An engine at work: its box, its actors, its timers. -/
structure EngS (w0 w : World) (H : Nat) (sg : Int) (A R M X s6 g9 g10 rv : Value) (wt tk : Int) (rs : List (Int × Int × Int)) (cl : List Ac) (os : List ObD) (k : KerD) (al : List ((Int × Int) × Int × Int)) : Prop where
  eng : Eng w w0.heap.size H sg A R M X s6 g9 g10 rv wt tk rs
  row : ActRow w w0.heap.size A (cl.map Ac.a)
  acts : Acts w0 w cl os k
  alr : AlRow w w0.heap.size X al
  bel : Below w0.heap.size w0 w
section
variable {w0 w w' : World} {H : Nat} {sg : Int} {A R M X s6 g9 g10 rv rv' : Value} {wt wt' tk : Int} {rs rs' : List (Int × Int × Int)} {cl : List Ac} {os : List ObD} {k : KerD} {al : List ((Int × Int) × Int × Int)}
theorem EngS.below (h : EngS w0 w H sg A R M X s6 g9 g10 rv wt tk rs cl os k al) (hb : Below w.heap.size w w') : EngS w0 w' H sg A R M X s6 g9 g10 rv wt tk rs cl os k al :=
  ⟨h.eng.below hb, ownsRow_below h.row hb, h.acts.below hb, ownsRow_below h.alr hb, h.bel.trans (hb.mono h.bel.size)⟩
theorem row_tn {K : Nat → Prop} {B : Nat} {e : TypeId} {size n : Nat} {v : Value} {xs : List Value} (h : w.ownsRow B e size v n xs) (t : Tn K w w') (hK : ∀ b cs, K b → w.heap[b]? ≠ some (.cells cs e (0, 0))) : w'.ownsRow B e size v n xs := by
  refine row_same h (fun b hb e1 => t.block b hb (fun hk => ?_))
  rcases h.2 with ⟨h0, _⟩ | ⟨g, cap, cur, h1, _, h3, _⟩
  · rw [h0] at e1; cases e1
  · rw [h1] at e1
    simp [Value.ownBlock] at e1
    subst e1
    exact hK _ _ hk h3
/-- Something was recorded. -/
theorem EngS.noted (h : EngS w0 w H sg A R M X s6 g9 g10 rv wt tk rs cl os k al) (hE : Eng w' w0.heap.size H sg A R M X s6 g9 g10 rv' wt' tk rs') (t : Tn (fun b => b = H ∨ rv.ownBlock = some b) w w') : EngS w0 w' H sg A R M X s6 g9 g10 rv' wt' tk rs' cl os k al := by
  have hr : ∀ b, rv.ownBlock = some b → ∃ cs, w.heap[b]? = some (.cells cs 106 (0, 0)) := by
    intro b e1
    rcases h.eng.r.2 with ⟨h0, _⟩ | ⟨g, cap, cur, h1, _, h3, _⟩
    · rw [h0] at e1; cases e1
    · rw [h1] at e1
      simp [Value.ownBlock] at e1
      subst e1
      exact ⟨_, h3⟩
  have hK : ∀ (e : TypeId), e ≠ 100 → e ≠ 106 → ∀ b cs, (b = H ∨ rv.ownBlock = some b) → w.heap[b]? ≠ some (.cells cs e (0, 0)) := by
    rintro e h1 h2 b cs (rfl | hb) he
    · rw [h.eng.o] at he
      simp at he
      exact h1 he.2.symm
    · obtain ⟨cs', hc⟩ := hr b hb
      rw [hc] at he
      simp at he
      exact h2 he.2.symm
  refine ⟨hE, row_tn h.row t (hK _ (by decide) (by decide)), h.acts.tag h.eng.o (by decide) (by decide) (by decide) t ?_, row_tn h.alr t (hK _ (by decide) (by decide)), ?_⟩
  · rintro b (rfl | hb)
    · exact .inl rfl
    · obtain ⟨cs, hc⟩ := hr b hb
      exact .inr (.inr ⟨cs, _, hc, by decide, by decide, by decide⟩)
  · exact h.bel.trans (t.below h.bel.size (fun i hi => by
      rcases hi with rfl | hi
      · exact h.eng.hH
      · exact (h.eng.r.lt i hi).1))
/-- An event was put behind a queue. -/
theorem EngS.put {i : Nat} {x : Int × Int} (h : EngS w0 w H sg A R M X s6 g9 g10 rv wt tk rs cl os k al) (hi : i < cl.length) (hl : i < k.qs.length) (hE : Eng w' w0.heap.size H sg A R M X s6 g9 g10 rv' wt' tk rs') (hr : RingAt w' w0.heap.size (cl.getD i ac0).P (cl.getD i ac0).S (os.getD i ob0).qcap.toNat (k.qs.getD i [] ++ [x])) (t : Tn (fun b => b = H ∨ b = (cl.getD i ac0).P ∨ b = (cl.getD i ac0).S) w w') : EngS w0 w' H sg A R M X s6 g9 g10 rv' wt' tk rs' cl os { k with qs := k.qs.set i (k.qs.getD i [] ++ [x]) } al := by
  have hA := h.acts.at_ i hi
  obtain ⟨⟨p1, q1⟩, ⟨s1, r1⟩⟩ := hA.q.boxes
  have hK : ∀ (e : TypeId), e ≠ 100 → e ≠ 182 → e ≠ 70 → ∀ b cs, (b = H ∨ b = (cl.getD i ac0).P ∨ b = (cl.getD i ac0).S) → w.heap[b]? ≠ some (.cells cs e (0, 0)) := by
    rintro e h1 h2 h3 b cs (rfl | rfl | rfl) he
    · rw [h.eng.o] at he
      simp at he
      exact h1 he.2.symm
    · rw [q1] at he
      simp at he
      exact h2 he.2.symm
    · rw [r1] at he
      simp at he
      exact h3 he.2.symm
  refine ⟨hE, row_tn h.row t (hK _ (by decide) (by decide) (by decide)), h.acts.put hi hl t (fun b hb => hb) h.eng.o hr, row_tn h.alr t (hK _ (by decide) (by decide) (by decide)), ?_⟩
  have lo := hA.lo
  have iq := hA.iq
  exact h.bel.trans (t.below h.bel.size (fun j hj => by
      rcases hj with rfl | rfl | rfl
      · exact h.eng.hH
      · omega
      · omega))
end
end Go.Proofs.YthaklmdhkkfigaaGreat
namespace Go.Proofs.YthaklmdhkkfigaaGreat
open Go.RowKit Go.Sort
set_option linter.unusedVariables false

theorem ker_parts {sg : Int} {os : List ObD} {ts : List (Int × Int)} {k : KerD} (h : kerB sg os ts k = true) : lenP os ts k ∧ ((1 ≤ sg ∧ sg ≤ 64) ∧ (1 ≤ os.length ∧ os.length ≤ 64) ∧ ts.length ≤ 200) ∧ ∀ i, i < os.length → (k.qs.getD i []).length ≤ (os.getD i ob0).qcap.toNat ∧ (k.ds.getD i []).length ≤ (os.getD i ob0).dcap.toNat := by
  have hd := h
  unfold kerB at hd
  obtain ⟨h1, h2, h3, _⟩ := of_decide_eq_true hd
  have c := sys_cnt h1
  refine ⟨h2, ?_, fun i hi => ?_⟩
  · unfold cntP at c
    omega
  · have h4 := h3 i hi
    unfold obKi obK at h4
    simp only [Bool.and_eq_true] at h4
    obtain ⟨_, _, q, d⟩ := h4
    unfold evB at q d
    have q1 := (of_decide_eq_true q).2
    have d1 := (of_decide_eq_true d).2
    omega
theorem RingAt.base {w : World} {B C P S cap : Nat} {es : List (Int × Int)} (h : RingAt w B P S cap es) (hb : C ≤ B) : RingAt w C P S cap es := by
  obtain ⟨a, b, r⟩ := h
  exact ⟨Nat.le_trans hb a, Nat.le_trans hb b, r⟩
theorem ringOf_ex (cap : Nat) (ao : Option Addr) (n c : Nat) (es : List (Int × Int)) (w : World) (hc : cap ≤ 1000) (hn : n ≤ cap) (hs : ItemsOf w ao n es) :
    Calls Tryz.prog 73 #[.int .i64 cap, .slice ao n c] w fun e w' => ∃ P S, e = .returned (.pointer (some ⟨P, 0, none⟩)) ∧ RingAt w' w.heap.size P S cap es ∧ Below w.heap.size w w' ∧ (P < w'.heap.size ∧ S < w'.heap.size) :=
  (ringOf_any cap ao n c es w hc hn hs).mono (by
    rintro e w' ⟨rfl, h1, h2, h3⟩
    exact ⟨_, _, rfl, h1, h2, by omega, by omega⟩)
/-- An engine in the making: the arguments' boxes, the engine's, its actors so far, its timers so far. -/
structure EI (w : World) (S K : Array Value) (sg : Int) (os : List ObD) (kd : KerD) (A Xv : Value) (wt : Int) (cl : List Ac) (al : List ((Int × Int) × Int × Int)) (X : World) : Prop where
  bel : Below w.heap.size w X
  sb : X.heap[w.heap.size]? = some (.cells S 42 (0, 0))
  kb : X.heap[w.heap.size + 1]? = some (.cells K 35 (0, 0))
  eng : Eng X w.heap.size (w.heap.size + 1 + 1 + 1) sg A (.slice none 0 0) (.map none) Xv (.int .u32 0) (.int .u64 0) (.int .u32 0) (.slice (some ⟨w.heap.size + 1 + 1, 0, none⟩) 0 0) wt 0 []
  row : ActRow X w.heap.size A (cl.map Ac.a)
  acts : Acts w X cl os kd
  alr : AlRow X w.heap.size Xv al
section
variable {w X Y Z : World} {S K : Array Value} {sg : Int} {os : List ObD} {kd : KerD} {A Xv : Value} {wt : Int} {cl : List Ac} {al : List ((Int × Int) × Int × Int)}
theorem EI.below (h : EI w S K sg os kd A Xv wt cl al X) (hb : Below X.heap.size X Y) : EI w S K sg os kd A Xv wt cl al Y :=
  ⟨h.bel.trans (hb.mono h.bel.size), block_below h.sb hb, block_below h.kb hb, h.eng.below hb, ownsRow_below h.row hb, h.acts.below hb, ownsRow_below h.alr hb⟩
theorem EI.below' (h : EI w S K sg os kd A Xv wt cl al X) (hb : Below X.heap.size X Y) : Below w.heap.size w Y ∧ Y.heap[w.heap.size]? = some (.cells S 42 (0, 0)) ∧ Y.heap[w.heap.size + 1]? = some (.cells K 35 (0, 0)) := ⟨h.bel.trans (hb.mono h.bel.size), block_below h.sb hb, block_below h.kb hb⟩
abbrev eiW (w : World) (S K : Array Value) (sg : Int) : World := (((w.alloc (.cells S 42)).alloc (.cells K 35)).alloc (.cells #[] 106)).alloc (.cells #[.int .i64 sg, .slice none 0 0, .slice none 0 0, .map none, .slice none 0 0, .int .i32 0, .int .u32 0, .int .i64 0, .int .i64 0, .int .u64 0, .int .u32 0, .slice (some ⟨w.heap.size + 1 + 1, 0, none⟩) 0 0] 100)
theorem ei_start (w : World) (S K : Array Value) (sg : Int) (os : List ObD) (kd : KerD) : EI w S K sg os kd (.slice none 0 0) (.slice none 0 0) 0 [] [] (eiW w S K sg) := by
  have b1 := below1 w (.cells S 42)
  have b2 := below1 (w.alloc (.cells S 42)) (.cells K 35)
  have b3 := below1 ((w.alloc (.cells S 42)).alloc (.cells K 35)) (.cells #[] 106)
  have b4 := below1 (((w.alloc (.cells S 42)).alloc (.cells K 35)).alloc (.cells #[] 106)) (.cells #[.int .i64 sg, .slice none 0 0, .slice none 0 0, .map none, .slice none 0 0, .int .i32 0, .int .u32 0, .int .i64 0, .int .i64 0, .int .u64 0, .int .u32 0, .slice (some ⟨w.heap.size + 1 + 1, 0, none⟩) 0 0] 100)
  have h2 := heap_alloc_new (w.alloc (.cells S 42)) (.cells K 35)
  have h4 := heap_alloc_new (((w.alloc (.cells S 42)).alloc (.cells K 35)).alloc (.cells #[] 106)) (.cells #[.int .i64 sg, .slice none 0 0, .slice none 0 0, .map none, .slice none 0 0, .int .i32 0, .int .u32 0, .int .i64 0, .int .i64 0, .int .u64 0, .int .u32 0, .slice (some ⟨w.heap.size + 1 + 1, 0, none⟩) 0 0] 100)
  simp only [World.size_alloc] at h2 h4
  have r3 : RcRow (((w.alloc (.cells S 42)).alloc (.cells K 35)).alloc (.cells #[] 106)) w.heap.size (.slice (some ⟨w.heap.size + 1 + 1, 0, none⟩) 0 0) [] := by
    have := World.ownsRow_lit ((w.alloc (.cells S 42)).alloc (.cells K 35)) (e := 106) (size := 3) (base := w.heap.size) #[] 0 (by simp; omega) (by decide) rfl
    simp only [World.size_alloc] at this
    exact this
  refine ⟨?_, ?_, ?_, ⟨h4, by omega, ownsRow_below r3 b4⟩, World.ownsRow_nil _ _ _ _, Acts.start _ _ _ _, World.ownsRow_nil _ _ _ _⟩
  · exact (below3 _ _ _ _).alloc (by simp; omega) _
  · exact block_below (block_below (block_below (heap_alloc_new w _) b2) b3) b4
  · exact block_below (block_below h2 b3) b4
/-- An actor is put behind the others. -/
theorem EI.add {N : World} {c : Ac} {g n cap : Nat} {o : Obj} (h : EI w S K sg os kd A Xv wt cl al N) (hb : Below N.heap.size N X) (hc : ActAt w X c cl.length (os.getD cl.length ob0) (kd.leaf.getD cl.length 0) (kd.vals.getD cl.length []) (kd.qs.getD cl.length []) (kd.ds.getD cl.length [])) (hlo : N.heap.size ≤ c.lo) (hg : (X.alloc o).grownBy Z A.ownBlock) (hown : Z.ownsRow w.heap.size 146 1 (.slice (some ⟨g, 0, none⟩) n cap) (cl.length + 1) ((cl.map Ac.a).map (fun a => Value.pointer (some ⟨a, 0, none⟩)) ++ [.pointer (some ⟨c.a, 0, none⟩)])) :
    EI w S K sg os kd A Xv wt cl al (X.alloc o) ∧ (Z.heap[w.heap.size + 1 + 1 + 1]? = some (.cells (engC sg A (.slice none 0 0) (.map none) Xv (.int .u32 0) (.int .u64 0) (.int .u32 0) (.slice (some ⟨w.heap.size + 1 + 1, 0, none⟩) 0 0) wt 0) 100 (0, 0))) ∧ EI w S K sg os kd (.slice (some ⟨g, 0, none⟩) n cap) Xv wt (cl ++ [c]) al (Z.setCell ⟨w.heap.size + 1 + 1 + 1, 1, none⟩ (.slice (some ⟨g, 0, none⟩) n cap)) := by
  have hX := (h.below hb).below (below1 X o)
  have hcX := hc.below (below1 X o)
  have hac : Acts w (X.alloc o) (cl ++ [c]) os kd := hX.acts.snoc hcX (fun i hi => Nat.le_trans (h.acts.at_ i hi).hi hlo)
  -- behind the growing
  have hr := hX.row
  have far : ∀ (b : Nat) (cs : Array Value) (t : TypeId), (X.alloc o).heap[b]? = some (.cells cs t (0, 0)) → t ≠ 146 → Z.heap[b]? = (X.alloc o).heap[b]? := fun b cs t hb ht => hg.block b (lt_of_block hb) (fun x => own_far2 hr ht hb x.symm)
  have tn : Tn (fun b => A.ownBlock = some b) (X.alloc o) Z := ⟨hg.os, hg.tape, hg.output, hg.size, fun b hb hs => hg.block b hb (fun x => hs x.symm)⟩
  have arow : ∀ b, A.ownBlock = some b → ∃ cs, (X.alloc o).heap[b]? = some (.cells cs 146 (0, 0)) := by
    intro b e1
    rcases hr.2 with ⟨h0, _⟩ | ⟨g', cap', cur, h1, _, h3, _⟩
    · rw [h0] at e1; cases e1
    · rw [h1] at e1
      simp [Value.ownBlock] at e1
      subst e1
      exact ⟨_, h3⟩
  have oZ := (far _ _ _ hX.eng.o (by decide)).trans hX.eng.o
  have rZ : RcRow Z w.heap.size (.slice (some ⟨w.heap.size + 1 + 1, 0, none⟩) 0 0) [] := own_keep hX.eng.r hg (row_apart hX.eng.r hr (by decide))
  have eZ : Eng Z w.heap.size (w.heap.size + 1 + 1 + 1) sg A (.slice none 0 0) (.map none) Xv (.int .u32 0) (.int .u64 0) (.int .u32 0) (.slice (some ⟨w.heap.size + 1 + 1, 0, none⟩) 0 0) wt 0 [] := ⟨oZ, hX.eng.hH, rZ⟩
  have aZ : Acts w Z (cl ++ [c]) os kd := hac.tag hX.eng.o (by decide) (by decide) (by decide) tn (fun b hb => by
    obtain ⟨cs, e⟩ := arow b hb
    exact .inr (.inr ⟨cs, _, e, by decide, by decide, by decide⟩))
  have alZ : AlRow Z w.heap.size Xv al := own_keep hX.alr hg (row_apart hX.alr hr (by decide))
  have kz : ∀ T, 100 ∉ T → Kp T Z (Z.setCell ⟨w.heap.size + 1 + 1 + 1, 1, none⟩ (.slice (some ⟨g, 0, none⟩) n cap)) := fun T ht => Kp.set oZ ht _
  have bz : Below w.heap.size w Z := hX.bel.trans (tn.below hX.bel.size (fun i e => (hr.lt i e).1))
  refine ⟨hX, oZ, below_set bz (by omega), ?_, ?_, (eng_set eZ _).2.2.1, ?_, aZ.tag oZ (by decide) (by decide) (by decide) (Tn.one _) (fun b hb => .inl hb), (kz [159] (by decide)).own alZ (by simp)⟩
  · exact (Below.heap_setCell _ _ _ _ (by show w.heap.size ≠ w.heap.size + 1 + 1 + 1; omega)).trans ((far _ _ _ hX.sb (by decide)).trans hX.sb)
  · exact (Below.heap_setCell _ _ _ _ (by show w.heap.size + 1 ≠ w.heap.size + 1 + 1 + 1; omega)).trans ((far _ _ _ hX.kb (by decide)).trans hX.kb)
  · refine (kz [146] (by decide)).own (act_row (n := cl.length + 1) (by simp) ?_) (by simp)
    rw [List.map_append, List.map_append]
    exact hown
/-- Its queue is counted. -/
theorem EI.count (h : EI w S K sg os kd A Xv wt cl al X) (z : Int) : EI w S K sg os kd A Xv z cl al (((X.setCell ⟨w.heap.size + 1 + 1 + 1, 5, none⟩ (.int .i32 1)).setCell ⟨w.heap.size + 1 + 1 + 1, 7, none⟩ (.int .i64 z)).setCell ⟨w.heap.size + 1 + 1 + 1, 5, none⟩ (.int .i32 0)) := by
  obtain ⟨e1, t⟩ := h.eng.count z
  have hK : ∀ (e : TypeId), e ≠ 100 → ∀ b cs, b = w.heap.size + 1 + 1 + 1 → X.heap[b]? ≠ some (.cells cs e (0, 0)) := by
    rintro e h1 b cs rfl he
    rw [h.eng.o] at he
    simp at he
    exact h1 he.2.symm
  exact ⟨h.bel.trans (t.below h.bel.size (fun i e => by omega)), t.at h.sb (by show ¬ w.heap.size = _; omega), t.at h.kb (by show ¬ w.heap.size + 1 = _; omega), e1, row_tn h.row t (hK _ (by decide)), h.acts.tag h.eng.o (by decide) (by decide) (by decide) t (fun b hb => .inl hb), row_tn h.alr t (hK _ (by decide))⟩
/-- A timer is put behind the others. -/
theorem EI.alarm {g n cap : Nat} {x : (Int × Int) × Int × Int} (hX : EI w S K sg os kd A Xv wt cl al X) (hg : X.grownBy Z Xv.ownBlock) (hown : Z.ownsRow w.heap.size 159 4 (.slice (some ⟨g, 0, none⟩) n cap) (al.length + 1) (alC al ++ [.int .i64 x.1.1, .int .i64 x.1.2, .int .i64 x.2.1, .int .i64 x.2.2])) :
    (Z.heap[w.heap.size + 1 + 1 + 1]? = some (.cells (engC sg A (.slice none 0 0) (.map none) Xv (.int .u32 0) (.int .u64 0) (.int .u32 0) (.slice (some ⟨w.heap.size + 1 + 1, 0, none⟩) 0 0) wt 0) 100 (0, 0))) ∧ EI w S K sg os kd A (.slice (some ⟨g, 0, none⟩) n cap) wt cl (al ++ [x]) (Z.setCell ⟨w.heap.size + 1 + 1 + 1, 4, none⟩ (.slice (some ⟨g, 0, none⟩) n cap)) := by
  have hr := hX.alr
  have far : ∀ (b : Nat) (cs : Array Value) (t : TypeId), X.heap[b]? = some (.cells cs t (0, 0)) → t ≠ 159 → Z.heap[b]? = X.heap[b]? := fun b cs t hb ht => hg.block b (lt_of_block hb) (fun x => own_far2 hr ht hb x.symm)
  have tn : Tn (fun b => Xv.ownBlock = some b) X Z := ⟨hg.os, hg.tape, hg.output, hg.size, fun b hb hs => hg.block b hb (fun x => hs x.symm)⟩
  have arow : ∀ b, Xv.ownBlock = some b → ∃ cs, X.heap[b]? = some (.cells cs 159 (0, 0)) := by
    intro b e1
    rcases hr.2 with ⟨h0, _⟩ | ⟨g', cap', cur, h1, _, h3, _⟩
    · rw [h0] at e1; cases e1
    · rw [h1] at e1
      simp [Value.ownBlock] at e1
      subst e1
      exact ⟨_, h3⟩
  have oZ := (far _ _ _ hX.eng.o (by decide)).trans hX.eng.o
  have rZ : RcRow Z w.heap.size (.slice (some ⟨w.heap.size + 1 + 1, 0, none⟩) 0 0) [] := own_keep hX.eng.r hg (row_apart hX.eng.r hr (by decide))
  have eZ : Eng Z w.heap.size (w.heap.size + 1 + 1 + 1) sg A (.slice none 0 0) (.map none) Xv (.int .u32 0) (.int .u64 0) (.int .u32 0) (.slice (some ⟨w.heap.size + 1 + 1, 0, none⟩) 0 0) wt 0 [] := ⟨oZ, hX.eng.hH, rZ⟩
  have aZ : Acts w Z cl os kd := hX.acts.tag hX.eng.o (by decide) (by decide) (by decide) tn (fun b hb => by
    obtain ⟨cs, e⟩ := arow b hb
    exact .inr (.inr ⟨cs, _, e, by decide, by decide, by decide⟩))
  have rowZ : ActRow Z w.heap.size A (cl.map Ac.a) := own_keep hX.row hg (row_apart hX.row hr (by decide))
  have kz : ∀ T, 100 ∉ T → Kp T Z (Z.setCell ⟨w.heap.size + 1 + 1 + 1, 4, none⟩ (.slice (some ⟨g, 0, none⟩) n cap)) := fun T ht => Kp.set oZ ht _
  have bz : Below w.heap.size w Z := hX.bel.trans (tn.below hX.bel.size (fun i e => (hr.lt i e).1))
  refine ⟨oZ, below_set bz (by omega), ?_, ?_, (eng_set eZ _).2.2.2, (kz [146] (by decide)).own rowZ (by simp), aZ.tag oZ (by decide) (by decide) (by decide) (Tn.one _) (fun b hb => .inl hb), ?_⟩
  · exact (Below.heap_setCell _ _ _ _ (by show w.heap.size ≠ w.heap.size + 1 + 1 + 1; omega)).trans ((far _ _ _ hX.sb (by decide)).trans hX.sb)
  · exact (Below.heap_setCell _ _ _ _ (by show w.heap.size + 1 ≠ w.heap.size + 1 + 1 + 1; omega)).trans ((far _ _ _ hX.kb (by decide)).trans hX.kb)
  · refine (kz [159] (by decide)).own (?_ : AlRow Z w.heap.size _ (al ++ [x])) (by simp)
    show Z.ownsRow w.heap.size 159 4 _ (al ++ [x]).length (alC (al ++ [x]))
    rw [alC_append, List.length_append]
    exact hown
end
end Go.Proofs.YthaklmdhkkfigaaGreat

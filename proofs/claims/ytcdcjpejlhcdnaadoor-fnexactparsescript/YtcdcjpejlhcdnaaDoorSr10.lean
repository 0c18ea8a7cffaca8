import Derived.Test.YtcdcjpejlhcdnaaDoorSr9
namespace Go.Proofs.YtcdcjpejlhcdnaaDoor
open Go.RowKit Go.Sort
set_option linter.unusedVariables false
attribute [local go_sem ↓] Go.wp_at_zero Go.wp_at_succ

/-- A script as far as it has been read. -/
structure RAt (w : World) (B R : Nat) (v : Value) (xs : List ScI) : Prop where
  blk : w.heap[R]? = some (.cells #[v] 36 (0, 0))
  row : ScRow w B v xs
  lo : B ≤ R
theorem own_far2 {w : World} {B : Nat} {e : TypeId} {size : Nat} {v : Value} {n : Nat} {xs : List Value} (h : w.ownsRow B e size v n xs) {H : Nat} {cs : Array Value} {t : TypeId} {fr : Nat × Nat} (ht : t ≠ e) (hH : w.heap[H]? = some (.cells cs t fr)) : v.ownBlock ≠ some H := by
  intro e2
  rcases h.2 with ⟨h0, _⟩ | ⟨g, cap, cur, h1, h2, h3, h4⟩
  · rw [h0] at e2; cases e2
  · rw [h1] at e2
    simp [Value.ownBlock] at e2
    subst e2
    rw [hH] at h3
    simp at h3
    exact ht h3.2.1
theorem one_cc {w : World} {H : Nat} {a : Value} {t : TypeId} (k : w.heap[H]? = some (.cells #[a] t (0, 0))) : w.cell? ⟨H, 0, none⟩ = some a ∧ w.frozen? ⟨H, 0, none⟩ = false := by
  simp [World.cell?, World.frozen?, k]
theorem row_same {w w' : World} {B : Nat} {e : TypeId} {size : Nat} {v : Value} {n : Nat} {xs : List Value} (h : w.ownsRow B e size v n xs) (hb : ∀ b, b < w.heap.size → v.ownBlock = some b → w'.heap[b]? = w.heap[b]?) : w'.ownsRow B e size v n xs := by
  refine ⟨h.1, ?_⟩
  rcases h.2 with h0 | ⟨g, cap, cur, h1, h2, h3, h4⟩
  · exact .inl h0
  · exact .inr ⟨g, cap, cur, h1, h2, (hb g (lt_of_block h3) (by rw [h1]; rfl)).trans h3, h4⟩
theorem RAt.tn {S : Nat → Prop} {w w' : World} {B R : Nat} {v : Value} {xs : List ScI} (h : RAt w B R v xs) (ht : Tn S w w') (hR : ¬ S R) (hs : ∀ b, S b → v.ownBlock ≠ some b) : RAt w' B R v xs :=
  ⟨ht.at h.blk hR, row_same h.row (fun b hb e => ht.block b hb (fun h2 => hs b h2 e)), h.lo⟩
theorem RAt.below {w w' : World} {B R : Nat} {v : Value} {xs : List ScI} (h : RAt w B R v xs) (hb : Below w.heap.size w w') : RAt w' B R v xs := ⟨block_below h.blk hb, ownsRow_below h.row hb, h.lo⟩
/-- What reading a line may turn. -/
abbrev RdS (F R : Nat) (v : Value) (b : Nat) : Prop := b = F ∨ b = R ∨ v.ownBlock = some b
theorem FAt.blk {w : World} {F : Nat} {fs : List (List UInt8)} {bad : Bool} (h : FAt w F fs bad) : ∃ cs, w.heap[F]? = some (.cells cs 86 (0, 0)) := by
  obtain ⟨_, _, _, _, h, _⟩ := h
  exact ⟨_, h⟩
theorem RAt.ne {w : World} {B R F : Nat} {v : Value} {xs : List ScI} {fs : List (List UInt8)} {bad : Bool} (h : RAt w B R v xs) (hf : FAt w F fs bad) : F ≠ R ∧ v.ownBlock ≠ some F ∧ v.ownBlock ≠ some R := by
  obtain ⟨cs, hc⟩ := hf.blk
  refine ⟨?_, own_far2 h.row (by decide) hc, own_far2 h.row (by decide) h.blk⟩
  rintro rfl
  rw [h.blk] at hc
  simp at hc
theorem add_after {w U w2 : World} {B R F : Nat} {v v' : Value} {xs : List ScI} {x : ScI} {fs : List (List UInt8)} {bad : Bool} (hB : B ≤ w.heap.size) (hb : Below w.heap.size w U) (hr : RAt w B R v xs) (hf : FAt w F fs bad) (hg : U.grownBy w2 v.ownBlock) (ho : w2.ownsRow B 31 4 v' (xs.length + 1) (scCells xs ++ [.int .i64 x.k, .int .i64 x.o, .int .i64 x.s, .int .i64 x.v])) :
    w2.heap[R]? = some (.cells #[v] 36 (0, 0)) ∧ RAt (w2.setCell ⟨R, 0, none⟩ v') B R v' (xs ++ [x]) ∧ FAt (w2.setCell ⟨R, 0, none⟩ v') F fs bad ∧ Tn (RdS F R v) w (w2.setCell ⟨R, 0, none⟩ v') := by
  obtain ⟨n1, n2, n3⟩ := hr.ne hf
  have hU := hr.below hb
  have hfU := hf.below hb
  have kR : w2.heap[R]? = some (.cells #[v] 36 (0, 0)) := (hg.block R (lt_of_block hU.blk) (fun e => n3 e.symm)).trans hU.blk
  have t1 : Tn (fun b => v.ownBlock = some b) U w2 := ⟨hg.os, hg.tape, hg.output, hg.size, fun b hb hs => hg.block b hb (fun e => hs e.symm)⟩
  have t0 : Tn (RdS F R v) w w2 := (Tn.of_below hb).trans (t1.mono (fun b _ h => .inr (.inr h)))
  refine ⟨kR, ⟨?_, ?_, hr.lo⟩, ?_, t0.trans (Tn.set (.inr (.inl rfl)) _)⟩
  · rw [heap_setCell_same w2 R 0 _ _ _ kR]; simp
  · have : ScRow w2 B v' (xs ++ [x]) := by unfold ScRow; rw [scCells_append, List.length_append]; exact ho
    exact row_same this (fun b _ e => Below.heap_setCell _ _ _ _ (fun e2 => own_far2 this (by decide) kR (by rw [e, e2])))
  · have f2 : FAt w2 F fs bad := hfU.tn t1 n2 (fun b hs cs fr hc => own_far2 hU.row (by decide) hc hs)
    exact f2.tn (S := (· = R)) (Tn.one _) n1 (tag_ne kR (by decide))
end Go.Proofs.YtcdcjpejlhcdnaaDoor

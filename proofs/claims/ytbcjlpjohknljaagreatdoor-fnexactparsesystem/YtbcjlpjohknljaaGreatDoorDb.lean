import Derived.Test.YtbcjlpjohknljaaGreatDoorRd4
import Derived.Test.YtbcjlpjohknljaaGreatDoorLc
import Derived.Test.YtbcjlpjohknljaaGreatDoorLg
namespace Go.Proofs.YtbcjlpjohknljaaGreatDoor
open Go.RowKit Go.Sort
set_option linter.unusedVariables false
attribute [local go_sem ↓] Go.wp_at_zero Go.wp_at_succ

def obZ : ObG := ⟨0, 0, 0, ⟨nilV, []⟩, ⟨nilV, []⟩, ⟨nilV, []⟩, ⟨nilV, []⟩, ⟨nilV, []⟩⟩
def stZ : StG := ⟨0, 0, ⟨nilV, []⟩, ⟨nilV, []⟩⟩
def trZ : TrG := ⟨0, 0, ⟨nilV, []⟩, 0, ⟨nilV, []⟩⟩
def Rw.Nil (r : Rw) : Prop := r.v = nilV ∧ r.n = 0 ∧ r.xs = [] ∧ r.t ≠ 9 ∧ r.t ≠ 133
theorem Flat.nils {w : World} {B : Nat} {L M : List Rw} (h : Flat w B L) (hm : ∀ r ∈ M, r.Nil) : Flat w B (M ++ L) := by
  induction M with
  | nil => exact h
  | cons r M ih =>
    have h1 := ih (fun x hx => hm x (List.mem_cons_of_mem _ hx))
    obtain ⟨e1, e2, e3, _, _⟩ := hm r (List.mem_cons_self ..)
    refine ⟨fun x hx => ?_, List.pairwise_cons.2 ⟨fun x hx g hg => ?_, h1.far⟩⟩
    · rcases List.mem_cons.1 hx with rfl | hx
      · unfold Rw.own; rw [e1, e2, e3]; exact World.ownsRow_nil _ _ _ _
      · exact h1.own x hx
    · rw [e1] at hg; cases hg
theorem St.nils {w : World} {B F : Nat} {fs : List (List UInt8)} {bad : Bool} {L M : List Rw} (h : St w B F fs bad L) (hm : ∀ r ∈ M, r.Nil) : St w B F fs bad (M ++ L) :=
  ⟨h.vars, h.flat.nils hm, h.fat, NoF.app (fun r hr => ⟨(hm r hr).2.2.2.1, (hm r hr).2.2.2.2⟩) h.nof, h.lo, h.hi, h.hF, h.len⟩
theorem obZ_nil : ∀ r ∈ obZ.rows, r.Nil := by
  intro r hr
  simp only [obZ, ObG.rows, StsG.rows, TrsG.rows, List.flatMap_nil, List.cons_append, List.nil_append, List.mem_cons, List.not_mem_nil, or_false] at hr
  rcases hr with rfl | rfl | rfl | rfl | rfl <;> exact ⟨rfl, rfl, rfl, by decide, by decide⟩
theorem stZ_nil : ∀ r ∈ stZ.rows, r.Nil := by
  intro r hr
  simp only [stZ, StG.rows, SmsG.rows, List.flatMap_nil, List.cons_append, List.nil_append, List.mem_cons, List.not_mem_nil, or_false] at hr
  rcases hr with rfl | rfl <;> exact ⟨rfl, rfl, rfl, by decide, by decide⟩
theorem trZ_nil : ∀ r ∈ trZ.rows, r.Nil := by
  intro r hr
  simp only [trZ, TrG.rows, SmsG.rows, List.flatMap_nil, List.mem_cons, List.not_mem_nil, or_false] at hr
  rcases hr with rfl | rfl <;> exact ⟨rfl, rfl, rfl, by decide, by decide⟩

/-- What latest answers: the last of a list, or a stand-in. -/
abbrev LatO (w : World) (B F : Nat) (fs : List (List UInt8)) (bad : Bool) (v : Value) (os : List ObG) (L : List Rw) (e : Ending) (w' : World) : Prop :=
  ∃ (g cap : Nat) (pp : List ObG) (o : ObG) (M : List Rw), e = .returned (.pointer (some ⟨g, pp.length * 8, none⟩)) ∧ St w' B F fs (bad || os.isEmpty) ((ObsG.mk (.slice (some ⟨g, 0, none⟩) (pp.length + 1) cap) (pp ++ [o])).row :: (o.rows ++ M)) ∧ Bm B w w' ∧ pp.length + 1 ≤ 1048577 ∧ ((os = pp ++ [o] ∧ v = .slice (some ⟨g, 0, none⟩) (pp.length + 1) cap ∧ M = pp.flatMap ObG.rows ++ L) ∨ (os = [] ∧ pp = [] ∧ o = obZ ∧ M = (ObsG.mk v []).rows ++ L))
set_option maxRecDepth 100000 in
set_option maxHeartbeats 1600000 in
theorem St.latO {w : World} {B F : Nat} {fs : List (List UInt8)} {bad : Bool} {L : List Rw} {v : Value} {os : List ObG} (h : St w B F fs bad ((ObsG.mk v os).rows ++ L)) (hl : os.length ≤ 1048576) :
    Calls Tryz.prog 73 #[.pointer (some ⟨F, 0, none⟩), v] w fun e w' => LatO w B F fs bad v os L e w' := by
  rcases List.eq_nil_or_concat os with rfl | ⟨pp, o, e⟩
  · obtain ⟨ao, c, hv, _⟩ := row_read ObG.cells 8 (fun _ => rfl) (h.own (r := (ObsG.mk v []).row) (by simp [ObsG.rows]))
    simp only [ObsG.row, List.length_nil] at hv
    subst hv
    obtain ⟨te, pe, hp⟩ := h.errP
    have pl := Lib.lt_of_cell hp
    have C := hid (h.fail te pe)
    clear h
    go_enter Tryz.func73, Tryz.ntmps73
    go_wp2_with (go_at_call 84; with_reducible refine C.out.mono ?_; rintro e w1 ⟨rfl, h1, b1⟩; have H1 := hid h1; have B1 := hid b1; clear h1 b1)
    go_ret
    refine ⟨w1.heap.size, 1, [], obZ, _, by simp, ?_, B1.out.trans (H1.out.bnew (below1 _ _)), by simp, .inr ⟨rfl, rfl, rfl, rfl⟩⟩
    have h2 := H1.out.box 57 [.int .i64 0, .int .i64 0, .int .i64 0, nilV, nilV, nilV, nilV, nilV] (by decide) (by decide)
    have h3 := (h2.nils obZ_nil).perm (L' := boxR 57 w1.heap.size [.int .i64 0, .int .i64 0, .int .i64 0, nilV, nilV, nilV, nilV, nilV] :: (obZ.rows ++ ((ObsG.mk (.slice ao 0 c) []).rows ++ L))) (by refine perm_count fun f g hf => ?_; simp only [hf.c, hf.a]; omega)
    exact St.bad' h3 (by simp)
  · rw [List.concat_eq_append] at e
    subst e
    obtain ⟨g, cap, hv, hc, hm, hg, hgl⟩ := row_has (h.own (r := (ObsG.mk v (pp ++ [o])).row) (by simp [ObsG.rows])) (by simp [ObsG.row])
    simp only [ObsG.row, List.length_append, List.length_cons, List.length_nil, Nat.zero_add] at hv hc
    subst hv
    have hpp : pp.length + 1 ≤ 1048577 := by simp at hl; omega
    have hp0 : ¬ ((pp.length : Int) + 1 = 0) := by omega
    have hp1 : ((pp.length : Int) + 1 == 0) = false := by simp; omega
    have H := hid h
    clear h
    go_enter Tryz.func73, Tryz.ntmps73
    go_wp2
    go_ret
    refine ⟨g, cap, pp, o, pp.flatMap ObG.rows ++ L, by simp, ?_, Bm.refl _ _, hpp, .inl ⟨rfl, rfl, rfl⟩⟩
    refine St.bad' (H.out.perm ?_) (by simp)
    refine perm_count fun f g hf => ?_
    simp only [ObsG.rows, List.flatMap_append, List.flatMap_cons, List.flatMap_nil, List.append_nil, List.cons_append, hf.c, hf.a]
    omega

/-- What latest answers: the last of a list, or a stand-in. -/
abbrev LatS (w : World) (B F : Nat) (fs : List (List UInt8)) (bad : Bool) (v : Value) (os : List StG) (L : List Rw) (e : Ending) (w' : World) : Prop :=
  ∃ (g cap : Nat) (pp : List StG) (o : StG) (M : List Rw), e = .returned (.pointer (some ⟨g, pp.length * 4, none⟩)) ∧ St w' B F fs (bad || os.isEmpty) ((StsG.mk (.slice (some ⟨g, 0, none⟩) (pp.length + 1) cap) (pp ++ [o])).row :: (o.rows ++ M)) ∧ Bm B w w' ∧ pp.length + 1 ≤ 1048577 ∧ ((os = pp ++ [o] ∧ v = .slice (some ⟨g, 0, none⟩) (pp.length + 1) cap ∧ M = pp.flatMap StG.rows ++ L) ∨ (os = [] ∧ pp = [] ∧ o = stZ ∧ M = (StsG.mk v []).rows ++ L))
set_option maxRecDepth 100000 in
set_option maxHeartbeats 1600000 in
theorem St.latS {w : World} {B F : Nat} {fs : List (List UInt8)} {bad : Bool} {L : List Rw} {v : Value} {os : List StG} (h : St w B F fs bad ((StsG.mk v os).rows ++ L)) (hl : os.length ≤ 1048576) :
    Calls Tryz.prog 75 #[.pointer (some ⟨F, 0, none⟩), v] w fun e w' => LatS w B F fs bad v os L e w' := by
  rcases List.eq_nil_or_concat os with rfl | ⟨pp, o, e⟩
  · obtain ⟨ao, c, hv, _⟩ := row_read StG.cells 4 (fun _ => rfl) (h.own (r := (StsG.mk v []).row) (by simp [StsG.rows]))
    simp only [StsG.row, List.length_nil] at hv
    subst hv
    obtain ⟨te, pe, hp⟩ := h.errP
    have pl := Lib.lt_of_cell hp
    have C := hid (h.fail te pe)
    clear h
    go_enter Tryz.func75, Tryz.ntmps75
    go_wp2_with (go_at_call 84; with_reducible refine C.out.mono ?_; rintro e w1 ⟨rfl, h1, b1⟩; have H1 := hid h1; have B1 := hid b1; clear h1 b1)
    go_ret
    refine ⟨w1.heap.size, 1, [], stZ, _, by simp, ?_, B1.out.trans (H1.out.bnew (below1 _ _)), by simp, .inr ⟨rfl, rfl, rfl, rfl⟩⟩
    have h2 := H1.out.box 68 [.int .i64 0, .int .i64 0, nilV, nilV] (by decide) (by decide)
    have h3 := (h2.nils stZ_nil).perm (L' := boxR 68 w1.heap.size [.int .i64 0, .int .i64 0, nilV, nilV] :: (stZ.rows ++ ((StsG.mk (.slice ao 0 c) []).rows ++ L))) (by refine perm_count fun f g hf => ?_; simp only [hf.c, hf.a]; omega)
    exact St.bad' h3 (by simp)
  · rw [List.concat_eq_append] at e
    subst e
    obtain ⟨g, cap, hv, hc, hm, hg, hgl⟩ := row_has (h.own (r := (StsG.mk v (pp ++ [o])).row) (by simp [StsG.rows])) (by simp [StsG.row])
    simp only [StsG.row, List.length_append, List.length_cons, List.length_nil, Nat.zero_add] at hv hc
    subst hv
    have hpp : pp.length + 1 ≤ 1048577 := by simp at hl; omega
    have hp0 : ¬ ((pp.length : Int) + 1 = 0) := by omega
    have hp1 : ((pp.length : Int) + 1 == 0) = false := by simp; omega
    have H := hid h
    clear h
    go_enter Tryz.func75, Tryz.ntmps75
    go_wp2
    go_ret
    refine ⟨g, cap, pp, o, pp.flatMap StG.rows ++ L, by simp, ?_, Bm.refl _ _, hpp, .inl ⟨rfl, rfl, rfl⟩⟩
    refine St.bad' (H.out.perm ?_) (by simp)
    refine perm_count fun f g hf => ?_
    simp only [StsG.rows, List.flatMap_append, List.flatMap_cons, List.flatMap_nil, List.append_nil, List.cons_append, hf.c, hf.a]
    omega

/-- What latest answers: the last of a list, or a stand-in. -/
abbrev LatT (w : World) (B F : Nat) (fs : List (List UInt8)) (bad : Bool) (v : Value) (os : List TrG) (L : List Rw) (e : Ending) (w' : World) : Prop :=
  ∃ (g cap : Nat) (pp : List TrG) (o : TrG) (M : List Rw), e = .returned (.pointer (some ⟨g, pp.length * 5, none⟩)) ∧ St w' B F fs (bad || os.isEmpty) ((TrsG.mk (.slice (some ⟨g, 0, none⟩) (pp.length + 1) cap) (pp ++ [o])).row :: (o.rows ++ M)) ∧ Bm B w w' ∧ pp.length + 1 ≤ 1048577 ∧ ((os = pp ++ [o] ∧ v = .slice (some ⟨g, 0, none⟩) (pp.length + 1) cap ∧ M = pp.flatMap TrG.rows ++ L) ∨ (os = [] ∧ pp = [] ∧ o = trZ ∧ M = (TrsG.mk v []).rows ++ L))
set_option maxRecDepth 100000 in
set_option maxHeartbeats 1600000 in
theorem St.latT {w : World} {B F : Nat} {fs : List (List UInt8)} {bad : Bool} {L : List Rw} {v : Value} {os : List TrG} (h : St w B F fs bad ((TrsG.mk v os).rows ++ L)) (hl : os.length ≤ 1048576) :
    Calls Tryz.prog 78 #[.pointer (some ⟨F, 0, none⟩), v] w fun e w' => LatT w B F fs bad v os L e w' := by
  rcases List.eq_nil_or_concat os with rfl | ⟨pp, o, e⟩
  · obtain ⟨ao, c, hv, _⟩ := row_read TrG.cells 5 (fun _ => rfl) (h.own (r := (TrsG.mk v []).row) (by simp [TrsG.rows]))
    simp only [TrsG.row, List.length_nil] at hv
    subst hv
    obtain ⟨te, pe, hp⟩ := h.errP
    have pl := Lib.lt_of_cell hp
    have C := hid (h.fail te pe)
    clear h
    go_enter Tryz.func78, Tryz.ntmps78
    go_wp2_with (go_at_call 84; with_reducible refine C.out.mono ?_; rintro e w1 ⟨rfl, h1, b1⟩; have H1 := hid h1; have B1 := hid b1; clear h1 b1)
    go_ret
    refine ⟨w1.heap.size, 1, [], trZ, _, by simp, ?_, B1.out.trans (H1.out.bnew (below1 _ _)), by simp, .inr ⟨rfl, rfl, rfl, rfl⟩⟩
    have h2 := H1.out.box 73 [.int .i64 0, .int .i64 0, nilV, .int .i64 0, nilV] (by decide) (by decide)
    have h3 := (h2.nils trZ_nil).perm (L' := boxR 73 w1.heap.size [.int .i64 0, .int .i64 0, nilV, .int .i64 0, nilV] :: (trZ.rows ++ ((TrsG.mk (.slice ao 0 c) []).rows ++ L))) (by refine perm_count fun f g hf => ?_; simp only [hf.c, hf.a]; omega)
    exact St.bad' h3 (by simp)
  · rw [List.concat_eq_append] at e
    subst e
    obtain ⟨g, cap, hv, hc, hm, hg, hgl⟩ := row_has (h.own (r := (TrsG.mk v (pp ++ [o])).row) (by simp [TrsG.rows])) (by simp [TrsG.row])
    simp only [TrsG.row, List.length_append, List.length_cons, List.length_nil, Nat.zero_add] at hv hc
    subst hv
    have hpp : pp.length + 1 ≤ 1048577 := by simp at hl; omega
    have hp0 : ¬ ((pp.length : Int) + 1 = 0) := by omega
    have hp1 : ((pp.length : Int) + 1 == 0) = false := by simp; omega
    have H := hid h
    clear h
    go_enter Tryz.func78, Tryz.ntmps78
    go_wp2
    go_ret
    refine ⟨g, cap, pp, o, pp.flatMap TrG.rows ++ L, by simp, ?_, Bm.refl _ _, hpp, .inl ⟨rfl, rfl, rfl⟩⟩
    refine St.bad' (H.out.perm ?_) (by simp)
    refine perm_count fun f g hf => ?_
    simp only [TrsG.rows, List.flatMap_append, List.flatMap_cons, List.flatMap_nil, List.append_nil, List.cons_append, hf.c, hf.a]
    omega
end Go.Proofs.YtbcjlpjohknljaaGreatDoor
namespace Go.Proofs.YtbcjlpjohknljaaGreatDoor
open Go.RowKit Go.Sort
set_option linter.unusedVariables false

section
variable {w w' : World} {B F g cap : Nat} {fs fs' : List (List UInt8)} {bad bad' : Bool} {L : List Rw}
theorem St.obSet {p : List ObG} {o o' : ObG} (h : St w B F fs bad ((ObsG.mk (.slice (some ⟨g, 0, none⟩) (p.length + 1) cap) (p ++ [o])).row :: L)) (j : Nat) (u : Value) (hj : j < 8) (hx : o.cells.set j u = o'.cells) : St (w.setCell ⟨g, p.length * 8 + j, none⟩ u) B F fs bad ((ObsG.mk (.slice (some ⟨g, 0, none⟩) (p.length + 1) cap) (p ++ [o'])).row :: L) := by
  have h1 : St w B F fs bad (⟨57, 8, .slice (some ⟨g, 0, none⟩) (p.length + 1) cap, p.length + 1, (p ++ o :: []).flatMap ObG.cells⟩ :: L) := by
    have := h
    simp only [ObsG.row, List.length_append, List.length_cons, List.length_nil, Nat.zero_add] at this
    exact this
  have h2 := h1.setEl ObG.cells 8 (fun _ => rfl) j u hj hx
  simp only [ObsG.row, List.length_append, List.length_cons, List.length_nil, Nat.zero_add]
  exact h2
theorem St.bobSet {p : List ObG} {o : ObG} (h : St w B F fs bad ((ObsG.mk (.slice (some ⟨g, 0, none⟩) (p.length + 1) cap) (p ++ [o])).row :: L)) (j : Nat) (u : Value) : Bm B w (w.setCell ⟨g, j, none⟩ u) := by
  have h1 : St w B F fs bad (⟨57, 8, .slice (some ⟨g, 0, none⟩) (p.length + 1) cap, p.length + 1, (p ++ o :: []).flatMap ObG.cells⟩ :: L) := by
    have := h
    simp only [ObsG.row, List.length_append, List.length_cons, List.length_nil, Nat.zero_add] at this
    exact this
  exact h1.bset j u
theorem St.stSet {p : List StG} {o o' : StG} (h : St w B F fs bad ((StsG.mk (.slice (some ⟨g, 0, none⟩) (p.length + 1) cap) (p ++ [o])).row :: L)) (j : Nat) (u : Value) (hj : j < 4) (hx : o.cells.set j u = o'.cells) : St (w.setCell ⟨g, p.length * 4 + j, none⟩ u) B F fs bad ((StsG.mk (.slice (some ⟨g, 0, none⟩) (p.length + 1) cap) (p ++ [o'])).row :: L) := by
  have h1 : St w B F fs bad (⟨68, 4, .slice (some ⟨g, 0, none⟩) (p.length + 1) cap, p.length + 1, (p ++ o :: []).flatMap StG.cells⟩ :: L) := by
    have := h
    simp only [StsG.row, List.length_append, List.length_cons, List.length_nil, Nat.zero_add] at this
    exact this
  have h2 := h1.setEl StG.cells 4 (fun _ => rfl) j u hj hx
  simp only [StsG.row, List.length_append, List.length_cons, List.length_nil, Nat.zero_add]
  exact h2
theorem St.bstSet {p : List StG} {o : StG} (h : St w B F fs bad ((StsG.mk (.slice (some ⟨g, 0, none⟩) (p.length + 1) cap) (p ++ [o])).row :: L)) (j : Nat) (u : Value) : Bm B w (w.setCell ⟨g, j, none⟩ u) := by
  have h1 : St w B F fs bad (⟨68, 4, .slice (some ⟨g, 0, none⟩) (p.length + 1) cap, p.length + 1, (p ++ o :: []).flatMap StG.cells⟩ :: L) := by
    have := h
    simp only [StsG.row, List.length_append, List.length_cons, List.length_nil, Nat.zero_add] at this
    exact this
  exact h1.bset j u
theorem St.trSet {p : List TrG} {o o' : TrG} (h : St w B F fs bad ((TrsG.mk (.slice (some ⟨g, 0, none⟩) (p.length + 1) cap) (p ++ [o])).row :: L)) (j : Nat) (u : Value) (hj : j < 5) (hx : o.cells.set j u = o'.cells) : St (w.setCell ⟨g, p.length * 5 + j, none⟩ u) B F fs bad ((TrsG.mk (.slice (some ⟨g, 0, none⟩) (p.length + 1) cap) (p ++ [o'])).row :: L) := by
  have h1 : St w B F fs bad (⟨73, 5, .slice (some ⟨g, 0, none⟩) (p.length + 1) cap, p.length + 1, (p ++ o :: []).flatMap TrG.cells⟩ :: L) := by
    have := h
    simp only [TrsG.row, List.length_append, List.length_cons, List.length_nil, Nat.zero_add] at this
    exact this
  have h2 := h1.setEl TrG.cells 5 (fun _ => rfl) j u hj hx
  simp only [TrsG.row, List.length_append, List.length_cons, List.length_nil, Nat.zero_add]
  exact h2
theorem St.btrSet {p : List TrG} {o : TrG} (h : St w B F fs bad ((TrsG.mk (.slice (some ⟨g, 0, none⟩) (p.length + 1) cap) (p ++ [o])).row :: L)) (j : Nat) (u : Value) : Bm B w (w.setCell ⟨g, j, none⟩ u) := by
  have h1 : St w B F fs bad (⟨73, 5, .slice (some ⟨g, 0, none⟩) (p.length + 1) cap, p.length + 1, (p ++ o :: []).flatMap TrG.cells⟩ :: L) := by
    have := h
    simp only [TrsG.row, List.length_append, List.length_cons, List.length_nil, Nat.zero_add] at this
    exact this
  exact h1.bset j u
theorem St.rot2 {a b c : Rw} (h : St w B F fs bad (a :: b :: c :: L)) : St w B F fs bad (c :: a :: b :: L) := h.perm (by refine perm_count fun f g hf => ?_; simp only [hf.c]; omega)
theorem St.roll {a b c : Rw} (h : St w B F fs bad (c :: a :: b :: L)) : St w B F fs bad (a :: b :: c :: L) := h.perm (by refine perm_count fun f g hf => ?_; simp only [hf.c]; omega)
/-- The fields and one box have turned. -/
theorem St.two {t : TypeId} {I : Nat} {xs : List Value} {cs : Array Value} (h : St w B F fs bad (boxR t I xs :: L)) (ht : Tn (fun b => b = F ∨ b = I) w w') (hI : w'.heap[I]? = some (.cells cs t (0, 0))) (hs : cs.size = xs.length) (hf : FAt w' F fs' bad') (hl : ∀ f ∈ fs', f.length ≤ 1048576) : St w' B F fs' bad' (boxR t I cs.toList :: L) ∧ Bm B w w' := by
  have hbI := box_blk h.flat.head
  have hIB : B ≤ I := (h.flat.head.lt I rfl).1
  obtain ⟨cf, hcf⟩ := h.fat.cs
  have hFB := h.hF
  have hlo := h.lo
  have bm : Bm B w w' := Bm.tn ht h.hi (fun b e => by rcases e with e | e <;> omega) (fun b e es n h2 => by
    rcases e with rfl | rfl
    · rw [hcf] at h2; cases h2
    · rw [hbI] at h2; cases h2)
  refine ⟨⟨h.vars.below bm.lo h.lo h.hi, ⟨fun r hr => ?_, List.pairwise_cons.2 ⟨fun x hx g hg => ?_, h.flat.tail.far⟩⟩, hf, h.nof.tail.cons (h.nof _ (List.mem_cons_self ..)).1 (h.nof _ (List.mem_cons_self ..)).2, h.lo, Nat.le_trans h.hi ht.size, h.hF, hl⟩, bm⟩
  · rcases List.mem_cons.1 hr with rfl | hq
    · exact box_own (by simpa using hI) hIB
    · refine row_same (h.flat.own r (List.mem_cons_of_mem _ hq)) (fun b hb e => ht.block b hb ?_)
      rintro (rfl | rfl)
      · obtain ⟨c2, h2⟩ := own_tag (h.flat.own r (List.mem_cons_of_mem _ hq)) e
        rw [hcf] at h2
        simp at h2
        exact (h.nof r (List.mem_cons_of_mem _ hq)).2 h2.2.symm
      · exact h.flat.apart r hq b rfl e
  · exact h.flat.apart x hx g hg
theorem restAll_len {fs : List (List UInt8)} (os : List Nat) (h : ∀ f ∈ fs, f.length ≤ 1048576) : ∀ f ∈ restAll os fs, f.length ≤ 1048576 := by
  induction os generalizing fs with
  | nil => exact h
  | cons o r ih => exact ih (fun f hf => h f (List.mem_of_mem_tail hf))
theorem putAll_size (os : List Nat) : ∀ (cs : Array Value) (fs : List (List UInt8)), (putAll cs os fs).size = cs.size := by
  induction os with
  | nil => intro cs fs; rfl
  | cons o r ih => intro cs fs; rw [putAll, ih]; simp
/-- Numbers are read into a box. -/
theorem St.numbers {t : TypeId} {I P : Nat} {xs : List Value} (os : List Nat) (cp : Nat) (h : St w B F fs bad (boxR t I xs :: L)) (hos : os.length ≤ 100) (hb : ∀ j, j < os.length → os.getD j 0 < xs.length) (hP : ∃ ps tp, w.heap[P]? = some (.cells ps tp (0, 0)) ∧ tp ≠ t ∧ tp ≠ 133 ∧ ∀ j, j < os.length → ps[j]? = some (.pointer (some ⟨I, os.getD j 0, none⟩))) :
    Calls Tryz.prog 72 #[.pointer (some ⟨F, 0, none⟩), .slice (some ⟨P, 0, none⟩) os.length cp] w fun e w' => e = .returned (.tuple #[]) ∧ St w' B F (restAll os fs) (badAll bad os fs) (boxR t I (putAll xs.toArray os fs).toList :: L) ∧ Bm B w w' := by
  obtain ⟨ps, tp, hp1, hp2, hp4, hp3⟩ := hP
  have hbI := box_blk h.flat.head
  obtain ⟨cf, hcf⟩ := h.fat.cs
  have hIB : B ≤ I := (h.flat.head.lt I rfl).1
  have hFI : F ≠ I := by
    rintro rfl
    rw [hcf] at hbI
    simp at hbI
    exact (h.nof _ (List.mem_cons_self ..)).2 hbI.2.symm
  have hPI : P ≠ I := by
    rintro rfl
    rw [hp1] at hbI
    simp at hbI
    exact hp2 hbI.2
  have hPF : P ≠ F := by
    rintro rfl
    rw [hp1] at hcf
    simp at hcf
    exact hp4 hcf.2
  refine (numbers_any F P I os cp xs.toArray t fs bad w h.vars.v (by have := h.lo; have := h.hF; omega) (by have := h.lo; omega) hFI hPI hPF (lt_of_block hp1) hos h.len h.fat hbI (h.nof _ (List.mem_cons_self ..)).1 (by simpa using hb) (fun j hj => (Lib.cell_of_heap hp1 j).trans (hp3 j hj))).mono ?_
  rintro e w' ⟨h1, h2, h3, h4⟩
  obtain ⟨h5, h6⟩ := h.two h4 h3 (by rw [putAll_size]; simp) h2 (restAll_len os h.len)
  exact ⟨h1, h5, h6⟩
end
/-- The reader of a system. -/
abbrev rdB (Q : Nat) (G : SyG) (bg : Bool) : Rw := boxR 37 Q [.int .i64 G.sg, G.ob.v, G.tm.v, .bool bg]
/-- What a reader of a line does. -/
def RdR (B F Q : Nat) (G : SyG) (bg : Bool) (X : List Rw) (key : List UInt8) (fs : List (List UInt8)) (w : World) (e : Ending) (w' : World) : Prop :=
  e = .returned (.tuple #[]) ∧ Bm B w w' ∧ ((∃ G' : SyG, lineW G.dat key fs bg = some G'.dat ∧ St w' B F [] false (rdB Q G' true :: (G'.rows ++ X))) ∨ (lineW G.dat key fs bg = none ∧ ∃ rest bad M, St w' B F rest bad M ∧ X.Sublist M ∧ (bad || !rest.isEmpty) = true))
/-- How a reader's end is told: what the fields leave decides. -/
theorem RdR.of {B F Q : Nat} {G : SyG} {bg : Bool} {X : List Rw} {key : List UInt8} {fs : List (List UInt8)} {w w' : World} {rest : List (List UInt8)} {bad : Bool} {M : List Rw} (hb : Bm B w w') (hS : St w' B F rest bad M) (hX : X.Sublist M) (h1 : (bad || !rest.isEmpty) = true → lineW G.dat key fs bg = none) (h2 : (bad || !rest.isEmpty) = false → ∃ G' : SyG, lineW G.dat key fs bg = some G'.dat ∧ M.Perm (rdB Q G' true :: (G'.rows ++ X))) : RdR B F Q G bg X key fs w (.returned (.tuple #[])) w' := by
  refine ⟨rfl, hb, ?_⟩
  cases hx : (bad || !rest.isEmpty) with
  | true => exact .inr ⟨h1 hx, rest, bad, M, hS, hX, hx⟩
  | false =>
    obtain ⟨G', h3, h4⟩ := h2 hx
    simp only [Bool.or_eq_false_iff, Bool.not_eq_false'] at hx
    obtain ⟨rfl, hr⟩ := hx
    rw [List.isEmpty_iff] at hr
    subst hr
    exact .inl ⟨G', h3, hS.perm h4⟩
end Go.Proofs.YtbcjlpjohknljaaGreatDoor
namespace Go.Proofs.YtbcjlpjohknljaaGreatDoor
open Go.RowKit Go.Sort
set_option linter.unusedVariables false
set_option linter.unusedSimpArgs false

/-! A line by what the program reads of it. -/
theorem nums_one (fs : List (List UInt8)) : nums fs = (match fs with | [] => some [] | [a] => (num? a).map (fun z => [z]) | _ => nums fs) := by
  match fs with
  | [] => rfl
  | [a] => cases h : num? a <;> simp [nums, h]
  | a :: b :: t => rfl
theorem nums_is1 (fs : List (List UInt8)) : (∃ z, nums fs = some [z]) ↔ (okN fs = true ∧ fs.tail.isEmpty = true) := by
  match fs with
  | [] => simp [nums, okN, num_nil]
  | [a] => rcases num_or a with h | ⟨z, h⟩ <;> simp [nums, okN, h]
  | a :: b :: t =>
    refine ⟨fun ⟨z, h⟩ => ?_, fun h => by simp at h⟩
    have := nums_len h
    simp at this
theorem nums_v1 {fs : List (List UInt8)} (h : okN fs = true) (h2 : fs.tail.isEmpty = true) : nums fs = some [rdN fs] := by
  match fs with
  | [] => simp [okN, num_nil] at h
  | [a] => rcases num_or a with hq | ⟨z, hq⟩ <;> simp [nums, okN, rdN, hq] at h ⊢
  | a :: b :: t => simp at h2
theorem nums_is2 (fs : List (List UInt8)) : (∃ x y, nums fs = some [x, y]) ↔ (okN fs = true ∧ okN fs.tail = true ∧ fs.tail.tail.isEmpty = true) := by
  match fs with
  | [] => simp [nums, okN, num_nil]
  | [a] => rcases num_or a with h | ⟨z, h⟩ <;> simp [nums, okN, h, num_nil]
  | [a, b] => rcases num_or a with h | ⟨z, h⟩ <;> rcases num_or b with h' | ⟨z', h'⟩ <;> simp [nums, okN, h, h']
  | a :: b :: c :: t =>
    refine ⟨fun ⟨x, y, h⟩ => ?_, fun h => by simp at h⟩
    have := nums_len h
    simp at this
theorem nums_v2 {fs : List (List UInt8)} (h : okN fs = true) (h1 : okN fs.tail = true) (h2 : fs.tail.tail.isEmpty = true) : nums fs = some [rdN fs, rdN fs.tail] := by
  match fs with
  | [] => simp [okN, num_nil] at h
  | [a] => simp [okN, num_nil] at h1
  | [a, b] => rcases num_or a with hq | ⟨z, hq⟩ <;> rcases num_or b with hq' | ⟨z', hq'⟩ <;> simp [nums, okN, rdN, hq, hq'] at h h1 ⊢
  | a :: b :: c :: t => simp at h2
theorem nums_is3 (fs : List (List UInt8)) : (∃ x y z, nums fs = some [x, y, z]) ↔ (okN fs = true ∧ okN fs.tail = true ∧ okN fs.tail.tail = true ∧ fs.tail.tail.tail.isEmpty = true) := by
  match fs with
  | [] => simp [nums, okN, num_nil]
  | [a] => rcases num_or a with h | ⟨z, h⟩ <;> simp [nums, okN, h, num_nil]
  | [a, b] => rcases num_or a with h | ⟨z, h⟩ <;> rcases num_or b with h' | ⟨z', h'⟩ <;> simp [nums, okN, h, h', num_nil]
  | [a, b, c] => rcases num_or a with h | ⟨z, h⟩ <;> rcases num_or b with h' | ⟨z', h'⟩ <;> rcases num_or c with g | ⟨z'', g⟩ <;> simp [nums, okN, h, h', g]
  | a :: b :: c :: d :: t =>
    refine ⟨fun ⟨x, y, z, h⟩ => ?_, fun h => by simp at h⟩
    have := nums_len h
    simp at this
theorem nums_v3 {fs : List (List UInt8)} (h : okN fs = true) (h1 : okN fs.tail = true) (h3 : okN fs.tail.tail = true) (h2 : fs.tail.tail.tail.isEmpty = true) : nums fs = some [rdN fs, rdN fs.tail, rdN fs.tail.tail] := by
  match fs with
  | [] => simp [okN, num_nil] at h
  | [a] => simp [okN, num_nil] at h1
  | [a, b] => simp [okN, num_nil] at h3
  | [a, b, c] => rcases num_or a with hq | ⟨z, hq⟩ <;> rcases num_or b with hq' | ⟨z', hq'⟩ <;> rcases num_or c with g | ⟨z'', g⟩ <;> simp [nums, okN, rdN, hq, hq', g] at h h1 h3 ⊢
  | a :: b :: c :: d :: t => simp at h2
theorem numsN_v3 (r : List (List UInt8)) : numsN r 3 = if (okN r && okN r.tail && okN r.tail.tail) = true then some [rdN r, rdN r.tail, rdN r.tail.tail] else none := by
  match r with
  | [] => simp [numsN, okN, num_nil]
  | [a] => simp [numsN, okN, num_nil]
  | [a, b] => simp [numsN, okN, num_nil]
  | a :: b :: c :: t =>
    unfold numsN okN rdN
    rw [if_pos (by simp)]
    simp only [List.take_succ_cons, List.take_zero, List.getD_cons_zero, List.tail_cons]
    rcases num_or a with h | ⟨z, h⟩ <;> rcases num_or b with h' | ⟨z', h'⟩ <;> rcases num_or c with g | ⟨z'', g⟩ <;> simp [nums, h, h', g]
theorem drop_3 (r : List (List UInt8)) : r.drop 3 = r.tail.tail.tail := by
  match r with
  | [] => rfl
  | [a] => rfl
  | [a, b] => rfl
  | a :: b :: c :: t => rfl
theorem line_nil {s : SyD} {key : List UInt8} {fs : List (List UInt8)} {bg : Bool} (h0 : ¬ key = kSig) (h1 : ¬ key = kObj) (h2 : ¬ key = kTim) (h : s.obs = []) : lineW s key fs bg = none := by
  cases bg with
  | false => exact lineW_un s fs h0
  | true => exact lineW_bare s fs h h0 h1 h2
/-- What a line gives to the last object, where there is one. -/
theorem line_last {s : SyD} {key : List UInt8} {fs : List (List UInt8)} {bg : Bool} {f : ObD → ObD} {c : Bool} (h0 : ¬ key = kSig) (h1 : ¬ key = kObj) (h2 : ¬ key = kTim) (hbg : bg = false → s.obs = []) (h : lineW s key fs true = if c = true then none else oneOb s f) : lineW s key fs bg = if (s.obs.isEmpty || c) = true then none else oneOb s f := by
  cases ho : s.obs.isEmpty with
  | true =>
    rw [line_nil h0 h1 h2 (List.isEmpty_iff.1 ho)]
    simp
  | false =>
    have hb : bg = true := by
      cases bg with
      | true => rfl
      | false => rw [hbg rfl] at ho; cases ho
    rw [hb, h]
    simp
theorem lineSig (s : SyD) (fs : List (List UInt8)) (bg : Bool) : lineW s kSig fs bg = if ((bg || !okN fs) || !fs.tail.isEmpty) = true then none else some { s with sigs := rdN fs } := by
  rw [lineW_sig]
  by_cases h : okN fs = true ∧ fs.tail.isEmpty = true
  · rw [nums_v1 h.1 h.2, h.1, h.2]
    cases bg <;> simp
  · have hn : ¬ ∃ z, nums fs = some [z] := fun h2 => h ((nums_is1 fs).1 h2)
    have hc : ((bg || !okN fs) || !fs.tail.isEmpty) = true := by
      cases ho : okN fs <;> cases ht : fs.tail.isEmpty <;> simp [ho, ht] at h ⊢
    rw [if_pos hc]
    split
    · rename_i z e; exact absurd ⟨z, e⟩ hn
    · rfl
theorem lineObj (s : SyD) (fs : List (List UInt8)) (bg : Bool) : lineW s kObj fs bg = if (badAll (!bg) [0, 1, 2] fs || !(restAll [0, 1, 2] fs).isEmpty) = true then none else some { s with obs := s.obs ++ [⟨rdN fs, rdN fs.tail, rdN fs.tail.tail, [], [], [], [], []⟩] } := by
  cases bg with
  | false => rw [lineW_un s fs (by decide)]; simp [badAll]
  | true =>
    rw [lineW_obj]
    simp only [badAll, restAll, Bool.not_true, Bool.false_or]
    by_cases h : okN fs = true ∧ okN fs.tail = true ∧ okN fs.tail.tail = true ∧ fs.tail.tail.tail.isEmpty = true
    · rw [nums_v3 h.1 h.2.1 h.2.2.1 h.2.2.2, h.1, h.2.1, h.2.2.1, h.2.2.2]; simp
    · have hn : ¬ ∃ x y z, nums fs = some [x, y, z] := fun h2 => h ((nums_is3 fs).1 h2)
      rw [if_pos (by cases h1 : okN fs <;> cases h2 : okN fs.tail <;> cases h3 : okN fs.tail.tail <;> cases h4 : fs.tail.tail.tail.isEmpty <;> simp [h1, h2, h3, h4] at h ⊢)]
      split
      · rename_i x y z e; exact absurd ⟨x, y, z, e⟩ hn
      · rfl
theorem lineTim (s : SyD) (fs : List (List UInt8)) (bg : Bool) : lineW s kTim fs bg = if (badAll (!bg) [0, 1] fs || !(restAll [0, 1] fs).isEmpty) = true then none else some { s with tms := s.tms ++ [(rdN fs, rdN fs.tail)] } := by
  cases bg with
  | false => rw [lineW_un s fs (by decide)]; simp [badAll]
  | true =>
    rw [lineW_tim]
    simp only [badAll, restAll, Bool.not_true, Bool.false_or]
    by_cases h : okN fs = true ∧ okN fs.tail = true ∧ fs.tail.tail.isEmpty = true
    · rw [nums_v2 h.1 h.2.1 h.2.2, h.1, h.2.1, h.2.2]; simp
    · have hn : ¬ ∃ x y, nums fs = some [x, y] := fun h2 => h ((nums_is2 fs).1 h2)
      rw [if_pos (by cases h1 : okN fs <;> cases h2 : okN fs.tail <;> cases h4 : fs.tail.tail.isEmpty <;> simp [h1, h2, h4] at h ⊢)]
      split
      · rename_i x y e; exact absurd ⟨x, y, e⟩ hn
      · rfl
theorem lineSub (s : SyD) (fs : List (List UInt8)) (bg : Bool) (hbg : bg = false → s.obs = []) : lineW s kSub fs bg = if (s.obs.isEmpty || (!okN fs || !fs.tail.isEmpty)) = true then none else oneOb s (fun o => { o with subs := o.subs ++ [rdN fs] }) := by
  refine line_last (by decide) (by decide) (by decide) hbg ?_
  rw [lineW_sub]
  by_cases h : okN fs = true ∧ fs.tail.isEmpty = true
  · rw [nums_v1 h.1 h.2, h.1, h.2]; simp
  · have hn : ¬ ∃ z, nums fs = some [z] := fun h2 => h ((nums_is1 fs).1 h2)
    rw [if_pos (by cases ho : okN fs <;> cases ht : fs.tail.isEmpty <;> simp [ho, ht] at h ⊢)]
    split
    · rename_i z e; exact absurd ⟨z, e⟩ hn
    · rfl
theorem lineSta (s : SyD) (fs : List (List UInt8)) (bg : Bool) (hbg : bg = false → s.obs = []) : lineW s kSta fs bg = if (s.obs.isEmpty || (badAll false [0, 1] fs || !(restAll [0, 1] fs).isEmpty)) = true then none else oneOb s (fun o => { o with sts := o.sts ++ [⟨rdN fs, rdN fs.tail, [], []⟩] }) := by
  refine line_last (by decide) (by decide) (by decide) hbg ?_
  rw [lineW_sta]
  simp only [badAll, restAll, Bool.false_or]
  by_cases h : okN fs = true ∧ okN fs.tail = true ∧ fs.tail.tail.isEmpty = true
  · rw [nums_v2 h.1 h.2.1 h.2.2, h.1, h.2.1, h.2.2]; simp
  · have hn : ¬ ∃ x y, nums fs = some [x, y] := fun h2 => h ((nums_is2 fs).1 h2)
    rw [if_pos (by cases h1 : okN fs <;> cases h2 : okN fs.tail <;> cases h4 : fs.tail.tail.isEmpty <;> simp [h1, h2, h4] at h ⊢)]
    split
    · rename_i x y e; exact absurd ⟨x, y, e⟩ hn
    · rfl
theorem lineOn (s : SyD) (fs : List (List UInt8)) (bg : Bool) (hbg : bg = false → s.obs = []) : lineW s kOn fs bg = if (s.obs.isEmpty || (badAll false [0, 1, 3] fs || !(restAll [0, 1, 3] fs).all okI)) = true then none else oneOb s (fun o => { o with trs := o.trs ++ [⟨rdN fs, rdN fs.tail, (restAll [0, 1, 3] fs).map rdI, rdN fs.tail.tail, []⟩] }) := by
  refine line_last (by decide) (by decide) (by decide) hbg ?_
  rw [lineW_on, numsN_v3, codeW_is, drop_3]
  simp only [badAll, restAll, Bool.false_or]
  cases h1 : okN fs <;> cases h2 : okN fs.tail <;> cases h3 : okN fs.tail.tail <;> cases h4 : fs.tail.tail.tail.all okI <;> simp
/-- A kind's word. -/
theorem kind_all : ∀ i, i < 7 → okI (kindsL.getD i []) = true ∧ rdI (kindsL.getD i []) = (19, 1 + (i : Int)) := by
  intro i hi
  have : i = 0 ∨ i = 1 ∨ i = 2 ∨ i = 3 ∨ i = 4 ∨ i = 5 ∨ i = 6 := by omega
  rcases this with rfl | rfl | rfl | rfl | rfl | rfl | rfl <;> exact ⟨rfl, rfl⟩
theorem kind_w : ∀ i, i < 23 → 16 ≤ i → wordsL.getD i [] ∈ kindsL := by
  intro i hi h16
  have : i = 16 ∨ i = 17 ∨ i = 18 ∨ i = 19 ∨ i = 20 ∨ i = 21 ∨ i = 22 := by omega
  rcases this with rfl | rfl | rfl | rfl | rfl | rfl | rfl <;> decide
theorem kind_v {f : List UInt8} (h : 0 ≤ placeN kindsL f 0) : okI f = true ∧ rdI f = (19, 1 + placeN kindsL f 0) := by
  obtain ⟨i, h1, h2, h3⟩ := placeN_get kindsL f 0 h
  rw [h2, ← h3, Nat.zero_add]
  exact kind_all i h1
theorem kind_is (f : List UInt8) : (0 ≤ placeN kindsL f 0) ↔ (okI f && decide ((rdI f).1 = 19)) = true := by
  refine ⟨fun h => by rw [(kind_v h).1, (kind_v h).2]; rfl, fun h => ?_⟩
  simp only [Bool.and_eq_true, decide_eq_true_eq] at h
  obtain ⟨_, h2⟩ := h
  unfold rdI at h2
  split at h2
  · rename_i hp
    obtain ⟨i, h1, h3, h4⟩ := placeN_get wordsL f 0 hp
    rw [h3, Nat.zero_add, Int.toNat_natCast] at h2
    have h16 : 16 ≤ i := by
      simp only [itO] at h2
      split at h2 <;> omega
    have hm := kind_w i h1 h16
    rw [h4] at hm
    exact Classical.byContradiction (fun hc => placeN_no kindsL f 0 hc f hm rfl)
  · split at h2
    · simp at h2
    · simp at h2
theorem lineVar (s : SyD) (fs : List (List UInt8)) (bg : Bool) (hbg : bg = false → s.obs = []) : lineW s kVar fs bg = if (s.obs.isEmpty || ((!okK fs || !okN fs.tail) || !fs.tail.tail.isEmpty)) = true then none else oneOb s (fun o => { o with kinds := o.kinds ++ [(rdI (fs.getD 0 [])).2], vals := o.vals ++ [rdN fs.tail] }) := by
  refine line_last (by decide) (by decide) (by decide) hbg ?_
  rw [lineW_var]
  match fs with
  | [] => simp [okK, okI_nil]
  | [a] => simp [okN, num_nil]
  | [a, b] =>
    simp only [List.getD_cons_zero, List.tail_cons, List.isEmpty_nil, Bool.not_true, Bool.or_false]
    unfold okK
    simp only [List.getD_cons_zero]
    by_cases hk : 0 ≤ placeN kindsL a 0
    · rw [if_neg (by omega), (kind_is a).1 hk, (kind_v hk).2]
      rcases num_or b with h | ⟨z, h⟩ <;> simp [okN, rdN, h]
    · rw [if_pos (by omega)]
      have : (okI a && decide ((rdI a).1 = 19)) = false := by
        cases hq : (okI a && decide ((rdI a).1 = 19)) with
        | false => rfl
        | true => exact absurd ((kind_is a).2 hq) hk
      rw [this]; simp
  | a :: b :: c :: t => simp
theorem lineEnt (s : SyD) (fs : List (List UInt8)) (bg : Bool) (hbg : bg = false → s.obs = []) : lineW s kEnt fs bg = if (s.obs.isEmpty || ((lastOb s).sts.isEmpty || (!okS fs || !(rsS fs).isEmpty))) = true then none else oneOb s (fun o => { o with sts := turnL o.sts (fun t => { t with entry := t.entry ++ [rdS fs] }) }) := by
  refine line_last (by decide) (by decide) (by decide) hbg ?_
  rw [lineW_ent, stmW_is]
  cases h1 : okS fs <;> cases h2 : (rsS fs).isEmpty <;> cases h3 : (lastOb s).sts <;> simp
theorem lineExi (s : SyD) (fs : List (List UInt8)) (bg : Bool) (hbg : bg = false → s.obs = []) : lineW s kExi fs bg = if (s.obs.isEmpty || ((lastOb s).sts.isEmpty || (!okS fs || !(rsS fs).isEmpty))) = true then none else oneOb s (fun o => { o with sts := turnL o.sts (fun t => { t with exit := t.exit ++ [rdS fs] }) }) := by
  refine line_last (by decide) (by decide) (by decide) hbg ?_
  rw [lineW_exi, stmW_is]
  cases h1 : okS fs <;> cases h2 : (rsS fs).isEmpty <;> cases h3 : (lastOb s).sts <;> simp
theorem lineDo (s : SyD) (fs : List (List UInt8)) (bg : Bool) (hbg : bg = false → s.obs = []) : lineW s kDo fs bg = if (s.obs.isEmpty || ((lastOb s).trs.isEmpty || (!okS fs || !(rsS fs).isEmpty))) = true then none else oneOb s (fun o => { o with trs := turnL o.trs (fun t => { t with action := t.action ++ [rdS fs] }) }) := by
  refine line_last (by decide) (by decide) (by decide) hbg ?_
  rw [lineW_do, stmW_is]
  cases h1 : okS fs <;> cases h2 : (rsS fs).isEmpty <;> cases h3 : (lastOb s).trs <;> simp
end Go.Proofs.YtbcjlpjohknljaaGreatDoor

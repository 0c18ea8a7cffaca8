import Derived.Test.YtkdgkomnbjepdaaGreatDoorRd4
import Derived.Test.YtkdgkomnbjepdaaGreatDoorLc
namespace Go.Proofs.YtkdgkomnbjepdaaGreatDoor
open Go.RowKit Go.Sort
set_option linter.unusedVariables false
attribute [local go_sem ↓] Go.wp_at_zero Go.wp_at_succ
def obZ : ObG := ⟨0,0,0,⟨nilV,[]⟩,⟨nilV,[]⟩,⟨nilV,[]⟩,⟨nilV,[]⟩,⟨nilV,[]⟩⟩
def stZ : StG := ⟨0,0,⟨nilV,[]⟩,⟨nilV,[]⟩⟩
def trZ : TrG := ⟨0,0,⟨nilV,[]⟩,0,⟨nilV,[]⟩⟩
def Rw.Nil (r : Rw) : Prop := r.v = nilV ∧ r.n = 0 ∧ r.xs = [] ∧ r.t ≠ 9 ∧ r.t ≠ 168
theorem Flat.nils {w : World} {B : Nat} {L M : List Rw} (h : Flat w B L) (hm : ∀ r ∈ M,r.Nil) : Flat w B (M ++ L) := by
 induction M with
 | nil => exact h
 | cons r M ih =>
  have h1 := ih (fun x hx => hm x (List.mem_cons_of_mem _ hx))
  obtain ⟨e1,e2,e3,_,_⟩ := hm r (List.mem_cons_self ..)
  refine ⟨fun x hx => ?_,List.pairwise_cons.2 ⟨fun x hx g hg => ?_,h1.far⟩⟩
  ·rcases List.mem_cons.1 hx with rfl | hx
   ·unfold Rw.own; rw [e1,e2,e3]; exact World.ownsRow_nil _ _ _ _
   ·exact h1.own x hx
  ·rw [e1] at hg; cases hg
theorem St.nils {w : World} {B F : Nat} {fs : List (List UInt8)} {bad : Bool} {L M : List Rw} (h : St w B F fs bad L) (hm : ∀ r ∈ M,r.Nil) : St w B F fs bad (M ++ L) :=
 ⟨h.vars,h.flat.nils hm,h.fat,NoF.app (fun r hr => ⟨(hm r hr).2.2.2.1,(hm r hr).2.2.2.2⟩) h.nof,h.lo,h.hi,h.hF,h.len⟩
theorem obZ_nil : ∀ r ∈ obZ.rows,r.Nil := by
 intro r hr
 simp only [obZ,ObG.rows,StsG.rows,TrsG.rows,List.flatMap_nil,List.cons_append,List.nil_append,List.mem_cons,List.not_mem_nil,or_false] at hr
 rcases hr with rfl | rfl | rfl | rfl | rfl <;> exact ⟨rfl,rfl,rfl,by decide,by decide⟩
theorem stZ_nil : ∀ r ∈ stZ.rows,r.Nil := by
 intro r hr
 simp only [stZ,StG.rows,SmsG.rows,List.flatMap_nil,List.cons_append,List.nil_append,List.mem_cons,List.not_mem_nil,or_false] at hr
 rcases hr with rfl | rfl <;> exact ⟨rfl,rfl,rfl,by decide,by decide⟩
theorem trZ_nil : ∀ r ∈ trZ.rows,r.Nil := by
 intro r hr
 simp only [trZ,TrG.rows,SmsG.rows,List.flatMap_nil,List.mem_cons,List.not_mem_nil,or_false] at hr
 rcases hr with rfl | rfl <;> exact ⟨rfl,rfl,rfl,by decide,by decide⟩
abbrev LatO (w : World) (B F : Nat) (fs : List (List UInt8)) (bad : Bool) (v : Value) (os : List ObG) (L : List Rw) (e : Ending) (w' : World) : Prop :=
 ∃ (g cap : Nat) (pp : List ObG) (o : ObG) (M : List Rw),e = .returned (.pointer (some ⟨g,pp.length * 8,none⟩)) ∧ St w' B F fs (bad || os.isEmpty) ((ObsG.mk (.slice (some ⟨g,0,none⟩) (pp.length + 1) cap) (pp ++ [o])).row :: (o.rows ++ M)) ∧ Bm B w w' ∧ pp.length + 1 ≤ 1048577 ∧ ((os = pp ++ [o] ∧ v = .slice (some ⟨g,0,none⟩) (pp.length + 1) cap ∧ M = pp.flatMap ObG.rows ++ L) ∨ (os = [] ∧ pp = [] ∧ o = obZ ∧ M = (ObsG.mk v []).rows ++ L))
set_option maxRecDepth 100000 in
set_option maxHeartbeats 1600000 in
theorem St.latO {w : World} {B F : Nat} {fs : List (List UInt8)} {bad : Bool} {L : List Rw} {v : Value} {os : List ObG} (h : St w B F fs bad ((ObsG.mk v os).rows ++ L)) (hl : os.length ≤ 1048576) :
  Calls Tryz.prog 87 #[.pointer (some ⟨F,0,none⟩),v] w fun e w' => LatO w B F fs bad v os L e w' := by
 rcases List.eq_nil_or_concat os with rfl | ⟨pp,o,e⟩
 ·obtain ⟨ao,c,hv,_⟩ := row_read ObG.cells 8 (fun _ => rfl) (h.own (r := (ObsG.mk v []).row) (by simp [ObsG.rows]))
  simp only [ObsG.row,List.length_nil] at hv
  subst hv
  obtain ⟨te,pe,hp⟩ := h.errP
  have pl := Lib.lt_of_cell hp
  have C := hid (h.fail te pe)
  clear h
  go_enter Tryz.func87,Tryz.ntmps87
  go_wp2_with (go_at_call 113; with_reducible refine C.out.mono ?_; rintro e w1 ⟨rfl,h1,b1⟩; have H1 := hid h1; have B1 := hid b1; clear h1 b1)
  go_ret
  refine ⟨w1.heap.size,1,[],obZ,_,by simp,?_,B1.out.trans (H1.out.bnew (below1 _ _)),by simp,.inr ⟨rfl,rfl,rfl,rfl⟩⟩
  have h2 := H1.out.box 66 [.int .i64 0,.int .i64 0,.int .i64 0,nilV,nilV,nilV,nilV,nilV] (by decide) (by decide)
  have h3 := (h2.nils obZ_nil).perm (L' := boxR 66 w1.heap.size [.int .i64 0,.int .i64 0,.int .i64 0,nilV,nilV,nilV,nilV,nilV] :: (obZ.rows ++ ((ObsG.mk (.slice ao 0 c) []).rows ++ L))) (by refine perm_count fun f g hf => ?_; simp only [hf.c,hf.a]; omega)
  exact St.bad' h3 (by simp)
 ·rw [List.concat_eq_append] at e
  subst e
  obtain ⟨g,cap,hv,hc,hm,hg,hgl⟩ := row_has (h.own (r := (ObsG.mk v (pp ++ [o])).row) (by simp [ObsG.rows])) (by simp [ObsG.row])
  simp only [ObsG.row,List.length_append,List.length_cons,List.length_nil,Nat.zero_add] at hv hc
  subst hv
  have hpp : pp.length + 1 ≤ 1048577 := by simp at hl; omega
  have hp0 : ¬ ((pp.length : Int) + 1 = 0) := by omega
  have hp1 : ((pp.length : Int) + 1 == 0) = false := by simp; omega
  have H := hid h
  clear h
  go_enter Tryz.func87,Tryz.ntmps87
  go_wp2
  go_ret
  refine ⟨g,cap,pp,o,pp.flatMap ObG.rows ++ L,by simp,?_,Bm.refl _ _,hpp,.inl ⟨rfl,rfl,rfl⟩⟩
  refine St.bad' (H.out.perm ?_) (by simp)
  refine perm_count fun f g hf => ?_
  simp only [ObsG.rows,List.flatMap_append,List.flatMap_cons,List.flatMap_nil,List.append_nil,List.cons_append,hf.c,hf.a]
  omega
abbrev LatS (w : World) (B F : Nat) (fs : List (List UInt8)) (bad : Bool) (v : Value) (os : List StG) (L : List Rw) (e : Ending) (w' : World) : Prop :=
 ∃ (g cap : Nat) (pp : List StG) (o : StG) (M : List Rw),e = .returned (.pointer (some ⟨g,pp.length * 4,none⟩)) ∧ St w' B F fs (bad || os.isEmpty) ((StsG.mk (.slice (some ⟨g,0,none⟩) (pp.length + 1) cap) (pp ++ [o])).row :: (o.rows ++ M)) ∧ Bm B w w' ∧ pp.length + 1 ≤ 1048577 ∧ ((os = pp ++ [o] ∧ v = .slice (some ⟨g,0,none⟩) (pp.length + 1) cap ∧ M = pp.flatMap StG.rows ++ L) ∨ (os = [] ∧ pp = [] ∧ o = stZ ∧ M = (StsG.mk v []).rows ++ L))
set_option maxRecDepth 100000 in
set_option maxHeartbeats 1600000 in
theorem St.latS {w : World} {B F : Nat} {fs : List (List UInt8)} {bad : Bool} {L : List Rw} {v : Value} {os : List StG} (h : St w B F fs bad ((StsG.mk v os).rows ++ L)) (hl : os.length ≤ 1048576) :
  Calls Tryz.prog 89 #[.pointer (some ⟨F,0,none⟩),v] w fun e w' => LatS w B F fs bad v os L e w' := by
 rcases List.eq_nil_or_concat os with rfl | ⟨pp,o,e⟩
 ·obtain ⟨ao,c,hv,_⟩ := row_read StG.cells 4 (fun _ => rfl) (h.own (r := (StsG.mk v []).row) (by simp [StsG.rows]))
  simp only [StsG.row,List.length_nil] at hv
  subst hv
  obtain ⟨te,pe,hp⟩ := h.errP
  have pl := Lib.lt_of_cell hp
  have C := hid (h.fail te pe)
  clear h
  go_enter Tryz.func89,Tryz.ntmps89
  go_wp2_with (go_at_call 113; with_reducible refine C.out.mono ?_; rintro e w1 ⟨rfl,h1,b1⟩; have H1 := hid h1; have B1 := hid b1; clear h1 b1)
  go_ret
  refine ⟨w1.heap.size,1,[],stZ,_,by simp,?_,B1.out.trans (H1.out.bnew (below1 _ _)),by simp,.inr ⟨rfl,rfl,rfl,rfl⟩⟩
  have h2 := H1.out.box 71 [.int .i64 0,.int .i64 0,nilV,nilV] (by decide) (by decide)
  have h3 := (h2.nils stZ_nil).perm (L' := boxR 71 w1.heap.size [.int .i64 0,.int .i64 0,nilV,nilV] :: (stZ.rows ++ ((StsG.mk (.slice ao 0 c) []).rows ++ L))) (by refine perm_count fun f g hf => ?_; simp only [hf.c,hf.a]; omega)
  exact St.bad' h3 (by simp)
 ·rw [List.concat_eq_append] at e
  subst e
  obtain ⟨g,cap,hv,hc,hm,hg,hgl⟩ := row_has (h.own (r := (StsG.mk v (pp ++ [o])).row) (by simp [StsG.rows])) (by simp [StsG.row])
  simp only [StsG.row,List.length_append,List.length_cons,List.length_nil,Nat.zero_add] at hv hc
  subst hv
  have hpp : pp.length + 1 ≤ 1048577 := by simp at hl; omega
  have hp0 : ¬ ((pp.length : Int) + 1 = 0) := by omega
  have hp1 : ((pp.length : Int) + 1 == 0) = false := by simp; omega
  have H := hid h
  clear h
  go_enter Tryz.func89,Tryz.ntmps89
  go_wp2
  go_ret
  refine ⟨g,cap,pp,o,pp.flatMap StG.rows ++ L,by simp,?_,Bm.refl _ _,hpp,.inl ⟨rfl,rfl,rfl⟩⟩
  refine St.bad' (H.out.perm ?_) (by simp)
  refine perm_count fun f g hf => ?_
  simp only [StsG.rows,List.flatMap_append,List.flatMap_cons,List.flatMap_nil,List.append_nil,List.cons_append,hf.c,hf.a]
  omega
abbrev LatT (w : World) (B F : Nat) (fs : List (List UInt8)) (bad : Bool) (v : Value) (os : List TrG) (L : List Rw) (e : Ending) (w' : World) : Prop :=
 ∃ (g cap : Nat) (pp : List TrG) (o : TrG) (M : List Rw),e = .returned (.pointer (some ⟨g,pp.length * 5,none⟩)) ∧ St w' B F fs (bad || os.isEmpty) ((TrsG.mk (.slice (some ⟨g,0,none⟩) (pp.length + 1) cap) (pp ++ [o])).row :: (o.rows ++ M)) ∧ Bm B w w' ∧ pp.length + 1 ≤ 1048577 ∧ ((os = pp ++ [o] ∧ v = .slice (some ⟨g,0,none⟩) (pp.length + 1) cap ∧ M = pp.flatMap TrG.rows ++ L) ∨ (os = [] ∧ pp = [] ∧ o = trZ ∧ M = (TrsG.mk v []).rows ++ L))
set_option maxRecDepth 100000 in
set_option maxHeartbeats 1600000 in
theorem St.latT {w : World} {B F : Nat} {fs : List (List UInt8)} {bad : Bool} {L : List Rw} {v : Value} {os : List TrG} (h : St w B F fs bad ((TrsG.mk v os).rows ++ L)) (hl : os.length ≤ 1048576) :
  Calls Tryz.prog 92 #[.pointer (some ⟨F,0,none⟩),v] w fun e w' => LatT w B F fs bad v os L e w' := by
 rcases List.eq_nil_or_concat os with rfl | ⟨pp,o,e⟩
 ·obtain ⟨ao,c,hv,_⟩ := row_read TrG.cells 5 (fun _ => rfl) (h.own (r := (TrsG.mk v []).row) (by simp [TrsG.rows]))
  simp only [TrsG.row,List.length_nil] at hv
  subst hv
  obtain ⟨te,pe,hp⟩ := h.errP
  have pl := Lib.lt_of_cell hp
  have C := hid (h.fail te pe)
  clear h
  go_enter Tryz.func92,Tryz.ntmps92
  go_wp2_with (go_at_call 113; with_reducible refine C.out.mono ?_; rintro e w1 ⟨rfl,h1,b1⟩; have H1 := hid h1; have B1 := hid b1; clear h1 b1)
  go_ret
  refine ⟨w1.heap.size,1,[],trZ,_,by simp,?_,B1.out.trans (H1.out.bnew (below1 _ _)),by simp,.inr ⟨rfl,rfl,rfl,rfl⟩⟩
  have h2 := H1.out.box 75 [.int .i64 0,.int .i64 0,nilV,.int .i64 0,nilV] (by decide) (by decide)
  have h3 := (h2.nils trZ_nil).perm (L' := boxR 75 w1.heap.size [.int .i64 0,.int .i64 0,nilV,.int .i64 0,nilV] :: (trZ.rows ++ ((TrsG.mk (.slice ao 0 c) []).rows ++ L))) (by refine perm_count fun f g hf => ?_; simp only [hf.c,hf.a]; omega)
  exact St.bad' h3 (by simp)
 ·rw [List.concat_eq_append] at e
  subst e
  obtain ⟨g,cap,hv,hc,hm,hg,hgl⟩ := row_has (h.own (r := (TrsG.mk v (pp ++ [o])).row) (by simp [TrsG.rows])) (by simp [TrsG.row])
  simp only [TrsG.row,List.length_append,List.length_cons,List.length_nil,Nat.zero_add] at hv hc
  subst hv
  have hpp : pp.length + 1 ≤ 1048577 := by simp at hl; omega
  have hp0 : ¬ ((pp.length : Int) + 1 = 0) := by omega
  have hp1 : ((pp.length : Int) + 1 == 0) = false := by simp; omega
  have H := hid h
  clear h
  go_enter Tryz.func92,Tryz.ntmps92
  go_wp2
  go_ret
  refine ⟨g,cap,pp,o,pp.flatMap TrG.rows ++ L,by simp,?_,Bm.refl _ _,hpp,.inl ⟨rfl,rfl,rfl⟩⟩
  refine St.bad' (H.out.perm ?_) (by simp)
  refine perm_count fun f g hf => ?_
  simp only [TrsG.rows,List.flatMap_append,List.flatMap_cons,List.flatMap_nil,List.append_nil,List.cons_append,hf.c,hf.a]
  omega
end Go.Proofs.YtkdgkomnbjepdaaGreatDoor
namespace Go.Proofs.YtkdgkomnbjepdaaGreatDoor
open Go.RowKit Go.Sort
set_option linter.unusedVariables false
section
variable {w w' : World} {B F g cap : Nat} {fs fs' : List (List UInt8)} {bad bad' : Bool} {L : List Rw}
theorem St.obSet {p : List ObG} {o o' : ObG} (h : St w B F fs bad ((ObsG.mk (.slice (some ⟨g,0,none⟩) (p.length + 1) cap) (p ++ [o])).row :: L)) (j : Nat) (u : Value) (hj : j < 8) (hx : o.cells.set j u = o'.cells) : St (w.setCell ⟨g,p.length * 8 + j,none⟩ u) B F fs bad ((ObsG.mk (.slice (some ⟨g,0,none⟩) (p.length + 1) cap) (p ++ [o'])).row :: L) := by
 have h1 : St w B F fs bad (⟨66,8,.slice (some ⟨g,0,none⟩) (p.length + 1) cap,p.length + 1,(p ++ o :: []).flatMap ObG.cells⟩ :: L) := by
  have := h
  simp only [ObsG.row,List.length_append,List.length_cons,List.length_nil,Nat.zero_add] at this
  exact this
 have h2 := h1.setEl ObG.cells 8 (fun _ => rfl) j u hj hx
 simp only [ObsG.row,List.length_append,List.length_cons,List.length_nil,Nat.zero_add]
 exact h2
theorem St.bobSet {p : List ObG} {o : ObG} (h : St w B F fs bad ((ObsG.mk (.slice (some ⟨g,0,none⟩) (p.length + 1) cap) (p ++ [o])).row :: L)) (j : Nat) (u : Value) : Bm B w (w.setCell ⟨g,j,none⟩ u) := by
 have h1 : St w B F fs bad (⟨66,8,.slice (some ⟨g,0,none⟩) (p.length + 1) cap,p.length + 1,(p ++ o :: []).flatMap ObG.cells⟩ :: L) := by
  have := h
  simp only [ObsG.row,List.length_append,List.length_cons,List.length_nil,Nat.zero_add] at this
  exact this
 exact h1.bset j u
theorem St.stSet {p : List StG} {o o' : StG} (h : St w B F fs bad ((StsG.mk (.slice (some ⟨g,0,none⟩) (p.length + 1) cap) (p ++ [o])).row :: L)) (j : Nat) (u : Value) (hj : j < 4) (hx : o.cells.set j u = o'.cells) : St (w.setCell ⟨g,p.length * 4 + j,none⟩ u) B F fs bad ((StsG.mk (.slice (some ⟨g,0,none⟩) (p.length + 1) cap) (p ++ [o'])).row :: L) := by
 have h1 : St w B F fs bad (⟨71,4,.slice (some ⟨g,0,none⟩) (p.length + 1) cap,p.length + 1,(p ++ o :: []).flatMap StG.cells⟩ :: L) := by
  have := h
  simp only [StsG.row,List.length_append,List.length_cons,List.length_nil,Nat.zero_add] at this
  exact this
 have h2 := h1.setEl StG.cells 4 (fun _ => rfl) j u hj hx
 simp only [StsG.row,List.length_append,List.length_cons,List.length_nil,Nat.zero_add]
 exact h2
theorem St.bstSet {p : List StG} {o : StG} (h : St w B F fs bad ((StsG.mk (.slice (some ⟨g,0,none⟩) (p.length + 1) cap) (p ++ [o])).row :: L)) (j : Nat) (u : Value) : Bm B w (w.setCell ⟨g,j,none⟩ u) := by
 have h1 : St w B F fs bad (⟨71,4,.slice (some ⟨g,0,none⟩) (p.length + 1) cap,p.length + 1,(p ++ o :: []).flatMap StG.cells⟩ :: L) := by
  have := h
  simp only [StsG.row,List.length_append,List.length_cons,List.length_nil,Nat.zero_add] at this
  exact this
 exact h1.bset j u
theorem St.trSet {p : List TrG} {o o' : TrG} (h : St w B F fs bad ((TrsG.mk (.slice (some ⟨g,0,none⟩) (p.length + 1) cap) (p ++ [o])).row :: L)) (j : Nat) (u : Value) (hj : j < 5) (hx : o.cells.set j u = o'.cells) : St (w.setCell ⟨g,p.length * 5 + j,none⟩ u) B F fs bad ((TrsG.mk (.slice (some ⟨g,0,none⟩) (p.length + 1) cap) (p ++ [o'])).row :: L) := by
 have h1 : St w B F fs bad (⟨75,5,.slice (some ⟨g,0,none⟩) (p.length + 1) cap,p.length + 1,(p ++ o :: []).flatMap TrG.cells⟩ :: L) := by
  have := h
  simp only [TrsG.row,List.length_append,List.length_cons,List.length_nil,Nat.zero_add] at this
  exact this
 have h2 := h1.setEl TrG.cells 5 (fun _ => rfl) j u hj hx
 simp only [TrsG.row,List.length_append,List.length_cons,List.length_nil,Nat.zero_add]
 exact h2
theorem St.btrSet {p : List TrG} {o : TrG} (h : St w B F fs bad ((TrsG.mk (.slice (some ⟨g,0,none⟩) (p.length + 1) cap) (p ++ [o])).row :: L)) (j : Nat) (u : Value) : Bm B w (w.setCell ⟨g,j,none⟩ u) := by
 have h1 : St w B F fs bad (⟨75,5,.slice (some ⟨g,0,none⟩) (p.length + 1) cap,p.length + 1,(p ++ o :: []).flatMap TrG.cells⟩ :: L) := by
  have := h
  simp only [TrsG.row,List.length_append,List.length_cons,List.length_nil,Nat.zero_add] at this
  exact this
 exact h1.bset j u
theorem St.rot2 {a b c : Rw} (h : St w B F fs bad (a :: b :: c :: L)) : St w B F fs bad (c :: a :: b :: L) := h.perm (by refine perm_count fun f g hf => ?_; simp only [hf.c]; omega)
theorem St.roll {a b c : Rw} (h : St w B F fs bad (c :: a :: b :: L)) : St w B F fs bad (a :: b :: c :: L) := h.perm (by refine perm_count fun f g hf => ?_; simp only [hf.c]; omega)
theorem St.two {t : TypeId} {I : Nat} {xs : List Value} {cs : Array Value} (h : St w B F fs bad (boxR t I xs :: L)) (ht : Tn (fun b => b = F ∨ b = I) w w') (hI : w'.heap[I]? = some (.cells cs t (0,0))) (hs : cs.size = xs.length) (hf : FAt w' F fs' bad') (hl : ∀ f ∈ fs',f.length ≤ 1048576) : St w' B F fs' bad' (boxR t I cs.toList :: L) ∧ Bm B w w' := by
 have hbI := box_blk h.flat.head
 have hIB : B ≤ I := (h.flat.head.lt I rfl).1
 obtain ⟨cf,hcf⟩ := h.fat.cs
 have hFB := h.hF
 have hlo := h.lo
 have bm : Bm B w w' := Bm.tn ht h.hi (fun b e => by rcases e with e | e <;> omega) (fun b e es n h2 => by
  rcases e with rfl | rfl
  ·rw [hcf] at h2; cases h2
  ·rw [hbI] at h2; cases h2)
 refine ⟨⟨h.vars.below bm.lo h.lo h.hi,⟨fun r hr => ?_,List.pairwise_cons.2 ⟨fun x hx g hg => ?_,h.flat.tail.far⟩⟩,hf,h.nof.tail.cons (h.nof _ (List.mem_cons_self ..)).1 (h.nof _ (List.mem_cons_self ..)).2,h.lo,Nat.le_trans h.hi ht.size,h.hF,hl⟩,bm⟩
 ·rcases List.mem_cons.1 hr with rfl | hq
  ·exact box_own (by simpa using hI) hIB
  ·refine row_same (h.flat.own r (List.mem_cons_of_mem _ hq)) (fun b hb e => ht.block b hb ?_)
   rintro (rfl | rfl)
   ·obtain ⟨c2,h2⟩ := own_tag (h.flat.own r (List.mem_cons_of_mem _ hq)) e
    rw [hcf] at h2
    simp at h2
    exact (h.nof r (List.mem_cons_of_mem _ hq)).2 h2.2.symm
   ·exact h.flat.apart r hq b rfl e
 ·exact h.flat.apart x hx g hg
theorem restAll_len {fs : List (List UInt8)} (os : List Nat) (h : ∀ f ∈ fs,f.length ≤ 1048576) : ∀ f ∈ restAll os fs,f.length ≤ 1048576 := by
 induction os generalizing fs with
 | nil => exact h
 | cons o r ih => exact ih (fun f hf => h f (List.mem_of_mem_tail hf))
theorem putAll_size (os : List Nat) : ∀ (cs : Array Value) (fs : List (List UInt8)),(putAll cs os fs).size = cs.size := by
 induction os with
 | nil => intro cs fs; rfl
 | cons o r ih => intro cs fs; rw [putAll,ih]; simp
theorem St.numbers {t : TypeId} {I P : Nat} {xs : List Value} (os : List Nat) (cp : Nat) (h : St w B F fs bad (boxR t I xs :: L)) (hos : os.length ≤ 100) (hb : ∀ j,j < os.length → os.getD j 0 < xs.length) (hP : ∃ ps tp,w.heap[P]? = some (.cells ps tp (0,0)) ∧ tp ≠ t ∧ tp ≠ 168 ∧ ∀ j,j < os.length → ps[j]? = some (.pointer (some ⟨I,os.getD j 0,none⟩))) :
  Calls Tryz.prog 86 #[.pointer (some ⟨F,0,none⟩),.slice (some ⟨P,0,none⟩) os.length cp] w fun e w' => e = .returned (.tuple #[]) ∧ St w' B F (restAll os fs) (badAll bad os fs) (boxR t I (putAll xs.toArray os fs).toList :: L) ∧ Bm B w w' := by
 obtain ⟨ps,tp,hp1,hp2,hp4,hp3⟩ := hP
 have hbI := box_blk h.flat.head
 obtain ⟨cf,hcf⟩ := h.fat.cs
 have hIB : B ≤ I := (h.flat.head.lt I rfl).1
 have hFI : F ≠ I := by
  rintro rfl
  rw [hcf] at hbI
  simp at hbI
  exact (h.nof _ (List.mem_cons_self ..)).2 hbI.2.symm
 have hPI : P ≠ I := by
  rintro rfl
  rw [hp1] at hbI
  simp at hbI
  exact hp2 hbI.2
 have hPF : P ≠ F := by
  rintro rfl
  rw [hp1] at hcf
  simp at hcf
  exact hp4 hcf.2
 refine (numbers_any F P I os cp xs.toArray t fs bad w h.vars.v (by have := h.lo; have := h.hF; omega) (by have := h.lo; omega) hFI hPI hPF (lt_of_block hp1) hos h.len h.fat hbI (h.nof _ (List.mem_cons_self ..)).1 (by simpa using hb) (fun j hj => (Lib.cell_of_heap hp1 j).trans (hp3 j hj))).mono ?_
 rintro e w' ⟨h1,h2,h3,h4⟩
 obtain ⟨h5,h6⟩ := h.two h4 h3 (by rw [putAll_size]; simp) h2 (restAll_len os h.len)
 exact ⟨h1,h5,h6⟩
end
abbrev rdB (Q : Nat) (G : SyG) (bg : Bool) : Rw := boxR 51 Q [.int .i64 G.sg,G.ob.v,G.tm.v,.bool bg]
def RdR (B F Q : Nat) (G : SyG) (bg : Bool) (X : List Rw) (key : List UInt8) (fs : List (List UInt8)) (w : World) (e : Ending) (w' : World) : Prop :=
 e = .returned (.tuple #[]) ∧ Bm B w w' ∧ ((∃ G' : SyG,lineW G.dat key fs bg = some G'.dat ∧ St w' B F [] false (rdB Q G' true :: (G'.rows ++ X))) ∨ (lineW G.dat key fs bg = none ∧ ∃ rest bad M,St w' B F rest bad M ∧ X.Sublist M ∧ (bad || !rest.isEmpty) = true))
theorem RdR.of {B F Q : Nat} {G : SyG} {bg : Bool} {X : List Rw} {key : List UInt8} {fs : List (List UInt8)} {w w' : World} {rest : List (List UInt8)} {bad : Bool} {M : List Rw} (hb : Bm B w w') (hS : St w' B F rest bad M) (hX : X.Sublist M) (h1 : (bad || !rest.isEmpty) = true → lineW G.dat key fs bg = none) (h2 : (bad || !rest.isEmpty) = false → ∃ G' : SyG,lineW G.dat key fs bg = some G'.dat ∧ M.Perm (rdB Q G' true :: (G'.rows ++ X))) : RdR B F Q G bg X key fs w (.returned (.tuple #[])) w' := by
 refine ⟨rfl,hb,?_⟩
 cases hx : (bad || !rest.isEmpty) with
 | true => exact .inr ⟨h1 hx,rest,bad,M,hS,hX,hx⟩
 | false =>
  obtain ⟨G',h3,h4⟩ := h2 hx
  simp only [Bool.or_eq_false_iff,Bool.not_eq_false'] at hx
  obtain ⟨rfl,hr⟩ := hx
  rw [List.isEmpty_iff] at hr
  subst hr
  exact .inl ⟨G',h3,hS.perm h4⟩
end Go.Proofs.YtkdgkomnbjepdaaGreatDoor

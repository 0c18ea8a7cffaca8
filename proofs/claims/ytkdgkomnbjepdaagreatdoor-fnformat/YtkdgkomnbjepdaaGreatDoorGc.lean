import Derived.Test.YtkdgkomnbjepdaaGreatDoorGb
import Derived.Test.YtkdgkomnbjepdaaGreatDoorP1
namespace Go.Proofs.YtkdgkomnbjepdaaGreatDoor
open Go.RowKit Go.Sort
set_option linter.unusedVariables false
attribute [local go_sem ↓] Go.wp_at_zero Go.wp_at_succ
def StmIn (X : World) (B : Nat) (d : StmD) (c : List Value) : Prop := ∃ cv,c = [.int .i64 d.kind,.int .i64 d.a,.int .i64 d.b,cv] ∧ CodeV X B cv d.code
def StmsIn (X : World) (B : Nat) (ds : List StmD) (R : List (List Value)) : Prop := R.length = ds.length ∧ ∀ i,i < ds.length → StmIn X B (ds.getD i stm0) (R.getD i [])
theorem StmIn.keep {P : Nat → Prop} {X Y : World} {B : Nat} {d : StmD} {c : List Value} (h : StmIn X B d c) (hP : OnlyP P X Y) (hn : ∀ b cs,X.heap[b]? = some (.cells cs 107 (0,0)) → B ≤ b → ¬ P b) : StmIn Y B d c := by
 obtain ⟨cv,e,ho⟩ := h
 refine ⟨cv,e,hP.own ho (fun b e2 => ?_)⟩
 have hl := (World.ownsRow.lt ho b e2).1
 rcases ho.2 with ⟨h0,_⟩ | ⟨g,cap,cur,k1,k2,k3,k4⟩
 ·rw [h0] at e2; cases e2
 ·rw [k1] at e2; simp [Value.ownBlock] at e2; subst e2; exact hn _ _ k3 hl
theorem StmsIn.keep {P : Nat → Prop} {X Y : World} {B : Nat} {ds : List StmD} {R : List (List Value)} (h : StmsIn X B ds R) (hP : OnlyP P X Y) (hn : ∀ b cs,X.heap[b]? = some (.cells cs 107 (0,0)) → B ≤ b → ¬ P b) : StmsIn Y B ds R := ⟨h.1,fun i hi => (h.2 i hi).keep hP hn⟩
theorem StmsIn.below {X Y : World} {B : Nat} {ds : List StmD} {R : List (List Value)} (h : StmsIn X B ds R) (hb : Below X.heap.size X Y) : StmsIn Y B ds R := h.keep (Below.toP (P := fun _ => False) hb) (fun _ _ _ _ e => e)
theorem StmsIn.draw {X Y : World} {B cb : Nat} {ds : List StmD} {R : List (List Value)} (h : StmsIn X B ds R) (hd : Dw cb X Y) (hc : cb < B) : StmsIn Y B ds R := h.keep hd (fun b _ _ hb e => by omega)
theorem StmsIn.base {X : World} {B C : Nat} {ds : List StmD} {R : List (List Value)} (h : StmsIn X B ds R) (hb : C ≤ B) : StmsIn X C ds R := ⟨h.1,fun i hi => by
 obtain ⟨cv,e,ho⟩ := h.2 i hi
 exact ⟨cv,e,ownsRow_base ho hb⟩⟩
theorem getD_end {α : Type} (l : List α) (x d : α) (i : Nat) : (l ++ [x]).getD i d = if i < l.length then l.getD i d else if i = l.length then x else d := by
 by_cases h : i < l.length
 ·rw [if_pos h]; simp [List.getD_eq_getElem?_getD,List.getElem?_append_left h]
 ·rw [if_neg h]
  by_cases e : i = l.length
  ·subst e; simp
  ·rw [if_neg e]
   rw [List.getD_eq_getElem?_getD,List.getElem?_eq_none (by simp; omega)]
   rfl
theorem StmsIn.snoc {X : World} {B : Nat} {ds : List StmD} {R : List (List Value)} {d : StmD} {c : List Value} (h : StmsIn X B ds R) (hc : StmIn X B d c) : StmsIn X B (ds ++ [d]) (R ++ [c]) := ⟨by simp [h.1],fun i hi => by
 rw [getD_end,getD_end,h.1]
 by_cases hl : i < ds.length
 ·rw [if_pos hl,if_pos hl]; exact h.2 i hl
 ·obtain rfl : i = ds.length := by simp at hi; omega
  rw [if_neg hl,if_neg hl,if_pos rfl,if_pos rfl]; exact hc⟩
def stmsLd (n : Nat) (o s t : Int) (v : Nat) : Nat → Cs → List StmD × Cs
 | 0,σ => ([],σ)
 | k + 1,σ => ((stmsLd n o s t v k σ).1 ++ [(stmF n o s t v (stmsLd n o s t v k σ).2).1],(stmF n o s t v (stmsLd n o s t v k σ).2).2)
def stmsF (n : Nat) (o s t : Int) (v most : Nat) (σ : Cs) : List StmD × Cs := stmsLd n o s t v (pickF n ((most : Int) + 1) σ).1 (pickF n ((most : Int) + 1) σ).2
def StmsEd (w w' : World) (cb : Nat) (co : Option Addr) (n cap A m : Nat) (l : LimD) (F : List StmD × Cs) (P : Prop) (e : Ending) : Prop := ∃ (v : Value) (sts : List StmD) (R : List (List Value)),e = .returned v ∧ w'.ownsRow w.heap.size 105 4 v sts.length R.flatten ∧ StmsIn w' w.heap.size sts R ∧ sts.length ≤ m ∧ (∀ i,i < sts.length → stmB l (sts.getD i stm0) = true) ∧ (∃ ao c,v = .slice ao sts.length c) ∧ Cur w' cb co n cap A F.2 (P ∧ sts = F.1) ∧ Dw cb w w'
structure SsI (w : World) (cb : Nat) (co : Option Addr) (n cap A : Nat) (lx : Array Value) (l : LimD) (k : Nat) (v : Value) (sts : List StmD) (R : List (List Value)) (X : World) (σ : Cs) (F : Prop) : Prop where
 cur : Cur X cb co n cap A σ F
 dw : Dw cb w X
 lb : X.heap[w.heap.size]? = some (.cells lx 81 (0,0))
 o : X.ownsRow w.heap.size 105 4 v sts.length R.flatten
 i : StmsIn X w.heap.size sts R
 len : sts.length = k
 ok : ∀ i,i < sts.length → stmB l (sts.getD i stm0) = true
theorem SsI.draw {w : World} {cb : Nat} {co : Option Addr} {n cap A A' : Nat} {lx : Array Value} {l : LimD} {k : Nat} {v : Value} {sts : List StmD} {R : List (List Value)} {X Y : World} {σ τ : Cs} {F G : Prop} (h : SsI w cb co n cap A lx l k v sts R X σ F) (h0 : cb < w.heap.size) (hd : Dw cb X Y) (hc : Cur Y cb co n cap A' τ G) : SsI w cb co n cap A' lx l k v sts R Y τ G :=
 ⟨hc,h.dw.trans hd,hd.at h.lb (by omega),hd.own h.cur h.o (by decide),h.i.draw hd h0,h.len,h.ok⟩
theorem SsI.below {w : World} {cb : Nat} {co : Option Addr} {n cap A : Nat} {lx : Array Value} {l : LimD} {k : Nat} {v : Value} {sts : List StmD} {R : List (List Value)} {X Y : World} {σ : Cs} {F : Prop} (h : SsI w cb co n cap A lx l k v sts R X σ F) (hb : Below X.heap.size X Y) : SsI w cb co n cap A lx l k v sts R Y σ F :=
 ⟨h.cur.below hb,h.dw.trans (Below.toP hb),block_below h.lb hb,ownsRow_below h.o hb,h.i.below hb,h.len,h.ok⟩
theorem SsI.fact {w : World} {cb : Nat} {co : Option Addr} {n cap A : Nat} {lx : Array Value} {l : LimD} {k : Nat} {v : Value} {sts : List StmD} {R : List (List Value)} {X : World} {σ : Cs} {F G : Prop} (h : SsI w cb co n cap A lx l k v sts R X σ F) (hg : G) : SsI w cb co n cap A lx l k v sts R X σ G :=
 ⟨h.cur.with hg,h.dw,h.lb,h.o,h.i,h.len,h.ok⟩
theorem SsI.add {w : World} {cb : Nat} {co : Option Addr} {n cap A B : Nat} {lx : Array Value} {l : LimD} {k : Nat} {v v' : Value} {sts : List StmD} {R : List (List Value)} {X Y : World} {st : StmD} {cv : Value} {σ τ : Cs} {F G : Prop} (h : SsI w cb co n cap A lx l k v sts R X σ F) (h0 : Cur w cb co n cap B τ G) (hv : CodeV X w.heap.size cv st.code) (hok : stmB l st = true) (hg : X.grownBy Y v.ownBlock) (ho : Y.ownsRow w.heap.size 105 4 v' (sts.length + 1) (R.flatten ++ [.int .i64 st.kind,.int .i64 st.a,.int .i64 st.b,cv])) : SsI w cb co n cap A lx l (k + 1) v' (sts ++ [st]) (R ++ [[.int .i64 st.kind,.int .i64 st.a,.int .i64 st.b,cv]]) Y σ F := by
 obtain ⟨hc,hd⟩ := cur_grown h0 h.cur h.dw h.o (by decide) hg
 have hP := grP hg
 have nI : ∀ b cs,X.heap[b]? = some (.cells cs 107 (0,0)) → w.heap.size ≤ b → ¬ v.ownBlock = some b := fun b cs hb _ e => own_far h.o (by decide) hb e
 refine ⟨hc,hd,(hP.block _ (lt_of_block h.lb) (fun e => own_far h.o (by decide) h.lb e)).trans h.lb,by simpa using ho,(h.i.keep hP nI).snoc (StmIn.keep ⟨cv,rfl,hv⟩ hP nI),by simp [h.len],fun i hi => ?_⟩
 rw [getD_end]
 by_cases hl : i < sts.length
 ·rw [if_pos hl]; exact h.ok i hl
 ·obtain rfl : i = sts.length := by simp at hi; omega
  rw [if_neg hl,if_pos rfl]; exact hok
set_option maxRecDepth 100000 in
set_option maxHeartbeats 16000000 in
theorem drawStms_any (cb : Nat) (co : Option Addr) (n cap A : Nat) (o s t : Int) (v : Nat) (hl : limP ⟨o,s,t,v⟩) (most : Nat) (hm : most ≤ 10) {σ : Cs} {PP : Prop} (w : World) (hA : A ≤ 90000000) (h : Cur w cb co n cap A σ PP) :
  Calls Tryz.prog 35 #[.pointer (some ⟨cb,0,none⟩),.agg #[.int .i64 o,.int .i64 s,.int .i64 t,.int .i64 (v : Int)],.int .i64 (most : Int)] w fun e w' => StmsEd w w' cb co n cap (A + 2 + most * 200) most ⟨o,s,t,v⟩ (stmsF n o s t v most σ) PP e := by
 have H0 := hid h
 have c0 := h.lt
 have P := hid (pick_any cb co n cap A ((most : Int) + 1) (by omega) ((w.alloc (.cells #[.int .i64 o,.int .i64 s,.int .i64 t,.int .i64 (v : Int)] 81)).alloc (.cells #[] 105)) (by omega) (h.below (below2 _ _ _)))
 have DS := hid (fun B w' (hB : B ≤ 100000000) {τ : Cs} {Q : Prop} (h' : Cur w' cb co n cap B τ Q) => drawStm_any cb co n cap B o s t v hl w' hB h')
 have S0 : Hid (SsI w cb co n cap A #[.int .i64 o,.int .i64 s,.int .i64 t,.int .i64 (v : Int)] ⟨o,s,t,v⟩ 0 (.slice (some ⟨w.heap.size + 1,0,none⟩) 0 0) [] [] ((w.alloc (.cells #[.int .i64 o,.int .i64 s,.int .i64 t,.int .i64 (v : Int)] 81)).alloc (.cells #[] 105)) σ PP) := hid (by
  have h2 := heap_alloc_new (w.alloc (.cells #[.int .i64 o,.int .i64 s,.int .i64 t,.int .i64 (v : Int)] 81)) (.cells #[] 105)
  simp only [World.size_alloc] at h2
  exact ⟨h.below (below2 _ _ _),(dw_alloc _ _ _).trans (dw_alloc _ _ _),block_below (heap_alloc_new w _) (below1 _ _),⟨rfl,.inr ⟨w.heap.size + 1,0,#[],rfl,by omega,h2,Nat.le_refl _,Nat.zero_le _,rfl,rfl⟩⟩,⟨rfl,fun i hi => absurd hi (by simp)⟩,rfl,fun i hi => absurd hi (by simp)⟩)
 obtain ⟨i0,hi0,hz0,hz1,hz2⟩ := info_parts infoStm
 clear h
 go_enter Tryz.func35,Tryz.ntmps35
 go_wp2_with (go_at_call 19; refine P.out.mono ?_; rintro e w1 ⟨m,rfl,hr,hc,hd⟩; have mm : m ≤ most := (by omega); have S1 := hid (S0.out.draw c0 hd hc); clear hc hd hr)
 go_loopg [7,9] m (fun mm' v7 i X => ∃ (k : Nat) (sts : List StmD) (R : List (List Value)),k ≤ m ∧ mm' = m - k ∧ i = .int .i64 k ∧ SsI w cb co n cap (A + 2 + k * 200) #[.int .i64 o,.int .i64 s,.int .i64 t,.int .i64 (v : Int)] ⟨o,s,t,v⟩ k v7 sts R X (stmsLd n o s t v k (pickF n ((most : Int) + 1) σ).2).2 (PP ∧ m = (pickF n ((most : Int) + 1) σ).1 ∧ sts = (stmsLd n o s t v k (pickF n ((most : Int) + 1) σ).2).1))
 case atStart => exact ⟨0,[],[],by omega,by omega,rfl,S1.out.fact ⟨S1.out.cur.fact.1,S1.out.cur.fact.2,rfl⟩⟩
 case round =>
  obtain ⟨k,sts,R,hk,rfl,rfl,hI⟩ := hrel
  have I := hid hI
  obtain ⟨l0,l1,l2,l3⟩ := quad_cells hI.lb
  have ll := lt_of_block hI.lb
  by_cases hlt : k < m
  ·have ki : (k : Int) < (m : Int) := by omega
   have DK := hid (DS.out (A + 2 + k * 200) wr (by have := Nat.mul_le_mul mm (Nat.le_refl 200); have := Nat.mul_le_mul hk (Nat.le_refl 200); omega) hI.cur)
   obtain ⟨va,vc,hv7⟩ := own_any hI.o
   subst hv7
   have LN := hid hI.len
   have kl : sts.length ≤ 10 := by rw [hI.len]; omega
   clear hI
   go_wp2_with (first
    | (go_at_call 67; refine DK.out.mono ?_; rintro e w2 ⟨st,cv,rfl,hcv,hst,hc,hd⟩; have I2 := hid (I.out.draw c0 hd hc); have V2 := hid (ownsRow_base hcv I.out.dw.size); have HS := hid hst; have I3 := hid (I2.out.below (below1 w2 (.cells #[.int .i64 st.kind,.int .i64 st.a,.int .i64 st.b,cv] 105))); have V3 := hid (ownsRow_below V2.out (below1 w2 (.cells #[.int .i64 st.kind,.int .i64 st.a,.int .i64 st.b,cv] 105))); have NW := hid (World.news_of_block (heap_alloc_new w2 (.cells #[.int .i64 st.kind,.int .i64 st.a,.int .i64 st.b,cv] 105))); obtain ⟨ca,cc,hcv2⟩ := own_any hcv; have CVF := hid hcv2; clear hcv hst hc hd hcv2)
    | (at_builtin; refine wpList_append_own _ rfl (.tmp 20) (.tmp 24) 69 rfl w.heap.size 105 i0 _ 4 48 Tryz.underlying69 hi0 hz0 hz1 hz2 rfl (by decide) (.slice va sts.length vc) sts.length R.flatten rfl I3.out.o ⟨w2.heap.size,0,none⟩ 1 1 [.int .i64 st.kind,.int .i64 st.a,.int .i64 st.b,cv] rfl rfl NW.out (by intro u hu; simp at hu; rcases hu with rfl | rfl | rfl | rfl <;> first | rfl | (rw [CVF.out]; rfl)) (by unfold maxLen; omega) (by omega) I3.out.dw.size ?_))
   intro v' w3 hown hgrow _
   have IA := hid (I3.out.add H0.out V3.out HS.out hgrow hown)
   clear hown hgrow
   go_wp2_with fail
   go_roundg (m - (k + 1))
   case measure => omega
   case rel => exact ⟨k + 1,_,_,by omega,rfl,by go_num,⟨(IA.out.cur.mono (by omega)).with ⟨I.out.cur.fact.1,I.out.cur.fact.2.1,by rw [stmsLd,← I.out.cur.fact.2.2,← I2.out.cur.fact.2]⟩,IA.out.dw,IA.out.lb,IA.out.o,IA.out.i,IA.out.len,IA.out.ok⟩⟩
  ·obtain rfl : k = m := by omega
   clear hI
   go_wp2_with fail
   go_ret
   exact ⟨_,sts,R,rfl,I.out.o,I.out.i,by rw [I.out.len]; exact mm,I.out.ok,own_any I.out.o,by unfold stmsF; rw [← I.out.cur.fact.2.1]; exact (I.out.cur.mono (by have := Nat.mul_le_mul mm (Nat.le_refl 200); omega)).with ⟨I.out.cur.fact.1,I.out.cur.fact.2.2⟩,I.out.dw⟩
end Go.Proofs.YtkdgkomnbjepdaaGreatDoor
namespace Go.Proofs.YtkdgkomnbjepdaaGreatDoor
open Go.RowKit Go.Sort
set_option linter.unusedVariables false
attribute [local go_sem ↓] Go.wp_at_zero Go.wp_at_succ
theorem fiveC {w : World} {H : Nat} {a b c d e : Value} {t : TypeId} (k : w.heap[H]? = some (.cells #[a,b,c,d,e] t (0,0))) : w.cell? ⟨H,0,none⟩ = some a ∧ w.cell? ⟨H,1,none⟩ = some b ∧ w.cell? ⟨H,2,none⟩ = some c ∧ w.cell? ⟨H,3,none⟩ = some d ∧ w.cell? ⟨H,4,none⟩ = some e := by simp [World.cell?,k]
structure TrI (w : World) (cb : Nat) (co : Option Addr) (n cap A : Nat) (lx : Array Value) (HS : Nat) (sx : Array Value) (X : World) (σ : Cs) (F : Prop) : Prop where
 cur : Cur X cb co n cap A σ F
 dw : Dw cb w X
 lb : X.heap[w.heap.size]? = some (.cells lx 81 (0,0))
 r : X.heap[w.heap.size + 1]? = some (.cells #[.int .i64 0,.int .i64 0,.slice none 0 0,.int .i64 0,.slice none 0 0] 75 (0,0))
 s : X.heap[HS]? = some (.cells sx 75 (0,0))
 hs : w.heap.size + 1 < HS
 cb0 : cb < w.heap.size
 g0 : 0 < n → ∀ g o,co = some ⟨g,o,none⟩ → g < w.heap.size
section
variable {w : World} {cb : Nat} {co : Option Addr} {n cap A A' : Nat} {lx : Array Value} {HS : Nat} {sx : Array Value} {X Y : World} {σ τ : Cs} {F G : Prop}
theorem TrI.draw (h : TrI w cb co n cap A lx HS sx X σ F) (hd : Dw cb X Y) (hc : Cur Y cb co n cap A' τ G) : TrI w cb co n cap A' lx HS sx Y τ G :=
 ⟨hc,h.dw.trans hd,hd.at h.lb (by have := h.cb0; omega),hd.at h.r (by have := h.cb0; omega),hd.at h.s (by have := h.cb0; have := h.hs; omega),h.hs,h.cb0,h.g0⟩
theorem TrI.set {a b c d e a' b' c' d' e' u : Value} {o : Nat} (h : TrI w cb co n cap A lx HS #[a,b,c,d,e] X σ F) (q : (#[a,b,c,d,e] : Array Value).setIfInBounds o u = #[a',b',c',d',e']) : TrI w cb co n cap A lx HS #[a',b',c',d',e'] (X.setCell ⟨HS,o,none⟩ u) σ F := by
 have c0 := h.cb0
 have h1 := h.hs
 have hP : OnlyP (fun q => q = HS) X (X.setCell ⟨HS,o,none⟩ u) := OnlyP.set _ rfl
 refine ⟨h.cur.only hP (by omega) (fun hn g o e => by have := h.g0 hn g o e; omega),⟨hP.os.trans h.dw.os,hP.tape.trans h.dw.tape,hP.output.trans h.dw.output,Nat.le_trans h.dw.size hP.size,fun q hq hn => (hP.block q (Nat.lt_of_lt_of_le hq h.dw.size) (by omega)).trans (h.dw.block q hq hn)⟩,(hP.block _ (lt_of_block h.lb) (by omega)).trans h.lb,(hP.block _ (lt_of_block h.r) (by omega)).trans h.r,?_,h1,c0,h.g0⟩
 rw [heap_setCell_same X HS o _ _ u h.s,q]
theorem TrI.le (h : TrI w cb co n cap A lx HS sx X σ F) : w.heap.size + 1 + 1 ≤ X.heap.size := Nat.le_trans (show w.heap.size + 1 + 1 ≤ HS from h.hs) (Nat.le_of_lt (lt_of_block h.s))
theorem tr_start {w1 : World} {B : Nat} {f : Value} (h0 : Cur w cb co n cap B σ F) (hd : Dw cb ((w.alloc (.cells lx 81)).alloc (.cells #[.int .i64 0,.int .i64 0,.slice none 0 0,.int .i64 0,.slice none 0 0] 75)) w1) (hc : Cur w1 cb co n cap A τ G) : TrI w cb co n cap A lx w1.heap.size #[f,.int .i64 0,.slice none 0 0,.int .i64 (-1),.slice none 0 0] (w1.alloc (.cells #[f,.int .i64 0,.slice none 0 0,.int .i64 (-1),.slice none 0 0] 75)) τ G := by
 have hz := h0.lt
 have sz := hd.size
 simp only [World.size_alloc] at sz
 have h2 := heap_alloc_new (w.alloc (.cells lx 81)) (.cells #[.int .i64 0,.int .i64 0,.slice none 0 0,.int .i64 0,.slice none 0 0] 75)
 simp only [World.size_alloc] at h2
 have b1 := below1 w1 (.cells #[f,.int .i64 0,.slice none 0 0,.int .i64 (-1),.slice none 0 0] 75)
 refine ⟨hc.below b1,(((dw_alloc _ _ _).trans (dw_alloc _ _ _)).trans hd).trans (Below.toP b1),block_below (hd.at (block_below (heap_alloc_new w _) (below1 _ _)) (by omega)) b1,block_below (hd.at h2 (by omega)) b1,heap_alloc_new _ _,by omega,hz,h0.code_lt⟩
end
theorem set_own {X : World} {HS o B : Nat} {cs : Array Value} {t e : TypeId} {size : Nat} {v u : Value} {m : Nat} {xs : List Value} (hb : X.heap[HS]? = some (.cells cs t (0,0))) (ho : X.ownsRow B e size v m xs) (he : t ≠ e) : (X.setCell ⟨HS,o,none⟩ u).ownsRow B e size v m xs := OnlyP.own (OnlyP.set (w := X) (P := fun q => q = HS) (g := HS) (o := o) u rfl) ho (fun q e1 e2 => by rw [e2] at e1; exact own_far ho he hb e1)
theorem StmsIn.set {X : World} {HS o B : Nat} {cs : Array Value} {t : TypeId} {u : Value} {ds : List StmD} {R : List (List Value)} (h : StmsIn X B ds R) (hb : X.heap[HS]? = some (.cells cs t (0,0))) (he : t ≠ 107) : StmsIn (X.setCell ⟨HS,o,none⟩ u) B ds R := h.keep (OnlyP.set (w := X) (P := fun q => q = HS) (g := HS) (o := o) u rfl) (fun b cs' hb' _ e => by rw [e,hb] at hb'; simp at hb'; exact he hb'.2)
def StmsV (X : World) (B : Nat) (v : Value) (sts : List StmD) : Prop := ∃ R,X.ownsRow B 105 4 v sts.length R.flatten ∧ StmsIn X B sts R
theorem stmsV_nil (X : World) (B : Nat) : StmsV X B (.slice none 0 0) [] := ⟨[],World.ownsRow_nil _ _ _ _,rfl,fun i hi => absurd hi (by simp)⟩
theorem StmsV.set {X : World} {HS o B : Nat} {cs : Array Value} {t : TypeId} {u v : Value} {sts : List StmD} (h : StmsV X B v sts) (hb : X.heap[HS]? = some (.cells cs t (0,0))) (h1 : t ≠ 107) (h2 : t ≠ 105) : StmsV (X.setCell ⟨HS,o,none⟩ u) B v sts := by
 obtain ⟨R,ho,hi⟩ := h
 exact ⟨R,set_own hb ho h2,hi.set hb h1⟩
theorem StmsV.draw {X Y : World} {B cb : Nat} {v : Value} {sts : List StmD} {co : Option Addr} {n cap A : Nat} {σ : Cs} {F : Prop} (h : StmsV X B v sts) (hd : Dw cb X Y) (hc : Cur X cb co n cap A σ F) (h0 : cb < B) : StmsV Y B v sts := by
 obtain ⟨R,ho,hi⟩ := h
 exact ⟨R,hd.own hc ho (by decide),hi.draw hd h0⟩
theorem StmsV.below {X Y : World} {B : Nat} {v : Value} {sts : List StmD} (h : StmsV X B v sts) (hb : Below X.heap.size X Y) : StmsV Y B v sts := by
 obtain ⟨R,ho,hi⟩ := h
 exact ⟨R,ownsRow_below ho hb,hi.below hb⟩
theorem StmsV.base {X : World} {B C : Nat} {v : Value} {sts : List StmD} (h : StmsV X B v sts) (hb : C ≤ B) : StmsV X C v sts := by
 obtain ⟨R,ho,hi⟩ := h
 exact ⟨R,ownsRow_base ho hb,hi.base hb⟩
def transF (n : Nat) (o s t : Int) (v ns : Nat) (σ : Cs) : TrD × Cs :=
 let f := pickF n (ns : Int) σ
 let g := pickF n s f.2
 let z := pickF n 6 g.2
 let tg : Int × Cs := if 0 < z.1 then (((pickF n (ns : Int) z.2).1 : Int),(pickF n (ns : Int) z.2).2) else (-1,z.2)
 let y := pickF n 3 tg.2
 let c := if y.1 = 2 then codeF n v 3 y.2 else ([],y.2)
 let a := stmsF n o s t v 3 c.2
 (⟨f.1,g.1,c.1,tg.1,a.1⟩,a.2)
theorem transF_tc {n : Nat} {o s t : Int} {v ns f g z tg y : Nat} {its : List (Int × Int)} {sts : List StmD} {σ : Cs} (hf : f = (pickF n (ns : Int) σ).1) (hg : g = (pickF n s (pickF n (ns : Int) σ).2).1) (hz : z = (pickF n 6 (pickF n s (pickF n (ns : Int) σ).2).2).1) (ht : tg = (pickF n (ns : Int) (pickF n 6 (pickF n s (pickF n (ns : Int) σ).2).2).2).1) (hy : y = (pickF n 3 (pickF n (ns : Int) (pickF n 6 (pickF n s (pickF n (ns : Int) σ).2).2).2).2).1) (hc : its = (codeF n v 3 (pickF n 3 (pickF n (ns : Int) (pickF n 6 (pickF n s (pickF n (ns : Int) σ).2).2).2).2).2).1) (ha : sts = (stmsF n o s t v 3 (codeF n v 3 (pickF n 3 (pickF n (ns : Int) (pickF n 6 (pickF n s (pickF n (ns : Int) σ).2).2).2).2).2).2).1) (z0 : 0 < z) (y2 : y = 2) : transF n o s t v ns σ = (⟨f,g,its,(tg : Int),sts⟩,(stmsF n o s t v 3 (codeF n v 3 (pickF n 3 (pickF n (ns : Int) (pickF n 6 (pickF n s (pickF n (ns : Int) σ).2).2).2).2).2).2).2) := by
 unfold transF
 simp only [← hf,← hg,← hz,if_pos z0,← ht,← hy,if_pos y2,← hc,← ha]
theorem transF_c {n : Nat} {o s t : Int} {v ns f g z y : Nat} {its : List (Int × Int)} {sts : List StmD} {σ : Cs} (hf : f = (pickF n (ns : Int) σ).1) (hg : g = (pickF n s (pickF n (ns : Int) σ).2).1) (hz : z = (pickF n 6 (pickF n s (pickF n (ns : Int) σ).2).2).1) (hy : y = (pickF n 3 (pickF n 6 (pickF n s (pickF n (ns : Int) σ).2).2).2).1) (hc : its = (codeF n v 3 (pickF n 3 (pickF n 6 (pickF n s (pickF n (ns : Int) σ).2).2).2).2).1) (ha : sts = (stmsF n o s t v 3 (codeF n v 3 (pickF n 3 (pickF n 6 (pickF n s (pickF n (ns : Int) σ).2).2).2).2).2).1) (z0 : ¬ 0 < z) (y2 : y = 2) : transF n o s t v ns σ = (⟨f,g,its,-1,sts⟩,(stmsF n o s t v 3 (codeF n v 3 (pickF n 3 (pickF n 6 (pickF n s (pickF n (ns : Int) σ).2).2).2).2).2).2) := by
 unfold transF
 simp only [← hf,← hg,← hz,if_neg z0,← hy,if_pos y2,← hc,← ha]
theorem transF_t {n : Nat} {o s t : Int} {v ns f g z tg y : Nat} {sts : List StmD} {σ : Cs} (hf : f = (pickF n (ns : Int) σ).1) (hg : g = (pickF n s (pickF n (ns : Int) σ).2).1) (hz : z = (pickF n 6 (pickF n s (pickF n (ns : Int) σ).2).2).1) (ht : tg = (pickF n (ns : Int) (pickF n 6 (pickF n s (pickF n (ns : Int) σ).2).2).2).1) (hy : y = (pickF n 3 (pickF n (ns : Int) (pickF n 6 (pickF n s (pickF n (ns : Int) σ).2).2).2).2).1) (ha : sts = (stmsF n o s t v 3 (pickF n 3 (pickF n (ns : Int) (pickF n 6 (pickF n s (pickF n (ns : Int) σ).2).2).2).2).2).1) (z0 : 0 < z) (y2 : ¬ y = 2) : transF n o s t v ns σ = (⟨f,g,[],(tg : Int),sts⟩,(stmsF n o s t v 3 (pickF n 3 (pickF n (ns : Int) (pickF n 6 (pickF n s (pickF n (ns : Int) σ).2).2).2).2).2).2) := by
 unfold transF
 simp only [← hf,← hg,← hz,if_pos z0,← ht,← hy,if_neg y2,← ha]
theorem transF_o {n : Nat} {o s t : Int} {v ns f g z y : Nat} {sts : List StmD} {σ : Cs} (hf : f = (pickF n (ns : Int) σ).1) (hg : g = (pickF n s (pickF n (ns : Int) σ).2).1) (hz : z = (pickF n 6 (pickF n s (pickF n (ns : Int) σ).2).2).1) (hy : y = (pickF n 3 (pickF n 6 (pickF n s (pickF n (ns : Int) σ).2).2).2).1) (ha : sts = (stmsF n o s t v 3 (pickF n 3 (pickF n 6 (pickF n s (pickF n (ns : Int) σ).2).2).2).2).1) (z0 : ¬ 0 < z) (y2 : ¬ y = 2) : transF n o s t v ns σ = (⟨f,g,[],-1,sts⟩,(stmsF n o s t v 3 (pickF n 3 (pickF n 6 (pickF n s (pickF n (ns : Int) σ).2).2).2).2).2) := by
 unfold transF
 simp only [← hf,← hg,← hz,if_neg z0,← hy,if_neg y2,← ha]
def TrEd (w w' : World) (cb : Nat) (co : Option Addr) (n cap A ns : Nat) (l : LimD) (F : TrD × Cs) (P : Prop) (e : Ending) : Prop := ∃ (tr : TrD) (gv av : Value),e = .returned (.agg #[.int .i64 tr.src,.int .i64 tr.sig,gv,.int .i64 tr.target,av]) ∧ CodeV w' w.heap.size gv tr.guard ∧ StmsV w' w.heap.size av tr.action ∧ okTr ns l tr = true ∧ (∃ ao k c,gv = .slice ao k c) ∧ (∃ ao k c,av = .slice ao k c) ∧ Cur w' cb co n cap A F.2 (P ∧ tr = F.1) ∧ Dw cb w w'
end Go.Proofs.YtkdgkomnbjepdaaGreatDoor
namespace Go.Proofs.YtkdgkomnbjepdaaGreatDoor
open Go.RowKit Go.Sort
set_option linter.unusedVariables false
attribute [local go_sem ↓] Go.wp_at_zero Go.wp_at_succ
theorem okTr_of {ns : Nat} {l : LimD} {f sg tg : Int} {g : List (Int × Int)} {a : List StmD} (h1 : 0 ≤ f ∧ f < ns) (h2 : 0 ≤ sg ∧ sg < l.s) (h3 : -1 ≤ tg ∧ tg < ns) (h4 : grdB l g = true) (hl : limP l) (h5 : a.length ≤ 50 ∧ ∀ i,i < a.length → stmB l (a.getD i stm0) = true) : okTr ns l ⟨f,sg,g,tg,a⟩ = true := by
 unfold okTr betB
 rw [decide_eq_true (by constructor <;> simp only <;> omega),decide_eq_true (by constructor <;> simp only <;> omega),decide_eq_true (by constructor <;> simp only <;> omega),h4]
 simp only [Bool.true_and]
 unfold stmsB
 exact decide_eq_true ⟨hl,h5⟩
theorem stmsV_mk {X : World} {B : Nat} {v : Value} {sts : List StmD} {R : List (List Value)} (ho : X.ownsRow B 105 4 v sts.length R.flatten) (hi : StmsIn X B sts R) : StmsV X B v sts := ⟨R,ho,hi⟩
theorem grd_nil (l : LimD) : grdB l [] = true := rfl
theorem grd_code {l : LimD} {its : List (Int × Int)} (h : codeB its l.v = true) : grdB l its = true := by unfold grdB; rw [h,Bool.or_true]
theorem TrI.ret {w : World} {cb : Nat} {co : Option Addr} {n cap A A' ns : Nat} {lx : Array Value} {HS : Nat} {X : World} {f sg tg : Int} {gv av : Value} {its : List (Int × Int)} {sts : List StmD} {l : LimD} {F : TrD × Cs} {σ : Cs} {P Q : Prop} (h : TrI w cb co n cap A lx HS #[.int .i64 f,.int .i64 sg,gv,.int .i64 tg,av] X σ Q) (hp : P) (hF : F = (⟨f,sg,its,tg,sts⟩,σ)) (hg : CodeV X (w.heap.size + 1 + 1) gv its) (ha : StmsV X (w.heap.size + 1 + 1) av sts) (hA : A ≤ A') (hs : okTr ns l ⟨f,sg,its,tg,sts⟩ = true) (f1 : ∃ ao k c,gv = .slice ao k c) (f2 : ∃ ao k c,av = .slice ao k c) : TrEd w (((((X.setCell ⟨w.heap.size + 1,0,none⟩ (.int .i64 f)).setCell ⟨w.heap.size + 1,1,none⟩ (.int .i64 sg)).setCell ⟨w.heap.size + 1,2,none⟩ gv).setCell ⟨w.heap.size + 1,3,none⟩ (.int .i64 tg)).setCell ⟨w.heap.size + 1,4,none⟩ av) cb co n cap A' ns l F P (.returned (.agg #[.int .i64 f,.int .i64 sg,gv,.int .i64 tg,av])) := by
 obtain ⟨Y,hY⟩ : ∃ Y,Y = ((((X.setCell ⟨w.heap.size + 1,0,none⟩ (.int .i64 f)).setCell ⟨w.heap.size + 1,1,none⟩ (.int .i64 sg)).setCell ⟨w.heap.size + 1,2,none⟩ gv).setCell ⟨w.heap.size + 1,3,none⟩ (.int .i64 tg)).setCell ⟨w.heap.size + 1,4,none⟩ av := ⟨_,rfl⟩
 have s : ∀ {Y : World} {o : Nat} {u : Value},OnlyP (fun q => q = w.heap.size + 1) Y (Y.setCell ⟨w.heap.size + 1,o,none⟩ u) := OnlyP.set _ rfl
 have hP : OnlyP (fun q => q = w.heap.size + 1) X Y := by rw [hY]; exact (((s.trans s).trans s).trans s).trans s
 rw [← hY]
 have c0 := h.cb0
 obtain ⟨R,ho,hi⟩ := ha
 refine ⟨⟨f,sg,its,tg,sts⟩,gv,av,rfl,ownsRow_base (hP.own hg (fun q e e2 => by have := (World.ownsRow.lt hg q e).1; omega)) (by omega),⟨R,ownsRow_base (hP.own ho (fun q e e2 => by have := (ho.lt q e).1; omega)) (by omega),(hi.keep hP (fun b _ _ hb e => by omega)).base (by omega)⟩,hs,f1,f2,by rw [hF]; exact ((h.cur.only hP (by omega) (fun hn g o e => by have := h.g0 hn g o e; omega)).mono hA).with ⟨hp,rfl⟩,⟨hP.os.trans h.dw.os,hP.tape.trans h.dw.tape,hP.output.trans h.dw.output,Nat.le_trans h.dw.size hP.size,fun q hq hn => (hP.block q (Nat.lt_of_lt_of_le hq h.dw.size) (by omega)).trans (h.dw.block q hq hn)⟩⟩
theorem set5r {X : World} {r : Nat} {a b c d e x0 x1 x2 x3 x4 : Value} {t : TypeId} (h : X.heap[r]? = some (.cells #[x0,x1,x2,x3,x4] t (0,0))) : (((((X.setCell ⟨r,0,none⟩ a).setCell ⟨r,1,none⟩ b).setCell ⟨r,2,none⟩ c).setCell ⟨r,3,none⟩ d).setCell ⟨r,4,none⟩ e).heap[r]? = some (.cells #[a,b,c,d,e] t (0,0)) := by
 have m1 := heap_setCell_same X r 0 _ _ a h
 have m2 := heap_setCell_same _ r 1 _ _ b m1
 have m3 := heap_setCell_same _ r 2 _ _ c m2
 have m4 := heap_setCell_same _ r 3 _ _ d m3
 have m5 := heap_setCell_same _ r 4 _ _ e m4
 rw [m5]; simp
set_option maxRecDepth 100000 in
set_option maxHeartbeats 16000000 in
theorem drawTrans_any (cb : Nat) (co : Option Addr) (n cap A : Nat) (o s t : Int) (v : Nat) (hl : limP ⟨o,s,t,v⟩) (hs1 : 1 ≤ s) (ns : Nat) (hns : 1 ≤ ns ∧ ns ≤ 200) {σ : Cs} {PP : Prop} (w : World) (hA : A ≤ 80000000) (h : Cur w cb co n cap A σ PP) :
  Calls Tryz.prog 36 #[.pointer (some ⟨cb,0,none⟩),.int .i64 (ns : Int),.agg #[.int .i64 o,.int .i64 s,.int .i64 t,.int .i64 (v : Int)]] w fun e w' => TrEd w w' cb co n cap (A + 1000) ns ⟨o,s,t,v⟩ (transF n o s t v ns σ) PP e := by
 have H0 := hid h
 have HL := hid hl
 have v32 : v ≤ 32 := by have := hl.2.2.2; simp only at this; omega
 have s64 : s ≤ 64 := by have := hl.2.1; simp only at this; omega
 have P := hid (fun B k w' (hk : k ≤ 65536) (hB : B ≤ 10000000000) {τ : Cs} {Q : Prop} (h' : Cur w' cb co n cap B τ Q) => pick_any cb co n cap B k hk w' (by omega) h')
 have DC : Hid (∀ B w' {τ : Cs} {Q : Prop},B ≤ 900000000 → Cur w' cb co n cap B τ Q → Calls Tryz.prog 68 #[.pointer (some ⟨cb,0,none⟩),.int .i64 (v : Int),.int .i64 2] w' fun e w'' => CodeEd w' w'' cb co n cap (B + bud 3) (cl 3) (v : Int) (codeF n v 3 τ) Q e) := hid (fun B w' {τ Q} hB h' => drawCode_any cb co n cap v v32 3 2 rfl B w' (by simp only [bud]; omega) h')
 have DS : Hid (∀ B w' {τ : Cs} {Q : Prop},B ≤ 90000000 → Cur w' cb co n cap B τ Q → Calls Tryz.prog 35 #[.pointer (some ⟨cb,0,none⟩),.agg #[.int .i64 o,.int .i64 s,.int .i64 t,.int .i64 (v : Int)],.int .i64 3] w' fun e w'' => StmsEd w' w'' cb co n cap (B + 2 + 3 * 200) 3 ⟨o,s,t,v⟩ (stmsF n o s t v 3 τ) Q e) := hid (fun B w' {τ Q} hB h' => drawStms_any cb co n cap B o s t v hl 3 (by omega) w' hB h')
 have CA := hid (h.below (below2 w (.cells #[.int .i64 o,.int .i64 s,.int .i64 t,.int .i64 (v : Int)] 81) (.cells #[.int .i64 0,.int .i64 0,.slice none 0 0,.int .i64 0,.slice none 0 0] 75)))
 clear h hl
 go_enter Tryz.func36,Tryz.ntmps36
 go_upto_region 2 with (go_at_call 19; refine (P.out A (ns : Int) _ (by omega) (by omega) CA.out).mono ?_; rintro e w1 ⟨f,rfl,hr,hc,hd⟩; have fn : f < ns := (by omega); have T0 := hid (tr_start (f := .int .i64 (f : Int)) H0.out hd hc); clear hc hd hr)
 obtain ⟨HS,hHS⟩ : ∃ x,x = w1.heap.size := ⟨_,rfl⟩
 obtain ⟨W,hW⟩ : ∃ W,W = w1.alloc (.cells #[.int .i64 (f : Int),.int .i64 0,.slice none 0 0,.int .i64 (-1),.slice none 0 0] 75) := ⟨_,rfl⟩
 rw [← hW,← hHS] at T0
 rw [← hW,← hHS]
 clear hW hHS
 obtain ⟨l0,l1,l2,l3⟩ := quad_cells T0.out.lb
 have ll := lt_of_block T0.out.lb
 have PS := hid (P.out (A + 2) s _ (by omega) (by omega) T0.out.cur)
 go_upto_region 3 with (go_at_call 19; refine PS.out.mono ?_; rintro e w2 ⟨g1,rfl,hr,hc,hd⟩; have sgn : (g1 : Int) < s := (by omega); have T1 := hid (T0.out.draw hd hc); obtain ⟨a0,a1,a2,a3,a4⟩ := fiveC T1.out.s; have fa := frz_of T1.out.s; have al := lt_of_block T1.out.s; clear hc hd hr)
 have T2 := hid (T1.out.set (o := 1) (u := .int .i64 (g1 : Int)) (a' := .int .i64 (f : Int)) (b' := .int .i64 (g1 : Int)) (c' := .slice none 0 0) (d' := .int .i64 (-1)) (e' := .slice none 0 0) rfl)
 obtain ⟨W2,hW2⟩ : ∃ W,W = w2.setCell ⟨HS,1,none⟩ (.int .i64 (g1 : Int)) := ⟨_,rfl⟩
 rw [← hW2] at T2 ⊢
 clear hW2 a0 a1 a2 a3 a4 fa al l0 l1 l2 l3 ll PS
 have P6 := hid (P.out (A + 2 + 2) 6 _ (by omega) (by omega) T2.out.cur)
 have nL : ¬ (HS = w.heap.size) := by have := T2.out.hs; omega
 have nL2 : ¬ (w.heap.size = HS) := fun e => nL e.symm
 have nR : ¬ (HS = w.heap.size + 1) := by have := T2.out.hs; omega
 have nR2 : ¬ (w.heap.size + 1 = HS) := fun e => nR e.symm
 go_wp2_with (first
  | (go_at_call 19; have q := P6.out; with_reducible refine q.mono ?_; clear q; rintro e w3 ⟨z,rfl,hz,hc,hd⟩; have T3 := hid (T2.out.draw hd hc); have z6 : z < 6 := (by omega); clear hc hd hz)
  | (go_at_call 19; have q := P.out (A + 2 + 2 + 2) (ns : Int) _ (by omega) (by omega) T3.out.cur; with_reducible refine q.mono ?_; clear q; rintro e w4 ⟨tg,rfl,hr,hc,hd⟩; have tgn : tg < ns := (by omega); have T4 := hid (T3.out.draw hd hc); have T4s := hid (T4.out.set (o := 3) (u := .int .i64 (tg : Int)) (a' := .int .i64 (f : Int)) (b' := .int .i64 (g1 : Int)) (c' := .slice none 0 0) (d' := .int .i64 (tg : Int)) (e' := .slice none 0 0) rfl); obtain ⟨a0,a1,a2,a3,a4⟩ := fiveC T4.out.s; have fa := frz_of T4.out.s; have al := lt_of_block T4.out.s; clear hc hd hr)
  | (go_at_call 19; have q := P.out (A + 2 + 2 + 2 + 2) 3 _ (by omega) (by omega) T4s.out.cur; with_reducible refine q.mono ?_; clear q; rintro e w5 ⟨y,rfl,hy,hc,hd⟩; have y3 : y < 3 := (by omega); have T5 := hid ((T4s.out.draw hd hc)); obtain ⟨m0,m1,m2,m3⟩ := quad_cells T5.out.lb; have ml := lt_of_block T5.out.lb; obtain ⟨h0,h1,h2,h3,h4⟩ := fiveC T5.out.s; have fh := frz_of T5.out.s; have hl := lt_of_block T5.out.s; clear hc hd hy)
  | (go_at_call 19; have q := P.out (A + 2 + 2 + 2) 3 _ (by omega) (by omega) T3.out.cur; with_reducible refine q.mono ?_; clear q; rintro e w5 ⟨y,rfl,hy,hc,hd⟩; have y3 : y < 3 := (by omega); have T5 := hid ((T3.out.draw hd hc)); obtain ⟨m0,m1,m2,m3⟩ := quad_cells T5.out.lb; have ml := lt_of_block T5.out.lb; obtain ⟨h0,h1,h2,h3,h4⟩ := fiveC T5.out.s; have fh := frz_of T5.out.s; have hl := lt_of_block T5.out.s; clear hc hd hy)
  | (go_at_call 68; have q := DC.out (A + 2 + 2 + 2 + 2 + 2) _ (by omega) T5.out.cur; with_reducible refine q.mono ?_; clear q; intro e w7 hq; unfold CodeEd at hq; obtain ⟨gg,gc,its,rfl,ho,hcd,hc,hd⟩ := hq; have T6 := hid (T5.out.draw hd hc); have T6s := hid (T6.out.set (o := 2) (u := .slice (some ⟨gg,0,none⟩) its.length gc) (a' := .int .i64 (f : Int)) (b' := .int .i64 (g1 : Int)) (c' := .slice (some ⟨gg,0,none⟩) its.length gc) (d' := .int .i64 (tg : Int)) (e' := .slice none 0 0) rfl); have O6 : Hid ((w7.setCell ⟨HS,2,none⟩ (.slice (some ⟨gg,0,none⟩) its.length gc)).ownsRow (w.heap.size + 1 + 1) 107 2 (.slice (some ⟨gg,0,none⟩) its.length gc) its.length (cellsI its)) := hid (set_own T6.out.s (ownsRow_base ho T5.out.le) (by decide)); have CD := hid hcd; obtain ⟨m0,m1,m2,m3⟩ := quad_cells T6.out.lb; have ml := lt_of_block T6.out.lb; obtain ⟨h0,h1,h2,h3,h4⟩ := fiveC T6.out.s; have fh := frz_of T6.out.s; have hl := lt_of_block T6.out.s; clear ho hcd hc hd)
  | (go_at_call 68; have q := DC.out (A + 2 + 2 + 2 + 2) _ (by omega) T5.out.cur; with_reducible refine q.mono ?_; clear q; intro e w7 hq; unfold CodeEd at hq; obtain ⟨gg,gc,its,rfl,ho,hcd,hc,hd⟩ := hq; have T6 := hid (T5.out.draw hd hc); have T6s := hid (T6.out.set (o := 2) (u := .slice (some ⟨gg,0,none⟩) its.length gc) (a' := .int .i64 (f : Int)) (b' := .int .i64 (g1 : Int)) (c' := .slice (some ⟨gg,0,none⟩) its.length gc) (d' := .int .i64 (-1)) (e' := .slice none 0 0) rfl); have O6 : Hid ((w7.setCell ⟨HS,2,none⟩ (.slice (some ⟨gg,0,none⟩) its.length gc)).ownsRow (w.heap.size + 1 + 1) 107 2 (.slice (some ⟨gg,0,none⟩) its.length gc) its.length (cellsI its)) := hid (set_own T6.out.s (ownsRow_base ho T5.out.le) (by decide)); have CD := hid hcd; obtain ⟨m0,m1,m2,m3⟩ := quad_cells T6.out.lb; have ml := lt_of_block T6.out.lb; obtain ⟨h0,h1,h2,h3,h4⟩ := fiveC T6.out.s; have fh := frz_of T6.out.s; have hl := lt_of_block T6.out.s; clear ho hcd hc hd)
  | (go_at_call 35; have q := DS.out (A + 2 + 2 + 2 + 2 + 2 + bud 3) _ (by first | omega | (simp only [bud]; omega)) T6s.out.cur; with_reducible refine q.mono ?_; clear q; intro e w8 hq; unfold StmsEd at hq; obtain ⟨av,sts,R,rfl,ho,hin,hlen,hok,hfo,hc,hd⟩ := hq; obtain ⟨va,vc,hav⟩ := hfo; subst hav; have T7 := hid (T6s.out.draw hd hc); have T7s := hid (T7.out.set (o := 4) (u := .slice va sts.length vc) (a' := .int .i64 (f : Int)) (b' := .int .i64 (g1 : Int)) (c' := .slice (some ⟨gg,0,none⟩) its.length gc) (d' := .int .i64 (tg : Int)) (e' := .slice va sts.length vc) rfl); have V7 : Hid (StmsV (w8.setCell ⟨HS,4,none⟩ (.slice va sts.length vc)) (w.heap.size + 1 + 1) (.slice va sts.length vc) sts) := hid (StmsV.set (StmsV.base (stmsV_mk ho hin) T6s.out.le) T7.out.s (by decide) (by decide)); have O7 : Hid ((w8.setCell ⟨HS,4,none⟩ (.slice va sts.length vc)).ownsRow (w.heap.size + 1 + 1) 107 2 (.slice (some ⟨gg,0,none⟩) its.length gc) its.length (cellsI its)) := hid (set_own T7.out.s (hd.own T6s.out.cur O6.out (by decide)) (by decide)); have OKS := hid (And.intro (Nat.le_trans hlen (show 3 ≤ 50 by omega)) hok); obtain ⟨h0,h1,h2,h3,h4⟩ := fiveC T7.out.s; have fh := frz_of T7.out.s; have hl := lt_of_block T7.out.s; obtain ⟨p0,p1,p2,p3,p4⟩ := fiveC T7.out.r; have fp := frz_of T7.out.r; have pl := lt_of_block T7.out.r; clear ho hin hlen hok hc hd)
  | (go_at_call 35; have q := DS.out (A + 2 + 2 + 2 + 2 + bud 3) _ (by first | omega | (simp only [bud]; omega)) T6s.out.cur; with_reducible refine q.mono ?_; clear q; intro e w8 hq; unfold StmsEd at hq; obtain ⟨av,sts,R,rfl,ho,hin,hlen,hok,hfo,hc,hd⟩ := hq; obtain ⟨va,vc,hav⟩ := hfo; subst hav; have T7 := hid (T6s.out.draw hd hc); have T7s := hid (T7.out.set (o := 4) (u := .slice va sts.length vc) (a' := .int .i64 (f : Int)) (b' := .int .i64 (g1 : Int)) (c' := .slice (some ⟨gg,0,none⟩) its.length gc) (d' := .int .i64 (-1)) (e' := .slice va sts.length vc) rfl); have V7 : Hid (StmsV (w8.setCell ⟨HS,4,none⟩ (.slice va sts.length vc)) (w.heap.size + 1 + 1) (.slice va sts.length vc) sts) := hid (StmsV.set (StmsV.base (stmsV_mk ho hin) T6s.out.le) T7.out.s (by decide) (by decide)); have O7 : Hid ((w8.setCell ⟨HS,4,none⟩ (.slice va sts.length vc)).ownsRow (w.heap.size + 1 + 1) 107 2 (.slice (some ⟨gg,0,none⟩) its.length gc) its.length (cellsI its)) := hid (set_own T7.out.s (hd.own T6s.out.cur O6.out (by decide)) (by decide)); have OKS := hid (And.intro (Nat.le_trans hlen (show 3 ≤ 50 by omega)) hok); obtain ⟨h0,h1,h2,h3,h4⟩ := fiveC T7.out.s; have fh := frz_of T7.out.s; have hl := lt_of_block T7.out.s; obtain ⟨p0,p1,p2,p3,p4⟩ := fiveC T7.out.r; have fp := frz_of T7.out.r; have pl := lt_of_block T7.out.r; clear ho hin hlen hok hc hd)
  | (go_at_call 35; have q := DS.out (A + 2 + 2 + 2 + 2 + 2) _ (by first | omega | (simp only [bud]; omega)) T5.out.cur; with_reducible refine q.mono ?_; clear q; intro e w8 hq; unfold StmsEd at hq; obtain ⟨av,sts,R,rfl,ho,hin,hlen,hok,hfo,hc,hd⟩ := hq; obtain ⟨va,vc,hav⟩ := hfo; subst hav; have T7 := hid (T5.out.draw hd hc); have T7s := hid (T7.out.set (o := 4) (u := .slice va sts.length vc) (a' := .int .i64 (f : Int)) (b' := .int .i64 (g1 : Int)) (c' := .slice none 0 0) (d' := .int .i64 (tg : Int)) (e' := .slice va sts.length vc) rfl); have V7 : Hid (StmsV (w8.setCell ⟨HS,4,none⟩ (.slice va sts.length vc)) (w.heap.size + 1 + 1) (.slice va sts.length vc) sts) := hid (StmsV.set (StmsV.base (stmsV_mk ho hin) T5.out.le) T7.out.s (by decide) (by decide)); have OKS := hid (And.intro (Nat.le_trans hlen (show 3 ≤ 50 by omega)) hok); obtain ⟨h0,h1,h2,h3,h4⟩ := fiveC T7.out.s; have fh := frz_of T7.out.s; have hl := lt_of_block T7.out.s; obtain ⟨p0,p1,p2,p3,p4⟩ := fiveC T7.out.r; have fp := frz_of T7.out.r; have pl := lt_of_block T7.out.r; clear ho hin hlen hok hc hd)
  | (go_at_call 35; have q := DS.out (A + 2 + 2 + 2 + 2) _ (by first | omega | (simp only [bud]; omega)) T5.out.cur; with_reducible refine q.mono ?_; clear q; intro e w8 hq; unfold StmsEd at hq; obtain ⟨av,sts,R,rfl,ho,hin,hlen,hok,hfo,hc,hd⟩ := hq; obtain ⟨va,vc,hav⟩ := hfo; subst hav; have T7 := hid (T5.out.draw hd hc); have T7s := hid (T7.out.set (o := 4) (u := .slice va sts.length vc) (a' := .int .i64 (f : Int)) (b' := .int .i64 (g1 : Int)) (c' := .slice none 0 0) (d' := .int .i64 (-1)) (e' := .slice va sts.length vc) rfl); have V7 : Hid (StmsV (w8.setCell ⟨HS,4,none⟩ (.slice va sts.length vc)) (w.heap.size + 1 + 1) (.slice va sts.length vc) sts) := hid (StmsV.set (StmsV.base (stmsV_mk ho hin) T5.out.le) T7.out.s (by decide) (by decide)); have OKS := hid (And.intro (Nat.le_trans hlen (show 3 ≤ 50 by omega)) hok); obtain ⟨h0,h1,h2,h3,h4⟩ := fiveC T7.out.s; have fh := frz_of T7.out.s; have hl := lt_of_block T7.out.s; obtain ⟨p0,p1,p2,p3,p4⟩ := fiveC T7.out.r; have fp := frz_of T7.out.r; have pl := lt_of_block T7.out.r; clear ho hin hlen hok hc hd))
 ·rename_i h2y _ _ _ _ _ _ _
  obtain ⟨⟨⟨⟨⟨⟨⟨_,a0⟩,a1⟩,a2⟩,a3⟩,a4⟩,a5⟩,a6⟩ := T7s.out.cur.fact
  have z0 : 0 < z := by omega
  have y2 : y = 2 := by
   simp at h2y
   omega
  have hF := transF_tc a0 a1 a2 a3 a4 a5 a6 z0 y2
  obtain ⟨c0,c1,c2,c3,c4⟩ := fiveC (set5r (a := .int .i64 (f : Int)) (b := .int .i64 (g1 : Int)) (c := .slice (some ⟨gg,0,none⟩) its.length gc) (d := .int .i64 (tg : Int)) (e := .slice va sts.length vc) T7s.out.r)
  refine bodyPost_ret (v := .agg #[.int .i64 (f : Int),.int .i64 (g1 : Int),.slice (some ⟨gg,0,none⟩) its.length gc,.int .i64 (tg : Int),.slice va sts.length vc]) (by simp [results,Tryz.results36,go_sem,c0,c1,c2,c3,c4]) rfl ?_
  exact T7s.out.ret H0.out.fact hF O7.out V7.out (by simp only [bud]; omega) (okTr_of (by omega) ⟨by omega,sgn⟩ (by omega) (grd_code (CD.out.ok (by omega) (by decide))) HL.out OKS.out) ⟨_,_,_,rfl⟩ ⟨_,_,_,rfl⟩
 ·rename_i h2y
  obtain ⟨⟨⟨⟨⟨⟨_,a0⟩,a1⟩,a2⟩,a3⟩,a4⟩,a5⟩ := T7s.out.cur.fact
  have z0 : 0 < z := by omega
  have y2 : ¬ y = 2 := by
   simp at h2y
   omega
  have hF := transF_t a0 a1 a2 a3 a4 a5 z0 y2
  obtain ⟨c0,c1,c2,c3,c4⟩ := fiveC (set5r (a := .int .i64 (f : Int)) (b := .int .i64 (g1 : Int)) (c := .slice none 0 0) (d := .int .i64 (tg : Int)) (e := .slice va sts.length vc) T7s.out.r)
  refine bodyPost_ret (v := .agg #[.int .i64 (f : Int),.int .i64 (g1 : Int),.slice none 0 0,.int .i64 (tg : Int),.slice va sts.length vc]) (by simp [results,Tryz.results36,go_sem,c0,c1,c2,c3,c4]) rfl ?_
  exact T7s.out.ret H0.out.fact hF (codeV_nil _ _) V7.out (by omega) (okTr_of (by omega) ⟨by omega,sgn⟩ (by omega) (grd_nil _) HL.out OKS.out) ⟨_,_,_,rfl⟩ ⟨_,_,_,rfl⟩
 ·rename_i h2y _ _ _ _ _ _ _
  obtain ⟨⟨⟨⟨⟨⟨_,a0⟩,a1⟩,a2⟩,a3⟩,a4⟩,a5⟩ := T7s.out.cur.fact
  have z0 : ¬ 0 < z := by omega
  have y2 : y = 2 := by
   simp at h2y
   omega
  have hF := transF_c a0 a1 a2 a3 a4 a5 z0 y2
  obtain ⟨c0,c1,c2,c3,c4⟩ := fiveC (set5r (a := .int .i64 (f : Int)) (b := .int .i64 (g1 : Int)) (c := .slice (some ⟨gg,0,none⟩) its.length gc) (d := .int .i64 (-1)) (e := .slice va sts.length vc) T7s.out.r)
  refine bodyPost_ret (v := .agg #[.int .i64 (f : Int),.int .i64 (g1 : Int),.slice (some ⟨gg,0,none⟩) its.length gc,.int .i64 (-1),.slice va sts.length vc]) (by simp [results,Tryz.results36,go_sem,c0,c1,c2,c3,c4]) rfl ?_
  exact T7s.out.ret H0.out.fact hF O7.out V7.out (by simp only [bud]; omega) (okTr_of (by omega) ⟨by omega,sgn⟩ (by omega) (grd_code (CD.out.ok (by omega) (by decide))) HL.out OKS.out) ⟨_,_,_,rfl⟩ ⟨_,_,_,rfl⟩
 ·rename_i h2y
  obtain ⟨⟨⟨⟨⟨_,a0⟩,a1⟩,a2⟩,a3⟩,a4⟩ := T7s.out.cur.fact
  have z0 : ¬ 0 < z := by omega
  have y2 : ¬ y = 2 := by
   simp at h2y
   omega
  have hF := transF_o a0 a1 a2 a3 a4 z0 y2
  obtain ⟨c0,c1,c2,c3,c4⟩ := fiveC (set5r (a := .int .i64 (f : Int)) (b := .int .i64 (g1 : Int)) (c := .slice none 0 0) (d := .int .i64 (-1)) (e := .slice va sts.length vc) T7s.out.r)
  refine bodyPost_ret (v := .agg #[.int .i64 (f : Int),.int .i64 (g1 : Int),.slice none 0 0,.int .i64 (-1),.slice va sts.length vc]) (by simp [results,Tryz.results36,go_sem,c0,c1,c2,c3,c4]) rfl ?_
  exact T7s.out.ret H0.out.fact hF (codeV_nil _ _) V7.out (by omega) (okTr_of (by omega) ⟨by omega,sgn⟩ (by omega) (grd_nil _) HL.out OKS.out) ⟨_,_,_,rfl⟩ ⟨_,_,_,rfl⟩
end Go.Proofs.YtkdgkomnbjepdaaGreatDoor

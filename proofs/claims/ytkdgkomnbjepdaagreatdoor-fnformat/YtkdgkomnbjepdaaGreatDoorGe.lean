import Derived.Test.YtkdgkomnbjepdaaGreatDoorGa
import Derived.Deep.RegionHeld3
import Derived.OrdersHeld
import Derived.Test.YtkdgkomnbjepdaaGreatDoorDg13
import Derived.Test.YtkdgkomnbjepdaaGreatDoorOa
import Derived.Laws.OwnMore
namespace Go.Proofs.YtkdgkomnbjepdaaGreatDoor
open Go.RowKit Go.Sort
set_option linter.unusedVariables false
attribute [local go_sem ↓] Go.wp_at_zero Go.wp_at_succ
abbrev vint (l : List Int) : List Value := l.map (Value.int .i64)
structure BkI (w : World) (cb : Nat) (co : Option Addr) (n cap A : Nat) (kv vv : Value) (ks vs : List Int) (X : World) (σ : Cs) (F : Prop) : Prop where
 cur : Cur X cb co n cap A σ F
 dw : Dw cb w X
 r : X.heap[w.heap.size]? = some (.cells #[.slice none 0 0,.slice none 0 0] 60 (0,0))
 b : X.heap[w.heap.size + 1]? = some (.cells #[kv,vv] 60 (0,0))
 k : X.ownsRow (w.heap.size + 1 + 1) 3 1 kv ks.length (vint ks)
 v : X.ownsRow (w.heap.size + 1 + 1) 3 1 vv vs.length (vint vs)
 ne : ∀ q,kv.ownBlock = some q → vv.ownBlock ≠ some q
 cb0 : cb < w.heap.size
 g0 : 0 < n → ∀ g o,co = some ⟨g,o,none⟩ → g < w.heap.size
section
variable {w : World} {cb : Nat} {co : Option Addr} {n cap A A' : Nat} {kv vv : Value} {ks vs : List Int} {X Y : World} {σ τ : Cs} {F G : Prop}
theorem BkI.draw (h : BkI w cb co n cap A kv vv ks vs X σ F) (hd : Dw cb X Y) (hc : Cur Y cb co n cap A' τ G) : BkI w cb co n cap A' kv vv ks vs Y τ G :=
 ⟨hc,h.dw.trans hd,hd.at h.r (by have := h.cb0; omega),hd.at h.b (by have := h.cb0; omega),hd.own h.cur h.k (by decide),hd.own h.cur h.v (by decide),h.ne,h.cb0,h.g0⟩
theorem BkI.below (h : BkI w cb co n cap A kv vv ks vs X σ F) (hb : Below X.heap.size X Y) : BkI w cb co n cap A kv vv ks vs Y σ F :=
 ⟨h.cur.below hb,h.dw.trans (Below.toP hb),block_below h.r hb,block_below h.b hb,ownsRow_below h.k hb,ownsRow_below h.v hb,h.ne,h.cb0,h.g0⟩
theorem BkI.only {P : Nat → Prop} (h : BkI w cb co n cap A kv vv ks vs X σ F) (hP : OnlyP P X Y) (h1 : ∀ q,P q → w.heap.size + 1 ≤ q) : Cur Y cb co n cap A σ F ∧ Dw cb w Y := by
 have c0 := h.cb0
 refine ⟨h.cur.only hP (fun e => by have := h1 cb e; omega) (fun hn g o e e2 => by have := h.g0 hn g o e; have := h1 g e2; omega),⟨hP.os.trans h.dw.os,hP.tape.trans h.dw.tape,hP.output.trans h.dw.output,Nat.le_trans h.dw.size hP.size,fun q hq hn => (hP.block q (Nat.lt_of_lt_of_le hq h.dw.size) (fun e => by have := h1 q e; omega)).trans (h.dw.block q hq hn)⟩⟩
theorem BkI.addK {v' : Value} {x : Int} (h : BkI w cb co n cap A kv vv ks vs X σ F) (hg : X.grownBy Y kv.ownBlock) (ho : Y.ownsRow (w.heap.size + 1 + 1) 3 1 v' (ks.length + 1) (vint (ks ++ [x]))) (hat : ∀ q,v'.ownBlock = some q → kv.ownBlock = some q ∨ X.heap.size ≤ q) : BkI w cb co n cap A v' vv (ks ++ [x]) vs (Y.setCell ⟨w.heap.size + 1,0,none⟩ v') σ F := by
 have gP := grP hg
 have bY := (gP.block _ (lt_of_block h.b) (fun e => own_far h.k (by decide) h.b e)).trans h.b
 have sP : OnlyP (fun q => q = w.heap.size + 1) Y (Y.setCell ⟨w.heap.size + 1,0,none⟩ v') := OnlyP.set _ rfl
 have aP : OnlyP (fun q => w.heap.size + 1 ≤ q) X (Y.setCell ⟨w.heap.size + 1,0,none⟩ v') := (gP.mono (fun q e => by have := (h.k.lt q e).1; omega)).trans (sP.mono (fun q e => by omega))
 obtain ⟨hc,hd⟩ := h.only aP (fun q e => e)
 have no : ∀ {u : Value} {m : Nat} {xs : List Value} {Z : World},Z.ownsRow (w.heap.size + 1 + 1) 3 1 u m xs → ∀ q,u.ownBlock = some q → ¬ q = w.heap.size + 1 := fun hu q e e2 => by have := (hu.lt q e).1; omega
 refine ⟨hc,hd,(aP.block _ (lt_of_block h.r) (by omega)).trans h.r,by rw [heap_setCell_same Y _ 0 _ _ v' bY]; rfl,sP.own (by simpa using ho) (no ho),sP.own (gP.own h.v (fun q e e2 => h.ne q e2 e)) (no h.v),fun q e e2 => ?_,h.cb0,h.g0⟩
 rcases hat q e with h1 | h1
 ·exact h.ne q h1 e2
 ·have := (h.v.lt q e2).2; omega
theorem BkI.addV {v' : Value} {x : Int} (h : BkI w cb co n cap A kv vv ks vs X σ F) (hg : X.grownBy Y vv.ownBlock) (ho : Y.ownsRow (w.heap.size + 1 + 1) 3 1 v' (vs.length + 1) (vint (vs ++ [x]))) (hat : ∀ q,v'.ownBlock = some q → vv.ownBlock = some q ∨ X.heap.size ≤ q) : BkI w cb co n cap A kv v' ks (vs ++ [x]) (Y.setCell ⟨w.heap.size + 1,1,none⟩ v') σ F := by
 have gP := grP hg
 have bY := (gP.block _ (lt_of_block h.b) (fun e => own_far h.v (by decide) h.b e)).trans h.b
 have sP : OnlyP (fun q => q = w.heap.size + 1) Y (Y.setCell ⟨w.heap.size + 1,1,none⟩ v') := OnlyP.set _ rfl
 have aP : OnlyP (fun q => w.heap.size + 1 ≤ q) X (Y.setCell ⟨w.heap.size + 1,1,none⟩ v') := (gP.mono (fun q e => by have := (h.v.lt q e).1; omega)).trans (sP.mono (fun q e => by omega))
 obtain ⟨hc,hd⟩ := h.only aP (fun q e => e)
 have no : ∀ {u : Value} {m : Nat} {xs : List Value} {Z : World},Z.ownsRow (w.heap.size + 1 + 1) 3 1 u m xs → ∀ q,u.ownBlock = some q → ¬ q = w.heap.size + 1 := fun hu q e e2 => by have := (hu.lt q e).1; omega
 refine ⟨hc,hd,(aP.block _ (lt_of_block h.r) (by omega)).trans h.r,by rw [heap_setCell_same Y _ 1 _ _ v' bY]; rfl,sP.own (gP.own h.k (fun q e e2 => h.ne q e e2)) (no h.k),sP.own (by simpa using ho) (no ho),fun q e e2 => ?_,h.cb0,h.g0⟩
 rcases hat q e2 with h1 | h1
 ·exact h.ne q e h1
 ·have := (h.k.lt q e).2; omega
theorem bk_start (h : Cur w cb co n cap A σ F) : BkI w cb co n cap A (.slice none 0 0) (.slice none 0 0) [] [] ((w.alloc (.cells #[.slice none 0 0,.slice none 0 0] 60)).alloc (.cells #[.slice none 0 0,.slice none 0 0] 60)) σ F := by
 have h2 := heap_alloc_new (w.alloc (.cells #[.slice none 0 0,.slice none 0 0] 60)) (.cells #[.slice none 0 0,.slice none 0 0] 60)
 simp only [World.size_alloc] at h2
 exact ⟨h.below (below2 _ _ _),(dw_alloc _ _ _).trans (dw_alloc _ _ _),block_below (heap_alloc_new w _) (below1 _ _),h2,World.ownsRow_nil _ _ _ _,World.ownsRow_nil _ _ _ _,fun q e => by simp [Value.ownBlock] at e,h.lt,h.code_lt⟩
end
def BankD (ks vs : List Int) : Prop := ks.length = vs.length ∧ ∀ i,i < ks.length → (1 ≤ ks.getD i 0 ∧ ks.getD i 0 ≤ 7) ∧ ∃ z,J64 z ∧ vs.getD i 0 = conv (ks.getD i 0) z
def bankL (n : Nat) : Nat → Cs → (List Int × List Int) × Cs
 | 0,σ => (([],[]),σ)
 | k + 1,σ =>
  let p := bankL n k σ
  let x := pickF n 7 p.2
  let z := intF n x.2
  ((p.1.1 ++ [1 + (x.1 : Int)],p.1.2 ++ [conv (1 + (x.1 : Int)) z.1]),z.2)
def bankF (n : Nat) (σ : Cs) : (List Int × List Int) × Cs := bankL n (4 - (pickF n 5 σ).1) (pickF n 5 σ).2
theorem bankL_step {n k x : Nat} {z : Int} {ks vs : List Int} {σ : Cs} (h1 : ks = (bankL n k σ).1.1) (h2 : vs = (bankL n k σ).1.2) (hx : x = (pickF n 7 (bankL n k σ).2).1) (hz : z = (intF n (pickF n 7 (bankL n k σ).2).2).1) : bankL n (k + 1) σ = ((ks ++ [1 + (x : Int)],vs ++ [conv (1 + (x : Int)) z]),(intF n (pickF n 7 (bankL n k σ).2).2).2) := by
 rw [bankL]
 simp only [← h1,← h2,← hx,← hz]
def BankEd (w w' : World) (cb : Nat) (co : Option Addr) (n cap A : Nat) (F : (List Int × List Int) × Cs) (P : Prop) (e : Ending) : Prop := ∃ (kv vv : Value) (ks vs : List Int),e = .returned (.agg #[kv,vv]) ∧ w'.ownsRow w.heap.size 3 1 kv ks.length (vint ks) ∧ w'.ownsRow w.heap.size 3 1 vv vs.length (vint vs) ∧ (∀ q,kv.ownBlock = some q → vv.ownBlock ≠ some q) ∧ BankD ks vs ∧ ks.length ≤ 4 ∧ Cur w' cb co n cap A F.2 (P ∧ ks = F.1.1 ∧ vs = F.1.2) ∧ Dw cb w w'
end Go.Proofs.YtkdgkomnbjepdaaGreatDoor
namespace Go.Proofs.YtkdgkomnbjepdaaGreatDoor
open Go.RowKit Go.Sort
set_option linter.unusedVariables false
attribute [local go_sem ↓] Go.wp_at_zero Go.wp_at_succ
theorem BankD.snoc {ks vs : List Int} {x z : Int} (h : BankD ks vs) (hx : 1 ≤ x ∧ x ≤ 7) (hz : J64 z) : BankD (ks ++ [x]) (vs ++ [conv x z]) := by
 have ge : ∀ (l : List Int) (y : Int) (i : Nat),(l ++ [y]).getD i 0 = if i < l.length then l.getD i 0 else if i = l.length then y else 0 := fun l y i => by
  by_cases h : i < l.length
  ·rw [if_pos h]; simp [List.getD_eq_getElem?_getD,List.getElem?_append_left h]
  ·rw [if_neg h]
   by_cases e : i = l.length
   ·subst e; simp
   ·rw [if_neg e,List.getD_eq_getElem?_getD,List.getElem?_eq_none (by simp; omega)]; rfl
 refine ⟨by simp [h.1],fun i hi => ?_⟩
 rw [ge,ge,← h.1]
 by_cases hl : i < ks.length
 ·rw [if_pos hl,if_pos hl]; exact h.2 i hl
 ·obtain rfl : i = ks.length := by simp at hi; omega
  rw [if_neg hl,if_neg hl,if_pos rfl,if_pos rfl]; exact ⟨hx,z,hz,rfl⟩
theorem at_newb {lv v' : Value} {g n cap N H : Nat} (hv : v' = .slice (some ⟨g,0,none⟩) n cap) (hat : lv.ownBlock = some g ∨ g = H) (hH : N ≤ H) : ∀ b,v'.ownBlock = some b → lv.ownBlock = some b ∨ N ≤ b := fun b e => by
 subst hv
 simp [Value.ownBlock] at e
 subst e
 rcases hat with h | h
 ·exact .inl h
 ·exact .inr (by omega)
set_option maxRecDepth 100000 in
set_option maxHeartbeats 16000000 in
theorem drawBank_any (cb : Nat) (co : Option Addr) (n cap A : Nat) {σ : Cs} {PP : Prop} (w : World) (hA : A ≤ 80000000) (h : Cur w cb co n cap A σ PP) :
  Calls Tryz.prog 20 #[.pointer (some ⟨cb,0,none⟩)] w fun e w' => BankEd w w' cb co n cap (A + 100) (bankF n σ) PP e := by
 have H0 := hid h
 have S0 := hid (bk_start h)
 have P5 := hid (pick_any cb co n cap A 5 (by omega) _ (by omega) S0.out.cur)
 have P7 := hid (fun B w' (hB : B ≤ 10000000000) {τ : Cs} {Q : Prop} (h' : Cur w' cb co n cap B τ Q) => pick_any cb co n cap B 7 (by omega) w' (by omega) h')
 have DI := hid (fun B w' (hB : B ≤ 10000000000) {τ : Cs} {Q : Prop} (h' : Cur w' cb co n cap B τ Q) => drawInt_any cb co n cap B w' hB h')
 obtain ⟨i0,hi0,hz0,hz1,hz2⟩ := info_parts Tryz.infoInt0
 clear h
 go_enter Tryz.func20,Tryz.ntmps20
 go_wp2_with (go_at_call 19; refine P5.out.mono ?_; rintro e w1 ⟨r,rfl,hr,hc,hd⟩; have r5 : r < 5 := (by omega); have S1 := hid (S0.out.draw hd hc); clear hc hd hr)
 obtain ⟨m,hm⟩ : ∃ m : Nat,(4 : Int) - r = m := ⟨4 - r,by omega⟩
 have m4 : m ≤ 4 := by omega
 have HM : Hid (m = 4 - r) := hid (by omega)
 rw [hm]
 clear hm r5
 go_loopg [5] m (fun mm i X => ∃ (k : Nat) (kv vv : Value) (ks vs : List Int),k ≤ m ∧ mm = m - k ∧ i = .int .i64 k ∧ ks.length = k ∧ BankD ks vs ∧ BkI w cb co n cap (A + 2 + k * 20) kv vv ks vs X (bankL n k (pickF n 5 σ).2).2 (PP ∧ r = (pickF n 5 σ).1 ∧ ks = (bankL n k (pickF n 5 σ).2).1.1 ∧ vs = (bankL n k (pickF n 5 σ).2).1.2))
 case atStart => exact ⟨0,_,_,[],[],by omega,by omega,rfl,rfl,⟨rfl,fun i hi => absurd hi (by simp)⟩,⟨S1.out.cur.with ⟨S1.out.cur.fact.1,S1.out.cur.fact.2,rfl,rfl⟩,S1.out.dw,S1.out.r,S1.out.b,S1.out.k,S1.out.v,S1.out.ne,S1.out.cb0,S1.out.g0⟩⟩
 case round =>
  obtain ⟨k,kv,vv,ks,vs,hk,rfl,rfl,hlen,hB,hI⟩ := hrel
  have I := hid hI
  have HB := hid hB
  have HLn := hid hlen
  by_cases hlt : k < m
  ·have ki : (k : Int) < (m : Int) := by omega
   obtain ⟨ka,kc,hkv⟩ := own_any hI.k
   obtain ⟨va,vc,hvv⟩ := own_any hI.v
   subst hkv
   subst hvv
   have kl : ks.length ≤ 4 := by omega
   have vl : vs.length ≤ 4 := by rw [← hB.1]; omega
   have PK := hid (P7.out (A + 2 + k * 20) wr (by omega) hI.cur)
   clear hI hB hlen
   go_upto_region 8 with (first
    | (go_at_call 19; have q := PK.out; with_reducible refine q.mono ?_; clear q; rintro e w2 ⟨x,rfl,hx,hc,hd⟩; have x7 : x < 7 := (by omega); have I2 := hid (I.out.draw hd hc); have IA := hid (I2.out.below (below1 w2 (.cells #[.int .i64 (1 + (x : Int))] 3))); have NW := hid (World.news_of_block (heap_alloc_new w2 (.cells #[.int .i64 (1 + (x : Int))] 3))); obtain ⟨b0,b1,b2,b3⟩ := pair_cells I2.out.b; have bl := lt_of_block I2.out.b; clear hc hd hx)
    | (at_builtin; refine wpList_append_lies _ rfl (.tmp 20) (.tmp 22) 58 rfl (w.heap.size + 1 + 1) 3 i0 _ 1 8 Tryz.underlying58 hi0 hz0 hz1 hz2 rfl (by decide) (.slice ka ks.length kc) ks.length (vint ks) rfl IA.out.k ⟨w2.heap.size,0,none⟩ 1 1 [.int .i64 (1 + (x : Int))] rfl rfl NW.out (by intro u hu; simp at hu; subst hu; rfl) (by omega) (by unfold maxLen; omega) (by omega) (by have := lt_of_block IA.out.b; omega) (w2.heap.size + 1) (by simp) ?_; intro g3 cap3 w3 hown hgrow hat3 _; have X3 := (hgrow.block _ (lt_of_block IA.out.b) (fun e => own_far IA.out.k (by decide) IA.out.b e.symm)).trans IA.out.b; obtain ⟨q0,q1,q2,q3⟩ := pair_cells X3; have ql := lt_of_block X3; have I3 := hid (BkI.addK (x := 1 + (x : Int)) IA.out hgrow (by simpa using hown) (at_newb rfl hat3 (by simp))); clear hown hgrow hat3 X3))
   obtain ⟨W,hW⟩ : ∃ W,W = w3.setCell ⟨w.heap.size + 1,0,none⟩ (.slice (some ⟨g3,0,none⟩) (ks.length + 1) cap3) := ⟨_,rfl⟩
   rw [← hW] at I3 ⊢
   obtain ⟨y0,y1,y2,y3⟩ := pair_cells I3.out.b
   have yl := lt_of_block I3.out.b
   have ID := hid (I3.out.below ((Below.refl _ _).drew))
   have DK := hid (DI.out (A + 2 + k * 20 + 2) _ (by omega) ID.out.cur)
   have CV := hid (fun z w' => l1Conv_any (1 + (x : Int)) z w' (by omega) (by omega))
   clear hW q0 q1 q2 q3 ql b0 b1 b2 b3 bl IA NW
   go_region_law
    (first
     | (refine step_append_lies _ (by rfl) _ _ _ (by rfl) (w.heap.size + 1 + 1) 3 i0 _ 1 8 Tryz.underlying58 hi0 hz0 hz1 hz2 rfl (by omega) (.slice va vs.length vc) vs.length (vint vs) (by simp [Act.eval]) IB.out.v ⟨w5.heap.size,0,none⟩ 1 1 [.int .i64 cz] (by simp [Act.eval]) (by simp) NW.out (by intro u hu; simp at hu; subst hu; rfl) (by omega) (by unfold maxLen; omega) (by omega) (by have := lt_of_block IB.out.b; omega) (w5.heap.size + 1) (by simp) ?_; intro g6 cap6 w6 hown hgrow hat6 _; have X6 := (hgrow.block _ (lt_of_block IB.out.b) (fun e => own_far IB.out.v (by decide) IB.out.b e.symm)).trans IB.out.b; obtain ⟨q0,q1,q2,q3⟩ := pair_cells X6; have ql := lt_of_block X6; have I6 := hid (BkI.addV (x := cz) IB.out hgrow (by simpa using hown) (at_newb rfl hat6 (by simp))); clear hown hgrow hat6 X6)
     | (go_simp; go_wp2_with (first
       | (go_at_call 34; refine DK.out.mono ?_; rintro e w4 ⟨z,rfl,hz,hc,hd⟩; have I4 := hid (ID.out.draw hd hc); have HZ := hid hz; obtain ⟨u0,u1,u2,u3⟩ := pair_cells I4.out.b; have ul := lt_of_block I4.out.b; clear hc hd hz)
       | (go_at_call 33; refine (CV.out z _).mono ?_; rintro e w5 ⟨rfl,hb⟩; have I5 := hid (I4.out.below hb); obtain ⟨cz,hcz⟩ : ∃ c,c = conv (1 + (x : Int)) z := ⟨_,rfl⟩; rw [← hcz]; have HCZ := hid hcz; have IB := hid (I5.out.below (below1 w5 (.cells #[.int .i64 cz] 3))); have NW := hid (World.news_of_block (heap_alloc_new w5 (.cells #[.int .i64 cz] 3))); obtain ⟨v0,v1,v2,v3⟩ := pair_cells I5.out.b; have vl5 := lt_of_block I5.out.b; clear hb hcz))))
   all_goals
    go_wp2_with fail
    go_roundg (m - (k + 1))
    case measure => omega
    case rel => exact ⟨k + 1,_,_,ks ++ [1 + (x : Int)],vs ++ [cz],by omega,rfl,by go_num,by simp [HLn.out],by rw [HCZ.out]; exact HB.out.snoc (by omega) HZ.out,⟨by rw [bankL_step I6.out.cur.fact.1.1.2.2.1 I6.out.cur.fact.1.1.2.2.2 I6.out.cur.fact.1.2 I6.out.cur.fact.2,HCZ.out]; exact (I6.out.cur.mono (by omega)).with ⟨I6.out.cur.fact.1.1.1,I6.out.cur.fact.1.1.2.1,rfl,rfl⟩,I6.out.dw,I6.out.r,I6.out.b,I6.out.k,I6.out.v,I6.out.ne,I6.out.cb0,I6.out.g0⟩⟩
  ·obtain rfl : k = m := by omega
   obtain ⟨ka,kc,hkv⟩ := own_any hI.k
   obtain ⟨va,vc,hvv⟩ := own_any hI.v
   subst hkv
   subst hvv
   obtain ⟨b0,b1,b2,b3⟩ := pair_cells hI.b
   have bl := lt_of_block hI.b
   obtain ⟨r0,r1,r2,r3⟩ := pair_cells hI.r
   have rl := lt_of_block hI.r
   clear hI hB hlen
   go_wp2_with fail
   have hP : OnlyP (fun q => q = w.heap.size) wr ((wr.setCell ⟨w.heap.size,0,none⟩ (.slice ka ks.length kc)).setCell ⟨w.heap.size,1,none⟩ (.slice va vs.length vc)) := OnlyP.trans (OnlyP.set (P := fun q => q = w.heap.size) _ rfl) (OnlyP.set (P := fun q => q = w.heap.size) _ rfl)
   have m1 := heap_setCell_same wr w.heap.size 0 _ _ (.slice ka ks.length kc) I.out.r
   have m2 := heap_setCell_same _ w.heap.size 1 _ _ (.slice va vs.length vc) m1
   have m3 : ((wr.setCell ⟨w.heap.size,0,none⟩ (.slice ka ks.length kc)).setCell ⟨w.heap.size,1,none⟩ (.slice va vs.length vc)).heap[w.heap.size]? = some (.cells #[.slice ka ks.length kc,.slice va vs.length vc] 60 (0,0)) := by rw [m2]; simp
   obtain ⟨c0,c1,_,_⟩ := pair_cells m3
   refine bodyPost_ret (v := .agg #[.slice ka ks.length kc,.slice va vs.length vc]) (by simp [results,Tryz.results20,go_sem,c0,c1]) rfl ?_
   have z0 := I.out.cb0
   refine ⟨_,_,ks,vs,rfl,ownsRow_base (hP.own I.out.k (fun q e e2 => by have := (I.out.k.lt q e).1; omega)) (by omega),ownsRow_base (hP.own I.out.v (fun q e e2 => by have := (I.out.v.lt q e).1; omega)) (by omega),I.out.ne,HB.out,by rw [HLn.out]; exact m4,by have e1 : bankF n σ = bankL n k (pickF n 5 σ).2 := (by unfold bankF; rw [HM.out,I.out.cur.fact.2.1]); rw [e1]; exact ((I.out.cur.only hP (by omega) (fun hn g o e e2 => by have := I.out.g0 hn g o e; omega)).mono (by omega)).with ⟨I.out.cur.fact.1,I.out.cur.fact.2.2⟩,⟨hP.os.trans I.out.dw.os,hP.tape.trans I.out.dw.tape,hP.output.trans I.out.dw.output,Nat.le_trans I.out.dw.size hP.size,fun q hq hn => (hP.block q (Nat.lt_of_lt_of_le hq I.out.dw.size) (by omega)).trans (I.out.dw.block q hq hn)⟩⟩
end Go.Proofs.YtkdgkomnbjepdaaGreatDoor
namespace Go.Proofs.YtkdgkomnbjepdaaGreatDoor
open Go.RowKit Go.Sort
set_option linter.unusedVariables false
attribute [local go_sem ↓] Go.wp_at_zero Go.wp_at_succ
theorem own_read {X : World} {B : Nat} {e : TypeId} {size : Nat} {v : Value} {n : Nat} {xs : List Value} (h : X.ownsRow B e size v n xs) : ∃ ao c,v = .slice ao n c ∧ n ≤ c ∧ n ≤ 9223372036854775807 ∧ (0 < n → ∃ b off,ao = some ⟨b,off,none⟩ ∧ b < X.heap.size ∧ ∀ j,j < n * size → X.cell? ⟨b,off + j,none⟩ = xs[j]?) := by
 rcases h.2 with ⟨e0,rfl⟩ | ⟨g,cap,cur,e0,hb,hh,hnc,hcm,hcs,ht⟩
 ·exact ⟨none,0,e0,Nat.le_refl _,by omega,fun h => absurd h (by omega)⟩
 ·refine ⟨_,cap,e0,hnc,by unfold maxLen at hcm; omega,fun _ => ⟨g,0,rfl,lt_of_block hh,fun j hj => ?_⟩⟩
  rw [Nat.zero_add,cell_of_row X g j cur e (0,0) hh,← ht,List.getElem?_take,if_pos hj]
  simp
theorem slice_own {X : World} {B : Nat} {v : Value} {zs : List Int} (h : X.ownsRow B 3 1 v zs.length (vint zs)) : ∃ ao c,v = .slice ao zs.length c ∧ zs.length ≤ c ∧ zs.length ≤ 9223372036854775807 ∧ SliceOf X ao zs.length zs := by
 obtain ⟨ao,c,e,h1,h2,h3⟩ := own_read h
 refine ⟨ao,c,e,h1,h2,rfl,fun h0 => ?_⟩
 obtain ⟨b,off,e1,hl,hc⟩ := h3 h0
 refine ⟨b,off,e1,hl,fun i hi => ?_⟩
 rw [hc i (by omega)]
 simp [vint,List.getD_eq_getElem?_getD,hi]
theorem cellsI_at : ∀ (its : List (Int × Int)) (i : Nat),i < its.length → (cellsI its)[i * 2]? = some (.int .i64 (its.getD i (0,0)).1) ∧ (cellsI its)[i * 2 + 1]? = some (.int .i64 (its.getD i (0,0)).2)
 | [],i,h => absurd h (by simp)
 | p :: r,0,_ => by simp [cellsI]
 | p :: r,i + 1,h => by
  have ih := cellsI_at r i (by simpa using h)
  have e : cellsI (p :: r) = .int .i64 p.1 :: .int .i64 p.2 :: cellsI r := by simp [cellsI]
  rw [e,show (i + 1) * 2 = i * 2 + 1 + 1 by omega]
  simpa using ih
theorem code_read {X : World} {B : Nat} {v : Value} {its : List (Int × Int)} (h : CodeV X B v its) : ∃ ao c,v = .slice ao its.length c ∧ its.length ≤ 9223372036854775807 ∧ ItemsOf X ao its.length its := by
 obtain ⟨ao,c,e,h1,h2,h3⟩ := own_read h
 refine ⟨ao,c,e,h2,rfl,fun h0 => ?_⟩
 obtain ⟨b,off,e1,hl,hc⟩ := h3 h0
 refine ⟨b,off,e1,hl,fun i hi => ?_⟩
 obtain ⟨c1,c2⟩ := cellsI_at its i hi
 refine ⟨(hc (i * 2) (by omega)).trans c1,?_⟩
 rw [Nat.add_assoc]
 exact (hc (i * 2 + 1) (by omega)).trans c2
theorem flatK {k : Nat} {R : List (List Value)} (hl : ∀ i,i < R.length → (R.getD i []).length = k) : ∀ {i j : Nat},i < R.length → j < k → R.flatten[i * k + j]? = (R.getD i [])[j]? := by
 induction R with
 | nil => intro i j hi; simp at hi
 | cons c r ih =>
  intro i j hi hj
  have hc : c.length = k := hl 0 (by simp)
  cases i with
  | zero => simp only [List.flatten_cons,List.getD_cons_zero,Nat.zero_mul,Nat.zero_add]; rw [List.getElem?_append_left (by omega)]
  | succ i =>
   have hr := ih (fun k' hk => by have := hl (k' + 1) (by simp; omega); simpa using this) (i := i) (j := j) (by simpa using hi) hj
   simp only [List.flatten_cons,List.getD_cons_succ]
   rw [List.getElem?_append_right (by rw [hc,Nat.succ_mul]; omega),← hr,hc,Nat.succ_mul,show i * k + k + j - k = i * k + j by omega]
theorem row_readD {X : World} {B : Nat} {e : TypeId} {k : Nat} {v : Value} {n : Nat} {R : List (List Value)} (h : X.ownsRow B e k v n R.flatten) (hn : R.length = n) (hl : ∀ i,i < n → (R.getD i []).length = k) : ∃ ao c,v = .slice ao n c ∧ n ≤ c ∧ n ≤ 9223372036854775807 ∧ (0 < n → ∃ b off,ao = some ⟨b,off,none⟩ ∧ b < X.heap.size ∧ ∀ i j,i < n → j < k → X.cell? ⟨b,off + i * k + j,none⟩ = (R.getD i [])[j]?) := by
 obtain ⟨ao,c,e0,h1,h2,h3⟩ := own_read h
 refine ⟨ao,c,e0,h1,h2,fun h0 => ?_⟩
 obtain ⟨b,off,e1,hlt,hc⟩ := h3 h0
 refine ⟨b,off,e1,hlt,fun i j hi hj => ?_⟩
 have hm : i * k + j < n * k := by
  have h5 : (i + 1) * k ≤ n * k := Nat.mul_le_mul_right _ hi
  rw [Nat.succ_mul] at h5
  omega
 rw [Nat.add_assoc,hc _ hm,flatK (by rw [hn]; exact hl) (by omega) hj]
theorem stms_read {X : World} {B : Nat} {v : Value} {sts : List StmD} (h : StmsV X B v sts) : ∃ ao c,v = .slice ao sts.length c ∧ sts.length ≤ 9223372036854775807 ∧ StmsOf X ao sts.length sts := by
 obtain ⟨R,ho,hi⟩ := h
 obtain ⟨ao,c,e,h1,h2,h3⟩ := row_readD ho hi.1 (fun i h => by obtain ⟨cv,e,_⟩ := hi.2 i h; rw [e]; rfl)
 refine ⟨ao,c,e,h2,rfl,fun h0 => ?_⟩
 obtain ⟨b,off,e1,hl,hc⟩ := h3 h0
 refine ⟨b,off,e1,hl,fun i hi' => ?_⟩
 obtain ⟨cv,er,hcv⟩ := hi.2 i hi'
 obtain ⟨co,cc,e2,h4,h5⟩ := code_read hcv
 have a0 := hc i 0 hi' (by omega)
 have a1 := hc i 1 hi' (by omega)
 have a2 := hc i 2 hi' (by omega)
 have a3 := hc i 3 hi' (by omega)
 rw [er] at a0 a1 a2 a3
 exact ⟨by simpa using a0,by simpa using a1,by simpa using a2,co,_,cc,by rw [← e2]; simpa using a3,h4,h5⟩
theorem states_read {X : World} {B : Nat} {v : Value} {ss : List StD} {R : List (List Value)} (ho : X.ownsRow B 71 4 v ss.length R.flatten) (hi : StatesIn X B ss R) : ∃ ao c,v = .slice ao ss.length c ∧ ss.length ≤ 9223372036854775807 ∧ StatesOf X ao ss.length ss := by
 obtain ⟨ao,c,e,h1,h2,h3⟩ := row_readD ho hi.1 (fun i h => by obtain ⟨ev,xv,e,_⟩ := hi.2 i h; rw [e]; rfl)
 refine ⟨ao,c,e,h2,rfl,fun h0 => ?_⟩
 obtain ⟨b,off,e1,hl,hc⟩ := h3 h0
 refine ⟨b,off,e1,hl,fun i hi' => ?_⟩
 obtain ⟨ev,xv,er,hev,hxv⟩ := hi.2 i hi'
 obtain ⟨eo,ec,e2,h4,h5⟩ := stms_read hev
 obtain ⟨xo,xc,e3,h6,h7⟩ := stms_read hxv
 have a0 := hc i 0 hi' (by omega)
 have a1 := hc i 1 hi' (by omega)
 have a2 := hc i 2 hi' (by omega)
 have a3 := hc i 3 hi' (by omega)
 rw [er] at a0 a1 a2 a3
 exact ⟨by simpa using a0,by simpa using a1,⟨eo,_,ec,by rw [← e2]; simpa using a2,h4,h5⟩,⟨xo,_,xc,by rw [← e3]; simpa using a3,h6,h7⟩⟩
theorem trans_read {X : World} {B : Nat} {v : Value} {ts : List TrD} {Q : List (List Value)} (ho : X.ownsRow B 75 5 v ts.length Q.flatten) (hi : TrsIn X B ts Q) : ∃ ao c,v = .slice ao ts.length c ∧ ts.length ≤ 9223372036854775807 ∧ TransOf X ao ts.length ts := by
 obtain ⟨ao,c,e,h1,h2,h3⟩ := row_readD ho hi.1 (fun i h => by obtain ⟨ev,xv,e,_⟩ := hi.2 i h; rw [e]; rfl)
 refine ⟨ao,c,e,h2,rfl,fun h0 => ?_⟩
 obtain ⟨b,off,e1,hl,hc⟩ := h3 h0
 refine ⟨b,off,e1,hl,fun i hi' => ?_⟩
 obtain ⟨gv,av,er,hgv,hav⟩ := hi.2 i hi'
 obtain ⟨eo,ec,e2,h4,h5⟩ := code_read hgv
 obtain ⟨xo,xc,e3,h6,h7⟩ := stms_read hav
 have a0 := hc i 0 hi' (by omega)
 have a1 := hc i 1 hi' (by omega)
 have a2 := hc i 2 hi' (by omega)
 have a3 := hc i 3 hi' (by omega)
 have a4 := hc i 4 hi' (by omega)
 rw [er] at a0 a1 a2 a3 a4
 exact ⟨by simpa using a0,by simpa using a1,⟨eo,_,ec,by rw [← e2]; simpa using a2,h4,h5⟩,by simpa using a3,⟨xo,_,xc,by rw [← e3]; simpa using a4,h6,h7⟩⟩
def Kt (t : TypeId) : Prop := t = 107 ∨ t = 105 ∨ t = 3 ∨ t = 71 ∨ t = 75
def FarP (X : World) (B : Nat) (P : Nat → Prop) : Prop := ∀ b cs t,X.heap[b]? = some (.cells cs t (0,0)) → Kt t → B ≤ b → ¬ P b
theorem own_far_keep {P : Nat → Prop} {X Y : World} {B : Nat} {e : TypeId} {size : Nat} {v : Value} {m : Nat} {xs : List Value} (ho : X.ownsRow B e size v m xs) (hP : OnlyP P X Y) (hn : FarP X B P) (he : Kt e) : Y.ownsRow B e size v m xs := by
 refine hP.own ho (fun b e1 => ?_)
 have hl := (World.ownsRow.lt ho b e1).1
 rcases ho.2 with ⟨h0,_⟩ | ⟨g,cap,cur,k1,k2,k3,k4⟩
 ·rw [h0] at e1; cases e1
 ·rw [k1] at e1; simp [Value.ownBlock] at e1; subst e1; exact hn _ _ _ k3 he hl
theorem FarP.sm {X : World} {B : Nat} {P : Nat → Prop} (h : FarP X B P) : ∀ b cs t,X.heap[b]? = some (.cells cs t (0,0)) → (t = 107 ∨ t = 105) → B ≤ b → ¬ P b := fun b cs t hb ht => h b cs t hb (by rcases ht with rfl | rfl; exact .inl rfl; exact .inr (.inl rfl))
def ObIn (X : World) (B : Nat) (d : ObD) (c : List Value) : Prop := ∃ (kv vv uv sv tv : Value) (R Q : List (List Value)),c = [.int .i64 d.prio,.int .i64 d.qcap,.int .i64 d.dcap,kv,vv,uv,sv,tv] ∧ X.ownsRow B 3 1 kv d.kinds.length (vint d.kinds) ∧ X.ownsRow B 3 1 vv d.vals.length (vint d.vals) ∧ X.ownsRow B 3 1 uv d.subs.length (vint d.subs) ∧ X.ownsRow B 71 4 sv d.sts.length R.flatten ∧ StatesIn X B d.sts R ∧ X.ownsRow B 75 5 tv d.trs.length Q.flatten ∧ TrsIn X B d.trs Q
def ObsIn (X : World) (B : Nat) (ds : List ObD) (R : List (List Value)) : Prop := R.length = ds.length ∧ ∀ i,i < ds.length → ObIn X B (ds.getD i ob0) (R.getD i [])
theorem ObIn.keep {P : Nat → Prop} {X Y : World} {B : Nat} {d : ObD} {c : List Value} (h : ObIn X B d c) (hP : OnlyP P X Y) (hn : FarP X B P) : ObIn Y B d c := by
 obtain ⟨kv,vv,uv,sv,tv,R,Q,e,h1,h2,h3,h4,h5,h6,h7⟩ := h
 exact ⟨kv,vv,uv,sv,tv,R,Q,e,own_far_keep h1 hP hn (.inr (.inr (.inl rfl))),own_far_keep h2 hP hn (.inr (.inr (.inl rfl))),own_far_keep h3 hP hn (.inr (.inr (.inl rfl))),own_far_keep h4 hP hn (.inr (.inr (.inr (.inl rfl)))),h5.keep hP hn.sm,own_far_keep h6 hP hn (.inr (.inr (.inr (.inr rfl)))),h7.keep hP hn.sm⟩
theorem ObIn.base {X : World} {B C : Nat} {d : ObD} {c : List Value} (h : ObIn X B d c) (hb : C ≤ B) : ObIn X C d c := by
 obtain ⟨kv,vv,uv,sv,tv,R,Q,e,h1,h2,h3,h4,h5,h6,h7⟩ := h
 exact ⟨kv,vv,uv,sv,tv,R,Q,e,ownsRow_base h1 hb,ownsRow_base h2 hb,ownsRow_base h3 hb,ownsRow_base h4 hb,h5.base hb,ownsRow_base h6 hb,h7.base hb⟩
theorem ObsIn.keep {P : Nat → Prop} {X Y : World} {B : Nat} {ds : List ObD} {R : List (List Value)} (h : ObsIn X B ds R) (hP : OnlyP P X Y) (hn : FarP X B P) : ObsIn Y B ds R := ⟨h.1,fun i hi => (h.2 i hi).keep hP hn⟩
theorem ObsIn.base {X : World} {B C : Nat} {ds : List ObD} {R : List (List Value)} (h : ObsIn X B ds R) (hb : C ≤ B) : ObsIn X C ds R := ⟨h.1,fun i hi => (h.2 i hi).base hb⟩
theorem ObsIn.snoc {X : World} {B : Nat} {ds : List ObD} {R : List (List Value)} {d : ObD} {c : List Value} (h : ObsIn X B ds R) (hc : ObIn X B d c) : ObsIn X B (ds ++ [d]) (R ++ [c]) := ⟨by simp [h.1],fun i hi => by
 rw [getD_end,getD_end,h.1]
 by_cases hl : i < ds.length
 ·rw [if_pos hl,if_pos hl]; exact h.2 i hl
 ·obtain rfl : i = ds.length := by simp at hi; omega
  rw [if_neg hl,if_neg hl,if_pos rfl,if_pos rfl]; exact hc⟩
theorem ob_read {X : World} {B : Nat} {d : ObD} {c : List Value} (h : ObIn X B d c) : ∃ s : ObS,c = [.int .i64 d.prio,.int .i64 d.qcap,.int .i64 d.dcap,.slice s.ko s.kn s.kc,.slice s.vo s.vn s.vc,.slice s.uo s.un s.uc,.slice s.so s.sn s.sc,.slice s.to s.tn s.tc] ∧ ObMax s ∧ ObOf X s d := by
 obtain ⟨kv,vv,uv,sv,tv,R,Q,e,h1,h2,h3,h4,h5,h6,h7⟩ := h
 obtain ⟨ko,kc,rfl,_,k1,k2⟩ := slice_own h1
 obtain ⟨vo,vc,rfl,_,v1,v2⟩ := slice_own h2
 obtain ⟨uo,uc,rfl,u0,u1,u2⟩ := slice_own h3
 obtain ⟨so,sc,rfl,s1,s2⟩ := states_read h4 h5
 obtain ⟨tt,tc,rfl,t1,t2⟩ := trans_read h6 h7
 exact ⟨⟨ko,_,kc,vo,_,vc,uo,_,uc,so,_,sc,tt,_,tc⟩,e,⟨k1,v1,u1,s1,t1,u0⟩,⟨k2,v2,u2,s2,t2⟩⟩
theorem obs_read {X : World} {B : Nat} {v : Value} {ds : List ObD} {R : List (List Value)} (ho : X.ownsRow B 66 8 v ds.length R.flatten) (hi : ObsIn X B ds R) : ∃ ao c,v = .slice ao ds.length c ∧ ds.length ≤ 9223372036854775807 ∧ ObsOf X ao ds.length ds := by
 obtain ⟨ao,c,e,h1,h2,h3⟩ := row_readD ho hi.1 (fun i h => by obtain ⟨s,e,_⟩ := ob_read (hi.2 i h); rw [e]; rfl)
 refine ⟨ao,c,e,h2,rfl,fun h0 => ?_⟩
 obtain ⟨b,off,e1,hl,hc⟩ := h3 h0
 refine ⟨b,off,e1,hl,fun i hi' => ?_⟩
 obtain ⟨s,er,hm,hof⟩ := ob_read (hi.2 i hi')
 have a0 := hc i 0 hi' (by omega)
 have a1 := hc i 1 hi' (by omega)
 have a2 := hc i 2 hi' (by omega)
 have a3 := hc i 3 hi' (by omega)
 have a4 := hc i 4 hi' (by omega)
 have a5 := hc i 5 hi' (by omega)
 have a6 := hc i 6 hi' (by omega)
 have a7 := hc i 7 hi' (by omega)
 rw [er] at a0 a1 a2 a3 a4 a5 a6 a7
 exact ⟨s,⟨by simpa using a0,by simpa using a1,by simpa using a2,by simpa using a3,by simpa using a4,by simpa using a5,by simpa using a6,by simpa using a7⟩,hm,hof⟩
end Go.Proofs.YtkdgkomnbjepdaaGreatDoor
namespace Go.Proofs.YtkdgkomnbjepdaaGreatDoor
open Go.RowKit Go.Sort
def NewsAt (w : World) (ao : Option Addr) (m : Nat) (news : List Value) : Prop := (ao = none → m = 0) ∧ ∀ ad,ao = some ad → ∀ j u,news[j]? = some u → w.cell? (ad.add j) = some u
theorem run_append_none' {P : Program} (w : World) (base : Nat) (t ty e : TypeId) (i : TypeInfo) (size c : Nat) (ht : P.underlying t = some (.slice e)) (hi : P.info? e = some i)
  (v : Value) (n : Nat) (xs : List Value) (hown : w.ownsRow base e size v n xs) :
  (Builtin.append_ #[t,t] ty #[v,.slice none 0 c]).run P w = .ok v w := by
 rcases hown.2 with ⟨rfl,rfl⟩ | ⟨g,cap,cur,rfl,_,_,hnc,_⟩
 ·simp [Builtin.append_,run_underlying ht,sizeOf,typeInfo,hi,Builtin.lenOf,Builtin.firstCells]
 ·simp [Builtin.append_,run_underlying ht,sizeOf,typeInfo,hi,Builtin.lenOf,Builtin.firstCells,hnc,storeCells]
theorem wp_append_opt {P : Program} (w : World) {o : Oper} {a : Act} {K : Act → World → Prop} {Q : Exit → Act → World → Prop} (s x : Operand) (t : TypeId)
  (ho : o.op = .call { callee := .builtin .append,args := #[s,x],argTypes := #[t,t] })
  (base : Nat) (e : TypeId) (i : TypeInfo) (z : Value) (size bytes : Nat) (ht : P.underlying t = some (.slice e)) (hi : P.info? e = some i) (hz : i.zero = some z)
  (hsize : i.size = size) (hby : i.bytes = bytes) (hzs : z.cells.size = size) (hsz : 0 < size)
  (v : Value) (n : Nat) (xs : List Value) (hs : a.eval s = v) (hown : w.ownsRow base e size v n xs)
  (ao : Option Addr) (m c : Nat) (news : List Value) (hx : a.eval x = .slice ao m c) (hl : news.length = m * size) (hnews : NewsAt w ao m news) (h1 : ∀ u ∈ news,u.oneCell' = true)
  (h63 : n + m ≤ maxLen) (hbytes : (n + m) * bytes ≤ 140737488355328) (hbase : base ≤ w.heap.size)
  (h : ∀ v' w',w'.ownsRow base e size v' (n + m) (xs ++ news) → w.grownBy w' v.ownBlock → (v' = .slice none 0 0 ↔ v = .slice none 0 0 ∧ m = 0) → K (a.put o.dst v') w') : o.wp P a w K Q := by
 cases ao with
 | some ad => exact wp_append_own w s x t ho base e i z size bytes ht hi hz hsize hby hzs hsz v n xs hs hown ad m c news hx hl (hnews.2 ad rfl) h1 h63 hbytes hbase h
 | none =>
  obtain rfl : m = 0 := hnews.1 rfl
  obtain rfl : news = [] := List.length_eq_zero_iff.1 (by simpa using hl)
  have hr := run_append_none' (P := P) w base t o.type e i size c ht hi v n xs hown
  unfold Oper.wp execOp
  simp only [ho,resolve,invoke,builtin,Sem.run_bind,Sem.run_pure,Result.andThen_ok,List.map_toArray,List.map_cons,List.map_nil,hs,hx,hr]
  exact h v w (by simpa using hown) ⟨rfl,rfl,rfl,Nat.le_refl _,fun _ _ _ => rfl⟩ (by simp)
theorem wpList_append_opt {P : Program} (w : World) {ops : Array Oper} {rest : List Oper} {o : Oper} {a : Act} {Q : Exit → Act → World → Prop} (hgd : o.guard = none) (s x : Operand) (t : TypeId)
  (ho : o.op = .call { callee := .builtin .append,args := #[s,x],argTypes := #[t,t] })
  (base : Nat) (e : TypeId) (i : TypeInfo) (z : Value) (size bytes : Nat) (ht : P.underlying t = some (.slice e)) (hi : P.info? e = some i) (hz : i.zero = some z)
  (hsize : i.size = size) (hby : i.bytes = bytes) (hzs : z.cells.size = size) (hsz : 0 < size)
  (v : Value) (n : Nat) (xs : List Value) (hs : a.eval s = v) (hown : w.ownsRow base e size v n xs)
  (ao : Option Addr) (m c : Nat) (news : List Value) (hx : a.eval x = .slice ao m c) (hl : news.length = m * size) (hnews : NewsAt w ao m news) (h1 : ∀ u ∈ news,u.oneCell' = true)
  (h63 : n + m ≤ maxLen) (hbytes : (n + m) * bytes ≤ 140737488355328) (hbase : base ≤ w.heap.size)
  (h : ∀ v' w',w'.ownsRow base e size v' (n + m) (xs ++ news) → w.grownBy w' v.ownBlock → (v' = .slice none 0 0 ↔ v = .slice none 0 0 ∧ m = 0) → wpList P ops Q rest (a.put o.dst v') w') : wpList P ops Q (o :: rest) a w :=
 wpList_plain hgd fun _ hK => wp_append_opt w s x t ho base e i z size bytes ht hi hz hsize hby hzs hsz v n xs hs hown ao m c news hx hl hnews h1 h63 hbytes hbase fun v' w' h2 h3 h4 => hK _ _ (h v' w' h2 h3 h4)
end Go.Proofs.YtkdgkomnbjepdaaGreatDoor
namespace Go.Proofs.YtkdgkomnbjepdaaGreatDoor
open Go.RowKit Go.Sort
set_option linter.unusedVariables false
attribute [local go_sem ↓] Go.wp_at_zero Go.wp_at_succ
structure ObV (X : World) (B : Nat) (d : ObD) (kv vv uv sv tv : Value) : Prop where
 k : X.ownsRow B 3 1 kv d.kinds.length (vint d.kinds)
 v : X.ownsRow B 3 1 vv d.vals.length (vint d.vals)
 u : X.ownsRow B 3 1 uv d.subs.length (vint d.subs)
 s : ∃ R : List (List Value),X.ownsRow B 71 4 sv d.sts.length R.flatten ∧ StatesIn X B d.sts R
 t : ∃ Q : List (List Value),X.ownsRow B 75 5 tv d.trs.length Q.flatten ∧ TrsIn X B d.trs Q
theorem ObV.in {X : World} {B : Nat} {d : ObD} {kv vv uv sv tv : Value} (h : ObV X B d kv vv uv sv tv) : ObIn X B d [.int .i64 d.prio,.int .i64 d.qcap,.int .i64 d.dcap,kv,vv,uv,sv,tv] := by
 obtain ⟨R,h1,h2⟩ := h.s
 obtain ⟨Q,h3,h4⟩ := h.t
 exact ⟨kv,vv,uv,sv,tv,R,Q,rfl,h.k,h.v,h.u,h1,h2,h3,h4⟩
theorem ObV.keep {P : Nat → Prop} {X Y : World} {B : Nat} {d : ObD} {kv vv uv sv tv : Value} (h : ObV X B d kv vv uv sv tv) (hP : OnlyP P X Y) (hn : FarP X B P) : ObV Y B d kv vv uv sv tv := by
 obtain ⟨R,h1,h2⟩ := h.s
 obtain ⟨Q,h3,h4⟩ := h.t
 exact ⟨own_far_keep h.k hP hn (.inr (.inr (.inl rfl))),own_far_keep h.v hP hn (.inr (.inr (.inl rfl))),own_far_keep h.u hP hn (.inr (.inr (.inl rfl))),⟨R,own_far_keep h1 hP hn (.inr (.inr (.inr (.inl rfl)))),h2.keep hP hn.sm⟩,⟨Q,own_far_keep h3 hP hn (.inr (.inr (.inr (.inr rfl)))),h4.keep hP hn.sm⟩⟩
structure SyI (w : World) (cb : Nat) (co : Option Addr) (n cap A : Nat) (HS : Nat) (sg : Int) (ov tv : Value) (ds : List ObD) (R : List (List Value)) (X : World) (σ : Cs) (F : Prop) : Prop where
 cur : Cur X cb co n cap A σ F
 dw : Dw cb w X
 r : X.heap[w.heap.size]? = some (.cells #[.int .i64 0,.slice none 0 0,.slice none 0 0] 26 (0,0))
 s : X.heap[HS]? = some (.cells #[.int .i64 sg,ov,tv] 26 (0,0))
 hs : w.heap.size < HS
 oo : X.ownsRow (w.heap.size + 1) 66 8 ov ds.length R.flatten
 oi : ObsIn X (w.heap.size + 1) ds R
 cb0 : cb < w.heap.size
 g0 : 0 < n → ∀ g o,co = some ⟨g,o,none⟩ → g < w.heap.size
section
variable {w : World} {cb : Nat} {co : Option Addr} {n cap A A' HS HO : Nat} {sg : Int} {ov tv : Value} {ds : List ObD} {R : List (List Value)} {X Y : World} {P : Nat → Prop} {σ τ : Cs} {F G : Prop}
theorem far_cb {B : Nat} (h : cb < B) : FarP X B (fun b => b = cb) := fun b _ _ _ _ hb e => by omega
theorem far_none {B : Nat} : FarP X B (fun _ => False) := fun _ _ _ _ _ _ e => e
theorem far_box {B H : Nat} {cs : Array Value} {t : TypeId} (h : X.heap[H]? = some (.cells cs t (0,0))) (ht : ¬ Kt t) : FarP X B (fun b => b = H) := fun b cs' t' hb ht' _ e => by
 rw [e,h] at hb
 simp at hb
 exact ht (by rw [hb.2]; exact ht')
theorem far_own {B C : Nat} {e : TypeId} {size : Nat} {v : Value} {m : Nat} {xs : List Value} (ho : X.ownsRow C e size v m xs) (he : ¬ Kt e) : FarP X B (fun b => v.ownBlock = some b) := fun b cs t hb ht _ e1 => by
 rcases ho.2 with ⟨h0,_⟩ | ⟨g,cap,cur,k1,k2,k3,k4⟩
 ·rw [h0] at e1; cases e1
 ·rw [k1] at e1; simp [Value.ownBlock] at e1; subst e1; rw [k3] at hb; simp at hb; exact he (by rw [hb.2]; exact ht)
theorem SyI.keep (h : SyI w cb co n cap A HS sg ov tv ds R X σ F) (hP : OnlyP P X Y) (h1 : ∀ q,P q → w.heap.size < q) (h2 : ∀ q,ov.ownBlock = some q → ¬ P q) (h3 : ¬ P HS) (h4 : FarP X (w.heap.size + 1) P) : SyI w cb co n cap A HS sg ov tv ds R Y σ F := by
 have c0 := h.cb0
 have no : ∀ q,q < w.heap.size + 1 → ¬ P q := fun q hq e => by have := h1 q e; omega
 exact ⟨h.cur.only hP (no cb (by omega)) (fun hn g o e => no g (by have := h.g0 hn g o e; omega)),⟨hP.os.trans h.dw.os,hP.tape.trans h.dw.tape,hP.output.trans h.dw.output,Nat.le_trans h.dw.size hP.size,fun q hq hn => (hP.block q (Nat.lt_of_lt_of_le hq h.dw.size) (no q (by omega))).trans (h.dw.block q hq hn)⟩,(hP.block _ (lt_of_block h.r) (no _ (by omega))).trans h.r,(hP.block _ (lt_of_block h.s) h3).trans h.s,h.hs,hP.own h.oo h2,h.oi.keep hP h4,c0,h.g0⟩
theorem SyI.fact (h : SyI w cb co n cap A HS sg ov tv ds R X σ F) (hg : G) : SyI w cb co n cap A HS sg ov tv ds R X σ G := ⟨h.cur.with hg,h.dw,h.r,h.s,h.hs,h.oo,h.oi,h.cb0,h.g0⟩
theorem SyI.below (h : SyI w cb co n cap A HS sg ov tv ds R X σ F) (hb : Below X.heap.size X Y) : SyI w cb co n cap A HS sg ov tv ds R Y σ F :=
 h.keep (Below.toP (P := fun _ => False) hb) (fun _ e => e.elim) (fun _ _ e => e) (fun e => e) far_none
theorem SyI.draw (h : SyI w cb co n cap A HS sg ov tv ds R X σ F) (hd : Dw cb X Y) (hc : Cur Y cb co n cap A' τ G) : SyI w cb co n cap A' HS sg ov tv ds R Y τ G := by
 have c0 := h.cb0
 have c1 := h.hs
 exact ⟨hc,h.dw.trans hd,hd.at h.r (by omega),hd.at h.s (by omega),c1,hd.own h.cur h.oo (by decide),h.oi.keep hd (far_cb (by omega)),c0,h.g0⟩
theorem SyI.mono (h : SyI w cb co n cap A HS sg ov tv ds R X σ F) (hA : A ≤ A') : SyI w cb co n cap A' HS sg ov tv ds R X σ F := ⟨h.cur.mono hA,h.dw,h.r,h.s,h.hs,h.oo,h.oi,h.cb0,h.g0⟩
theorem sy_start {w1 : World} (h0 : Cur w cb co n cap A' τ G) (hd : Dw cb (w.alloc (.cells #[.int .i64 0,.slice none 0 0,.slice none 0 0] 26)) w1) (hc : Cur w1 cb co n cap A σ F) : SyI w cb co n cap A w1.heap.size sg (.slice none 0 0) (.slice none 0 0) [] [] (w1.alloc (.cells #[.int .i64 sg,.slice none 0 0,.slice none 0 0] 26)) σ F := by
 have c0 := h0.lt
 have hr : w1.heap[w.heap.size]? = some (.cells #[.int .i64 0,.slice none 0 0,.slice none 0 0] 26 (0,0)) := hd.at (heap_alloc_new w _) (by omega)
 exact ⟨hc.below (below1 _ _),(dw_alloc _ _ _).trans (hd.trans (dw_alloc _ _ _)),block_below hr (below1 _ _),heap_alloc_new _ _,lt_of_block hr,World.ownsRow_nil _ _ _ _,⟨rfl,fun i hi => absurd hi (by simp)⟩,c0,h0.code_lt⟩
structure ObB (w : World) (cb : Nat) (co : Option Addr) (n cap A : Nat) (HS : Nat) (sg : Int) (ov tv : Value) (ds : List ObD) (R : List (List Value)) (HO : Nat) (d : ObD) (kv vv uv sv xv : Value) (X : World) (σ : Cs) (F : Prop) : Prop where
 sy : SyI w cb co n cap A HS sg ov tv ds R X σ F
 o : X.heap[HO]? = some (.cells #[.int .i64 d.prio,.int .i64 d.qcap,.int .i64 d.dcap,kv,vv,uv,sv,xv] 66 (0,0))
 ho : w.heap.size < HO
 nv : ov.ownBlock ≠ some HO
 ob : ObV X (w.heap.size + 1) d kv vv uv sv xv
variable {d d' : ObD} {kv vv uv sv xv : Value}
theorem kt_sys : ¬ Kt 26 := by unfold Kt; decide
theorem kt_ob : ¬ Kt 66 := by unfold Kt; decide
theorem ObB.keep (h : ObB w cb co n cap A HS sg ov tv ds R HO d kv vv uv sv xv X σ F) (hP : OnlyP P X Y) (h1 : ∀ q,P q → w.heap.size < q) (h2 : ∀ q,ov.ownBlock = some q → ¬ P q) (h3 : ¬ P HS) (h4 : FarP X (w.heap.size + 1) P) (h5 : ¬ P HO) : ObB w cb co n cap A HS sg ov tv ds R HO d kv vv uv sv xv Y σ F :=
 ⟨h.sy.keep hP h1 h2 h3 h4,(hP.block _ (lt_of_block h.o) h5).trans h.o,h.ho,h.nv,h.ob.keep hP h4⟩
theorem ObB.fact (h : ObB w cb co n cap A HS sg ov tv ds R HO d kv vv uv sv xv X σ F) (hg : G) : ObB w cb co n cap A HS sg ov tv ds R HO d kv vv uv sv xv X σ G := ⟨h.sy.fact hg,h.o,h.ho,h.nv,h.ob⟩
theorem ObB.below (h : ObB w cb co n cap A HS sg ov tv ds R HO d kv vv uv sv xv X σ F) (hb : Below X.heap.size X Y) : ObB w cb co n cap A HS sg ov tv ds R HO d kv vv uv sv xv Y σ F :=
 h.keep (Below.toP (P := fun _ => False) hb) (fun _ e => e.elim) (fun _ _ e => e) (fun e => e) far_none (fun e => e)
theorem ObB.draw (h : ObB w cb co n cap A HS sg ov tv ds R HO d kv vv uv sv xv X σ F) (hd : Dw cb X Y) (hc : Cur Y cb co n cap A' τ G) : ObB w cb co n cap A' HS sg ov tv ds R HO d kv vv uv sv xv Y τ G := by
 have c0 := h.sy.cb0
 have c1 := h.ho
 exact ⟨h.sy.draw hd hc,hd.at h.o (by omega),c1,h.nv,h.ob.keep hd (far_cb (by omega))⟩
theorem ObB.mono (h : ObB w cb co n cap A HS sg ov tv ds R HO d kv vv uv sv xv X σ F) (hA : A ≤ A') : ObB w cb co n cap A' HS sg ov tv ds R HO d kv vv uv sv xv X σ F := ⟨h.sy.mono hA,h.o,h.ho,h.nv,h.ob⟩
theorem ObB.ne (h : ObB w cb co n cap A HS sg ov tv ds R HO d kv vv uv sv xv X σ F) : HS ≠ HO := fun e => by
 have h1 := h.sy.s
 rw [e,h.o] at h1
 simp at h1
theorem ObB.set {q : Nat} {u kv' vv' uv' sv' xv' : Value} (h : ObB w cb co n cap A HS sg ov tv ds R HO d kv vv uv sv xv X σ F) (e : (#[.int .i64 d.prio,.int .i64 d.qcap,.int .i64 d.dcap,kv,vv,uv,sv,xv] : Array Value).setIfInBounds q u = #[.int .i64 d'.prio,.int .i64 d'.qcap,.int .i64 d'.dcap,kv',vv',uv',sv',xv']) (hv : ObV X (w.heap.size + 1) d' kv' vv' uv' sv' xv') : ObB w cb co n cap A HS sg ov tv ds R HO d' kv' vv' uv' sv' xv' (X.setCell ⟨HO,q,none⟩ u) σ F := by
 have hP : OnlyP (fun b => b = HO) X (X.setCell ⟨HO,q,none⟩ u) := OnlyP.set _ rfl
 have f4 : FarP X (w.heap.size + 1) (fun b => b = HO) := far_box h.o kt_ob
 have c1 := h.ho
 refine ⟨h.sy.keep hP (fun b e => by omega) (fun b e1 e2 => h.nv (by rw [← e2]; exact e1)) h.ne f4,?_,c1,h.nv,hv.keep hP f4⟩
 rw [heap_setCell_same X HO q _ _ u h.o,e]
theorem ObB.le (h : ObB w cb co n cap A HS sg ov tv ds R HO d kv vv uv sv xv X σ F) : w.heap.size + 1 ≤ X.heap.size := Nat.le_trans (show w.heap.size + 1 ≤ HO from h.ho) (Nat.le_of_lt (lt_of_block h.o))
theorem SyI.add {v' : Value} {c : List Value} (h : SyI w cb co n cap A HS sg ov tv ds R X σ F) (hc : ObIn X (w.heap.size + 1) d c) (hg : X.grownBy Y ov.ownBlock) (ho : Y.ownsRow (w.heap.size + 1) 66 8 v' (ds.length + 1) (R.flatten ++ c)) : SyI w cb co n cap A HS sg v' tv (ds ++ [d]) (R ++ [c]) (Y.setCell ⟨HS,1,none⟩ v') σ F := by
 have c0 := h.cb0
 have c1 := h.hs
 have gP := grP hg
 have sP : OnlyP (fun q => q = HS) Y (Y.setCell ⟨HS,1,none⟩ v') := OnlyP.set _ rfl
 have g1 : ∀ q,ov.ownBlock = some q → w.heap.size + 1 ≤ q := fun q e => (h.oo.lt q e).1
 have gf : FarP X (w.heap.size + 1) (fun q => ov.ownBlock = some q) := far_own h.oo kt_ob
 have bY := (gP.block _ (lt_of_block h.s) (fun e => own_far h.oo (by decide) h.s e)).trans h.s
 have sf : FarP Y (w.heap.size + 1) (fun q => q = HS) := far_box bY kt_sys
 have aP : OnlyP (fun q => w.heap.size < q) X (Y.setCell ⟨HS,1,none⟩ v') := (gP.mono (fun q e => by have := g1 q e; omega)).trans (sP.mono (fun q e => by omega))
 refine ⟨h.cur.only aP (by omega) (fun hn g o e => by have := h.g0 hn g o e; omega),⟨aP.os.trans h.dw.os,aP.tape.trans h.dw.tape,aP.output.trans h.dw.output,Nat.le_trans h.dw.size aP.size,fun q hq hn => (aP.block q (Nat.lt_of_lt_of_le hq h.dw.size) (by omega)).trans (h.dw.block q hq hn)⟩,(aP.block _ (lt_of_block h.r) (by omega)).trans h.r,by rw [heap_setCell_same Y _ 1 _ _ v' bY]; rfl,c1,sP.own (by simpa using ho) (fun q e e2 => own_far ho (by decide) bY (by rw [← e2]; exact e)),((h.oi.keep gP gf).snoc (hc.keep gP gf)).keep sP sf,c0,h.g0⟩
theorem ob_start {q : Int} {ks vs : List Int} (h : SyI w cb co n cap A HS sg ov tv ds R X σ F) (hk : X.ownsRow (w.heap.size + 1) 3 1 kv ks.length (vint ks)) (hv : X.ownsRow (w.heap.size + 1) 3 1 vv vs.length (vint vs)) : ObB w cb co n cap A HS sg ov tv ds R X.heap.size ⟨0,q,0,ks,vs,[],[],[]⟩ kv vv (.slice none 0 0) (.slice none 0 0) (.slice none 0 0) (X.alloc (.cells #[.int .i64 0,.int .i64 q,.int .i64 0,kv,vv,.slice none 0 0,.slice none 0 0,.slice none 0 0] 66)) σ F := by
 have hb := below1 X (.cells #[.int .i64 0,.int .i64 q,.int .i64 0,kv,vv,.slice none 0 0,.slice none 0 0,.slice none 0 0] 66)
 exact ⟨h.below hb,heap_alloc_new _ _,Nat.lt_of_le_of_lt (Nat.le_of_lt h.hs) (lt_of_block h.s),fun e => by have := (h.oo.lt _ e).2; omega,⟨ownsRow_below hk hb,ownsRow_below hv hb,World.ownsRow_nil _ _ _ _,⟨[],World.ownsRow_nil _ _ _ _,rfl,fun i hi => absurd hi (by simp)⟩,⟨[],World.ownsRow_nil _ _ _ _,rfl,fun i hi => absurd hi (by simp)⟩⟩⟩
theorem ObB.subs {x : Int} {v' : Value} {p qc dc : Int} {ks vs us : List Int} {ss : List StD} {ts : List TrD} (h : ObB w cb co n cap A HS sg ov tv ds R HO ⟨p,qc,dc,ks,vs,us,ss,ts⟩ kv vv uv sv xv X σ F) (hg : (X.alloc (.cells #[.int .i64 x] 3)).grownBy Y (some X.heap.size)) (ho : Y.ownsRow X.heap.size 3 1 v' (1 + us.length) ([.int .i64 x] ++ vint us)) : ObB w cb co n cap A HS sg ov tv ds R HO ⟨p,qc,dc,ks,vs,x :: us,ss,ts⟩ kv vv v' sv xv (Y.setCell ⟨HO,5,none⟩ v') σ F := by
 have hP : OnlyP (fun _ => False) X Y := ⟨hg.os,hg.tape,hg.output,Nat.le_trans (by simp) hg.size,fun q hq hn => (hg.block q (by simp; omega) (fun e => by simp at e; omega)).trans ((below1 X (.cells #[.int .i64 x] 3)).block q hq)⟩
 have hY := h.keep hP (fun _ e => e.elim) (fun _ _ e => e) (fun e => e) far_none (fun e => e)
 refine hY.set (q := 5) (u := v') (d' := ⟨p,qc,dc,ks,vs,x :: us,ss,ts⟩) rfl ⟨hY.ob.k,hY.ob.v,ownsRow_base ?_ h.le,hY.ob.s,hY.ob.t⟩
 rw [Nat.add_comm] at ho
 exact ho
theorem ObB.chart {sv' xv' : Value} {p qc dc : Int} {ks vs us : List Int} {ss : List StD} {ts : List TrD} {ss0 : List StD} {ts0 : List TrD} (h : ObB w cb co n cap A HS sg ov tv ds R HO ⟨p,qc,dc,ks,vs,us,ss0,ts0⟩ kv vv uv sv xv X σ F) (h1 : ∃ R : List (List Value),X.ownsRow (w.heap.size + 1) 71 4 sv' ss.length R.flatten ∧ StatesIn X (w.heap.size + 1) ss R) (h2 : ∃ Q : List (List Value),X.ownsRow (w.heap.size + 1) 75 5 xv' ts.length Q.flatten ∧ TrsIn X (w.heap.size + 1) ts Q) : ObB w cb co n cap A HS sg ov tv ds R HO ⟨p,qc,dc,ks,vs,us,ss,ts⟩ kv vv uv sv' xv' ((X.setCell ⟨HO,6,none⟩ sv').setCell ⟨HO,7,none⟩ xv') σ F := by
 have a := h.set (q := 6) (u := sv') (d' := ⟨p,qc,dc,ks,vs,us,ss,ts0⟩) (kv' := kv) (vv' := vv) (uv' := uv) (sv' := sv') (xv' := xv) rfl ⟨h.ob.k,h.ob.v,h.ob.u,h1,h.ob.t⟩
 have hP : OnlyP (fun b => b = HO) X (X.setCell ⟨HO,6,none⟩ sv') := OnlyP.set _ rfl
 have f4 : FarP X (w.heap.size + 1) (fun b => b = HO) := far_box h.o kt_ob
 obtain ⟨Q,q1,q2⟩ := h2
 exact a.set (q := 7) (u := xv') (d' := ⟨p,qc,dc,ks,vs,us,ss,ts⟩) rfl ⟨a.ob.k,a.ob.v,a.ob.u,a.ob.s,⟨Q,own_far_keep q1 hP f4 (.inr (.inr (.inr (.inr rfl)))),q2.keep hP f4.sm⟩⟩
structure TmI (w : World) (cb : Nat) (co : Option Addr) (n cap A : Nat) (HS : Nat) (sg : Int) (ov tv : Value) (ds : List ObD) (R : List (List Value)) (tms : List (Int × Int)) (X : World) (σ : Cs) (F : Prop) : Prop where
 sy : SyI w cb co n cap A HS sg ov tv ds R X σ F
 tw : X.ownsRow (w.heap.size + 1) 57 2 tv tms.length (cellsI tms)
theorem kt_tm : ¬ Kt 57 := by unfold Kt; decide
variable {tms : List (Int × Int)}
theorem tm_start (h : SyI w cb co n cap A HS sg ov (.slice none 0 0) ds R X σ F) : TmI w cb co n cap A HS sg ov (.slice none 0 0) ds R [] X σ F := ⟨h,World.ownsRow_nil _ _ _ _⟩
theorem TmI.draw (h : TmI w cb co n cap A HS sg ov tv ds R tms X σ F) (hd : Dw cb X Y) (hc : Cur Y cb co n cap A' τ G) : TmI w cb co n cap A' HS sg ov tv ds R tms Y τ G := ⟨h.sy.draw hd hc,hd.own h.sy.cur h.tw (by decide)⟩
theorem TmI.fact (h : TmI w cb co n cap A HS sg ov tv ds R tms X σ F) (hg : G) : TmI w cb co n cap A HS sg ov tv ds R tms X σ G := ⟨h.sy.fact hg,h.tw⟩
theorem TmI.below (h : TmI w cb co n cap A HS sg ov tv ds R tms X σ F) (hb : Below X.heap.size X Y) : TmI w cb co n cap A HS sg ov tv ds R tms Y σ F := ⟨h.sy.below hb,ownsRow_below h.tw hb⟩
theorem TmI.mono (h : TmI w cb co n cap A HS sg ov tv ds R tms X σ F) (hA : A ≤ A') : TmI w cb co n cap A' HS sg ov tv ds R tms X σ F := ⟨h.sy.mono hA,h.tw⟩
theorem TmI.add {v' : Value} {a b : Int} (h : TmI w cb co n cap A HS sg ov tv ds R tms X σ F) (hg : X.grownBy Y tv.ownBlock) (ho : Y.ownsRow (w.heap.size + 1) 57 2 v' (tms.length + 1) (cellsI tms ++ [.int .i64 a,.int .i64 b])) : TmI w cb co n cap A HS sg ov v' ds R (tms ++ [(a,b)]) (Y.setCell ⟨HS,2,none⟩ v') σ F := by
 have gP := grP hg
 have g1 : ∀ q,tv.ownBlock = some q → w.heap.size < q := fun q e => (h.tw.lt q e).1
 have sne : ∀ q,ov.ownBlock = some q → ¬ tv.ownBlock = some q := fun q e e2 => by
  rcases h.sy.oo.2 with ⟨h0,_⟩ | ⟨g,cap',cur,k1,k2,k3,k4⟩
  ·rw [h0] at e; cases e
  ·rw [k1] at e; simp [Value.ownBlock] at e; subst e; exact own_far h.tw (by decide) k3 e2
 have hY := h.sy.keep gP g1 sne (fun e => own_far h.tw (by decide) h.sy.s e) (far_own h.tw kt_tm)
 have c0 := h.sy.cb0
 have c1 := h.sy.hs
 have sP : OnlyP (fun q => q = HS) Y (Y.setCell ⟨HS,2,none⟩ v') := OnlyP.set _ rfl
 have sf : FarP Y (w.heap.size + 1) (fun q => q = HS) := far_box hY.s kt_sys
 refine ⟨⟨hY.cur.only sP (by omega) (fun hn g o e => by have := hY.g0 hn g o e; omega),⟨sP.os.trans hY.dw.os,sP.tape.trans hY.dw.tape,sP.output.trans hY.dw.output,Nat.le_trans hY.dw.size sP.size,fun q hq hn => (sP.block q (Nat.lt_of_lt_of_le hq hY.dw.size) (by omega)).trans (hY.dw.block q hq hn)⟩,(sP.block _ (lt_of_block hY.r) (by omega)).trans hY.r,by rw [heap_setCell_same Y _ 2 _ _ v' hY.s]; rfl,c1,sP.own hY.oo (fun q e e2 => own_far hY.oo (by decide) hY.s (by rw [← e2]; exact e)),hY.oi.keep sP sf,c0,hY.g0⟩,sP.own (by simpa [cellsI_append,cellsI] using ho) (fun q e e2 => own_far ho (by decide) hY.s (by rw [← e2]; exact e))⟩
end
theorem tcell3 {w : World} {H : Nat} {a b c : Value} {t : TypeId} (k : w.heap[H]? = some (.cells #[a,b,c] t (0,0))) : w.cell? ⟨H,0,none⟩ = some a ∧ w.cell? ⟨H,1,none⟩ = some b ∧ w.cell? ⟨H,2,none⟩ = some c ∧ (∀ o,w.frozen? ⟨H,o,none⟩ = false) := ⟨by simp [World.cell?,k],by simp [World.cell?,k],by simp [World.cell?,k],frz_of k⟩
theorem oct_cells {w : World} {H : Nat} {a b c d e f g h : Value} {t : TypeId} (k : w.heap[H]? = some (.cells #[a,b,c,d,e,f,g,h] t (0,0))) : (w.cell? ⟨H,0,none⟩ = some a ∧ w.cell? ⟨H,1,none⟩ = some b ∧ w.cell? ⟨H,2,none⟩ = some c ∧ w.cell? ⟨H,3,none⟩ = some d) ∧ (w.cell? ⟨H,4,none⟩ = some e ∧ w.cell? ⟨H,5,none⟩ = some f ∧ w.cell? ⟨H,6,none⟩ = some g ∧ w.cell? ⟨H,7,none⟩ = some h) ∧ (∀ o,w.frozen? ⟨H,o,none⟩ = false) := ⟨by simp [World.cell?,k],by simp [World.cell?,k],frz_of k⟩
def PrioOk (i : Nat) (p : Int) : Prop := (i = 0 → 1 ≤ p ∧ p ≤ 15) ∧ (i = 1 → 701 ≤ p ∧ p ≤ 1000) ∧ (i = 2 → 71 ≤ p ∧ p ≤ 85)
def SubsOk (k : Int) (l : List Int) : Prop := l.Pairwise (· > ·) ∧ ∀ x,x ∈ l → 0 ≤ x ∧ x < k
def ObOk (m : Nat) (sg : Int) (tm : Nat) (i : Nat) (d : ObD) : Prop := (1 ≤ d.qcap ∧ d.qcap ≤ 5) ∧ (0 ≤ d.dcap ∧ d.dcap ≤ 3) ∧ PrioOk i d.prio ∧ BankD d.kinds d.vals ∧ d.kinds.length ≤ 4 ∧ SubsOk sg d.subs ∧ (checkOf d.sts d.trs ⟨m,sg,tm,d.vals.length⟩).1 = 0 ∧ d.sts.length ≤ 9 ∧ d.trs.length ≤ 10
theorem SubsOk.step {k : Nat} {l : List Int} (h : SubsOk (k : Int) l) : SubsOk ((k + 1 : Nat) : Int) ((k : Int) :: l) := ⟨List.pairwise_cons.2 ⟨fun x hx => by have := h.2 x hx; omega,h.1⟩,fun x hx => by
 rcases List.mem_cons.1 hx with rfl | hx
 ·omega
 ·have := h.2 x hx; omega⟩
theorem SubsOk.hold {k : Nat} {l : List Int} (h : SubsOk (k : Int) l) : SubsOk ((k + 1 : Nat) : Int) l := ⟨h.1,fun x hx => by have := h.2 x hx; omega⟩
theorem obok_snoc {m : Nat} {sg : Int} {tm : Nat} {ds : List ObD} {d : ObD} (h : ∀ i,i < ds.length → ObOk m sg tm i (ds.getD i ob0)) (hd : ObOk m sg tm ds.length d) : ∀ i,i < (ds ++ [d]).length → ObOk m sg tm i ((ds ++ [d]).getD i ob0) := by
 intro i hi
 rw [getD_end]
 by_cases hl : i < ds.length
 ·rw [if_pos hl]; exact h i hl
 ·obtain rfl : i = ds.length := by simp at hi; omega
  rw [if_neg hl,if_pos rfl]; exact hd
structure SysD where
 sg : Nat
 ds : List ObD
 tms : List (Int × Int)
structure SysOk (y : SysD) : Prop where
 sg : 1 ≤ y.sg ∧ y.sg ≤ 4
 n : 1 ≤ y.ds.length ∧ y.ds.length ≤ 3
 t : y.tms.length ≤ 3
 ob : ∀ i,i < y.ds.length → ObOk y.ds.length y.sg y.tms.length i (y.ds.getD i ob0)
 tm : ∀ i,i < y.tms.length → (0 ≤ (y.tms.getD i (0,0)).1 ∧ (y.tms.getD i (0,0)).1 < y.ds.length) ∧ (0 ≤ (y.tms.getD i (0,0)).2 ∧ (y.tms.getD i (0,0)).2 < y.sg)
structure SysV (X : World) (B : Nat) (y : SysD) (ov tv : Value) : Prop where
 o : ∃ R : List (List Value),X.ownsRow B 66 8 ov y.ds.length R.flatten ∧ ObsIn X B y.ds R
 t : X.ownsRow B 57 2 tv y.tms.length (cellsI y.tms)
def SysEd (w w' : World) (cb : Nat) (co : Option Addr) (n cap A : Nat) (F : SysD × Cs) (P : Prop) (e : Ending) : Prop := ∃ (y : SysD) (ov tv : Value),e = .returned (.agg #[.int .i64 (y.sg : Int),ov,tv]) ∧ SysV w' w.heap.size y ov tv ∧ SysOk y ∧ Cur w' cb co n cap A F.2 (P ∧ y = F.1) ∧ Dw cb w w'
theorem tm_snoc {m sg : Nat} {tms : List (Int × Int)} {a b : Int} (h : ∀ i,i < tms.length → (0 ≤ (tms.getD i (0,0)).1 ∧ (tms.getD i (0,0)).1 < m) ∧ (0 ≤ (tms.getD i (0,0)).2 ∧ (tms.getD i (0,0)).2 < sg)) (ha : 0 ≤ a ∧ a < m) (hb : 0 ≤ b ∧ b < sg) : ∀ i,i < (tms ++ [(a,b)]).length → (0 ≤ ((tms ++ [(a,b)]).getD i (0,0)).1 ∧ ((tms ++ [(a,b)]).getD i (0,0)).1 < m) ∧ (0 ≤ ((tms ++ [(a,b)]).getD i (0,0)).2 ∧ ((tms ++ [(a,b)]).getD i (0,0)).2 < sg) := by
 intro i hi
 rw [getD_end]
 by_cases hl : i < tms.length
 ·rw [if_pos hl]; exact h i hl
 ·obtain rfl : i = tms.length := by simp at hi; omega
  rw [if_neg hl,if_pos rfl]; exact ⟨ha,hb⟩
theorem TmI.ret {w : World} {cb : Nat} {co : Option Addr} {n cap A A' HS : Nat} {sg : Nat} {ov tv : Value} {ds : List ObD} {R : List (List Value)} {tms : List (Int × Int)} {X : World} {F : SysD × Cs} {σ : Cs} {P Q : Prop} (h : TmI w cb co n cap A HS (sg : Int) ov tv ds R tms X σ Q) (hp : P) (hF : F = (⟨sg,ds,tms⟩,σ)) (hy : SysOk ⟨sg,ds,tms⟩) (hA : A ≤ A') : SysEd w (((X.setCell ⟨w.heap.size,0,none⟩ (.int .i64 (sg : Int))).setCell ⟨w.heap.size,1,none⟩ ov).setCell ⟨w.heap.size,2,none⟩ tv) cb co n cap A' F P (.returned (.agg #[.int .i64 (sg : Int),ov,tv])) := by
 obtain ⟨Y,hY⟩ : ∃ Y,Y = ((X.setCell ⟨w.heap.size,0,none⟩ (.int .i64 (sg : Int))).setCell ⟨w.heap.size,1,none⟩ ov).setCell ⟨w.heap.size,2,none⟩ tv := ⟨_,rfl⟩
 have hP : OnlyP (fun q => q = w.heap.size) X Y := by rw [hY]; exact OnlyP.trans (OnlyP.trans (OnlyP.set (P := fun q => q = w.heap.size) _ rfl) (OnlyP.set (P := fun q => q = w.heap.size) _ rfl)) (OnlyP.set (P := fun q => q = w.heap.size) _ rfl)
 rw [← hY]
 have c0 := h.sy.cb0
 have far : FarP X (w.heap.size + 1) (fun q => q = w.heap.size) := fun b _ _ _ _ hb e => by omega
 refine ⟨⟨sg,ds,tms⟩,ov,tv,rfl,⟨⟨R,ownsRow_base (hP.own h.sy.oo (fun q e e2 => by have := (h.sy.oo.lt q e).1; omega)) (by omega),(h.sy.oi.keep hP far).base (by omega)⟩,ownsRow_base (hP.own h.tw (fun q e e2 => by have := (h.tw.lt q e).1; omega)) (by omega)⟩,hy,by rw [hF]; exact ((h.sy.cur.only hP (by omega) (fun hn g o e => by have := h.sy.g0 hn g o e; omega)).mono hA).with ⟨hp,rfl⟩,⟨hP.os.trans h.sy.dw.os,hP.tape.trans h.sy.dw.tape,hP.output.trans h.sy.dw.output,Nat.le_trans h.sy.dw.size hP.size,fun q hq hn => (hP.block q (Nat.lt_of_lt_of_le hq h.sy.dw.size) (by omega)).trans (h.sy.dw.block q hq hn)⟩⟩
end Go.Proofs.YtkdgkomnbjepdaaGreatDoor

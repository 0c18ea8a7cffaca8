import Derived.Test.YtkdgkomnbjepdaaGreatDoorGd
namespace Go.Proofs.YtkdgkomnbjepdaaGreatDoor
open Go.RowKit Go.Sort
set_option linter.unusedVariables false
attribute [local go_sem ↓] Go.wp_at_zero Go.wp_at_succ
structure StB (w : World) (cb : Nat) (co : Option Addr) (n cap A : Nat) (lx : Array Value) (sv tv : Value) (ss : List StD) (R : List (List Value)) (HS : Nat) (sx : Array Value) (X : World) (σ : Cs) (F : Prop) : Prop where
 ch : ChI w cb co n cap A lx sv tv ss R X σ F
 s : X.heap[HS]? = some (.cells sx 71 (0,0))
 hs : w.heap.size + 1 + 1 < HS
 nv : sv.ownBlock ≠ some HS
section
variable {w : World} {cb : Nat} {co : Option Addr} {n cap A A' : Nat} {lx : Array Value} {sv tv : Value} {ss : List StD} {R : List (List Value)} {HS : Nat} {sx : Array Value} {X Y : World} {σ τ : Cs} {F G : Prop}
theorem stb_start (h : ChI w cb co n cap A lx sv tv ss R X σ F) (sx : Array Value) : StB w cb co n cap A lx sv tv ss R X.heap.size sx (X.alloc (.cells sx 71)) σ F :=
 ⟨h.below (below1 _ _),heap_alloc_new _ _,lt_of_block h.c,fun e => by have := (h.so.lt _ e).2; omega⟩
theorem StB.draw (h : StB w cb co n cap A lx sv tv ss R HS sx X σ F) (hd : Dw cb X Y) (hc : Cur Y cb co n cap A' τ G) : StB w cb co n cap A' lx sv tv ss R HS sx Y τ G :=
 ⟨h.ch.draw hd hc,hd.at h.s (by have := h.ch.cb0; have := h.hs; omega),h.hs,h.nv⟩
theorem StB.below (h : StB w cb co n cap A lx sv tv ss R HS sx X σ F) (hb : Below X.heap.size X Y) : StB w cb co n cap A lx sv tv ss R HS sx Y σ F := ⟨h.ch.below hb,block_below h.s hb,h.hs,h.nv⟩
theorem StB.set {a b c d a' b' c' d' u : Value} {o : Nat} (h : StB w cb co n cap A lx sv tv ss R HS #[a,b,c,d] X σ F) (e : (#[a,b,c,d] : Array Value).setIfInBounds o u = #[a',b',c',d']) : StB w cb co n cap A lx sv tv ss R HS #[a',b',c',d'] (X.setCell ⟨HS,o,none⟩ u) σ F := by
 have h1 := h.hs
 have hP : OnlyP (fun q => q = HS) X (X.setCell ⟨HS,o,none⟩ u) := OnlyP.set _ rfl
 refine ⟨h.ch.keep hP (fun q e => by omega) (fun q e e2 => h.nv (by rw [← e2]; exact e)) (fun b cs t hb ht _ e2 => ?_),by rw [heap_setCell_same X HS o _ _ u h.s,e],h1,h.nv⟩
 rw [e2,h.s] at hb
 simp at hb
 rcases ht with rfl | rfl
 ·exact absurd hb.2 (by decide)
 ·exact absurd hb.2 (by decide)
theorem StB.mono (h : StB w cb co n cap A lx sv tv ss R HS sx X σ F) (hA : A ≤ A') : StB w cb co n cap A' lx sv tv ss R HS sx X σ F := ⟨⟨h.ch.cur.mono hA,h.ch.dw,h.ch.lb,h.ch.r,h.ch.c,h.ch.so,h.ch.si,h.ch.cb0,h.ch.g0⟩,h.s,h.hs,h.nv⟩
theorem StB.fact (h : StB w cb co n cap A lx sv tv ss R HS sx X σ F) (hg : G) : StB w cb co n cap A lx sv tv ss R HS sx X σ G := ⟨h.ch.fact hg,h.s,h.hs,h.nv⟩
theorem StB.le (h : StB w cb co n cap A lx sv tv ss R HS sx X σ F) : w.heap.size + 1 + 1 + 1 ≤ X.heap.size := Nat.le_trans (show w.heap.size + 1 + 1 + 1 ≤ HS from h.hs) (Nat.le_of_lt (lt_of_block h.s))
end
theorem stms_ok {l : LimD} {sts : List StmD} (hl : limP l) (h : sts.length ≤ 50 ∧ ∀ i,i < sts.length → stmB l (sts.getD i stm0) = true) : stmsB l sts = true := by unfold stmsB; exact decide_eq_true ⟨hl,h⟩
theorem ChI.mono {w : World} {cb : Nat} {co : Option Addr} {n cap A A' : Nat} {lx : Array Value} {sv tv : Value} {ss : List StD} {R : List (List Value)} {X : World} {σ : Cs} {F : Prop} (h : ChI w cb co n cap A lx sv tv ss R X σ F) (hA : A ≤ A') : ChI w cb co n cap A' lx sv tv ss R X σ F := ⟨h.cur.mono hA,h.dw,h.lb,h.r,h.c,h.so,h.si,h.cb0,h.g0⟩
theorem ini_snoc {ss : List StD} {d : StD} (h : ∀ i,i < ss.length → (ss.getD i st0).initial = -1) (hd : d.initial = -1) : ∀ i,i < (ss ++ [d]).length → ((ss ++ [d]).getD i st0).initial = -1 := by
 intro i hi
 rw [getD_end]
 by_cases hl : i < ss.length
 ·rw [if_pos hl]; exact h i hl
 ·obtain rfl : i = ss.length := by simp at hi; omega
  rw [if_neg hl,if_pos rfl]; exact hd
theorem infoTransD : (Tryz.prog.info? 75).map (fun i => (i.zero,i.size,i.bytes)) = some (some (.agg #[.int .i64 0,.int .i64 0,.slice none 0 0,.int .i64 0,.slice none 0 0]),5,72) := by kernel_rfl
theorem ok_snoc {q : Nat} {l : LimD} {ts : List TrD} {d : TrD} (h : ∀ i,i < ts.length → okTr q l (ts.getD i tr0) = true) (hd : okTr q l d = true) : ∀ i,i < (ts ++ [d]).length → okTr q l ((ts ++ [d]).getD i tr0) = true := by
 intro i hi
 rw [getD_end]
 by_cases hl : i < ts.length
 ·rw [if_pos hl]; exact h i hl
 ·obtain rfl : i = ts.length := by simp at hi; omega
  rw [if_neg hl,if_pos rfl]; exact hd
theorem StatesIn.base {X : World} {B C : Nat} {ds : List StD} {R : List (List Value)} (h : StatesIn X B ds R) (hb : C ≤ B) : StatesIn X C ds R := ⟨h.1,fun i hi => by
 obtain ⟨ev,xv,e,h1,h2⟩ := h.2 i hi
 exact ⟨ev,xv,e,h1.base hb,h2.base hb⟩⟩
theorem TrsIn.base {X : World} {B C : Nat} {ds : List TrD} {Q : List (List Value)} (h : TrsIn X B ds Q) (hb : C ≤ B) : TrsIn X C ds Q := ⟨h.1,fun i hi => by
 obtain ⟨gv,av,e,h1,h2⟩ := h.2 i hi
 exact ⟨gv,av,e,ownsRow_base h1 hb,h2.base hb⟩⟩
def parF (n k : Nat) (σ : Cs) : Int × Cs :=
 if k = 0 then (-1,σ)
 else if 2 < k then (if (pickF n 3 (pickF n (k : Int) σ).2).1 = 0 then ((k : Int) - 1,(pickF n 3 (pickF n (k : Int) σ).2).2) else (((pickF n (k : Int) σ).1 : Int),(pickF n 3 (pickF n (k : Int) σ).2).2))
 else (((pickF n (k : Int) σ).1 : Int),(pickF n (k : Int) σ).2)
theorem parF_0 {n k : Nat} {σ : Cs} (h : k = 0) : parF n k σ = (-1,σ) := if_pos h
theorem parF_s {n k p : Nat} {σ : Cs} (h : ¬ k = 0) (h2 : ¬ 2 < k) (hp : p = (pickF n (k : Int) σ).1) : parF n k σ = ((p : Int),(pickF n (k : Int) σ).2) := by
 unfold parF
 rw [if_neg h,if_neg h2,← hp]
theorem parF_z {n k z : Nat} {σ : Cs} (h2 : 2 < k) (hz : z = (pickF n 3 (pickF n (k : Int) σ).2).1) (h0 : z = 0) : parF n k σ = ((k : Int) - 1,(pickF n 3 (pickF n (k : Int) σ).2).2) := by
 unfold parF
 rw [if_neg (by omega),if_pos h2,← hz,if_pos h0]
theorem parF_p {n k p z : Nat} {σ : Cs} (h2 : 2 < k) (hp : p = (pickF n (k : Int) σ).1) (hz : z = (pickF n 3 (pickF n (k : Int) σ).2).1) (h0 : ¬ z = 0) : parF n k σ = ((p : Int),(pickF n 3 (pickF n (k : Int) σ).2).2) := by
 unfold parF
 rw [if_neg (by omega),if_pos h2,← hz,if_neg h0,← hp]
def stateF (n : Nat) (o s t : Int) (v k : Nat) (σ : Cs) : StD × Cs :=
 let p := parF n k σ
 let e := stmsF n o s t v 2 p.2
 let y := pickF n 2 e.2
 let x := if y.1 = 0 then stmsF n o s t v 2 y.2 else ([],y.2)
 (⟨p.1,-1,e.1,x.1⟩,x.2)
theorem stateF_x {n : Nat} {o s t pv : Int} {v k y : Nat} {s1 s2 : List StmD} {σ : Cs} (hp : pv = (parF n k σ).1) (h1 : s1 = (stmsF n o s t v 2 (parF n k σ).2).1) (hy : y = (pickF n 2 (stmsF n o s t v 2 (parF n k σ).2).2).1) (h2 : s2 = (stmsF n o s t v 2 (pickF n 2 (stmsF n o s t v 2 (parF n k σ).2).2).2).1) (y0 : y = 0) : stateF n o s t v k σ = (⟨pv,-1,s1,s2⟩,(stmsF n o s t v 2 (pickF n 2 (stmsF n o s t v 2 (parF n k σ).2).2).2).2) := by
 unfold stateF
 simp only [← hp,← h1,← hy,if_pos y0,← h2]
theorem stateF_o {n : Nat} {o s t pv : Int} {v k y : Nat} {s1 : List StmD} {σ : Cs} (hp : pv = (parF n k σ).1) (h1 : s1 = (stmsF n o s t v 2 (parF n k σ).2).1) (hy : y = (pickF n 2 (stmsF n o s t v 2 (parF n k σ).2).2).1) (y0 : ¬ y = 0) : stateF n o s t v k σ = (⟨pv,-1,s1,[]⟩,(pickF n 2 (stmsF n o s t v 2 (parF n k σ).2).2).2) := by
 unfold stateF
 simp only [← hp,← h1,← hy,if_neg y0]
def statesL (n : Nat) (o s t : Int) (v : Nat) : Nat → Cs → List StD × Cs
 | 0,σ => ([],σ)
 | k + 1,σ => ((statesL n o s t v k σ).1 ++ [(stateF n o s t v k (statesL n o s t v k σ).2).1],(stateF n o s t v k (statesL n o s t v k σ).2).2)
theorem statesL_step {n : Nat} {o s t : Int} {v k : Nat} {σ τ τ' : Cs} {ss : List StD} {d : StD} (hs : ss = (statesL n o s t v k σ).1) (hσ : τ = (statesL n o s t v k σ).2) (h : stateF n o s t v k τ = (d,τ')) : statesL n o s t v (k + 1) σ = (ss ++ [d],τ') := by
 rw [statesL,← hs,← hσ,h]
def inStep (n i j : Nat) (x : List StD × Cs) : List StD × Cs :=
 if (x.1.getD j st0).parent = (i : Int) then
  if (x.1.getD i st0).initial < 0 then (setIni x.1 i (j : Int),x.2)
  else if (pickF n 2 x.2).1 = 1 then (setIni x.1 i (j : Int),(pickF n 2 x.2).2) else (x.1,(pickF n 2 x.2).2)
 else x
def inRow (n i : Nat) : Nat → List StD × Cs → List StD × Cs
 | 0,x => x
 | d + 1,x => inStep n i (i + 1 + d) (inRow n i d x)
def inAll (n m : Nat) : Nat → List StD × Cs → List StD × Cs
 | 0,x => x
 | i + 1,x => inRow n i (m - (i + 1)) (inAll n m i x)
theorem inRow_step {n q j : Nat} {x : List StD × Cs} (h : q + 1 ≤ j) : inRow n q (j + 1 - (q + 1)) x = inStep n q j (inRow n q (j - (q + 1)) x) := by
 rw [show j + 1 - (q + 1) = (j - (q + 1)) + 1 by omega,inRow,show q + 1 + (j - (q + 1)) = j by omega]
theorem inStep_set {n i j : Nat} {x : List StD × Cs} {ss : List StD} (hs : ss = x.1) (h : (ss.getD j st0).parent = (i : Int)) (h0 : (ss.getD i st0).initial < 0) : inStep n i j x = (setIni ss i (j : Int),x.2) := by
 subst hs
 unfold inStep
 rw [if_pos h,if_pos h0]
theorem inStep_one {n i j y : Nat} {x : List StD × Cs} {ss : List StD} (hs : ss = x.1) (h : (ss.getD j st0).parent = (i : Int)) (h0 : ¬ (ss.getD i st0).initial < 0) (hy : y = (pickF n 2 x.2).1) (h1 : y = 1) : inStep n i j x = (setIni ss i (j : Int),(pickF n 2 x.2).2) := by
 subst hs
 unfold inStep
 rw [if_pos h,if_neg h0,← hy,if_pos h1]
theorem inStep_no {n i j y : Nat} {x : List StD × Cs} {ss : List StD} (hs : ss = x.1) (h : (ss.getD j st0).parent = (i : Int)) (h0 : ¬ (ss.getD i st0).initial < 0) (hy : y = (pickF n 2 x.2).1) (h1 : ¬ y = 1) : inStep n i j x = (ss,(pickF n 2 x.2).2) := by
 subst hs
 unfold inStep
 rw [if_pos h,if_neg h0,← hy,if_neg h1]
theorem inStep_skip {n i j : Nat} {x : List StD × Cs} {ss : List StD} (hs : ss = x.1) (h : ¬ (ss.getD j st0).parent = (i : Int)) : inStep n i j x = (ss,x.2) := by
 subst hs
 unfold inStep
 rw [if_neg h]
def transL (n : Nat) (o s t : Int) (v ns : Nat) : Nat → Cs → List TrD × Cs
 | 0,σ => ([],σ)
 | k + 1,σ => ((transL n o s t v ns k σ).1 ++ [(transF n o s t v ns (transL n o s t v ns k σ).2).1],(transF n o s t v ns (transL n o s t v ns k σ).2).2)
theorem transL_step {n : Nat} {o s t : Int} {v ns k : Nat} {σ : Cs} {ts : List TrD} {d : TrD} (hs : ts = (transL n o s t v ns k σ).1) (h : d = (transF n o s t v ns (transL n o s t v ns k σ).2).1) : transL n o s t v ns (k + 1) σ = (ts ++ [d],(transF n o s t v ns (transL n o s t v ns k σ).2).2) := by
 rw [transL,← hs,← h]
def chartF (n : Nat) (o s t : Int) (v : Nat) (σ : Cs) : (List StD × List TrD) × Cs :=
 let p := pickF n 9 σ
 let x := inAll n (9 - p.1) (9 - p.1) (statesL n o s t v (9 - p.1) p.2)
 let q := pickF n 8 x.2
 let ts := transL n o s t v (9 - p.1) (10 - q.1) q.2
 ((x.1,ts.1),ts.2)
def ChartEd (w w' : World) (cb : Nat) (co : Option Addr) (n cap A : Nat) (l : LimD) (F : (List StD × List TrD) × Cs) (P : Prop) (e : Ending) : Prop := ∃ (sv tv : Value) (ss : List StD) (R : List (List Value)) (ts : List TrD) (Q : List (List Value)),e = .returned (.agg #[sv,tv]) ∧ w'.ownsRow w.heap.size 71 4 sv ss.length R.flatten ∧ StatesIn w' w.heap.size ss R ∧ w'.ownsRow w.heap.size 75 5 tv ts.length Q.flatten ∧ TrsIn w' w.heap.size ts Q ∧ (checkOf ss ts l).1 = 0 ∧ ss.length ≤ 9 ∧ ts.length ≤ 10 ∧ Cur w' cb co n cap A F.2 (P ∧ ss = F.1.1 ∧ ts = F.1.2) ∧ Dw cb w w'
theorem InS.check {l : LimD} {k : Nat} {ss : List StD} {ts : List TrD} (h : InS l k k (k + 1) ss) (hk : 1 ≤ k ∧ k ≤ 9) (hl : limP l) (ht : ts.length ≤ 10) (hT : ∀ i,i < ts.length → okTr k l (ts.getD i tr0) = true) : (checkOf ss ts l).1 = 0 := by
 have e := h.len
 refine drawn_check (by omega) (by omega) hl ((h.ok 0 (by omega)).1 rfl) (fun i h1 h2 => (h.ok i h2).2.1 h1) (fun i hi => ?_) (fun i hi => (h.ok i hi).2.2) (fun j hj => by rw [e]; exact hT j hj)
 have := h.lo i (by omega)
 unfold IniI at this
 rw [← e] at this
 exact this
theorem CtI.ret {w : World} {cb : Nat} {co : Option Addr} {n cap A A' : Nat} {lx : Array Value} {sv tv : Value} {ss : List StD} {R : List (List Value)} {ts : List TrD} {Q : List (List Value)} {X : World} {l : LimD} {F : (List StD × List TrD) × Cs} {σ : Cs} {P P2 : Prop} (h : CtI w cb co n cap A lx sv tv ss R ts Q X σ P2) (hp : P) (hF : F = ((ss,ts),σ)) (hc : (checkOf ss ts l).1 = 0) (h1 : ss.length ≤ 9) (h2 : ts.length ≤ 10) (hA : A ≤ A') : ChartEd w ((X.setCell ⟨w.heap.size + 1,0,none⟩ sv).setCell ⟨w.heap.size + 1,1,none⟩ tv) cb co n cap A' l F P (.returned (.agg #[sv,tv])) := by
 obtain ⟨Y,hY⟩ : ∃ Y,Y = (X.setCell ⟨w.heap.size + 1,0,none⟩ sv).setCell ⟨w.heap.size + 1,1,none⟩ tv := ⟨_,rfl⟩
 have hP : OnlyP (fun q => q = w.heap.size + 1) X Y := by rw [hY]; exact OnlyP.trans (OnlyP.set (P := fun q => q = w.heap.size + 1) _ rfl) (OnlyP.set (P := fun q => q = w.heap.size + 1) _ rfl)
 rw [← hY]
 have c0 := h.ch.cb0
 have far : ∀ b cs t,X.heap[b]? = some (.cells cs t (0,0)) → (t = 107 ∨ t = 105) → w.heap.size + 1 + 1 + 1 ≤ b → ¬ b = w.heap.size + 1 := fun b _ _ _ _ hb e => by omega
 exact ⟨sv,tv,ss,R,ts,Q,rfl,ownsRow_base (hP.own h.ch.so (fun q e e2 => by have := (h.ch.so.lt q e).1; omega)) (by omega),(h.ch.si.keep hP far).base (by omega),ownsRow_base (hP.own h.tw (fun q e e2 => by have := (h.tw.lt q e).1; omega)) (by omega),(h.ti.keep hP far).base (by omega),hc,h1,h2,by rw [hF]; exact ((h.ch.cur.only hP (by omega) (fun hn g o e => by have := h.ch.g0 hn g o e; omega)).mono hA).with ⟨hp,rfl,rfl⟩,⟨hP.os.trans h.ch.dw.os,hP.tape.trans h.ch.dw.tape,hP.output.trans h.ch.dw.output,Nat.le_trans h.ch.dw.size hP.size,fun q hq hn => (hP.block q (Nat.lt_of_lt_of_le hq h.ch.dw.size) (by omega)).trans (h.ch.dw.block q hq hn)⟩⟩
theorem stms_nilD {l : LimD} (hl : limP l) : stmsB l [] = true := stms_ok hl ⟨by simp,fun i hi => absurd hi (by simp)⟩
set_option maxRecDepth 100000 in
set_option maxHeartbeats 16000000 in
theorem drawChart_any (cb : Nat) (co : Option Addr) (n cap A : Nat) (o s t : Int) (v : Nat) (hl : limP ⟨o,s,t,v⟩) (hs1 : 1 ≤ s) {σ : Cs} {PP : Prop} (w : World) (hA : A ≤ 10000000) (h : Cur w cb co n cap A σ PP) :
  Calls Tryz.prog 21 #[.pointer (some ⟨cb,0,none⟩),.agg #[.int .i64 o,.int .i64 s,.int .i64 t,.int .i64 (v : Int)]] w fun e w' => ChartEd w w' cb co n cap (A + 100000) ⟨o,s,t,v⟩ (chartF n o s t v σ) PP e := by
 have H0 := hid h
 have HL := hid hl
 have C0 := hid (ch_start (lx := #[.int .i64 o,.int .i64 s,.int .i64 t,.int .i64 (v : Int)]) h)
 have P9 := hid (pick_any cb co n cap A 9 (by omega) _ (by omega) C0.out.cur)
 have P := hid (fun B k w' (hk : k ≤ 65536) (hB : B ≤ 10000000000) {τ : Cs} {Q : Prop} (h' : Cur w' cb co n cap B τ Q) => pick_any cb co n cap B k hk w' (by omega) h')
 have DS : Hid (∀ B w' {τ : Cs} {Q : Prop},B ≤ 90000000 → Cur w' cb co n cap B τ Q → Calls Tryz.prog 35 #[.pointer (some ⟨cb,0,none⟩),.agg #[.int .i64 o,.int .i64 s,.int .i64 t,.int .i64 (v : Int)],.int .i64 2] w' fun e w'' => StmsEd w' w'' cb co n cap (B + 2 + 2 * 200) 2 ⟨o,s,t,v⟩ (stmsF n o s t v 2 τ) Q e) := hid (fun B w' {τ Q} hB h' => drawStms_any cb co n cap B o s t v hl 2 (by omega) w' hB h')
 have DT := hid (fun B ns w' (hns : 1 ≤ ns ∧ ns ≤ 200) (hB : B ≤ 80000000) {τ : Cs} {Q : Prop} (h' : Cur w' cb co n cap B τ Q) => drawTrans_any cb co n cap B o s t v hl hs1 ns hns w' hB h')
 obtain ⟨i0,hi0,hz0,hz1,hz2⟩ := info_parts infoState
 obtain ⟨j0,hj0,hj1,hj2,hj3⟩ := info_parts infoTransD
 clear h hl
 go_enter Tryz.func21,Tryz.ntmps21
 go_wp2_with (go_at_call 19; refine P9.out.mono ?_; rintro e w1 ⟨r,rfl,hr,hc,hd⟩; have r9 : r < 9 := (by omega); have C1 := hid (C0.out.draw hd hc); clear hc hd hr)
 obtain ⟨m,hm⟩ : ∃ m : Nat,(9 : Int) - r = m := ⟨9 - r,by omega⟩
 have m9 : 1 ≤ m ∧ m ≤ 9 := by omega
 have HM : Hid (m = 9 - r) := hid (by omega)
 rw [hm]
 clear hm r9
 go_loopg [7] m (fun mm i X => ∃ (k : Nat) (sv : Value) (ss : List StD) (R : List (List Value)),k ≤ m ∧ mm = m - k ∧ i = .int .i64 k ∧ ss.length = k ∧ StsOk ⟨o,s,t,v⟩ ss ∧ (∀ i,i < ss.length → (ss.getD i st0).initial = -1) ∧ ChI w cb co n cap (A + 2 + k * 1000) #[.int .i64 o,.int .i64 s,.int .i64 t,.int .i64 (v : Int)] sv (.slice none 0 0) ss R X (statesL n o s t v k (pickF n 9 σ).2).2 (PP ∧ r = (pickF n 9 σ).1 ∧ ss = (statesL n o s t v k (pickF n 9 σ).2).1))
 case atStart => exact ⟨0,_,[],[],by omega,by omega,rfl,rfl,fun i hi => absurd hi (by simp),fun i hi => absurd hi (by simp),C1.out.fact ⟨C1.out.cur.fact.1,C1.out.cur.fact.2,rfl⟩⟩
 case round =>
  obtain ⟨k,sv,ss,R,hk,rfl,rfl,hlen,hok,hini,hI⟩ := hrel
  have FI := hid hI.cur.fact
  obtain ⟨σk,hσk⟩ : ∃ x,x = (statesL n o s t v k (pickF n 9 σ).2).2 := ⟨_,rfl⟩
  obtain ⟨INV,hINV⟩ : ∃ x : Prop,x = (PP ∧ r = (pickF n 9 σ).1 ∧ ss = (statesL n o s t v k (pickF n 9 σ).2).1) := ⟨_,rfl⟩
  rw [← hσk,← hINV] at hI
  have HSk := hid hσk
  clear hσk hINV
  have I := hid hI
  have HLn := hid hlen
  have HOK := hid hok
  have HIN := hid hini
  by_cases hlt : k < m
  ·have ki : (k : Int) < (m : Int) := by omega
   obtain ⟨sa,sc,hsv⟩ := own_any hI.so
   subst hsv
   have kl : ss.length ≤ 9 := by omega
   have S1 := hid (stb_start hI #[.int .i64 (-1),.int .i64 (-1),.slice none 0 0,.slice none 0 0])
   clear hI hlen hok hini
   go_upto_region 7 with fail
   obtain ⟨HS,hHS⟩ : ∃ x,x = wr.heap.size := ⟨_,rfl⟩
   obtain ⟨W,hW⟩ : ∃ W,W = wr.alloc (.cells #[.int .i64 (-1),.int .i64 (-1),.slice none 0 0,.slice none 0 0] 71) := ⟨_,rfl⟩
   rw [← hW,← hHS] at S1
   rw [← hW,← hHS]
   clear hW hHS
   obtain ⟨j0,j1,j2,j3⟩ := quad_cells S1.out.ch.lb
   have jl := lt_of_block S1.out.ch.lb
   obtain ⟨t0,t1,t2,t3⟩ := quad_cells S1.out.s
   have tf := frz_of S1.out.s
   have tl := lt_of_block S1.out.s
   have nL : ¬ (HS = w.heap.size) := by have := S1.out.hs; omega
   have nL2 : ¬ (w.heap.size = HS) := fun e => nL e.symm
   have nC : ¬ (HS = w.heap.size + 1 + 1) := by have := S1.out.hs; omega
   have nC2 : ¬ (w.heap.size + 1 + 1 = HS) := fun e => nC e.symm
   by_cases hk0 : k = 0
   ·have kf : ¬ (k : Int) > 0 := by omega
    go_upto_region 14 with (first
     | (go_at_call 19; have q := P.out (A + 2 + k * 1000) (k : Int) _ (by omega) (by omega) S1.out.ch.cur; with_reducible refine q.mono ?_; clear q; rintro e w2 ⟨p,rfl,hp,hc,hd⟩; have pk : (p : Int) < k := (by omega); have S2 := hid (S1.out.draw hd hc); have S2s := hid (S2.out.set (o := 0) (u := .int .i64 (p : Int)) (a' := .int .i64 (p : Int)) (b' := .int .i64 (-1)) (c' := .slice none 0 0) (d' := .slice none 0 0) rfl); obtain ⟨a0,a1,a2,a3⟩ := quad_cells S2.out.s; have af := frz_of S2.out.s; have al := lt_of_block S2.out.s; obtain ⟨g0,g1,g2,g3⟩ := quad_cells S2.out.ch.lb; have gl := lt_of_block S2.out.ch.lb; clear hc hd hp)
     | (go_at_call 19; have q := P.out (A + 2 + k * 1000 + 2) 3 _ (by omega) (by omega) S2s.out.ch.cur; with_reducible refine q.mono ?_; clear q; rintro e w3 ⟨z,rfl,hz,hc,hd⟩; have S3 := hid (S2s.out.draw hd hc); have S3s := hid (S3.out.set (o := 0) (u := .int .i64 ((k : Int) - 1)) (a' := .int .i64 ((k : Int) - 1)) (b' := .int .i64 (-1)) (c' := .slice none 0 0) (d' := .slice none 0 0) rfl); obtain ⟨b0,b1,b2,b3⟩ := quad_cells S3.out.s; have bf := frz_of S3.out.s; have bl := lt_of_block S3.out.s; obtain ⟨e0,e1,e2,e3⟩ := quad_cells S3.out.ch.lb; have el := lt_of_block S3.out.ch.lb; clear hc hd hz)
     | (go_at_call 35; have q := DS.out (A + 2 + k * 1000 + 2 + 2) _ (by omega) S3s.out.ch.cur; with_reducible refine q.mono ?_; clear q; intro e w4 hq; unfold StmsEd at hq; obtain ⟨ev,s1,R1,rfl,ho,hin,hlen1,hok1,hfo,hc,hd⟩ := hq; obtain ⟨ea,ec,hev⟩ := hfo; subst hev; obtain ⟨pv,hpv⟩ : ∃ pv : Int,pv = ((k : Int) - 1) := ⟨_,rfl⟩; have S4 : Hid (StB w cb co n cap (A + 2 + k * 1000 + 500) #[.int .i64 o,.int .i64 s,.int .i64 t,.int .i64 (v : Int)] (.slice sa ss.length sc) (.slice none 0 0) ss R HS #[.int .i64 pv,.int .i64 (-1),.slice none 0 0,.slice none 0 0] w4 (stmsF n o s t v 2 (parF n k σk).2).2 ((INV ∧ pv = (parF n k σk).1) ∧ s1 = (stmsF n o s t v 2 (parF n k σk).2).1)) := hid (by have e := parF_z (by omega) hc.fact.1.2 (by first | omega | (have h : ((z : Int) == 0) = true := (by assumption); simp at h; omega) | (have h : ¬ ((z : Int) == 0) = true := (by assumption); simp at h; omega) | (have h : ((z : Int) == 0) = false := (by assumption); simp at h; omega)); rw [hpv,e]; exact ((S3s.out.draw hd hc).mono (by omega)).fact ⟨⟨hc.fact.1.1.1,rfl⟩,hc.fact.2⟩); have PVF : Hid ((k = 0 → pv = -1) ∧ (0 < k → 0 ≤ pv ∧ pv < k)) := hid (by rw [hpv]; omega); have S4s := hid (S4.out.set (o := 2) (u := .slice ea s1.length ec) (a' := .int .i64 pv) (b' := .int .i64 (-1)) (c' := .slice ea s1.length ec) (d' := .slice none 0 0) rfl); have V4 : Hid (StmsV (w4.setCell ⟨HS,2,none⟩ (.slice ea s1.length ec)) (w.heap.size + 1 + 1 + 1) (.slice ea s1.length ec) s1) := hid (StmsV.set (StmsV.base (stmsV_mk ho hin) S3s.out.le) S4.out.s (by decide) (by decide)); have E4 := hid (stms_ok HL.out (And.intro (Nat.le_trans hlen1 (show 2 ≤ 50 by omega)) hok1)); obtain ⟨c0,c1,c2,c3⟩ := quad_cells S4.out.s; have cf := frz_of S4.out.s; have cl := lt_of_block S4.out.s; clear ho hin hlen1 hok1 hc hd hpv)
     | (go_at_call 35; have q := DS.out (A + 2 + k * 1000 + 2 + 2) _ (by omega) S3.out.ch.cur; with_reducible refine q.mono ?_; clear q; intro e w4 hq; unfold StmsEd at hq; obtain ⟨ev,s1,R1,rfl,ho,hin,hlen1,hok1,hfo,hc,hd⟩ := hq; obtain ⟨ea,ec,hev⟩ := hfo; subst hev; obtain ⟨pv,hpv⟩ : ∃ pv : Int,pv = (p : Int) := ⟨_,rfl⟩; have S4 : Hid (StB w cb co n cap (A + 2 + k * 1000 + 500) #[.int .i64 o,.int .i64 s,.int .i64 t,.int .i64 (v : Int)] (.slice sa ss.length sc) (.slice none 0 0) ss R HS #[.int .i64 pv,.int .i64 (-1),.slice none 0 0,.slice none 0 0] w4 (stmsF n o s t v 2 (parF n k σk).2).2 ((INV ∧ pv = (parF n k σk).1) ∧ s1 = (stmsF n o s t v 2 (parF n k σk).2).1)) := hid (by have e := parF_p (by omega) hc.fact.1.1.2 hc.fact.1.2 (by first | omega | (have h : ((z : Int) == 0) = true := (by assumption); simp at h; omega) | (have h : ¬ ((z : Int) == 0) = true := (by assumption); simp at h; omega) | (have h : ((z : Int) == 0) = false := (by assumption); simp at h; omega)); rw [hpv,e]; exact ((S3.out.draw hd hc).mono (by omega)).fact ⟨⟨hc.fact.1.1.1,rfl⟩,hc.fact.2⟩); have PVF : Hid ((k = 0 → pv = -1) ∧ (0 < k → 0 ≤ pv ∧ pv < k)) := hid (by rw [hpv]; omega); have S4s := hid (S4.out.set (o := 2) (u := .slice ea s1.length ec) (a' := .int .i64 pv) (b' := .int .i64 (-1)) (c' := .slice ea s1.length ec) (d' := .slice none 0 0) rfl); have V4 : Hid (StmsV (w4.setCell ⟨HS,2,none⟩ (.slice ea s1.length ec)) (w.heap.size + 1 + 1 + 1) (.slice ea s1.length ec) s1) := hid (StmsV.set (StmsV.base (stmsV_mk ho hin) S3.out.le) S4.out.s (by decide) (by decide)); have E4 := hid (stms_ok HL.out (And.intro (Nat.le_trans hlen1 (show 2 ≤ 50 by omega)) hok1)); obtain ⟨c0,c1,c2,c3⟩ := quad_cells S4.out.s; have cf := frz_of S4.out.s; have cl := lt_of_block S4.out.s; clear ho hin hlen1 hok1 hc hd hpv)
     | (go_at_call 35; have q := DS.out (A + 2 + k * 1000 + 2) _ (by omega) S2s.out.ch.cur; with_reducible refine q.mono ?_; clear q; intro e w4 hq; unfold StmsEd at hq; obtain ⟨ev,s1,R1,rfl,ho,hin,hlen1,hok1,hfo,hc,hd⟩ := hq; obtain ⟨ea,ec,hev⟩ := hfo; subst hev; obtain ⟨pv,hpv⟩ : ∃ pv : Int,pv = (p : Int) := ⟨_,rfl⟩; have S4 : Hid (StB w cb co n cap (A + 2 + k * 1000 + 500) #[.int .i64 o,.int .i64 s,.int .i64 t,.int .i64 (v : Int)] (.slice sa ss.length sc) (.slice none 0 0) ss R HS #[.int .i64 pv,.int .i64 (-1),.slice none 0 0,.slice none 0 0] w4 (stmsF n o s t v 2 (parF n k σk).2).2 ((INV ∧ pv = (parF n k σk).1) ∧ s1 = (stmsF n o s t v 2 (parF n k σk).2).1)) := hid (by have e := parF_s (by omega) (by omega) hc.fact.1.2; rw [hpv,e]; exact ((S2s.out.draw hd hc).mono (by omega)).fact ⟨⟨hc.fact.1.1,rfl⟩,hc.fact.2⟩); have PVF : Hid ((k = 0 → pv = -1) ∧ (0 < k → 0 ≤ pv ∧ pv < k)) := hid (by rw [hpv]; omega); have S4s := hid (S4.out.set (o := 2) (u := .slice ea s1.length ec) (a' := .int .i64 pv) (b' := .int .i64 (-1)) (c' := .slice ea s1.length ec) (d' := .slice none 0 0) rfl); have V4 : Hid (StmsV (w4.setCell ⟨HS,2,none⟩ (.slice ea s1.length ec)) (w.heap.size + 1 + 1 + 1) (.slice ea s1.length ec) s1) := hid (StmsV.set (StmsV.base (stmsV_mk ho hin) S2s.out.le) S4.out.s (by decide) (by decide)); have E4 := hid (stms_ok HL.out (And.intro (Nat.le_trans hlen1 (show 2 ≤ 50 by omega)) hok1)); obtain ⟨c0,c1,c2,c3⟩ := quad_cells S4.out.s; have cf := frz_of S4.out.s; have cl := lt_of_block S4.out.s; clear ho hin hlen1 hok1 hc hd hpv)
     | (go_at_call 35; have q := DS.out (A + 2 + k * 1000) _ (by omega) S1.out.ch.cur; with_reducible refine q.mono ?_; clear q; intro e w4 hq; unfold StmsEd at hq; obtain ⟨ev,s1,R1,rfl,ho,hin,hlen1,hok1,hfo,hc,hd⟩ := hq; obtain ⟨ea,ec,hev⟩ := hfo; subst hev; obtain ⟨pv,hpv⟩ : ∃ pv : Int,pv = (-1) := ⟨_,rfl⟩; have S4 : Hid (StB w cb co n cap (A + 2 + k * 1000 + 500) #[.int .i64 o,.int .i64 s,.int .i64 t,.int .i64 (v : Int)] (.slice sa ss.length sc) (.slice none 0 0) ss R HS #[.int .i64 pv,.int .i64 (-1),.slice none 0 0,.slice none 0 0] w4 (stmsF n o s t v 2 (parF n k σk).2).2 ((INV ∧ pv = (parF n k σk).1) ∧ s1 = (stmsF n o s t v 2 (parF n k σk).2).1)) := hid (by have e : parF n k σk = (-1,σk) := parF_0 (by omega); rw [hpv,e]; exact ((S1.out.draw hd hc).mono (by omega)).fact ⟨⟨hc.fact.1,rfl⟩,hc.fact.2⟩); have PVF : Hid ((k = 0 → pv = -1) ∧ (0 < k → 0 ≤ pv ∧ pv < k)) := hid (by rw [hpv]; omega); have S4s := hid (S4.out.set (o := 2) (u := .slice ea s1.length ec) (a' := .int .i64 pv) (b' := .int .i64 (-1)) (c' := .slice ea s1.length ec) (d' := .slice none 0 0) rfl); have V4 : Hid (StmsV (w4.setCell ⟨HS,2,none⟩ (.slice ea s1.length ec)) (w.heap.size + 1 + 1 + 1) (.slice ea s1.length ec) s1) := hid (StmsV.set (StmsV.base (stmsV_mk ho hin) S1.out.le) S4.out.s (by decide) (by decide)); have E4 := hid (stms_ok HL.out (And.intro (Nat.le_trans hlen1 (show 2 ≤ 50 by omega)) hok1)); obtain ⟨c0,c1,c2,c3⟩ := quad_cells S4.out.s; have cf := frz_of S4.out.s; have cl := lt_of_block S4.out.s; clear ho hin hlen1 hok1 hc hd hpv)
     | (go_at_call 19; have q := P.out (A + 2 + k * 1000 + 500) 2 _ (by omega) (by omega) S4s.out.ch.cur; with_reducible refine q.mono ?_; clear q; rintro e w5 ⟨y,rfl,hy,hc,hd⟩; have S5 := hid (S4s.out.draw hd hc); have V5 := hid (V4.out.draw hd S4s.out.ch.cur (by have := S4s.out.ch.cb0; omega)); obtain ⟨l0,l1,l2,l3⟩ := quad_cells S5.out.ch.lb; have ll := lt_of_block S5.out.ch.lb; obtain ⟨d0,d1,d2,d3⟩ := quad_cells S5.out.s; have df := frz_of S5.out.s; have dl := lt_of_block S5.out.s; clear hc hd hy)
     | (go_at_call 35; have q := DS.out (A + 2 + k * 1000 + 500 + 2) _ (by omega) S5.out.ch.cur; with_reducible refine q.mono ?_; clear q; intro e w6 hq; unfold StmsEd at hq; obtain ⟨xv,s2,R2,rfl,ho,hin,hlen2,hok2,hfo,hc,hd⟩ := hq; obtain ⟨xa,xc,hxv⟩ := hfo; subst hxv; have S6 := hid (S5.out.draw hd hc); have S6s := hid (S6.out.set (o := 3) (u := .slice xa s2.length xc) (a' := .int .i64 pv) (b' := .int .i64 (-1)) (c' := .slice ea s1.length ec) (d' := .slice xa s2.length xc) rfl); have V6 : Hid (StmsV (w6.setCell ⟨HS,3,none⟩ (.slice xa s2.length xc)) (w.heap.size + 1 + 1 + 1) (.slice xa s2.length xc) s2) := hid (StmsV.set (StmsV.base (stmsV_mk ho hin) S5.out.le) S6.out.s (by decide) (by decide)); have V6e := hid (StmsV.set (o := 3) (u := .slice xa s2.length xc) (V5.out.draw hd S5.out.ch.cur (by have := S5.out.ch.cb0; omega)) S6.out.s (by decide) (by decide)); have E6 := hid (stms_ok HL.out (And.intro (Nat.le_trans hlen2 (show 2 ≤ 50 by omega)) hok2)); obtain ⟨f0,f1,f2,f3⟩ := quad_cells S6.out.s; have ff := frz_of S6.out.s; have fl := lt_of_block S6.out.s; clear ho hin hlen2 hok2 hc hd))
    ·obtain ⟨Z,hZ⟩ : ∃ Z,Z = w6.setCell ⟨HS,3,none⟩ (.slice xa s2.length xc) := ⟨_,rfl⟩
     rw [← hZ] at S6s V6 V6e ⊢
     clear hZ
     obtain ⟨u0,u1,u2,u3⟩ := quad_cells S6s.out.s
     have uf := frz_of S6s.out.s
     have ul := lt_of_block S6s.out.s
     obtain ⟨c0',c1',c2',c3'⟩ := pair_cells S6s.out.ch.c
     have cl' := lt_of_block S6s.out.ch.c
     have SB := hid (S6s.out.below (below1 Z (.cells #[.int .i64 pv,.int .i64 (-1),.slice ea s1.length ec,.slice xa s2.length xc] 71)))
     have NW := hid (World.news_of_block (heap_alloc_new Z (.cells #[.int .i64 pv,.int .i64 (-1),.slice ea s1.length ec,.slice xa s2.length xc] 71)))
     have SI : Hid (StateIn (Z.alloc (.cells #[.int .i64 pv,.int .i64 (-1),.slice ea s1.length ec,.slice xa s2.length xc] 71)) (w.heap.size + 1 + 1 + 1) ⟨pv,-1,s1,s2⟩ [.int .i64 pv,.int .i64 (-1),.slice ea s1.length ec,.slice xa s2.length xc]) := hid ⟨_,_,rfl,StmsV.below V6e.out (below1 _ _),StmsV.below V6.out (below1 _ _)⟩
     go_wp2_with (at_builtin; refine wpList_append_lies _ rfl (.tmp 51) (.tmp 53) 61 rfl (w.heap.size + 1 + 1 + 1) 71 i0 _ 4 64 Tryz.underlying61 hi0 hz0 hz1 hz2 rfl (by decide) (.slice sa ss.length sc) ss.length R.flatten rfl SB.out.ch.so ⟨Z.heap.size,0,none⟩ 1 1 [.int .i64 pv,.int .i64 (-1),.slice ea s1.length ec,.slice xa s2.length xc] rfl rfl NW.out (by intro u hu; simp at hu; rcases hu with rfl | rfl | rfl | rfl <;> rfl) (by omega) (by unfold maxLen; omega) (by omega) SB.out.le (Z.heap.size + 1) (by simp) ?_)
     intro g7 cap7 w7 hown hgrow hat7 _
     have X7 := (hgrow.block _ (lt_of_block SB.out.ch.c) (fun e => own_far SB.out.ch.so (by decide) SB.out.ch.c e.symm)).trans SB.out.ch.c
     obtain ⟨v0,v1,v2,v3⟩ := pair_cells X7
     have vl := lt_of_block X7
     have CA := hid (ChI.add SB.out.ch SI.out hgrow hown)
     clear hown hgrow hat7 X7 u0 u1 u2 u3 uf ul c0' c1' c2' c3' cl'
     go_wp2_with fail
     go_roundg (m - (k + 1))
     case measure => omega
     case rel =>
      have hst := statesL_step FI.out.2.2 HSk.out (stateF_x CA.out.cur.fact.1.1.1.2 CA.out.cur.fact.1.1.2 CA.out.cur.fact.1.2 CA.out.cur.fact.2 (by first | omega | (have h : ((y : Int) == 0) = true := (by assumption); simp at h; omega) | (have h : ¬ ((y : Int) == 0) = true := (by assumption); simp at h; omega) | (have h : ((y : Int) == 0) = false := (by assumption); simp at h; omega)))
      have CB : ChI w cb co n cap (A + 2 + (k + 1) * 1000) _ _ _ _ _ _ _ _ := CA.out.mono (by omega)
      exact ⟨k + 1,.slice (some ⟨g7,0,none⟩) (ss.length + 1) cap7,ss ++ [⟨pv,-1,s1,s2⟩],R ++ [[.int .i64 pv,.int .i64 (-1),.slice ea s1.length ec,.slice xa s2.length xc]],by omega,rfl,by go_num,by simp [HLn.out],HOK.out.snoc (by rw [HLn.out]; exact PVF.out.1) (by rw [HLn.out]; exact PVF.out.2) E4.out E6.out,ini_snoc HIN.out rfl,by rw [hst]; exact CB.fact ⟨FI.out.1,FI.out.2.1,rfl⟩⟩
    ·obtain ⟨u0,u1,u2,u3⟩ := quad_cells S5.out.s
     have uf := frz_of S5.out.s
     have ul := lt_of_block S5.out.s
     obtain ⟨c0',c1',c2',c3'⟩ := pair_cells S5.out.ch.c
     have cl' := lt_of_block S5.out.ch.c
     have SB := hid (S5.out.below (below1 w5 (.cells #[.int .i64 pv,.int .i64 (-1),.slice ea s1.length ec,.slice none 0 0] 71)))
     have NW := hid (World.news_of_block (heap_alloc_new w5 (.cells #[.int .i64 pv,.int .i64 (-1),.slice ea s1.length ec,.slice none 0 0] 71)))
     have SI : Hid (StateIn (w5.alloc (.cells #[.int .i64 pv,.int .i64 (-1),.slice ea s1.length ec,.slice none 0 0] 71)) (w.heap.size + 1 + 1 + 1) ⟨pv,-1,s1,[]⟩ [.int .i64 pv,.int .i64 (-1),.slice ea s1.length ec,.slice none 0 0]) := hid ⟨_,_,rfl,StmsV.below V5.out (below1 _ _),StmsV.below (stmsV_nil _ _) (below1 _ _)⟩
     go_wp2_with (at_builtin; refine wpList_append_lies _ rfl (.tmp 51) (.tmp 53) 61 rfl (w.heap.size + 1 + 1 + 1) 71 i0 _ 4 64 Tryz.underlying61 hi0 hz0 hz1 hz2 rfl (by decide) (.slice sa ss.length sc) ss.length R.flatten rfl SB.out.ch.so ⟨w5.heap.size,0,none⟩ 1 1 [.int .i64 pv,.int .i64 (-1),.slice ea s1.length ec,.slice none 0 0] rfl rfl NW.out (by intro u hu; simp at hu; rcases hu with rfl | rfl | rfl | rfl <;> rfl) (by omega) (by unfold maxLen; omega) (by omega) SB.out.le (w5.heap.size + 1) (by simp) ?_)
     intro g7 cap7 w7 hown hgrow hat7 _
     have X7 := (hgrow.block _ (lt_of_block SB.out.ch.c) (fun e => own_far SB.out.ch.so (by decide) SB.out.ch.c e.symm)).trans SB.out.ch.c
     obtain ⟨v0,v1,v2,v3⟩ := pair_cells X7
     have vl := lt_of_block X7
     have CA := hid (ChI.add SB.out.ch SI.out hgrow hown)
     clear hown hgrow hat7 X7 u0 u1 u2 u3 uf ul c0' c1' c2' c3' cl'
     go_wp2_with fail
     go_roundg (m - (k + 1))
     case measure => omega
     case rel =>
      have hst := statesL_step FI.out.2.2 HSk.out (stateF_o CA.out.cur.fact.1.1.2 CA.out.cur.fact.1.2 CA.out.cur.fact.2 (by first | omega | (have h : ((y : Int) == 0) = true := (by assumption); simp at h; omega) | (have h : ¬ ((y : Int) == 0) = true := (by assumption); simp at h; omega) | (have h : ((y : Int) == 0) = false := (by assumption); simp at h; omega)))
      have CB : ChI w cb co n cap (A + 2 + (k + 1) * 1000) _ _ _ _ _ _ _ _ := CA.out.mono (by omega)
      exact ⟨k + 1,.slice (some ⟨g7,0,none⟩) (ss.length + 1) cap7,ss ++ [⟨pv,-1,s1,[]⟩],R ++ [[.int .i64 pv,.int .i64 (-1),.slice ea s1.length ec,.slice none 0 0]],by omega,rfl,by go_num,by simp [HLn.out],HOK.out.snoc (by rw [HLn.out]; exact PVF.out.1) (by rw [HLn.out]; exact PVF.out.2) E4.out (stms_nilD HL.out),ini_snoc HIN.out rfl,by rw [hst]; exact CB.fact ⟨FI.out.1,FI.out.2.1,rfl⟩⟩
   ·by_cases hk2 : k ≤ 2
    ·have kf : (k : Int) > 0 := by omega
     have kg : ¬ (k : Int) > 2 := by omega
     go_upto_region 14 with (first
     | (go_at_call 19; have q := P.out (A + 2 + k * 1000) (k : Int) _ (by omega) (by omega) S1.out.ch.cur; with_reducible refine q.mono ?_; clear q; rintro e w2 ⟨p,rfl,hp,hc,hd⟩; have pk : (p : Int) < k := (by omega); have S2 := hid (S1.out.draw hd hc); have S2s := hid (S2.out.set (o := 0) (u := .int .i64 (p : Int)) (a' := .int .i64 (p : Int)) (b' := .int .i64 (-1)) (c' := .slice none 0 0) (d' := .slice none 0 0) rfl); obtain ⟨a0,a1,a2,a3⟩ := quad_cells S2.out.s; have af := frz_of S2.out.s; have al := lt_of_block S2.out.s; obtain ⟨g0,g1,g2,g3⟩ := quad_cells S2.out.ch.lb; have gl := lt_of_block S2.out.ch.lb; clear hc hd hp)
     | (go_at_call 19; have q := P.out (A + 2 + k * 1000 + 2) 3 _ (by omega) (by omega) S2s.out.ch.cur; with_reducible refine q.mono ?_; clear q; rintro e w3 ⟨z,rfl,hz,hc,hd⟩; have S3 := hid (S2s.out.draw hd hc); have S3s := hid (S3.out.set (o := 0) (u := .int .i64 ((k : Int) - 1)) (a' := .int .i64 ((k : Int) - 1)) (b' := .int .i64 (-1)) (c' := .slice none 0 0) (d' := .slice none 0 0) rfl); obtain ⟨b0,b1,b2,b3⟩ := quad_cells S3.out.s; have bf := frz_of S3.out.s; have bl := lt_of_block S3.out.s; obtain ⟨e0,e1,e2,e3⟩ := quad_cells S3.out.ch.lb; have el := lt_of_block S3.out.ch.lb; clear hc hd hz)
     | (go_at_call 35; have q := DS.out (A + 2 + k * 1000 + 2 + 2) _ (by omega) S3s.out.ch.cur; with_reducible refine q.mono ?_; clear q; intro e w4 hq; unfold StmsEd at hq; obtain ⟨ev,s1,R1,rfl,ho,hin,hlen1,hok1,hfo,hc,hd⟩ := hq; obtain ⟨ea,ec,hev⟩ := hfo; subst hev; obtain ⟨pv,hpv⟩ : ∃ pv : Int,pv = ((k : Int) - 1) := ⟨_,rfl⟩; have S4 : Hid (StB w cb co n cap (A + 2 + k * 1000 + 500) #[.int .i64 o,.int .i64 s,.int .i64 t,.int .i64 (v : Int)] (.slice sa ss.length sc) (.slice none 0 0) ss R HS #[.int .i64 pv,.int .i64 (-1),.slice none 0 0,.slice none 0 0] w4 (stmsF n o s t v 2 (parF n k σk).2).2 ((INV ∧ pv = (parF n k σk).1) ∧ s1 = (stmsF n o s t v 2 (parF n k σk).2).1)) := hid (by have e := parF_z (by omega) hc.fact.1.2 (by first | omega | (have h : ((z : Int) == 0) = true := (by assumption); simp at h; omega) | (have h : ¬ ((z : Int) == 0) = true := (by assumption); simp at h; omega) | (have h : ((z : Int) == 0) = false := (by assumption); simp at h; omega)); rw [hpv,e]; exact ((S3s.out.draw hd hc).mono (by omega)).fact ⟨⟨hc.fact.1.1.1,rfl⟩,hc.fact.2⟩); have PVF : Hid ((k = 0 → pv = -1) ∧ (0 < k → 0 ≤ pv ∧ pv < k)) := hid (by rw [hpv]; omega); have S4s := hid (S4.out.set (o := 2) (u := .slice ea s1.length ec) (a' := .int .i64 pv) (b' := .int .i64 (-1)) (c' := .slice ea s1.length ec) (d' := .slice none 0 0) rfl); have V4 : Hid (StmsV (w4.setCell ⟨HS,2,none⟩ (.slice ea s1.length ec)) (w.heap.size + 1 + 1 + 1) (.slice ea s1.length ec) s1) := hid (StmsV.set (StmsV.base (stmsV_mk ho hin) S3s.out.le) S4.out.s (by decide) (by decide)); have E4 := hid (stms_ok HL.out (And.intro (Nat.le_trans hlen1 (show 2 ≤ 50 by omega)) hok1)); obtain ⟨c0,c1,c2,c3⟩ := quad_cells S4.out.s; have cf := frz_of S4.out.s; have cl := lt_of_block S4.out.s; clear ho hin hlen1 hok1 hc hd hpv)
     | (go_at_call 35; have q := DS.out (A + 2 + k * 1000 + 2 + 2) _ (by omega) S3.out.ch.cur; with_reducible refine q.mono ?_; clear q; intro e w4 hq; unfold StmsEd at hq; obtain ⟨ev,s1,R1,rfl,ho,hin,hlen1,hok1,hfo,hc,hd⟩ := hq; obtain ⟨ea,ec,hev⟩ := hfo; subst hev; obtain ⟨pv,hpv⟩ : ∃ pv : Int,pv = (p : Int) := ⟨_,rfl⟩; have S4 : Hid (StB w cb co n cap (A + 2 + k * 1000 + 500) #[.int .i64 o,.int .i64 s,.int .i64 t,.int .i64 (v : Int)] (.slice sa ss.length sc) (.slice none 0 0) ss R HS #[.int .i64 pv,.int .i64 (-1),.slice none 0 0,.slice none 0 0] w4 (stmsF n o s t v 2 (parF n k σk).2).2 ((INV ∧ pv = (parF n k σk).1) ∧ s1 = (stmsF n o s t v 2 (parF n k σk).2).1)) := hid (by have e := parF_p (by omega) hc.fact.1.1.2 hc.fact.1.2 (by first | omega | (have h : ((z : Int) == 0) = true := (by assumption); simp at h; omega) | (have h : ¬ ((z : Int) == 0) = true := (by assumption); simp at h; omega) | (have h : ((z : Int) == 0) = false := (by assumption); simp at h; omega)); rw [hpv,e]; exact ((S3.out.draw hd hc).mono (by omega)).fact ⟨⟨hc.fact.1.1.1,rfl⟩,hc.fact.2⟩); have PVF : Hid ((k = 0 → pv = -1) ∧ (0 < k → 0 ≤ pv ∧ pv < k)) := hid (by rw [hpv]; omega); have S4s := hid (S4.out.set (o := 2) (u := .slice ea s1.length ec) (a' := .int .i64 pv) (b' := .int .i64 (-1)) (c' := .slice ea s1.length ec) (d' := .slice none 0 0) rfl); have V4 : Hid (StmsV (w4.setCell ⟨HS,2,none⟩ (.slice ea s1.length ec)) (w.heap.size + 1 + 1 + 1) (.slice ea s1.length ec) s1) := hid (StmsV.set (StmsV.base (stmsV_mk ho hin) S3.out.le) S4.out.s (by decide) (by decide)); have E4 := hid (stms_ok HL.out (And.intro (Nat.le_trans hlen1 (show 2 ≤ 50 by omega)) hok1)); obtain ⟨c0,c1,c2,c3⟩ := quad_cells S4.out.s; have cf := frz_of S4.out.s; have cl := lt_of_block S4.out.s; clear ho hin hlen1 hok1 hc hd hpv)
     | (go_at_call 35; have q := DS.out (A + 2 + k * 1000 + 2) _ (by omega) S2s.out.ch.cur; with_reducible refine q.mono ?_; clear q; intro e w4 hq; unfold StmsEd at hq; obtain ⟨ev,s1,R1,rfl,ho,hin,hlen1,hok1,hfo,hc,hd⟩ := hq; obtain ⟨ea,ec,hev⟩ := hfo; subst hev; obtain ⟨pv,hpv⟩ : ∃ pv : Int,pv = (p : Int) := ⟨_,rfl⟩; have S4 : Hid (StB w cb co n cap (A + 2 + k * 1000 + 500) #[.int .i64 o,.int .i64 s,.int .i64 t,.int .i64 (v : Int)] (.slice sa ss.length sc) (.slice none 0 0) ss R HS #[.int .i64 pv,.int .i64 (-1),.slice none 0 0,.slice none 0 0] w4 (stmsF n o s t v 2 (parF n k σk).2).2 ((INV ∧ pv = (parF n k σk).1) ∧ s1 = (stmsF n o s t v 2 (parF n k σk).2).1)) := hid (by have e := parF_s (by omega) (by omega) hc.fact.1.2; rw [hpv,e]; exact ((S2s.out.draw hd hc).mono (by omega)).fact ⟨⟨hc.fact.1.1,rfl⟩,hc.fact.2⟩); have PVF : Hid ((k = 0 → pv = -1) ∧ (0 < k → 0 ≤ pv ∧ pv < k)) := hid (by rw [hpv]; omega); have S4s := hid (S4.out.set (o := 2) (u := .slice ea s1.length ec) (a' := .int .i64 pv) (b' := .int .i64 (-1)) (c' := .slice ea s1.length ec) (d' := .slice none 0 0) rfl); have V4 : Hid (StmsV (w4.setCell ⟨HS,2,none⟩ (.slice ea s1.length ec)) (w.heap.size + 1 + 1 + 1) (.slice ea s1.length ec) s1) := hid (StmsV.set (StmsV.base (stmsV_mk ho hin) S2s.out.le) S4.out.s (by decide) (by decide)); have E4 := hid (stms_ok HL.out (And.intro (Nat.le_trans hlen1 (show 2 ≤ 50 by omega)) hok1)); obtain ⟨c0,c1,c2,c3⟩ := quad_cells S4.out.s; have cf := frz_of S4.out.s; have cl := lt_of_block S4.out.s; clear ho hin hlen1 hok1 hc hd hpv)
     | (go_at_call 35; have q := DS.out (A + 2 + k * 1000) _ (by omega) S1.out.ch.cur; with_reducible refine q.mono ?_; clear q; intro e w4 hq; unfold StmsEd at hq; obtain ⟨ev,s1,R1,rfl,ho,hin,hlen1,hok1,hfo,hc,hd⟩ := hq; obtain ⟨ea,ec,hev⟩ := hfo; subst hev; obtain ⟨pv,hpv⟩ : ∃ pv : Int,pv = (-1) := ⟨_,rfl⟩; have S4 : Hid (StB w cb co n cap (A + 2 + k * 1000 + 500) #[.int .i64 o,.int .i64 s,.int .i64 t,.int .i64 (v : Int)] (.slice sa ss.length sc) (.slice none 0 0) ss R HS #[.int .i64 pv,.int .i64 (-1),.slice none 0 0,.slice none 0 0] w4 (stmsF n o s t v 2 (parF n k σk).2).2 ((INV ∧ pv = (parF n k σk).1) ∧ s1 = (stmsF n o s t v 2 (parF n k σk).2).1)) := hid (by have e : parF n k σk = (-1,σk) := parF_0 (by omega); rw [hpv,e]; exact ((S1.out.draw hd hc).mono (by omega)).fact ⟨⟨hc.fact.1,rfl⟩,hc.fact.2⟩); have PVF : Hid ((k = 0 → pv = -1) ∧ (0 < k → 0 ≤ pv ∧ pv < k)) := hid (by rw [hpv]; omega); have S4s := hid (S4.out.set (o := 2) (u := .slice ea s1.length ec) (a' := .int .i64 pv) (b' := .int .i64 (-1)) (c' := .slice ea s1.length ec) (d' := .slice none 0 0) rfl); have V4 : Hid (StmsV (w4.setCell ⟨HS,2,none⟩ (.slice ea s1.length ec)) (w.heap.size + 1 + 1 + 1) (.slice ea s1.length ec) s1) := hid (StmsV.set (StmsV.base (stmsV_mk ho hin) S1.out.le) S4.out.s (by decide) (by decide)); have E4 := hid (stms_ok HL.out (And.intro (Nat.le_trans hlen1 (show 2 ≤ 50 by omega)) hok1)); obtain ⟨c0,c1,c2,c3⟩ := quad_cells S4.out.s; have cf := frz_of S4.out.s; have cl := lt_of_block S4.out.s; clear ho hin hlen1 hok1 hc hd hpv)
     | (go_at_call 19; have q := P.out (A + 2 + k * 1000 + 500) 2 _ (by omega) (by omega) S4s.out.ch.cur; with_reducible refine q.mono ?_; clear q; rintro e w5 ⟨y,rfl,hy,hc,hd⟩; have S5 := hid (S4s.out.draw hd hc); have V5 := hid (V4.out.draw hd S4s.out.ch.cur (by have := S4s.out.ch.cb0; omega)); obtain ⟨l0,l1,l2,l3⟩ := quad_cells S5.out.ch.lb; have ll := lt_of_block S5.out.ch.lb; obtain ⟨d0,d1,d2,d3⟩ := quad_cells S5.out.s; have df := frz_of S5.out.s; have dl := lt_of_block S5.out.s; clear hc hd hy)
     | (go_at_call 35; have q := DS.out (A + 2 + k * 1000 + 500 + 2) _ (by omega) S5.out.ch.cur; with_reducible refine q.mono ?_; clear q; intro e w6 hq; unfold StmsEd at hq; obtain ⟨xv,s2,R2,rfl,ho,hin,hlen2,hok2,hfo,hc,hd⟩ := hq; obtain ⟨xa,xc,hxv⟩ := hfo; subst hxv; have S6 := hid (S5.out.draw hd hc); have S6s := hid (S6.out.set (o := 3) (u := .slice xa s2.length xc) (a' := .int .i64 pv) (b' := .int .i64 (-1)) (c' := .slice ea s1.length ec) (d' := .slice xa s2.length xc) rfl); have V6 : Hid (StmsV (w6.setCell ⟨HS,3,none⟩ (.slice xa s2.length xc)) (w.heap.size + 1 + 1 + 1) (.slice xa s2.length xc) s2) := hid (StmsV.set (StmsV.base (stmsV_mk ho hin) S5.out.le) S6.out.s (by decide) (by decide)); have V6e := hid (StmsV.set (o := 3) (u := .slice xa s2.length xc) (V5.out.draw hd S5.out.ch.cur (by have := S5.out.ch.cb0; omega)) S6.out.s (by decide) (by decide)); have E6 := hid (stms_ok HL.out (And.intro (Nat.le_trans hlen2 (show 2 ≤ 50 by omega)) hok2)); obtain ⟨f0,f1,f2,f3⟩ := quad_cells S6.out.s; have ff := frz_of S6.out.s; have fl := lt_of_block S6.out.s; clear ho hin hlen2 hok2 hc hd))
     ·obtain ⟨Z,hZ⟩ : ∃ Z,Z = w6.setCell ⟨HS,3,none⟩ (.slice xa s2.length xc) := ⟨_,rfl⟩
      rw [← hZ] at S6s V6 V6e ⊢
      clear hZ
      obtain ⟨u0,u1,u2,u3⟩ := quad_cells S6s.out.s
      have uf := frz_of S6s.out.s
      have ul := lt_of_block S6s.out.s
      obtain ⟨c0',c1',c2',c3'⟩ := pair_cells S6s.out.ch.c
      have cl' := lt_of_block S6s.out.ch.c
      have SB := hid (S6s.out.below (below1 Z (.cells #[.int .i64 pv,.int .i64 (-1),.slice ea s1.length ec,.slice xa s2.length xc] 71)))
      have NW := hid (World.news_of_block (heap_alloc_new Z (.cells #[.int .i64 pv,.int .i64 (-1),.slice ea s1.length ec,.slice xa s2.length xc] 71)))
      have SI : Hid (StateIn (Z.alloc (.cells #[.int .i64 pv,.int .i64 (-1),.slice ea s1.length ec,.slice xa s2.length xc] 71)) (w.heap.size + 1 + 1 + 1) ⟨pv,-1,s1,s2⟩ [.int .i64 pv,.int .i64 (-1),.slice ea s1.length ec,.slice xa s2.length xc]) := hid ⟨_,_,rfl,StmsV.below V6e.out (below1 _ _),StmsV.below V6.out (below1 _ _)⟩
      go_wp2_with (at_builtin; refine wpList_append_lies _ rfl (.tmp 51) (.tmp 53) 61 rfl (w.heap.size + 1 + 1 + 1) 71 i0 _ 4 64 Tryz.underlying61 hi0 hz0 hz1 hz2 rfl (by decide) (.slice sa ss.length sc) ss.length R.flatten rfl SB.out.ch.so ⟨Z.heap.size,0,none⟩ 1 1 [.int .i64 pv,.int .i64 (-1),.slice ea s1.length ec,.slice xa s2.length xc] rfl rfl NW.out (by intro u hu; simp at hu; rcases hu with rfl | rfl | rfl | rfl <;> rfl) (by omega) (by unfold maxLen; omega) (by omega) SB.out.le (Z.heap.size + 1) (by simp) ?_)
      intro g7 cap7 w7 hown hgrow hat7 _
      have X7 := (hgrow.block _ (lt_of_block SB.out.ch.c) (fun e => own_far SB.out.ch.so (by decide) SB.out.ch.c e.symm)).trans SB.out.ch.c
      obtain ⟨v0,v1,v2,v3⟩ := pair_cells X7
      have vl := lt_of_block X7
      have CA := hid (ChI.add SB.out.ch SI.out hgrow hown)
      clear hown hgrow hat7 X7 u0 u1 u2 u3 uf ul c0' c1' c2' c3' cl'
      go_wp2_with fail
      go_roundg (m - (k + 1))
      case measure => omega
      case rel =>
       have hst := statesL_step FI.out.2.2 HSk.out (stateF_x CA.out.cur.fact.1.1.1.2 CA.out.cur.fact.1.1.2 CA.out.cur.fact.1.2 CA.out.cur.fact.2 (by first | omega | (have h : ((y : Int) == 0) = true := (by assumption); simp at h; omega) | (have h : ¬ ((y : Int) == 0) = true := (by assumption); simp at h; omega) | (have h : ((y : Int) == 0) = false := (by assumption); simp at h; omega)))
       have CB : ChI w cb co n cap (A + 2 + (k + 1) * 1000) _ _ _ _ _ _ _ _ := CA.out.mono (by omega)
       exact ⟨k + 1,.slice (some ⟨g7,0,none⟩) (ss.length + 1) cap7,ss ++ [⟨pv,-1,s1,s2⟩],R ++ [[.int .i64 pv,.int .i64 (-1),.slice ea s1.length ec,.slice xa s2.length xc]],by omega,rfl,by go_num,by simp [HLn.out],HOK.out.snoc (by rw [HLn.out]; exact PVF.out.1) (by rw [HLn.out]; exact PVF.out.2) E4.out E6.out,ini_snoc HIN.out rfl,by rw [hst]; exact CB.fact ⟨FI.out.1,FI.out.2.1,rfl⟩⟩
     ·obtain ⟨u0,u1,u2,u3⟩ := quad_cells S5.out.s
      have uf := frz_of S5.out.s
      have ul := lt_of_block S5.out.s
      obtain ⟨c0',c1',c2',c3'⟩ := pair_cells S5.out.ch.c
      have cl' := lt_of_block S5.out.ch.c
      have SB := hid (S5.out.below (below1 w5 (.cells #[.int .i64 pv,.int .i64 (-1),.slice ea s1.length ec,.slice none 0 0] 71)))
      have NW := hid (World.news_of_block (heap_alloc_new w5 (.cells #[.int .i64 pv,.int .i64 (-1),.slice ea s1.length ec,.slice none 0 0] 71)))
      have SI : Hid (StateIn (w5.alloc (.cells #[.int .i64 pv,.int .i64 (-1),.slice ea s1.length ec,.slice none 0 0] 71)) (w.heap.size + 1 + 1 + 1) ⟨pv,-1,s1,[]⟩ [.int .i64 pv,.int .i64 (-1),.slice ea s1.length ec,.slice none 0 0]) := hid ⟨_,_,rfl,StmsV.below V5.out (below1 _ _),StmsV.below (stmsV_nil _ _) (below1 _ _)⟩
      go_wp2_with (at_builtin; refine wpList_append_lies _ rfl (.tmp 51) (.tmp 53) 61 rfl (w.heap.size + 1 + 1 + 1) 71 i0 _ 4 64 Tryz.underlying61 hi0 hz0 hz1 hz2 rfl (by decide) (.slice sa ss.length sc) ss.length R.flatten rfl SB.out.ch.so ⟨w5.heap.size,0,none⟩ 1 1 [.int .i64 pv,.int .i64 (-1),.slice ea s1.length ec,.slice none 0 0] rfl rfl NW.out (by intro u hu; simp at hu; rcases hu with rfl | rfl | rfl | rfl <;> rfl) (by omega) (by unfold maxLen; omega) (by omega) SB.out.le (w5.heap.size + 1) (by simp) ?_)
      intro g7 cap7 w7 hown hgrow hat7 _
      have X7 := (hgrow.block _ (lt_of_block SB.out.ch.c) (fun e => own_far SB.out.ch.so (by decide) SB.out.ch.c e.symm)).trans SB.out.ch.c
      obtain ⟨v0,v1,v2,v3⟩ := pair_cells X7
      have vl := lt_of_block X7
      have CA := hid (ChI.add SB.out.ch SI.out hgrow hown)
      clear hown hgrow hat7 X7 u0 u1 u2 u3 uf ul c0' c1' c2' c3' cl'
      go_wp2_with fail
      go_roundg (m - (k + 1))
      case measure => omega
      case rel =>
       have hst := statesL_step FI.out.2.2 HSk.out (stateF_o CA.out.cur.fact.1.1.2 CA.out.cur.fact.1.2 CA.out.cur.fact.2 (by first | omega | (have h : ((y : Int) == 0) = true := (by assumption); simp at h; omega) | (have h : ¬ ((y : Int) == 0) = true := (by assumption); simp at h; omega) | (have h : ((y : Int) == 0) = false := (by assumption); simp at h; omega)))
       have CB : ChI w cb co n cap (A + 2 + (k + 1) * 1000) _ _ _ _ _ _ _ _ := CA.out.mono (by omega)
       exact ⟨k + 1,.slice (some ⟨g7,0,none⟩) (ss.length + 1) cap7,ss ++ [⟨pv,-1,s1,[]⟩],R ++ [[.int .i64 pv,.int .i64 (-1),.slice ea s1.length ec,.slice none 0 0]],by omega,rfl,by go_num,by simp [HLn.out],HOK.out.snoc (by rw [HLn.out]; exact PVF.out.1) (by rw [HLn.out]; exact PVF.out.2) E4.out (stms_nilD HL.out),ini_snoc HIN.out rfl,by rw [hst]; exact CB.fact ⟨FI.out.1,FI.out.2.1,rfl⟩⟩
    ·have kf : (k : Int) > 0 := by omega
     have kg : (k : Int) > 2 := by omega
     go_upto_region 14 with (first
     | (go_at_call 19; have q := P.out (A + 2 + k * 1000) (k : Int) _ (by omega) (by omega) S1.out.ch.cur; with_reducible refine q.mono ?_; clear q; rintro e w2 ⟨p,rfl,hp,hc,hd⟩; have pk : (p : Int) < k := (by omega); have S2 := hid (S1.out.draw hd hc); have S2s := hid (S2.out.set (o := 0) (u := .int .i64 (p : Int)) (a' := .int .i64 (p : Int)) (b' := .int .i64 (-1)) (c' := .slice none 0 0) (d' := .slice none 0 0) rfl); obtain ⟨a0,a1,a2,a3⟩ := quad_cells S2.out.s; have af := frz_of S2.out.s; have al := lt_of_block S2.out.s; obtain ⟨g0,g1,g2,g3⟩ := quad_cells S2.out.ch.lb; have gl := lt_of_block S2.out.ch.lb; clear hc hd hp)
     | (go_at_call 19; have q := P.out (A + 2 + k * 1000 + 2) 3 _ (by omega) (by omega) S2s.out.ch.cur; with_reducible refine q.mono ?_; clear q; rintro e w3 ⟨z,rfl,hz,hc,hd⟩; have S3 := hid (S2s.out.draw hd hc); have S3s := hid (S3.out.set (o := 0) (u := .int .i64 ((k : Int) - 1)) (a' := .int .i64 ((k : Int) - 1)) (b' := .int .i64 (-1)) (c' := .slice none 0 0) (d' := .slice none 0 0) rfl); obtain ⟨b0,b1,b2,b3⟩ := quad_cells S3.out.s; have bf := frz_of S3.out.s; have bl := lt_of_block S3.out.s; obtain ⟨e0,e1,e2,e3⟩ := quad_cells S3.out.ch.lb; have el := lt_of_block S3.out.ch.lb; clear hc hd hz)
     | (go_at_call 35; have q := DS.out (A + 2 + k * 1000 + 2 + 2) _ (by omega) S3s.out.ch.cur; with_reducible refine q.mono ?_; clear q; intro e w4 hq; unfold StmsEd at hq; obtain ⟨ev,s1,R1,rfl,ho,hin,hlen1,hok1,hfo,hc,hd⟩ := hq; obtain ⟨ea,ec,hev⟩ := hfo; subst hev; obtain ⟨pv,hpv⟩ : ∃ pv : Int,pv = ((k : Int) - 1) := ⟨_,rfl⟩; have S4 : Hid (StB w cb co n cap (A + 2 + k * 1000 + 500) #[.int .i64 o,.int .i64 s,.int .i64 t,.int .i64 (v : Int)] (.slice sa ss.length sc) (.slice none 0 0) ss R HS #[.int .i64 pv,.int .i64 (-1),.slice none 0 0,.slice none 0 0] w4 (stmsF n o s t v 2 (parF n k σk).2).2 ((INV ∧ pv = (parF n k σk).1) ∧ s1 = (stmsF n o s t v 2 (parF n k σk).2).1)) := hid (by have e := parF_z (by omega) hc.fact.1.2 (by first | omega | (have h : ((z : Int) == 0) = true := (by assumption); simp at h; omega) | (have h : ¬ ((z : Int) == 0) = true := (by assumption); simp at h; omega) | (have h : ((z : Int) == 0) = false := (by assumption); simp at h; omega)); rw [hpv,e]; exact ((S3s.out.draw hd hc).mono (by omega)).fact ⟨⟨hc.fact.1.1.1,rfl⟩,hc.fact.2⟩); have PVF : Hid ((k = 0 → pv = -1) ∧ (0 < k → 0 ≤ pv ∧ pv < k)) := hid (by rw [hpv]; omega); have S4s := hid (S4.out.set (o := 2) (u := .slice ea s1.length ec) (a' := .int .i64 pv) (b' := .int .i64 (-1)) (c' := .slice ea s1.length ec) (d' := .slice none 0 0) rfl); have V4 : Hid (StmsV (w4.setCell ⟨HS,2,none⟩ (.slice ea s1.length ec)) (w.heap.size + 1 + 1 + 1) (.slice ea s1.length ec) s1) := hid (StmsV.set (StmsV.base (stmsV_mk ho hin) S3s.out.le) S4.out.s (by decide) (by decide)); have E4 := hid (stms_ok HL.out (And.intro (Nat.le_trans hlen1 (show 2 ≤ 50 by omega)) hok1)); obtain ⟨c0,c1,c2,c3⟩ := quad_cells S4.out.s; have cf := frz_of S4.out.s; have cl := lt_of_block S4.out.s; clear ho hin hlen1 hok1 hc hd hpv)
     | (go_at_call 35; have q := DS.out (A + 2 + k * 1000 + 2 + 2) _ (by omega) S3.out.ch.cur; with_reducible refine q.mono ?_; clear q; intro e w4 hq; unfold StmsEd at hq; obtain ⟨ev,s1,R1,rfl,ho,hin,hlen1,hok1,hfo,hc,hd⟩ := hq; obtain ⟨ea,ec,hev⟩ := hfo; subst hev; obtain ⟨pv,hpv⟩ : ∃ pv : Int,pv = (p : Int) := ⟨_,rfl⟩; have S4 : Hid (StB w cb co n cap (A + 2 + k * 1000 + 500) #[.int .i64 o,.int .i64 s,.int .i64 t,.int .i64 (v : Int)] (.slice sa ss.length sc) (.slice none 0 0) ss R HS #[.int .i64 pv,.int .i64 (-1),.slice none 0 0,.slice none 0 0] w4 (stmsF n o s t v 2 (parF n k σk).2).2 ((INV ∧ pv = (parF n k σk).1) ∧ s1 = (stmsF n o s t v 2 (parF n k σk).2).1)) := hid (by have e := parF_p (by omega) hc.fact.1.1.2 hc.fact.1.2 (by first | omega | (have h : ((z : Int) == 0) = true := (by assumption); simp at h; omega) | (have h : ¬ ((z : Int) == 0) = true := (by assumption); simp at h; omega) | (have h : ((z : Int) == 0) = false := (by assumption); simp at h; omega)); rw [hpv,e]; exact ((S3.out.draw hd hc).mono (by omega)).fact ⟨⟨hc.fact.1.1.1,rfl⟩,hc.fact.2⟩); have PVF : Hid ((k = 0 → pv = -1) ∧ (0 < k → 0 ≤ pv ∧ pv < k)) := hid (by rw [hpv]; omega); have S4s := hid (S4.out.set (o := 2) (u := .slice ea s1.length ec) (a' := .int .i64 pv) (b' := .int .i64 (-1)) (c' := .slice ea s1.length ec) (d' := .slice none 0 0) rfl); have V4 : Hid (StmsV (w4.setCell ⟨HS,2,none⟩ (.slice ea s1.length ec)) (w.heap.size + 1 + 1 + 1) (.slice ea s1.length ec) s1) := hid (StmsV.set (StmsV.base (stmsV_mk ho hin) S3.out.le) S4.out.s (by decide) (by decide)); have E4 := hid (stms_ok HL.out (And.intro (Nat.le_trans hlen1 (show 2 ≤ 50 by omega)) hok1)); obtain ⟨c0,c1,c2,c3⟩ := quad_cells S4.out.s; have cf := frz_of S4.out.s; have cl := lt_of_block S4.out.s; clear ho hin hlen1 hok1 hc hd hpv)
     | (go_at_call 35; have q := DS.out (A + 2 + k * 1000 + 2) _ (by omega) S2s.out.ch.cur; with_reducible refine q.mono ?_; clear q; intro e w4 hq; unfold StmsEd at hq; obtain ⟨ev,s1,R1,rfl,ho,hin,hlen1,hok1,hfo,hc,hd⟩ := hq; obtain ⟨ea,ec,hev⟩ := hfo; subst hev; obtain ⟨pv,hpv⟩ : ∃ pv : Int,pv = (p : Int) := ⟨_,rfl⟩; have S4 : Hid (StB w cb co n cap (A + 2 + k * 1000 + 500) #[.int .i64 o,.int .i64 s,.int .i64 t,.int .i64 (v : Int)] (.slice sa ss.length sc) (.slice none 0 0) ss R HS #[.int .i64 pv,.int .i64 (-1),.slice none 0 0,.slice none 0 0] w4 (stmsF n o s t v 2 (parF n k σk).2).2 ((INV ∧ pv = (parF n k σk).1) ∧ s1 = (stmsF n o s t v 2 (parF n k σk).2).1)) := hid (by have e := parF_s (by omega) (by omega) hc.fact.1.2; rw [hpv,e]; exact ((S2s.out.draw hd hc).mono (by omega)).fact ⟨⟨hc.fact.1.1,rfl⟩,hc.fact.2⟩); have PVF : Hid ((k = 0 → pv = -1) ∧ (0 < k → 0 ≤ pv ∧ pv < k)) := hid (by rw [hpv]; omega); have S4s := hid (S4.out.set (o := 2) (u := .slice ea s1.length ec) (a' := .int .i64 pv) (b' := .int .i64 (-1)) (c' := .slice ea s1.length ec) (d' := .slice none 0 0) rfl); have V4 : Hid (StmsV (w4.setCell ⟨HS,2,none⟩ (.slice ea s1.length ec)) (w.heap.size + 1 + 1 + 1) (.slice ea s1.length ec) s1) := hid (StmsV.set (StmsV.base (stmsV_mk ho hin) S2s.out.le) S4.out.s (by decide) (by decide)); have E4 := hid (stms_ok HL.out (And.intro (Nat.le_trans hlen1 (show 2 ≤ 50 by omega)) hok1)); obtain ⟨c0,c1,c2,c3⟩ := quad_cells S4.out.s; have cf := frz_of S4.out.s; have cl := lt_of_block S4.out.s; clear ho hin hlen1 hok1 hc hd hpv)
     | (go_at_call 35; have q := DS.out (A + 2 + k * 1000) _ (by omega) S1.out.ch.cur; with_reducible refine q.mono ?_; clear q; intro e w4 hq; unfold StmsEd at hq; obtain ⟨ev,s1,R1,rfl,ho,hin,hlen1,hok1,hfo,hc,hd⟩ := hq; obtain ⟨ea,ec,hev⟩ := hfo; subst hev; obtain ⟨pv,hpv⟩ : ∃ pv : Int,pv = (-1) := ⟨_,rfl⟩; have S4 : Hid (StB w cb co n cap (A + 2 + k * 1000 + 500) #[.int .i64 o,.int .i64 s,.int .i64 t,.int .i64 (v : Int)] (.slice sa ss.length sc) (.slice none 0 0) ss R HS #[.int .i64 pv,.int .i64 (-1),.slice none 0 0,.slice none 0 0] w4 (stmsF n o s t v 2 (parF n k σk).2).2 ((INV ∧ pv = (parF n k σk).1) ∧ s1 = (stmsF n o s t v 2 (parF n k σk).2).1)) := hid (by have e : parF n k σk = (-1,σk) := parF_0 (by omega); rw [hpv,e]; exact ((S1.out.draw hd hc).mono (by omega)).fact ⟨⟨hc.fact.1,rfl⟩,hc.fact.2⟩); have PVF : Hid ((k = 0 → pv = -1) ∧ (0 < k → 0 ≤ pv ∧ pv < k)) := hid (by rw [hpv]; omega); have S4s := hid (S4.out.set (o := 2) (u := .slice ea s1.length ec) (a' := .int .i64 pv) (b' := .int .i64 (-1)) (c' := .slice ea s1.length ec) (d' := .slice none 0 0) rfl); have V4 : Hid (StmsV (w4.setCell ⟨HS,2,none⟩ (.slice ea s1.length ec)) (w.heap.size + 1 + 1 + 1) (.slice ea s1.length ec) s1) := hid (StmsV.set (StmsV.base (stmsV_mk ho hin) S1.out.le) S4.out.s (by decide) (by decide)); have E4 := hid (stms_ok HL.out (And.intro (Nat.le_trans hlen1 (show 2 ≤ 50 by omega)) hok1)); obtain ⟨c0,c1,c2,c3⟩ := quad_cells S4.out.s; have cf := frz_of S4.out.s; have cl := lt_of_block S4.out.s; clear ho hin hlen1 hok1 hc hd hpv)
     | (go_at_call 19; have q := P.out (A + 2 + k * 1000 + 500) 2 _ (by omega) (by omega) S4s.out.ch.cur; with_reducible refine q.mono ?_; clear q; rintro e w5 ⟨y,rfl,hy,hc,hd⟩; have S5 := hid (S4s.out.draw hd hc); have V5 := hid (V4.out.draw hd S4s.out.ch.cur (by have := S4s.out.ch.cb0; omega)); obtain ⟨l0,l1,l2,l3⟩ := quad_cells S5.out.ch.lb; have ll := lt_of_block S5.out.ch.lb; obtain ⟨d0,d1,d2,d3⟩ := quad_cells S5.out.s; have df := frz_of S5.out.s; have dl := lt_of_block S5.out.s; clear hc hd hy)
     | (go_at_call 35; have q := DS.out (A + 2 + k * 1000 + 500 + 2) _ (by omega) S5.out.ch.cur; with_reducible refine q.mono ?_; clear q; intro e w6 hq; unfold StmsEd at hq; obtain ⟨xv,s2,R2,rfl,ho,hin,hlen2,hok2,hfo,hc,hd⟩ := hq; obtain ⟨xa,xc,hxv⟩ := hfo; subst hxv; have S6 := hid (S5.out.draw hd hc); have S6s := hid (S6.out.set (o := 3) (u := .slice xa s2.length xc) (a' := .int .i64 pv) (b' := .int .i64 (-1)) (c' := .slice ea s1.length ec) (d' := .slice xa s2.length xc) rfl); have V6 : Hid (StmsV (w6.setCell ⟨HS,3,none⟩ (.slice xa s2.length xc)) (w.heap.size + 1 + 1 + 1) (.slice xa s2.length xc) s2) := hid (StmsV.set (StmsV.base (stmsV_mk ho hin) S5.out.le) S6.out.s (by decide) (by decide)); have V6e := hid (StmsV.set (o := 3) (u := .slice xa s2.length xc) (V5.out.draw hd S5.out.ch.cur (by have := S5.out.ch.cb0; omega)) S6.out.s (by decide) (by decide)); have E6 := hid (stms_ok HL.out (And.intro (Nat.le_trans hlen2 (show 2 ≤ 50 by omega)) hok2)); obtain ⟨f0,f1,f2,f3⟩ := quad_cells S6.out.s; have ff := frz_of S6.out.s; have fl := lt_of_block S6.out.s; clear ho hin hlen2 hok2 hc hd))
     ·obtain ⟨Z,hZ⟩ : ∃ Z,Z = w6.setCell ⟨HS,3,none⟩ (.slice xa s2.length xc) := ⟨_,rfl⟩
      rw [← hZ] at S6s V6 V6e ⊢
      clear hZ
      obtain ⟨u0,u1,u2,u3⟩ := quad_cells S6s.out.s
      have uf := frz_of S6s.out.s
      have ul := lt_of_block S6s.out.s
      obtain ⟨c0',c1',c2',c3'⟩ := pair_cells S6s.out.ch.c
      have cl' := lt_of_block S6s.out.ch.c
      have SB := hid (S6s.out.below (below1 Z (.cells #[.int .i64 pv,.int .i64 (-1),.slice ea s1.length ec,.slice xa s2.length xc] 71)))
      have NW := hid (World.news_of_block (heap_alloc_new Z (.cells #[.int .i64 pv,.int .i64 (-1),.slice ea s1.length ec,.slice xa s2.length xc] 71)))
      have SI : Hid (StateIn (Z.alloc (.cells #[.int .i64 pv,.int .i64 (-1),.slice ea s1.length ec,.slice xa s2.length xc] 71)) (w.heap.size + 1 + 1 + 1) ⟨pv,-1,s1,s2⟩ [.int .i64 pv,.int .i64 (-1),.slice ea s1.length ec,.slice xa s2.length xc]) := hid ⟨_,_,rfl,StmsV.below V6e.out (below1 _ _),StmsV.below V6.out (below1 _ _)⟩
      go_wp2_with (at_builtin; refine wpList_append_lies _ rfl (.tmp 51) (.tmp 53) 61 rfl (w.heap.size + 1 + 1 + 1) 71 i0 _ 4 64 Tryz.underlying61 hi0 hz0 hz1 hz2 rfl (by decide) (.slice sa ss.length sc) ss.length R.flatten rfl SB.out.ch.so ⟨Z.heap.size,0,none⟩ 1 1 [.int .i64 pv,.int .i64 (-1),.slice ea s1.length ec,.slice xa s2.length xc] rfl rfl NW.out (by intro u hu; simp at hu; rcases hu with rfl | rfl | rfl | rfl <;> rfl) (by omega) (by unfold maxLen; omega) (by omega) SB.out.le (Z.heap.size + 1) (by simp) ?_)
      intro g7 cap7 w7 hown hgrow hat7 _
      have X7 := (hgrow.block _ (lt_of_block SB.out.ch.c) (fun e => own_far SB.out.ch.so (by decide) SB.out.ch.c e.symm)).trans SB.out.ch.c
      obtain ⟨v0,v1,v2,v3⟩ := pair_cells X7
      have vl := lt_of_block X7
      have CA := hid (ChI.add SB.out.ch SI.out hgrow hown)
      clear hown hgrow hat7 X7 u0 u1 u2 u3 uf ul c0' c1' c2' c3' cl'
      go_wp2_with fail
      go_roundg (m - (k + 1))
      case measure => omega
      case rel =>
       have hst := statesL_step FI.out.2.2 HSk.out (stateF_x CA.out.cur.fact.1.1.1.2 CA.out.cur.fact.1.1.2 CA.out.cur.fact.1.2 CA.out.cur.fact.2 (by first | omega | (have h : ((y : Int) == 0) = true := (by assumption); simp at h; omega) | (have h : ¬ ((y : Int) == 0) = true := (by assumption); simp at h; omega) | (have h : ((y : Int) == 0) = false := (by assumption); simp at h; omega)))
       have CB : ChI w cb co n cap (A + 2 + (k + 1) * 1000) _ _ _ _ _ _ _ _ := CA.out.mono (by omega)
       exact ⟨k + 1,.slice (some ⟨g7,0,none⟩) (ss.length + 1) cap7,ss ++ [⟨pv,-1,s1,s2⟩],R ++ [[.int .i64 pv,.int .i64 (-1),.slice ea s1.length ec,.slice xa s2.length xc]],by omega,rfl,by go_num,by simp [HLn.out],HOK.out.snoc (by rw [HLn.out]; exact PVF.out.1) (by rw [HLn.out]; exact PVF.out.2) E4.out E6.out,ini_snoc HIN.out rfl,by rw [hst]; exact CB.fact ⟨FI.out.1,FI.out.2.1,rfl⟩⟩
     ·obtain ⟨u0,u1,u2,u3⟩ := quad_cells S5.out.s
      have uf := frz_of S5.out.s
      have ul := lt_of_block S5.out.s
      obtain ⟨c0',c1',c2',c3'⟩ := pair_cells S5.out.ch.c
      have cl' := lt_of_block S5.out.ch.c
      have SB := hid (S5.out.below (below1 w5 (.cells #[.int .i64 pv,.int .i64 (-1),.slice ea s1.length ec,.slice none 0 0] 71)))
      have NW := hid (World.news_of_block (heap_alloc_new w5 (.cells #[.int .i64 pv,.int .i64 (-1),.slice ea s1.length ec,.slice none 0 0] 71)))
      have SI : Hid (StateIn (w5.alloc (.cells #[.int .i64 pv,.int .i64 (-1),.slice ea s1.length ec,.slice none 0 0] 71)) (w.heap.size + 1 + 1 + 1) ⟨pv,-1,s1,[]⟩ [.int .i64 pv,.int .i64 (-1),.slice ea s1.length ec,.slice none 0 0]) := hid ⟨_,_,rfl,StmsV.below V5.out (below1 _ _),StmsV.below (stmsV_nil _ _) (below1 _ _)⟩
      go_wp2_with (at_builtin; refine wpList_append_lies _ rfl (.tmp 51) (.tmp 53) 61 rfl (w.heap.size + 1 + 1 + 1) 71 i0 _ 4 64 Tryz.underlying61 hi0 hz0 hz1 hz2 rfl (by decide) (.slice sa ss.length sc) ss.length R.flatten rfl SB.out.ch.so ⟨w5.heap.size,0,none⟩ 1 1 [.int .i64 pv,.int .i64 (-1),.slice ea s1.length ec,.slice none 0 0] rfl rfl NW.out (by intro u hu; simp at hu; rcases hu with rfl | rfl | rfl | rfl <;> rfl) (by omega) (by unfold maxLen; omega) (by omega) SB.out.le (w5.heap.size + 1) (by simp) ?_)
      intro g7 cap7 w7 hown hgrow hat7 _
      have X7 := (hgrow.block _ (lt_of_block SB.out.ch.c) (fun e => own_far SB.out.ch.so (by decide) SB.out.ch.c e.symm)).trans SB.out.ch.c
      obtain ⟨v0,v1,v2,v3⟩ := pair_cells X7
      have vl := lt_of_block X7
      have CA := hid (ChI.add SB.out.ch SI.out hgrow hown)
      clear hown hgrow hat7 X7 u0 u1 u2 u3 uf ul c0' c1' c2' c3' cl'
      go_wp2_with fail
      go_roundg (m - (k + 1))
      case measure => omega
      case rel =>
       have hst := statesL_step FI.out.2.2 HSk.out (stateF_o CA.out.cur.fact.1.1.2 CA.out.cur.fact.1.2 CA.out.cur.fact.2 (by first | omega | (have h : ((y : Int) == 0) = true := (by assumption); simp at h; omega) | (have h : ¬ ((y : Int) == 0) = true := (by assumption); simp at h; omega) | (have h : ((y : Int) == 0) = false := (by assumption); simp at h; omega)))
       have CB : ChI w cb co n cap (A + 2 + (k + 1) * 1000) _ _ _ _ _ _ _ _ := CA.out.mono (by omega)
       exact ⟨k + 1,.slice (some ⟨g7,0,none⟩) (ss.length + 1) cap7,ss ++ [⟨pv,-1,s1,[]⟩],R ++ [[.int .i64 pv,.int .i64 (-1),.slice ea s1.length ec,.slice none 0 0]],by omega,rfl,by go_num,by simp [HLn.out],HOK.out.snoc (by rw [HLn.out]; exact PVF.out.1) (by rw [HLn.out]; exact PVF.out.2) E4.out (stms_nilD HL.out),ini_snoc HIN.out rfl,by rw [hst]; exact CB.fact ⟨FI.out.1,FI.out.2.1,rfl⟩⟩
     ·obtain ⟨Z,hZ⟩ : ∃ Z,Z = w6.setCell ⟨HS,3,none⟩ (.slice xa s2.length xc) := ⟨_,rfl⟩
      rw [← hZ] at S6s V6 V6e ⊢
      clear hZ
      obtain ⟨u0,u1,u2,u3⟩ := quad_cells S6s.out.s
      have uf := frz_of S6s.out.s
      have ul := lt_of_block S6s.out.s
      obtain ⟨c0',c1',c2',c3'⟩ := pair_cells S6s.out.ch.c
      have cl' := lt_of_block S6s.out.ch.c
      have SB := hid (S6s.out.below (below1 Z (.cells #[.int .i64 pv,.int .i64 (-1),.slice ea s1.length ec,.slice xa s2.length xc] 71)))
      have NW := hid (World.news_of_block (heap_alloc_new Z (.cells #[.int .i64 pv,.int .i64 (-1),.slice ea s1.length ec,.slice xa s2.length xc] 71)))
      have SI : Hid (StateIn (Z.alloc (.cells #[.int .i64 pv,.int .i64 (-1),.slice ea s1.length ec,.slice xa s2.length xc] 71)) (w.heap.size + 1 + 1 + 1) ⟨pv,-1,s1,s2⟩ [.int .i64 pv,.int .i64 (-1),.slice ea s1.length ec,.slice xa s2.length xc]) := hid ⟨_,_,rfl,StmsV.below V6e.out (below1 _ _),StmsV.below V6.out (below1 _ _)⟩
      go_wp2_with (at_builtin; refine wpList_append_lies _ rfl (.tmp 51) (.tmp 53) 61 rfl (w.heap.size + 1 + 1 + 1) 71 i0 _ 4 64 Tryz.underlying61 hi0 hz0 hz1 hz2 rfl (by decide) (.slice sa ss.length sc) ss.length R.flatten rfl SB.out.ch.so ⟨Z.heap.size,0,none⟩ 1 1 [.int .i64 pv,.int .i64 (-1),.slice ea s1.length ec,.slice xa s2.length xc] rfl rfl NW.out (by intro u hu; simp at hu; rcases hu with rfl | rfl | rfl | rfl <;> rfl) (by omega) (by unfold maxLen; omega) (by omega) SB.out.le (Z.heap.size + 1) (by simp) ?_)
      intro g7 cap7 w7 hown hgrow hat7 _
      have X7 := (hgrow.block _ (lt_of_block SB.out.ch.c) (fun e => own_far SB.out.ch.so (by decide) SB.out.ch.c e.symm)).trans SB.out.ch.c
      obtain ⟨v0,v1,v2,v3⟩ := pair_cells X7
      have vl := lt_of_block X7
      have CA := hid (ChI.add SB.out.ch SI.out hgrow hown)
      clear hown hgrow hat7 X7 u0 u1 u2 u3 uf ul c0' c1' c2' c3' cl'
      go_wp2_with fail
      go_roundg (m - (k + 1))
      case measure => omega
      case rel =>
       have hst := statesL_step FI.out.2.2 HSk.out (stateF_x CA.out.cur.fact.1.1.1.2 CA.out.cur.fact.1.1.2 CA.out.cur.fact.1.2 CA.out.cur.fact.2 (by first | omega | (have h : ((y : Int) == 0) = true := (by assumption); simp at h; omega) | (have h : ¬ ((y : Int) == 0) = true := (by assumption); simp at h; omega) | (have h : ((y : Int) == 0) = false := (by assumption); simp at h; omega)))
       have CB : ChI w cb co n cap (A + 2 + (k + 1) * 1000) _ _ _ _ _ _ _ _ := CA.out.mono (by omega)
       exact ⟨k + 1,.slice (some ⟨g7,0,none⟩) (ss.length + 1) cap7,ss ++ [⟨pv,-1,s1,s2⟩],R ++ [[.int .i64 pv,.int .i64 (-1),.slice ea s1.length ec,.slice xa s2.length xc]],by omega,rfl,by go_num,by simp [HLn.out],HOK.out.snoc (by rw [HLn.out]; exact PVF.out.1) (by rw [HLn.out]; exact PVF.out.2) E4.out E6.out,ini_snoc HIN.out rfl,by rw [hst]; exact CB.fact ⟨FI.out.1,FI.out.2.1,rfl⟩⟩
     ·obtain ⟨u0,u1,u2,u3⟩ := quad_cells S5.out.s
      have uf := frz_of S5.out.s
      have ul := lt_of_block S5.out.s
      obtain ⟨c0',c1',c2',c3'⟩ := pair_cells S5.out.ch.c
      have cl' := lt_of_block S5.out.ch.c
      have SB := hid (S5.out.below (below1 w5 (.cells #[.int .i64 pv,.int .i64 (-1),.slice ea s1.length ec,.slice none 0 0] 71)))
      have NW := hid (World.news_of_block (heap_alloc_new w5 (.cells #[.int .i64 pv,.int .i64 (-1),.slice ea s1.length ec,.slice none 0 0] 71)))
      have SI : Hid (StateIn (w5.alloc (.cells #[.int .i64 pv,.int .i64 (-1),.slice ea s1.length ec,.slice none 0 0] 71)) (w.heap.size + 1 + 1 + 1) ⟨pv,-1,s1,[]⟩ [.int .i64 pv,.int .i64 (-1),.slice ea s1.length ec,.slice none 0 0]) := hid ⟨_,_,rfl,StmsV.below V5.out (below1 _ _),StmsV.below (stmsV_nil _ _) (below1 _ _)⟩
      go_wp2_with (at_builtin; refine wpList_append_lies _ rfl (.tmp 51) (.tmp 53) 61 rfl (w.heap.size + 1 + 1 + 1) 71 i0 _ 4 64 Tryz.underlying61 hi0 hz0 hz1 hz2 rfl (by decide) (.slice sa ss.length sc) ss.length R.flatten rfl SB.out.ch.so ⟨w5.heap.size,0,none⟩ 1 1 [.int .i64 pv,.int .i64 (-1),.slice ea s1.length ec,.slice none 0 0] rfl rfl NW.out (by intro u hu; simp at hu; rcases hu with rfl | rfl | rfl | rfl <;> rfl) (by omega) (by unfold maxLen; omega) (by omega) SB.out.le (w5.heap.size + 1) (by simp) ?_)
      intro g7 cap7 w7 hown hgrow hat7 _
      have X7 := (hgrow.block _ (lt_of_block SB.out.ch.c) (fun e => own_far SB.out.ch.so (by decide) SB.out.ch.c e.symm)).trans SB.out.ch.c
      obtain ⟨v0,v1,v2,v3⟩ := pair_cells X7
      have vl := lt_of_block X7
      have CA := hid (ChI.add SB.out.ch SI.out hgrow hown)
      clear hown hgrow hat7 X7 u0 u1 u2 u3 uf ul c0' c1' c2' c3' cl'
      go_wp2_with fail
      go_roundg (m - (k + 1))
      case measure => omega
      case rel =>
       have hst := statesL_step FI.out.2.2 HSk.out (stateF_o CA.out.cur.fact.1.1.2 CA.out.cur.fact.1.2 CA.out.cur.fact.2 (by first | omega | (have h : ((y : Int) == 0) = true := (by assumption); simp at h; omega) | (have h : ¬ ((y : Int) == 0) = true := (by assumption); simp at h; omega) | (have h : ((y : Int) == 0) = false := (by assumption); simp at h; omega)))
       have CB : ChI w cb co n cap (A + 2 + (k + 1) * 1000) _ _ _ _ _ _ _ _ := CA.out.mono (by omega)
       exact ⟨k + 1,.slice (some ⟨g7,0,none⟩) (ss.length + 1) cap7,ss ++ [⟨pv,-1,s1,[]⟩],R ++ [[.int .i64 pv,.int .i64 (-1),.slice ea s1.length ec,.slice none 0 0]],by omega,rfl,by go_num,by simp [HLn.out],HOK.out.snoc (by rw [HLn.out]; exact PVF.out.1) (by rw [HLn.out]; exact PVF.out.2) E4.out (stms_nilD HL.out),ini_snoc HIN.out rfl,by rw [hst]; exact CB.fact ⟨FI.out.1,FI.out.2.1,rfl⟩⟩
  ·obtain rfl : k = m := by omega
   obtain ⟨g,gc,hsv,_,_⟩ := World.ownsRow.form hI.so (by omega)
   subst hsv
   have IS0 := hid (InS.start (l := ⟨o,s,t,v⟩) hlen (by omega) hok hini)
   rw [hlen] at I
   obtain ⟨c0,c1,c2,c3⟩ := pair_cells I.out.c
   have cl := lt_of_block I.out.c
   have k1 := m9.1
   have k9 := m9.2
   clear hI hlen hok hini HOK HIN m9 hlt
   go_wp2_with fail
   go_loopg [59] k (fun mm i X => ∃ (q : Nat) (ss : List StD) (R : List (List Value)),q ≤ k ∧ mm = k - q ∧ i = .int .i64 q ∧ InS ⟨o,s,t,v⟩ k q (q + 1) ss ∧ ChI w cb co n cap (A + 2 + k * 1000 + q * 20) #[.int .i64 o,.int .i64 s,.int .i64 t,.int .i64 (v : Int)] (.slice (some ⟨g,0,none⟩) k gc) (.slice none 0 0) ss R X (inAll n k q (statesL n o s t v k (pickF n 9 σ).2)).2 (PP ∧ ss = (inAll n k q (statesL n o s t v k (pickF n 9 σ).2)).1))
   case atStart => exact ⟨0,ss,R,by omega,by omega,rfl,IS0.out,by have e := HSk.out; subst e; exact I.out.fact ⟨FI.out.1,FI.out.2.2⟩⟩
   case round =>
    obtain ⟨q,ss,R,hq,rfl,rfl,hS,hI⟩ := hrel
    have FQ := hid hI.cur.fact
    obtain ⟨Y1,hY1⟩ : ∃ x,x = (inAll n k q (statesL n o s t v k (pickF n 9 σ).2)) := ⟨_,rfl⟩
    rw [← hY1] at hI FQ
    have HY1 := hid hY1
    clear hY1
    have I := hid hI
    have HS := hid hS
    by_cases hqk : q < k
    ·have qi : (q : Int) < (k : Int) := by omega
     clear hI hS c0 c1 c2 c3 cl
     go_wp2_with fail
     go_loopg [10] (k - (q + 1)) (fun mm i X => ∃ (j : Nat) (ss : List StD) (R : List (List Value)),q + 1 ≤ j ∧ j ≤ k ∧ mm = k - j ∧ i = .int .i64 j ∧ InS ⟨o,s,t,v⟩ k q j ss ∧ ChI w cb co n cap (A + 2 + k * 1000 + q * 20 + j * 2) #[.int .i64 o,.int .i64 s,.int .i64 t,.int .i64 (v : Int)] (.slice (some ⟨g,0,none⟩) k gc) (.slice none 0 0) ss R X (inRow n q (j - (q + 1)) Y1).2 (PP ∧ ss = (inRow n q (j - (q + 1)) Y1).1))
     case atStart => exact ⟨q + 1,ss,R,by omega,by omega,by omega,by go_num,HS.out,by rw [show q + 1 - (q + 1) = 0 by omega]; exact (I.out.mono (by omega)).fact FQ.out⟩
     case round =>
      obtain ⟨j,ss,R,hj1,hj2,rfl,rfl,hS,hI⟩ := hrel
      have FJ := hid hI.cur.fact
      have I := hid hI
      have HS := hid hS
      by_cases hjk : j < k
      ·have ji : (j : Int) < (k : Int) := by omega
       obtain ⟨p0,p1,pl,pf⟩ := hI.cells hS.len hjk
       obtain ⟨q0,q1,ql,qf⟩ := hI.cells hS.len hqk
       obtain ⟨c0,c1,c2,c3⟩ := pair_cells hI.c
       have cl := lt_of_block hI.c
       obtain ⟨pj,hpj⟩ : ∃ x,x = (ss.getD j st0).parent := ⟨_,rfl⟩
       obtain ⟨iq,hiq⟩ : ∃ x,x = (ss.getD q st0).initial := ⟨_,rfl⟩
       rw [← hpj] at p0
       rw [← hiq] at q1
       have HPJ := hid hpj
       have HIQ := hid hiq
       have SI := hid (ChI.setIni (x := (j : Int)) (i := q) (show ChI w cb co n cap (A + 2 + k * 1000 + q * 20 + j * 2) #[.int .i64 o,.int .i64 s,.int .i64 t,.int .i64 (v : Int)] (.slice (some ⟨g,0,none⟩) ss.length gc) (.slice none 0 0) ss R wr (inRow n q (j - (q + 1)) Y1).2 (PP ∧ ss = (inRow n q (j - (q + 1)) Y1).1) by rw [hS.len]; exact hI) (by rw [hS.len]; exact hqk))
       have LN := hid hS.len
       have P2 := hid (P.out (A + 2 + k * 1000 + q * 20 + j * 2) 2 _ (by omega) (by omega) hI.cur)
       clear hI hS hpj hiq p1 q0 pf
       by_cases hp : pj = (q : Int)
       ·by_cases hi0 : iq < 0
        ·go_wp2_with fail
         go_roundg (k - (j + 1))
         case measure => omega
         case rel =>
          obtain ⟨R',hR'⟩ := SI.out
          rw [LN.out] at hR'
          exact ⟨j + 1,_,R',by omega,by omega,rfl,by go_num,HS.out.set hqk hjk (by rw [← HPJ.out]; exact hp),by rw [inRow_step hj1,inStep_set FJ.out.2 (by rw [← HPJ.out]; exact hp) (by rw [← HIQ.out]; exact hi0)]; exact (hR'.mono (by omega)).fact ⟨FJ.out.1,rfl⟩⟩
        ·go_wp2_with (go_at_call 19; have q' := P2.out; with_reducible refine q'.mono ?_; clear q'; rintro e w9 ⟨y,rfl,hy,hc,hd⟩; have I9 := hid (I.out.draw hd hc); have SI9 := hid (ChI.setIni (x := (j : Int)) (i := q) (show ChI w cb co n cap (A + 2 + k * 1000 + q * 20 + j * 2 + 2) #[.int .i64 o,.int .i64 s,.int .i64 t,.int .i64 (v : Int)] (.slice (some ⟨g,0,none⟩) ss.length gc) (.slice none 0 0) ss R w9 (pickF n 2 (inRow n q (j - (q + 1)) Y1).2).2 ((PP ∧ ss = (inRow n q (j - (q + 1)) Y1).1) ∧ y = (pickF n 2 (inRow n q (j - (q + 1)) Y1).2).1) by rw [LN.out]; exact I9.out) (by rw [LN.out]; exact hqk)); obtain ⟨_,u1,ul,uf⟩ := I9.out.cells LN.out hqk; obtain ⟨d0,d1,d2,d3⟩ := pair_cells I9.out.c; have dl := lt_of_block I9.out.c; clear hc hd hy)
         ·go_roundg (k - (j + 1))
          case measure => omega
          case rel =>
           obtain ⟨R',hR'⟩ := SI9.out
           rw [LN.out] at hR'
           exact ⟨j + 1,_,R',by omega,by omega,rfl,by go_num,HS.out.set hqk hjk (by rw [← HPJ.out]; exact hp),by rw [inRow_step hj1,inStep_one FJ.out.2 (by rw [← HPJ.out]; exact hp) (by rw [← HIQ.out]; omega) I9.out.cur.fact.2 (by first | omega | (have h : ((y : Int) == 1) = true := (by assumption); simp at h; omega) | (have h : ¬ ((y : Int) == 1) = true := (by assumption); simp at h; omega) | (have h : ((y : Int) == 1) = false := (by assumption); simp at h; omega))]; exact (hR'.mono (by omega)).fact ⟨FJ.out.1,rfl⟩⟩
         ·go_roundg (k - (j + 1))
          case measure => omega
          case rel => exact ⟨j + 1,ss,R,by omega,by omega,rfl,by go_num,HS.out.hold (by rw [← HIQ.out]; omega),by rw [inRow_step hj1,inStep_no FJ.out.2 (by rw [← HPJ.out]; exact hp) (by rw [← HIQ.out]; omega) I9.out.cur.fact.2 (by first | omega | (have h : ((y : Int) == 1) = true := (by assumption); simp at h; omega) | (have h : ¬ ((y : Int) == 1) = true := (by assumption); simp at h; omega) | (have h : ((y : Int) == 1) = false := (by assumption); simp at h; omega))]; exact (I9.out.mono (by omega)).fact ⟨FJ.out.1,rfl⟩⟩
       ·go_wp2_with fail
        go_roundg (k - (j + 1))
        case measure => omega
        case rel => exact ⟨j + 1,ss,R,by omega,by omega,rfl,by go_num,HS.out.skip (by rw [← HPJ.out]; exact hp),by rw [inRow_step hj1,inStep_skip FJ.out.2 (by rw [← HPJ.out]; exact hp)]; exact (I.out.mono (by omega)).fact ⟨FJ.out.1,rfl⟩⟩
      ·obtain rfl : j = k := by omega
       clear hI hS
       go_wp2_with fail
       go_roundg (j - (q + 1))
       case measure => omega
       case rel => exact ⟨q + 1,ss,R,by omega,rfl,by go_num,HS.out.next hqk,by rw [inAll,← HY1.out]; exact (I.out.mono (by omega)).fact FJ.out⟩
    ·obtain rfl : q = k := by omega
     have T0 := hid (ct_start hI)
     have P8 := hid (P.out (A + 2 + q * 1000 + q * 20) 8 _ (by omega) (by omega) hI.cur)
     clear hI hS c0 c1 c2 c3 cl
     go_wp2_with (go_at_call 19; have q' := P8.out; with_reducible refine q'.mono ?_; clear q'; rintro e w8 ⟨r8,rfl,hr,hc,hd⟩; have r88 : r8 < 8 := (by omega); have T1 := hid (T0.out.draw hd hc); clear hc hd hr)
     obtain ⟨kt,hkt⟩ : ∃ m : Nat,(10 : Int) - r8 = m := ⟨10 - r8,by omega⟩
     have k10 : kt ≤ 10 := by omega
     have HKt : Hid (kt = 10 - r8) := hid (by omega)
     rw [hkt]
     clear hkt r88
     go_loopg [12] kt (fun mm i X => ∃ (a : Nat) (tv : Value) (ts : List TrD) (Q : List (List Value)),a ≤ kt ∧ mm = kt - a ∧ i = .int .i64 a ∧ ts.length = a ∧ (∀ i,i < ts.length → okTr q ⟨o,s,t,v⟩ (ts.getD i tr0) = true) ∧ CtI w cb co n cap (A + 2 + q * 1000 + q * 20 + 2 + a * 1000) #[.int .i64 o,.int .i64 s,.int .i64 t,.int .i64 (v : Int)] (.slice (some ⟨g,0,none⟩) q gc) tv ss R ts Q X (transL n o s t v q a (pickF n 8 Y1.2).2).2 (PP ∧ ss = Y1.1 ∧ r8 = (pickF n 8 Y1.2).1 ∧ ts = (transL n o s t v q a (pickF n 8 Y1.2).2).1))
     case atStart => exact ⟨0,_,[],[],by omega,by omega,rfl,rfl,fun i hi => absurd hi (by simp),T1.out.fact ⟨T1.out.ch.cur.fact.1.1,T1.out.ch.cur.fact.1.2,T1.out.ch.cur.fact.2,rfl⟩⟩
     case round =>
      obtain ⟨a,tv,ts,Q,ha,rfl,rfl,hlen,hok,hI⟩ := hrel
      have I := hid hI
      have HLt := hid hlen
      have HOt := hid hok
      by_cases hat : a < kt
      ·have ai : (a : Int) < (kt : Int) := by omega
       obtain ⟨ta,tc,htv⟩ := own_any hI.tw
       subst htv
       have tl : ts.length ≤ 10 := by omega
       have ID := hid (hI.below ((Below.refl _ _).drew))
       have DK := hid (DT.out (A + 2 + q * 1000 + q * 20 + 2 + a * 1000) q _ (by omega) (by omega) ID.out.ch.cur)
       obtain ⟨c0,c1,c2,c3⟩ := pair_cells hI.ch.c
       have cl := lt_of_block hI.ch.c
       obtain ⟨l0,l1,l2,l3⟩ := quad_cells hI.ch.lb
       have ll := lt_of_block hI.ch.lb
       clear hI hlen hok
       go_upto_region 28 with fail
       go_region_law
        (first
         | (refine step_append_lies _ (by rfl) _ _ _ (by rfl) (w.heap.size + 1 + 1 + 1) 75 j0 _ 5 72 Tryz.underlying62 hj0 hj1 hj2 hj3 rfl (by omega) (.slice ta ts.length tc) ts.length Q.flatten (by simp [Act.eval]) IB.out.tw ⟨w9.heap.size,0,none⟩ 1 1 [.int .i64 tr.src,.int .i64 tr.sig,gv,.int .i64 tr.target,av] (by simp [Act.eval]) (by simp) NW.out (by intro u hu; simp at hu; rcases hu with rfl | rfl | rfl | rfl | rfl <;> first | rfl | (rw [GVF.out]; rfl) | (rw [AVF.out]; rfl)) (by omega) (by unfold maxLen; omega) (by omega) (by have := lt_of_block IB.out.ch.c; omega) (w9.heap.size + 1) (by simp) ?_; intro g6 cap6 w6 hown hgrow hat6 _; have X6 := (hgrow.block _ (lt_of_block IB.out.ch.c) (fun e => own_far IB.out.tw (by decide) IB.out.ch.c e.symm)).trans IB.out.ch.c; obtain ⟨q0,q1,q2,q3⟩ := pair_cells X6; have ql := lt_of_block X6; have I6 := hid (CtI.add IB.out TRI.out hgrow hown); clear hown hgrow hat6 X6)
         | (go_simp; go_wp2_with (go_at_call 36; refine DK.out.mono ?_; intro e w9 hq9; unfold TrEd at hq9; obtain ⟨tr,gv,av,rfl,hgv,hav,htr,⟨f1,f2,f3,hf⟩,⟨f4,f5,f6,hf'⟩,hc,hd⟩ := hq9; have I9 := hid (ID.out.draw hd hc); have IB := hid (I9.out.below (below1 w9 (.cells #[.int .i64 tr.src,.int .i64 tr.sig,gv,.int .i64 tr.target,av] 75))); have NW := hid (World.news_of_block (heap_alloc_new w9 (.cells #[.int .i64 tr.src,.int .i64 tr.sig,gv,.int .i64 tr.target,av] 75))); have TRI : Hid (TrIn (w9.alloc (.cells #[.int .i64 tr.src,.int .i64 tr.sig,gv,.int .i64 tr.target,av] 75)) (w.heap.size + 1 + 1 + 1) tr [.int .i64 tr.src,.int .i64 tr.sig,gv,.int .i64 tr.target,av]) := hid ⟨gv,av,rfl,ownsRow_below (ownsRow_base hgv (lt_of_block ID.out.ch.c)) (below1 _ _),StmsV.below (StmsV.base hav (lt_of_block ID.out.ch.c)) (below1 _ _)⟩; have HTR := hid htr; have GVF := hid hf; have AVF := hid hf'; obtain ⟨d0,d1,d2,d3⟩ := pair_cells I9.out.ch.c; have dl := lt_of_block I9.out.ch.c; clear hgv hav htr hf hf' hc hd)))
       all_goals
        go_wp2_with fail
        go_roundg (kt - (a + 1))
        case measure => omega
        case rel => exact ⟨a + 1,_,_,_,by omega,rfl,by go_num,by simp [HLt.out],ok_snoc HOt.out HTR.out,by rw [transL_step I6.out.ch.cur.fact.1.2.2.2 I6.out.ch.cur.fact.2]; exact (I6.out.mono (by omega)).fact ⟨I6.out.ch.cur.fact.1.1,I6.out.ch.cur.fact.1.2.1,I6.out.ch.cur.fact.1.2.2.1,rfl⟩⟩
      ·obtain rfl : a = kt := by omega
       obtain ⟨ta,tc,htv⟩ := own_any hI.tw
       subst htv
       obtain ⟨c0,c1,c2,c3⟩ := pair_cells hI.ch.c
       have cl := lt_of_block hI.ch.c
       obtain ⟨r0,r1,r2,r3⟩ := pair_cells hI.ch.r
       have rl := lt_of_block hI.ch.r
       have CK := hid (HS.out.check ⟨k1,k9⟩ HL.out (by omega) hok)
       have SL : ss.length ≤ 9 := by rw [HS.out.len]; exact k9
       have m1 := heap_setCell_same wr (w.heap.size + 1) 0 _ _ (.slice (some ⟨g,0,none⟩) q gc) hI.ch.r
       have m2 := heap_setCell_same _ (w.heap.size + 1) 1 _ _ (.slice ta ts.length tc) m1
       have M3 : Hid (((wr.setCell ⟨w.heap.size + 1,0,none⟩ (.slice (some ⟨g,0,none⟩) q gc)).setCell ⟨w.heap.size + 1,1,none⟩ (.slice ta ts.length tc)).heap[w.heap.size + 1]? = some (.cells #[.slice (some ⟨g,0,none⟩) q gc,.slice ta ts.length tc] 64 (0,0))) := hid (by rw [m2]; simp)
       have SLh := hid SL
       clear hI hlen hok m1 m2 SL
       go_wp2_with fail
       obtain ⟨v0,v1,_,_⟩ := pair_cells M3.out
       refine bodyPost_ret (v := .agg #[.slice (some ⟨g,0,none⟩) q gc,.slice ta ts.length tc]) (by simp [results,Tryz.results21,go_sem,v0,v1]) rfl ?_
       have hF : chartF n o s t v σ = ((ss,ts),(transL n o s t v q a (pickF n 8 Y1.2).2).2) := by
        have f1 := I.out.ch.cur.fact
        unfold chartF
        simp only [← FI.out.2.1,← HM.out,← HY1.out,← f1.2.2.1,← HKt.out,← f1.2.1,← f1.2.2.2]
       exact I.out.ret I.out.ch.cur.fact.1 hF CK.out SLh.out (by have := HLt.out; omega) (by omega)
end Go.Proofs.YtkdgkomnbjepdaaGreatDoor

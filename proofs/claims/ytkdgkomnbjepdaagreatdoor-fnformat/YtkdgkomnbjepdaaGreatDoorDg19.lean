import Derived.Test.YtkdgkomnbjepdaaGreatDoorGe
import Derived.Deep.RegionHeld3
import Derived.OrdersHeld
namespace Go.Proofs.YtkdgkomnbjepdaaGreatDoor
open Go.RowKit Go.Sort
set_option linter.unusedVariables false
attribute [local go_sem ↓] Go.wp_at_zero Go.wp_at_succ
def subsL (n : Nat) : Nat → Cs → List Int × Cs
 | 0,σ => ([],σ)
 | q + 1,σ => if (pickF n 2 (subsL n q σ).2).1 = 0 then ((q : Int) :: (subsL n q σ).1,(pickF n 2 (subsL n q σ).2).2) else ((subsL n q σ).1,(pickF n 2 (subsL n q σ).2).2)
def prioF (n k : Nat) (σ : Cs) : Int × Cs :=
 let h := pickF n 3 σ
 let p := pickF n 5 h.2
 if k = 1 then (1000 - ((pickF n 300 p.2).1 : Int),(pickF n 300 p.2).2) else (1 + ((k : Int) * 7 + h.1) * 5 + p.1,p.2)
def objF (n m sg tm k : Nat) (σ : Cs) : ObD × Cs :=
 let q := pickF n 5 σ
 let b := bankF n q.2
 let d := pickF n 4 b.2
 let p := prioF n k d.2
 let u := subsL n sg p.2
 let c := chartF n m sg tm b.1.2.length u.2
 (⟨p.1,1 + (q.1 : Int),d.1,b.1.1,b.1.2,u.1,c.1.1,c.1.2⟩,c.2)
def objsL (n m sg tm : Nat) : Nat → Cs → List ObD × Cs
 | 0,σ => ([],σ)
 | k + 1,σ => ((objsL n m sg tm k σ).1 ++ [(objF n m sg tm k (objsL n m sg tm k σ).2).1],(objF n m sg tm k (objsL n m sg tm k σ).2).2)
def tmsL (n m sg : Nat) : Nat → Cs → List (Int × Int) × Cs
 | 0,σ => ([],σ)
 | q + 1,σ =>
  let o := pickF n (m : Int) (tmsL n m sg q σ).2
  let s := pickF n (sg : Int) o.2
  ((tmsL n m sg q σ).1 ++ [((o.1 : Int),(s.1 : Int))],s.2)
def systemF (n : Nat) (σ : Cs) : SysD × Cs :=
 let r := pickF n 4 σ
 let m := pickF n 3 r.2
 let t := pickF n 4 m.2
 let o := objsL n (3 - m.1) (1 + r.1) t.1 (3 - m.1) t.2
 let x := tmsL n (3 - m.1) (1 + r.1) t.1 o.2
 (⟨1 + r.1,o.1,x.1⟩,x.2)
theorem subsL_yes {n q y : Nat} {us : List Int} {σ : Cs} (hu : us = (subsL n q σ).1) (hy : y = (pickF n 2 (subsL n q σ).2).1) (y0 : y = 0) : subsL n (q + 1) σ = ((q : Int) :: us,(pickF n 2 (subsL n q σ).2).2) := by
 rw [subsL,← hy,if_pos y0,← hu]
theorem subsL_no {n q y : Nat} {us : List Int} {σ : Cs} (hu : us = (subsL n q σ).1) (hy : y = (pickF n 2 (subsL n q σ).2).1) (y0 : ¬ y = 0) : subsL n (q + 1) σ = (us,(pickF n 2 (subsL n q σ).2).2) := by
 rw [subsL,← hy,if_neg y0,← hu]
theorem prioF_1 {n k rl : Nat} {σ : Cs} (h : k = 1) (hr : rl = (pickF n 300 (pickF n 5 (pickF n 3 σ).2).2).1) : prioF n k σ = (1000 - (rl : Int),(pickF n 300 (pickF n 5 (pickF n 3 σ).2).2).2) := by
 unfold prioF
 simp only [if_pos h,← hr]
theorem prioF_o {n k rh rp : Nat} {σ : Cs} (h : ¬ k = 1) (hh : rh = (pickF n 3 σ).1) (hp : rp = (pickF n 5 (pickF n 3 σ).2).1) : prioF n k σ = (1 + ((k : Int) * 7 + rh) * 5 + rp,(pickF n 5 (pickF n 3 σ).2).2) := by
 unfold prioF
 simp only [if_neg h,← hh,← hp]
theorem objF_of {n m sg tm k rq rd : Nat} {p : Int} {ks vs us : List Int} {ss : List StD} {ts : List TrD} {σ σd : Cs} (hq : rq = (pickF n 5 σ).1) (hk : ks = (bankF n (pickF n 5 σ).2).1.1) (hv : vs = (bankF n (pickF n 5 σ).2).1.2) (hd : rd = (pickF n 4 (bankF n (pickF n 5 σ).2).2).1) (hσ : σd = (pickF n 4 (bankF n (pickF n 5 σ).2).2).2) (hp : p = (prioF n k σd).1) (hu : us = (subsL n sg (prioF n k σd).2).1) (h1 : ss = (chartF n m sg tm vs.length (subsL n sg (prioF n k σd).2).2).1.1) (h2 : ts = (chartF n m sg tm vs.length (subsL n sg (prioF n k σd).2).2).1.2) : objF n m sg tm k σ = (⟨p,1 + (rq : Int),rd,ks,vs,us,ss,ts⟩,(chartF n m sg tm vs.length (subsL n sg (prioF n k σd).2).2).2) := by
 unfold objF
 simp only [← hq,← hk,← hv,← hd,← hσ,← hp,← hu,← h1,← h2]
theorem objsL_step {n m sg tm k : Nat} {σ τ τ' : Cs} {ds : List ObD} {d : ObD} (hs : ds = (objsL n m sg tm k σ).1) (hσ : τ = (objsL n m sg tm k σ).2) (h : objF n m sg tm k τ = (d,τ')) : objsL n m sg tm (k + 1) σ = (ds ++ [d],τ') := by
 rw [objsL,← hs,← hσ,h]
theorem tmsL_step {n m sg q y z : Nat} {σ : Cs} {tms : List (Int × Int)} (hs : tms = (tmsL n m sg q σ).1) (hy : y = (pickF n (m : Int) (tmsL n m sg q σ).2).1) (hz : z = (pickF n (sg : Int) (pickF n (m : Int) (tmsL n m sg q σ).2).2).1) : tmsL n m sg (q + 1) σ = (tms ++ [((y : Int),(z : Int))],(pickF n (sg : Int) (pickF n (m : Int) (tmsL n m sg q σ).2).2).2) := by
 rw [tmsL]
 simp only [← hs,← hy,← hz]
theorem infoObj : (Tryz.prog.info? 66).map (fun i => (i.zero,i.size,i.bytes)) = some (some (.agg #[.int .i64 0,.int .i64 0,.int .i64 0,.slice none 0 0,.slice none 0 0,.slice none 0 0,.slice none 0 0,.slice none 0 0]),8,144) := by kernel_rfl
theorem infoTm : (Tryz.prog.info? 57).map (fun i => (i.zero,i.size,i.bytes)) = some (some (.agg #[.int .i64 0,.int .i64 0]),2,16) := by kernel_rfl
theorem own_newsAt {X Y : World} {B : Nat} {e : TypeId} {size : Nat} {ao : Option Addr} {m c : Nat} {xs : List Value} (h : X.ownsRow B e size (.slice ao m c) m xs) (hb : Below X.heap.size X Y) : NewsAt Y ao m xs := by
 rcases h.2 with ⟨e0,rfl⟩ | ⟨g,cap,cur,e0,hbg,hh,hnc,hcm,hcs,ht⟩
 ·simp only [Value.slice.injEq] at e0
  obtain ⟨rfl,_,_⟩ := e0
  exact ⟨fun _ => rfl,(fun ad e => by cases e)⟩
 ·simp only [Value.slice.injEq] at e0
  obtain ⟨rfl,_,rfl⟩ := e0
  refine ⟨(fun he => by cases he),fun ad he j u hj => ?_⟩
  obtain rfl : ad = ⟨g,0,none⟩ := by simpa using he.symm
  have hl := lt_of_block hh
  have hj' : j < m * size := by have := (List.getElem?_eq_some_iff.1 hj).1; rw [h.1] at this; exact this
  rw [show (⟨g,0,none⟩ : Addr).add j = ⟨g,j,none⟩ by unfold Addr.add; split <;> simp_all,hb.cell (p := ⟨g,j,none⟩) hl,cell_of_row X g j cur e (0,0) hh,← hj,← ht,List.getElem?_take,if_pos hj']
  simp
theorem SyI.le {w : World} {cb : Nat} {co : Option Addr} {n cap A HS : Nat} {sg : Int} {ov tv : Value} {ds : List ObD} {R : List (List Value)} {X : World} {σ : Cs} {F : Prop} (h : SyI w cb co n cap A HS sg ov tv ds R X σ F) : w.heap.size + 1 ≤ X.heap.size := Nat.lt_of_le_of_lt (Nat.le_of_lt h.hs) (lt_of_block h.s)
theorem vint_one (zs : List Int) : ∀ u ∈ vint zs,u.oneCell' = true := by intro u hu; simp at hu; obtain ⟨z,_,rfl⟩ := hu; rfl
theorem triR {X : World} {H : Nat} {a b c d e f : Value} {t : TypeId} (h : X.heap[H]? = some (.cells #[d,e,f] t (0,0))) : (((X.setCell ⟨H,0,none⟩ a).setCell ⟨H,1,none⟩ b).setCell ⟨H,2,none⟩ c).heap[H]? = some (.cells #[a,b,c] t (0,0)) := by
 have m1 := heap_setCell_same X H 0 _ _ a h
 have m2 := heap_setCell_same _ H 1 _ _ b m1
 have m3 := heap_setCell_same _ H 2 _ _ c m2
 rw [m3]; simp
theorem lim_nat {o s t v : Nat} (h1 : o ≤ 64) (h2 : s ≤ 64) (h3 : t ≤ 200) (h4 : v ≤ 32) : limP ⟨o,s,t,v⟩ := ⟨⟨show (0 : Int) ≤ (o : Int) by omega,show (o : Int) ≤ 64 by omega⟩,⟨show (0 : Int) ≤ (s : Int) by omega,show (s : Int) ≤ 64 by omega⟩,⟨show (0 : Int) ≤ (t : Int) by omega,show (t : Int) ≤ 200 by omega⟩,⟨show (0 : Int) ≤ (v : Int) by omega,show (v : Int) ≤ 32 by omega⟩⟩
theorem sub_box {X Y : World} {HO : Nat} {cs : Array Value} {t : TypeId} {x : Value} (h : X.heap[HO]? = some (.cells cs t (0,0))) (hg : (X.alloc (.cells #[x] 3)).grownBy Y (some X.heap.size)) : Y.heap[HO]? = some (.cells cs t (0,0)) := by
 have hl := lt_of_block h
 exact (hg.block HO (by simp; omega) (fun e => by simp at e; omega)).trans (block_below h (below1 _ _))
set_option maxRecDepth 100000 in
set_option maxHeartbeats 16000000 in
theorem drawSystem_any (cb : Nat) (co : Option Addr) (n cap A : Nat) {σ : Cs} {P0 : Prop} (w : World) (hA : A ≤ 1000000) (h : Cur w cb co n cap A σ P0) :
  Calls Tryz.prog 8 #[.pointer (some ⟨cb,0,none⟩)] w fun e w' => SysEd w w' cb co n cap (A + 400000) (systemF n σ) P0 e := by
 have H0 := hid h
 have P := hid (fun B (k : Int) w' (hk : k ≤ 65536) (hB : B ≤ 10000000000) {τ : Cs} {Q : Prop} (h' : Cur w' cb co n cap B τ Q) => pick_any cb co n cap B k hk w' (by omega) h')
 have DB := hid (fun B w' (hB : B ≤ 80000000) {τ : Cs} {Q : Prop} (h' : Cur w' cb co n cap B τ Q) => drawBank_any cb co n cap B w' hB h')
 have DC := hid (fun B (o s t : Int) (v : Nat) (hl : limP ⟨o,s,t,v⟩) (hs : 1 ≤ s) w' (hB : B ≤ 10000000) {τ : Cs} {Q : Prop} (h' : Cur w' cb co n cap B τ Q) => drawChart_any cb co n cap B o s t v hl hs w' hB h')
 obtain ⟨i0,hi0,hz0,hz1,hz2⟩ := info_parts Tryz.infoInt0
 obtain ⟨j0,hj0,hj1,hj2,hj3⟩ := info_parts infoObj
 obtain ⟨t0,ht0,ht1,ht2,ht3⟩ := info_parts infoTm
 have P4 := hid (P.out A 4 (w.alloc (.cells #[.int .i64 0,.slice none 0 0,.slice none 0 0] 26)) (by omega) (by omega) (h.below (below1 _ _)))
 clear h
 go_enter Tryz.func8,Tryz.ntmps8
 go_wp2_with (first
  | (go_at_call 19; have q := P4.out; with_reducible refine q.mono ?_; clear q; rintro e w1 ⟨r,rfl,hr,hc,hd⟩; have r4 : r < 4 := (by omega); have S1 := hid (sy_start (sg := 1 + (r : Int)) H0.out hd hc); have P3 := hid (P.out (A + 2) 3 _ (by omega) (by omega) S1.out.cur); clear hc hd hr)
  | (go_at_call 19; have q := P3.out; with_reducible refine q.mono ?_; clear q; rintro e w2 ⟨r2,rfl,hr,hc,hd⟩; have r23 : r2 < 3 := (by omega); have S2 := hid (S1.out.draw hd hc); have P5 := hid (P.out (A + 2 + 2) 4 _ (by omega) (by omega) S2.out.cur); clear hc hd hr)
  | (go_at_call 19; have q := P5.out; with_reducible refine q.mono ?_; clear q; rintro e w3 ⟨tm,rfl,hr,hc,hd⟩; have tm4 : tm < 4 := (by omega); have S3 := hid (S2.out.draw hd hc); clear hc hd hr))
 obtain ⟨m,hm⟩ : ∃ m : Nat,(3 : Int) - r2 = m := ⟨3 - r2,by omega⟩
 have m3 : 1 ≤ m ∧ m ≤ 3 := by omega
 rw [hm]
 obtain ⟨sg,hsg⟩ : ∃ s : Nat,(1 : Int) + r = s := ⟨1 + r,by omega⟩
 have sg4 : 1 ≤ sg ∧ sg ≤ 4 := by omega
 rw [hsg] at S3
 have HM : Hid (m = 3 - r2) := hid (by omega)
 have HSG : Hid (sg = 1 + r) := hid (by omega)
 have FS := hid S3.out.cur.fact
 obtain ⟨σ3,hσ3⟩ : ∃ x,x = (pickF n 4 (pickF n 3 (pickF n 4 σ).2).2).2 := ⟨_,rfl⟩
 rw [← hσ3] at S3
 have HS3 := hid hσ3
 clear hσ3
 clear hm r23 hsg r4 S1 S2
 obtain ⟨HS,hHS⟩ : ∃ H,H = w1.heap.size := ⟨_,rfl⟩
 rw [← hHS] at S3 ⊢
 clear hHS
 go_loopg [6] m (fun mm i X => ∃ (k : Nat) (ov : Value) (ds : List ObD) (R : List (List Value)),k ≤ m ∧ mm = m - k ∧ i = .int .i64 k ∧ ds.length = k ∧ (∀ i,i < ds.length → ObOk m sg tm i (ds.getD i ob0)) ∧ SyI w cb co n cap (A + 6 + k * 110000) HS sg ov (.slice none 0 0) ds R X (objsL n m sg tm k σ3).2 (P0 ∧ ds = (objsL n m sg tm k σ3).1))
 case atStart => exact ⟨0,_,[],[],by omega,by omega,rfl,rfl,fun i hi => absurd hi (by simp),S3.out.fact ⟨FS.out.1.1.1,rfl⟩⟩
 case round =>
  obtain ⟨k,ov,ds,R,hk,rfl,rfl,hlen,hok,hI⟩ := hrel
  have FI := hid hI.cur.fact
  obtain ⟨σk,hσk⟩ : ∃ x,x = (objsL n m sg tm k σ3).2 := ⟨_,rfl⟩
  rw [← hσk] at hI
  have HSk := hid hσk
  clear hσk
  replace hI := hI.fact (G := True) trivial
  have I := hid hI
  have HOK := hid hok
  have HLn := hid hlen
  have k3 : k ≤ 3 := by omega
  by_cases hlt : k < m
  ·have ki : (k : Int) < (m : Int) := by omega
   have PQ := hid (P.out (A + 6 + k * 110000) 5 _ (by omega) (by omega) hI.cur)
   obtain ⟨oa,oc,hov⟩ := own_any hI.oo
   subst hov
   clear hI hok hlen
   go_upto_if 48 with (first
    | (go_at_call 19; have q := PQ.out; with_reducible refine q.mono ?_; clear q; rintro e w4 ⟨rq,rfl,hr,hc,hd⟩; have rq5 : rq < 5 := (by omega); have I4 := hid (I.out.draw hd hc); have QB := hid (DB.out (A + 6 + k * 110000 + 2) _ (by omega) I4.out.cur); clear hc hd hr)
    | (go_at_call 20; have q := QB.out; with_reducible refine q.mono ?_; clear q; intro e w5 hq5; unfold BankEd at hq5; obtain ⟨kv,vv,ks,vs,rfl,hkv,hvv,hne,hbd,hks,hc,hd⟩ := hq5; have I5 := hid (I4.out.draw hd hc); have hle := I4.out.le; have O5 := hid (ob_start (q := 1 + (rq : Int)) I5.out (ownsRow_base hkv hle) (ownsRow_base hvv hle)); obtain ⟨ka,kc,hkv2⟩ := own_any hkv; subst hkv2; obtain ⟨va,vc,hvv2⟩ := own_any hvv; subst hvv2; have BD := hid hbd; have KL := hid hks; have QD := hid (P.out (A + 6 + k * 110000 + 2 + 100) 4 _ (by omega) (by omega) O5.out.sy.cur); clear hc hd hne hbd hks hkv hvv hle)
    | (go_at_call 19; have q := QD.out; with_reducible refine q.mono ?_; clear q; rintro e w6 ⟨rd,rfl,hr,hc,hd⟩; have rd4 : rd < 4 := (by omega); have O6 := hid (O5.out.draw hd hc); obtain ⟨⟨a0,a1,a2,a3⟩,⟨a4,a5,a6,a7⟩,af⟩ := oct_cells O6.out.o; have al := lt_of_block O6.out.o; have O6b := hid (O6.out.set (q := 2) (u := .int .i64 (rd : Int)) (d' := ⟨0,1 + (rq : Int),rd,ks,vs,[],[],[]⟩) rfl ⟨O6.out.ob.k,O6.out.ob.v,O6.out.ob.u,O6.out.ob.s,O6.out.ob.t⟩); have QH := hid (P.out (A + 6 + k * 110000 + 2 + 100 + 2) 3 _ (by omega) (by omega) O6b.out.sy.cur); clear hc hd hr)
    | (go_at_call 19; have q := QH.out; with_reducible refine q.mono ?_; clear q; rintro e w7 ⟨rh,rfl,hr,hc,hd⟩; have rh3 : rh < 3 := (by omega); have O7 := hid (O6b.out.draw hd hc); have QP := hid (P.out (A + 6 + k * 110000 + 2 + 100 + 2 + 2) 5 _ (by omega) (by omega) O7.out.sy.cur); clear hc hd hr)
    | (go_at_call 19; have q := QP.out; with_reducible refine q.mono ?_; clear q; rintro e w8 ⟨rp,rfl,hr,hc,hd⟩; have rp5 : rp < 5 := (by omega); have O8 := hid (O7.out.draw hd hc); clear a0 a1 a2 a3 a4 a5 a6 a7 af al; obtain ⟨⟨a0,a1,a2,a3⟩,⟨a4,a5,a6,a7⟩,af⟩ := oct_cells O8.out.o; have al := lt_of_block O8.out.o; clear hc hd hr))
   obtain ⟨pr,hpr⟩ : ∃ p : Int,p = 1 + ((k : Int) * 7 + rh) * 5 + rp := ⟨_,rfl⟩
   rw [← hpr]
   have PR := hid hpr
   have O8b := hid (O8.out.set (q := 0) (u := .int .i64 pr) (d' := ⟨pr,1 + (rq : Int),rd,ks,vs,[],[],[]⟩) rfl ⟨O8.out.ob.k,O8.out.ob.v,O8.out.ob.u,O8.out.ob.s,O8.out.ob.t⟩)
   obtain ⟨W,hW⟩ : ∃ W,W = w8.setCell ⟨w5.heap.size,0,none⟩ (.int .i64 pr) := ⟨_,rfl⟩
   rw [← hW] at O8b ⊢
   obtain ⟨σd,hσd⟩ : ∃ x,x = (pickF n 4 (bankF n (pickF n 5 σk).2).2).2 := ⟨_,rfl⟩
   rw [← hσd] at O8b
   have HSd := hid hσd
   clear hσd
   have FO := hid O8b.out.sy.cur.fact
   clear hW hpr a0 a1 a2 a3 a4 a5 a6 a7 af al
   have QL := hid (P.out (A + 6 + k * 110000 + 2 + 100 + 2 + 2 + 2) 300 _ (by omega) (by omega) O8b.out.sy.cur)
   obtain ⟨HO,hHO⟩ : ∃ H,H = w5.heap.size := ⟨_,rfl⟩
   rw [← hHO] at O8b ⊢
   clear hHO O5 O6 O6b O7 O8 QD QH QP QB PQ I4 I5
   have PF : Hid (k ≠ 1 → PrioOk k pr) := hid (fun h => ⟨fun e => by rw [PR.out,e]; omega,fun e => absurd e h,fun e => by rw [PR.out,e]; omega⟩)
   go_cut [] from 21 to 85 (fun wx => ∃ p : Int,PrioOk k p ∧ ObB w cb co n cap (A + 6 + k * 110000 + 2 + 100 + 2 + 2 + 2 + 2) HS sg (.slice oa ds.length oc) (.slice none 0 0) ds R HO ⟨p,1 + (rq : Int),rd,ks,vs,[],[],[]⟩ (.slice ka ks.length kc) (.slice va vs.length vc) (.slice none 0 0) (.slice none 0 0) (.slice none 0 0) wx (prioF n k σd).2 (p = (prioF n k σd).1))
   case first =>
    obtain ⟨⟨a0,a1,a2,a3⟩,⟨a4,a5,a6,a7⟩,af⟩ := oct_cells O8b.out.o
    have al := lt_of_block O8b.out.o
    by_cases hk1 : (k : Int) = 1
    ·have hkb : ((k : Int) == 1) = true := by simp [hk1]
     have PL : Hid (∀ r : Nat,r < 300 → PrioOk k (1000 - (r : Int))) := hid (fun r hr => ⟨fun e => by omega,fun e => by omega,fun e => by omega⟩)
     have HK1 : Hid (k = 1) := hid (by omega)
     clear hk1
     go_wp2_with (go_at_call 19; have q := QL.out; with_reducible refine q.mono ?_; clear q; rintro e w9 ⟨rl,rfl,hr,hc,hd⟩; have rl3 : rl < 300 := (by omega); have O9 := hid (O8b.out.draw hd hc); clear a0 a1 a2 a3 a4 a5 a6 a7 af al; obtain ⟨⟨a0,a1,a2,a3⟩,⟨a4,a5,a6,a7⟩,af⟩ := oct_cells O9.out.o; have al := lt_of_block O9.out.o; clear hc hd hr)
     go_meet
     have OZ := O9.out.set (q := 0) (u := .int .i64 (1000 - (rl : Int))) (d' := ⟨1000 - (rl : Int),1 + (rq : Int),rd,ks,vs,[],[],[]⟩) rfl ⟨O9.out.ob.k,O9.out.ob.v,O9.out.ob.u,O9.out.ob.s,O9.out.ob.t⟩
     exact ⟨1000 - (rl : Int),PL.out _ rl3,by rw [prioF_1 HK1.out O9.out.sy.cur.fact.2]; exact OZ.fact rfl⟩
    ·have hkb : ((k : Int) == 1) = false := by simp [hk1]
     have hk2 : k ≠ 1 := by omega
     clear hk1
     go_wp2_with fail
     go_meet
     have OZ : ObB w cb co n cap (A + 6 + k * 110000 + 2 + 100 + 2 + 2 + 2 + 2) _ _ _ _ _ _ _ _ _ _ _ _ _ _ _ _ := O8b.out.mono (by omega)
     exact ⟨pr,PF.out hk2,by rw [prioF_o hk2 FO.out.1.2 FO.out.2]; exact OZ.fact PR.out⟩
   case rest =>
    obtain ⟨p,hp,hB⟩ := hcut
    have PP := hid hp
    have FP := hid hB.sy.cur.fact
    have O1 := hid hB
    clear hp hB PF PR O8b QL
    go_wp2_with fail
    go_loopg [9] sg (fun mm i X => ∃ (q : Nat) (us : List Int) (uv : Value),q ≤ sg ∧ mm = sg - q ∧ i = .int .i64 q ∧ SubsOk (q : Int) us ∧ us.length ≤ q ∧ ObB w cb co n cap (A + 6 + k * 110000 + 2 + 100 + 2 + 2 + 2 + 2 + q * 2) HS sg (.slice oa ds.length oc) (.slice none 0 0) ds R HO ⟨p,1 + (rq : Int),rd,ks,vs,us,[],[]⟩ (.slice ka ks.length kc) (.slice va vs.length vc) uv (.slice none 0 0) (.slice none 0 0) X (subsL n q (prioF n k σd).2).2 (us = (subsL n q (prioF n k σd).2).1))
    case atStart => exact ⟨0,[],_,by omega,by omega,rfl,⟨List.Pairwise.nil,(fun x hx => by cases hx)⟩,by simp,O1.out.fact rfl⟩
    case round =>
     obtain ⟨q,us,uv,hq,rfl,rfl,hsub,hul,hB⟩ := hrel
     have OB := hid hB
     have SU := hid hsub
     obtain ⟨ua,uc,huv⟩ := own_any hB.ob.u
     subst huv
     obtain ⟨s0,s1,s2,sf⟩ := tcell3 hB.sy.s
     have sl := lt_of_block hB.sy.s
     obtain ⟨⟨a0,a1,a2,a3⟩,⟨a4,a5,a6,a7⟩,af⟩ := oct_cells hB.o
     have al := lt_of_block hB.o
     by_cases hqs : q < sg
     ·have qi : (q : Int) < (sg : Int) := by omega
      have P2 := hid (P.out (A + 6 + k * 110000 + 2 + 100 + 2 + 2 + 2 + 2 + q * 2) 2 _ (by omega) (by omega) hB.sy.cur)
      have ul4 : us.length ≤ 4 := by omega
      clear hB hsub
      go_wp2_with (first
       | (go_at_call 19; have q' := P2.out; with_reducible refine q'.mono ?_; clear q'; rintro e w9 ⟨y,rfl,hy,hc,hd⟩; have O9 := hid (OB.out.draw hd hc); clear a0 a1 a2 a3 a4 a5 a6 a7 af al s0 s1 s2 sf sl; obtain ⟨⟨a0,a1,a2,a3⟩,⟨a4,a5,a6,a7⟩,af⟩ := oct_cells O9.out.o; have al := lt_of_block O9.out.o; have NB := hid (own_newsAt O9.out.ob.u (below1 w9 (.cells #[.int .i64 (q : Int)] 3))); clear hc hd hy)
       | (at_builtin; refine wpList_append_opt _ rfl (.tmp 63) (.tmp 65) 58 rfl w9.heap.size 3 i0 _ 1 8 Tryz.underlying58 hi0 hz0 hz1 hz2 rfl (by decide) (.slice (some ⟨w9.heap.size,0,none⟩) 1 1) 1 [.int .i64 (q : Int)] rfl (World.ownsRow_lit w9 #[.int .i64 (q : Int)] 1 (Nat.le_refl _) (by decide) rfl) ua us.length uc (vint us) rfl (by simp [vint]) NB.out (vint_one us) (by unfold maxLen; omega) (by omega) (by simp) ?_; intro v' w10 hown hgrow hnil; have OC := hid (ObB.subs (x := (q : Int)) O9.out hgrow hown); obtain ⟨ga,gc,hv'⟩ := own_any hown; subst hv'; have X10 := sub_box O9.out.o hgrow; clear a0 a1 a2 a3 a4 a5 a6 a7 af al; obtain ⟨⟨a0,a1,a2,a3⟩,⟨a4,a5,a6,a7⟩,af⟩ := oct_cells X10; have al := lt_of_block X10; clear hown hgrow hnil X10))
      ·go_roundg (sg - (q + 1))
       case measure => omega
       case rel => 
        have OZ : ObB w cb co n cap (A + 6 + k * 110000 + 2 + 100 + 2 + 2 + 2 + 2 + (q + 1) * 2) _ _ _ _ _ _ _ _ _ _ _ _ _ _ _ _ := OC.out.mono (by omega)
        exact ⟨q + 1,(q : Int) :: us,_,by omega,rfl,by go_num,SU.out.step,by simp; omega,by rw [subsL_yes O9.out.sy.cur.fact.1 O9.out.sy.cur.fact.2 (by first | omega | (have h : ((y : Int) == 0) = true := (by assumption); simp at h; omega) | (have h : ¬ ((y : Int) == 0) = true := (by assumption); simp at h; omega) | (have h : ((y : Int) == 0) = false := (by assumption); simp at h; omega))]; exact OZ.fact rfl⟩
      ·go_roundg (sg - (q + 1))
       case measure => omega
       case rel => 
        have OZ : ObB w cb co n cap (A + 6 + k * 110000 + 2 + 100 + 2 + 2 + 2 + 2 + (q + 1) * 2) _ _ _ _ _ _ _ _ _ _ _ _ _ _ _ _ := O9.out.mono (by omega)
        exact ⟨q + 1,us,_,by omega,rfl,by go_num,SU.out.hold,by omega,by rw [subsL_no O9.out.sy.cur.fact.1 O9.out.sy.cur.fact.2 (by first | omega | (have h : ((y : Int) == 0) = true := (by assumption); simp at h; omega) | (have h : ¬ ((y : Int) == 0) = true := (by assumption); simp at h; omega) | (have h : ((y : Int) == 0) = false := (by assumption); simp at h; omega))]; exact OZ.fact rfl⟩
     ·obtain rfl : q = sg := by omega
      have ul4 : us.length ≤ 4 := by omega
      have vl4 : vs.length ≤ 4 := by rw [← BD.out.1]; exact KL.out
      have QC := hid (DC.out (A + 6 + k * 110000 + 2 + 100 + 2 + 2 + 2 + 2 + q * 2) m q tm vs.length (lim_nat (by omega) (by omega) (by omega) (by omega)) (by omega) _ (by omega) hB.sy.cur)
      clear hB hsub
      go_upto_region 19 with (go_at_call 21; have q' := QC.out; with_reducible refine q'.mono ?_; clear q'; intro e w9 hq9; unfold ChartEd at hq9; obtain ⟨sv,xv,ss,Rs,ts,Qs,rfl,h1,h2,h3,h4,hck,hl1,hl2,hc,hd⟩ := hq9; have O9 := hid (OB.out.draw hd hc); have C9 := hid (ObB.chart (ss := ss) (ts := ts) (sv' := sv) (xv' := xv) O9.out ⟨Rs,ownsRow_base h1 OB.out.sy.le,h2.base OB.out.sy.le⟩ ⟨Qs,ownsRow_base h3 OB.out.sy.le,h4.base OB.out.sy.le⟩); obtain ⟨sa,sc,e1⟩ := own_any h1; subst e1; obtain ⟨xa,xc,e2⟩ := own_any h3; subst e2; have CK := hid hck; have SL := hid hl1; have TL := hid hl2; clear a0 a1 a2 a3 a4 a5 a6 a7 af al s0 s1 s2 sf sl; obtain ⟨⟨a0,a1,a2,a3⟩,⟨a4,a5,a6,a7⟩,af⟩ := oct_cells O9.out.o; have al := lt_of_block O9.out.o; clear h1 h2 h3 h4 hck hl1 hl2 hc hd)
      obtain ⟨Z,hZ⟩ : ∃ Z,Z = (w9.setCell ⟨HO,6,none⟩ (.slice sa ss.length sc)).setCell ⟨HO,7,none⟩ (.slice xa ts.length xc) := ⟨_,rfl⟩
      rw [← hZ] at C9 ⊢
      clear hZ a0 a1 a2 a3 a4 a5 a6 a7 af al O9 OB QC
      obtain ⟨⟨a0,a1,a2,a3⟩,⟨a4,a5,a6,a7⟩,af⟩ := oct_cells C9.out.o
      have al := lt_of_block C9.out.o
      obtain ⟨s0,s1,s2,sf⟩ := tcell3 C9.out.sy.s
      have sl := lt_of_block C9.out.sy.s
      have CB := hid (C9.out.below (below1 Z (.cells #[.int .i64 p,.int .i64 (1 + (rq : Int)),.int .i64 (rd : Int),.slice ka ks.length kc,.slice va vs.length vc,.slice ua us.length uc,.slice sa ss.length sc,.slice xa ts.length xc] 66)))
      have NW := hid (World.news_of_block (heap_alloc_new Z (.cells #[.int .i64 p,.int .i64 (1 + (rq : Int)),.int .i64 (rd : Int),.slice ka ks.length kc,.slice va vs.length vc,.slice ua us.length uc,.slice sa ss.length sc,.slice xa ts.length xc] 66)))
      have dl3 : ds.length ≤ 3 := by rw [HLn.out]; exact k3
      go_wp2_with (at_builtin; refine wpList_append_lies _ rfl (.tmp 81) (.tmp 83) 23 rfl (w.heap.size + 1) 66 j0 _ 8 144 Tryz.underlying23 hj0 hj1 hj2 hj3 rfl (by decide) (.slice oa ds.length oc) ds.length R.flatten rfl CB.out.sy.oo ⟨Z.heap.size,0,none⟩ 1 1 [.int .i64 p,.int .i64 (1 + (rq : Int)),.int .i64 (rd : Int),.slice ka ks.length kc,.slice va vs.length vc,.slice ua us.length uc,.slice sa ss.length sc,.slice xa ts.length xc] rfl rfl NW.out (by intro u hu; simp at hu; rcases hu with rfl | rfl | rfl | rfl | rfl | rfl | rfl | rfl <;> rfl) (by omega) (by unfold maxLen; omega) (by omega) CB.out.le (Z.heap.size + 1) (by simp) ?_)
      intro g7 cap7 w7 hown hgrow hat7 _
      have X7 := (hgrow.block _ (lt_of_block CB.out.sy.s) (fun e => own_far CB.out.sy.oo (by decide) CB.out.sy.s e.symm)).trans CB.out.sy.s
      have CA := hid (SyI.add CB.out.sy CB.out.ob.in hgrow hown)
      clear a0 a1 a2 a3 a4 a5 a6 a7 af al s0 s1 s2 sf sl
      obtain ⟨s0,s1,s2,sf⟩ := tcell3 X7
      have sl := lt_of_block X7
      clear hown hgrow hat7 X7 CB NW
      go_wp2_with fail
      go_roundg (m - (k + 1))
      case measure => omega
      case rel =>
       have hst := objsL_step FI.out.2 HSk.out (objF_of FO.out.1.1.1.1.2 FO.out.1.1.1.2.1 FO.out.1.1.1.2.2 FO.out.1.1.2 HSd.out FP.out CA.out.cur.fact.1 CA.out.cur.fact.2.1 CA.out.cur.fact.2.2)
       have OZ : SyI w cb co n cap (A + 6 + (k + 1) * 110000) _ _ _ _ _ _ _ _ _ := CA.out.mono (by omega)
       refine ⟨k + 1,_,ds ++ [⟨p,1 + (rq : Int),rd,ks,vs,us,ss,ts⟩],_,by omega,rfl,by go_num,by simp [HLn.out],obok_snoc HOK.out ?_,by rw [hst]; exact OZ.fact ⟨FI.out.1,rfl⟩⟩
       rw [HLn.out]
       exact ⟨⟨show (1 : Int) ≤ 1 + (rq : Int) by omega,show 1 + (rq : Int) ≤ 5 by omega⟩,⟨show (0 : Int) ≤ (rd : Int) by omega,show (rd : Int) ≤ 3 by omega⟩,PP.out,BD.out,KL.out,SU.out,CK.out,SL.out,TL.out⟩
  ·obtain rfl : k = m := by omega
   obtain ⟨oa,oc,hov⟩ := own_any hI.oo
   subst hov
   have T0 := hid (tm_start hI)
   clear hI hok hlen
   go_wp2_with fail
   go_loopg [10] tm (fun mm i X => ∃ (q : Nat) (tv : Value) (tms : List (Int × Int)),q ≤ tm ∧ mm = tm - q ∧ i = .int .i64 q ∧ tms.length = q ∧ (∀ i,i < tms.length → (0 ≤ (tms.getD i (0,0)).1 ∧ (tms.getD i (0,0)).1 < k) ∧ (0 ≤ (tms.getD i (0,0)).2 ∧ (tms.getD i (0,0)).2 < sg)) ∧ TmI w cb co n cap (A + 6 + k * 110000 + q * 4) HS sg (.slice oa ds.length oc) tv ds R tms X (tmsL n k sg q σk).2 (tms = (tmsL n k sg q σk).1))
   case atStart => exact ⟨0,_,[],by omega,by omega,rfl,rfl,(fun i hi => absurd hi (by simp)),T0.out.fact rfl⟩
   case round =>
    obtain ⟨q,tv,tms,hq,rfl,rfl,htl,htm,hT⟩ := hrel
    have T1 := hid hT
    have TMS := hid htm
    have TLN := hid htl
    obtain ⟨ta,tc,htv⟩ := own_any hT.tw
    subst htv
    obtain ⟨s0,s1,s2,sf⟩ := tcell3 hT.sy.s
    have sl := lt_of_block hT.sy.s
    by_cases hqt : q < tm
    ·have qi : (q : Int) < (tm : Int) := by omega
     have PN := hid (P.out (A + 6 + k * 110000 + q * 4) k _ (by omega) (by omega) hT.sy.cur)
     have tl3 : tms.length ≤ 3 := by omega
     clear hT htm htl
     go_upto_region 24 with (go_at_call 19; have q' := PN.out; with_reducible refine q'.mono ?_; clear q'; rintro e w9 ⟨y,rfl,hy,hc,hd⟩; have yk : (y : Int) < k := (by omega); have T9 := hid (T1.out.draw hd hc); clear s0 s1 s2 sf sl hc hd hy)
     obtain ⟨s0,s1,s2,sf⟩ := tcell3 T9.out.sy.s
     have sl := lt_of_block T9.out.sy.s
     have TD := hid (T9.out.below ((Below.refl _ _).drew))
     have PS := hid (P.out (A + 6 + k * 110000 + q * 4 + 2) sg _ (by omega) (by omega) TD.out.sy.cur)
     go_region_law
      (first
       | (refine step_append_lies _ (by rfl) _ _ _ (by rfl) (w.heap.size + 1) 57 t0 _ 2 16 Tryz.underlying24 ht0 ht1 ht2 ht3 rfl (by omega) (.slice ta tms.length tc) tms.length (cellsI tms) (by simp [Act.eval]) IB.out.tw ⟨w10.heap.size,0,none⟩ 1 1 [.int .i64 (y : Int),.int .i64 (z : Int)] (by simp [Act.eval]) (by simp) NW.out (by intro u hu; simp at hu; rcases hu with rfl | rfl <;> rfl) (by omega) (by unfold maxLen; omega) (by omega) IB.out.sy.le (w10.heap.size + 1) (by simp) ?_; intro g6 cap6 w6 hown hgrow hat6 _; have X6 := (hgrow.block _ (lt_of_block IB.out.sy.s) (fun e => own_far IB.out.tw (by decide) IB.out.sy.s e.symm)).trans IB.out.sy.s; obtain ⟨q0,q1,q2,q3⟩ := tcell3 X6; have ql := lt_of_block X6; have I6 := hid (TmI.add IB.out hgrow hown); clear hown hgrow hat6 X6)
       | (go_simp; go_wp2_with (go_at_call 19; refine PS.out.mono ?_; rintro e w10 ⟨z,rfl,hz,hc,hd⟩; have zs : (z : Int) < sg := (by omega); have I9 := hid (TD.out.draw hd hc); have IB := hid (I9.out.below (below1 w10 (.cells #[.int .i64 (y : Int),.int .i64 (z : Int)] 57))); have NW := hid (World.news_of_block (heap_alloc_new w10 (.cells #[.int .i64 (y : Int),.int .i64 (z : Int)] 57))); obtain ⟨d0,d1,d2,d3⟩ := tcell3 I9.out.sy.s; have dl := lt_of_block I9.out.sy.s; clear hc hd hz)))
     all_goals
      go_wp2_with fail
      go_roundg (tm - (q + 1))
      case measure => omega
      case rel => 
       have OZ : TmI w cb co n cap (A + 6 + k * 110000 + (q + 1) * 4) _ _ _ _ _ _ _ _ _ _ := I6.out.mono (by omega)
       exact ⟨q + 1,_,tms ++ [((y : Int),(z : Int))],by omega,rfl,by go_num,by simp [TLN.out],tm_snoc TMS.out ⟨by omega,yk⟩ ⟨by omega,zs⟩,by rw [tmsL_step I6.out.sy.cur.fact.1.1 I6.out.sy.cur.fact.1.2 I6.out.sy.cur.fact.2]; exact OZ.fact rfl⟩
    ·obtain rfl : q = tm := by omega
     obtain ⟨r0,r1,r2',rf⟩ := tcell3 hT.sy.r
     have rl := lt_of_block hT.sy.r
     clear hT htm htl
     go_wp2_with fail
     obtain ⟨v0,v1,v2,_⟩ := tcell3 (triR (a := .int .i64 (sg : Int)) (b := .slice oa ds.length oc) (c := .slice ta tms.length tc) T1.out.sy.r)
     refine bodyPost_ret (v := .agg #[.int .i64 (sg : Int),.slice oa ds.length oc,.slice ta tms.length tc]) (by simp [results,Tryz.results8,go_sem,v0,v1,v2]) rfl ?_
     have hF : systemF n σ = (⟨sg,ds,tms⟩,(tmsL n k sg q σk).2) := by
      have f1 := T1.out.sy.cur.fact
      unfold systemF
      simp only [← FS.out.1.1.2,← FS.out.1.2,← FS.out.2,← HM.out,← HSG.out,← HS3.out,← FI.out.2,← HSk.out,← f1]
     exact T1.out.ret FI.out.1 hF ⟨sg4,by rw [HLn.out]; exact m3,(show tms.length ≤ 3 by rw [TLN.out]; omega),(show ∀ i,i < ds.length → ObOk ds.length sg tms.length i (ds.getD i ob0) by rw [TLN.out]; intro i hi; have := HOK.out i hi; rw [← HLn.out] at this; exact this),(show ∀ i,i < tms.length → _ by rw [HLn.out]; exact TMS.out)⟩ (by omega)
end Go.Proofs.YtkdgkomnbjepdaaGreatDoor

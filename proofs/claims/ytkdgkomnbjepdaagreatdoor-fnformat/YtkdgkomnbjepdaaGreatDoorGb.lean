import Derived.Test.YtkdgkomnbjepdaaGreatDoorGa
import Derived.Test.YtkdgkomnbjepdaaGreatDoorOa
namespace Go.Proofs.YtkdgkomnbjepdaaGreatDoor
open Go.RowKit Go.Sort
set_option linter.unusedVariables false
attribute [local go_sem ↓] Go.wp_at_zero Go.wp_at_succ
def codeF (n vars : Nat) : Nat → Cs → List (Int × Int) × Cs
 | 0,σ =>
  if (pickF n 10 σ).1 % 3 = 0 ∧ 0 < vars then ([(2,((pickF n vars (pickF n 10 σ).2).1 : Int))],(pickF n vars (pickF n 10 σ).2).2)
  else if (pickF n 10 σ).1 % 3 = 1 then ([(3,0)],(pickF n 10 σ).2)
  else ([(1,(numF n (pickF n 10 σ).2).1)],(numF n (pickF n 10 σ).2).2)
 | k + 1,σ =>
  if (pickF n 10 σ).1 ≤ 3 then
   if (pickF n 10 σ).1 % 3 = 0 ∧ 0 < vars then ([(2,((pickF n vars (pickF n 10 σ).2).1 : Int))],(pickF n vars (pickF n 10 σ).2).2)
   else if (pickF n 10 σ).1 % 3 = 1 then ([(3,0)],(pickF n 10 σ).2)
   else ([(1,(numF n (pickF n 10 σ).2).1)],(numF n (pickF n 10 σ).2).2)
  else if (pickF n 10 σ).1 = 4 then ((codeF n vars k (pickF n 10 σ).2).1 ++ [(13,0)],(codeF n vars k (pickF n 10 σ).2).2)
  else if (pickF n 10 σ).1 = 5 then ((codeF n vars k (pickF n 10 σ).2).1 ++ [(19,1 + ((pickF n 7 (codeF n vars k (pickF n 10 σ).2).2).1 : Int))],(pickF n 7 (codeF n vars k (pickF n 10 σ).2).2).2)
  else ((codeF n vars k (pickF n 10 σ).2).1 ++ (codeF n vars k (codeF n vars k (pickF n 10 σ).2).2).1 ++ [(([4,5,6,7,8,9,10,11,12,14,15,16,17,18] : List Int).getD (pickF n 14 (codeF n vars k (codeF n vars k (pickF n 10 σ).2).2).2).1 0,0)],(pickF n 14 (codeF n vars k (codeF n vars k (pickF n 10 σ).2).2).2).2)
theorem codeF_var {n vars k r x : Nat} {σ : Cs} (hr : r = (pickF n 10 σ).1) (hx : x = (pickF n vars (pickF n 10 σ).2).1) (h3 : k = 0 ∨ r ≤ 3) (h0 : r % 3 = 0) (hv : 0 < vars) : codeF n vars k σ = ([(2,(x : Int))],(pickF n vars (pickF n 10 σ).2).2) := by
 cases k with
 | zero => rw [codeF,← hr,if_pos ⟨h0,hv⟩,← hx]
 | succ k => rw [codeF,← hr,if_pos (by omega),if_pos ⟨h0,hv⟩,← hx]
theorem codeF_arg {n vars k r : Nat} {σ : Cs} (hr : r = (pickF n 10 σ).1) (h3 : k = 0 ∨ r ≤ 3) (h1 : r % 3 = 1) : codeF n vars k σ = ([(3,0)],(pickF n 10 σ).2) := by
 cases k with
 | zero => rw [codeF,← hr,if_neg (by omega),if_pos h1]
 | succ k => rw [codeF,← hr,if_pos (by omega),if_neg (by omega),if_pos h1]
theorem codeF_num {n vars k r : Nat} {x : Int} {σ : Cs} (hr : r = (pickF n 10 σ).1) (hx : x = (numF n (pickF n 10 σ).2).1) (h3 : k = 0 ∨ r ≤ 3) (h0 : ¬ (r % 3 = 0 ∧ 0 < vars)) (h1 : ¬ r % 3 = 1) : codeF n vars k σ = ([(1,x)],(numF n (pickF n 10 σ).2).2) := by
 cases k with
 | zero => rw [codeF,← hr,if_neg h0,if_neg h1,← hx]
 | succ k => rw [codeF,← hr,if_pos (by omega),if_neg h0,if_neg h1,← hx]
theorem codeF_not {n vars k r : Nat} {its : List (Int × Int)} {σ : Cs} (hr : r = (pickF n 10 σ).1) (hi : its = (codeF n vars k (pickF n 10 σ).2).1) (h4 : r = 4) : codeF n vars (k + 1) σ = (its ++ [(13,0)],(codeF n vars k (pickF n 10 σ).2).2) := by
 rw [codeF,← hr,if_neg (by omega),if_pos h4,← hi]
theorem codeF_conv {n vars k r x : Nat} {its : List (Int × Int)} {σ : Cs} (hr : r = (pickF n 10 σ).1) (hi : its = (codeF n vars k (pickF n 10 σ).2).1) (hx : x = (pickF n 7 (codeF n vars k (pickF n 10 σ).2).2).1) (h5 : r = 5) : codeF n vars (k + 1) σ = (its ++ [(19,1 + (x : Int))],(pickF n 7 (codeF n vars k (pickF n 10 σ).2).2).2) := by
 rw [codeF,← hr,if_neg (by omega),if_neg (by omega),if_pos h5,← hi,← hx]
theorem codeF_bin {n vars k r x : Nat} {op : Int} {its jts : List (Int × Int)} {σ : Cs} (hr : r = (pickF n 10 σ).1) (hi : its = (codeF n vars k (pickF n 10 σ).2).1) (hj : jts = (codeF n vars k (codeF n vars k (pickF n 10 σ).2).2).1) (hx : x = (pickF n 14 (codeF n vars k (codeF n vars k (pickF n 10 σ).2).2).2).1) (ho : op = ([4,5,6,7,8,9,10,11,12,14,15,16,17,18] : List Int).getD x 0) (h6 : ¬ r ≤ 3 ∧ ¬ r = 4 ∧ ¬ r = 5) : codeF n vars (k + 1) σ = (its ++ jts ++ [(op,0)],(pickF n 14 (codeF n vars k (codeF n vars k (pickF n 10 σ).2).2).2).2) := by
 rw [codeF,← hr,if_neg h6.1,if_neg h6.2.1,if_neg h6.2.2,← hi,← hj,← hx,← ho]
def CodeEd (w w' : World) (cb : Nat) (co : Option Addr) (n cap A m : Nat) (vars : Int) (F : List (Int × Int) × Cs) (P : Prop) (e : Ending) : Prop := ∃ g c its,e = .returned (.slice (some ⟨g,0,none⟩) its.length c) ∧ w'.ownsRow w.heap.size 107 2 (.slice (some ⟨g,0,none⟩) its.length c) its.length (cellsI its) ∧ CodeD vars its m ∧ Cur w' cb co n cap A F.2 (P ∧ its = F.1) ∧ Dw cb w w'
theorem code_leaf {w w1 : World} {cb : Nat} {co : Option Addr} {n cap A A' m : Nat} {vars op val : Int} {F : List (Int × Int) × Cs} {σ : Cs} {P Q : Prop} (hc : Cur w1 cb co n cap A σ Q) (hp : P) (hF : F = ([(op,val)],σ)) (hd : Dw cb w w1) (hA : A ≤ A') (hm : 1 ≤ m) (hs : ∀ st,∃ t,stepT vars op val st = some (t,st)) : CodeEd w (w1.alloc (.cells #[.int .i64 op,.int .i64 val] 107)) cb co n cap A' m vars F P (.returned (.slice (some ⟨w1.heap.size,0,none⟩) 1 1)) :=
 ⟨w1.heap.size,1,[(op,val)],rfl,own_new2 hd.size,⟨by simpa using hm,(code_one hs).2⟩,by rw [hF]; exact ((hc.below (below1 _ _)).mono hA).with ⟨hp,rfl⟩,hd.trans (dw_alloc _ _ _)⟩
theorem code_done {w w1 X Y : World} {cb : Nat} {co : Option Addr} {n cap A A' B m q c g : Nat} {vars : Int} {v : Value} {its ex : List (Int × Int)} {F : List (Int × Int) × Cs} {σ τ : Cs} {P Q R : Prop} (h0 : Cur w1 cb co n cap B σ Q) (hd1 : Dw cb w w1) (hX : Cur X cb co n cap A τ R) (hp : P) (hF : F = (its ++ ex,τ)) (hdX : Dw cb w1 X) (ho : X.ownsRow w1.heap.size 107 2 v its.length (cellsI its)) (hg : X.grownBy Y v.ownBlock) (hown : Y.ownsRow w1.heap.size 107 2 (.slice (some ⟨g,0,none⟩) (its.length + q) c) (its.length + q) (cellsI its ++ cellsI ex)) (hq : ex.length = q) (hcd : CodeD vars (its ++ ex) m) (hA : A ≤ A') : CodeEd w Y cb co n cap A' m vars F P (.returned (.slice (some ⟨g,0,none⟩) (its.length + q) c)) := by
 obtain ⟨hc,hd⟩ := cur_grown h0 hX hdX ho (by decide) hg
 have e : (its ++ ex).length = its.length + q := by rw [List.length_append,hq]
 refine ⟨g,c,its ++ ex,by rw [e],?_,hcd,by rw [hF]; exact (hc.mono hA).with ⟨hp,rfl⟩,hd1.trans hd⟩
 rw [e,cellsI_append]
 exact ownsRow_base hown hd1.size
set_option maxRecDepth 100000 in
set_option maxHeartbeats 16000000 in
theorem drawCode_any (cb : Nat) (co : Option Addr) (n cap : Nat) (vars : Nat) (hv : vars ≤ 32) : ∀ k d : Nat,d + k = 5 → ∀ (A : Nat) (w : World) {σ : Cs} {P : Prop},A + bud k ≤ 1000000000 → Cur w cb co n cap A σ P →
  Calls Tryz.prog 68 #[.pointer (some ⟨cb,0,none⟩),.int .i64 (vars : Int),.int .i64 (d : Int)] w fun e w' => CodeEd w w' cb co n cap (A + bud k) (cl k) vars (codeF n vars k σ) P e := by
 intro k
 induction k using Nat.strongRecOn with
 | _ k ih =>
  intro d hdk A w σ PP hA hC
  have HC := hid hC
  have P := hid (pick_any cb co n cap A 10 (by omega) w (by omega) hC)
  have PV := hid (fun w' {τ : Cs} {Q : Prop} (h' : Cur w' cb co n cap (A + 2) τ Q) => pick_any cb co n cap (A + 2) (vars : Int) (by omega) w' (by omega) h')
  have PN := hid (fun w' {τ : Cs} {Q : Prop} (h' : Cur w' cb co n cap (A + 2) τ Q) => drawNum_any cb co n cap (A + 2) w' (by omega) h')
  have b4 : Hid (8 ≤ bud k) := hid (by cases k <;> simp [bud])
  have c1 : Hid (1 ≤ cl k) := hid (by cases k <;> simp [cl])
  clear hC
  by_cases hl : 4 < d
  ·go_enter Tryz.func68,Tryz.ntmps68
   go_upto_region 2 with (go_at_call 19; refine P.out.mono ?_; rintro e w1 ⟨r,rfl,hr,hc,hd⟩; have r10 : r < 10 := (by omega); have C1 := hid hc; have D1 := hid hd; clear hc hd hr)
   have d4 : (d : Int) > 4 := by omega
   by_cases h0 : r % 3 = 0
   ·have r0 : (r : Int) % 3 = 0 := by omega
    by_cases hv0 : 0 < vars
    ·have v0 : (vars : Int) > 0 := by omega
     go_wp2_with (go_at_call 19; refine (PV.out _ C1.out).mono ?_; rintro e w2 ⟨x,rfl,hx,hc,hd⟩; have C2 := hid hc; have D2 := hid (D1.out.trans hd); have X2 : Hid ((x : Int) < vars) := hid (by omega); clear hc hd hx)
     go_ret
     exact code_leaf C2.out HC.out.fact (codeF_var C2.out.fact.1.2 C2.out.fact.2 (.inl (by omega)) h0 hv0) D2.out (by have := b4.out; omega) c1.out (fun st => ⟨.var x,by unfold stepT; rw [if_neg (by omega),if_pos rfl,if_pos ⟨by omega,X2.out⟩]⟩)
    ·have v0 : ¬ (vars : Int) > 0 := by omega
     have r1 : ¬ (r : Int) % 3 = 1 := by omega
     go_wp2_with (go_at_call 97; refine (PN.out _ C1.out).mono ?_; rintro e w2 ⟨x,rfl,hx,hc,hd⟩; have C2 := hid hc; have D2 := hid (D1.out.trans hd); have X2 := hid hx; clear hc hd hx)
     go_ret
     exact code_leaf C2.out HC.out.fact (codeF_num C2.out.fact.1.2 C2.out.fact.2 (.inl (by omega)) (fun e => hv0 e.2) (by omega)) D2.out (by have := b4.out; omega) c1.out (fun st => ⟨.num x,by unfold stepT; rw [if_pos rfl,if_pos X2.out]⟩)
   ·have r0 : ¬ (r : Int) % 3 = 0 := by omega
    by_cases h1 : r % 3 = 1
    ·have r1 : (r : Int) % 3 = 1 := by omega
     go_wp2_with fail
     go_ret
     exact code_leaf C1.out HC.out.fact (codeF_arg C1.out.fact.2 (.inl (by omega)) h1) D1.out (by have := b4.out; omega) c1.out (fun st => ⟨.arg,by unfold stepT; rw [if_neg (by omega),if_neg (by omega),if_neg (by omega),if_neg (by omega),if_pos rfl]⟩)
    ·have r1 : ¬ (r : Int) % 3 = 1 := by omega
     go_wp2_with (go_at_call 97; refine (PN.out _ C1.out).mono ?_; rintro e w2 ⟨x,rfl,hx,hc,hd⟩; have C2 := hid hc; have D2 := hid (D1.out.trans hd); have X2 := hid hx; clear hc hd hx)
     go_ret
     exact code_leaf C2.out HC.out.fact (codeF_num C2.out.fact.1.2 C2.out.fact.2 (.inl (by omega)) (fun e => h0 e.1) h1) D2.out (by have := b4.out; omega) c1.out (fun st => ⟨.num x,by unfold stepT; rw [if_pos rfl,if_pos X2.out]⟩)
  ·obtain ⟨k',rfl⟩ : ∃ k',k = k' + 1 := ⟨k - 1,by omega⟩
   have BK : Hid (bud (k' + 1) = 2 * bud k' + 8 ∧ bud k' ≤ 1000) := hid ⟨rfl,by
    have hk5 : k' ≤ 4 := by omega
    rcases (show k' = 0 ∨ k' = 1 ∨ k' = 2 ∨ k' = 3 ∨ k' = 4 by omega) with rfl | rfl | rfl | rfl | rfl <;> decide⟩
   have CK : Hid (cl (k' + 1) = 2 * cl k' + 1 ∧ cl k' ≤ 31) := hid ⟨rfl,by
    rcases (show k' = 0 ∨ k' = 1 ∨ k' = 2 ∨ k' = 3 ∨ k' = 4 by omega) with rfl | rfl | rfl | rfl | rfl <;> decide⟩
   have D : Hid (∀ B w' {τ : Cs} {Q : Prop},B + bud k' ≤ 1000000000 → Cur w' cb co n cap B τ Q → Calls Tryz.prog 68 #[.pointer (some ⟨cb,0,none⟩),.int .i64 (vars : Int),.int .i64 ((d : Int) + 1)] w' fun e w'' => CodeEd w' w'' cb co n cap (B + bud k') (cl k') vars (codeF n vars k' τ) Q e) := hid (fun B w' {τ Q} hB h' => ih k' (by omega) (d + 1) (by omega) B w' hB h')
   obtain ⟨i0,hi0,hz0,hz1,hz2⟩ := info_parts infoItem
   have d4 : ¬ (d : Int) > 4 := by omega
   have d5 : d ≤ 4 := by omega
   go_enter Tryz.func68,Tryz.ntmps68
   go_upto_region 2 with (go_at_call 19; refine P.out.mono ?_; rintro e w1 ⟨r,rfl,hr,hc,hd⟩; have r10 : r < 10 := (by omega); have C1 := hid hc; have D1 := hid hd; clear hc hd hr)
   by_cases hr3 : r ≤ 3
   ·have ri : (r : Int) ≤ 3 := by omega
    by_cases h0 : r % 3 = 0
    ·have r0 : (r : Int) % 3 = 0 := by omega
     by_cases hv0 : 0 < vars
     ·have v0 : (vars : Int) > 0 := by omega
      go_wp2_with (go_at_call 19; refine (PV.out _ C1.out).mono ?_; rintro e w2 ⟨x,rfl,hx,hc,hd⟩; have C2 := hid hc; have D2 := hid (D1.out.trans hd); have X2 : Hid ((x : Int) < vars) := hid (by omega); clear hc hd hx)
      go_ret
      exact code_leaf C2.out HC.out.fact (codeF_var C2.out.fact.1.2 C2.out.fact.2 (.inr hr3) h0 hv0) D2.out (by have := b4.out; omega) c1.out (fun st => ⟨.var x,by unfold stepT; rw [if_neg (by omega),if_pos rfl,if_pos ⟨by omega,X2.out⟩]⟩)
     ·have v0 : ¬ (vars : Int) > 0 := by omega
      have r1 : ¬ (r : Int) % 3 = 1 := by omega
      go_wp2_with (go_at_call 97; refine (PN.out _ C1.out).mono ?_; rintro e w2 ⟨x,rfl,hx,hc,hd⟩; have C2 := hid hc; have D2 := hid (D1.out.trans hd); have X2 := hid hx; clear hc hd hx)
      go_ret
      exact code_leaf C2.out HC.out.fact (codeF_num C2.out.fact.1.2 C2.out.fact.2 (.inr hr3) (fun e => hv0 e.2) (by omega)) D2.out (by have := b4.out; omega) c1.out (fun st => ⟨.num x,by unfold stepT; rw [if_pos rfl,if_pos X2.out]⟩)
    ·have r0 : ¬ (r : Int) % 3 = 0 := by omega
     by_cases h1 : r % 3 = 1
     ·have r1 : (r : Int) % 3 = 1 := by omega
      go_wp2_with fail
      go_ret
      exact code_leaf C1.out HC.out.fact (codeF_arg C1.out.fact.2 (.inr hr3) h1) D1.out (by have := b4.out; omega) c1.out (fun st => ⟨.arg,by unfold stepT; rw [if_neg (by omega),if_neg (by omega),if_neg (by omega),if_neg (by omega),if_pos rfl]⟩)
     ·have r1 : ¬ (r : Int) % 3 = 1 := by omega
      go_wp2_with (go_at_call 97; refine (PN.out _ C1.out).mono ?_; rintro e w2 ⟨x,rfl,hx,hc,hd⟩; have C2 := hid hc; have D2 := hid (D1.out.trans hd); have X2 := hid hx; clear hc hd hx)
      go_ret
      exact code_leaf C2.out HC.out.fact (codeF_num C2.out.fact.1.2 C2.out.fact.2 (.inr hr3) (fun e => h0 e.1) h1) D2.out (by have := b4.out; omega) c1.out (fun st => ⟨.num x,by unfold stepT; rw [if_pos rfl,if_pos X2.out]⟩)
   ·have ri : ¬ (r : Int) ≤ 3 := by omega
    by_cases h4 : r = 4
    ·have h4i : (r : Int) = 4 := by omega
     have H4 := hid h4
     clear h4
     go_wp2_with (first
      | (go_at_call 68; refine (D.out _ _ (by have := BK.out; omega) C1.out).mono ?_; rintro e w2 ⟨g,c,its,rfl,ho,hcd,hc,hd⟩; have il : its.length ≤ 31 := (Nat.le_trans hcd.1 CK.out.2); have O2 := hid (ownsRow_below ho (below1 w2 (.cells #[.int .i64 13,.int .i64 0] 107))); have CD := hid hcd; have C2 := hid (hc.below (below1 w2 (.cells #[.int .i64 13,.int .i64 0] 107))); have D2 := hid (hd.trans (dw_alloc _ _ (.cells #[.int .i64 13,.int .i64 0] 107))); have NW := hid (World.news_of_block (heap_alloc_new w2 (.cells #[.int .i64 13,.int .i64 0] 107))); clear ho hcd hc hd)
      | (at_builtin; refine wpList_append_own _ rfl (.tmp 48) (.tmp 50) 73 rfl w1.heap.size 107 i0 _ 2 16 Tryz.underlying73 hi0 hz0 hz1 hz2 rfl (by decide) (.slice (some ⟨g,0,none⟩) its.length c) its.length (cellsI its) rfl O2.out ⟨w2.heap.size,0,none⟩ 1 1 [.int .i64 13,.int .i64 0] rfl rfl NW.out (by intro u hu; simp at hu; rcases hu with rfl | rfl <;> rfl) (by unfold maxLen; omega) (by omega) D2.out.size ?_))
     intro v' w3 hown hgrow _
     obtain ⟨g3,cap3,hv3,_,_⟩ := World.ownsRow.form hown (by omega)
     subst hv3
     have HO := hid hown
     have HG := hid hgrow
     clear hown hgrow
     go_wp2_with fail
     go_ret
     exact code_done (ex := [(13,0)]) C1.out D1.out C2.out HC.out.fact (codeF_not C1.out.fact.2 C2.out.fact.2 H4.out) D2.out O2.out HG.out HO.out rfl ⟨by have := CD.out.1; have := CK.out.1; simp; omega,(code_un CD.out (fun t st => ⟨.no t,by unfold stepT; rw [if_neg (by omega),if_neg (by omega),if_neg (by omega),if_neg (by omega),if_neg (by omega),if_pos rfl]⟩)).2⟩ (by have := BK.out.1; omega)
    ·by_cases h5 : r = 5
     ·have h4i : ¬ (r : Int) = 4 := by omega
      have h5i : (r : Int) = 5 := by omega
      have H5 := hid h5
      clear h4 h5
      have P7 := hid (fun B w' (hB : B ≤ 10000000000) {τ : Cs} {Q : Prop} (h' : Cur w' cb co n cap B τ Q) => pick_any cb co n cap B 7 (by omega) w' (by omega) h')
      go_wp2_with (first
       | (go_at_call 68; refine (D.out _ _ (by have := BK.out; omega) C1.out).mono ?_; rintro e w2 ⟨g,c,its,rfl,ho,hcd,hc,hd⟩; have il : its.length ≤ 31 := (Nat.le_trans hcd.1 CK.out.2); have OA := hid ho; have CD := hid hcd; have C2 := hid hc; have D2 := hid hd; clear ho hcd hc hd)
       | (go_at_call 19; refine (P7.out _ _ (by have := BK.out.2; omega) C2.out).mono ?_; rintro e w3 ⟨x,rfl,hx,hc,hd⟩; have x7 : x < 7 := (by omega); have OB := hid (ownsRow_below (hd.own C2.out OA.out (by decide)) (below1 w3 (.cells #[.int .i64 19,.int .i64 (1 + (x : Int))] 107))); have C3 := hid (hc.below (below1 w3 (.cells #[.int .i64 19,.int .i64 (1 + (x : Int))] 107))); have D3 := hid ((D2.out.trans hd).trans (dw_alloc _ _ (.cells #[.int .i64 19,.int .i64 (1 + (x : Int))] 107))); have NW := hid (World.news_of_block (heap_alloc_new w3 (.cells #[.int .i64 19,.int .i64 (1 + (x : Int))] 107))); clear hc hd hx)
       | (at_builtin; refine wpList_append_own _ rfl (.tmp 59) (.tmp 64) 73 rfl w1.heap.size 107 i0 _ 2 16 Tryz.underlying73 hi0 hz0 hz1 hz2 rfl (by decide) (.slice (some ⟨g,0,none⟩) its.length c) its.length (cellsI its) rfl OB.out ⟨w3.heap.size,0,none⟩ 1 1 [.int .i64 19,.int .i64 (1 + (x : Int))] rfl rfl NW.out (by intro u hu; simp at hu; rcases hu with rfl | rfl <;> rfl) (by unfold maxLen; omega) (by omega) D3.out.size ?_))
      intro v' w4 hown hgrow _
      obtain ⟨g4,cap4,hv4,_,_⟩ := World.ownsRow.form hown (by omega)
      subst hv4
      have HO := hid hown
      have HG := hid hgrow
      clear hown hgrow
      go_wp2_with fail
      go_ret
      exact code_done (ex := [(19,1 + (x : Int))]) C1.out D1.out C3.out HC.out.fact (codeF_conv C1.out.fact.2 C2.out.fact.2 C3.out.fact.2 H5.out) D3.out OB.out HG.out HO.out rfl ⟨by have := CD.out.1; have := CK.out.1; simp; omega,(code_un CD.out (fun t st => ⟨.conv (1 + (x : Int)) t,by unfold stepT; rw [if_neg (by omega),if_neg (by omega),if_pos rfl,if_pos (by omega)]⟩)).2⟩ (by have := BK.out.1; omega)
     ·have h4i : ¬ (r : Int) = 4 := by omega
      have h5i : ¬ (r : Int) = 5 := by omega
      have H6 : Hid (¬ r ≤ 3 ∧ ¬ r = 4 ∧ ¬ r = 5) := hid ⟨hr3,h4,h5⟩
      have P14 := hid (fun B w' (hB : B ≤ 10000000000) {τ : Cs} {Q : Prop} (h' : Cur w' cb co n cap B τ Q) => pick_any cb co n cap B 14 (by omega) w' (by omega) h')
      clear h4 h5
      go_wp2_with (first
       | (go_at_call 68; refine (D.out _ _ (by have := BK.out; omega) C1.out).mono ?_; rintro e w2 ⟨g,c,its,rfl,ho,hcd,hc,hd⟩; have il : its.length ≤ 31 := (Nat.le_trans hcd.1 CK.out.2); have OA := hid ho; have CD := hid hcd; have C2 := hid hc; have D2 := hid hd; clear ho hcd hc hd)
       | (go_at_call 68; refine (D.out _ _ (by have := BK.out; omega) C2.out).mono ?_; rintro e w3 ⟨g',c',jts,rfl,ho,hcd,hc,hd⟩; have jl : jts.length ≤ 31 := (Nat.le_trans hcd.1 CK.out.2); have OB := hid ho; have CE := hid hcd; have C3 := hid hc; have D3 := hid (D2.out.trans hd); have OA3 := hid (hd.own C2.out OA.out (by decide)); clear ho hcd hc hd)
       | (at_builtin; refine wpList_append_own _ rfl (.tmp 71) (.tmp 76) 73 rfl w1.heap.size 107 i0 _ 2 16 Tryz.underlying73 hi0 hz0 hz1 hz2 rfl (by decide) (.slice (some ⟨g,0,none⟩) its.length c) its.length (cellsI its) rfl OA3.out ⟨g',0,none⟩ jts.length c' (cellsI jts) rfl (cellsI_len _) (own_news OB.out) (cellsI_one _) (by unfold maxLen; omega) (by omega) D3.out.size ?_))
      intro v4 w4 hown hgrow _
      have ip := CD.out.pos
      obtain ⟨g4,c4,hv4,_,_⟩ := World.ownsRow.form hown (by omega)
      subst hv4
      have CG := hid (cur_grown C1.out C3.out D3.out OA3.out (by decide) hgrow)
      have O4 : Hid (w4.ownsRow w1.heap.size 107 2 (.slice (some ⟨g4,0,none⟩) (its.length + jts.length) c4) (its ++ jts).length (cellsI (its ++ jts))) := hid (by rw [List.length_append,cellsI_append]; exact hown)
      have n4 : w4.heap.size ≠ cb := fun e => by have := CG.out.1.lt; omega
      have LN : Hid ((its ++ jts).length = its.length + jts.length) := hid List.length_append
      obtain ⟨kts,hkts⟩ : ∃ x,x = its ++ jts := ⟨_,rfl⟩
      rw [← hkts] at O4 LN
      obtain ⟨q,hq⟩ : ∃ q,q = its.length + jts.length := ⟨_,rfl⟩
      have ql : q ≤ 62 := by omega
      rw [← hq] at O4 LN
      rw [← hq]
      have HK := hid hkts
      have LQ := hid hq
      clear hown hgrow hkts hq
      go_wp2_with (first
       | (go_at_call 19; refine (P14.out _ _ (by have := BK.out; omega) (CG.out.1.below (below1 _ _))).mono ?_; rintro e w6 ⟨x,rfl,hx,hc,hd⟩; have x14 : x < 14 := (by omega); have hc1 := lit_cell (zs := [4,5,6,7,8,9,10,11,12,14,15,16,17,18]) (hd.at (heap_alloc_new w4 _) n4) x14; have hb1 := lit_all (zs := [4,5,6,7,8,9,10,11,12,14,15,16,17,18]) (P := fun z => binOk z) (by decide) x14; have wl := lt_of_block (hd.at (heap_alloc_new w4 _) n4); obtain ⟨op,hop⟩ : ∃ z,z = ([4,5,6,7,8,9,10,11,12,14,15,16,17,18] : List Int).getD x 0 := ⟨_,rfl⟩; rw [← hop] at hc1 hb1; have HOP := hid hb1; have HOQ := hid hop; have OC := hid (ownsRow_below (hd.own (CG.out.1.below (below1 _ _)) (ownsRow_below O4.out (below1 _ _)) (by decide)) (below1 w6 (.cells #[.int .i64 op,.int .i64 0] 107))); have C6 := hid (hc.below (below1 w6 (.cells #[.int .i64 op,.int .i64 0] 107))); have D6 := hid (((CG.out.2.trans (dw_alloc _ _ _)).trans hd).trans (dw_alloc _ _ (.cells #[.int .i64 op,.int .i64 0] 107))); have NW := hid (World.news_of_block (heap_alloc_new w6 (.cells #[.int .i64 op,.int .i64 0] 107))); clear hc hd hx hop hb1)
       | (at_builtin; refine wpList_append_own _ rfl (.tmp 79) (.tmp 88) 73 rfl w1.heap.size 107 i0 _ 2 16 Tryz.underlying73 hi0 hz0 hz1 hz2 rfl (by decide) (.slice (some ⟨g4,0,none⟩) q c4) kts.length (cellsI kts) rfl OC.out ⟨w6.heap.size,0,none⟩ 1 1 [.int .i64 op,.int .i64 0] rfl rfl NW.out (by intro u hu; simp at hu; rcases hu with rfl | rfl <;> rfl) (by have := LN.out; unfold maxLen; omega) (by have := LN.out; omega) D6.out.size ?_))
      intro v7 w7 hown hgrow _
      obtain ⟨g7,cap7,hv7,_,_⟩ := World.ownsRow.form hown (by omega)
      subst hv7
      have HO := hid hown
      have HG := hid hgrow
      clear hown hgrow hc1
      go_wp2_with fail
      go_ret
      exact code_done (ex := [(op,0)]) C1.out D1.out C6.out HC.out.fact (by rw [HK.out]; exact codeF_bin C1.out.fact.2 C2.out.fact.2 C3.out.fact.2 C6.out.fact.2 HOQ.out H6.out) D6.out OC.out HG.out HO.out rfl ⟨by have := CD.out.1; have := CE.out.1; have := CK.out.1; rw [HK.out]; simp; omega,by rw [HK.out]; exact (code_bin CD.out CE.out HOP.out).2⟩ (by have := BK.out.1; omega)
end Go.Proofs.YtkdgkomnbjepdaaGreatDoor
namespace Go.Proofs.YtkdgkomnbjepdaaGreatDoor
open Go.RowKit Go.Sort
set_option linter.unusedVariables false
attribute [local go_sem ↓] Go.wp_at_zero Go.wp_at_succ
structure SmI (w : World) (cb : Nat) (co : Option Addr) (n cap A : Nat) (lx : Array Value) (HS : Nat) (sx : Array Value) (X : World) (σ : Cs) (F : Prop) : Prop where
 cur : Cur X cb co n cap A σ F
 dw : Dw cb w X
 l : X.heap[w.heap.size]? = some (.cells lx 81 (0,0))
 r : X.heap[w.heap.size + 1]? = some (.cells #[.int .i64 0,.int .i64 0,.int .i64 0,.slice none 0 0] 105 (0,0))
 s : X.heap[HS]? = some (.cells sx 105 (0,0))
 hs : w.heap.size + 1 < HS
 cb0 : cb < w.heap.size
 g0 : 0 < n → ∀ g o,co = some ⟨g,o,none⟩ → g < w.heap.size
section
variable {w : World} {cb : Nat} {co : Option Addr} {n cap A A' : Nat} {lx : Array Value} {HS : Nat} {sx : Array Value} {X Y : World} {σ τ : Cs} {F G : Prop}
theorem SmI.draw (h : SmI w cb co n cap A lx HS sx X σ F) (hd : Dw cb X Y) (hc : Cur Y cb co n cap A' τ G) : SmI w cb co n cap A' lx HS sx Y τ G :=
 ⟨hc,h.dw.trans hd,hd.at h.l (by have := h.cb0; omega),hd.at h.r (by have := h.cb0; omega),hd.at h.s (by have := h.cb0; have := h.hs; omega),h.hs,h.cb0,h.g0⟩
theorem SmI.below (h : SmI w cb co n cap A lx HS sx X σ F) (hb : Below X.heap.size X Y) : SmI w cb co n cap A lx HS sx Y σ F :=
 ⟨h.cur.below hb,h.dw.trans (Below.toP hb),block_below h.l hb,block_below h.r hb,block_below h.s hb,h.hs,h.cb0,h.g0⟩
theorem SmI.set {a b c d a' b' c' d' u : Value} {o : Nat} (h : SmI w cb co n cap A lx HS #[a,b,c,d] X σ F) (e : (#[a,b,c,d] : Array Value).setIfInBounds o u = #[a',b',c',d']) : SmI w cb co n cap A lx HS #[a',b',c',d'] (X.setCell ⟨HS,o,none⟩ u) σ F := by
 have c0 := h.cb0
 have h1 := h.hs
 have hP : OnlyP (fun q => q = HS) X (X.setCell ⟨HS,o,none⟩ u) := OnlyP.set _ rfl
 refine ⟨h.cur.only hP (by omega) (fun hn g o e => by have := h.g0 hn g o e; omega),⟨hP.os.trans h.dw.os,hP.tape.trans h.dw.tape,hP.output.trans h.dw.output,Nat.le_trans h.dw.size hP.size,fun q hq hn => (hP.block q (Nat.lt_of_lt_of_le hq h.dw.size) (by omega)).trans (h.dw.block q hq hn)⟩,(hP.block _ (lt_of_block h.l) (by omega)).trans h.l,(hP.block _ (lt_of_block h.r) (by omega)).trans h.r,?_,h1,c0,h.g0⟩
 rw [heap_setCell_same X HS o _ _ u h.s,e]
end
def CodeV (X : World) (B : Nat) (v : Value) (its : List (Int × Int)) : Prop := X.ownsRow B 107 2 v its.length (cellsI its)
theorem codeV_nil (X : World) (B : Nat) : CodeV X B (.slice none 0 0) [] := World.ownsRow_nil _ _ _ _
theorem sm_start {w w1 : World} {cb : Nat} {co : Option Addr} {n cap A B : Nat} {lx : Array Value} {Z : Obj} {k : Value} {σ τ : Cs} {F G : Prop} (h0 : Cur w cb co n cap B σ F) (hd : Dw cb (((w.alloc (.cells lx 81)).alloc (.cells #[.int .i64 0,.int .i64 0,.int .i64 0,.slice none 0 0] 105)).alloc Z) w1) (hc : Cur w1 cb co n cap A τ G) : SmI w cb co n cap A lx w1.heap.size #[k,.int .i64 0,.int .i64 0,.slice none 0 0] (w1.alloc (.cells #[k,.int .i64 0,.int .i64 0,.slice none 0 0] 105)) τ G := by
 have hz := h0.lt
 have sz := hd.size
 simp only [World.size_alloc] at sz
 have h2 := heap_alloc_new (w.alloc (.cells lx 81)) (.cells #[.int .i64 0,.int .i64 0,.int .i64 0,.slice none 0 0] 105)
 simp only [World.size_alloc] at h2
 have b1 := below1 w1 (.cells #[k,.int .i64 0,.int .i64 0,.slice none 0 0] 105)
 refine ⟨hc.below b1,((((dw_alloc _ _ _).trans (dw_alloc _ _ _)).trans (dw_alloc _ _ _)).trans hd).trans (Below.toP b1),block_below (hd.at (block_below (block_below (heap_alloc_new w _) (below1 _ _)) (below1 _ _)) (by omega)) b1,block_below (hd.at (block_below h2 (below1 _ _)) (by omega)) b1,heap_alloc_new _ _,by omega,hz,h0.code_lt⟩
def stmG (n v : Nat) (k a b : Int) (σ : Cs) : StmD × Cs :=
 let x := pickF n (a + 1) σ
 let y := pickF n (if k = 8 then 4 else b + 1) x.2
 if hasB k = true then
  let c := codeF n v 3 y.2
  if k = 8 then
   let z := pickF n 4 c.2
   if 0 < z.1 then (⟨k,x.1,y.1,[(1,1 + ((pickF n 4 z.2).1 : Int))]⟩,(pickF n 4 z.2).2) else (⟨k,x.1,y.1,c.1⟩,z.2)
  else (⟨k,x.1,y.1,c.1⟩,c.2)
 else (⟨k,x.1,y.1,[]⟩,y.2)
def stmF (n : Nat) (o s t : Int) (v : Nat) (σ : Cs) : StmD × Cs :=
 let k := ([2,1,3,2,1,4,5,6,7,8,9,8,1] : List Int).getD (pickF n 13 σ).1 0
 if mostA k ⟨o,s,t,v⟩ < 0 ∨ mostB k ⟨o,s,t,v⟩ < 0 then stmG n v 2 0 0 (pickF n 13 σ).2 else stmG n v k (mostA k ⟨o,s,t,v⟩) (mostB k ⟨o,s,t,v⟩) (pickF n 13 σ).2
theorem stmF_bad {n : Nat} {o s t : Int} {v r : Nat} {k a b : Int} {σ : Cs} (hr : r = (pickF n 13 σ).1) (hk : k = ([2,1,3,2,1,4,5,6,7,8,9,8,1] : List Int).getD r 0) (ha : a = mostA k ⟨o,s,t,v⟩) (hb : b = mostB k ⟨o,s,t,v⟩) (h : a < 0 ∨ b < 0) : stmF n o s t v σ = stmG n v 2 0 0 (pickF n 13 σ).2 := by
 unfold stmF
 simp only [← hr,← hk,← ha,← hb]
 rw [if_pos h]
theorem stmF_ok {n : Nat} {o s t : Int} {v r : Nat} {k a b : Int} {σ : Cs} (hr : r = (pickF n 13 σ).1) (hk : k = ([2,1,3,2,1,4,5,6,7,8,9,8,1] : List Int).getD r 0) (ha : a = mostA k ⟨o,s,t,v⟩) (hb : b = mostB k ⟨o,s,t,v⟩) (h : ¬ (a < 0 ∨ b < 0)) : stmF n o s t v σ = stmG n v k a b (pickF n 13 σ).2 := by
 unfold stmF
 simp only [← hr,← hk,← ha,← hb]
 rw [if_neg h]
theorem stmG_code {n v x y : Nat} {k a b : Int} {its : List (Int × Int)} {σ : Cs} (h8 : ¬ k = 8) (hB : hasB k = true) (hx : x = (pickF n (a + 1) σ).1) (hy : y = (pickF n (b + 1) (pickF n (a + 1) σ).2).1) (hi : its = (codeF n v 3 (pickF n (b + 1) (pickF n (a + 1) σ).2).2).1) : stmG n v k a b σ = (⟨k,x,y,its⟩,(codeF n v 3 (pickF n (b + 1) (pickF n (a + 1) σ).2).2).2) := by
 unfold stmG
 simp only [if_neg h8,if_pos hB,← hx,← hy,← hi]
theorem stmG_none {n v x y : Nat} {k a b : Int} {σ : Cs} (h8 : ¬ k = 8) (hB : hasB k = false) (hx : x = (pickF n (a + 1) σ).1) (hy : y = (pickF n (b + 1) (pickF n (a + 1) σ).2).1) : stmG n v k a b σ = (⟨k,x,y,[]⟩,(pickF n (b + 1) (pickF n (a + 1) σ).2).2) := by
 unfold stmG
 simp [h8,hB,← hx,← hy]
theorem stmG_arm {n v x y z q : Nat} {a b : Int} {σ : Cs} (hx : x = (pickF n (a + 1) σ).1) (hy : y = (pickF n 4 (pickF n (a + 1) σ).2).1) (hz : z = (pickF n 4 (codeF n v 3 (pickF n 4 (pickF n (a + 1) σ).2).2).2).1) (hq : q = (pickF n 4 (pickF n 4 (codeF n v 3 (pickF n 4 (pickF n (a + 1) σ).2).2).2).2).1) (h0 : 0 < z) : stmG n v 8 a b σ = (⟨8,x,y,[(1,1 + (q : Int))]⟩,(pickF n 4 (pickF n 4 (codeF n v 3 (pickF n 4 (pickF n (a + 1) σ).2).2).2).2).2) := by
 unfold stmG
 simp only [if_pos (show hasB 8 = true by decide),if_true,← hx,← hy,← hz,← hq,if_pos h0]
theorem stmG_arm0 {n v x y z : Nat} {a b : Int} {its : List (Int × Int)} {σ : Cs} (hx : x = (pickF n (a + 1) σ).1) (hy : y = (pickF n 4 (pickF n (a + 1) σ).2).1) (hi : its = (codeF n v 3 (pickF n 4 (pickF n (a + 1) σ).2).2).1) (hz : z = (pickF n 4 (codeF n v 3 (pickF n 4 (pickF n (a + 1) σ).2).2).2).1) (h0 : ¬ 0 < z) : stmG n v 8 a b σ = (⟨8,x,y,its⟩,(pickF n 4 (codeF n v 3 (pickF n 4 (pickF n (a + 1) σ).2).2).2).2) := by
 unfold stmG
 simp only [if_pos (show hasB 8 = true by decide),if_true,← hx,← hy,← hi,← hz,if_neg h0]
def StmEd (w w' : World) (cb : Nat) (co : Option Addr) (n cap A : Nat) (l : LimD) (F : StmD × Cs) (P : Prop) (e : Ending) : Prop := ∃ (st : StmD) (cv : Value),e = .returned (.agg #[.int .i64 st.kind,.int .i64 st.a,.int .i64 st.b,cv]) ∧ CodeV w' w.heap.size cv st.code ∧ stmB l st = true ∧ Cur w' cb co n cap A F.2 (P ∧ st = F.1) ∧ Dw cb w w'
theorem set4r {X : World} {r : Nat} {a b c d x0 x1 x2 x3 : Value} {t : TypeId} (h : X.heap[r]? = some (.cells #[x0,x1,x2,x3] t (0,0))) : ((((X.setCell ⟨r,0,none⟩ a).setCell ⟨r,1,none⟩ b).setCell ⟨r,2,none⟩ c).setCell ⟨r,3,none⟩ d).heap[r]? = some (.cells #[a,b,c,d] t (0,0)) := by
 have m1 := heap_setCell_same X r 0 _ _ a h
 have m2 := heap_setCell_same _ r 1 _ _ b m1
 have m3 := heap_setCell_same _ r 2 _ _ c m2
 have m4 := heap_setCell_same _ r 3 _ _ d m3
 rw [m4]; simp
theorem set4P {X : World} {r : Nat} {a b c d : Value} : OnlyP (fun q => q = r) X ((((X.setCell ⟨r,0,none⟩ a).setCell ⟨r,1,none⟩ b).setCell ⟨r,2,none⟩ c).setCell ⟨r,3,none⟩ d) :=
 have s : ∀ {Y : World} {o : Nat} {u : Value},OnlyP (fun q => q = r) Y (Y.setCell ⟨r,o,none⟩ u) := OnlyP.set _ rfl
 ((s.trans s).trans s).trans s
theorem SmI.ret {w : World} {cb : Nat} {co : Option Addr} {n cap A A' : Nat} {lx : Array Value} {HS : Nat} {X : World} {k a b : Int} {cv : Value} {its : List (Int × Int)} {l : LimD} {F : StmD × Cs} {σ : Cs} {P Q : Prop} (h : SmI w cb co n cap A lx HS #[.int .i64 k,.int .i64 a,.int .i64 b,cv] X σ Q) (hp : P) (hF : F = (⟨k,a,b,its⟩,σ)) (hv : CodeV X (w.heap.size + 1 + 1) cv its) (hA : A ≤ A') (hs : stmB l ⟨k,a,b,its⟩ = true) : StmEd w ((((X.setCell ⟨w.heap.size + 1,0,none⟩ (.int .i64 k)).setCell ⟨w.heap.size + 1,1,none⟩ (.int .i64 a)).setCell ⟨w.heap.size + 1,2,none⟩ (.int .i64 b)).setCell ⟨w.heap.size + 1,3,none⟩ cv) cb co n cap A' l F P (.returned (.agg #[.int .i64 k,.int .i64 a,.int .i64 b,cv])) := by
 have hP : OnlyP (fun q => q = w.heap.size + 1) X _ := set4P (a := .int .i64 k) (b := .int .i64 a) (c := .int .i64 b) (d := cv)
 have c0 := h.cb0
 refine ⟨⟨k,a,b,its⟩,cv,rfl,ownsRow_base (hP.own hv (fun q e e2 => by have := (hv.lt q e).1; omega)) (by omega),hs,by rw [hF]; exact ((h.cur.only hP (by omega) (fun hn g o e => by have := h.g0 hn g o e; omega)).mono hA).with ⟨hp,rfl⟩,⟨hP.os.trans h.dw.os,hP.tape.trans h.dw.tape,hP.output.trans h.dw.output,Nat.le_trans h.dw.size hP.size,fun q hq hn => (hP.block q (Nat.lt_of_lt_of_le hq h.dw.size) (by omega)).trans (h.dw.block q hq hn)⟩⟩
end Go.Proofs.YtkdgkomnbjepdaaGreatDoor
namespace Go.Proofs.YtkdgkomnbjepdaaGreatDoor
open Go.RowKit Go.Sort
set_option linter.unusedVariables false
attribute [local go_sem ↓] Go.wp_at_zero Go.wp_at_succ
theorem SmI.ret_new {w : World} {cb : Nat} {co : Option Addr} {n cap A A' : Nat} {lx : Array Value} {HS : Nat} {X : World} {k a b op val : Int} {d0 : Value} {l : LimD} {F : StmD × Cs} {σ : Cs} {P Q : Prop} (h : SmI w cb co n cap A lx HS #[.int .i64 k,.int .i64 a,.int .i64 b,d0] X σ Q) (hp : P) (hF : F = (⟨k,a,b,[(op,val)]⟩,σ)) (hA : A ≤ A') (hs : stmB l ⟨k,a,b,[(op,val)]⟩ = true) : StmEd w ((((((X.setCell ⟨HS,3,none⟩ (.slice (some ⟨X.heap.size,0,none⟩) 1 1)).setCell ⟨w.heap.size + 1,0,none⟩ (.int .i64 k)).setCell ⟨w.heap.size + 1,1,none⟩ (.int .i64 a)).setCell ⟨w.heap.size + 1,2,none⟩ (.int .i64 b)).setCell ⟨w.heap.size + 1,3,none⟩ (.slice (some ⟨X.heap.size,0,none⟩) 1 1)).alloc (.cells #[.int .i64 op,.int .i64 val] 107)) cb co n cap A' l F P (.returned (.agg #[.int .i64 k,.int .i64 a,.int .i64 b,.slice (some ⟨X.heap.size,0,none⟩) 1 1])) := by
 have h3 := h.set (o := 3) (u := .slice (some ⟨X.heap.size,0,none⟩) 1 1) (a' := .int .i64 k) (b' := .int .i64 a) (c' := .int .i64 b) (d' := .slice (some ⟨X.heap.size,0,none⟩) 1 1) rfl
 obtain ⟨Z,hZ⟩ : ∃ Z,Z = X.setCell ⟨HS,3,none⟩ (.slice (some ⟨X.heap.size,0,none⟩) 1 1) := ⟨_,rfl⟩
 have zs : Z.heap.size = X.heap.size := by rw [hZ]; simp
 rw [← hZ] at h3 ⊢
 obtain ⟨Y,hY⟩ : ∃ Y,Y = (((Z.setCell ⟨w.heap.size + 1,0,none⟩ (.int .i64 k)).setCell ⟨w.heap.size + 1,1,none⟩ (.int .i64 a)).setCell ⟨w.heap.size + 1,2,none⟩ (.int .i64 b)).setCell ⟨w.heap.size + 1,3,none⟩ (.slice (some ⟨X.heap.size,0,none⟩) 1 1) := ⟨_,rfl⟩
 have ys : Y.heap.size = X.heap.size := by rw [hY,← zs]; simp
 have hP : OnlyP (fun q => q = w.heap.size + 1) Z Y := by rw [hY]; exact set4P
 rw [← hY]
 have c0 := h.cb0
 have hc : Cur Y cb co n cap A σ Q := h3.cur.only hP (by omega) (fun hn g o e => by have := h.g0 hn g o e; omega)
 have hd : Dw cb w Y := ⟨hP.os.trans h3.dw.os,hP.tape.trans h3.dw.tape,hP.output.trans h3.dw.output,Nat.le_trans h3.dw.size hP.size,fun q hq hn => (hP.block q (Nat.lt_of_lt_of_le hq h3.dw.size) (by omega)).trans (h3.dw.block q hq hn)⟩
 have ho := own_new2 (w := Y) (B := w.heap.size) (a := .int .i64 op) (b := .int .i64 val) (t := 107) hd.size
 rw [ys] at ho
 exact ⟨⟨k,a,b,[(op,val)]⟩,_,rfl,ho,hs,by rw [hF]; exact ((hc.below (below1 _ _)).mono hA).with ⟨hp,rfl⟩,hd.trans (dw_alloc _ _ _)⟩
theorem stm_ok {l : LimD} {k x y a b : Int} {its : List (Int × Int)} (hk : 1 ≤ k ∧ k ≤ 9) (ha : a = mostA k l) (hb : b = mostB k l) (hx : 0 ≤ x ∧ x ≤ a) (hy : 0 ≤ y ∧ y ≤ b) (hc : (hasB k = true ∧ codeB its l.v = true) ∨ (hasB k = false ∧ its.length = 0)) : stmB l ⟨k,x,y,its⟩ = true := by
 subst ha hb
 unfold stmB
 simp only [betB]
 rw [decide_eq_true hk,decide_eq_true hx,decide_eq_true hy]
 rcases hc with ⟨h1,h2⟩ | ⟨h1,h2⟩
 ·rw [h1,if_pos rfl,h2]; rfl
 ·rw [h1,if_neg (by simp),decide_eq_true h2]; rfl
set_option maxRecDepth 100000 in
set_option maxHeartbeats 16000000 in
theorem drawStm_any (cb : Nat) (co : Option Addr) (n cap A : Nat) (o s t : Int) (v : Nat) (hl : limP ⟨o,s,t,v⟩) {σ : Cs} {PP : Prop} (w : World) (hA : A ≤ 100000000) (h : Cur w cb co n cap A σ PP) :
  Calls Tryz.prog 67 #[.pointer (some ⟨cb,0,none⟩),.agg #[.int .i64 o,.int .i64 s,.int .i64 t,.int .i64 (v : Int)]] w fun e w' => StmEd w w' cb co n cap (A + 200) ⟨o,s,t,v⟩ (stmF n o s t v σ) PP e := by
 have H0 := hid h
 have HL := hid hl
 have v32 : v ≤ 32 := by have := hl.2.2.2; simp only at this; omega
 have ne : w.heap.size + 1 + 1 ≠ cb := fun e => by have := h.lt; omega
 have P := hid (fun B k w' (hk : k ≤ 65536) (hB : B ≤ 10000000000) {τ : Cs} {Q : Prop} (h' : Cur w' cb co n cap B τ Q) => pick_any cb co n cap B k hk w' (by omega) h')
 have DC := hid (fun B w' (hB : B ≤ 900000000) {τ : Cs} {Q : Prop} (h' : Cur w' cb co n cap B τ Q) => drawCode_any cb co n cap v v32 3 2 rfl B w' (by simp only [bud]; omega) h')
 have CA := hid (h.below (below3 w (.cells #[.int .i64 o,.int .i64 s,.int .i64 t,.int .i64 (v : Int)] 81) (.cells #[.int .i64 0,.int .i64 0,.int .i64 0,.slice none 0 0] 105) (.cells #[.int .i64 2,.int .i64 1,.int .i64 3,.int .i64 2,.int .i64 1,.int .i64 4,.int .i64 5,.int .i64 6,.int .i64 7,.int .i64 8,.int .i64 9,.int .i64 8,.int .i64 1] 3)))
 clear h
 go_enter Tryz.func67,Tryz.ntmps67
 go_upto_region 3 with (go_at_call 19; refine (P.out A 13 _ (by omega) (by omega) CA.out).mono ?_; rintro e w1 ⟨r,rfl,hr,hc,hd⟩; have r13 : r < 13 := (by omega); have bl := hd.at (by have := heap_alloc_new ((w.alloc (.cells #[.int .i64 o,.int .i64 s,.int .i64 t,.int .i64 (v : Int)] 81)).alloc (.cells #[.int .i64 0,.int .i64 0,.int .i64 0,.slice none 0 0] 105)) (.cells #[.int .i64 2,.int .i64 1,.int .i64 3,.int .i64 2,.int .i64 1,.int .i64 4,.int .i64 5,.int .i64 6,.int .i64 7,.int .i64 8,.int .i64 9,.int .i64 8,.int .i64 1] 3); simp only [World.size_alloc] at this; exact this) ne; have hc1 := lit_cell (zs := [2,1,3,2,1,4,5,6,7,8,9,8,1]) bl r13; have hb1 := lit_all (zs := [2,1,3,2,1,4,5,6,7,8,9,8,1]) (P := fun z => 1 ≤ z ∧ z ≤ 9) (by decide) r13; have wl := lt_of_block bl; obtain ⟨k,hk⟩ : ∃ z,z = ([2,1,3,2,1,4,5,6,7,8,9,8,1] : List Int).getD r 0 := ⟨_,rfl⟩; rw [← hk] at hc1 hb1; have HK := hid hb1; have HKK := hid hk; have S0 := hid (sm_start (k := .int .i64 k) H0.out hd hc); clear hc hd hr bl hk hb1)
 obtain ⟨HS,hHS⟩ : ∃ x,x = w1.heap.size := ⟨_,rfl⟩
 obtain ⟨W,hW⟩ : ∃ W,W = w1.alloc (.cells #[.int .i64 k,.int .i64 0,.int .i64 0,.slice none 0 0] 105) := ⟨_,rfl⟩
 rw [← hW,← hHS] at S0
 rw [← hW,← hHS]
 clear hW hHS hc1 wl
 obtain ⟨l0,l1,l2,l3⟩ := quad_cells S0.out.l
 obtain ⟨s0,s1,s2,s3⟩ := quad_cells S0.out.s
 have sl := lt_of_block S0.out.s
 have ll := lt_of_block S0.out.l
 have fr := frz_of S0.out.s
 have CM := hid (l1Most_any k o s t v W hl)
 obtain ⟨a,hMa⟩ : ∃ x,x = mostA k ⟨o,s,t,v⟩ := ⟨_,rfl⟩
 obtain ⟨b,hMb⟩ : ∃ x,x = mostB k ⟨o,s,t,v⟩ := ⟨_,rfl⟩
 rw [← hMa,← hMb] at CM
 have HMa := hid hMa
 have HMb := hid hMb
 have kk := HK.out
 have AB : Hid (a ≤ 300 ∧ b ≤ 999999999) := hid (by rw [hMa,hMb]; have h1 := HL.out; simp only [limP] at h1; unfold mostA mostB; simp only; constructor <;> (repeat' split) <;> omega)
 have ab := AB.out
 clear hMa hMb
 go_upto_region 4 with (go_at_call 95; refine CM.out.mono ?_; rintro e w2 ⟨rfl,hb⟩; have S2 := hid (S0.out.below hb); clear hb)
 clear s0 s1 s2 s3 sl ll fr l0 l1 l2 l3
 by_cases hab : a < 0 ∨ b < 0
 ·skip
  have hB : hasB 2 = true := by decide
  have cond : (a < 0) ∨ (¬ a < 0 ∧ b < 0) := by omega
  rcases cond with ha | ⟨ha,hb⟩
  ·obtain ⟨s0,s1,s2,s3⟩ := quad_cells S2.out.s
   have fr := frz_of S2.out.s
   have sl := lt_of_block S2.out.s
   go_upto_region 8 with fail
   have S2b := hid (S2.out.set (o := 0) (u := .int .i64 2) (a' := .int .i64 2) (b' := .int .i64 0) (c' := .int .i64 0) (d' := .slice none 0 0) rfl)
   obtain ⟨W2,hW2⟩ : ∃ W,W = w2.setCell ⟨HS,0,none⟩ (.int .i64 2) := ⟨_,rfl⟩
   rw [← hW2] at S2b ⊢
   clear hW2 s0 s1 s2 s3 fr sl
   have PA := hid (P.out (A + 2) 1 _ (by omega) (by omega) S2b.out.cur)
   obtain ⟨s0,s1,s2,s3⟩ := quad_cells S2b.out.s
   have fr := frz_of S2b.out.s
   have sl := lt_of_block S2b.out.s
   go_upto_region 9 with (go_at_call 19; refine PA.out.mono ?_; rintro e w3 ⟨x,rfl,hx,hc,hd⟩; have S3 := hid (S2b.out.draw hd hc); have xb : (x : Int) ≤ 0 := (by omega); obtain ⟨y0,y1,y2,y3⟩ := quad_cells S3.out.s; have fy := frz_of S3.out.s; have yl := lt_of_block S3.out.s; clear hc hd hx)
   have S4 := hid (S3.out.set (o := 1) (u := .int .i64 (x : Int)) (a' := .int .i64 2) (b' := .int .i64 (x : Int)) (c' := .int .i64 0) (d' := .slice none 0 0) rfl)
   obtain ⟨W4,hW4⟩ : ∃ W,W = w3.setCell ⟨HS,1,none⟩ (.int .i64 (x : Int)) := ⟨_,rfl⟩
   rw [← hW4] at S4 ⊢
   clear hW4 s0 s1 s2 s3 fr sl y0 y1 y2 y3 fy yl PA
   obtain ⟨s0,s1,s2,s3⟩ := quad_cells S4.out.s
   have sl := lt_of_block S4.out.s
   have PB := hid (P.out (A + 2 + 2) 1 _ (by omega) (by omega) S4.out.cur)
   go_upto_region 12 with (go_at_call 19; refine PB.out.mono ?_; rintro e w5 ⟨y,rfl,hy,hc,hd⟩; have S5 := hid (S4.out.draw hd hc); have yb : (y : Int) ≤ 0 := (by omega); obtain ⟨y0,y1,y2,y3⟩ := quad_cells S5.out.s; have fy := frz_of S5.out.s; have yl := lt_of_block S5.out.s; clear hc hd hy)
   have S6 := hid (S5.out.set (o := 2) (u := .int .i64 (y : Int)) (a' := .int .i64 2) (b' := .int .i64 (x : Int)) (c' := .int .i64 (y : Int)) (d' := .slice none 0 0) rfl)
   obtain ⟨W6,hW6⟩ : ∃ W,W = w5.setCell ⟨HS,2,none⟩ (.int .i64 (y : Int)) := ⟨_,rfl⟩
   rw [← hW6] at S6 ⊢
   clear hW6 s0 s1 s2 s3 sl y0 y1 y2 y3 fy yl PB
   obtain ⟨s0,s1,s2,s3⟩ := quad_cells S6.out.s
   obtain ⟨l0,l1,l2,l3⟩ := quad_cells S6.out.l
   have ll := lt_of_block S6.out.l
   have sl := lt_of_block S6.out.s
   have HCo := hid (l1HasCode_any 2)
   rw [hB] at HCo
   have DD := hid (DC.out (A + 2 + 2 + 2) _ (by omega) S6.out.cur)
   go_upto_region 14 with (first
    | (go_at_call 96; refine (HCo.out _).mono ?_; rintro e wz ⟨rfl,hw⟩; obtain rfl := hw.symm)
    | (go_at_call 68; refine DD.out.mono ?_; rintro e w7 ⟨g,c,its,rfl,ho,hcd,hc,hd⟩; have S7 := hid (S6.out.draw hd hc); have O7 := hid (ownsRow_base ho (Nat.le_trans (show w.heap.size + 1 + 1 ≤ HS from S6.out.hs) (Nat.le_of_lt (lt_of_block S6.out.s)))); have CD := hid hcd; obtain ⟨y0,y1,y2,y3⟩ := quad_cells S7.out.s; have fy := frz_of S7.out.s; have yl := lt_of_block S7.out.s; clear ho hcd hc hd))
   have OK7 := hid (OnlyP.own (OnlyP.set (w := w7) (P := fun q => q = HS) (g := HS) (o := 3) (.slice (some ⟨g,0,none⟩) its.length c) rfl) O7.out (fun q e e2 => by rw [e2] at e; exact own_far O7.out (by decide) S7.out.s e))
   have S8 := hid (S7.out.set (o := 3) (u := .slice (some ⟨g,0,none⟩) its.length c) (a' := .int .i64 2) (b' := .int .i64 (x : Int)) (c' := .int .i64 (y : Int)) (d' := .slice (some ⟨g,0,none⟩) its.length c) rfl)
   obtain ⟨W8,hW8⟩ : ∃ W,W = w7.setCell ⟨HS,3,none⟩ (.slice (some ⟨g,0,none⟩) its.length c) := ⟨_,rfl⟩
   rw [← hW8] at S8 OK7 ⊢
   clear hW8 s0 s1 s2 s3 sl y0 y1 y2 y3 fy yl l0 l1 l2 l3 ll
   obtain ⟨s0,s1,s2,s3⟩ := quad_cells S8.out.s
   obtain ⟨r0,r1,r2,r3⟩ := quad_cells S8.out.r
   have fz := frz_of S8.out.r
   have sl := lt_of_block S8.out.s
   have rl := lt_of_block S8.out.r
   have nHS : ¬ (HS = w.heap.size + 1) := by have := S8.out.hs; omega
   have nHS2 : ¬ (w.heap.size + 1 = HS) := fun e => nHS e.symm
   go_wp2_with fail
   obtain ⟨c0,c1,c2,c3⟩ := quad_cells (set4r (a := .int .i64 2) (b := .int .i64 (x : Int)) (c := .int .i64 (y : Int)) (d := .slice (some ⟨g,0,none⟩) its.length c) S8.out.r)
   refine bodyPost_ret (v := .agg #[.int .i64 2,.int .i64 (x : Int),.int .i64 (y : Int),.slice (some ⟨g,0,none⟩) its.length c]) (by simp [results,Tryz.results67,go_sem,c0,c1,c2,c3]) rfl ?_
   exact S8.out.ret H0.out.fact ((stmF_bad S8.out.cur.fact.1.1.1.2 HKK.out HMa.out HMb.out hab).trans (stmG_code (by omega) hB S8.out.cur.fact.1.1.2 S8.out.cur.fact.1.2 S8.out.cur.fact.2)) OK7.out (by simp only [bud]; omega) (stm_ok (a := 0) (b := 0) (by omega) rfl rfl (by omega) (by omega) (.inl ⟨hB,CD.out.ok (by omega) (by decide)⟩))
  ·obtain ⟨s0,s1,s2,s3⟩ := quad_cells S2.out.s
   have fr := frz_of S2.out.s
   have sl := lt_of_block S2.out.s
   go_upto_region 8 with fail
   have S2b := hid (S2.out.set (o := 0) (u := .int .i64 2) (a' := .int .i64 2) (b' := .int .i64 0) (c' := .int .i64 0) (d' := .slice none 0 0) rfl)
   obtain ⟨W2,hW2⟩ : ∃ W,W = w2.setCell ⟨HS,0,none⟩ (.int .i64 2) := ⟨_,rfl⟩
   rw [← hW2] at S2b ⊢
   clear hW2 s0 s1 s2 s3 fr sl
   have PA := hid (P.out (A + 2) 1 _ (by omega) (by omega) S2b.out.cur)
   obtain ⟨s0,s1,s2,s3⟩ := quad_cells S2b.out.s
   have fr := frz_of S2b.out.s
   have sl := lt_of_block S2b.out.s
   go_upto_region 9 with (go_at_call 19; refine PA.out.mono ?_; rintro e w3 ⟨x,rfl,hx,hc,hd⟩; have S3 := hid (S2b.out.draw hd hc); have xb : (x : Int) ≤ 0 := (by omega); obtain ⟨y0,y1,y2,y3⟩ := quad_cells S3.out.s; have fy := frz_of S3.out.s; have yl := lt_of_block S3.out.s; clear hc hd hx)
   have S4 := hid (S3.out.set (o := 1) (u := .int .i64 (x : Int)) (a' := .int .i64 2) (b' := .int .i64 (x : Int)) (c' := .int .i64 0) (d' := .slice none 0 0) rfl)
   obtain ⟨W4,hW4⟩ : ∃ W,W = w3.setCell ⟨HS,1,none⟩ (.int .i64 (x : Int)) := ⟨_,rfl⟩
   rw [← hW4] at S4 ⊢
   clear hW4 s0 s1 s2 s3 fr sl y0 y1 y2 y3 fy yl PA
   obtain ⟨s0,s1,s2,s3⟩ := quad_cells S4.out.s
   have sl := lt_of_block S4.out.s
   have PB := hid (P.out (A + 2 + 2) 1 _ (by omega) (by omega) S4.out.cur)
   go_upto_region 12 with (go_at_call 19; refine PB.out.mono ?_; rintro e w5 ⟨y,rfl,hy,hc,hd⟩; have S5 := hid (S4.out.draw hd hc); have yb : (y : Int) ≤ 0 := (by omega); obtain ⟨y0,y1,y2,y3⟩ := quad_cells S5.out.s; have fy := frz_of S5.out.s; have yl := lt_of_block S5.out.s; clear hc hd hy)
   have S6 := hid (S5.out.set (o := 2) (u := .int .i64 (y : Int)) (a' := .int .i64 2) (b' := .int .i64 (x : Int)) (c' := .int .i64 (y : Int)) (d' := .slice none 0 0) rfl)
   obtain ⟨W6,hW6⟩ : ∃ W,W = w5.setCell ⟨HS,2,none⟩ (.int .i64 (y : Int)) := ⟨_,rfl⟩
   rw [← hW6] at S6 ⊢
   clear hW6 s0 s1 s2 s3 sl y0 y1 y2 y3 fy yl PB
   obtain ⟨s0,s1,s2,s3⟩ := quad_cells S6.out.s
   obtain ⟨l0,l1,l2,l3⟩ := quad_cells S6.out.l
   have ll := lt_of_block S6.out.l
   have sl := lt_of_block S6.out.s
   have HCo := hid (l1HasCode_any 2)
   rw [hB] at HCo
   have DD := hid (DC.out (A + 2 + 2 + 2) _ (by omega) S6.out.cur)
   go_upto_region 14 with (first
    | (go_at_call 96; refine (HCo.out _).mono ?_; rintro e wz ⟨rfl,hw⟩; obtain rfl := hw.symm)
    | (go_at_call 68; refine DD.out.mono ?_; rintro e w7 ⟨g,c,its,rfl,ho,hcd,hc,hd⟩; have S7 := hid (S6.out.draw hd hc); have O7 := hid (ownsRow_base ho (Nat.le_trans (show w.heap.size + 1 + 1 ≤ HS from S6.out.hs) (Nat.le_of_lt (lt_of_block S6.out.s)))); have CD := hid hcd; obtain ⟨y0,y1,y2,y3⟩ := quad_cells S7.out.s; have fy := frz_of S7.out.s; have yl := lt_of_block S7.out.s; clear ho hcd hc hd))
   have OK7 := hid (OnlyP.own (OnlyP.set (w := w7) (P := fun q => q = HS) (g := HS) (o := 3) (.slice (some ⟨g,0,none⟩) its.length c) rfl) O7.out (fun q e e2 => by rw [e2] at e; exact own_far O7.out (by decide) S7.out.s e))
   have S8 := hid (S7.out.set (o := 3) (u := .slice (some ⟨g,0,none⟩) its.length c) (a' := .int .i64 2) (b' := .int .i64 (x : Int)) (c' := .int .i64 (y : Int)) (d' := .slice (some ⟨g,0,none⟩) its.length c) rfl)
   obtain ⟨W8,hW8⟩ : ∃ W,W = w7.setCell ⟨HS,3,none⟩ (.slice (some ⟨g,0,none⟩) its.length c) := ⟨_,rfl⟩
   rw [← hW8] at S8 OK7 ⊢
   clear hW8 s0 s1 s2 s3 sl y0 y1 y2 y3 fy yl l0 l1 l2 l3 ll
   obtain ⟨s0,s1,s2,s3⟩ := quad_cells S8.out.s
   obtain ⟨r0,r1,r2,r3⟩ := quad_cells S8.out.r
   have fz := frz_of S8.out.r
   have sl := lt_of_block S8.out.s
   have rl := lt_of_block S8.out.r
   have nHS : ¬ (HS = w.heap.size + 1) := by have := S8.out.hs; omega
   have nHS2 : ¬ (w.heap.size + 1 = HS) := fun e => nHS e.symm
   go_wp2_with fail
   obtain ⟨c0,c1,c2,c3⟩ := quad_cells (set4r (a := .int .i64 2) (b := .int .i64 (x : Int)) (c := .int .i64 (y : Int)) (d := .slice (some ⟨g,0,none⟩) its.length c) S8.out.r)
   refine bodyPost_ret (v := .agg #[.int .i64 2,.int .i64 (x : Int),.int .i64 (y : Int),.slice (some ⟨g,0,none⟩) its.length c]) (by simp [results,Tryz.results67,go_sem,c0,c1,c2,c3]) rfl ?_
   exact S8.out.ret H0.out.fact ((stmF_bad S8.out.cur.fact.1.1.1.2 HKK.out HMa.out HMb.out hab).trans (stmG_code (by omega) hB S8.out.cur.fact.1.1.2 S8.out.cur.fact.1.2 S8.out.cur.fact.2)) OK7.out (by simp only [bud]; omega) (stm_ok (a := 0) (b := 0) (by omega) rfl rfl (by omega) (by omega) (.inl ⟨hB,CD.out.ok (by omega) (by decide)⟩))
 ·have a0 : ¬ a < 0 := fun e => hab (.inl e)
  have b0 : ¬ b < 0 := fun e => hab (.inr e)
  have PA := hid (P.out (A + 2) (a + 1) _ (by omega) (by omega) S2.out.cur)
  obtain ⟨s0,s1,s2,s3⟩ := quad_cells S2.out.s
  have fr := frz_of S2.out.s
  have sl := lt_of_block S2.out.s
  go_upto_region 9 with (go_at_call 19; refine PA.out.mono ?_; rintro e w3 ⟨x,rfl,hx,hc,hd⟩; have S3 := hid (S2.out.draw hd hc); have xb : (x : Int) ≤ a := (by omega); obtain ⟨y0,y1,y2,y3⟩ := quad_cells S3.out.s; have fy := frz_of S3.out.s; have yl := lt_of_block S3.out.s; clear hc hd hx)
  have S4 := hid (S3.out.set (o := 1) (u := .int .i64 (x : Int)) (a' := .int .i64 k) (b' := .int .i64 (x : Int)) (c' := .int .i64 0) (d' := .slice none 0 0) rfl)
  obtain ⟨W4,hW4⟩ : ∃ W,W = w3.setCell ⟨HS,1,none⟩ (.int .i64 (x : Int)) := ⟨_,rfl⟩
  rw [← hW4] at S4 ⊢
  clear hW4 s0 s1 s2 s3 fr sl y0 y1 y2 y3 fy yl PA
  by_cases h8 : k = 8
  ·subst h8
   have hB : hasB 8 = true := by decide
   obtain ⟨s0,s1,s2,s3⟩ := quad_cells S4.out.s
   have sl := lt_of_block S4.out.s
   have PB := hid (P.out (A + 2 + 2) 4 _ (by omega) (by omega) S4.out.cur)
   go_upto_region 12 with (go_at_call 19; refine PB.out.mono ?_; rintro e w5 ⟨y,rfl,hy,hc,hd⟩; have S5 := hid (S4.out.draw hd hc); have yb : (y : Int) ≤ 3 := (by omega); obtain ⟨y0,y1,y2,y3⟩ := quad_cells S5.out.s; have fy := frz_of S5.out.s; have yl := lt_of_block S5.out.s; clear hc hd hy)
   have S6 := hid (S5.out.set (o := 2) (u := .int .i64 (y : Int)) (a' := .int .i64 8) (b' := .int .i64 (x : Int)) (c' := .int .i64 (y : Int)) (d' := .slice none 0 0) rfl)
   obtain ⟨W6,hW6⟩ : ∃ W,W = w5.setCell ⟨HS,2,none⟩ (.int .i64 (y : Int)) := ⟨_,rfl⟩
   rw [← hW6] at S6 ⊢
   clear hW6 s0 s1 s2 s3 sl y0 y1 y2 y3 fy yl PB
   obtain ⟨s0,s1,s2,s3⟩ := quad_cells S6.out.s
   obtain ⟨l0,l1,l2,l3⟩ := quad_cells S6.out.l
   have ll := lt_of_block S6.out.l
   have sl := lt_of_block S6.out.s
   have HCo := hid (l1HasCode_any 8)
   rw [hB] at HCo
   have DD := hid (DC.out (A + 2 + 2 + 2) _ (by omega) S6.out.cur)
   go_upto_region 14 with (first
    | (go_at_call 96; refine (HCo.out _).mono ?_; rintro e wz ⟨rfl,hw⟩; obtain rfl := hw.symm)
    | (go_at_call 68; refine DD.out.mono ?_; rintro e w7 ⟨g,c,its,rfl,ho,hcd,hc,hd⟩; have S7 := hid (S6.out.draw hd hc); have O7 := hid (ownsRow_base ho (Nat.le_trans (show w.heap.size + 1 + 1 ≤ HS from S6.out.hs) (Nat.le_of_lt (lt_of_block S6.out.s)))); have CD := hid hcd; obtain ⟨y0,y1,y2,y3⟩ := quad_cells S7.out.s; have fy := frz_of S7.out.s; have yl := lt_of_block S7.out.s; clear ho hcd hc hd))
   have OK7 := hid (OnlyP.own (OnlyP.set (w := w7) (P := fun q => q = HS) (g := HS) (o := 3) (.slice (some ⟨g,0,none⟩) its.length c) rfl) O7.out (fun q e e2 => by rw [e2] at e; exact own_far O7.out (by decide) S7.out.s e))
   have S8 := hid (S7.out.set (o := 3) (u := .slice (some ⟨g,0,none⟩) its.length c) (a' := .int .i64 8) (b' := .int .i64 (x : Int)) (c' := .int .i64 (y : Int)) (d' := .slice (some ⟨g,0,none⟩) its.length c) rfl)
   obtain ⟨W8,hW8⟩ : ∃ W,W = w7.setCell ⟨HS,3,none⟩ (.slice (some ⟨g,0,none⟩) its.length c) := ⟨_,rfl⟩
   rw [← hW8] at S8 OK7 ⊢
   clear hW8 s0 s1 s2 s3 sl y0 y1 y2 y3 fy yl l0 l1 l2 l3 ll
   obtain ⟨s0,s1,s2,s3⟩ := quad_cells S8.out.s
   have sl := lt_of_block S8.out.s
   have PZ := hid (P.out (A + 2 + 2 + 2 + bud 3) 4 _ (by omega) (by simp only [bud]; omega) S8.out.cur)
   obtain ⟨r0,r1,r2,r3⟩ := quad_cells S8.out.r
   have nHS : ¬ (HS = w.heap.size + 1) := by have := S8.out.hs; omega
   have nHS2 : ¬ (w.heap.size + 1 = HS) := fun e => nHS e.symm
   have PY := hid (fun w' {τ : Cs} {Q : Prop} (h' : Cur w' cb co n cap (A + 2 + 2 + 2 + bud 3 + 2) τ Q) => P.out (A + 2 + 2 + 2 + bud 3 + 2) 4 w' (by omega) (by simp only [bud]; omega) h')
   go_wp2_with (first
    | (go_at_call 19; refine PZ.out.mono ?_; rintro e w9 ⟨z,rfl,hz,hc,hd⟩; have z4 : z < 4 := (by omega); have S9 := hid (S8.out.draw hd hc); have O9 := hid (hd.own S8.out.cur OK7.out (by decide)); obtain ⟨y0,y1,y2,y3⟩ := quad_cells S9.out.s; have fy := frz_of S9.out.s; have yl := lt_of_block S9.out.s; obtain ⟨t0,t1,t2,t3⟩ := quad_cells S9.out.r; have ft := frz_of S9.out.r; have tl := lt_of_block S9.out.r; clear hc hd hz)
    | (go_at_call 19; refine (PY.out _ S9.out.cur).mono ?_; rintro e w10 ⟨q,rfl,hq,hc,hd⟩; have q4 : q < 4 := (by omega); have S10 := hid (S9.out.draw hd hc); have S11 := hid (S10.out.below (below1 w10 (.cells #[.int .i64 1,.int .i64 (1 + (q : Int))] 107))); have O11 : Hid ((w10.alloc (.cells #[.int .i64 1,.int .i64 (1 + (q : Int))] 107)).ownsRow (w.heap.size + 1 + 1) 107 2 (.slice (some ⟨w10.heap.size,0,none⟩) 1 1) 1 [.int .i64 1,.int .i64 (1 + (q : Int))]) := hid (own_new2 (Nat.le_trans (show w.heap.size + 1 + 1 ≤ HS from S10.out.hs) (Nat.le_of_lt (lt_of_block S10.out.s)))); have S12 := hid (S11.out.set (o := 3) (u := .slice (some ⟨w10.heap.size,0,none⟩) 1 1) (a' := .int .i64 8) (b' := .int .i64 (x : Int)) (c' := .int .i64 (y : Int)) (d' := .slice (some ⟨w10.heap.size,0,none⟩) 1 1) rfl); have O12 := hid (OnlyP.own (OnlyP.set (w := w10.alloc (.cells #[.int .i64 1,.int .i64 (1 + (q : Int))] 107)) (P := fun q => q = HS) (g := HS) (o := 3) (.slice (some ⟨w10.heap.size,0,none⟩) 1 1) rfl) O11.out (fun q e e2 => by rw [e2] at e; exact own_far O11.out (by decide) S11.out.s e)); obtain ⟨q0,q1,q2,q3⟩ := quad_cells S10.out.s; have fq := frz_of S10.out.s; have ql := lt_of_block S10.out.s; obtain ⟨p0,p1,p2,p3⟩ := quad_cells S10.out.r; have fp := frz_of S10.out.r; have pl := lt_of_block S10.out.r; clear hc hd hq))
   ·obtain ⟨c0,c1,c2,c3⟩ := quad_cells (block_below (set4r (a := .int .i64 8) (b := .int .i64 (x : Int)) (c := .int .i64 (y : Int)) (d := .slice (some ⟨w10.heap.size,0,none⟩) 1 1) (show (w10.setCell ⟨HS,3,none⟩ (.slice (some ⟨w10.heap.size,0,none⟩) 1 1)).heap[w.heap.size + 1]? = _ from (Below.heap_setCell _ _ _ _ nHS2).trans S10.out.r)) (below1 _ (.cells #[.int .i64 1,.int .i64 (1 + (q : Int))] 107)))
    refine bodyPost_ret (v := .agg #[.int .i64 8,.int .i64 (x : Int),.int .i64 (y : Int),.slice (some ⟨w10.heap.size,0,none⟩) 1 1]) (by simp [results,Tryz.results67,go_sem,c0,c1,c2,c3]) rfl ?_
    exact S10.out.ret_new H0.out.fact ((stmF_ok S10.out.cur.fact.1.1.1.1.1.2 HKK.out HMa.out HMb.out hab).trans (stmG_arm S10.out.cur.fact.1.1.1.1.2 S10.out.cur.fact.1.1.1.2 S10.out.cur.fact.1.2 S10.out.cur.fact.2 (by omega))) (by simp only [bud]; omega) (stm_ok kk HMa.out HMb.out (by omega) (by have : b = 999999999 := HMb.out; omega) (.inl ⟨hB,(code_one (vars := (v : Int)) (op := 1) (val := 1 + (q : Int)) (fun st => ⟨.num (1 + (q : Int)),by unfold stepT; rw [if_pos rfl,if_pos (by omega)]⟩)).ok (by omega) (by decide)⟩))
   ·obtain ⟨c0,c1,c2,c3⟩ := quad_cells (set4r (a := .int .i64 8) (b := .int .i64 (x : Int)) (c := .int .i64 (y : Int)) (d := .slice (some ⟨g,0,none⟩) its.length c) S9.out.r)
    refine bodyPost_ret (v := .agg #[.int .i64 8,.int .i64 (x : Int),.int .i64 (y : Int),.slice (some ⟨g,0,none⟩) its.length c]) (by simp [results,Tryz.results67,go_sem,c0,c1,c2,c3]) rfl ?_
    exact S9.out.ret H0.out.fact ((stmF_ok S9.out.cur.fact.1.1.1.1.2 HKK.out HMa.out HMb.out hab).trans (stmG_arm0 S9.out.cur.fact.1.1.1.2 S9.out.cur.fact.1.1.2 S9.out.cur.fact.1.2 S9.out.cur.fact.2 (by omega))) O9.out (by simp only [bud]; omega) (stm_ok kk HMa.out HMb.out (by omega) (by have : b = 999999999 := HMb.out; omega) (.inl ⟨hB,CD.out.ok (by omega) (by decide)⟩))
  ·by_cases hB : hasB k = true
   ·have b65 : b + 1 ≤ 65536 := by have h1 := HL.out; simp only [limP] at h1; rw [HMb.out]; unfold mostB; simp only; (repeat' split) <;> omega
    obtain ⟨s0,s1,s2,s3⟩ := quad_cells S4.out.s
    have sl := lt_of_block S4.out.s
    have PB := hid (P.out (A + 2 + 2) (b + 1) _ (by omega) (by omega) S4.out.cur)
    go_upto_region 12 with (go_at_call 19; refine PB.out.mono ?_; rintro e w5 ⟨y,rfl,hy,hc,hd⟩; have S5 := hid (S4.out.draw hd hc); have yb : (y : Int) ≤ b := (by omega); obtain ⟨y0,y1,y2,y3⟩ := quad_cells S5.out.s; have fy := frz_of S5.out.s; have yl := lt_of_block S5.out.s; clear hc hd hy)
    have S6 := hid (S5.out.set (o := 2) (u := .int .i64 (y : Int)) (a' := .int .i64 k) (b' := .int .i64 (x : Int)) (c' := .int .i64 (y : Int)) (d' := .slice none 0 0) rfl)
    obtain ⟨W6,hW6⟩ : ∃ W,W = w5.setCell ⟨HS,2,none⟩ (.int .i64 (y : Int)) := ⟨_,rfl⟩
    rw [← hW6] at S6 ⊢
    clear hW6 s0 s1 s2 s3 sl y0 y1 y2 y3 fy yl PB
    obtain ⟨s0,s1,s2,s3⟩ := quad_cells S6.out.s
    obtain ⟨l0,l1,l2,l3⟩ := quad_cells S6.out.l
    have ll := lt_of_block S6.out.l
    have sl := lt_of_block S6.out.s
    have HCo := hid (l1HasCode_any k)
    rw [hB] at HCo
    have DD := hid (DC.out (A + 2 + 2 + 2) _ (by omega) S6.out.cur)
    go_upto_region 14 with (first
     | (go_at_call 96; refine (HCo.out _).mono ?_; rintro e wz ⟨rfl,hw⟩; obtain rfl := hw.symm)
     | (go_at_call 68; refine DD.out.mono ?_; rintro e w7 ⟨g,c,its,rfl,ho,hcd,hc,hd⟩; have S7 := hid (S6.out.draw hd hc); have O7 := hid (ownsRow_base ho (Nat.le_trans (show w.heap.size + 1 + 1 ≤ HS from S6.out.hs) (Nat.le_of_lt (lt_of_block S6.out.s)))); have CD := hid hcd; obtain ⟨y0,y1,y2,y3⟩ := quad_cells S7.out.s; have fy := frz_of S7.out.s; have yl := lt_of_block S7.out.s; clear ho hcd hc hd))
    have OK7 := hid (OnlyP.own (OnlyP.set (w := w7) (P := fun q => q = HS) (g := HS) (o := 3) (.slice (some ⟨g,0,none⟩) its.length c) rfl) O7.out (fun q e e2 => by rw [e2] at e; exact own_far O7.out (by decide) S7.out.s e))
    have S8 := hid (S7.out.set (o := 3) (u := .slice (some ⟨g,0,none⟩) its.length c) (a' := .int .i64 k) (b' := .int .i64 (x : Int)) (c' := .int .i64 (y : Int)) (d' := .slice (some ⟨g,0,none⟩) its.length c) rfl)
    obtain ⟨W8,hW8⟩ : ∃ W,W = w7.setCell ⟨HS,3,none⟩ (.slice (some ⟨g,0,none⟩) its.length c) := ⟨_,rfl⟩
    rw [← hW8] at S8 OK7 ⊢
    clear hW8 s0 s1 s2 s3 sl y0 y1 y2 y3 fy yl l0 l1 l2 l3 ll
    obtain ⟨s0,s1,s2,s3⟩ := quad_cells S8.out.s
    obtain ⟨r0,r1,r2,r3⟩ := quad_cells S8.out.r
    have fz := frz_of S8.out.r
    have sl := lt_of_block S8.out.s
    have rl := lt_of_block S8.out.r
    have nHS : ¬ (HS = w.heap.size + 1) := by have := S8.out.hs; omega
    have nHS2 : ¬ (w.heap.size + 1 = HS) := fun e => nHS e.symm
    go_wp2_with fail
    obtain ⟨c0,c1,c2,c3⟩ := quad_cells (set4r (a := .int .i64 k) (b := .int .i64 (x : Int)) (c := .int .i64 (y : Int)) (d := .slice (some ⟨g,0,none⟩) its.length c) S8.out.r)
    refine bodyPost_ret (v := .agg #[.int .i64 k,.int .i64 (x : Int),.int .i64 (y : Int),.slice (some ⟨g,0,none⟩) its.length c]) (by simp [results,Tryz.results67,go_sem,c0,c1,c2,c3]) rfl ?_
    exact S8.out.ret H0.out.fact ((stmF_ok S8.out.cur.fact.1.1.1.2 HKK.out HMa.out HMb.out hab).trans (stmG_code h8 hB S8.out.cur.fact.1.1.2 S8.out.cur.fact.1.2 S8.out.cur.fact.2)) OK7.out (by simp only [bud]; omega) (stm_ok kk HMa.out HMb.out (by omega) (by omega) (.inl ⟨hB,CD.out.ok (by omega) (by decide)⟩))
   ·have hBf : hasB k = false := by simpa using hB
    have b65 : b + 1 ≤ 65536 := by have h1 := HL.out; simp only [limP] at h1; rw [HMb.out]; unfold mostB; simp only; (repeat' split) <;> omega
    obtain ⟨s0,s1,s2,s3⟩ := quad_cells S4.out.s
    have sl := lt_of_block S4.out.s
    have PB := hid (P.out (A + 2 + 2) (b + 1) _ (by omega) (by omega) S4.out.cur)
    go_upto_region 12 with (go_at_call 19; refine PB.out.mono ?_; rintro e w5 ⟨y,rfl,hy,hc,hd⟩; have S5 := hid (S4.out.draw hd hc); have yb : (y : Int) ≤ b := (by omega); obtain ⟨y0,y1,y2,y3⟩ := quad_cells S5.out.s; have fy := frz_of S5.out.s; have yl := lt_of_block S5.out.s; clear hc hd hy)
    have S6 := hid (S5.out.set (o := 2) (u := .int .i64 (y : Int)) (a' := .int .i64 k) (b' := .int .i64 (x : Int)) (c' := .int .i64 (y : Int)) (d' := .slice none 0 0) rfl)
    obtain ⟨W6,hW6⟩ : ∃ W,W = w5.setCell ⟨HS,2,none⟩ (.int .i64 (y : Int)) := ⟨_,rfl⟩
    rw [← hW6] at S6 ⊢
    clear hW6 s0 s1 s2 s3 sl y0 y1 y2 y3 fy yl PB
    obtain ⟨s0,s1,s2,s3⟩ := quad_cells S6.out.s
    obtain ⟨l0,l1,l2,l3⟩ := quad_cells S6.out.l
    have ll := lt_of_block S6.out.l
    have sl := lt_of_block S6.out.s
    have HCo := hid (l1HasCode_any k)
    rw [hBf] at HCo
    go_upto_region 16 with (go_at_call 96; refine (HCo.out _).mono ?_; rintro e wz ⟨rfl,hw⟩; obtain rfl := hw.symm)
    clear s0 s1 s2 s3 sl l0 l1 l2 l3 ll
    obtain ⟨s0,s1,s2,s3⟩ := quad_cells S6.out.s
    obtain ⟨r0,r1,r2,r3⟩ := quad_cells S6.out.r
    have fz := frz_of S6.out.r
    have sl := lt_of_block S6.out.s
    have rl := lt_of_block S6.out.r
    have nHS : ¬ (HS = w.heap.size + 1) := by have := S6.out.hs; omega
    have nHS2 : ¬ (w.heap.size + 1 = HS) := fun e => nHS e.symm
    go_wp2_with fail
    obtain ⟨c0,c1,c2,c3⟩ := quad_cells (set4r (a := .int .i64 k) (b := .int .i64 (x : Int)) (c := .int .i64 (y : Int)) (d := .slice none 0 0) S6.out.r)
    refine bodyPost_ret (v := .agg #[.int .i64 k,.int .i64 (x : Int),.int .i64 (y : Int),.slice none 0 0]) (by simp [results,Tryz.results67,go_sem,c0,c1,c2,c3]) rfl ?_
    exact S6.out.ret H0.out.fact ((stmF_ok S6.out.cur.fact.1.1.2 HKK.out HMa.out HMb.out hab).trans (stmG_none h8 hBf S6.out.cur.fact.1.2 S6.out.cur.fact.2)) (codeV_nil _ _) (by omega) (stm_ok kk HMa.out HMb.out (by omega) (by omega) (.inr ⟨hBf,rfl⟩))
end Go.Proofs.YtkdgkomnbjepdaaGreatDoor

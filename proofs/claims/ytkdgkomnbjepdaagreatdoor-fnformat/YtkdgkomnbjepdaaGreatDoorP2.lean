import Derived.Test.YtkdgkomnbjepdaaGreatDoorP1
import Derived.Test.YtkdgkomnbjepdaaGreatDoorIa
namespace Go.Proofs.YtkdgkomnbjepdaaGreatDoor
open Go.RowKit Go.Sort
attribute [local go_sem ↓] Go.wp_at_zero Go.wp_at_succ
theorem betB_within (x c : Int) : betB x 0 (c - 1) = decide (0 ≤ x ∧ x < c) := by
 unfold betB
 rw [Bool.eq_iff_iff]
 simp
 omega
theorem betB_target (x : Int) (c : Nat) : betB x (-1) ((c : Int) - 1) = (decide (x = -1) || decide (0 ≤ x ∧ x < (c : Int))) := by
 unfold betB
 rw [Bool.eq_iff_iff]
 simp
 omega
theorem within_of' (x c : Int) (b : Bool) (h : b = decide (0 ≤ x ∧ x < c)) (w : World) : Calls Tryz.prog 25 #[.int .i64 x,.int .i64 c] w fun e w' => e = .returned (.bool b) ∧ w' = w := by rw [h]; exact within_any x c w
set_option maxHeartbeats 3200000 in
theorem transOK_any (fv gv tv : Int) (co do_ : Option Addr) (cn cc dn dc : Nat) (gd : List (Int × Int)) (ac : List StmD) (n : Nat) (o s t v : Int) (w : World) (hcn : cn ≤ 9223372036854775807) (hdn : dn ≤ 9223372036854775807) (hg : ItemsOf w co cn gd) (ha : StmsOf w do_ dn ac) :
  Calls Tryz.prog 75 #[.agg #[.int .i64 fv,.int .i64 gv,.slice co cn cc,.int .i64 tv,.slice do_ dn dc],.int .i64 n,.agg #[.int .i64 o,.int .i64 s,.int .i64 t,.int .i64 v]] w fun e w' => e = .returned (.bool (okTr n ⟨o,s,t,v⟩ ⟨fv,gv,gd,tv,ac⟩)) ∧ Below w.heap.size w w' := by
 have HS : Hid (∀ w',Below w.heap.size w w' → ItemsOf w' co cn gd ∧ StmsOf w' do_ dn ac) := fun w' h => ⟨hg.below h,ha.below h⟩
 have hgl := hg.1
 obtain ⟨bF,hbF⟩ : ∃ x,x = decide (0 ≤ fv ∧ fv < (n : Int)) := ⟨_,rfl⟩
 obtain ⟨bS,hbS⟩ : ∃ x,x = decide (0 ≤ gv ∧ gv < s) := ⟨_,rfl⟩
 obtain ⟨bT,hbT⟩ : ∃ x,x = decide (0 ≤ tv ∧ tv < (n : Int)) := ⟨_,rfl⟩
 obtain ⟨bG,hbG⟩ : ∃ x,x = codeB gd v := ⟨_,rfl⟩
 obtain ⟨bA,hbA⟩ : ∃ x,x = stmsB ⟨o,s,t,v⟩ ac := ⟨_,rfl⟩
 have CF := hid (within_of' fv n bF hbF)
 have CS := hid (within_of' gv s bS hbS)
 have CT := hid (within_of' tv n bT hbT)
 have CG := hid (fun w hw => implCodeOK_any co cn cc gd v w hcn hw)
 have CA := hid (fun w hw => implStmsOK_any do_ dn dc ac o s t v w hdn hw)
 rw [show okT gd v = codeB gd v from okT_codeB gd v,← hbG] at CG
 rw [← hbA] at CA
 obtain ⟨td,htd⟩ : ∃ td : TrD,td = ⟨fv,gv,gd,tv,ac⟩ := ⟨_,rfl⟩
 have OK : Hid (okTr n ⟨o,s,t,v⟩ td = (bF && (bS && ((decide (tv = -1) || bT) && ((decide (cn = 0) || bG) && bA))))) := hid (by
  rw [htd]
  unfold okTr grdB
  rw [betB_within,betB_within,betB_target,hgl,← hbG,← hbA,hbF,hbS,hbT])
 rw [← htd]
 clear hg ha hbF hbS hbT hbG hbA hgl htd
 cases bF with
 | false =>
  have RX : Hid (okTr n ⟨o,s,t,v⟩ td = false) := hid (by rw [OK.out]; simp)
  rw [RX.out]
  go_enter Tryz.func75,Tryz.ntmps75
  go_wp2_with (first | (go_at_call_of 25 (Value.int .i64 fv); refine (CF.out _).mono ?_; rintro e wa ⟨rfl,hw⟩; obtain rfl := hw.symm))
  go_ret
  exact ⟨rfl,below2 _ _ _⟩
 | true =>
  cases bS with
  | false =>
   have RX : Hid (okTr n ⟨o,s,t,v⟩ td = false) := hid (by rw [OK.out]; simp)
   rw [RX.out]
   go_enter Tryz.func75,Tryz.ntmps75
   go_wp2_with (first | (go_at_call_of 25 (Value.int .i64 fv); refine (CF.out _).mono ?_; rintro e wa ⟨rfl,hw⟩; obtain rfl := hw.symm) | (go_at_call_of 25 (Value.int .i64 gv); refine (CS.out _).mono ?_; rintro e wa ⟨rfl,hw⟩; obtain rfl := hw.symm))
   go_ret
   exact ⟨rfl,below2 _ _ _⟩
  | true =>
   by_cases ht1 : tv = -1
   ·have t1 : (tv == -1) = true := by simp [ht1]
    rw [decide_eq_true ht1] at OK
    clear ht1
    by_cases hg0 : cn = 0
    ·have g0 : ((cn : Int) == 0) = true := by simp [hg0]
     rw [decide_eq_true hg0] at OK
     clear hg0
     have RX : Hid (okTr n ⟨o,s,t,v⟩ td = bA) := hid (by rw [OK.out]; simp)
     rw [RX.out]
     go_enter Tryz.func75,Tryz.ntmps75
     go_wp2_with (first | (go_at_call_of 25 (Value.int .i64 fv); refine (CF.out _).mono ?_; rintro e wa ⟨rfl,hw⟩; obtain rfl := hw.symm) | (go_at_call_of 25 (Value.int .i64 gv); refine (CS.out _).mono ?_; rintro e wa ⟨rfl,hw⟩; obtain rfl := hw.symm) | (go_at_call 74; refine (CA.out _ (HS.out _ (below2 _ _ _)).2).mono ?_; rintro e w2 ⟨rfl,hb2⟩; have V2 := hid ((below2 _ _ _).trans (hb2.mono (by simp; omega))); clear hb2))
     go_ret
     exact ⟨rfl,V2.out⟩
    ·have g0 : ((cn : Int) == 0) = false := by simpa using hg0
     rw [decide_eq_false hg0] at OK
     clear hg0
     cases bG with
     | false =>
      have RX : Hid (okTr n ⟨o,s,t,v⟩ td = false) := hid (by rw [OK.out]; simp)
      rw [RX.out]
      go_enter Tryz.func75,Tryz.ntmps75
      go_wp2_with (first | (go_at_call_of 25 (Value.int .i64 fv); refine (CF.out _).mono ?_; rintro e wa ⟨rfl,hw⟩; obtain rfl := hw.symm) | (go_at_call_of 25 (Value.int .i64 gv); refine (CS.out _).mono ?_; rintro e wa ⟨rfl,hw⟩; obtain rfl := hw.symm) | (go_at_call 108; refine (CG.out _ (HS.out _ (below2 _ _ _)).1).mono ?_; rintro e w1 ⟨rfl,hb1⟩; have V1 := hid ((below2 _ _ _).trans (hb1.mono (by simp; omega))); obtain ⟨x0,x1,x2,x3,x4⟩ := five_cells (block_below (block_below (heap_alloc_new w _) (below1 _ _)) hb1); obtain ⟨y0,y1,y2,y3⟩ := quad_cells (block_below (heap_alloc_new (w.alloc _) _) hb1); simp only [World.size_alloc] at y0 y1 y2 y3; clear hb1))
      go_ret
      exact ⟨rfl,V1.out⟩
     | true =>
      have RX : Hid (okTr n ⟨o,s,t,v⟩ td = bA) := hid (by rw [OK.out]; simp)
      rw [RX.out]
      go_enter Tryz.func75,Tryz.ntmps75
      go_wp2_with (first | (go_at_call_of 25 (Value.int .i64 fv); refine (CF.out _).mono ?_; rintro e wa ⟨rfl,hw⟩; obtain rfl := hw.symm) | (go_at_call_of 25 (Value.int .i64 gv); refine (CS.out _).mono ?_; rintro e wa ⟨rfl,hw⟩; obtain rfl := hw.symm) | (go_at_call 108; refine (CG.out _ (HS.out _ (below2 _ _ _)).1).mono ?_; rintro e w1 ⟨rfl,hb1⟩; have V1 := hid ((below2 _ _ _).trans (hb1.mono (by simp; omega))); obtain ⟨x0,x1,x2,x3,x4⟩ := five_cells (block_below (block_below (heap_alloc_new w _) (below1 _ _)) hb1); obtain ⟨y0,y1,y2,y3⟩ := quad_cells (block_below (heap_alloc_new (w.alloc _) _) hb1); simp only [World.size_alloc] at y0 y1 y2 y3; clear hb1) | (go_at_call 74; refine (CA.out _ (HS.out _ V1.out).2).mono ?_; rintro e w2 ⟨rfl,hb2⟩; have V2 := hid (V1.out.trans (hb2.mono V1.out.size)); clear hb2))
      go_ret
      exact ⟨rfl,V2.out⟩
   ·have t1 : (tv == -1) = false := by simpa using ht1
    rw [decide_eq_false ht1] at OK
    clear ht1
    cases bT with
    | false =>
     have RX : Hid (okTr n ⟨o,s,t,v⟩ td = false) := hid (by rw [OK.out]; simp)
     rw [RX.out]
     go_enter Tryz.func75,Tryz.ntmps75
     go_wp2_with (first | (go_at_call_of 25 (Value.int .i64 fv); refine (CF.out _).mono ?_; rintro e wa ⟨rfl,hw⟩; obtain rfl := hw.symm) | (go_at_call_of 25 (Value.int .i64 gv); refine (CS.out _).mono ?_; rintro e wa ⟨rfl,hw⟩; obtain rfl := hw.symm) | (go_at_call_of 25 (Value.int .i64 tv); refine (CT.out _).mono ?_; rintro e wa ⟨rfl,hw⟩; obtain rfl := hw.symm))
     go_ret
     exact ⟨rfl,below2 _ _ _⟩
    | true =>
     by_cases hg0 : cn = 0
     ·have g0 : ((cn : Int) == 0) = true := by simp [hg0]
      rw [decide_eq_true hg0] at OK
      clear hg0
      have RX : Hid (okTr n ⟨o,s,t,v⟩ td = bA) := hid (by rw [OK.out]; simp)
      rw [RX.out]
      go_enter Tryz.func75,Tryz.ntmps75
      go_wp2_with (first | (go_at_call_of 25 (Value.int .i64 fv); refine (CF.out _).mono ?_; rintro e wa ⟨rfl,hw⟩; obtain rfl := hw.symm) | (go_at_call_of 25 (Value.int .i64 gv); refine (CS.out _).mono ?_; rintro e wa ⟨rfl,hw⟩; obtain rfl := hw.symm) | (go_at_call_of 25 (Value.int .i64 tv); refine (CT.out _).mono ?_; rintro e wa ⟨rfl,hw⟩; obtain rfl := hw.symm) | (go_at_call 74; refine (CA.out _ (HS.out _ (below2 _ _ _)).2).mono ?_; rintro e w2 ⟨rfl,hb2⟩; have V2 := hid ((below2 _ _ _).trans (hb2.mono (by simp; omega))); clear hb2))
      go_ret
      exact ⟨rfl,V2.out⟩
     ·have g0 : ((cn : Int) == 0) = false := by simpa using hg0
      rw [decide_eq_false hg0] at OK
      clear hg0
      cases bG with
      | false =>
       have RX : Hid (okTr n ⟨o,s,t,v⟩ td = false) := hid (by rw [OK.out]; simp)
       rw [RX.out]
       go_enter Tryz.func75,Tryz.ntmps75
       go_wp2_with (first | (go_at_call_of 25 (Value.int .i64 fv); refine (CF.out _).mono ?_; rintro e wa ⟨rfl,hw⟩; obtain rfl := hw.symm) | (go_at_call_of 25 (Value.int .i64 gv); refine (CS.out _).mono ?_; rintro e wa ⟨rfl,hw⟩; obtain rfl := hw.symm) | (go_at_call_of 25 (Value.int .i64 tv); refine (CT.out _).mono ?_; rintro e wa ⟨rfl,hw⟩; obtain rfl := hw.symm) | (go_at_call 108; refine (CG.out _ (HS.out _ (below2 _ _ _)).1).mono ?_; rintro e w1 ⟨rfl,hb1⟩; have V1 := hid ((below2 _ _ _).trans (hb1.mono (by simp; omega))); obtain ⟨x0,x1,x2,x3,x4⟩ := five_cells (block_below (block_below (heap_alloc_new w _) (below1 _ _)) hb1); obtain ⟨y0,y1,y2,y3⟩ := quad_cells (block_below (heap_alloc_new (w.alloc _) _) hb1); simp only [World.size_alloc] at y0 y1 y2 y3; clear hb1))
       go_ret
       exact ⟨rfl,V1.out⟩
      | true =>
       have RX : Hid (okTr n ⟨o,s,t,v⟩ td = bA) := hid (by rw [OK.out]; simp)
       rw [RX.out]
       go_enter Tryz.func75,Tryz.ntmps75
       go_wp2_with (first | (go_at_call_of 25 (Value.int .i64 fv); refine (CF.out _).mono ?_; rintro e wa ⟨rfl,hw⟩; obtain rfl := hw.symm) | (go_at_call_of 25 (Value.int .i64 gv); refine (CS.out _).mono ?_; rintro e wa ⟨rfl,hw⟩; obtain rfl := hw.symm) | (go_at_call_of 25 (Value.int .i64 tv); refine (CT.out _).mono ?_; rintro e wa ⟨rfl,hw⟩; obtain rfl := hw.symm) | (go_at_call 108; refine (CG.out _ (HS.out _ (below2 _ _ _)).1).mono ?_; rintro e w1 ⟨rfl,hb1⟩; have V1 := hid ((below2 _ _ _).trans (hb1.mono (by simp; omega))); obtain ⟨x0,x1,x2,x3,x4⟩ := five_cells (block_below (block_below (heap_alloc_new w _) (below1 _ _)) hb1); obtain ⟨y0,y1,y2,y3⟩ := quad_cells (block_below (heap_alloc_new (w.alloc _) _) hb1); simp only [World.size_alloc] at y0 y1 y2 y3; clear hb1) | (go_at_call 74; refine (CA.out _ (HS.out _ V1.out).2).mono ?_; rintro e w2 ⟨rfl,hb2⟩; have V2 := hid (V1.out.trans (hb2.mono V1.out.size)); clear hb2))
       go_ret
       exact ⟨rfl,V2.out⟩
set_option maxRecDepth 100000 in
set_option maxHeartbeats 6400000 in
theorem implCheck_any (so to : Option Addr) (n sc tn tc : Nat) (ss : List StD) (ts : List TrD) (o s t v : Int) (w : World) (hn : n ≤ 9223372036854775807) (htn : tn ≤ 9223372036854775807) (hs : StatesOf w so n ss) (ht : TransOf w to tn ts) :
  Calls Tryz.prog 40 #[.agg #[.slice so n sc,.slice to tn tc],.agg #[.int .i64 o,.int .i64 s,.int .i64 t,.int .i64 v]] w fun e w' => e = .returned (.tuple #[.int .i64 (checkOf ss ts ⟨o,s,t,v⟩).1,.int .i64 (checkOf ss ts ⟨o,s,t,v⟩).2]) ∧ Below w.heap.size w w' := by
 have HL := hid hs.1
 have HT := hid ht.1
 have EN := hid (env_start w #[.slice so n sc,.slice to tn tc] #[.int .i64 o,.int .i64 s,.int .i64 t,.int .i64 v])
 have C := hid ((liftTree_any so to n sc tn tc ss o s t v _ hn htn (hs.below EN.out.bel)).mono (R' := fun e w' => ∃ ao m c,e = .returned (.tuple #[.slice ao m c,.int .i64 (faultOf ss tn (limB ⟨o,s,t,v⟩)).1,.int .i64 (faultOf ss tn (limB ⟨o,s,t,v⟩)).2]) ∧ Below ((w.alloc (.cells #[.slice so n sc,.slice to tn tc] 64)).alloc (.cells #[.int .i64 o,.int .i64 s,.int .i64 t,.int .i64 v] 81)).heap.size ((w.alloc (.cells #[.slice so n sc,.slice to tn tc] 64)).alloc (.cells #[.int .i64 o,.int .i64 s,.int .i64 t,.int .i64 v] 81)) w') (by
  rintro e w' ⟨hb,h | ⟨h0,N,tv,rfl,h1,h2,h3⟩⟩
  ·exact ⟨none,0,0,h.2,hb⟩
  ·obtain ⟨ao,cap,rfl⟩ := slice_of h3
   exact ⟨ao,_,cap,by rw [h0],hb⟩))
 obtain ⟨fc,hfc⟩ : ∃ fc,fc = (faultOf ss tn (limB ⟨o,s,t,v⟩)).1 := ⟨_,rfl⟩
 obtain ⟨fp,hfp⟩ : ∃ fp,fp = (faultOf ss tn (limB ⟨o,s,t,v⟩)).2 := ⟨_,rfl⟩
 rw [← hfc,← hfp] at C
 by_cases h0 : fc = 0
 case neg =>
  have E : Hid (checkOf ss ts ⟨o,s,t,v⟩ = (fc,fp)) := hid (by rw [check_fault (by rw [HT.out,← hfc]; exact h0),HT.out,hfc,hfp])
  have h0' : (fc != 0) = true := by simpa using h0
  rw [E.out]
  clear hs ht hfc hfp h0
  go_enter Tryz.func40,Tryz.ntmps40
  go_wp2_with (go_at_call 73; refine C.out.mono ?_; rintro e w1 ⟨ao,am,ac,rfl,hb1⟩; have B1 := hid (EN.out.below hb1); clear hb1)
  go_ret2
  exact ⟨rfl,B1.out.bel⟩
 have F0 : Hid ((faultOf ss ts.length (limB ⟨o,s,t,v⟩)).1 = 0) := hid (by rw [HT.out,← hfc]; exact h0)
 have G := good_of F0.out
 have n1 : 1 ≤ n := by rw [← HL.out]; exact G.n1
 have n2 : n ≤ 200 := by rw [← HL.out]; exact G.n2
 have tn2 : tn ≤ 500 := by rw [← HT.out]; exact G.tn
 obtain ⟨b,off,rfl,hbl,hc⟩ := hs.2 (by omega)
 have HA := hid hc
 have HTT := hid ht.2
 subst h0
 clear hs ht hc hfc hfp G
 go_enter Tryz.func40,Tryz.ntmps40
 go_wp2_with (go_at_call 73; refine C.out.mono ?_; rintro e w1 ⟨ao,am,ac,rfl,hb1⟩; have B1 := hid (EN.out.below hb1); obtain ⟨q0,q1⟩ := two_cells B1.out.ch; clear hb1)
 go_loopg [27] n (fun mm i wr => ∃ k : Nat,k ≤ n ∧ mm = n - k ∧ i = .int .i64 k ∧ Hid (∀ j,j < k → badA ⟨o,s,t,v⟩ ss j = false) ∧ Env w wr #[.slice (some ⟨b,off,none⟩) n sc,.slice to tn tc] #[.int .i64 o,.int .i64 s,.int .i64 t,.int .i64 v])
 case atStart => exact ⟨0,Nat.zero_le _,by omega,rfl,hid (fun j h => absurd h (by omega)),B1.out⟩
 case round =>
  obtain ⟨k,hk,rfl,rfl,HP,hE⟩ := hrel
  have E := hid hE
  obtain ⟨r0,r1⟩ := two_cells hE.ch
  obtain ⟨l0,l1,l2,l3⟩ := quad_cells hE.li
  have hzl : w.heap.size + 1 < wr.heap.size := lt_of_block hE.li
  have hzl0 : w.heap.size < wr.heap.size := by omega
  have hb := hE.bel
  clear hE
  by_cases hlt : k < n
  ·obtain ⟨sd,es⟩ : ∃ sd,sd = ss.getD k st0 := ⟨_,rfl⟩
   have hk4 := HA.out k hlt
   rw [← es] at hk4
   obtain ⟨k1,k2,⟨co,cn,cc,k3,hcn,hi1⟩,⟨do_,dn,dc,k4,hdn,hi2⟩⟩ := hk4
   have k1 := (hb.cell (p := ⟨b,off + k * 4,none⟩) hbl).trans k1
   have k2 := (hb.cell (p := ⟨b,off + k * 4 + 1,none⟩) hbl).trans k2
   have k3 := (hb.cell (p := ⟨b,off + k * 4 + 2,none⟩) hbl).trans k3
   have k4 := (hb.cell (p := ⟨b,off + k * 4 + 3,none⟩) hbl).trans k4
   have S1 : Hid (∀ w',Below w.heap.size w w' → StmsOf w' co cn sd.entry ∧ StmsOf w' do_ dn sd.exit) := hid (fun w' h => ⟨hi1.below h,hi2.below h⟩)
   obtain ⟨pv,hpv⟩ : ∃ pv,pv = sd.parent := ⟨_,rfl⟩
   obtain ⟨iv,hiv⟩ : ∃ iv,iv = sd.initial := ⟨_,rfl⟩
   rw [← hpv] at k1
   rw [← hiv] at k2
   obtain ⟨b1,hb1⟩ : ∃ b1,b1 = stmsB ⟨o,s,t,v⟩ sd.entry := ⟨_,rfl⟩
   obtain ⟨b2,hb2⟩ : ∃ b2,b2 = stmsB ⟨o,s,t,v⟩ sd.exit := ⟨_,rfl⟩
   have BA : Hid (badA ⟨o,s,t,v⟩ ss k = !(b1 && b2)) := hid (by unfold badA; rw [← es,hb1,hb2])
   have C1 := hid (fun w hw => implStmsOK_any co cn cc sd.entry o s t v w hcn hw)
   have C2 := hid (fun w hw => implStmsOK_any do_ dn dc sd.exit o s t v w hdn hw)
   rw [← hb1] at C1
   rw [← hb2] at C2
   have kn : (k : Int) < (n : Int) := by omega
   have EV : Hid (∀ w1,Below (wr.alloc (.cells #[.int .i64 pv,.int .i64 iv,.slice co cn cc,.slice do_ dn dc] 71)).heap.size (wr.alloc (.cells #[.int .i64 pv,.int .i64 iv,.slice co cn cc,.slice do_ dn dc] 71)) w1 → Env w w1 #[.slice (some ⟨b,off,none⟩) n sc,.slice to tn tc] #[.int .i64 o,.int .i64 s,.int .i64 t,.int .i64 v] ∧ w1.heap[wr.heap.size]? = some (.cells #[.int .i64 pv,.int .i64 iv,.slice co cn cc,.slice do_ dn dc] 71 (0,0))) := hid (fun w1 h => env_var E.out h)
   clear hb es hi1 hi2 hpv hiv hb1 hb2
   cases b1 with
   | false =>
    have E5 : Hid (checkOf ss ts ⟨o,s,t,v⟩ = (5,(k : Int))) := hid (check_action F0.out (by rw [HL.out]; exact hlt) (by rw [BA.out]; rfl) HP.out)
    go_wp2_with (go_at_call_of 74 (Value.slice co cn cc); refine (C1.out _ (S1.out _ (E.out.alloc _).bel).1).mono ?_; rintro e w1 ⟨rfl,hb1⟩; have V1 := hid (EV.out _ hb1); clear hb1)
    go_ret2
    rw [E5.out]
    exact ⟨rfl,V1.out.1.bel⟩
   | true =>
    cases b2 with
    | false =>
     have E5 : Hid (checkOf ss ts ⟨o,s,t,v⟩ = (5,(k : Int))) := hid (check_action F0.out (by rw [HL.out]; exact hlt) (by rw [BA.out]; rfl) HP.out)
     go_wp2_with (first | (go_at_call_of 74 (Value.slice co cn cc); refine (C1.out _ (S1.out _ (E.out.alloc _).bel).1).mono ?_; rintro e w1 ⟨rfl,hb1⟩; have V1 := hid (EV.out _ hb1); obtain ⟨x0,x1,x2,x3⟩ := quad_cells V1.out.2; obtain ⟨y0,y1,y2,y3⟩ := quad_cells V1.out.1.li; clear hb1) | (go_at_call_of 74 (Value.slice do_ dn dc); refine (C2.out _ (S1.out _ V1.out.1.bel).2).mono ?_; rintro e w2 ⟨rfl,hb2⟩; have V2 := hid (V1.out.1.below hb2); clear hb2))
     go_ret2
     rw [E5.out]
     exact ⟨rfl,V2.out.bel⟩
    | true =>
     go_wp2_with (first | (go_at_call_of 74 (Value.slice co cn cc); refine (C1.out _ (S1.out _ (E.out.alloc _).bel).1).mono ?_; rintro e w1 ⟨rfl,hb1⟩; have V1 := hid (EV.out _ hb1); obtain ⟨x0,x1,x2,x3⟩ := quad_cells V1.out.2; obtain ⟨y0,y1,y2,y3⟩ := quad_cells V1.out.1.li; clear hb1) | (go_at_call_of 74 (Value.slice do_ dn dc); refine (C2.out _ (S1.out _ V1.out.1.bel).2).mono ?_; rintro e w2 ⟨rfl,hb2⟩; have V2 := hid (V1.out.1.below hb2); clear hb2))
     go_roundg (n - (k + 1))
     case measure => omega
     case rel =>
      refine ⟨k + 1,by omega,rfl,by go_num,hid (fun j hj => ?_),V2.out⟩
      by_cases e : j = k
      ·subst e; rw [BA.out]; rfl
      ·exact HP.out j (by omega)
  ·have e : k = n := by omega
   subst e
   have HP' : Hid (∀ j,j < ss.length → badA ⟨o,s,t,v⟩ ss j = false) := hid (by rw [HL.out]; exact HP.out)
   clear hb HP
   go_wp2
   go_loopg [49] tn (fun mm i wr => ∃ q : Nat,q ≤ tn ∧ mm = tn - q ∧ i = .int .i64 q ∧ Hid (∀ j,j < q → badT ss.length ⟨o,s,t,v⟩ ts j = false) ∧ Env w wr #[.slice (some ⟨b,off,none⟩) k sc,.slice to tn tc] #[.int .i64 o,.int .i64 s,.int .i64 t,.int .i64 v])
   case atStart => exact ⟨0,Nat.zero_le _,by omega,rfl,hid (fun j h => absurd h (by omega)),E.out⟩
   case round =>
    obtain ⟨q,hq,rfl,rfl,HP,hE⟩ := hrel
    have E := hid hE
    obtain ⟨r0,r1⟩ := two_cells hE.ch
    obtain ⟨l0,l1,l2,l3⟩ := quad_cells hE.li
    have hzl : w.heap.size + 1 < wr.heap.size := lt_of_block hE.li
    have hzl0 : w.heap.size < wr.heap.size := by omega
    have hb := hE.bel
    clear hE
    by_cases hlt : q < tn
    ·obtain ⟨bt,offt,rfl,hbtl,hct⟩ := HTT.out (by omega)
     obtain ⟨td,es⟩ : ∃ td,td = ts.getD q tr0 := ⟨_,rfl⟩
     have hk4 := hct q hlt
     rw [← es] at hk4
     obtain ⟨k1,k2,⟨co,cn,cc,k3,hcn,hi1⟩,k5,⟨do_,dn,dc,k4,hdn,hi2⟩⟩ := hk4
     have k1 := (hb.cell (p := ⟨bt,offt + q * 5,none⟩) hbtl).trans k1
     have k2 := (hb.cell (p := ⟨bt,offt + q * 5 + 1,none⟩) hbtl).trans k2
     have k3 := (hb.cell (p := ⟨bt,offt + q * 5 + 2,none⟩) hbtl).trans k3
     have k5 := (hb.cell (p := ⟨bt,offt + q * 5 + 3,none⟩) hbtl).trans k5
     have k4 := (hb.cell (p := ⟨bt,offt + q * 5 + 4,none⟩) hbtl).trans k4
     have EA := hid (E.out.alloc (.cells #[.int .i64 td.src,.int .i64 td.sig,.slice co cn cc,.int .i64 td.target,.slice do_ dn dc] 75))
     have CT := hid (transOK_any td.src td.sig td.target co do_ cn cc dn dc td.guard td.action k o s t v _ hcn hdn (hi1.below EA.out.bel) (hi2.below EA.out.bel))
     obtain ⟨ob,hob⟩ : ∃ ob,ob = okTr k ⟨o,s,t,v⟩ td := ⟨_,rfl⟩
     have BT : Hid (badT ss.length ⟨o,s,t,v⟩ ts q = !ob) := hid (by unfold badT; rw [← es,HL.out,hob])
     have CT2 : Hid (Calls Tryz.prog 75 #[.agg #[.int .i64 td.src,.int .i64 td.sig,.slice co cn cc,.int .i64 td.target,.slice do_ dn dc],.int .i64 k,.agg #[.int .i64 o,.int .i64 s,.int .i64 t,.int .i64 v]] (wr.alloc (.cells #[.int .i64 td.src,.int .i64 td.sig,.slice co cn cc,.int .i64 td.target,.slice do_ dn dc] 75)) fun e w' => e = .returned (.bool ob) ∧ Below (wr.alloc (.cells #[.int .i64 td.src,.int .i64 td.sig,.slice co cn cc,.int .i64 td.target,.slice do_ dn dc] 75)).heap.size (wr.alloc (.cells #[.int .i64 td.src,.int .i64 td.sig,.slice co cn cc,.int .i64 td.target,.slice do_ dn dc] 75)) w') := hid (by rw [hob]; exact CT.out)
     obtain ⟨fv,hfv⟩ : ∃ x,x = td.src := ⟨_,rfl⟩
     obtain ⟨gv,hgv⟩ : ∃ x,x = td.sig := ⟨_,rfl⟩
     obtain ⟨tv,htv⟩ : ∃ x,x = td.target := ⟨_,rfl⟩
     rw [← hfv] at k1 CT2 EA
     rw [← hgv] at k2 CT2 EA
     rw [← htv] at k5 CT2 EA
     have qn : (q : Int) < (tn : Int) := by omega
     clear hb es hi1 hi2 hfv hgv htv hob CT
     cases ob with
     | false =>
      have E6 : Hid (checkOf ss ts ⟨o,s,t,v⟩ = (6,(q : Int))) := hid (check_trans F0.out HP'.out (by rw [HT.out]; exact hlt) (by rw [BT.out]; rfl) HP.out)
      go_wp2_with (go_at_call 75; refine CT2.out.mono ?_; rintro e w2 ⟨rfl,hb2⟩; have V2 := hid (EA.out.below hb2); clear hb2)
      go_ret2
      rw [E6.out]
      exact ⟨rfl,V2.out.bel⟩
     | true =>
      go_wp2_with (go_at_call 75; refine CT2.out.mono ?_; rintro e w2 ⟨rfl,hb2⟩; have V2 := hid (EA.out.below hb2); clear hb2)
      go_roundg (tn - (q + 1))
      case measure => omega
      case rel =>
       refine ⟨q + 1,by omega,rfl,by go_num,hid (fun j hj => ?_),V2.out⟩
       by_cases e : j = q
       ·subst e; rw [BT.out]; rfl
       ·exact HP.out j (by omega)
    ·have e : q = tn := by omega
     subst e
     have E0 : Hid (checkOf ss ts ⟨o,s,t,v⟩ = (0,0)) := hid (check_ok F0.out HP'.out (by rw [HT.out]; exact HP.out))
     clear hb
     go_wp2
     go_ret2
     rw [E0.out]
     exact ⟨rfl,E.out.bel⟩
end Go.Proofs.YtkdgkomnbjepdaaGreatDoor

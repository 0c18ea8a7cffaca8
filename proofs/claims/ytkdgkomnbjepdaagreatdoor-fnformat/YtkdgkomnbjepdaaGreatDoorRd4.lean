import Derived.Test.YtkdgkomnbjepdaaGreatDoorDa
namespace Go.Proofs.YtkdgkomnbjepdaaGreatDoor
open Go.RowKit Go.Sort
set_option linter.unusedVariables false
attribute [local go_sem ↓] Go.wp_at_zero Go.wp_at_succ
theorem four_cb {w : World} {H : Nat} {a b c d : Value} {t : TypeId} (k : w.heap[H]? = some (.cells #[a,b,c,d] t (0,0))) : (w.cell? ⟨H,0,none⟩ = some a ∧ w.cell? ⟨H,1,none⟩ = some b ∧ w.cell? ⟨H,2,none⟩ = some c ∧ w.cell? ⟨H,3,none⟩ = some d) ∧ w.frozen? ⟨H,0,none⟩ = false ∧ w.frozen? ⟨H,1,none⟩ = false ∧ w.frozen? ⟨H,2,none⟩ = false ∧ w.frozen? ⟨H,3,none⟩ = false ∧ H < w.heap.size := by
 refine ⟨?_,?_,?_,?_,?_,lt_of_block k⟩ <;> simp [World.cell?,World.frozen?,k]
theorem St.nilCode {w : World} {B F : Nat} {fs : List (List UInt8)} {bad : Bool} {L : List Rw} (h : St w B F fs bad L) : St w B F fs bad ((CdG.mk nilV []).row :: L) :=
 ⟨h.vars,⟨fun r hr => by
  rcases List.mem_cons.1 hr with rfl | hr
  ·exact World.ownsRow_nil _ _ _ _
  ·exact h.flat.own r hr,List.pairwise_cons.2 ⟨fun x hx g hg => (by simp [CdG.row,Value.ownBlock] at hg),h.flat.far⟩⟩,h.fat,h.nof.cons (show 107 ≠ 9 by decide) (show 107 ≠ 168 by decide),h.lo,h.hi,h.hF,h.len⟩
theorem St.rot {w : World} {B F : Nat} {fs : List (List UInt8)} {bad : Bool} {a b c : Rw} {L : List Rw} (h : St w B F fs bad (a :: b :: c :: L)) : St w B F fs bad (c :: b :: a :: L) := h.perm (by refine perm_count fun f g hf => ?_; simp only [hf.c]; omega)
theorem place_emp {fs : List (List UInt8)} (h : fs.isEmpty = true) : decide (0 ≤ placeN stmsL (fs.getD 0 []) 0) = false := by
 rw [List.isEmpty_iff] at h
 subst h
 decide
set_option maxRecDepth 100000 in
set_option maxHeartbeats 6400000 in
theorem St.stm {w : World} {B F : Nat} {fs : List (List UInt8)} {bad : Bool} {L : List Rw} (h : St w B F fs bad L) : Calls Tryz.prog 90 #[.pointer (some ⟨F,0,none⟩)] w fun e w' => ∃ ao n c,e = .returned (.agg #[.int .i64 (rdS fs).kind,.int .i64 (rdS fs).a,.int .i64 (rdS fs).b,.slice ao n c]) ∧ St w' B F (rsS fs) (bad || !okS fs) ((CdG.mk (.slice ao n c) (rdS fs).code).row :: L) ∧ Bm B w w' := by
 have ZB : St (w.alloc (.cells #[.int .i64 0,.int .i64 0,.int .i64 0,nilV] 105)) B F fs bad (boxR 105 w.heap.size [.int .i64 0,.int .i64 0,.int .i64 0,nilV] :: L) := h.box 105 [.int .i64 0,.int .i64 0,.int .i64 0,nilV] (by decide) (by decide)
 have B0 := hid (h.bnew (below1 w (.cells #[.int .i64 0,.int .i64 0,.int .i64 0,nilV] 105)))
 have C := hid ZB.next
 have FS := hid h.fieldS
 have OE := hid (@bad_empty fs bad _ place_emp)
 have DF : Hid (rdS fs = ⟨kindO (fs.getD 0 []),if giveA (kindO (fs.getD 0 [])) then rdN fs.tail else 0,if giveB (kindO (fs.getD 0 [])) then rdN (stA (fs.getD 0 []) fs.tail) else 0,if formC (kindO (fs.getD 0 [])) then (stB (fs.getD 0 []) fs.tail).map rdI else []⟩) := hid rfl
 have RF : Hid (rsS fs = if formC (kindO (fs.getD 0 [])) then [] else stB (fs.getD 0 []) fs.tail) := hid rfl
 have OF : Hid (okS fs = (decide (0 ≤ placeN stmsL (fs.getD 0 []) 0) && (!giveA (kindO (fs.getD 0 [])) || okN fs.tail) && (!giveB (kindO (fs.getD 0 [])) || okN (stA (fs.getD 0 []) fs.tail)) && (!formC (kindO (fs.getD 0 [])) || (stB (fs.getD 0 []) fs.tail).all okI))) := hid rfl
 have AF : Hid (stA (fs.getD 0 []) fs.tail = if giveA (kindO (fs.getD 0 [])) then fs.tail.tail else fs.tail) := hid rfl
 have BF : Hid (stB (fs.getD 0 []) fs.tail = if giveB (kindO (fs.getD 0 [])) then (stA (fs.getD 0 []) fs.tail).tail else stA (fs.getD 0 []) fs.tail) := hid rfl
 rw [DF.out,RF.out,OF.out]
 obtain ⟨s,hs⟩ : ∃ s : ByteArray,s = ⟨(fs.getD 0 []).toArray⟩ := ⟨_,rfl⟩
 rw [← hs] at C FS
 have hbs : fs.getD 0 [] = bl s := ba_bl.1 hs.symm
 have CI := hid (fun (W : World) (fs' : List (List UInt8)) (bd : Bool) (M : List Rw) (hW : St W B F fs' bd M) => hW.form s)
 rw [← hbs] at CI
 obtain ⟨rA,hrA⟩ : ∃ x,x = stA (fs.getD 0 []) fs.tail := ⟨_,rfl⟩
 obtain ⟨rB,hrB⟩ : ∃ x,x = stB (fs.getD 0 []) fs.tail := ⟨_,rfl⟩
 rw [← hrA] at AF BF
 rw [← hrB] at BF
 rw [← hrA,← hrB]
 obtain ⟨k,hk⟩ : ∃ x,x = kindO (fs.getD 0 []) := ⟨_,rfl⟩
 rw [← hk] at CI AF BF ⊢
 obtain ⟨ok,hok⟩ : ∃ b,b = decide (0 ≤ placeN stmsL (fs.getD 0 []) 0) := ⟨_,rfl⟩
 rw [← hok] at CI OE ⊢
 obtain ⟨gA,hgA⟩ : ∃ b,b = giveA k := ⟨_,rfl⟩
 obtain ⟨gB,hgB⟩ : ∃ b,b = giveB k := ⟨_,rfl⟩
 obtain ⟨gC,hgC⟩ : ∃ b,b = formC k := ⟨_,rfl⟩
 rw [← hgA,← hgB,← hgC] at CI ⊢
 rw [← hgA] at AF
 rw [← hgB] at BF
 obtain ⟨r,hr⟩ : ∃ x,x = fs.tail := ⟨_,rfl⟩
 rw [← hr] at C AF ⊢
 obtain ⟨fe,hfe⟩ : ∃ b,b = (bad || fs.isEmpty) := ⟨_,rfl⟩
 rw [← hfe] at C OE
 have NE : Hid (∀ (W : World) (M : List Rw) (bd b : Bool) (te : TypeId) (pe : Value),St W B F r bd M → Calls Tryz.prog 84 #[.pointer (some ⟨F,0,none⟩),.bool b,.iface te pe] W fun e w' => e = .returned (.tuple #[]) ∧ St w' B F r (bd || !b) M ∧ Bm B W w') := hid (fun W M bd b te pe hW => hW.need b te pe)
 obtain ⟨H2,hH2⟩ : ∃ x,x = w.heap.size := ⟨_,rfl⟩
 rw [← hH2] at C
 have HE2 := hid hH2
 clear hs hbs hrA hrB hk hok hgA hgB hgC hr hfe h ZB DF RF OF hH2
 go_enter Tryz.func90,Tryz.ntmps90
 go_upto_region 3 with (first
  | (go_at_call 115; with_reducible refine C.out.mono ?_; rintro e w1 ⟨rfl,h1,b1⟩; have H1 := hid h1; have B1 := hid b1; clear h1 b1)
  | (go_at_call 117; with_reducible refine (CI.out _ _ _ _ H1.out).mono ?_; rintro e w2 ⟨⟨nm,rfl⟩,h2,b2⟩; have B2 := hid b2; have hbx := (h2.box 214 [.int .i64 k,.string nm,.bool gA,.bool gB,.bool gC] (by decide) (by decide)); have HX := hid hbx; obtain ⟨te,pe,hfe⟩ := hbx.errF; have fl := Lib.lt_of_cell hfe; have B3 := hid (h2.bnew (below1 w2 (.cells #[.int .i64 k,.string nm,.bool gA,.bool gB,.bool gC] 214))); clear h2 b2 hbx)
  | (go_at_call 84; with_reducible refine (NE.out _ _ _ _ te pe HX.out).mono ?_; rintro e w3 ⟨rfl,h3,b3⟩; have H3 := hid h3; have B4 := hid b3; obtain ⟨j0,j1,j2,j3,j4⟩ := five_cc (box_blk h3.head); have jl := lt_of_block (box_blk h3.head); clear h3 b3))
 rw [← HE2.out]
 obtain ⟨P3,hP3⟩ : ∃ x,x = w2.heap.size := ⟨_,rfl⟩
 rw [← hP3] at H3 j0 j1 j2 j3 j4 jl ⊢
 have BA : Hid (Bm B w w3) := hid (((B0.out.trans B1.out).trans B2.out).trans (B3.out.trans B4.out))
 clear hP3 HX H1 C CI NE hfe fl B0 B1 B2 B3 B4
 obtain ⟨W5,hW5⟩ : ∃ W,W = w3.alloc (.cells #[.int .i64 k,.int .i64 0,.int .i64 0,nilV] 105) := ⟨_,rfl⟩
 obtain ⟨P5,hP5⟩ : ∃ x,x = w3.heap.size := ⟨_,rfl⟩
 have SA : Hid (St W5 B F r (fe || !ok) (boxR 105 P5 [.int .i64 k,.int .i64 0,.int .i64 0,nilV] :: boxR 214 P3 [.int .i64 k,.string nm,.bool gA,.bool gB,.bool gC] :: boxR 105 H2 [.int .i64 0,.int .i64 0,.int .i64 0,nilV] :: L)) := hid (by rw [hW5,hP5]; exact H3.out.box 105 [.int .i64 k,.int .i64 0,.int .i64 0,nilV] (by decide) (by decide))
 have BB : Hid (Bm B w W5) := hid (by rw [hW5]; exact BA.out.trans (H3.out.bnew (below1 _ _)))
 have HW5 := hid hW5
 have HP5 := hid hP5
 clear hW5 hP5
 go_upto_region 4 with fail
 rw [← HW5.out,← HP5.out]
 clear HW5 HP5 H3 BA j0 j1 j2 j3 j4 jl
 cases gA with
 | true =>
  have eA : rA = r.tail := by simpa using AF.out
  subst eA
  obtain ⟨⟨a0,a1,a2,a3⟩,y0,y1,y2,y3,yl⟩ := four_cb (box_blk SA.out.head)
  obtain ⟨j0,j1,j2,j3,j4⟩ := five_cc (box_blk SA.out.tail.head)
  have jl := lt_of_block (box_blk SA.out.tail.head)
  have NU := hid SA.out.number
  go_upto_region 6 with (go_at_call 85; with_reducible refine NU.out.mono ?_; rintro e w4 ⟨rfl,h4,b4⟩; have H4 := hid h4; have B4 := hid b4; obtain ⟨⟨e0,e1,e2,e3⟩,x0,x1,x2,x3,xl⟩ := four_cb (box_blk h4.head); clear h4 b4)
  have SB : Hid (St (w4.setCell ⟨P5,1,none⟩ (.int .i64 (rdN r))) B F r.tail ((fe || !ok) || !okN r) (boxR 105 P5 [.int .i64 k,.int .i64 (rdN r),.int .i64 0,nilV] :: boxR 214 P3 [.int .i64 k,.string nm,.bool true,.bool gB,.bool gC] :: boxR 105 H2 [.int .i64 0,.int .i64 0,.int .i64 0,nilV] :: L)) := hid (H4.out.setBox 1 (.int .i64 (rdN r)))
  have BC := hid ((BB.out.trans B4.out).trans (H4.out.bsetBox 1 (.int .i64 (rdN r))))
  obtain ⟨W6,hW⟩ : ∃ W,W = w4.setCell ⟨P5,1,none⟩ (.int .i64 (rdN r)) := ⟨_,rfl⟩
  rw [← hW] at SB BC ⊢
  clear hW H4 B4 NU SA BB e0 e1 e2 e3 x0 x1 x2 x3 xl a0 a1 a2 a3 y0 y1 y2 y3 yl j0 j1 j2 j3 j4 jl
  cases gB with
  | true =>
   have eB : rB = r.tail.tail := by simpa using BF.out
   subst eB
   obtain ⟨⟨a0,a1,a2,a3⟩,y0,y1,y2,y3,yl⟩ := four_cb (box_blk SB.out.head)
   obtain ⟨j0,j1,j2,j3,j4⟩ := five_cc (box_blk SB.out.tail.head)
   have jl := lt_of_block (box_blk SB.out.tail.head)
   have NU := hid SB.out.number
   go_upto_region 8 with (go_at_call 85; with_reducible refine NU.out.mono ?_; rintro e w4 ⟨rfl,h4,b4⟩; have H4 := hid h4; have B4 := hid b4; obtain ⟨⟨e0,e1,e2,e3⟩,x0,x1,x2,x3,xl⟩ := four_cb (box_blk h4.head); clear h4 b4)
   have SC : Hid (St (w4.setCell ⟨P5,2,none⟩ (.int .i64 (rdN r.tail))) B F r.tail.tail (((fe || !ok) || !okN r) || !okN r.tail) (boxR 105 P5 [.int .i64 k,.int .i64 (rdN r),.int .i64 (rdN r.tail),nilV] :: boxR 214 P3 [.int .i64 k,.string nm,.bool true,.bool true,.bool gC] :: boxR 105 H2 [.int .i64 0,.int .i64 0,.int .i64 0,nilV] :: L)) := hid (H4.out.setBox 2 (.int .i64 (rdN r.tail)))
   have BD := hid ((BC.out.trans B4.out).trans (H4.out.bsetBox 2 (.int .i64 (rdN r.tail))))
   obtain ⟨W7,hW⟩ : ∃ W,W = w4.setCell ⟨P5,2,none⟩ (.int .i64 (rdN r.tail)) := ⟨_,rfl⟩
   rw [← hW] at SC BD ⊢
   clear hW H4 B4 NU SB BC e0 e1 e2 e3 x0 x1 x2 x3 xl a0 a1 a2 a3 y0 y1 y2 y3 yl j0 j1 j2 j3 j4 jl
   cases gC with
   | true =>
    obtain ⟨⟨a0,a1,a2,a3⟩,y0,y1,y2,y3,yl⟩ := four_cb (box_blk SC.out.head)
    obtain ⟨j0,j1,j2,j3,j4⟩ := five_cc (box_blk SC.out.tail.head)
    have jl := lt_of_block (box_blk SC.out.tail.head)
    have CO := hid SC.out.code
    go_upto_region 10 with (go_at_call 91; with_reducible refine CO.out.mono ?_; rintro e w8 ⟨ca,cn,cc,rfl,h8,b8⟩; have H8 := hid h8; have B8 := hid b8; obtain ⟨⟨e0,e1,e2,e3⟩,x0,x1,x2,x3,xl⟩ := four_cb (box_blk h8.tail.head); clear h8 b8)
    have SD := hid ((H8.out.perm (.swap _ _ _)).setBox 3 (.slice ca cn cc))
    have BE := hid ((BD.out.trans B8.out).trans ((H8.out.perm (.swap _ _ _)).bsetBox 3 (.slice ca cn cc)))
    obtain ⟨W9,hW⟩ : ∃ W,W = w8.setCell ⟨P5,3,none⟩ (.slice ca cn cc) := ⟨_,rfl⟩
    rw [← hW] at SD BE ⊢
    clear hW H8 B8 CO SC BD e0 e1 e2 e3 x0 x1 x2 x3 xl a0 a1 a2 a3 y0 y1 y2 y3 yl j0 j1 j2 j3 j4 jl
    obtain ⟨⟨a0,a1,a2,a3⟩,y0,y1,y2,y3,yl⟩ := four_cb (box_blk SD.out.head)
    have SE := hid (SD.out.tail.rot)
    obtain ⟨⟨r0,r1,r2,r3⟩,q0,q1,q2,q3,ql⟩ := four_cb (box_blk SE.out.head)
    have SF := hid ((((SE.out.setBox 0 (.int .i64 k)).setBox 1 (.int .i64 (rdN r))).setBox 2 (.int .i64 (rdN r.tail))).setBox 3 (.slice ca cn cc))
    have BF2 := hid (((((BE.out.trans (SE.out.bsetBox 0 (.int .i64 k))).trans ((SE.out.setBox 0 (.int .i64 k)).bsetBox 1 (.int .i64 (rdN r))))).trans (((SE.out.setBox 0 (.int .i64 k)).setBox 1 (.int .i64 (rdN r))).bsetBox 2 (.int .i64 (rdN r.tail)))).trans ((((SE.out.setBox 0 (.int .i64 k)).setBox 1 (.int .i64 (rdN r))).setBox 2 (.int .i64 (rdN r.tail))).bsetBox 3 (.slice ca cn cc)))
    go_wp2_with fail
    obtain ⟨⟨u0,u1,u2,u3⟩,_⟩ := four_cb (box_blk SF.out.head)
    refine bodyPost_ret (v := .agg #[.int .i64 k,.int .i64 (rdN r),.int .i64 (rdN r.tail),.slice ca cn cc]) (by simp [results,Tryz.results90,go_sem,u0,u1,u2,u3]) rfl ⟨ca,cn,cc,rfl,?_,BF2.out⟩
    have sf := SF.out.tail.tail
    try simp only [List.map_tail] at sf
    refine St.bad' sf ?_
    have oe := OE.out
    clear OE
    revert oe
    cases fe <;> cases bad <;> cases ok <;> simp
   | false =>
    obtain ⟨⟨a0,a1,a2,a3⟩,y0,y1,y2,y3,yl⟩ := four_cb (box_blk SC.out.head)
    obtain ⟨j0,j1,j2,j3,j4⟩ := five_cc (box_blk SC.out.tail.head)
    have jl := lt_of_block (box_blk SC.out.tail.head)
    obtain ⟨⟨r0,r1,r2,r3⟩,q0,q1,q2,q3,ql⟩ := four_cb (box_blk SC.out.tail.tail.head)
    have SE := hid (SC.out.rot)
    have SF := hid ((((SE.out.setBox 0 (.int .i64 k)).setBox 1 (.int .i64 (rdN r))).setBox 2 (.int .i64 (rdN r.tail))).setBox 3 nilV)
    have BF2 := hid (((((BD.out.trans (SE.out.bsetBox 0 (.int .i64 k))).trans ((SE.out.setBox 0 (.int .i64 k)).bsetBox 1 (.int .i64 (rdN r))))).trans (((SE.out.setBox 0 (.int .i64 k)).setBox 1 (.int .i64 (rdN r))).bsetBox 2 (.int .i64 (rdN r.tail)))).trans ((((SE.out.setBox 0 (.int .i64 k)).setBox 1 (.int .i64 (rdN r))).setBox 2 (.int .i64 (rdN r.tail))).bsetBox 3 nilV))
    go_wp2_with fail
    obtain ⟨⟨u0,u1,u2,u3⟩,_⟩ := four_cb (box_blk SF.out.head)
    refine bodyPost_ret (v := .agg #[.int .i64 k,.int .i64 (rdN r),.int .i64 (rdN r.tail),nilV]) (by simp [results,Tryz.results90,go_sem,u0,u1,u2,u3]) rfl ⟨none,0,0,rfl,?_,BF2.out⟩
    refine St.bad' (St.nilCode SF.out.tail.tail.tail) ?_
    have oe := OE.out
    clear OE
    revert oe
    cases fe <;> cases bad <;> cases ok <;> simp
  | false =>
   have eB : rB = r.tail := by simpa using BF.out
   subst eB
   obtain ⟨⟨a0,a1,a2,a3⟩,y0,y1,y2,y3,yl⟩ := four_cb (box_blk SB.out.head)
   obtain ⟨j0,j1,j2,j3,j4⟩ := five_cc (box_blk SB.out.tail.head)
   have jl := lt_of_block (box_blk SB.out.tail.head)
   go_upto_region 8 with fail
   clear a0 a1 a2 a3 y0 y1 y2 y3 yl j0 j1 j2 j3 j4 jl
   cases gC with
   | true =>
    obtain ⟨⟨a0,a1,a2,a3⟩,y0,y1,y2,y3,yl⟩ := four_cb (box_blk SB.out.head)
    obtain ⟨j0,j1,j2,j3,j4⟩ := five_cc (box_blk SB.out.tail.head)
    have jl := lt_of_block (box_blk SB.out.tail.head)
    have CO := hid SB.out.code
    go_upto_region 10 with (go_at_call 91; with_reducible refine CO.out.mono ?_; rintro e w8 ⟨ca,cn,cc,rfl,h8,b8⟩; have H8 := hid h8; have B8 := hid b8; obtain ⟨⟨e0,e1,e2,e3⟩,x0,x1,x2,x3,xl⟩ := four_cb (box_blk h8.tail.head); clear h8 b8)
    have SD := hid ((H8.out.perm (.swap _ _ _)).setBox 3 (.slice ca cn cc))
    have BE := hid ((BC.out.trans B8.out).trans ((H8.out.perm (.swap _ _ _)).bsetBox 3 (.slice ca cn cc)))
    obtain ⟨W9,hW⟩ : ∃ W,W = w8.setCell ⟨P5,3,none⟩ (.slice ca cn cc) := ⟨_,rfl⟩
    rw [← hW] at SD BE ⊢
    clear hW H8 B8 CO SB BC e0 e1 e2 e3 x0 x1 x2 x3 xl a0 a1 a2 a3 y0 y1 y2 y3 yl j0 j1 j2 j3 j4 jl
    obtain ⟨⟨a0,a1,a2,a3⟩,y0,y1,y2,y3,yl⟩ := four_cb (box_blk SD.out.head)
    have SE := hid (SD.out.tail.rot)
    obtain ⟨⟨r0,r1,r2,r3⟩,q0,q1,q2,q3,ql⟩ := four_cb (box_blk SE.out.head)
    have SF := hid ((((SE.out.setBox 0 (.int .i64 k)).setBox 1 (.int .i64 (rdN r))).setBox 2 (.int .i64 0)).setBox 3 (.slice ca cn cc))
    have BF2 := hid (((((BE.out.trans (SE.out.bsetBox 0 (.int .i64 k))).trans ((SE.out.setBox 0 (.int .i64 k)).bsetBox 1 (.int .i64 (rdN r))))).trans (((SE.out.setBox 0 (.int .i64 k)).setBox 1 (.int .i64 (rdN r))).bsetBox 2 (.int .i64 0))).trans ((((SE.out.setBox 0 (.int .i64 k)).setBox 1 (.int .i64 (rdN r))).setBox 2 (.int .i64 0)).bsetBox 3 (.slice ca cn cc)))
    go_wp2_with fail
    obtain ⟨⟨u0,u1,u2,u3⟩,_⟩ := four_cb (box_blk SF.out.head)
    refine bodyPost_ret (v := .agg #[.int .i64 k,.int .i64 (rdN r),.int .i64 0,.slice ca cn cc]) (by simp [results,Tryz.results90,go_sem,u0,u1,u2,u3]) rfl ⟨ca,cn,cc,rfl,?_,BF2.out⟩
    have sf := SF.out.tail.tail
    try simp only [List.map_tail] at sf
    refine St.bad' sf ?_
    have oe := OE.out
    clear OE
    revert oe
    cases fe <;> cases bad <;> cases ok <;> simp
   | false =>
    obtain ⟨⟨a0,a1,a2,a3⟩,y0,y1,y2,y3,yl⟩ := four_cb (box_blk SB.out.head)
    obtain ⟨j0,j1,j2,j3,j4⟩ := five_cc (box_blk SB.out.tail.head)
    have jl := lt_of_block (box_blk SB.out.tail.head)
    obtain ⟨⟨r0,r1,r2,r3⟩,q0,q1,q2,q3,ql⟩ := four_cb (box_blk SB.out.tail.tail.head)
    have SE := hid (SB.out.rot)
    have SF := hid ((((SE.out.setBox 0 (.int .i64 k)).setBox 1 (.int .i64 (rdN r))).setBox 2 (.int .i64 0)).setBox 3 nilV)
    have BF2 := hid (((((BC.out.trans (SE.out.bsetBox 0 (.int .i64 k))).trans ((SE.out.setBox 0 (.int .i64 k)).bsetBox 1 (.int .i64 (rdN r))))).trans (((SE.out.setBox 0 (.int .i64 k)).setBox 1 (.int .i64 (rdN r))).bsetBox 2 (.int .i64 0))).trans ((((SE.out.setBox 0 (.int .i64 k)).setBox 1 (.int .i64 (rdN r))).setBox 2 (.int .i64 0)).bsetBox 3 nilV))
    go_wp2_with fail
    obtain ⟨⟨u0,u1,u2,u3⟩,_⟩ := four_cb (box_blk SF.out.head)
    refine bodyPost_ret (v := .agg #[.int .i64 k,.int .i64 (rdN r),.int .i64 0,nilV]) (by simp [results,Tryz.results90,go_sem,u0,u1,u2,u3]) rfl ⟨none,0,0,rfl,?_,BF2.out⟩
    refine St.bad' (St.nilCode SF.out.tail.tail.tail) ?_
    have oe := OE.out
    clear OE
    revert oe
    cases fe <;> cases bad <;> cases ok <;> simp
 | false =>
  have eA : rA = r := by simpa using AF.out
  subst eA
  obtain ⟨⟨a0,a1,a2,a3⟩,y0,y1,y2,y3,yl⟩ := four_cb (box_blk SA.out.head)
  obtain ⟨j0,j1,j2,j3,j4⟩ := five_cc (box_blk SA.out.tail.head)
  have jl := lt_of_block (box_blk SA.out.tail.head)
  go_upto_region 6 with fail
  clear a0 a1 a2 a3 y0 y1 y2 y3 yl j0 j1 j2 j3 j4 jl
  cases gB with
  | true =>
   have eB : rB = rA.tail := by simpa using BF.out
   subst eB
   obtain ⟨⟨a0,a1,a2,a3⟩,y0,y1,y2,y3,yl⟩ := four_cb (box_blk SA.out.head)
   obtain ⟨j0,j1,j2,j3,j4⟩ := five_cc (box_blk SA.out.tail.head)
   have jl := lt_of_block (box_blk SA.out.tail.head)
   have NU := hid SA.out.number
   go_upto_region 8 with (go_at_call 85; with_reducible refine NU.out.mono ?_; rintro e w4 ⟨rfl,h4,b4⟩; have H4 := hid h4; have B4 := hid b4; obtain ⟨⟨e0,e1,e2,e3⟩,x0,x1,x2,x3,xl⟩ := four_cb (box_blk h4.head); clear h4 b4)
   have SC : Hid (St (w4.setCell ⟨P5,2,none⟩ (.int .i64 (rdN rA))) B F rA.tail ((fe || !ok) || !okN rA) (boxR 105 P5 [.int .i64 k,.int .i64 0,.int .i64 (rdN rA),nilV] :: boxR 214 P3 [.int .i64 k,.string nm,.bool false,.bool true,.bool gC] :: boxR 105 H2 [.int .i64 0,.int .i64 0,.int .i64 0,nilV] :: L)) := hid (H4.out.setBox 2 (.int .i64 (rdN rA)))
   have BD := hid ((BB.out.trans B4.out).trans (H4.out.bsetBox 2 (.int .i64 (rdN rA))))
   obtain ⟨W7,hW⟩ : ∃ W,W = w4.setCell ⟨P5,2,none⟩ (.int .i64 (rdN rA)) := ⟨_,rfl⟩
   rw [← hW] at SC BD ⊢
   clear hW H4 B4 NU SA BB e0 e1 e2 e3 x0 x1 x2 x3 xl a0 a1 a2 a3 y0 y1 y2 y3 yl j0 j1 j2 j3 j4 jl
   cases gC with
   | true =>
    obtain ⟨⟨a0,a1,a2,a3⟩,y0,y1,y2,y3,yl⟩ := four_cb (box_blk SC.out.head)
    obtain ⟨j0,j1,j2,j3,j4⟩ := five_cc (box_blk SC.out.tail.head)
    have jl := lt_of_block (box_blk SC.out.tail.head)
    have CO := hid SC.out.code
    go_upto_region 10 with (go_at_call 91; with_reducible refine CO.out.mono ?_; rintro e w8 ⟨ca,cn,cc,rfl,h8,b8⟩; have H8 := hid h8; have B8 := hid b8; obtain ⟨⟨e0,e1,e2,e3⟩,x0,x1,x2,x3,xl⟩ := four_cb (box_blk h8.tail.head); clear h8 b8)
    have SD := hid ((H8.out.perm (.swap _ _ _)).setBox 3 (.slice ca cn cc))
    have BE := hid ((BD.out.trans B8.out).trans ((H8.out.perm (.swap _ _ _)).bsetBox 3 (.slice ca cn cc)))
    obtain ⟨W9,hW⟩ : ∃ W,W = w8.setCell ⟨P5,3,none⟩ (.slice ca cn cc) := ⟨_,rfl⟩
    rw [← hW] at SD BE ⊢
    clear hW H8 B8 CO SC BD e0 e1 e2 e3 x0 x1 x2 x3 xl a0 a1 a2 a3 y0 y1 y2 y3 yl j0 j1 j2 j3 j4 jl
    obtain ⟨⟨a0,a1,a2,a3⟩,y0,y1,y2,y3,yl⟩ := four_cb (box_blk SD.out.head)
    have SE := hid (SD.out.tail.rot)
    obtain ⟨⟨r0,r1,r2,r3⟩,q0,q1,q2,q3,ql⟩ := four_cb (box_blk SE.out.head)
    have SF := hid ((((SE.out.setBox 0 (.int .i64 k)).setBox 1 (.int .i64 0)).setBox 2 (.int .i64 (rdN rA))).setBox 3 (.slice ca cn cc))
    have BF2 := hid (((((BE.out.trans (SE.out.bsetBox 0 (.int .i64 k))).trans ((SE.out.setBox 0 (.int .i64 k)).bsetBox 1 (.int .i64 0)))).trans (((SE.out.setBox 0 (.int .i64 k)).setBox 1 (.int .i64 0)).bsetBox 2 (.int .i64 (rdN rA)))).trans ((((SE.out.setBox 0 (.int .i64 k)).setBox 1 (.int .i64 0)).setBox 2 (.int .i64 (rdN rA))).bsetBox 3 (.slice ca cn cc)))
    go_wp2_with fail
    obtain ⟨⟨u0,u1,u2,u3⟩,_⟩ := four_cb (box_blk SF.out.head)
    refine bodyPost_ret (v := .agg #[.int .i64 k,.int .i64 0,.int .i64 (rdN rA),.slice ca cn cc]) (by simp [results,Tryz.results90,go_sem,u0,u1,u2,u3]) rfl ⟨ca,cn,cc,rfl,?_,BF2.out⟩
    have sf := SF.out.tail.tail
    try simp only [List.map_tail] at sf
    refine St.bad' sf ?_
    have oe := OE.out
    clear OE
    revert oe
    cases fe <;> cases bad <;> cases ok <;> simp
   | false =>
    obtain ⟨⟨a0,a1,a2,a3⟩,y0,y1,y2,y3,yl⟩ := four_cb (box_blk SC.out.head)
    obtain ⟨j0,j1,j2,j3,j4⟩ := five_cc (box_blk SC.out.tail.head)
    have jl := lt_of_block (box_blk SC.out.tail.head)
    obtain ⟨⟨r0,r1,r2,r3⟩,q0,q1,q2,q3,ql⟩ := four_cb (box_blk SC.out.tail.tail.head)
    have SE := hid (SC.out.rot)
    have SF := hid ((((SE.out.setBox 0 (.int .i64 k)).setBox 1 (.int .i64 0)).setBox 2 (.int .i64 (rdN rA))).setBox 3 nilV)
    have BF2 := hid (((((BD.out.trans (SE.out.bsetBox 0 (.int .i64 k))).trans ((SE.out.setBox 0 (.int .i64 k)).bsetBox 1 (.int .i64 0)))).trans (((SE.out.setBox 0 (.int .i64 k)).setBox 1 (.int .i64 0)).bsetBox 2 (.int .i64 (rdN rA)))).trans ((((SE.out.setBox 0 (.int .i64 k)).setBox 1 (.int .i64 0)).setBox 2 (.int .i64 (rdN rA))).bsetBox 3 nilV))
    go_wp2_with fail
    obtain ⟨⟨u0,u1,u2,u3⟩,_⟩ := four_cb (box_blk SF.out.head)
    refine bodyPost_ret (v := .agg #[.int .i64 k,.int .i64 0,.int .i64 (rdN rA),nilV]) (by simp [results,Tryz.results90,go_sem,u0,u1,u2,u3]) rfl ⟨none,0,0,rfl,?_,BF2.out⟩
    refine St.bad' (St.nilCode SF.out.tail.tail.tail) ?_
    have oe := OE.out
    clear OE
    revert oe
    cases fe <;> cases bad <;> cases ok <;> simp
  | false =>
   have eB : rB = rA := by simpa using BF.out
   subst eB
   obtain ⟨⟨a0,a1,a2,a3⟩,y0,y1,y2,y3,yl⟩ := four_cb (box_blk SA.out.head)
   obtain ⟨j0,j1,j2,j3,j4⟩ := five_cc (box_blk SA.out.tail.head)
   have jl := lt_of_block (box_blk SA.out.tail.head)
   go_upto_region 8 with fail
   clear a0 a1 a2 a3 y0 y1 y2 y3 yl j0 j1 j2 j3 j4 jl
   cases gC with
   | true =>
    obtain ⟨⟨a0,a1,a2,a3⟩,y0,y1,y2,y3,yl⟩ := four_cb (box_blk SA.out.head)
    obtain ⟨j0,j1,j2,j3,j4⟩ := five_cc (box_blk SA.out.tail.head)
    have jl := lt_of_block (box_blk SA.out.tail.head)
    have CO := hid SA.out.code
    go_upto_region 10 with (go_at_call 91; with_reducible refine CO.out.mono ?_; rintro e w8 ⟨ca,cn,cc,rfl,h8,b8⟩; have H8 := hid h8; have B8 := hid b8; obtain ⟨⟨e0,e1,e2,e3⟩,x0,x1,x2,x3,xl⟩ := four_cb (box_blk h8.tail.head); clear h8 b8)
    have SD := hid ((H8.out.perm (.swap _ _ _)).setBox 3 (.slice ca cn cc))
    have BE := hid ((BB.out.trans B8.out).trans ((H8.out.perm (.swap _ _ _)).bsetBox 3 (.slice ca cn cc)))
    obtain ⟨W9,hW⟩ : ∃ W,W = w8.setCell ⟨P5,3,none⟩ (.slice ca cn cc) := ⟨_,rfl⟩
    rw [← hW] at SD BE ⊢
    clear hW H8 B8 CO SA BB e0 e1 e2 e3 x0 x1 x2 x3 xl a0 a1 a2 a3 y0 y1 y2 y3 yl j0 j1 j2 j3 j4 jl
    obtain ⟨⟨a0,a1,a2,a3⟩,y0,y1,y2,y3,yl⟩ := four_cb (box_blk SD.out.head)
    have SE := hid (SD.out.tail.rot)
    obtain ⟨⟨r0,r1,r2,r3⟩,q0,q1,q2,q3,ql⟩ := four_cb (box_blk SE.out.head)
    have SF := hid ((((SE.out.setBox 0 (.int .i64 k)).setBox 1 (.int .i64 0)).setBox 2 (.int .i64 0)).setBox 3 (.slice ca cn cc))
    have BF2 := hid (((((BE.out.trans (SE.out.bsetBox 0 (.int .i64 k))).trans ((SE.out.setBox 0 (.int .i64 k)).bsetBox 1 (.int .i64 0)))).trans (((SE.out.setBox 0 (.int .i64 k)).setBox 1 (.int .i64 0)).bsetBox 2 (.int .i64 0))).trans ((((SE.out.setBox 0 (.int .i64 k)).setBox 1 (.int .i64 0)).setBox 2 (.int .i64 0)).bsetBox 3 (.slice ca cn cc)))
    go_wp2_with fail
    obtain ⟨⟨u0,u1,u2,u3⟩,_⟩ := four_cb (box_blk SF.out.head)
    refine bodyPost_ret (v := .agg #[.int .i64 k,.int .i64 0,.int .i64 0,.slice ca cn cc]) (by simp [results,Tryz.results90,go_sem,u0,u1,u2,u3]) rfl ⟨ca,cn,cc,rfl,?_,BF2.out⟩
    have sf := SF.out.tail.tail
    try simp only [List.map_tail] at sf
    refine St.bad' sf ?_
    have oe := OE.out
    clear OE
    revert oe
    cases fe <;> cases bad <;> cases ok <;> simp
   | false =>
    obtain ⟨⟨a0,a1,a2,a3⟩,y0,y1,y2,y3,yl⟩ := four_cb (box_blk SA.out.head)
    obtain ⟨j0,j1,j2,j3,j4⟩ := five_cc (box_blk SA.out.tail.head)
    have jl := lt_of_block (box_blk SA.out.tail.head)
    obtain ⟨⟨r0,r1,r2,r3⟩,q0,q1,q2,q3,ql⟩ := four_cb (box_blk SA.out.tail.tail.head)
    have SE := hid (SA.out.rot)
    have SF := hid ((((SE.out.setBox 0 (.int .i64 k)).setBox 1 (.int .i64 0)).setBox 2 (.int .i64 0)).setBox 3 nilV)
    have BF2 := hid (((((BB.out.trans (SE.out.bsetBox 0 (.int .i64 k))).trans ((SE.out.setBox 0 (.int .i64 k)).bsetBox 1 (.int .i64 0)))).trans (((SE.out.setBox 0 (.int .i64 k)).setBox 1 (.int .i64 0)).bsetBox 2 (.int .i64 0))).trans ((((SE.out.setBox 0 (.int .i64 k)).setBox 1 (.int .i64 0)).setBox 2 (.int .i64 0)).bsetBox 3 nilV))
    go_wp2_with fail
    obtain ⟨⟨u0,u1,u2,u3⟩,_⟩ := four_cb (box_blk SF.out.head)
    refine bodyPost_ret (v := .agg #[.int .i64 k,.int .i64 0,.int .i64 0,nilV]) (by simp [results,Tryz.results90,go_sem,u0,u1,u2,u3]) rfl ⟨none,0,0,rfl,?_,BF2.out⟩
    refine St.bad' (St.nilCode SF.out.tail.tail.tail) ?_
    have oe := OE.out
    clear OE
    revert oe
    cases fe <;> cases bad <;> cases ok <;> simp
end Go.Proofs.YtkdgkomnbjepdaaGreatDoor

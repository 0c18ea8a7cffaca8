import Derived.Test.YtkdgkomnbjepdaaGreatDoorDd
import Derived.Test.YtkdgkomnbjepdaaGreatDoorZ0
namespace Go.Proofs.YtkdgkomnbjepdaaGreatDoor
open Go.RowKit Go.Sort
set_option linter.unusedVariables false
set_option linter.unusedSimpArgs false
attribute [local go_sem ↓] Go.wp_at_zero Go.wp_at_succ
set_option maxRecDepth 100000 in
set_option maxHeartbeats 6400000 in
theorem readDo_any {w : World} {B F Q : Nat} {G : SyG} {bg : Bool} {X : List Rw} {fs : List (List UInt8)} (h : St w B F fs false (rdB Q G bg :: (G.rows ++ X))) (hz : SmD G.dat 1048575) (hbg : bg = false → G.dat.obs = []) : Calls Tryz.prog 58 #[.pointer (some ⟨Q,0,none⟩),.pointer (some ⟨F,0,none⟩)] w fun e w' => RdR B F Q G bg X kDo fs w e w' := by
 obtain ⟨eo,ec,xo,xc,hev,hxv⟩ := SyG.form h.flat.tail
 obtain ⟨sg,⟨ov,os⟩,⟨tv,ts⟩⟩ := G
 simp only at hev hxv
 subst hev hxv
 have OL : os.length ≤ 1048575 := by have := hz.o; simpa [SyG.dat] using this
 have TL : ts.length ≤ 1048575 := by have := hz.t; simpa [SyG.dat] using this
 have HZ := hid hz
 have HBG := hid hbg
 obtain ⟨⟨q0,q1,q2,q3⟩,y0,y1,y2,y3,yl⟩ := four_cb (box_blk h.head)
 simp only at q0 q1 q2 q3
 obtain ⟨i0,hi,hz0,hz1,hz2⟩ := info_parts infoSmL
 have C := hid ((h.perm (L' := (ObsG.mk (.slice eo os.length ec) os).rows ++ (rdB Q (SyG.mk sg ⟨.slice eo os.length ec,os⟩ ⟨.slice xo ts.length xc,ts⟩) bg :: (TmG.mk (.slice xo ts.length xc) ts).row :: X)) (by refine perm_count fun f g hf => ?_; simp only [hf.c,hf.a,hf.z,rdB,SyG.rows,ObsG.rows,ObsG.row,ObG.rows,InG.row,StsG.rows,TrsG.rows,StsG.row,TrsG.row,TmG.row,StG.rows,TrG.rows,SmG.rows,CdG.row,SmsG.rows,SmsG.row,itC_append,itC,List.map_append,List.map_cons,List.map_nil,List.flatMap_append,List.flatMap_cons,List.flatMap_nil,List.append_nil,List.nil_append,List.length_append,List.length_cons,List.length_nil,Nat.zero_add,List.cons_append,List.append_assoc,ObG.cells,StG.cells,TrG.cells,SmG.cells]; try omega)).latO (by omega))
 clear h
 obtain ⟨x,hx0⟩ : ∃ x,x = rdS fs := ⟨_,rfl⟩
 obtain ⟨xk,xa,xb,its⟩ := x
 have HXS := hid hx0
 clear hx0
 have CL : Hid (Calls Tryz.prog 87 #[.pointer (some ⟨F,0,none⟩),.slice eo os.length ec] w fun e w' => LatO w B F fs false (.slice eo os.length ec) os (rdB Q (SyG.mk sg ⟨.slice eo os.length ec,os⟩ ⟨.slice xo ts.length xc,ts⟩) bg :: (TmG.mk (.slice xo ts.length xc) ts).row :: X) e w') := C
 go_enter Tryz.func58,Tryz.ntmps58
 go_upto_region 1 with (first
  | (go_at_call 87; with_reducible refine CL.out.mono ?_; rintro e w1 ⟨go,co,pp,o,M,rfl,h1,b1,hpp,hor⟩; have B1 := hid b1; have OR := hid hor; have SO := hid (so_of HZ.out hor); obtain ⟨c6,gl⟩ := h1.ob7; have C2 := hid (h1.lastT SO.out); clear h1 b1 hor)
  | (go_at_call 92; with_reducible refine C2.out.mono ?_; rintro e w2 ⟨gs,cs,qq,el,M2,rfl,h2,b2,hqq,hor2⟩; have H2 := hid h2; have B2 := hid b2; have OR2 := hid hor2; have SE := hid (ta_of SO.out hor2); clear h2 b2 hor2))
 obtain ⟨fr0,sg0,gd0,tg0,⟨av,zs⟩⟩ := el
 obtain ⟨na,nc,hav,_,_,_⟩ := row_read SmG.cells 4 (fun _ => rfl) (H2.out.own (r := (SmsG.mk av zs).row) (by simp [TrG.rows,SmsG.rows]))
 simp only [SmsG.row] at hav
 subst hav
 have AL : zs.length ≤ 1048575 := SE.out
 obtain ⟨pO,qO,dO,kI,vI,uI,sI,⟨sv,ss⟩⟩ := o
 simp only at OR2 H2
 have SW : Hid (St w2 B F fs ((false || os.isEmpty) || ss.isEmpty) ((SmsG.mk (.slice na zs.length nc) zs).row :: (TrsG.mk (.slice (some ⟨gs,0,none⟩) (qq.length + 1) cs) (qq ++ [(TrG.mk fr0 sg0 gd0 tg0 ⟨.slice na zs.length nc,zs⟩)])).row :: (zs.flatMap SmG.rows ++ (gd0.row :: M2)))) := hid (H2.out.perm (by refine perm_count fun f g hf => ?_; simp only [hf.c,hf.a,hf.z,rdB,SyG.rows,ObsG.rows,ObsG.row,ObG.rows,InG.row,StsG.rows,TrsG.rows,StsG.row,TrsG.row,TmG.row,StG.rows,TrG.rows,SmG.rows,CdG.row,SmsG.rows,SmsG.row,itC_append,itC,List.map_append,List.map_cons,List.map_nil,List.flatMap_append,List.flatMap_cons,List.flatMap_nil,List.append_nil,List.nil_append,List.length_append,List.length_cons,List.length_nil,Nat.zero_add,List.cons_append,List.append_assoc,ObG.cells,StG.cells,TrG.cells,SmG.cells]; try omega))
 clear H2 C C2 CL c6 gl q0 q1 q2 q3 y0 y1 y2 y3 yl
 have CS : Hid (∀ (X : World) (fs0 : List (List UInt8)) (bd0 : Bool) (T : List Rw),St X B F fs0 bd0 ((TrsG.mk (.slice (some ⟨gs,0,none⟩) (qq.length + 1) cs) (qq ++ [(TrG.mk fr0 sg0 gd0 tg0 ⟨.slice na zs.length nc,zs⟩)])).row :: T) → X.cell? ⟨gs,qq.length * 5 + 4,none⟩ = some (.slice na zs.length nc)) := hid (fun X _ _ _ hX => tr_cell hX.head 4 (by omega))
 have KD : Hid (w2.drew.cell? ⟨gs,qq.length * 5 + 4,none⟩ = some (.slice na zs.length nc)) := hid (CS.out _ _ _ _ SW.out.tail.drew)
 have CC := hid SW.out.drew.stm
 rw [← HXS.out] at CC; simp only at CC
 refine wp_region_noPanic ?_
 refine wp_region_till (st := 11) (S := fun u => u.cell? ⟨gs,qq.length * 5 + 4,none⟩ = some (.slice na zs.length nc)) (by kernel_rfl) ?_
 refine wpTill_take (i := 0) (d := some 18) (v := ?_) rfl rfl (by kernel_rfl) (by kernel_rfl) (by kernel_rfl) (by kernel_rfl) (by kernel_rfl) (fun _ _ _ h => h) (Or.inl ⟨by rfl,?_⟩) KD.out ?_
 case refine_2 => (intro u hu; obtain s0 := hu; go_simp; first | done | with_reducible rfl)
 simp only [Act.put,List.setIfInBounds_toArray,List.set_cons_zero,List.set_cons_succ]
 refine wpTill_take (i := 1) (d := some 19) (v := ?_) rfl rfl (by kernel_rfl) (by kernel_rfl) (by kernel_rfl) (by kernel_rfl) (by kernel_rfl) (fun _ _ _ h => h) (Or.inl ⟨by rfl,?_⟩) KD.out ?_
 case refine_2 => (intro u hu; obtain s0 := hu; go_simp; first | done | with_reducible rfl)
 simp only [Act.put,List.setIfInBounds_toArray,List.set_cons_zero,List.set_cons_succ]
 refine wpTill_take (i := 2) (d := some 20) (v := ?_) rfl rfl (by kernel_rfl) (by kernel_rfl) (by kernel_rfl) (by kernel_rfl) (by kernel_rfl) (fun _ _ _ h => h) (Or.inl ⟨by rfl,?_⟩) KD.out ?_
 case refine_2 => (intro u hu; obtain s0 := hu; go_simp; first | done | with_reducible rfl)
 simp only [Act.put,List.setIfInBounds_toArray,List.set_cons_zero,List.set_cons_succ]
 refine wpTill_take (i := 3) (d := some 21) (v := ?_) rfl rfl (by kernel_rfl) (by kernel_rfl) (by kernel_rfl) (by kernel_rfl) (by kernel_rfl) (fun _ _ _ h => h) (Or.inl ⟨by rfl,?_⟩) KD.out ?_
 case refine_2 => (intro u hu; obtain s0 := hu; go_simp; first | done | with_reducible rfl)
 simp only [Act.put,List.setIfInBounds_toArray,List.set_cons_zero,List.set_cons_succ]
 refine wpTill_take (i := 4) (d := some 22) (v := ?_) rfl rfl (by kernel_rfl) (by kernel_rfl) (by kernel_rfl) (by kernel_rfl) (by kernel_rfl) (fun _ _ _ h => h) (Or.inl ⟨by rfl,?_⟩) KD.out ?_
 case refine_2 => (intro u hu; obtain s0 := hu; go_simp; first | done | with_reducible rfl)
 simp only [Act.put,List.setIfInBounds_toArray,List.set_cons_zero,List.set_cons_succ]
 refine wpTill_take (i := 5) (d := some 23) (v := ?_) rfl rfl (by kernel_rfl) (by kernel_rfl) (by kernel_rfl) (by kernel_rfl) (by kernel_rfl) (fun _ _ _ h => h) (Or.inl ⟨by rfl,?_⟩) KD.out ?_
 case refine_2 => (intro u hu; obtain s0 := hu; go_simp; first | done | with_reducible rfl)
 simp only [Act.put,List.setIfInBounds_toArray,List.set_cons_zero,List.set_cons_succ]
 refine wpTill_step (i := 6) (by kernel_rfl) rfl (fun K hK => ?_)
 go_simp
 go_wp2_with (go_at_call 90; with_reducible refine CC.out.mono ?_; rintro e w6 ⟨ca,cn,cc,rfl,h6,b6⟩; have H6 := hid h6.roll; have B6 := hid b6; clear h6 b6)
 have K6 := hid (CS.out w6 _ _ _ H6.out.tail)
 refine hK _ _ K6.out ?_
 clear hK K
 obtain ⟨U,hU⟩ : ∃ U,U = (w6.alloc (.cells #[.int .i64 xk,.int .i64 xa,.int .i64 xb,.slice ca cn cc] 105)) := ⟨_,rfl⟩
 have BU : Hid (Below w6.heap.size w6 U) := hid (by rw [hU]; exact (below1 _ _))
 have HU := hid (H6.out.new BU.out)
 have KU := hid (CS.out U _ _ _ HU.out.tail)
 have NWU : Hid (∀ j u,[.int .i64 xk,.int .i64 xa,.int .i64 xb,.slice ca cn cc][j]? = some u → U.cell? ((⟨w6.heap.size,0,none⟩ : Addr).add j) = some u) := hid (World.news_of_block (cs := #[.int .i64 xk,.int .i64 xa,.int .i64 xb,.slice ca cn cc]) (by rw [hU]; exact heap_alloc_new w6 _))
 refine wpTill_step (i := 7) (by kernel_rfl) rfl (fun K hK => ?_)
 go_simp
 rw [← hU]
 refine hK _ _ KU.out ?_
 clear hU hK K
 refine wpTill_step (i := 8) (by kernel_rfl) rfl (fun K hK => ?_)
 refine step_append_lies _ (by rfl) _ _ _ (by rfl) B 105 i0 _ 4 48 Tryz.underlying69 hi hz0 hz1 hz2 rfl (by omega) (.slice na zs.length nc) zs.length (zs.flatMap SmG.cells) (by simp [Act.eval]) HU.out.head ⟨w6.heap.size,0,none⟩ 1 1 [.int .i64 xk,.int .i64 xa,.int .i64 xb,.slice ca cn cc] (by simp [Act.eval]) (by simp) NWU.out (by intro u hu; simp at hu; rcases hu with rfl | rfl | rfl | rfl <;> rfl) (by omega) (by unfold maxLen; omega) (by omega) HU.out.hi U.heap.size rfl ?_
 intro gg cap5 w5 hown hgrow hat hlt5
 have H5 := hid (HU.out.app hgrow hown hat)
 have B5 := hid (HU.out.bapp hgrow)
 have K5 := hid (CS.out w5 _ _ _ H5.out.tail)
 clear hown hgrow hat
 refine hK _ _ K5.out ?_
 clear hK K
 refine wpTill_step (i := 9) (by kernel_rfl) rfl (fun K hK => ?_)
 go_simp
 refine hK _ _ K5.out ?_
 clear hK K
 refine wpTill_step (i := 10) (by kernel_rfl) rfl (fun K hK => ?_)
 go_simp
 refine hK _ _ K5.out ?_
 clear hK K
 obtain c5 := K5.out
 obtain ⟨fz5,fl5⟩ := tr_froz H5.out.tail.head (qq.length * 5 + 4)
 refine wpTill_last (by kernel_rfl) rfl (by kernel_rfl) (fun K hK => ?_)
 go_simp
 refine hK _ _ ?_
 clear hK K
 refine wpTill_done (by kernel_rfl) ?_ _
 refine NoPanic.normal ?_
 have H7 : Hid (St (w5.setCell ⟨gs,qq.length * 5 + 4,none⟩ (.slice (some ⟨gg,0,none⟩) (zs.length + 1) cap5)) B F (rsS fs) (((false || os.isEmpty) || ss.isEmpty) || !okS fs) ((TrsG.mk (.slice (some ⟨gs,0,none⟩) (qq.length + 1) cs) (qq ++ [(TrG.mk fr0 sg0 gd0 tg0 ⟨(.slice (some ⟨gg,0,none⟩) (zs.length + 1) cap5),zs ++ [⟨xk,xa,xb,⟨.slice ca cn cc,its⟩⟩]⟩)])).row :: (⟨105,4,(.slice (some ⟨gg,0,none⟩) (zs.length + 1) cap5),zs.length + 1,zs.flatMap SmG.cells ++ [.int .i64 xk,.int .i64 xa,.int .i64 xb,.slice ca cn cc]⟩ : Rw) :: (CdG.mk (.slice ca cn cc) its).row :: (zs.flatMap SmG.rows ++ (gd0.row :: M2)))) := hid ((H5.out.perm (.swap _ _ _)).trSet (o' := (TrG.mk fr0 sg0 gd0 tg0 ⟨(.slice (some ⟨gg,0,none⟩) (zs.length + 1) cap5),zs ++ [⟨xk,xa,xb,⟨.slice ca cn cc,its⟩⟩]⟩)) 4 (.slice (some ⟨gg,0,none⟩) (zs.length + 1) cap5) (by omega) rfl)
 have B7 := hid ((((B1.out.trans B2.out).trans (SW.out.bnew (Below.refl _ _).drew)).trans B6.out).trans ((H6.out.bnew BU.out).trans (B5.out.trans ((H5.out.perm (.swap _ _ _)).btrSet (qq.length * 5 + 4) (.slice (some ⟨gg,0,none⟩) (zs.length + 1) cap5)))))
 clear H5 H6 HU K5 K6 KU KD CS CC NWU B5 B6 BU c5 fz5 fl5
 clear B1 B2 SW
 go_wp2_with fail
 go_end0
 rcases OR.out with ⟨e,hv,hM⟩ | ⟨e,e2,e3,e4⟩
 ·subst e
  obtain ⟨rfl,_,rfl⟩ : eo = some ⟨go,0,none⟩ ∧ (pp ++ [(ObG.mk pO qO dO kI vI uI sI ⟨sv,ss⟩)]).length = pp.length + 1 ∧ ec = co := by simpa using hv
  have hb : bg = true := by
   cases bg with
   | true => rfl
   | false => have := HBG.out rfl; simp [SyG.dat] at this
  subst hb
  have LL := lineDo (SyG.mk sg ⟨.slice (some ⟨go,0,none⟩) (pp ++ [(ObG.mk pO qO dO kI vI uI sI ⟨sv,ss⟩)]).length ec,pp ++ [(ObG.mk pO qO dO kI vI uI sI ⟨sv,ss⟩)]⟩ ⟨.slice xo ts.length xc,ts⟩).dat fs true HBG.out
  have LO : (lastOb (SyG.mk sg ⟨.slice (some ⟨go,0,none⟩) (pp ++ [(ObG.mk pO qO dO kI vI uI sI ⟨sv,ss⟩)]).length ec,pp ++ [(ObG.mk pO qO dO kI vI uI sI ⟨sv,ss⟩)]⟩ ⟨.slice xo ts.length xc,ts⟩).dat).trs.isEmpty = ss.isEmpty := by simp [SyG.dat,lastOb_snoc,ObG.dat]
  rw [LO] at LL
  rcases OR2.out with ⟨f1,f2,f3⟩ | ⟨f1,f2,f3,f4⟩
  ·subst f1 f2 f3
   subst hM
   refine RdR.of B7.out H7.out (by repeat' (first | exact List.Sublist.refl _ | refine List.sublist_append_of_sublist_right ?_ | refine List.Sublist.cons _ ?_)) (fun hx => ?_) (fun hx => ?_)
   ·rw [LL,if_pos]
    revert hx; simp [SyG.dat]
   ·refine ⟨SyG.mk sg ⟨.slice (some ⟨go,0,none⟩) (pp.length + 1) ec,pp ++ [(ObG.mk pO qO dO kI vI uI sI ⟨.slice (some ⟨gs,0,none⟩) (qq.length + 1) cs,qq ++ [(TrG.mk fr0 sg0 gd0 tg0 ⟨(.slice (some ⟨gg,0,none⟩) (zs.length + 1) cap5),zs ++ [⟨xk,xa,xb,⟨.slice ca cn cc,its⟩⟩]⟩)]⟩)]⟩ ⟨.slice xo ts.length xc,ts⟩,?_,?_⟩
    ·rw [LL,if_neg]
     ·simp only [SyG.dat,List.map_append,List.map_cons,List.map_nil,oneOb_snoc]
      rw [← HXS.out]
      simp [ObG.dat,StG.dat,TrG.dat,SmsG.dat,SmG.dat,turnL_snoc]
     ·rw [Bool.not_eq_true]
      revert hx; simp [SyG.dat]
    ·refine perm_count fun f g hf => ?_; simp only [hf.c,hf.a,hf.z,rdB,SyG.rows,ObsG.rows,ObsG.row,ObG.rows,InG.row,StsG.rows,TrsG.rows,StsG.row,TrsG.row,TmG.row,StG.rows,TrG.rows,SmG.rows,CdG.row,SmsG.rows,SmsG.row,itC_append,itC,List.map_append,List.map_cons,List.map_nil,List.flatMap_append,List.flatMap_cons,List.flatMap_nil,List.append_nil,List.nil_append,List.length_append,List.length_cons,List.length_nil,Nat.zero_add,List.cons_append,List.append_assoc,ObG.cells,StG.cells,TrG.cells,SmG.cells]; try omega
  ·subst f4
   subst hM
   refine RdR.of B7.out H7.out (by repeat' (first | exact List.Sublist.refl _ | refine List.sublist_append_of_sublist_right ?_ | refine List.Sublist.cons _ ?_)) (fun _ => ?_) (fun hx => absurd hx (by simp [f1]))
   rw [LL,if_pos (by simp [f1])]
 ·subst e
  subst e4
  rcases OR2.out with ⟨f1,f2,f3⟩ | ⟨f1,f2,f3,f4⟩
  ·subst f3
   refine RdR.of B7.out H7.out (by repeat' (first | exact List.Sublist.refl _ | refine List.sublist_append_of_sublist_right ?_ | refine List.Sublist.cons _ ?_)) (fun _ => line_nil (by decide) (by decide) (by decide) (by simp [SyG.dat])) (fun hx => absurd hx (by simp))
  ·subst f4
   refine RdR.of B7.out H7.out (by repeat' (first | exact List.Sublist.refl _ | refine List.sublist_append_of_sublist_right ?_ | refine List.Sublist.cons _ ?_)) (fun _ => line_nil (by decide) (by decide) (by decide) (by simp [SyG.dat])) (fun hx => absurd hx (by simp))
end Go.Proofs.YtkdgkomnbjepdaaGreatDoor
namespace Go.Proofs.YtkdgkomnbjepdaaGreatDoor
open Go.RowKit Go.Sort
set_option linter.unusedVariables false
set_option linter.unusedSimpArgs false
attribute [local go_sem ↓] Go.wp_at_zero Go.wp_at_succ
set_option maxRecDepth 100000 in
set_option maxHeartbeats 6400000 in
theorem readObject_any {w : World} {B F Q : Nat} {G : SyG} {bg : Bool} {X : List Rw} {fs : List (List UInt8)} (h : St w B F fs false (rdB Q G bg :: (G.rows ++ X))) (hz : SmD G.dat 1048575) (hbg : bg = false → G.dat.obs = []) : Calls Tryz.prog 51 #[.pointer (some ⟨Q,0,none⟩),.pointer (some ⟨F,0,none⟩)] w fun e w' => RdR B F Q G bg X kObj fs w e w' := by
 obtain ⟨eo,ec,xo,xc,hev,hxv⟩ := SyG.form h.flat.tail
 obtain ⟨sg,⟨ov,os⟩,⟨tv,ts⟩⟩ := G
 simp only at hev hxv
 subst hev hxv
 have OL : os.length ≤ 1048575 := by have := hz.o; simpa [SyG.dat] using this
 have TL : ts.length ≤ 1048575 := by have := hz.t; simpa [SyG.dat] using this
 have HZ := hid hz
 have HBG := hid hbg
 obtain ⟨⟨q0,q1,q2,q3⟩,y0,y1,y2,y3,yl⟩ := four_cb (box_blk h.head)
 simp only at q0 q1 q2 q3
 obtain ⟨i0,hi,hz0,hz1,hz2⟩ := info_parts infoObL
 obtain ⟨te,pe,hp⟩ := h.errP
 have pl := Lib.lt_of_cell hp
 have NE := hid (h.drew.need bg te pe)
 have BD0 := hid (h.bnew (Below.refl w.heap.size w).drew)
 have HH := hid h
 clear h hz hbg
 go_enter Tryz.func51,Tryz.ntmps51
 go_upto_region 0 with fail
 go_region_with (go_at_call 84; with_reducible refine NE.out.mono ?_; rintro e w1 ⟨rfl,h1,b1⟩; have H1 := hid h1; have B1 := hid b1; clear h1 b1)
 all_goals
  clear NE q0 q1 q2 q3 y0 y1 y2 y3 yl hp pl
  rw [Bool.false_or] at H1
  have HA := H1.out.box 66 [.int .i64 0,.int .i64 0,.int .i64 0,nilV,nilV,nilV,nilV,nilV] (by decide) (by decide)
  have HB0 := HA.new (below1 (w1.alloc (.cells #[.int .i64 0,.int .i64 0,.int .i64 0,nilV,nilV,nilV,nilV,nilV] 66)) (.cells #[.pointer (some ⟨w1.heap.size,0,none⟩),.pointer (some ⟨w1.heap.size,1,none⟩),.pointer (some ⟨w1.heap.size,2,none⟩)] 172))
  have BN := hid ((H1.out.bnew (below1 w1 (.cells #[.int .i64 0,.int .i64 0,.int .i64 0,nilV,nilV,nilV,nilV,nilV] 66))).trans (HA.bnew (below1 (w1.alloc (.cells #[.int .i64 0,.int .i64 0,.int .i64 0,nilV,nilV,nilV,nilV,nilV] 66)) (.cells #[.pointer (some ⟨w1.heap.size,0,none⟩),.pointer (some ⟨w1.heap.size,1,none⟩),.pointer (some ⟨w1.heap.size,2,none⟩)] 172))))
  have PB : ((w1.alloc (.cells #[.int .i64 0,.int .i64 0,.int .i64 0,nilV,nilV,nilV,nilV,nilV] 66)).alloc (.cells #[.pointer (some ⟨w1.heap.size,0,none⟩),.pointer (some ⟨w1.heap.size,1,none⟩),.pointer (some ⟨w1.heap.size,2,none⟩)] 172)).heap[w1.heap.size + 1]? = some (.cells #[.pointer (some ⟨w1.heap.size,0,none⟩),.pointer (some ⟨w1.heap.size,1,none⟩),.pointer (some ⟨w1.heap.size,2,none⟩)] 172 (0,0)) := by
   simpa using heap_alloc_new (w1.alloc (.cells #[.int .i64 0,.int .i64 0,.int .i64 0,nilV,nilV,nilV,nilV,nilV] 66)) (.cells #[.pointer (some ⟨w1.heap.size,0,none⟩),.pointer (some ⟨w1.heap.size,1,none⟩),.pointer (some ⟨w1.heap.size,2,none⟩)] 172)
  have CN := HB0.numbers (P := w1.heap.size + 1) [0,1,2] 3 (by decide) (by
   intro j hj
   have : j = 0 ∨ j = 1 ∨ j = 2 := by simp at hj; omega
   rcases this with rfl | rfl | rfl <;> simp) ⟨_,_,PB,by decide,by decide,by
   intro j hj
   have : j = 0 ∨ j = 1 ∨ j = 2 := by simp at hj; omega
   rcases this with rfl | rfl | rfl <;> rfl⟩
  obtain ⟨W0,hW0⟩ : ∃ W,W = (w1.alloc (.cells #[.int .i64 0,.int .i64 0,.int .i64 0,nilV,nilV,nilV,nilV,nilV] 66)).alloc (.cells #[.pointer (some ⟨w1.heap.size,0,none⟩),.pointer (some ⟨w1.heap.size,1,none⟩),.pointer (some ⟨w1.heap.size,2,none⟩)] 172) := ⟨_,rfl⟩
  rw [← hW0] at CN BN
  have PA : (putAll (#[.int .i64 0,.int .i64 0,.int .i64 0,nilV,nilV,nilV,nilV,nilV] : Array Value) [0,1,2] fs).toList = [.int .i64 (rdN fs),.int .i64 (rdN fs.tail),.int .i64 (rdN fs.tail.tail),nilV,nilV,nilV,nilV,nilV] := by simp [putAll]
  have CN2 : Hid (Calls Tryz.prog 86 #[.pointer (some ⟨F,0,none⟩),.slice (some ⟨w1.heap.size + 1,0,none⟩) 3 3] W0 fun e w' => e = .returned (.tuple #[]) ∧ St w' B F (restAll [0,1,2] fs) (badAll (!bg) [0,1,2] fs) (boxR 66 w1.heap.size [.int .i64 (rdN fs),.int .i64 (rdN fs.tail),.int .i64 (rdN fs.tail.tail),nilV,nilV,nilV,nilV,nilV] :: rdB Q (SyG.mk sg ⟨.slice eo os.length ec,os⟩ ⟨.slice xo ts.length xc,ts⟩) bg :: ((SyG.mk sg ⟨.slice eo os.length ec,os⟩ ⟨.slice xo ts.length xc,ts⟩).rows ++ X)) ∧ Bm B W0 w') := hid (by
   refine CN.mono ?_
   rintro e w' ⟨k1,k2,k3⟩
   rw [PA] at k2
   exact ⟨k1,k2,k3⟩)
  have HW0 := hid hW0
  clear hW0 PB HA HB0 CN PA
  go_upto_region 3 with fail
  rw [← HW0.out]
  with_reducible refine CN2.out.mono ?_
  rintro e w2 ⟨rfl,h4,b4⟩
  have SN := hid h4
  have B4 := hid b4
  clear h4 b4 HW0 CN2
  have B3 := hid (((BD0.out.trans B1.out).trans BN.out).trans B4.out)
  clear H1 B1 BN B4 BD0 HH
  obtain ⟨rst,hrst⟩ : ∃ x,x = restAll [0,1,2] fs := ⟨_,rfl⟩
  obtain ⟨bd,hbd⟩ : ∃ x,x = badAll (!bg) [0,1,2] fs := ⟨_,rfl⟩
  obtain ⟨z0,hz0⟩ : ∃ x,x = rdN fs := ⟨_,rfl⟩
  obtain ⟨z1,hz1⟩ : ∃ x,x = rdN fs.tail := ⟨_,rfl⟩
  obtain ⟨z2,hz2⟩ : ∃ x,x = rdN fs.tail.tail := ⟨_,rfl⟩
  obtain ⟨I5,hI5⟩ : ∃ x,x = w1.heap.size := ⟨_,rfl⟩
  rw [← hrst,← hbd,← hz0,← hz1,← hz2,← hI5] at SN
  rw [← hI5]
  have HRST := hid hrst
  have HBD := hid hbd
  have HZ0 := hid hz0
  have HZ1 := hid hz1
  have HZ2 := hid hz2
  clear hrst hbd hz0 hz1 hz2 hI5
  have SW : Hid (St w2 B F rst bd ((ObsG.mk (.slice eo os.length ec) os).row :: rdB Q (SyG.mk sg ⟨.slice eo os.length ec,os⟩ ⟨.slice xo ts.length xc,ts⟩) bg :: (boxR 66 I5 [.int .i64 z0,.int .i64 z1,.int .i64 z2,nilV,nilV,nilV,nilV,nilV] :: (TmG.mk (.slice xo ts.length xc) ts).row :: (os.flatMap ObG.rows ++ X)))) := hid (SN.out.perm (by refine perm_count fun f g hf => ?_; simp only [hf.c,hf.a,hf.z,rdB,SyG.rows,ObsG.rows,ObsG.row,ObG.rows,InG.row,StsG.rows,TrsG.rows,StsG.row,TrsG.row,TmG.row,StG.rows,TrG.rows,SmG.rows,CdG.row,SmsG.rows,SmsG.row,itC_append,itC,List.map_append,List.map_cons,List.map_nil,List.flatMap_append,List.flatMap_cons,List.flatMap_nil,List.append_nil,List.nil_append,List.length_append,List.length_cons,List.length_nil,Nat.zero_add,List.cons_append,List.append_assoc,ObG.cells,StG.cells,TrG.cells,SmG.cells]; try omega))
  clear SN
  go_upto_region 3 with fail
  have CS : Hid (∀ (X : World) (fs0 : List (List UInt8)) (bd0 : Bool) (T : List Rw),St X B F fs0 bd0 (rdB Q (SyG.mk sg ⟨.slice eo os.length ec,os⟩ ⟨.slice xo ts.length xc,ts⟩) bg :: boxR 66 I5 [.int .i64 z0,.int .i64 z1,.int .i64 z2,nilV,nilV,nilV,nilV,nilV] :: T) → X.cell? ⟨Q,1,none⟩ = some (.slice eo os.length ec) ∧ X.cell? ⟨I5,0,none⟩ = some (.int .i64 z0) ∧ X.cell? ⟨I5,1,none⟩ = some (.int .i64 z1) ∧ X.cell? ⟨I5,2,none⟩ = some (.int .i64 z2) ∧ X.cell? ⟨I5,3,none⟩ = some (nilV) ∧ X.cell? ⟨I5,4,none⟩ = some (nilV) ∧ X.cell? ⟨I5,5,none⟩ = some (nilV) ∧ X.cell? ⟨I5,6,none⟩ = some (nilV) ∧ X.cell? ⟨I5,7,none⟩ = some (nilV)) := hid (fun X _ _ _ hX => ⟨(four_cb (box_blk hX.head)).1.2.1,eight_cc (box_blk hX.tail.head)⟩)
  have KD : Hid (w2.drew.cell? ⟨Q,1,none⟩ = some (.slice eo os.length ec) ∧ w2.drew.cell? ⟨I5,0,none⟩ = some (.int .i64 z0) ∧ w2.drew.cell? ⟨I5,1,none⟩ = some (.int .i64 z1) ∧ w2.drew.cell? ⟨I5,2,none⟩ = some (.int .i64 z2) ∧ w2.drew.cell? ⟨I5,3,none⟩ = some (nilV) ∧ w2.drew.cell? ⟨I5,4,none⟩ = some (nilV) ∧ w2.drew.cell? ⟨I5,5,none⟩ = some (nilV) ∧ w2.drew.cell? ⟨I5,6,none⟩ = some (nilV) ∧ w2.drew.cell? ⟨I5,7,none⟩ = some (nilV)) := hid (CS.out _ _ _ _ SW.out.tail.drew)
  have H6 := SW
  have K6 : Hid (w2.cell? ⟨Q,1,none⟩ = some (.slice eo os.length ec) ∧ w2.cell? ⟨I5,0,none⟩ = some (.int .i64 z0) ∧ w2.cell? ⟨I5,1,none⟩ = some (.int .i64 z1) ∧ w2.cell? ⟨I5,2,none⟩ = some (.int .i64 z2) ∧ w2.cell? ⟨I5,3,none⟩ = some (nilV) ∧ w2.cell? ⟨I5,4,none⟩ = some (nilV) ∧ w2.cell? ⟨I5,5,none⟩ = some (nilV) ∧ w2.cell? ⟨I5,6,none⟩ = some (nilV) ∧ w2.cell? ⟨I5,7,none⟩ = some (nilV)) := hid (CS.out _ _ _ _ SW.out.tail)
  refine wp_region_noPanic ?_
  refine wp_region_till (st := 12) (S := fun u => u.cell? ⟨Q,1,none⟩ = some (.slice eo os.length ec) ∧ u.cell? ⟨I5,0,none⟩ = some (.int .i64 z0) ∧ u.cell? ⟨I5,1,none⟩ = some (.int .i64 z1) ∧ u.cell? ⟨I5,2,none⟩ = some (.int .i64 z2) ∧ u.cell? ⟨I5,3,none⟩ = some (nilV) ∧ u.cell? ⟨I5,4,none⟩ = some (nilV) ∧ u.cell? ⟨I5,5,none⟩ = some (nilV) ∧ u.cell? ⟨I5,6,none⟩ = some (nilV) ∧ u.cell? ⟨I5,7,none⟩ = some (nilV)) (by kernel_rfl) ?_
  refine wpTill_take (i := 0) (d := some 18) (v := ?_) rfl rfl (by kernel_rfl) (by kernel_rfl) (by kernel_rfl) (by kernel_rfl) (by kernel_rfl) (fun _ _ _ h => h) (Or.inl ⟨by rfl,?_⟩) KD.out ?_
  case refine_2 => (intro u hu; obtain ⟨s0,s1,s2,s3,s4,s5,s6,s7,s8⟩ := hu; go_simp; first | done | with_reducible rfl)
  simp only [Act.put,List.setIfInBounds_toArray,List.set_cons_zero,List.set_cons_succ]
  refine wpTill_take (i := 1) (d := some 19) (v := ?_) rfl rfl (by kernel_rfl) (by kernel_rfl) (by kernel_rfl) (by kernel_rfl) (by kernel_rfl) (fun _ _ _ h => h) (Or.inl ⟨by rfl,?_⟩) KD.out ?_
  case refine_2 => (intro u hu; obtain ⟨s0,s1,s2,s3,s4,s5,s6,s7,s8⟩ := hu; go_simp; first | done | with_reducible rfl)
  simp only [Act.put,List.setIfInBounds_toArray,List.set_cons_zero,List.set_cons_succ]
  refine wpTill_take (i := 2) (d := some 20) (v := ?_) rfl rfl (by kernel_rfl) (by kernel_rfl) (by kernel_rfl) (by kernel_rfl) (by kernel_rfl) (fun _ _ _ h => h) (Or.inl ⟨by rfl,?_⟩) KD.out ?_
  case refine_2 => (intro u hu; obtain ⟨s0,s1,s2,s3,s4,s5,s6,s7,s8⟩ := hu; go_simp; first | done | with_reducible rfl)
  simp only [Act.put,List.setIfInBounds_toArray,List.set_cons_zero,List.set_cons_succ]
  refine wpTill_take (i := 3) (d := some 21) (v := ?_) rfl rfl (by kernel_rfl) (by kernel_rfl) (by kernel_rfl) (by kernel_rfl) (by kernel_rfl) (fun _ _ _ h => h) (Or.inl ⟨by rfl,?_⟩) KD.out ?_
  case refine_2 => (intro u hu; obtain ⟨s0,s1,s2,s3,s4,s5,s6,s7,s8⟩ := hu; go_simp; first | done | with_reducible rfl)
  simp only [Act.put,List.setIfInBounds_toArray,List.set_cons_zero,List.set_cons_succ]
  refine wpTill_take (i := 4) (d := some 22) (v := ?_) rfl rfl (by kernel_rfl) (by kernel_rfl) (by kernel_rfl) (by kernel_rfl) (by kernel_rfl) (fun _ _ _ h => h) (Or.inl ⟨by rfl,?_⟩) KD.out ?_
  case refine_2 => (intro u hu; obtain ⟨s0,s1,s2,s3,s4,s5,s6,s7,s8⟩ := hu; go_simp; first | done | with_reducible rfl)
  simp only [Act.put,List.setIfInBounds_toArray,List.set_cons_zero,List.set_cons_succ]
  refine wpTill_take (i := 5) (d := some 23) (v := ?_) rfl rfl (by kernel_rfl) (by kernel_rfl) (by kernel_rfl) (by kernel_rfl) (by kernel_rfl) (fun _ _ _ h => h) (Or.inl ⟨by rfl,?_⟩) KD.out ?_
  case refine_2 => (intro u hu; obtain ⟨s0,s1,s2,s3,s4,s5,s6,s7,s8⟩ := hu; go_simp; first | done | with_reducible rfl)
  simp only [Act.put,List.setIfInBounds_toArray,List.set_cons_zero,List.set_cons_succ]
  refine wpTill_take (i := 6) (d := some 24) (v := ?_) rfl rfl (by kernel_rfl) (by kernel_rfl) (by kernel_rfl) (by kernel_rfl) (by kernel_rfl) (fun _ _ _ h => h) (Or.inl ⟨by rfl,?_⟩) KD.out ?_
  case refine_2 => (intro u hu; obtain ⟨s0,s1,s2,s3,s4,s5,s6,s7,s8⟩ := hu; go_simp; first | done | with_reducible rfl)
  simp only [Act.put,List.setIfInBounds_toArray,List.set_cons_zero,List.set_cons_succ]
  obtain ⟨U,hU⟩ : ∃ U,U = (w2.alloc (.cells #[.int .i64 z0,.int .i64 z1,.int .i64 z2,nilV,nilV,nilV,nilV,nilV] 66)).drew := ⟨_,rfl⟩
  have BU : Hid (Below w2.heap.size w2 U) := hid (by rw [hU]; exact (below1 _ _).drew)
  have HU := hid (H6.out.new BU.out)
  have KU := hid (CS.out U _ _ _ HU.out.tail)
  have NWU : Hid (∀ j u,[.int .i64 z0,.int .i64 z1,.int .i64 z2,nilV,nilV,nilV,nilV,nilV][j]? = some u → U.cell? ((⟨w2.heap.size,0,none⟩ : Addr).add j) = some u) := hid (World.news_of_block (cs := #[.int .i64 z0,.int .i64 z1,.int .i64 z2,nilV,nilV,nilV,nilV,nilV]) (by rw [hU]; exact heap_alloc_new w2 _))
  refine wpTill_step (i := 7) (by kernel_rfl) rfl (fun K hK => ?_)
  go_simp
  rw [← hU]
  refine hK _ _ KU.out ?_
  clear hU hK K
  refine wpTill_step (i := 8) (by kernel_rfl) rfl (fun K hK => ?_)
  refine step_append_lies _ (by rfl) _ _ _ (by rfl) B 66 i0 _ 8 144 Tryz.underlying23 hi hz0 hz1 hz2 rfl (by omega) (.slice eo os.length ec) os.length (os.flatMap ObG.cells) (by simp [Act.eval]) HU.out.head ⟨w2.heap.size,0,none⟩ 1 1 [.int .i64 z0,.int .i64 z1,.int .i64 z2,nilV,nilV,nilV,nilV,nilV] (by simp [Act.eval]) (by simp) NWU.out (by intro u hu; simp at hu; rcases hu with rfl | rfl | rfl | rfl <;> rfl) (by omega) (by unfold maxLen; omega) (by omega) HU.out.hi U.heap.size rfl ?_
  intro gg cap5 w5 hown hgrow hat hlt5
  have H5 := hid (HU.out.app hgrow hown hat)
  have B5 := hid (HU.out.bapp hgrow)
  have K5 := hid (CS.out w5 _ _ _ H5.out.tail)
  clear hown hgrow hat
  refine hK _ _ K5.out ?_
  clear hK K
  refine wpTill_step (i := 9) (by kernel_rfl) rfl (fun K hK => ?_)
  go_simp
  refine hK _ _ K5.out ?_
  clear hK K
  refine wpTill_step (i := 10) (by kernel_rfl) rfl (fun K hK => ?_)
  go_simp
  refine hK _ _ K5.out ?_
  clear hK K
  refine wpTill_step (i := 11) (by kernel_rfl) rfl (fun K hK => ?_)
  go_simp
  refine hK _ _ K5.out ?_
  clear hK K
  obtain ⟨c5,c6,c7,c8,c9,s5,s6,s7,s8⟩ := K5.out
  obtain ⟨⟨m0,m1,m2,m3⟩,fz0,fz1,fz2,fz3,fl5⟩ := four_cb (box_blk H5.out.tail.head)
  refine wpTill_last (by kernel_rfl) rfl (by kernel_rfl) (fun K hK => ?_)
  go_simp
  refine hK _ _ ?_
  clear hK K
  refine wpTill_done (by kernel_rfl) ?_ _
  refine NoPanic.normal ?_
  have H7 := hid ((H5.out.perm (.swap _ _ _)).setBox 1 (.slice (some ⟨gg,0,none⟩) (os.length + 1) cap5))
  have B7 := hid ((B3.out.trans (SW.out.bnew BU.out)).trans (B5.out.trans ((H5.out.perm (.swap _ _ _)).bsetBox 1 (.slice (some ⟨gg,0,none⟩) (os.length + 1) cap5))))
  have H8 : Hid (St (w5.setCell ⟨Q,1,none⟩ (.slice (some ⟨gg,0,none⟩) (os.length + 1) cap5)) B F rst bd (rdB Q (SyG.mk sg ⟨(.slice (some ⟨gg,0,none⟩) (os.length + 1) cap5),os ++ [⟨z0,z1,z2,⟨nilV,[]⟩,⟨nilV,[]⟩,⟨nilV,[]⟩,⟨nilV,[]⟩,⟨nilV,[]⟩⟩]⟩ ⟨.slice xo ts.length xc,ts⟩) bg :: (⟨66,8,(.slice (some ⟨gg,0,none⟩) (os.length + 1) cap5),os.length + 1,(os.flatMap ObG.cells) ++ [.int .i64 z0,.int .i64 z1,.int .i64 z2,nilV,nilV,nilV,nilV,nilV]⟩ : Rw) :: (TmG.mk (.slice xo ts.length xc) ts).row :: (os.flatMap ObG.rows ++ X))) := hid (St.tail (r := boxR 66 I5 [.int .i64 z0,.int .i64 z1,.int .i64 z2,nilV,nilV,nilV,nilV,nilV]) (St.rot2 H7.out))
  clear H5 H6 HU K5 K6 KU KD CS NWU B5 BU c5 c6 c7 c8 c9 s5 s6 s7 s8 m0 m1 m2 m3 fz0 fz1 fz2 fz3 fl5 B3 SW H7
  go_wp2_with fail
  go_end0
  have LL := lineObj (SyG.mk sg ⟨.slice eo os.length ec,os⟩ ⟨.slice xo ts.length xc,ts⟩).dat fs bg
  rw [← HBD.out,← HRST.out] at LL
  have H9 := hid (H8.out.nils (M := [(InG.mk nilV []).row,(InG.mk nilV []).row,(InG.mk nilV []).row,(StsG.mk nilV []).row,(TrsG.mk nilV []).row]) (by intro r hr; simp only [List.mem_cons,List.not_mem_nil,or_false] at hr; rcases hr with rfl | rfl | rfl | rfl | rfl <;> exact ⟨rfl,rfl,rfl,by decide,by decide⟩))
  refine RdR.of B7.out H9.out (by repeat' (first | exact List.Sublist.refl _ | refine List.sublist_append_of_sublist_right ?_ | refine List.Sublist.cons _ ?_)) (fun hx => by rw [LL,if_pos hx]) (fun hx => ?_)
  have hbt : bg = true := by
   cases bg with
   | true => rfl
   | false => rw [HBD.out] at hx; simp [badAll] at hx
  subst hbt
  refine ⟨(SyG.mk sg ⟨(.slice (some ⟨gg,0,none⟩) (os.length + 1) cap5),os ++ [⟨z0,z1,z2,⟨nilV,[]⟩,⟨nilV,[]⟩,⟨nilV,[]⟩,⟨nilV,[]⟩,⟨nilV,[]⟩⟩]⟩ ⟨.slice xo ts.length xc,ts⟩),?_,(by refine perm_count fun f g hf => ?_; simp only [hf.c,hf.a,hf.z,rdB,SyG.rows,ObsG.rows,ObsG.row,ObG.rows,InG.row,StsG.rows,TrsG.rows,StsG.row,TrsG.row,TmG.row,StG.rows,TrG.rows,SmG.rows,CdG.row,SmsG.rows,SmsG.row,itC_append,itC,List.map_append,List.map_cons,List.map_nil,List.flatMap_append,List.flatMap_cons,List.flatMap_nil,List.append_nil,List.nil_append,List.length_append,List.length_cons,List.length_nil,Nat.zero_add,List.cons_append,List.append_assoc,ObG.cells,StG.cells,TrG.cells,SmG.cells]; try omega)⟩
  rw [LL,if_neg (by rw [hx]; decide)]
  simp [SyG.dat,ObG.dat,HZ0.out,HZ1.out,HZ2.out]
end Go.Proofs.YtkdgkomnbjepdaaGreatDoor

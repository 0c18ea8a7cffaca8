import Derived.Test.YtkdgkomnbjepdaaGreatDoorDd
import Derived.Test.YtkdgkomnbjepdaaGreatDoorZ0
namespace Go.Proofs.YtkdgkomnbjepdaaGreatDoor
open Go.RowKit Go.Sort
set_option linter.unusedVariables false
set_option linter.unusedSimpArgs false
attribute [local go_sem ↓] Go.wp_at_zero Go.wp_at_succ
set_option maxRecDepth 100000 in
set_option maxHeartbeats 6400000 in
theorem readEntry_any {w : World} {B F Q : Nat} {G : SyG} {bg : Bool} {X : List Rw} {fs : List (List UInt8)} (h : St w B F fs false (rdB Q G bg :: (G.rows ++ X))) (hz : SmD G.dat 1048575) (hbg : bg = false → G.dat.obs = []) : Calls Tryz.prog 55 #[.pointer (some ⟨Q,0,none⟩),.pointer (some ⟨F,0,none⟩)] w fun e w' => RdR B F Q G bg X kEnt fs w e w' := by
 obtain ⟨eo,ec,xo,xc,hev,hxv⟩ := SyG.form h.flat.tail
 obtain ⟨sg,⟨ov,os⟩,⟨tv,ts⟩⟩ := G
 simp only at hev hxv
 subst hev hxv
 have OL : os.length ≤ 1048575 := by have := hz.o; simpa [SyG.dat] using this
 have TL : ts.length ≤ 1048575 := by have := hz.t; simpa [SyG.dat] using this
 have HZ := hid hz
 have HBG := hid hbg
 obtain ⟨⟨q0,q1,q2,q3⟩,y0,y1,y2,y3,yl⟩ := four_cb (box_blk h.head)
 simp only at q0 q1 q2 q3
 obtain ⟨i0,hi,hz0,hz1,hz2⟩ := info_parts infoSmL
 have C := hid ((h.perm (L' := (ObsG.mk (.slice eo os.length ec) os).rows ++ (rdB Q (SyG.mk sg ⟨.slice eo os.length ec,os⟩ ⟨.slice xo ts.length xc,ts⟩) bg :: (TmG.mk (.slice xo ts.length xc) ts).row :: X)) (by refine perm_count fun f g hf => ?_; simp only [hf.c,hf.a,hf.z,rdB,SyG.rows,ObsG.rows,ObsG.row,ObG.rows,InG.row,StsG.rows,TrsG.rows,StsG.row,TrsG.row,TmG.row,StG.rows,TrG.rows,SmG.rows,CdG.row,SmsG.rows,SmsG.row,itC_append,itC,List.map_append,List.map_cons,List.map_nil,List.flatMap_append,List.flatMap_cons,List.flatMap_nil,List.append_nil,List.nil_append,List.length_append,List.length_cons,List.length_nil,Nat.zero_add,List.cons_append,List.append_assoc,ObG.cells,StG.cells,TrG.cells,SmG.cells]; try omega)).latO (by omega))
 clear h
 obtain ⟨x,hx0⟩ : ∃ x,x = rdS fs := ⟨_,rfl⟩
 obtain ⟨xk,xa,xb,its⟩ := x
 have HXS := hid hx0
 clear hx0
 have CL : Hid (Calls Tryz.prog 87 #[.pointer (some ⟨F,0,none⟩),.slice eo os.length ec] w fun e w' => LatO w B F fs false (.slice eo os.length ec) os (rdB Q (SyG.mk sg ⟨.slice eo os.length ec,os⟩ ⟨.slice xo ts.length xc,ts⟩) bg :: (TmG.mk (.slice xo ts.length xc) ts).row :: X) e w') := C
 go_enter Tryz.func55,Tryz.ntmps55
 go_upto_region 1 with (first
  | (go_at_call 87; with_reducible refine CL.out.mono ?_; rintro e w1 ⟨go,co,pp,o,M,rfl,h1,b1,hpp,hor⟩; have B1 := hid b1; have OR := hid hor; have SO := hid (so_of HZ.out hor); obtain ⟨c6,gl⟩ := h1.ob6; have C2 := hid (h1.lastS SO.out); clear h1 b1 hor)
  | (go_at_call 89; with_reducible refine C2.out.mono ?_; rintro e w2 ⟨gs,cs,qq,el,M2,rfl,h2,b2,hqq,hor2⟩; have H2 := hid h2; have B2 := hid b2; have OR2 := hid hor2; have SE := hid (se_of SO.out hor2); clear h2 b2 hor2))
 obtain ⟨par0,ini0,⟨nv,es⟩,⟨xv,xs⟩⟩ := el
 obtain ⟨na,nc,hnv,_,_,_⟩ := row_read SmG.cells 4 (fun _ => rfl) (H2.out.own (r := (SmsG.mk nv es).row) (by simp [StG.rows,SmsG.rows]))
 obtain ⟨xa0,xc0,hxv,_,_,_⟩ := row_read SmG.cells 4 (fun _ => rfl) (H2.out.own (r := (SmsG.mk xv xs).row) (by simp [StG.rows,SmsG.rows]))
 simp only [SmsG.row] at hnv hxv
 subst hnv hxv
 have EL : es.length ≤ 1048575 := SE.out.1
 have XL : xs.length ≤ 1048575 := SE.out.2
 obtain ⟨pO,qO,dO,kI,vI,uI,⟨sv,ss⟩,tI⟩ := o
 simp only at OR2 H2
 have SW : Hid (St w2 B F fs ((false || os.isEmpty) || ss.isEmpty) ((SmsG.mk (.slice na es.length nc) es).row :: (StsG.mk (.slice (some ⟨gs,0,none⟩) (qq.length + 1) cs) (qq ++ [(StG.mk par0 ini0 ⟨.slice na es.length nc,es⟩ ⟨.slice xa0 xs.length xc0,xs⟩)])).row :: (es.flatMap SmG.rows ++ ((SmsG.mk (.slice xa0 xs.length xc0) xs).rows ++ M2)))) := hid (H2.out.perm (by refine perm_count fun f g hf => ?_; simp only [hf.c,hf.a,hf.z,rdB,SyG.rows,ObsG.rows,ObsG.row,ObG.rows,InG.row,StsG.rows,TrsG.rows,StsG.row,TrsG.row,TmG.row,StG.rows,TrG.rows,SmG.rows,CdG.row,SmsG.rows,SmsG.row,itC_append,itC,List.map_append,List.map_cons,List.map_nil,List.flatMap_append,List.flatMap_cons,List.flatMap_nil,List.append_nil,List.nil_append,List.length_append,List.length_cons,List.length_nil,Nat.zero_add,List.cons_append,List.append_assoc,ObG.cells,StG.cells,TrG.cells,SmG.cells]; try omega))
 clear H2 C C2 CL c6 gl q0 q1 q2 q3 y0 y1 y2 y3 yl
 have CS : Hid (∀ (X : World) (fs0 : List (List UInt8)) (bd0 : Bool) (T : List Rw),St X B F fs0 bd0 ((StsG.mk (.slice (some ⟨gs,0,none⟩) (qq.length + 1) cs) (qq ++ [(StG.mk par0 ini0 ⟨.slice na es.length nc,es⟩ ⟨.slice xa0 xs.length xc0,xs⟩)])).row :: T) → X.cell? ⟨gs,qq.length * 4 + 2,none⟩ = some (.slice na es.length nc)) := hid (fun X _ _ _ hX => st_cell hX.head 2 (by omega))
 have KD : Hid (w2.drew.cell? ⟨gs,qq.length * 4 + 2,none⟩ = some (.slice na es.length nc)) := hid (CS.out _ _ _ _ SW.out.tail.drew)
 have CC := hid SW.out.drew.stm
 rw [← HXS.out] at CC; simp only at CC
 refine wp_region_noPanic ?_
 refine wp_region_till (st := 11) (S := fun u => u.cell? ⟨gs,qq.length * 4 + 2,none⟩ = some (.slice na es.length nc)) (by kernel_rfl) ?_
 refine wpTill_take (i := 0) (d := some 18) (v := ?_) rfl rfl (by kernel_rfl) (by kernel_rfl) (by kernel_rfl) (by kernel_rfl) (by kernel_rfl) (fun _ _ _ h => h) (Or.inl ⟨by rfl,?_⟩) KD.out ?_
 case refine_2 => (intro u hu; obtain s0 := hu; go_simp; first | done | with_reducible rfl)
 simp only [Act.put,List.setIfInBounds_toArray,List.set_cons_zero,List.set_cons_succ]
 refine wpTill_take (i := 1) (d := some 19) (v := ?_) rfl rfl (by kernel_rfl) (by kernel_rfl) (by kernel_rfl) (by kernel_rfl) (by kernel_rfl) (fun _ _ _ h => h) (Or.inl ⟨by rfl,?_⟩) KD.out ?_
 case refine_2 => (intro u hu; obtain s0 := hu; go_simp; first | done | with_reducible rfl)
 simp only [Act.put,List.setIfInBounds_toArray,List.set_cons_zero,List.set_cons_succ]
 refine wpTill_take (i := 2) (d := some 20) (v := ?_) rfl rfl (by kernel_rfl) (by kernel_rfl) (by kernel_rfl) (by kernel_rfl) (by kernel_rfl) (fun _ _ _ h => h) (Or.inl ⟨by rfl,?_⟩) KD.out ?_
 case refine_2 => (intro u hu; obtain s0 := hu; go_simp; first | done | with_reducible rfl)
 simp only [Act.put,List.setIfInBounds_toArray,List.set_cons_zero,List.set_cons_succ]
 refine wpTill_take (i := 3) (d := some 21) (v := ?_) rfl rfl (by kernel_rfl) (by kernel_rfl) (by kernel_rfl) (by kernel_rfl) (by kernel_rfl) (fun _ _ _ h => h) (Or.inl ⟨by rfl,?_⟩) KD.out ?_
 case refine_2 => (intro u hu; obtain s0 := hu; go_simp; first | done | with_reducible rfl)
 simp only [Act.put,List.setIfInBounds_toArray,List.set_cons_zero,List.set_cons_succ]
 refine wpTill_take (i := 4) (d := some 22) (v := ?_) rfl rfl (by kernel_rfl) (by kernel_rfl) (by kernel_rfl) (by kernel_rfl) (by kernel_rfl) (fun _ _ _ h => h) (Or.inl ⟨by rfl,?_⟩) KD.out ?_
 case refine_2 => (intro u hu; obtain s0 := hu; go_simp; first | done | with_reducible rfl)
 simp only [Act.put,List.setIfInBounds_toArray,List.set_cons_zero,List.set_cons_succ]
 refine wpTill_take (i := 5) (d := some 23) (v := ?_) rfl rfl (by kernel_rfl) (by kernel_rfl) (by kernel_rfl) (by kernel_rfl) (by kernel_rfl) (fun _ _ _ h => h) (Or.inl ⟨by rfl,?_⟩) KD.out ?_
 case refine_2 => (intro u hu; obtain s0 := hu; go_simp; first | done | with_reducible rfl)
 simp only [Act.put,List.setIfInBounds_toArray,List.set_cons_zero,List.set_cons_succ]
 refine wpTill_step (i := 6) (by kernel_rfl) rfl (fun K hK => ?_)
 go_simp
 go_wp2_with (go_at_call 90; with_reducible refine CC.out.mono ?_; rintro e w6 ⟨ca,cn,cc,rfl,h6,b6⟩; have H6 := hid h6.roll; have B6 := hid b6; clear h6 b6)
 have K6 := hid (CS.out w6 _ _ _ H6.out.tail)
 refine hK _ _ K6.out ?_
 clear hK K
 obtain ⟨U,hU⟩ : ∃ U,U = (w6.alloc (.cells #[.int .i64 xk,.int .i64 xa,.int .i64 xb,.slice ca cn cc] 105)) := ⟨_,rfl⟩
 have BU : Hid (Below w6.heap.size w6 U) := hid (by rw [hU]; exact (below1 _ _))
 have HU := hid (H6.out.new BU.out)
 have KU := hid (CS.out U _ _ _ HU.out.tail)
 have NWU : Hid (∀ j u,[.int .i64 xk,.int .i64 xa,.int .i64 xb,.slice ca cn cc][j]? = some u → U.cell? ((⟨w6.heap.size,0,none⟩ : Addr).add j) = some u) := hid (World.news_of_block (cs := #[.int .i64 xk,.int .i64 xa,.int .i64 xb,.slice ca cn cc]) (by rw [hU]; exact heap_alloc_new w6 _))
 refine wpTill_step (i := 7) (by kernel_rfl) rfl (fun K hK => ?_)
 go_simp
 rw [← hU]
 refine hK _ _ KU.out ?_
 clear hU hK K
 refine wpTill_step (i := 8) (by kernel_rfl) rfl (fun K hK => ?_)
 refine step_append_lies _ (by rfl) _ _ _ (by rfl) B 105 i0 _ 4 48 Tryz.underlying69 hi hz0 hz1 hz2 rfl (by omega) (.slice na es.length nc) es.length (es.flatMap SmG.cells) (by simp [Act.eval]) HU.out.head ⟨w6.heap.size,0,none⟩ 1 1 [.int .i64 xk,.int .i64 xa,.int .i64 xb,.slice ca cn cc] (by simp [Act.eval]) (by simp) NWU.out (by intro u hu; simp at hu; rcases hu with rfl | rfl | rfl | rfl <;> rfl) (by omega) (by unfold maxLen; omega) (by omega) HU.out.hi U.heap.size rfl ?_
 intro gg cap5 w5 hown hgrow hat hlt5
 have H5 := hid (HU.out.app hgrow hown hat)
 have B5 := hid (HU.out.bapp hgrow)
 have K5 := hid (CS.out w5 _ _ _ H5.out.tail)
 clear hown hgrow hat
 refine hK _ _ K5.out ?_
 clear hK K
 refine wpTill_step (i := 9) (by kernel_rfl) rfl (fun K hK => ?_)
 go_simp
 refine hK _ _ K5.out ?_
 clear hK K
 refine wpTill_step (i := 10) (by kernel_rfl) rfl (fun K hK => ?_)
 go_simp
 refine hK _ _ K5.out ?_
 clear hK K
 obtain c5 := K5.out
 obtain ⟨fz5,fl5⟩ := st_froz H5.out.tail.head (qq.length * 4 + 2)
 refine wpTill_last (by kernel_rfl) rfl (by kernel_rfl) (fun K hK => ?_)
 go_simp
 refine hK _ _ ?_
 clear hK K
 refine wpTill_done (by kernel_rfl) ?_ _
 refine NoPanic.normal ?_
 have H7 : Hid (St (w5.setCell ⟨gs,qq.length * 4 + 2,none⟩ (.slice (some ⟨gg,0,none⟩) (es.length + 1) cap5)) B F (rsS fs) (((false || os.isEmpty) || ss.isEmpty) || !okS fs) ((StsG.mk (.slice (some ⟨gs,0,none⟩) (qq.length + 1) cs) (qq ++ [(StG.mk par0 ini0 ⟨(.slice (some ⟨gg,0,none⟩) (es.length + 1) cap5),es ++ [⟨xk,xa,xb,⟨.slice ca cn cc,its⟩⟩]⟩ ⟨.slice xa0 xs.length xc0,xs⟩)])).row :: (⟨105,4,(.slice (some ⟨gg,0,none⟩) (es.length + 1) cap5),es.length + 1,es.flatMap SmG.cells ++ [.int .i64 xk,.int .i64 xa,.int .i64 xb,.slice ca cn cc]⟩ : Rw) :: (CdG.mk (.slice ca cn cc) its).row :: (es.flatMap SmG.rows ++ ((SmsG.mk (.slice xa0 xs.length xc0) xs).rows ++ M2)))) := hid ((H5.out.perm (.swap _ _ _)).stSet (o' := (StG.mk par0 ini0 ⟨(.slice (some ⟨gg,0,none⟩) (es.length + 1) cap5),es ++ [⟨xk,xa,xb,⟨.slice ca cn cc,its⟩⟩]⟩ ⟨.slice xa0 xs.length xc0,xs⟩)) 2 (.slice (some ⟨gg,0,none⟩) (es.length + 1) cap5) (by omega) rfl)
 have B7 := hid ((((B1.out.trans B2.out).trans (SW.out.bnew (Below.refl _ _).drew)).trans B6.out).trans ((H6.out.bnew BU.out).trans (B5.out.trans ((H5.out.perm (.swap _ _ _)).bstSet (qq.length * 4 + 2) (.slice (some ⟨gg,0,none⟩) (es.length + 1) cap5)))))
 clear H5 H6 HU K5 K6 KU KD CS CC NWU B5 B6 BU c5 fz5 fl5
 clear B1 B2 SW
 go_wp2_with fail
 go_end0
 rcases OR.out with ⟨e,hv,hM⟩ | ⟨e,e2,e3,e4⟩
 ·subst e
  obtain ⟨rfl,_,rfl⟩ : eo = some ⟨go,0,none⟩ ∧ (pp ++ [(ObG.mk pO qO dO kI vI uI ⟨sv,ss⟩ tI)]).length = pp.length + 1 ∧ ec = co := by simpa using hv
  have hb : bg = true := by
   cases bg with
   | true => rfl
   | false => have := HBG.out rfl; simp [SyG.dat] at this
  subst hb
  have LL := lineEnt (SyG.mk sg ⟨.slice (some ⟨go,0,none⟩) (pp ++ [(ObG.mk pO qO dO kI vI uI ⟨sv,ss⟩ tI)]).length ec,pp ++ [(ObG.mk pO qO dO kI vI uI ⟨sv,ss⟩ tI)]⟩ ⟨.slice xo ts.length xc,ts⟩).dat fs true HBG.out
  have LO : (lastOb (SyG.mk sg ⟨.slice (some ⟨go,0,none⟩) (pp ++ [(ObG.mk pO qO dO kI vI uI ⟨sv,ss⟩ tI)]).length ec,pp ++ [(ObG.mk pO qO dO kI vI uI ⟨sv,ss⟩ tI)]⟩ ⟨.slice xo ts.length xc,ts⟩).dat).sts.isEmpty = ss.isEmpty := by simp [SyG.dat,lastOb_snoc,ObG.dat]
  rw [LO] at LL
  rcases OR2.out with ⟨f1,f2,f3⟩ | ⟨f1,f2,f3,f4⟩
  ·subst f1 f2 f3
   subst hM
   refine RdR.of B7.out H7.out (by repeat' (first | exact List.Sublist.refl _ | refine List.sublist_append_of_sublist_right ?_ | refine List.Sublist.cons _ ?_)) (fun hx => ?_) (fun hx => ?_)
   ·rw [LL,if_pos]
    revert hx; simp [SyG.dat]
   ·refine ⟨SyG.mk sg ⟨.slice (some ⟨go,0,none⟩) (pp.length + 1) ec,pp ++ [(ObG.mk pO qO dO kI vI uI ⟨.slice (some ⟨gs,0,none⟩) (qq.length + 1) cs,qq ++ [(StG.mk par0 ini0 ⟨(.slice (some ⟨gg,0,none⟩) (es.length + 1) cap5),es ++ [⟨xk,xa,xb,⟨.slice ca cn cc,its⟩⟩]⟩ ⟨.slice xa0 xs.length xc0,xs⟩)]⟩ tI)]⟩ ⟨.slice xo ts.length xc,ts⟩,?_,?_⟩
    ·rw [LL,if_neg]
     ·simp only [SyG.dat,List.map_append,List.map_cons,List.map_nil,oneOb_snoc]
      rw [← HXS.out]
      simp [ObG.dat,StG.dat,TrG.dat,SmsG.dat,SmG.dat,turnL_snoc]
     ·rw [Bool.not_eq_true]
      revert hx; simp [SyG.dat]
    ·refine perm_count fun f g hf => ?_; simp only [hf.c,hf.a,hf.z,rdB,SyG.rows,ObsG.rows,ObsG.row,ObG.rows,InG.row,StsG.rows,TrsG.rows,StsG.row,TrsG.row,TmG.row,StG.rows,TrG.rows,SmG.rows,CdG.row,SmsG.rows,SmsG.row,itC_append,itC,List.map_append,List.map_cons,List.map_nil,List.flatMap_append,List.flatMap_cons,List.flatMap_nil,List.append_nil,List.nil_append,List.length_append,List.length_cons,List.length_nil,Nat.zero_add,List.cons_append,List.append_assoc,ObG.cells,StG.cells,TrG.cells,SmG.cells]; try omega
  ·subst f4
   subst hM
   refine RdR.of B7.out H7.out (by repeat' (first | exact List.Sublist.refl _ | refine List.sublist_append_of_sublist_right ?_ | refine List.Sublist.cons _ ?_)) (fun _ => ?_) (fun hx => absurd hx (by simp [f1]))
   rw [LL,if_pos (by simp [f1])]
 ·subst e
  subst e4
  rcases OR2.out with ⟨f1,f2,f3⟩ | ⟨f1,f2,f3,f4⟩
  ·subst f3
   refine RdR.of B7.out H7.out (by repeat' (first | exact List.Sublist.refl _ | refine List.sublist_append_of_sublist_right ?_ | refine List.Sublist.cons _ ?_)) (fun _ => line_nil (by decide) (by decide) (by decide) (by simp [SyG.dat])) (fun hx => absurd hx (by simp))
  ·subst f4
   refine RdR.of B7.out H7.out (by repeat' (first | exact List.Sublist.refl _ | refine List.sublist_append_of_sublist_right ?_ | refine List.Sublist.cons _ ?_)) (fun _ => line_nil (by decide) (by decide) (by decide) (by simp [SyG.dat])) (fun hx => absurd hx (by simp))
end Go.Proofs.YtkdgkomnbjepdaaGreatDoor
namespace Go.Proofs.YtkdgkomnbjepdaaGreatDoor
open Go.RowKit Go.Sort
set_option linter.unusedVariables false
set_option linter.unusedSimpArgs false
attribute [local go_sem ↓] Go.wp_at_zero Go.wp_at_succ
set_option maxRecDepth 100000 in
set_option maxHeartbeats 6400000 in
theorem readExit_any {w : World} {B F Q : Nat} {G : SyG} {bg : Bool} {X : List Rw} {fs : List (List UInt8)} (h : St w B F fs false (rdB Q G bg :: (G.rows ++ X))) (hz : SmD G.dat 1048575) (hbg : bg = false → G.dat.obs = []) : Calls Tryz.prog 56 #[.pointer (some ⟨Q,0,none⟩),.pointer (some ⟨F,0,none⟩)] w fun e w' => RdR B F Q G bg X kExi fs w e w' := by
 obtain ⟨eo,ec,xo,xc,hev,hxv⟩ := SyG.form h.flat.tail
 obtain ⟨sg,⟨ov,os⟩,⟨tv,ts⟩⟩ := G
 simp only at hev hxv
 subst hev hxv
 have OL : os.length ≤ 1048575 := by have := hz.o; simpa [SyG.dat] using this
 have TL : ts.length ≤ 1048575 := by have := hz.t; simpa [SyG.dat] using this
 have HZ := hid hz
 have HBG := hid hbg
 obtain ⟨⟨q0,q1,q2,q3⟩,y0,y1,y2,y3,yl⟩ := four_cb (box_blk h.head)
 simp only at q0 q1 q2 q3
 obtain ⟨i0,hi,hz0,hz1,hz2⟩ := info_parts infoSmL
 have C := hid ((h.perm (L' := (ObsG.mk (.slice eo os.length ec) os).rows ++ (rdB Q (SyG.mk sg ⟨.slice eo os.length ec,os⟩ ⟨.slice xo ts.length xc,ts⟩) bg :: (TmG.mk (.slice xo ts.length xc) ts).row :: X)) (by refine perm_count fun f g hf => ?_; simp only [hf.c,hf.a,hf.z,rdB,SyG.rows,ObsG.rows,ObsG.row,ObG.rows,InG.row,StsG.rows,TrsG.rows,StsG.row,TrsG.row,TmG.row,StG.rows,TrG.rows,SmG.rows,CdG.row,SmsG.rows,SmsG.row,itC_append,itC,List.map_append,List.map_cons,List.map_nil,List.flatMap_append,List.flatMap_cons,List.flatMap_nil,List.append_nil,List.nil_append,List.length_append,List.length_cons,List.length_nil,Nat.zero_add,List.cons_append,List.append_assoc,ObG.cells,StG.cells,TrG.cells,SmG.cells]; try omega)).latO (by omega))
 clear h
 obtain ⟨x,hx0⟩ : ∃ x,x = rdS fs := ⟨_,rfl⟩
 obtain ⟨xk,xa,xb,its⟩ := x
 have HXS := hid hx0
 clear hx0
 have CL : Hid (Calls Tryz.prog 87 #[.pointer (some ⟨F,0,none⟩),.slice eo os.length ec] w fun e w' => LatO w B F fs false (.slice eo os.length ec) os (rdB Q (SyG.mk sg ⟨.slice eo os.length ec,os⟩ ⟨.slice xo ts.length xc,ts⟩) bg :: (TmG.mk (.slice xo ts.length xc) ts).row :: X) e w') := C
 go_enter Tryz.func56,Tryz.ntmps56
 go_upto_region 1 with (first
  | (go_at_call 87; with_reducible refine CL.out.mono ?_; rintro e w1 ⟨go,co,pp,o,M,rfl,h1,b1,hpp,hor⟩; have B1 := hid b1; have OR := hid hor; have SO := hid (so_of HZ.out hor); obtain ⟨c6,gl⟩ := h1.ob6; have C2 := hid (h1.lastS SO.out); clear h1 b1 hor)
  | (go_at_call 89; with_reducible refine C2.out.mono ?_; rintro e w2 ⟨gs,cs,qq,el,M2,rfl,h2,b2,hqq,hor2⟩; have H2 := hid h2; have B2 := hid b2; have OR2 := hid hor2; have SE := hid (se_of SO.out hor2); clear h2 b2 hor2))
 obtain ⟨par0,ini0,⟨nv,es⟩,⟨xv,xs⟩⟩ := el
 obtain ⟨na,nc,hnv,_,_,_⟩ := row_read SmG.cells 4 (fun _ => rfl) (H2.out.own (r := (SmsG.mk nv es).row) (by simp [StG.rows,SmsG.rows]))
 obtain ⟨xa0,xc0,hxv,_,_,_⟩ := row_read SmG.cells 4 (fun _ => rfl) (H2.out.own (r := (SmsG.mk xv xs).row) (by simp [StG.rows,SmsG.rows]))
 simp only [SmsG.row] at hnv hxv
 subst hnv hxv
 have EL : es.length ≤ 1048575 := SE.out.1
 have XL : xs.length ≤ 1048575 := SE.out.2
 obtain ⟨pO,qO,dO,kI,vI,uI,⟨sv,ss⟩,tI⟩ := o
 simp only at OR2 H2
 have SW : Hid (St w2 B F fs ((false || os.isEmpty) || ss.isEmpty) ((SmsG.mk (.slice xa0 xs.length xc0) xs).row :: (StsG.mk (.slice (some ⟨gs,0,none⟩) (qq.length + 1) cs) (qq ++ [(StG.mk par0 ini0 ⟨.slice na es.length nc,es⟩ ⟨.slice xa0 xs.length xc0,xs⟩)])).row :: (xs.flatMap SmG.rows ++ ((SmsG.mk (.slice na es.length nc) es).rows ++ M2)))) := hid (H2.out.perm (by refine perm_count fun f g hf => ?_; simp only [hf.c,hf.a,hf.z,rdB,SyG.rows,ObsG.rows,ObsG.row,ObG.rows,InG.row,StsG.rows,TrsG.rows,StsG.row,TrsG.row,TmG.row,StG.rows,TrG.rows,SmG.rows,CdG.row,SmsG.rows,SmsG.row,itC_append,itC,List.map_append,List.map_cons,List.map_nil,List.flatMap_append,List.flatMap_cons,List.flatMap_nil,List.append_nil,List.nil_append,List.length_append,List.length_cons,List.length_nil,Nat.zero_add,List.cons_append,List.append_assoc,ObG.cells,StG.cells,TrG.cells,SmG.cells]; try omega))
 clear H2 C C2 CL c6 gl q0 q1 q2 q3 y0 y1 y2 y3 yl
 have CS : Hid (∀ (X : World) (fs0 : List (List UInt8)) (bd0 : Bool) (T : List Rw),St X B F fs0 bd0 ((StsG.mk (.slice (some ⟨gs,0,none⟩) (qq.length + 1) cs) (qq ++ [(StG.mk par0 ini0 ⟨.slice na es.length nc,es⟩ ⟨.slice xa0 xs.length xc0,xs⟩)])).row :: T) → X.cell? ⟨gs,qq.length * 4 + 3,none⟩ = some (.slice xa0 xs.length xc0)) := hid (fun X _ _ _ hX => st_cell hX.head 3 (by omega))
 have KD : Hid (w2.drew.cell? ⟨gs,qq.length * 4 + 3,none⟩ = some (.slice xa0 xs.length xc0)) := hid (CS.out _ _ _ _ SW.out.tail.drew)
 have CC := hid SW.out.drew.stm
 rw [← HXS.out] at CC; simp only at CC
 refine wp_region_noPanic ?_
 refine wp_region_till (st := 11) (S := fun u => u.cell? ⟨gs,qq.length * 4 + 3,none⟩ = some (.slice xa0 xs.length xc0)) (by kernel_rfl) ?_
 refine wpTill_take (i := 0) (d := some 18) (v := ?_) rfl rfl (by kernel_rfl) (by kernel_rfl) (by kernel_rfl) (by kernel_rfl) (by kernel_rfl) (fun _ _ _ h => h) (Or.inl ⟨by rfl,?_⟩) KD.out ?_
 case refine_2 => (intro u hu; obtain s0 := hu; go_simp; first | done | with_reducible rfl)
 simp only [Act.put,List.setIfInBounds_toArray,List.set_cons_zero,List.set_cons_succ]
 refine wpTill_take (i := 1) (d := some 19) (v := ?_) rfl rfl (by kernel_rfl) (by kernel_rfl) (by kernel_rfl) (by kernel_rfl) (by kernel_rfl) (fun _ _ _ h => h) (Or.inl ⟨by rfl,?_⟩) KD.out ?_
 case refine_2 => (intro u hu; obtain s0 := hu; go_simp; first | done | with_reducible rfl)
 simp only [Act.put,List.setIfInBounds_toArray,List.set_cons_zero,List.set_cons_succ]
 refine wpTill_take (i := 2) (d := some 20) (v := ?_) rfl rfl (by kernel_rfl) (by kernel_rfl) (by kernel_rfl) (by kernel_rfl) (by kernel_rfl) (fun _ _ _ h => h) (Or.inl ⟨by rfl,?_⟩) KD.out ?_
 case refine_2 => (intro u hu; obtain s0 := hu; go_simp; first | done | with_reducible rfl)
 simp only [Act.put,List.setIfInBounds_toArray,List.set_cons_zero,List.set_cons_succ]
 refine wpTill_take (i := 3) (d := some 21) (v := ?_) rfl rfl (by kernel_rfl) (by kernel_rfl) (by kernel_rfl) (by kernel_rfl) (by kernel_rfl) (fun _ _ _ h => h) (Or.inl ⟨by rfl,?_⟩) KD.out ?_
 case refine_2 => (intro u hu; obtain s0 := hu; go_simp; first | done | with_reducible rfl)
 simp only [Act.put,List.setIfInBounds_toArray,List.set_cons_zero,List.set_cons_succ]
 refine wpTill_take (i := 4) (d := some 22) (v := ?_) rfl rfl (by kernel_rfl) (by kernel_rfl) (by kernel_rfl) (by kernel_rfl) (by kernel_rfl) (fun _ _ _ h => h) (Or.inl ⟨by rfl,?_⟩) KD.out ?_
 case refine_2 => (intro u hu; obtain s0 := hu; go_simp; first | done | with_reducible rfl)
 simp only [Act.put,List.setIfInBounds_toArray,List.set_cons_zero,List.set_cons_succ]
 refine wpTill_take (i := 5) (d := some 23) (v := ?_) rfl rfl (by kernel_rfl) (by kernel_rfl) (by kernel_rfl) (by kernel_rfl) (by kernel_rfl) (fun _ _ _ h => h) (Or.inl ⟨by rfl,?_⟩) KD.out ?_
 case refine_2 => (intro u hu; obtain s0 := hu; go_simp; first | done | with_reducible rfl)
 simp only [Act.put,List.setIfInBounds_toArray,List.set_cons_zero,List.set_cons_succ]
 refine wpTill_step (i := 6) (by kernel_rfl) rfl (fun K hK => ?_)
 go_simp
 go_wp2_with (go_at_call 90; with_reducible refine CC.out.mono ?_; rintro e w6 ⟨ca,cn,cc,rfl,h6,b6⟩; have H6 := hid h6.roll; have B6 := hid b6; clear h6 b6)
 have K6 := hid (CS.out w6 _ _ _ H6.out.tail)
 refine hK _ _ K6.out ?_
 clear hK K
 obtain ⟨U,hU⟩ : ∃ U,U = (w6.alloc (.cells #[.int .i64 xk,.int .i64 xa,.int .i64 xb,.slice ca cn cc] 105)) := ⟨_,rfl⟩
 have BU : Hid (Below w6.heap.size w6 U) := hid (by rw [hU]; exact (below1 _ _))
 have HU := hid (H6.out.new BU.out)
 have KU := hid (CS.out U _ _ _ HU.out.tail)
 have NWU : Hid (∀ j u,[.int .i64 xk,.int .i64 xa,.int .i64 xb,.slice ca cn cc][j]? = some u → U.cell? ((⟨w6.heap.size,0,none⟩ : Addr).add j) = some u) := hid (World.news_of_block (cs := #[.int .i64 xk,.int .i64 xa,.int .i64 xb,.slice ca cn cc]) (by rw [hU]; exact heap_alloc_new w6 _))
 refine wpTill_step (i := 7) (by kernel_rfl) rfl (fun K hK => ?_)
 go_simp
 rw [← hU]
 refine hK _ _ KU.out ?_
 clear hU hK K
 refine wpTill_step (i := 8) (by kernel_rfl) rfl (fun K hK => ?_)
 refine step_append_lies _ (by rfl) _ _ _ (by rfl) B 105 i0 _ 4 48 Tryz.underlying69 hi hz0 hz1 hz2 rfl (by omega) (.slice xa0 xs.length xc0) xs.length (xs.flatMap SmG.cells) (by simp [Act.eval]) HU.out.head ⟨w6.heap.size,0,none⟩ 1 1 [.int .i64 xk,.int .i64 xa,.int .i64 xb,.slice ca cn cc] (by simp [Act.eval]) (by simp) NWU.out (by intro u hu; simp at hu; rcases hu with rfl | rfl | rfl | rfl <;> rfl) (by omega) (by unfold maxLen; omega) (by omega) HU.out.hi U.heap.size rfl ?_
 intro gg cap5 w5 hown hgrow hat hlt5
 have H5 := hid (HU.out.app hgrow hown hat)
 have B5 := hid (HU.out.bapp hgrow)
 have K5 := hid (CS.out w5 _ _ _ H5.out.tail)
 clear hown hgrow hat
 refine hK _ _ K5.out ?_
 clear hK K
 refine wpTill_step (i := 9) (by kernel_rfl) rfl (fun K hK => ?_)
 go_simp
 refine hK _ _ K5.out ?_
 clear hK K
 refine wpTill_step (i := 10) (by kernel_rfl) rfl (fun K hK => ?_)
 go_simp
 refine hK _ _ K5.out ?_
 clear hK K
 obtain c5 := K5.out
 obtain ⟨fz5,fl5⟩ := st_froz H5.out.tail.head (qq.length * 4 + 3)
 refine wpTill_last (by kernel_rfl) rfl (by kernel_rfl) (fun K hK => ?_)
 go_simp
 refine hK _ _ ?_
 clear hK K
 refine wpTill_done (by kernel_rfl) ?_ _
 refine NoPanic.normal ?_
 have H7 : Hid (St (w5.setCell ⟨gs,qq.length * 4 + 3,none⟩ (.slice (some ⟨gg,0,none⟩) (xs.length + 1) cap5)) B F (rsS fs) (((false || os.isEmpty) || ss.isEmpty) || !okS fs) ((StsG.mk (.slice (some ⟨gs,0,none⟩) (qq.length + 1) cs) (qq ++ [(StG.mk par0 ini0 ⟨.slice na es.length nc,es⟩ ⟨(.slice (some ⟨gg,0,none⟩) (xs.length + 1) cap5),xs ++ [⟨xk,xa,xb,⟨.slice ca cn cc,its⟩⟩]⟩)])).row :: (⟨105,4,(.slice (some ⟨gg,0,none⟩) (xs.length + 1) cap5),xs.length + 1,xs.flatMap SmG.cells ++ [.int .i64 xk,.int .i64 xa,.int .i64 xb,.slice ca cn cc]⟩ : Rw) :: (CdG.mk (.slice ca cn cc) its).row :: (xs.flatMap SmG.rows ++ ((SmsG.mk (.slice na es.length nc) es).rows ++ M2)))) := hid ((H5.out.perm (.swap _ _ _)).stSet (o' := (StG.mk par0 ini0 ⟨.slice na es.length nc,es⟩ ⟨(.slice (some ⟨gg,0,none⟩) (xs.length + 1) cap5),xs ++ [⟨xk,xa,xb,⟨.slice ca cn cc,its⟩⟩]⟩)) 3 (.slice (some ⟨gg,0,none⟩) (xs.length + 1) cap5) (by omega) rfl)
 have B7 := hid ((((B1.out.trans B2.out).trans (SW.out.bnew (Below.refl _ _).drew)).trans B6.out).trans ((H6.out.bnew BU.out).trans (B5.out.trans ((H5.out.perm (.swap _ _ _)).bstSet (qq.length * 4 + 3) (.slice (some ⟨gg,0,none⟩) (xs.length + 1) cap5)))))
 clear H5 H6 HU K5 K6 KU KD CS CC NWU B5 B6 BU c5 fz5 fl5
 clear B1 B2 SW
 go_wp2_with fail
 go_end0
 rcases OR.out with ⟨e,hv,hM⟩ | ⟨e,e2,e3,e4⟩
 ·subst e
  obtain ⟨rfl,_,rfl⟩ : eo = some ⟨go,0,none⟩ ∧ (pp ++ [(ObG.mk pO qO dO kI vI uI ⟨sv,ss⟩ tI)]).length = pp.length + 1 ∧ ec = co := by simpa using hv
  have hb : bg = true := by
   cases bg with
   | true => rfl
   | false => have := HBG.out rfl; simp [SyG.dat] at this
  subst hb
  have LL := lineExi (SyG.mk sg ⟨.slice (some ⟨go,0,none⟩) (pp ++ [(ObG.mk pO qO dO kI vI uI ⟨sv,ss⟩ tI)]).length ec,pp ++ [(ObG.mk pO qO dO kI vI uI ⟨sv,ss⟩ tI)]⟩ ⟨.slice xo ts.length xc,ts⟩).dat fs true HBG.out
  have LO : (lastOb (SyG.mk sg ⟨.slice (some ⟨go,0,none⟩) (pp ++ [(ObG.mk pO qO dO kI vI uI ⟨sv,ss⟩ tI)]).length ec,pp ++ [(ObG.mk pO qO dO kI vI uI ⟨sv,ss⟩ tI)]⟩ ⟨.slice xo ts.length xc,ts⟩).dat).sts.isEmpty = ss.isEmpty := by simp [SyG.dat,lastOb_snoc,ObG.dat]
  rw [LO] at LL
  rcases OR2.out with ⟨f1,f2,f3⟩ | ⟨f1,f2,f3,f4⟩
  ·subst f1 f2 f3
   subst hM
   refine RdR.of B7.out H7.out (by repeat' (first | exact List.Sublist.refl _ | refine List.sublist_append_of_sublist_right ?_ | refine List.Sublist.cons _ ?_)) (fun hx => ?_) (fun hx => ?_)
   ·rw [LL,if_pos]
    revert hx; simp [SyG.dat]
   ·refine ⟨SyG.mk sg ⟨.slice (some ⟨go,0,none⟩) (pp.length + 1) ec,pp ++ [(ObG.mk pO qO dO kI vI uI ⟨.slice (some ⟨gs,0,none⟩) (qq.length + 1) cs,qq ++ [(StG.mk par0 ini0 ⟨.slice na es.length nc,es⟩ ⟨(.slice (some ⟨gg,0,none⟩) (xs.length + 1) cap5),xs ++ [⟨xk,xa,xb,⟨.slice ca cn cc,its⟩⟩]⟩)]⟩ tI)]⟩ ⟨.slice xo ts.length xc,ts⟩,?_,?_⟩
    ·rw [LL,if_neg]
     ·simp only [SyG.dat,List.map_append,List.map_cons,List.map_nil,oneOb_snoc]
      rw [← HXS.out]
      simp [ObG.dat,StG.dat,TrG.dat,SmsG.dat,SmG.dat,turnL_snoc]
     ·rw [Bool.not_eq_true]
      revert hx; simp [SyG.dat]
    ·refine perm_count fun f g hf => ?_; simp only [hf.c,hf.a,hf.z,rdB,SyG.rows,ObsG.rows,ObsG.row,ObG.rows,InG.row,StsG.rows,TrsG.rows,StsG.row,TrsG.row,TmG.row,StG.rows,TrG.rows,SmG.rows,CdG.row,SmsG.rows,SmsG.row,itC_append,itC,List.map_append,List.map_cons,List.map_nil,List.flatMap_append,List.flatMap_cons,List.flatMap_nil,List.append_nil,List.nil_append,List.length_append,List.length_cons,List.length_nil,Nat.zero_add,List.cons_append,List.append_assoc,ObG.cells,StG.cells,TrG.cells,SmG.cells]; try omega
  ·subst f4
   subst hM
   refine RdR.of B7.out H7.out (by repeat' (first | exact List.Sublist.refl _ | refine List.sublist_append_of_sublist_right ?_ | refine List.Sublist.cons _ ?_)) (fun _ => ?_) (fun hx => absurd hx (by simp [f1]))
   rw [LL,if_pos (by simp [f1])]
 ·subst e
  subst e4
  rcases OR2.out with ⟨f1,f2,f3⟩ | ⟨f1,f2,f3,f4⟩
  ·subst f3
   refine RdR.of B7.out H7.out (by repeat' (first | exact List.Sublist.refl _ | refine List.sublist_append_of_sublist_right ?_ | refine List.Sublist.cons _ ?_)) (fun _ => line_nil (by decide) (by decide) (by decide) (by simp [SyG.dat])) (fun hx => absurd hx (by simp))
  ·subst f4
   refine RdR.of B7.out H7.out (by repeat' (first | exact List.Sublist.refl _ | refine List.sublist_append_of_sublist_right ?_ | refine List.Sublist.cons _ ?_)) (fun _ => line_nil (by decide) (by decide) (by decide) (by simp [SyG.dat])) (fun hx => absurd hx (by simp))
end Go.Proofs.YtkdgkomnbjepdaaGreatDoor

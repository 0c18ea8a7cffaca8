import Derived.Test.YtkdgkomnbjepdaaGreatDoorDd
import Derived.Test.YtkdgkomnbjepdaaGreatDoorZ0
namespace Go.Proofs.YtkdgkomnbjepdaaGreatDoor
open Go.RowKit Go.Sort
set_option linter.unusedVariables false
set_option linter.unusedSimpArgs false
attribute [local go_sem ↓] Go.wp_at_zero Go.wp_at_succ
set_option maxRecDepth 100000 in
set_option maxHeartbeats 6400000 in
theorem readTimer_any {w : World} {B F Q : Nat} {G : SyG} {bg : Bool} {X : List Rw} {fs : List (List UInt8)} (h : St w B F fs false (rdB Q G bg :: (G.rows ++ X))) (hz : SmD G.dat 1048575) (hbg : bg = false → G.dat.obs = []) : Calls Tryz.prog 59 #[.pointer (some ⟨Q,0,none⟩),.pointer (some ⟨F,0,none⟩)] w fun e w' => RdR B F Q G bg X kTim fs w e w' := by
 obtain ⟨eo,ec,xo,xc,hev,hxv⟩ := SyG.form h.flat.tail
 obtain ⟨sg,⟨ov,os⟩,⟨tv,ts⟩⟩ := G
 simp only at hev hxv
 subst hev hxv
 have OL : os.length ≤ 1048575 := by have := hz.o; simpa [SyG.dat] using this
 have TL : ts.length ≤ 1048575 := by have := hz.t; simpa [SyG.dat] using this
 have HZ := hid hz
 have HBG := hid hbg
 obtain ⟨⟨q0,q1,q2,q3⟩,y0,y1,y2,y3,yl⟩ := four_cb (box_blk h.head)
 simp only at q0 q1 q2 q3
 obtain ⟨i0,hi,hz0,hz1,hz2⟩ := info_parts infoTmL
 obtain ⟨te,pe,hp⟩ := h.errP
 have pl := Lib.lt_of_cell hp
 have NE := hid (h.drew.need bg te pe)
 have BD0 := hid (h.bnew (Below.refl w.heap.size w).drew)
 have HH := hid h
 clear h hz hbg
 go_enter Tryz.func59,Tryz.ntmps59
 go_upto_region 0 with fail
 go_region_with (go_at_call 84; with_reducible refine NE.out.mono ?_; rintro e w1 ⟨rfl,h1,b1⟩; have H1 := hid h1; have B1 := hid b1; clear h1 b1)
 all_goals
  clear NE q0 q1 q2 q3 y0 y1 y2 y3 yl hp pl
  rw [Bool.false_or] at H1
  have HA := H1.out.box 57 [.int .i64 0,.int .i64 0] (by decide) (by decide)
  have HB0 := HA.new (below1 (w1.alloc (.cells #[.int .i64 0,.int .i64 0] 57)) (.cells #[.pointer (some ⟨w1.heap.size,0,none⟩),.pointer (some ⟨w1.heap.size,1,none⟩)] 172))
  have BN := hid ((H1.out.bnew (below1 w1 (.cells #[.int .i64 0,.int .i64 0] 57))).trans (HA.bnew (below1 (w1.alloc (.cells #[.int .i64 0,.int .i64 0] 57)) (.cells #[.pointer (some ⟨w1.heap.size,0,none⟩),.pointer (some ⟨w1.heap.size,1,none⟩)] 172))))
  have PB : ((w1.alloc (.cells #[.int .i64 0,.int .i64 0] 57)).alloc (.cells #[.pointer (some ⟨w1.heap.size,0,none⟩),.pointer (some ⟨w1.heap.size,1,none⟩)] 172)).heap[w1.heap.size + 1]? = some (.cells #[.pointer (some ⟨w1.heap.size,0,none⟩),.pointer (some ⟨w1.heap.size,1,none⟩)] 172 (0,0)) := by
   simpa using heap_alloc_new (w1.alloc (.cells #[.int .i64 0,.int .i64 0] 57)) (.cells #[.pointer (some ⟨w1.heap.size,0,none⟩),.pointer (some ⟨w1.heap.size,1,none⟩)] 172)
  have CN := HB0.numbers (P := w1.heap.size + 1) [0,1] 2 (by decide) (by
   intro j hj
   have : j = 0 ∨ j = 1 := by simp at hj; omega
   rcases this with rfl | rfl <;> simp) ⟨_,_,PB,by decide,by decide,by
   intro j hj
   have : j = 0 ∨ j = 1 := by simp at hj; omega
   rcases this with rfl | rfl <;> rfl⟩
  obtain ⟨W0,hW0⟩ : ∃ W,W = (w1.alloc (.cells #[.int .i64 0,.int .i64 0] 57)).alloc (.cells #[.pointer (some ⟨w1.heap.size,0,none⟩),.pointer (some ⟨w1.heap.size,1,none⟩)] 172) := ⟨_,rfl⟩
  rw [← hW0] at CN BN
  have PA : (putAll (#[.int .i64 0,.int .i64 0] : Array Value) [0,1] fs).toList = [.int .i64 (rdN fs),.int .i64 (rdN fs.tail)] := by simp [putAll]
  have CN2 : Hid (Calls Tryz.prog 86 #[.pointer (some ⟨F,0,none⟩),.slice (some ⟨w1.heap.size + 1,0,none⟩) 2 2] W0 fun e w' => e = .returned (.tuple #[]) ∧ St w' B F (restAll [0,1] fs) (badAll (!bg) [0,1] fs) (boxR 57 w1.heap.size [.int .i64 (rdN fs),.int .i64 (rdN fs.tail)] :: rdB Q (SyG.mk sg ⟨.slice eo os.length ec,os⟩ ⟨.slice xo ts.length xc,ts⟩) bg :: ((SyG.mk sg ⟨.slice eo os.length ec,os⟩ ⟨.slice xo ts.length xc,ts⟩).rows ++ X)) ∧ Bm B W0 w') := hid (by
   refine CN.mono ?_
   rintro e w' ⟨k1,k2,k3⟩
   rw [PA] at k2
   exact ⟨k1,k2,k3⟩)
  have HW0 := hid hW0
  clear hW0 PB HA HB0 CN PA
  go_upto_region 3 with fail
  rw [← HW0.out]
  with_reducible refine CN2.out.mono ?_
  rintro e w2 ⟨rfl,h4,b4⟩
  have SN := hid h4
  have B4 := hid b4
  clear h4 b4 HW0 CN2
  have B3 := hid (((BD0.out.trans B1.out).trans BN.out).trans B4.out)
  clear H1 B1 BN B4 BD0 HH
  obtain ⟨rst,hrst⟩ : ∃ x,x = restAll [0,1] fs := ⟨_,rfl⟩
  obtain ⟨bd,hbd⟩ : ∃ x,x = badAll (!bg) [0,1] fs := ⟨_,rfl⟩
  obtain ⟨z0,hz0⟩ : ∃ x,x = rdN fs := ⟨_,rfl⟩
  obtain ⟨z1,hz1⟩ : ∃ x,x = rdN fs.tail := ⟨_,rfl⟩
  obtain ⟨I5,hI5⟩ : ∃ x,x = w1.heap.size := ⟨_,rfl⟩
  rw [← hrst,← hbd,← hz0,← hz1,← hI5] at SN
  rw [← hI5]
  have HRST := hid hrst
  have HBD := hid hbd
  have HZ0 := hid hz0
  have HZ1 := hid hz1
  clear hrst hbd hz0 hz1 hI5
  have SW : Hid (St w2 B F rst bd ((TmG.mk (.slice xo ts.length xc) ts).row :: rdB Q (SyG.mk sg ⟨.slice eo os.length ec,os⟩ ⟨.slice xo ts.length xc,ts⟩) bg :: (boxR 57 I5 [.int .i64 z0,.int .i64 z1] :: ((ObsG.mk (.slice eo os.length ec) os).rows ++ X)))) := hid (SN.out.perm (by refine perm_count fun f g hf => ?_; simp only [hf.c,hf.a,hf.z,rdB,SyG.rows,ObsG.rows,ObsG.row,ObG.rows,InG.row,StsG.rows,TrsG.rows,StsG.row,TrsG.row,TmG.row,StG.rows,TrG.rows,SmG.rows,CdG.row,SmsG.rows,SmsG.row,itC_append,itC,List.map_append,List.map_cons,List.map_nil,List.flatMap_append,List.flatMap_cons,List.flatMap_nil,List.append_nil,List.nil_append,List.length_append,List.length_cons,List.length_nil,Nat.zero_add,List.cons_append,List.append_assoc,ObG.cells,StG.cells,TrG.cells,SmG.cells]; try omega))
  clear SN
  go_upto_region 3 with fail
  have CS : Hid (∀ (X : World) (fs0 : List (List UInt8)) (bd0 : Bool) (T : List Rw),St X B F fs0 bd0 (rdB Q (SyG.mk sg ⟨.slice eo os.length ec,os⟩ ⟨.slice xo ts.length xc,ts⟩) bg :: boxR 57 I5 [.int .i64 z0,.int .i64 z1] :: T) → X.cell? ⟨Q,2,none⟩ = some (.slice xo ts.length xc) ∧ X.cell? ⟨I5,0,none⟩ = some (.int .i64 z0) ∧ X.cell? ⟨I5,1,none⟩ = some (.int .i64 z1)) := hid (fun X _ _ _ hX => ⟨(four_cb (box_blk hX.head)).1.2.2.1,⟨(two_cc (box_blk hX.tail.head)).1,(two_cc (box_blk hX.tail.head)).2.1⟩⟩)
  have KD : Hid (w2.drew.cell? ⟨Q,2,none⟩ = some (.slice xo ts.length xc) ∧ w2.drew.cell? ⟨I5,0,none⟩ = some (.int .i64 z0) ∧ w2.drew.cell? ⟨I5,1,none⟩ = some (.int .i64 z1)) := hid (CS.out _ _ _ _ SW.out.tail.drew)
  have H6 := SW
  have K6 : Hid (w2.cell? ⟨Q,2,none⟩ = some (.slice xo ts.length xc) ∧ w2.cell? ⟨I5,0,none⟩ = some (.int .i64 z0) ∧ w2.cell? ⟨I5,1,none⟩ = some (.int .i64 z1)) := hid (CS.out _ _ _ _ SW.out.tail)
  refine wp_region_noPanic ?_
  refine wp_region_till (st := 12) (S := fun u => u.cell? ⟨Q,2,none⟩ = some (.slice xo ts.length xc) ∧ u.cell? ⟨I5,0,none⟩ = some (.int .i64 z0) ∧ u.cell? ⟨I5,1,none⟩ = some (.int .i64 z1)) (by kernel_rfl) ?_
  refine wpTill_take (i := 0) (d := some 17) (v := ?_) rfl rfl (by kernel_rfl) (by kernel_rfl) (by kernel_rfl) (by kernel_rfl) (by kernel_rfl) (fun _ _ _ h => h) (Or.inl ⟨by rfl,?_⟩) KD.out ?_
  case refine_2 => (intro u hu; obtain ⟨s0,s1,s2⟩ := hu; go_simp; first | done | with_reducible rfl)
  simp only [Act.put,List.setIfInBounds_toArray,List.set_cons_zero,List.set_cons_succ]
  refine wpTill_take (i := 1) (d := some 18) (v := ?_) rfl rfl (by kernel_rfl) (by kernel_rfl) (by kernel_rfl) (by kernel_rfl) (by kernel_rfl) (fun _ _ _ h => h) (Or.inl ⟨by rfl,?_⟩) KD.out ?_
  case refine_2 => (intro u hu; obtain ⟨s0,s1,s2⟩ := hu; go_simp; first | done | with_reducible rfl)
  simp only [Act.put,List.setIfInBounds_toArray,List.set_cons_zero,List.set_cons_succ]
  refine wpTill_take (i := 2) (d := some 19) (v := ?_) rfl rfl (by kernel_rfl) (by kernel_rfl) (by kernel_rfl) (by kernel_rfl) (by kernel_rfl) (fun _ _ _ h => h) (Or.inl ⟨by rfl,?_⟩) KD.out ?_
  case refine_2 => (intro u hu; obtain ⟨s0,s1,s2⟩ := hu; go_simp; first | done | with_reducible rfl)
  simp only [Act.put,List.setIfInBounds_toArray,List.set_cons_zero,List.set_cons_succ]
  refine wpTill_take (i := 3) (d := some 20) (v := ?_) rfl rfl (by kernel_rfl) (by kernel_rfl) (by kernel_rfl) (by kernel_rfl) (by kernel_rfl) (fun _ _ _ h => h) (Or.inl ⟨by rfl,?_⟩) KD.out ?_
  case refine_2 => (intro u hu; obtain ⟨s0,s1,s2⟩ := hu; go_simp; first | done | with_reducible rfl)
  simp only [Act.put,List.setIfInBounds_toArray,List.set_cons_zero,List.set_cons_succ]
  refine wpTill_take (i := 4) (d := some 21) (v := ?_) rfl rfl (by kernel_rfl) (by kernel_rfl) (by kernel_rfl) (by kernel_rfl) (by kernel_rfl) (fun _ _ _ h => h) (Or.inl ⟨by rfl,?_⟩) KD.out ?_
  case refine_2 => (intro u hu; obtain ⟨s0,s1,s2⟩ := hu; go_simp; first | done | with_reducible rfl)
  simp only [Act.put,List.setIfInBounds_toArray,List.set_cons_zero,List.set_cons_succ]
  refine wpTill_take (i := 5) (d := some 22) (v := ?_) rfl rfl (by kernel_rfl) (by kernel_rfl) (by kernel_rfl) (by kernel_rfl) (by kernel_rfl) (fun _ _ _ h => h) (Or.inl ⟨by rfl,?_⟩) KD.out ?_
  case refine_2 => (intro u hu; obtain ⟨s0,s1,s2⟩ := hu; go_simp; first | done | with_reducible rfl)
  simp only [Act.put,List.setIfInBounds_toArray,List.set_cons_zero,List.set_cons_succ]
  refine wpTill_take (i := 6) (d := some 23) (v := ?_) rfl rfl (by kernel_rfl) (by kernel_rfl) (by kernel_rfl) (by kernel_rfl) (by kernel_rfl) (fun _ _ _ h => h) (Or.inl ⟨by rfl,?_⟩) KD.out ?_
  case refine_2 => (intro u hu; obtain ⟨s0,s1,s2⟩ := hu; go_simp; first | done | with_reducible rfl)
  simp only [Act.put,List.setIfInBounds_toArray,List.set_cons_zero,List.set_cons_succ]
  obtain ⟨U,hU⟩ : ∃ U,U = (w2.alloc (.cells #[.int .i64 z0,.int .i64 z1] 57)).drew := ⟨_,rfl⟩
  have BU : Hid (Below w2.heap.size w2 U) := hid (by rw [hU]; exact (below1 _ _).drew)
  have HU := hid (H6.out.new BU.out)
  have KU := hid (CS.out U _ _ _ HU.out.tail)
  have NWU : Hid (∀ j u,[.int .i64 z0,.int .i64 z1][j]? = some u → U.cell? ((⟨w2.heap.size,0,none⟩ : Addr).add j) = some u) := hid (World.news_of_block (cs := #[.int .i64 z0,.int .i64 z1]) (by rw [hU]; exact heap_alloc_new w2 _))
  refine wpTill_step (i := 7) (by kernel_rfl) rfl (fun K hK => ?_)
  go_simp
  rw [← hU]
  refine hK _ _ KU.out ?_
  clear hU hK K
  refine wpTill_step (i := 8) (by kernel_rfl) rfl (fun K hK => ?_)
  refine step_append_lies _ (by rfl) _ _ _ (by rfl) B 57 i0 _ 2 16 Tryz.underlying24 hi hz0 hz1 hz2 rfl (by omega) (.slice xo ts.length xc) ts.length (itC ts) (by simp [Act.eval]) HU.out.head ⟨w2.heap.size,0,none⟩ 1 1 [.int .i64 z0,.int .i64 z1] (by simp [Act.eval]) (by simp) NWU.out (one_it _ _) (by omega) (by unfold maxLen; omega) (by omega) HU.out.hi U.heap.size rfl ?_
  intro gg cap5 w5 hown hgrow hat hlt5
  have H5 := hid (HU.out.app hgrow hown hat)
  have B5 := hid (HU.out.bapp hgrow)
  have K5 := hid (CS.out w5 _ _ _ H5.out.tail)
  clear hown hgrow hat
  refine hK _ _ K5.out ?_
  clear hK K
  refine wpTill_step (i := 9) (by kernel_rfl) rfl (fun K hK => ?_)
  go_simp
  refine hK _ _ K5.out ?_
  clear hK K
  refine wpTill_step (i := 10) (by kernel_rfl) rfl (fun K hK => ?_)
  go_simp
  refine hK _ _ K5.out ?_
  clear hK K
  refine wpTill_step (i := 11) (by kernel_rfl) rfl (fun K hK => ?_)
  go_simp
  refine hK _ _ K5.out ?_
  clear hK K
  obtain ⟨c5,c6,c7⟩ := K5.out
  obtain ⟨⟨m0,m1,m2,m3⟩,fz0,fz1,fz2,fz3,fl5⟩ := four_cb (box_blk H5.out.tail.head)
  refine wpTill_last (by kernel_rfl) rfl (by kernel_rfl) (fun K hK => ?_)
  go_simp
  refine hK _ _ ?_
  clear hK K
  refine wpTill_done (by kernel_rfl) ?_ _
  refine NoPanic.normal ?_
  have H7 := hid ((H5.out.perm (.swap _ _ _)).setBox 2 (.slice (some ⟨gg,0,none⟩) (ts.length + 1) cap5))
  have B7 := hid ((B3.out.trans (SW.out.bnew BU.out)).trans (B5.out.trans ((H5.out.perm (.swap _ _ _)).bsetBox 2 (.slice (some ⟨gg,0,none⟩) (ts.length + 1) cap5))))
  have H8 : Hid (St (w5.setCell ⟨Q,2,none⟩ (.slice (some ⟨gg,0,none⟩) (ts.length + 1) cap5)) B F rst bd (rdB Q (SyG.mk sg ⟨.slice eo os.length ec,os⟩ ⟨(.slice (some ⟨gg,0,none⟩) (ts.length + 1) cap5),ts ++ [(z0,z1)]⟩) bg :: (⟨57,2,(.slice (some ⟨gg,0,none⟩) (ts.length + 1) cap5),ts.length + 1,(itC ts) ++ [.int .i64 z0,.int .i64 z1]⟩ : Rw) :: ((ObsG.mk (.slice eo os.length ec) os).rows ++ X))) := hid (St.tail (r := boxR 57 I5 [.int .i64 z0,.int .i64 z1]) (St.rot2 H7.out))
  clear H5 H6 HU K5 K6 KU KD CS NWU B5 BU c5 c6 c7 m0 m1 m2 m3 fz0 fz1 fz2 fz3 fl5 B3 SW H7
  go_wp2_with fail
  go_end0
  have LL := lineTim (SyG.mk sg ⟨.slice eo os.length ec,os⟩ ⟨.slice xo ts.length xc,ts⟩).dat fs bg
  rw [← HBD.out,← HRST.out] at LL
  refine RdR.of B7.out H8.out (by repeat' (first | exact List.Sublist.refl _ | refine List.sublist_append_of_sublist_right ?_ | refine List.Sublist.cons _ ?_)) (fun hx => by rw [LL,if_pos hx]) (fun hx => ?_)
  have hbt : bg = true := by
   cases bg with
   | true => rfl
   | false => rw [HBD.out] at hx; simp [badAll] at hx
  subst hbt
  refine ⟨(SyG.mk sg ⟨.slice eo os.length ec,os⟩ ⟨(.slice (some ⟨gg,0,none⟩) (ts.length + 1) cap5),ts ++ [(z0,z1)]⟩),?_,(by refine perm_count fun f g hf => ?_; simp only [hf.c,hf.a,hf.z,rdB,SyG.rows,ObsG.rows,ObsG.row,ObG.rows,InG.row,StsG.rows,TrsG.rows,StsG.row,TrsG.row,TmG.row,StG.rows,TrG.rows,SmG.rows,CdG.row,SmsG.rows,SmsG.row,itC_append,itC,List.map_append,List.map_cons,List.map_nil,List.flatMap_append,List.flatMap_cons,List.flatMap_nil,List.append_nil,List.nil_append,List.length_append,List.length_cons,List.length_nil,Nat.zero_add,List.cons_append,List.append_assoc,ObG.cells,StG.cells,TrG.cells,SmG.cells]; try omega)⟩
  rw [LL,if_neg (by rw [hx]; decide)]
  simp [SyG.dat,HZ0.out,HZ1.out]
end Go.Proofs.YtkdgkomnbjepdaaGreatDoor
namespace Go.Proofs.YtkdgkomnbjepdaaGreatDoor
open Go.RowKit Go.Sort
set_option linter.unusedVariables false
set_option linter.unusedSimpArgs false
attribute [local go_sem ↓] Go.wp_at_zero Go.wp_at_succ
set_option maxRecDepth 100000 in
set_option maxHeartbeats 6400000 in
theorem readSignals_any {w : World} {B F Q : Nat} {G : SyG} {bg : Bool} {X : List Rw} {fs : List (List UInt8)} (h : St w B F fs false (rdB Q G bg :: (G.rows ++ X))) (hz : SmD G.dat 1048575) (hbg : bg = false → G.dat.obs = []) : Calls Tryz.prog 50 #[.pointer (some ⟨Q,0,none⟩),.pointer (some ⟨F,0,none⟩)] w fun e w' => RdR B F Q G bg X kSig fs w e w' := by
 obtain ⟨eo,ec,xo,xc,hev,hxv⟩ := SyG.form h.flat.tail
 obtain ⟨sg,⟨ov,os⟩,⟨tv,ts⟩⟩ := G
 simp only at hev hxv
 subst hev hxv
 have OL : os.length ≤ 1048575 := by have := hz.o; simpa [SyG.dat] using this
 have TL : ts.length ≤ 1048575 := by have := hz.t; simpa [SyG.dat] using this
 have HZ := hid hz
 have HBG := hid hbg
 obtain ⟨⟨q0,q1,q2,q3⟩,y0,y1,y2,y3,yl⟩ := four_cb (box_blk h.head)
 simp only at q0 q1 q2 q3
 obtain ⟨te,pe,hp⟩ := h.errP
 have pl := Lib.lt_of_cell hp
 have NE := hid (h.drew.need (!bg) te pe)
 have BD0 := hid (h.bnew (Below.refl w.heap.size w).drew)
 clear h hz hbg
 go_enter Tryz.func50,Tryz.ntmps50
 go_upto_region 0 with fail
 go_region_with (go_at_call 84; with_reducible refine NE.out.mono ?_; rintro e w1 ⟨rfl,h1,b1⟩; have H1 := hid h1; have B1 := hid b1; clear h1 b1)
 all_goals
  clear NE q0 q1 q2 q3 y0 y1 y2 y3 yl hp pl
  rw [Bool.false_or,Bool.not_not] at H1
  obtain ⟨⟨q0,q1,q2,q3⟩,y0,y1,y2,y3,yl⟩ := four_cb (box_blk H1.out.head)
  have H2 : Hid (St (w1.setCell ⟨Q,3,none⟩ (.bool true)) B F fs bg (rdB Q (SyG.mk sg ⟨.slice eo os.length ec,os⟩ ⟨.slice xo ts.length xc,ts⟩) true :: ((SyG.mk sg ⟨.slice eo os.length ec,os⟩ ⟨.slice xo ts.length xc,ts⟩).rows ++ X))) := hid (H1.out.setBox 3 (.bool true))
  have B2 := hid ((BD0.out.trans B1.out).trans (H1.out.bsetBox 3 (.bool true)))
  go_upto_region 2 with fail
  obtain ⟨W2,hW2⟩ : ∃ W,W = w1.setCell ⟨Q,3,none⟩ (.bool true) := ⟨_,rfl⟩
  rw [← hW2] at H2 B2 ⊢
  clear hW2 H1 B1 BD0 q0 q1 q2 q3 y0 y1 y2 y3 yl
  obtain ⟨⟨q0,q1,q2,q3⟩,y0,y1,y2,y3,yl⟩ := four_cb (box_blk H2.out.head)
  have CN := hid H2.out.number
  go_wp2_with (go_at_call 85; with_reducible refine CN.out.mono ?_; rintro e w3 ⟨rfl,h3,b3⟩; have H3 := hid h3; have B3 := hid b3; obtain ⟨⟨m0,m1,m2,m3⟩,n0,n1,n2,n3,nl⟩ := four_cb (box_blk h3.head); clear h3 b3)
  go_end0
  have H4 : St (w3.setCell ⟨Q,0,none⟩ (.int .i64 (rdN fs))) B F fs.tail (bg || !okN fs) (rdB Q (SyG.mk (rdN fs) ⟨.slice eo os.length ec,os⟩ ⟨.slice xo ts.length xc,ts⟩) true :: ((SyG.mk sg ⟨.slice eo os.length ec,os⟩ ⟨.slice xo ts.length xc,ts⟩).rows ++ X)) := H3.out.setBox 0 (.int .i64 (rdN fs))
  have B4 := (B2.out.trans B3.out).trans (H3.out.bsetBox 0 (.int .i64 (rdN fs)))
  have LL := lineSig (SyG.mk sg ⟨.slice eo os.length ec,os⟩ ⟨.slice xo ts.length xc,ts⟩).dat fs bg
  refine RdR.of B4 H4 (by repeat' (first | exact List.Sublist.refl _ | refine List.sublist_append_of_sublist_right ?_ | refine List.Sublist.cons _ ?_)) (fun hx => by rw [LL,if_pos hx]) (fun hx => ?_)
  refine ⟨SyG.mk (rdN fs) ⟨.slice eo os.length ec,os⟩ ⟨.slice xo ts.length xc,ts⟩,?_,List.Perm.refl _⟩
  rw [LL,if_neg (by rw [hx]; decide)]
  rfl
end Go.Proofs.YtkdgkomnbjepdaaGreatDoor

import Derived.Test.YtkdgkomnbjepdaaGreatDoorDc
import Derived.Test.YtkdgkomnbjepdaaGreatDoorZ0
namespace Go.Proofs.YtkdgkomnbjepdaaGreatDoor
open Go.RowKit Go.Sort
set_option linter.unusedVariables false
set_option linter.unusedSimpArgs false
attribute [local go_sem ↓] Go.wp_at_zero Go.wp_at_succ
set_option maxRecDepth 100000 in
set_option maxHeartbeats 6400000 in
theorem readState_any {w : World} {B F Q : Nat} {G : SyG} {bg : Bool} {X : List Rw} {fs : List (List UInt8)} (h : St w B F fs false (rdB Q G bg :: (G.rows ++ X))) (hz : SmD G.dat 1048575) (hbg : bg = false → G.dat.obs = []) : Calls Tryz.prog 54 #[.pointer (some ⟨Q,0,none⟩),.pointer (some ⟨F,0,none⟩)] w fun e w' => RdR B F Q G bg X kSta fs w e w' := by
 obtain ⟨eo,ec,xo,xc,hev,hxv⟩ := SyG.form h.flat.tail
 obtain ⟨sg,⟨ov,os⟩,⟨tv,ts⟩⟩ := G
 simp only at hev hxv
 subst hev hxv
 have OL : os.length ≤ 1048575 := by have := hz.o; simpa [SyG.dat] using this
 have TL : ts.length ≤ 1048575 := by have := hz.t; simpa [SyG.dat] using this
 have HZ := hid hz
 have HBG := hid hbg
 obtain ⟨⟨q0,q1,q2,q3⟩,y0,y1,y2,y3,yl⟩ := four_cb (box_blk h.head)
 simp only at q0 q1 q2 q3
 obtain ⟨i0,hi,hz0,hz1,hz2⟩ := info_parts infoStL
 have C := hid ((h.perm (L' := (ObsG.mk (.slice eo os.length ec) os).rows ++ (rdB Q (SyG.mk sg ⟨.slice eo os.length ec,os⟩ ⟨.slice xo ts.length xc,ts⟩) bg :: (TmG.mk (.slice xo ts.length xc) ts).row :: X)) (by refine perm_count fun f g hf => ?_; simp only [hf.c,hf.a,hf.z,rdB,SyG.rows,ObsG.rows,ObsG.row,ObG.rows,InG.row,StsG.rows,TrsG.rows,StsG.row,TrsG.row,TmG.row,StG.rows,TrG.rows,SmG.rows,CdG.row,SmsG.rows,SmsG.row,itC_append,itC,List.map_append,List.map_cons,List.map_nil,List.flatMap_append,List.flatMap_cons,List.flatMap_nil,List.append_nil,List.nil_append,List.length_append,List.length_cons,List.length_nil,Nat.zero_add,List.cons_append,List.append_assoc,ObG.cells,StG.cells,TrG.cells,SmG.cells]; try omega)).latO (by omega))
 clear h
 go_enter Tryz.func54,Tryz.ntmps54
 go_upto_region 1 with (go_at_call 87; with_reducible refine C.out.mono ?_; rintro e w1 ⟨go,co,pp,o,M,rfl,h1,b1,hpp,hor⟩; have H1 := hid h1; have B1 := hid b1; have OR := hid hor; clear h1 b1 hor)
 have SO : Hid (SmO o.dat 1048575) := hid (by
  rcases OR.out with ⟨e,_⟩ | ⟨_,_,e,_⟩
  ·exact HZ.out.a _ (by rw [e]; simp [SyG.dat])
  ·rw [e]; exact ⟨by simp [obZ,ObG.dat],by simp [obZ,ObG.dat],by simp [obZ,ObG.dat],by simp [obZ,ObG.dat],by simp [obZ,ObG.dat],by simp [obZ,ObG.dat],by simp [obZ,ObG.dat]⟩)
 obtain ⟨pO,qO,dO,⟨kv,ks⟩,⟨vv,vs⟩,⟨uv,us⟩,⟨sv,ss⟩,⟨rv,rs⟩⟩ := o
 obtain ⟨ka,kc,hkv,_,_,_⟩ := ints_read (H1.out.own (r := (InG.mk kv ks).row) (by simp [ObG.rows]))
 obtain ⟨va,vc,hvv,_,_,_⟩ := ints_read (H1.out.own (r := (InG.mk vv vs).row) (by simp [ObG.rows]))
 obtain ⟨ua,uc,huv,_,_,_⟩ := ints_read (H1.out.own (r := (InG.mk uv us).row) (by simp [ObG.rows]))
 obtain ⟨sa,sc,hsv,_,_,_⟩ := row_read StG.cells 4 (fun _ => rfl) (H1.out.own (r := (StsG.mk sv ss).row) (by simp [ObG.rows,StsG.rows]))
 obtain ⟨ra,rc,hrv,_,_,_⟩ := row_read TrG.cells 5 (fun _ => rfl) (H1.out.own (r := (TrsG.mk rv rs).row) (by simp [ObG.rows,TrsG.rows]))
 simp only [InG.row,StsG.row,TrsG.row] at hkv hvv huv hsv hrv
 subst hkv hvv huv hsv hrv
 have SL : ss.length ≤ 1048575 := by have := SO.out.s; simpa [ObG.dat] using this
 clear q0 q1 q2 q3 y0 y1 y2 y3 yl C
 have HA := H1.out.box 71 [.int .i64 0,.int .i64 0,nilV,nilV] (by decide) (by decide)
 have HB0 := HA.new (below1 (w1.alloc (.cells #[.int .i64 0,.int .i64 0,nilV,nilV] 71)) (.cells #[.pointer (some ⟨w1.heap.size,0,none⟩),.pointer (some ⟨w1.heap.size,1,none⟩)] 172))
 have BN := hid ((H1.out.bnew (below1 w1 (.cells #[.int .i64 0,.int .i64 0,nilV,nilV] 71))).trans (HA.bnew (below1 (w1.alloc (.cells #[.int .i64 0,.int .i64 0,nilV,nilV] 71)) (.cells #[.pointer (some ⟨w1.heap.size,0,none⟩),.pointer (some ⟨w1.heap.size,1,none⟩)] 172))))
 have PB : ((w1.alloc (.cells #[.int .i64 0,.int .i64 0,nilV,nilV] 71)).alloc (.cells #[.pointer (some ⟨w1.heap.size,0,none⟩),.pointer (some ⟨w1.heap.size,1,none⟩)] 172)).heap[w1.heap.size + 1]? = some (.cells #[.pointer (some ⟨w1.heap.size,0,none⟩),.pointer (some ⟨w1.heap.size,1,none⟩)] 172 (0,0)) := by
  simpa using heap_alloc_new (w1.alloc (.cells #[.int .i64 0,.int .i64 0,nilV,nilV] 71)) (.cells #[.pointer (some ⟨w1.heap.size,0,none⟩),.pointer (some ⟨w1.heap.size,1,none⟩)] 172)
 have CN := HB0.numbers (P := w1.heap.size + 1) [0,1] 2 (by decide) (by
  intro j hj
  have : j = 0 ∨ j = 1 := by simp at hj; omega
  rcases this with rfl | rfl <;> simp) ⟨_,_,PB,by decide,by decide,by
  intro j hj
  have : j = 0 ∨ j = 1 := by simp at hj; omega
  rcases this with rfl | rfl <;> rfl⟩
 obtain ⟨W0,hW0⟩ : ∃ W,W = (w1.alloc (.cells #[.int .i64 0,.int .i64 0,nilV,nilV] 71)).alloc (.cells #[.pointer (some ⟨w1.heap.size,0,none⟩),.pointer (some ⟨w1.heap.size,1,none⟩)] 172) := ⟨_,rfl⟩
 rw [← hW0] at CN BN
 have PA : (putAll (#[.int .i64 0,.int .i64 0,nilV,nilV] : Array Value) [0,1] fs).toList = [.int .i64 (rdN fs),.int .i64 (rdN fs.tail),nilV,nilV] := by simp [putAll]
 have CN2 : Hid (Calls Tryz.prog 86 #[.pointer (some ⟨F,0,none⟩),.slice (some ⟨w1.heap.size + 1,0,none⟩) 2 2] W0 fun e w' => e = .returned (.tuple #[]) ∧ St w' B F (restAll [0,1] fs) (badAll (false || os.isEmpty) [0,1] fs) (boxR 71 w1.heap.size [.int .i64 (rdN fs),.int .i64 (rdN fs.tail),nilV,nilV] :: (ObsG.mk (.slice (some ⟨go,0,none⟩) (pp.length + 1) co) (pp ++ [(ObG.mk pO qO dO ⟨.slice ka ks.length kc,ks⟩ ⟨.slice va vs.length vc,vs⟩ ⟨.slice ua us.length uc,us⟩ ⟨.slice sa ss.length sc,ss⟩ ⟨.slice ra rs.length rc,rs⟩)])).row :: ((ObG.mk pO qO dO ⟨.slice ka ks.length kc,ks⟩ ⟨.slice va vs.length vc,vs⟩ ⟨.slice ua us.length uc,us⟩ ⟨.slice sa ss.length sc,ss⟩ ⟨.slice ra rs.length rc,rs⟩).rows ++ M)) ∧ Bm B W0 w') := hid (by
  refine CN.mono ?_
  rintro e w' ⟨k1,k2,k3⟩
  rw [PA] at k2
  exact ⟨k1,k2,k3⟩)
 have HW0 := hid hW0
 clear hW0 PB HA HB0 CN PA
 go_upto_region 3 with fail
 rw [← HW0.out]
 with_reducible refine CN2.out.mono ?_
 rintro e w2 ⟨rfl,h4,b4⟩
 have SN := hid h4
 have B4 := hid b4
 clear h4 b4 HW0 CN2
 have SW : Hid (St w2 B F (restAll [0,1] fs) (badAll (false || os.isEmpty) [0,1] fs) ((StsG.mk (.slice sa ss.length sc) ss).row :: (ObsG.mk (.slice (some ⟨go,0,none⟩) (pp.length + 1) co) (pp ++ [(ObG.mk pO qO dO ⟨.slice ka ks.length kc,ks⟩ ⟨.slice va vs.length vc,vs⟩ ⟨.slice ua us.length uc,us⟩ ⟨.slice sa ss.length sc,ss⟩ ⟨.slice ra rs.length rc,rs⟩)])).row :: (boxR 71 w1.heap.size [.int .i64 (rdN fs),.int .i64 (rdN fs.tail),nilV,nilV] :: (InG.mk (.slice ka ks.length kc) ks).row :: (InG.mk (.slice va vs.length vc) vs).row :: (InG.mk (.slice ua us.length uc) us).row :: (ss.flatMap StG.rows ++ ((TrsG.mk (.slice ra rs.length rc) rs).rows ++ M))))) := hid (SN.out.perm (by refine perm_count fun f g hf => ?_; simp only [hf.c,hf.a,hf.z,rdB,SyG.rows,ObsG.rows,ObsG.row,ObG.rows,InG.row,StsG.rows,TrsG.rows,StsG.row,TrsG.row,TmG.row,StG.rows,TrG.rows,SmG.rows,CdG.row,SmsG.rows,SmsG.row,itC_append,itC,List.map_append,List.map_cons,List.map_nil,List.flatMap_append,List.flatMap_cons,List.flatMap_nil,List.append_nil,List.nil_append,List.length_append,List.length_cons,List.length_nil,Nat.zero_add,List.cons_append,List.append_assoc,ObG.cells,StG.cells,TrG.cells,SmG.cells]; try omega))
 have B3 := hid ((B1.out.trans BN.out).trans B4.out)
 clear SN H1 B1 BN B4
 obtain ⟨rst,hrst⟩ : ∃ x,x = restAll [0,1] fs := ⟨_,rfl⟩
 obtain ⟨bd,hbd⟩ : ∃ x,x = badAll (false || os.isEmpty) [0,1] fs := ⟨_,rfl⟩
 obtain ⟨z0,hz0'⟩ : ∃ x,x = rdN fs := ⟨_,rfl⟩
 obtain ⟨z1,hz1'⟩ : ∃ x,x = rdN fs.tail := ⟨_,rfl⟩
 obtain ⟨I5,hI5⟩ : ∃ x,x = w1.heap.size := ⟨_,rfl⟩
 rw [← hrst,← hbd,← hz0',← hz1',← hI5] at SW
 rw [← hI5]
 have HRST := hid hrst
 have HBD := hid hbd
 have HZ0 := hid hz0'
 have HZ1 := hid hz1'
 clear hrst hbd hz0' hz1' hI5
 go_upto_region 3 with fail
 have CS : Hid (∀ (X : World) (fs0 : List (List UInt8)) (bd0 : Bool) (T : List Rw),St X B F fs0 bd0 ((ObsG.mk (.slice (some ⟨go,0,none⟩) (pp.length + 1) co) (pp ++ [(ObG.mk pO qO dO ⟨.slice ka ks.length kc,ks⟩ ⟨.slice va vs.length vc,vs⟩ ⟨.slice ua us.length uc,us⟩ ⟨.slice sa ss.length sc,ss⟩ ⟨.slice ra rs.length rc,rs⟩)])).row :: boxR 71 I5 [.int .i64 z0,.int .i64 z1,nilV,nilV] :: T) → X.cell? ⟨go,pp.length * 8 + 6,none⟩ = some (.slice sa ss.length sc) ∧ X.cell? ⟨I5,0,none⟩ = some (.int .i64 z0) ∧ X.cell? ⟨I5,1,none⟩ = some (.int .i64 z1) ∧ X.cell? ⟨I5,2,none⟩ = some nilV ∧ X.cell? ⟨I5,3,none⟩ = some nilV) := hid (fun X _ _ _ hX => ⟨ob_cell hX.head 6 (by omega),(four_cb (box_blk hX.tail.head)).1⟩)
 have KD : Hid (w2.drew.cell? ⟨go,pp.length * 8 + 6,none⟩ = some (.slice sa ss.length sc) ∧ w2.drew.cell? ⟨I5,0,none⟩ = some (.int .i64 z0) ∧ w2.drew.cell? ⟨I5,1,none⟩ = some (.int .i64 z1) ∧ w2.drew.cell? ⟨I5,2,none⟩ = some nilV ∧ w2.drew.cell? ⟨I5,3,none⟩ = some nilV) := hid (CS.out _ _ _ _ SW.out.tail.drew)
 have H6 := SW
 have K6 : Hid (w2.cell? ⟨go,pp.length * 8 + 6,none⟩ = some (.slice sa ss.length sc) ∧ w2.cell? ⟨I5,0,none⟩ = some (.int .i64 z0) ∧ w2.cell? ⟨I5,1,none⟩ = some (.int .i64 z1) ∧ w2.cell? ⟨I5,2,none⟩ = some nilV ∧ w2.cell? ⟨I5,3,none⟩ = some nilV) := hid (CS.out _ _ _ _ SW.out.tail)
 refine wp_region_noPanic ?_
 refine wp_region_till (st := 12) (S := fun u => u.cell? ⟨go,pp.length * 8 + 6,none⟩ = some (.slice sa ss.length sc) ∧ u.cell? ⟨I5,0,none⟩ = some (.int .i64 z0) ∧ u.cell? ⟨I5,1,none⟩ = some (.int .i64 z1) ∧ u.cell? ⟨I5,2,none⟩ = some nilV ∧ u.cell? ⟨I5,3,none⟩ = some nilV) (by kernel_rfl) ?_
 refine wpTill_take (i := 0) (d := some 18) (v := ?_) rfl rfl (by kernel_rfl) (by kernel_rfl) (by kernel_rfl) (by kernel_rfl) (by kernel_rfl) (fun _ _ _ h => h) (Or.inl ⟨by rfl,?_⟩) KD.out ?_
 case refine_2 => (intro u hu; obtain ⟨s0,s1,s2,s3,s4⟩ := hu; go_simp; first | done | with_reducible rfl)
 simp only [Act.put,List.setIfInBounds_toArray,List.set_cons_zero,List.set_cons_succ]
 refine wpTill_take (i := 1) (d := some 19) (v := ?_) rfl rfl (by kernel_rfl) (by kernel_rfl) (by kernel_rfl) (by kernel_rfl) (by kernel_rfl) (fun _ _ _ h => h) (Or.inl ⟨by rfl,?_⟩) KD.out ?_
 case refine_2 => (intro u hu; obtain ⟨s0,s1,s2,s3,s4⟩ := hu; go_simp; first | done | with_reducible rfl)
 simp only [Act.put,List.setIfInBounds_toArray,List.set_cons_zero,List.set_cons_succ]
 refine wpTill_take (i := 2) (d := some 20) (v := ?_) rfl rfl (by kernel_rfl) (by kernel_rfl) (by kernel_rfl) (by kernel_rfl) (by kernel_rfl) (fun _ _ _ h => h) (Or.inl ⟨by rfl,?_⟩) KD.out ?_
 case refine_2 => (intro u hu; obtain ⟨s0,s1,s2,s3,s4⟩ := hu; go_simp; first | done | with_reducible rfl)
 simp only [Act.put,List.setIfInBounds_toArray,List.set_cons_zero,List.set_cons_succ]
 refine wpTill_take (i := 3) (d := some 21) (v := ?_) rfl rfl (by kernel_rfl) (by kernel_rfl) (by kernel_rfl) (by kernel_rfl) (by kernel_rfl) (fun _ _ _ h => h) (Or.inl ⟨by rfl,?_⟩) KD.out ?_
 case refine_2 => (intro u hu; obtain ⟨s0,s1,s2,s3,s4⟩ := hu; go_simp; first | done | with_reducible rfl)
 simp only [Act.put,List.setIfInBounds_toArray,List.set_cons_zero,List.set_cons_succ]
 refine wpTill_take (i := 4) (d := some 22) (v := ?_) rfl rfl (by kernel_rfl) (by kernel_rfl) (by kernel_rfl) (by kernel_rfl) (by kernel_rfl) (fun _ _ _ h => h) (Or.inl ⟨by rfl,?_⟩) KD.out ?_
 case refine_2 => (intro u hu; obtain ⟨s0,s1,s2,s3,s4⟩ := hu; go_simp; first | done | with_reducible rfl)
 simp only [Act.put,List.setIfInBounds_toArray,List.set_cons_zero,List.set_cons_succ]
 refine wpTill_take (i := 5) (d := some 23) (v := ?_) rfl rfl (by kernel_rfl) (by kernel_rfl) (by kernel_rfl) (by kernel_rfl) (by kernel_rfl) (fun _ _ _ h => h) (Or.inl ⟨by rfl,?_⟩) KD.out ?_
 case refine_2 => (intro u hu; obtain ⟨s0,s1,s2,s3,s4⟩ := hu; go_simp; first | done | with_reducible rfl)
 simp only [Act.put,List.setIfInBounds_toArray,List.set_cons_zero,List.set_cons_succ]
 refine wpTill_take (i := 6) (d := some 24) (v := ?_) rfl rfl (by kernel_rfl) (by kernel_rfl) (by kernel_rfl) (by kernel_rfl) (by kernel_rfl) (fun _ _ _ h => h) (Or.inl ⟨by rfl,?_⟩) KD.out ?_
 case refine_2 => (intro u hu; obtain ⟨s0,s1,s2,s3,s4⟩ := hu; go_simp; first | done | with_reducible rfl)
 simp only [Act.put,List.setIfInBounds_toArray,List.set_cons_zero,List.set_cons_succ]
 obtain ⟨U,hU⟩ : ∃ U,U = (w2.alloc (.cells #[.int .i64 z0,.int .i64 z1,nilV,nilV] 71)).drew := ⟨_,rfl⟩
 have BU : Hid (Below w2.heap.size w2 U) := hid (by rw [hU]; exact (below1 _ _).drew)
 have HU := hid (H6.out.new BU.out)
 have KU := hid (CS.out U _ _ _ HU.out.tail)
 have NWU : Hid (∀ j u,[.int .i64 z0,.int .i64 z1,nilV,nilV][j]? = some u → U.cell? ((⟨w2.heap.size,0,none⟩ : Addr).add j) = some u) := hid (World.news_of_block (cs := #[.int .i64 z0,.int .i64 z1,nilV,nilV]) (by rw [hU]; exact heap_alloc_new w2 _))
 refine wpTill_step (i := 7) (by kernel_rfl) rfl (fun K hK => ?_)
 go_simp
 rw [← hU]
 refine hK _ _ KU.out ?_
 clear hU hK K
 refine wpTill_step (i := 8) (by kernel_rfl) rfl (fun K hK => ?_)
 refine step_append_lies _ (by rfl) _ _ _ (by rfl) B 71 i0 _ 4 64 Tryz.underlying61 hi hz0 hz1 hz2 rfl (by omega) (.slice sa ss.length sc) ss.length (ss.flatMap StG.cells) (by simp [Act.eval]) HU.out.head ⟨w2.heap.size,0,none⟩ 1 1 [.int .i64 z0,.int .i64 z1,nilV,nilV] (by simp [Act.eval]) (by simp) NWU.out (by intro u hu; simp at hu; rcases hu with rfl | rfl | rfl <;> rfl) (by omega) (by unfold maxLen; omega) (by omega) HU.out.hi U.heap.size rfl ?_
 intro gg cap5 w5 hown hgrow hat hlt5
 have H5 := hid (HU.out.app hgrow hown hat)
 have B5 := hid (HU.out.bapp hgrow)
 have K5 := hid (CS.out w5 _ _ _ H5.out.tail)
 clear hown hgrow hat
 refine hK _ _ K5.out ?_
 clear hK K
 refine wpTill_step (i := 9) (by kernel_rfl) rfl (fun K hK => ?_)
 go_simp
 refine hK _ _ K5.out ?_
 clear hK K
 refine wpTill_step (i := 10) (by kernel_rfl) rfl (fun K hK => ?_)
 go_simp
 refine hK _ _ K5.out ?_
 clear hK K
 refine wpTill_step (i := 11) (by kernel_rfl) rfl (fun K hK => ?_)
 go_simp
 refine hK _ _ K5.out ?_
 clear hK K
 obtain ⟨c5,c6,c7,c8,c9⟩ := K5.out
 obtain ⟨fz5,fl5⟩ := ob_froz H5.out.tail.head (pp.length * 8 + 6)
 refine wpTill_last (by kernel_rfl) rfl (by kernel_rfl) (fun K hK => ?_)
 go_simp
 refine hK _ _ ?_
 clear hK K
 refine wpTill_done (by kernel_rfl) ?_ _
 refine NoPanic.normal ?_
 have H7 : Hid (St (w5.setCell ⟨go,pp.length * 8 + 6,none⟩ (.slice (some ⟨gg,0,none⟩) (ss.length + 1) cap5)) B F rst bd ((ObsG.mk (.slice (some ⟨go,0,none⟩) (pp.length + 1) co) (pp ++ [(ObG.mk pO qO dO ⟨.slice ka ks.length kc,ks⟩ ⟨.slice va vs.length vc,vs⟩ ⟨.slice ua us.length uc,us⟩ ⟨(.slice (some ⟨gg,0,none⟩) (ss.length + 1) cap5),ss ++ [⟨z0,z1,⟨nilV,[]⟩,⟨nilV,[]⟩⟩]⟩ ⟨.slice ra rs.length rc,rs⟩)])).row :: (⟨71,4,(.slice (some ⟨gg,0,none⟩) (ss.length + 1) cap5),ss.length + 1,(ss.flatMap StG.cells) ++ [.int .i64 z0,.int .i64 z1,nilV,nilV]⟩ : Rw) :: (boxR 71 I5 [.int .i64 z0,.int .i64 z1,nilV,nilV] :: (InG.mk (.slice ka ks.length kc) ks).row :: (InG.mk (.slice va vs.length vc) vs).row :: (InG.mk (.slice ua us.length uc) us).row :: (ss.flatMap StG.rows ++ ((TrsG.mk (.slice ra rs.length rc) rs).rows ++ M))))) := hid ((H5.out.perm (.swap _ _ _)).obSet (o' := (ObG.mk pO qO dO ⟨.slice ka ks.length kc,ks⟩ ⟨.slice va vs.length vc,vs⟩ ⟨.slice ua us.length uc,us⟩ ⟨(.slice (some ⟨gg,0,none⟩) (ss.length + 1) cap5),ss ++ [⟨z0,z1,⟨nilV,[]⟩,⟨nilV,[]⟩⟩]⟩ ⟨.slice ra rs.length rc,rs⟩)) 6 (.slice (some ⟨gg,0,none⟩) (ss.length + 1) cap5) (by omega) rfl)
 have B7 := hid ((B3.out.trans (SW.out.bnew BU.out)).trans (B5.out.trans ((H5.out.perm (.swap _ _ _)).bobSet (pp.length * 8 + 6) (.slice (some ⟨gg,0,none⟩) (ss.length + 1) cap5))))
 have H8 := hid ((H7.out.rot2).tail)
 have H9 := hid (H8.out.nils (M := [(SmsG.mk nilV []).row,(SmsG.mk nilV []).row]) (by intro r hr; simp only [List.mem_cons,List.not_mem_nil,or_false] at hr; rcases hr with rfl | rfl <;> exact ⟨rfl,rfl,rfl,by decide,by decide⟩))
 clear H5 H6 HU K5 K6 KU KD CS NWU B5 BU c5 c6 c7 c8 c9 fz5 fl5 B3 SW H7 H8
 go_wp2_with fail
 go_end0
 rcases OR.out with ⟨e,hv,hM⟩ | ⟨e,e2,e3,e4⟩
 ·subst e
  obtain ⟨rfl,_,rfl⟩ : eo = some ⟨go,0,none⟩ ∧ (pp ++ [(ObG.mk pO qO dO ⟨.slice ka ks.length kc,ks⟩ ⟨.slice va vs.length vc,vs⟩ ⟨.slice ua us.length uc,us⟩ ⟨.slice sa ss.length sc,ss⟩ ⟨.slice ra rs.length rc,rs⟩)]).length = pp.length + 1 ∧ ec = co := by simpa using hv
  have hb : bg = true := by
   cases bg with
   | true => rfl
   | false => have := HBG.out rfl; simp [SyG.dat] at this
  subst hb hM
  have LL := lineSta (SyG.mk sg ⟨.slice (some ⟨go,0,none⟩) (pp ++ [(ObG.mk pO qO dO ⟨.slice ka ks.length kc,ks⟩ ⟨.slice va vs.length vc,vs⟩ ⟨.slice ua us.length uc,us⟩ ⟨.slice sa ss.length sc,ss⟩ ⟨.slice ra rs.length rc,rs⟩)]).length ec,pp ++ [(ObG.mk pO qO dO ⟨.slice ka ks.length kc,ks⟩ ⟨.slice va vs.length vc,vs⟩ ⟨.slice ua us.length uc,us⟩ ⟨.slice sa ss.length sc,ss⟩ ⟨.slice ra rs.length rc,rs⟩)]⟩ ⟨.slice xo ts.length xc,ts⟩).dat fs true HBG.out
  refine RdR.of B7.out H9.out (by repeat' (first | exact List.Sublist.refl _ | refine List.sublist_append_of_sublist_right ?_ | refine List.Sublist.cons _ ?_)) (fun hx => ?_) (fun hx => ?_)
  ·rw [LL,if_pos]
   revert hx; rw [HRST.out,HBD.out]; simp [SyG.dat,badAll,restAll]
  ·refine ⟨SyG.mk sg ⟨.slice (some ⟨go,0,none⟩) (pp.length + 1) ec,pp ++ [(ObG.mk pO qO dO ⟨.slice ka ks.length kc,ks⟩ ⟨.slice va vs.length vc,vs⟩ ⟨.slice ua us.length uc,us⟩ ⟨(.slice (some ⟨gg,0,none⟩) (ss.length + 1) cap5),ss ++ [⟨z0,z1,⟨nilV,[]⟩,⟨nilV,[]⟩⟩]⟩ ⟨.slice ra rs.length rc,rs⟩)]⟩ ⟨.slice xo ts.length xc,ts⟩,?_,?_⟩
   ·rw [LL,if_neg]
    ·simp only [SyG.dat,List.map_append,List.map_cons,List.map_nil,oneOb_snoc]
     rw [← HZ0.out,← HZ1.out]; first | rfl | simp [ObG.dat,StG.dat,TrG.dat,SmsG.dat,SmG.dat]
    ·rw [Bool.not_eq_true]
     revert hx; rw [HRST.out,HBD.out]; simp [SyG.dat,badAll,restAll]
   ·refine perm_count fun f g hf => ?_; simp only [hf.c,hf.a,hf.z,rdB,SyG.rows,ObsG.rows,ObsG.row,ObG.rows,InG.row,StsG.rows,TrsG.rows,StsG.row,TrsG.row,TmG.row,StG.rows,TrG.rows,SmG.rows,CdG.row,SmsG.rows,SmsG.row,itC_append,itC,List.map_append,List.map_cons,List.map_nil,List.flatMap_append,List.flatMap_cons,List.flatMap_nil,List.append_nil,List.nil_append,List.length_append,List.length_cons,List.length_nil,Nat.zero_add,List.cons_append,List.append_assoc,ObG.cells,StG.cells,TrG.cells,SmG.cells]; try omega
 ·subst e
  subst e4
  refine RdR.of B7.out H9.out (by repeat' (first | exact List.Sublist.refl _ | refine List.sublist_append_of_sublist_right ?_ | refine List.Sublist.cons _ ?_)) (fun _ => line_nil (by decide) (by decide) (by decide) (by simp [SyG.dat])) (fun hx => absurd hx (by rw [HBD.out]; simp [badAll]))
end Go.Proofs.YtkdgkomnbjepdaaGreatDoor
namespace Go.Proofs.YtkdgkomnbjepdaaGreatDoor
open Go.RowKit Go.Sort
set_option linter.unusedVariables false
set_option linter.unusedSimpArgs false
attribute [local go_sem ↓] Go.wp_at_zero Go.wp_at_succ
set_option maxRecDepth 100000 in
set_option maxHeartbeats 6400000 in
theorem readOn_any {w : World} {B F Q : Nat} {G : SyG} {bg : Bool} {X : List Rw} {fs : List (List UInt8)} (h : St w B F fs false (rdB Q G bg :: (G.rows ++ X))) (hz : SmD G.dat 1048575) (hbg : bg = false → G.dat.obs = []) : Calls Tryz.prog 57 #[.pointer (some ⟨Q,0,none⟩),.pointer (some ⟨F,0,none⟩)] w fun e w' => RdR B F Q G bg X kOn fs w e w' := by
 obtain ⟨eo,ec,xo,xc,hev,hxv⟩ := SyG.form h.flat.tail
 obtain ⟨sg,⟨ov,os⟩,⟨tv,ts⟩⟩ := G
 simp only at hev hxv
 subst hev hxv
 have OL : os.length ≤ 1048575 := by have := hz.o; simpa [SyG.dat] using this
 have TL : ts.length ≤ 1048575 := by have := hz.t; simpa [SyG.dat] using this
 have HZ := hid hz
 have HBG := hid hbg
 obtain ⟨⟨q0,q1,q2,q3⟩,y0,y1,y2,y3,yl⟩ := four_cb (box_blk h.head)
 simp only at q0 q1 q2 q3
 obtain ⟨i0,hi,hz0,hz1,hz2⟩ := info_parts infoTrL
 have C := hid ((h.perm (L' := (ObsG.mk (.slice eo os.length ec) os).rows ++ (rdB Q (SyG.mk sg ⟨.slice eo os.length ec,os⟩ ⟨.slice xo ts.length xc,ts⟩) bg :: (TmG.mk (.slice xo ts.length xc) ts).row :: X)) (by refine perm_count fun f g hf => ?_; simp only [hf.c,hf.a,hf.z,rdB,SyG.rows,ObsG.rows,ObsG.row,ObG.rows,InG.row,StsG.rows,TrsG.rows,StsG.row,TrsG.row,TmG.row,StG.rows,TrG.rows,SmG.rows,CdG.row,SmsG.rows,SmsG.row,itC_append,itC,List.map_append,List.map_cons,List.map_nil,List.flatMap_append,List.flatMap_cons,List.flatMap_nil,List.append_nil,List.nil_append,List.length_append,List.length_cons,List.length_nil,Nat.zero_add,List.cons_append,List.append_assoc,ObG.cells,StG.cells,TrG.cells,SmG.cells]; try omega)).latO (by omega))
 clear h
 go_enter Tryz.func57,Tryz.ntmps57
 go_upto_region 1 with (go_at_call 87; with_reducible refine C.out.mono ?_; rintro e w1 ⟨go,co,pp,o,M,rfl,h1,b1,hpp,hor⟩; have H1 := hid h1; have B1 := hid b1; have OR := hid hor; clear h1 b1 hor)
 have SO : Hid (SmO o.dat 1048575) := hid (by
  rcases OR.out with ⟨e,_⟩ | ⟨_,_,e,_⟩
  ·exact HZ.out.a _ (by rw [e]; simp [SyG.dat])
  ·rw [e]; exact ⟨by simp [obZ,ObG.dat],by simp [obZ,ObG.dat],by simp [obZ,ObG.dat],by simp [obZ,ObG.dat],by simp [obZ,ObG.dat],by simp [obZ,ObG.dat],by simp [obZ,ObG.dat]⟩)
 obtain ⟨pO,qO,dO,⟨kv,ks⟩,⟨vv,vs⟩,⟨uv,us⟩,⟨sv,ss⟩,⟨rv,rs⟩⟩ := o
 obtain ⟨ka,kc,hkv,_,_,_⟩ := ints_read (H1.out.own (r := (InG.mk kv ks).row) (by simp [ObG.rows]))
 obtain ⟨va,vc,hvv,_,_,_⟩ := ints_read (H1.out.own (r := (InG.mk vv vs).row) (by simp [ObG.rows]))
 obtain ⟨ua,uc,huv,_,_,_⟩ := ints_read (H1.out.own (r := (InG.mk uv us).row) (by simp [ObG.rows]))
 obtain ⟨sa,sc,hsv,_,_,_⟩ := row_read StG.cells 4 (fun _ => rfl) (H1.out.own (r := (StsG.mk sv ss).row) (by simp [ObG.rows,StsG.rows]))
 obtain ⟨ra,rc,hrv,_,_,_⟩ := row_read TrG.cells 5 (fun _ => rfl) (H1.out.own (r := (TrsG.mk rv rs).row) (by simp [ObG.rows,TrsG.rows]))
 simp only [InG.row,StsG.row,TrsG.row] at hkv hvv huv hsv hrv
 subst hkv hvv huv hsv hrv
 have SL : rs.length ≤ 1048575 := by have := SO.out.t; simpa [ObG.dat] using this
 clear q0 q1 q2 q3 y0 y1 y2 y3 yl C
 have HA := H1.out.box 75 [.int .i64 0,.int .i64 0,nilV,.int .i64 0,nilV] (by decide) (by decide)
 have HB0 := HA.new (below1 (w1.alloc (.cells #[.int .i64 0,.int .i64 0,nilV,.int .i64 0,nilV] 75)) (.cells #[.pointer (some ⟨w1.heap.size,0,none⟩),.pointer (some ⟨w1.heap.size,1,none⟩),.pointer (some ⟨w1.heap.size,3,none⟩)] 172))
 have BN := hid ((H1.out.bnew (below1 w1 (.cells #[.int .i64 0,.int .i64 0,nilV,.int .i64 0,nilV] 75))).trans (HA.bnew (below1 (w1.alloc (.cells #[.int .i64 0,.int .i64 0,nilV,.int .i64 0,nilV] 75)) (.cells #[.pointer (some ⟨w1.heap.size,0,none⟩),.pointer (some ⟨w1.heap.size,1,none⟩),.pointer (some ⟨w1.heap.size,3,none⟩)] 172))))
 have PB : ((w1.alloc (.cells #[.int .i64 0,.int .i64 0,nilV,.int .i64 0,nilV] 75)).alloc (.cells #[.pointer (some ⟨w1.heap.size,0,none⟩),.pointer (some ⟨w1.heap.size,1,none⟩),.pointer (some ⟨w1.heap.size,3,none⟩)] 172)).heap[w1.heap.size + 1]? = some (.cells #[.pointer (some ⟨w1.heap.size,0,none⟩),.pointer (some ⟨w1.heap.size,1,none⟩),.pointer (some ⟨w1.heap.size,3,none⟩)] 172 (0,0)) := by
  simpa using heap_alloc_new (w1.alloc (.cells #[.int .i64 0,.int .i64 0,nilV,.int .i64 0,nilV] 75)) (.cells #[.pointer (some ⟨w1.heap.size,0,none⟩),.pointer (some ⟨w1.heap.size,1,none⟩),.pointer (some ⟨w1.heap.size,3,none⟩)] 172)
 have CN := HB0.numbers (P := w1.heap.size + 1) [0,1,3] 3 (by decide) (by
  intro j hj
  have : j = 0 ∨ j = 1 ∨ j = 2 := by simp at hj; omega
  rcases this with rfl | rfl | rfl <;> simp) ⟨_,_,PB,by decide,by decide,by
  intro j hj
  have : j = 0 ∨ j = 1 ∨ j = 2 := by simp at hj; omega
  rcases this with rfl | rfl | rfl <;> rfl⟩
 obtain ⟨W0,hW0⟩ : ∃ W,W = (w1.alloc (.cells #[.int .i64 0,.int .i64 0,nilV,.int .i64 0,nilV] 75)).alloc (.cells #[.pointer (some ⟨w1.heap.size,0,none⟩),.pointer (some ⟨w1.heap.size,1,none⟩),.pointer (some ⟨w1.heap.size,3,none⟩)] 172) := ⟨_,rfl⟩
 rw [← hW0] at CN BN
 have PA : (putAll (#[.int .i64 0,.int .i64 0,nilV,.int .i64 0,nilV] : Array Value) [0,1,3] fs).toList = [.int .i64 (rdN fs),.int .i64 (rdN fs.tail),nilV,.int .i64 (rdN fs.tail.tail),nilV] := by simp [putAll]
 have CN2 : Hid (Calls Tryz.prog 86 #[.pointer (some ⟨F,0,none⟩),.slice (some ⟨w1.heap.size + 1,0,none⟩) 3 3] W0 fun e w' => e = .returned (.tuple #[]) ∧ St w' B F (restAll [0,1,3] fs) (badAll (false || os.isEmpty) [0,1,3] fs) (boxR 75 w1.heap.size [.int .i64 (rdN fs),.int .i64 (rdN fs.tail),nilV,.int .i64 (rdN fs.tail.tail),nilV] :: (ObsG.mk (.slice (some ⟨go,0,none⟩) (pp.length + 1) co) (pp ++ [(ObG.mk pO qO dO ⟨.slice ka ks.length kc,ks⟩ ⟨.slice va vs.length vc,vs⟩ ⟨.slice ua us.length uc,us⟩ ⟨.slice sa ss.length sc,ss⟩ ⟨.slice ra rs.length rc,rs⟩)])).row :: ((ObG.mk pO qO dO ⟨.slice ka ks.length kc,ks⟩ ⟨.slice va vs.length vc,vs⟩ ⟨.slice ua us.length uc,us⟩ ⟨.slice sa ss.length sc,ss⟩ ⟨.slice ra rs.length rc,rs⟩).rows ++ M)) ∧ Bm B W0 w') := hid (by
  refine CN.mono ?_
  rintro e w' ⟨k1,k2,k3⟩
  rw [PA] at k2
  exact ⟨k1,k2,k3⟩)
 have HW0 := hid hW0
 clear hW0 PB HA HB0 CN PA
 go_upto_region 3 with fail
 rw [← HW0.out]
 with_reducible refine CN2.out.mono ?_
 rintro e w2 ⟨rfl,h4,b4⟩
 have SN := hid h4
 have B4 := hid b4
 clear h4 b4 HW0 CN2
 have B3 := hid ((B1.out.trans BN.out).trans B4.out)
 clear H1 B1 BN B4
 obtain ⟨rst,hrst⟩ : ∃ x,x = restAll [0,1,3] fs := ⟨_,rfl⟩
 obtain ⟨bd,hbd⟩ : ∃ x,x = badAll (false || os.isEmpty) [0,1,3] fs := ⟨_,rfl⟩
 obtain ⟨z0,hz0'⟩ : ∃ x,x = rdN fs := ⟨_,rfl⟩
 obtain ⟨z1,hz1'⟩ : ∃ x,x = rdN fs.tail := ⟨_,rfl⟩
 obtain ⟨z2,hz2'⟩ : ∃ x,x = rdN fs.tail.tail := ⟨_,rfl⟩
 obtain ⟨I5,hI5⟩ : ∃ x,x = w1.heap.size := ⟨_,rfl⟩
 rw [← hrst,← hbd,← hz0',← hz1',← hz2',← hI5] at SN
 rw [← hI5]
 have HRST := hid hrst
 have HBD := hid hbd
 have HZ0 := hid hz0'
 have HZ1 := hid hz1'
 have HZ2 := hid hz2'
 clear hrst hbd hz0' hz1' hz2' hI5
 obtain ⟨e0,e1,e2,e3,e4⟩ := five_cc (box_blk SN.out.head)
 have el := lt_of_block (box_blk SN.out.head)
 have CO := hid SN.out.code
 go_upto_region 4 with (go_at_call 91; with_reducible refine CO.out.mono ?_; rintro e w3 ⟨ca,cn,cc,rfl,h8,b8⟩; have H8 := hid h8; have B8 := hid b8; obtain ⟨j0,j1,j2,j3,j4⟩ := five_cc (box_blk h8.tail.head); have jl := lt_of_block (box_blk h8.tail.head); have f2 : w3.frozen? ⟨I5,2,none⟩ = false := Lib.frozen_of_heap (box_blk h8.tail.head) 2; clear h8 b8)
 have SX := hid ((H8.out.perm (.swap _ _ _)).setBox 2 (.slice ca cn cc))
 have B9 := hid ((B3.out.trans B8.out).trans ((H8.out.perm (.swap _ _ _)).bsetBox 2 (.slice ca cn cc)))
 obtain ⟨W4,hW4⟩ : ∃ W,W = w3.setCell ⟨I5,2,none⟩ (.slice ca cn cc) := ⟨_,rfl⟩
 rw [← hW4] at SX B9 ⊢
 clear hW4 H8 B8 B3 CO SN e0 e1 e2 e3 e4 el j0 j1 j2 j3 j4 jl f2
 have B3 := B9
 clear B9
 have SW : Hid (St W4 B F [] (bd || !rst.all okI) ((TrsG.mk (.slice ra rs.length rc) rs).row :: (ObsG.mk (.slice (some ⟨go,0,none⟩) (pp.length + 1) co) (pp ++ [(ObG.mk pO qO dO ⟨.slice ka ks.length kc,ks⟩ ⟨.slice va vs.length vc,vs⟩ ⟨.slice ua us.length uc,us⟩ ⟨.slice sa ss.length sc,ss⟩ ⟨.slice ra rs.length rc,rs⟩)])).row :: (boxR 75 I5 [.int .i64 z0,.int .i64 z1,.slice ca cn cc,.int .i64 z2,nilV] :: (CdG.mk (.slice ca cn cc) (rst.map rdI)).row :: (InG.mk (.slice ka ks.length kc) ks).row :: (InG.mk (.slice va vs.length vc) vs).row :: (InG.mk (.slice ua us.length uc) us).row :: ((StsG.mk (.slice sa ss.length sc) ss).rows ++ (rs.flatMap TrG.rows ++ M))))) := hid (St.perm (L := boxR 75 I5 [.int .i64 z0,.int .i64 z1,.slice ca cn cc,.int .i64 z2,nilV] :: (CdG.mk (.slice ca cn cc) (rst.map rdI)).row :: (ObsG.mk (.slice (some ⟨go,0,none⟩) (pp.length + 1) co) (pp ++ [(ObG.mk pO qO dO ⟨.slice ka ks.length kc,ks⟩ ⟨.slice va vs.length vc,vs⟩ ⟨.slice ua us.length uc,us⟩ ⟨.slice sa ss.length sc,ss⟩ ⟨.slice ra rs.length rc,rs⟩)])).row :: ((ObG.mk pO qO dO ⟨.slice ka ks.length kc,ks⟩ ⟨.slice va vs.length vc,vs⟩ ⟨.slice ua us.length uc,us⟩ ⟨.slice sa ss.length sc,ss⟩ ⟨.slice ra rs.length rc,rs⟩).rows ++ M)) SX.out (by refine perm_count fun f g hf => ?_; simp only [hf.c,hf.a,hf.z,rdB,SyG.rows,ObsG.rows,ObsG.row,ObG.rows,InG.row,StsG.rows,TrsG.rows,StsG.row,TrsG.row,TmG.row,StG.rows,TrG.rows,SmG.rows,CdG.row,SmsG.rows,SmsG.row,itC_append,itC,List.map_append,List.map_cons,List.map_nil,List.flatMap_append,List.flatMap_cons,List.flatMap_nil,List.append_nil,List.nil_append,List.length_append,List.length_cons,List.length_nil,Nat.zero_add,List.cons_append,List.append_assoc,ObG.cells,StG.cells,TrG.cells,SmG.cells]; try omega))
 clear SX
 have CS : Hid (∀ (X : World) (fs0 : List (List UInt8)) (bd0 : Bool) (T : List Rw),St X B F fs0 bd0 ((ObsG.mk (.slice (some ⟨go,0,none⟩) (pp.length + 1) co) (pp ++ [(ObG.mk pO qO dO ⟨.slice ka ks.length kc,ks⟩ ⟨.slice va vs.length vc,vs⟩ ⟨.slice ua us.length uc,us⟩ ⟨.slice sa ss.length sc,ss⟩ ⟨.slice ra rs.length rc,rs⟩)])).row :: boxR 75 I5 [.int .i64 z0,.int .i64 z1,.slice ca cn cc,.int .i64 z2,nilV] :: T) → X.cell? ⟨go,pp.length * 8 + 7,none⟩ = some (.slice ra rs.length rc) ∧ X.cell? ⟨I5,0,none⟩ = some (.int .i64 z0) ∧ X.cell? ⟨I5,1,none⟩ = some (.int .i64 z1) ∧ X.cell? ⟨I5,2,none⟩ = some (.slice ca cn cc) ∧ X.cell? ⟨I5,3,none⟩ = some (.int .i64 z2) ∧ X.cell? ⟨I5,4,none⟩ = some nilV) := hid (fun X _ _ _ hX => ⟨ob_cell hX.head 7 (by omega),five_cc (box_blk hX.tail.head)⟩)
 have KD : Hid (W4.drew.cell? ⟨go,pp.length * 8 + 7,none⟩ = some (.slice ra rs.length rc) ∧ W4.drew.cell? ⟨I5,0,none⟩ = some (.int .i64 z0) ∧ W4.drew.cell? ⟨I5,1,none⟩ = some (.int .i64 z1) ∧ W4.drew.cell? ⟨I5,2,none⟩ = some (.slice ca cn cc) ∧ W4.drew.cell? ⟨I5,3,none⟩ = some (.int .i64 z2) ∧ W4.drew.cell? ⟨I5,4,none⟩ = some nilV) := hid (CS.out _ _ _ _ SW.out.tail.drew)
 have H6 := SW
 have K6 : Hid (W4.cell? ⟨go,pp.length * 8 + 7,none⟩ = some (.slice ra rs.length rc) ∧ W4.cell? ⟨I5,0,none⟩ = some (.int .i64 z0) ∧ W4.cell? ⟨I5,1,none⟩ = some (.int .i64 z1) ∧ W4.cell? ⟨I5,2,none⟩ = some (.slice ca cn cc) ∧ W4.cell? ⟨I5,3,none⟩ = some (.int .i64 z2) ∧ W4.cell? ⟨I5,4,none⟩ = some nilV) := hid (CS.out _ _ _ _ SW.out.tail)
 refine wp_region_noPanic ?_
 refine wp_region_till (st := 12) (S := fun u => u.cell? ⟨go,pp.length * 8 + 7,none⟩ = some (.slice ra rs.length rc) ∧ u.cell? ⟨I5,0,none⟩ = some (.int .i64 z0) ∧ u.cell? ⟨I5,1,none⟩ = some (.int .i64 z1) ∧ u.cell? ⟨I5,2,none⟩ = some (.slice ca cn cc) ∧ u.cell? ⟨I5,3,none⟩ = some (.int .i64 z2) ∧ u.cell? ⟨I5,4,none⟩ = some nilV) (by kernel_rfl) ?_
 refine wpTill_take (i := 0) (d := some 22) (v := ?_) rfl rfl (by kernel_rfl) (by kernel_rfl) (by kernel_rfl) (by kernel_rfl) (by kernel_rfl) (fun _ _ _ h => h) (Or.inl ⟨by rfl,?_⟩) KD.out ?_
 case refine_2 => (intro u hu; obtain ⟨s0,s1,s2,s3,s4,s5⟩ := hu; go_simp; first | done | with_reducible rfl)
 simp only [Act.put,List.setIfInBounds_toArray,List.set_cons_zero,List.set_cons_succ]
 refine wpTill_take (i := 1) (d := some 23) (v := ?_) rfl rfl (by kernel_rfl) (by kernel_rfl) (by kernel_rfl) (by kernel_rfl) (by kernel_rfl) (fun _ _ _ h => h) (Or.inl ⟨by rfl,?_⟩) KD.out ?_
 case refine_2 => (intro u hu; obtain ⟨s0,s1,s2,s3,s4,s5⟩ := hu; go_simp; first | done | with_reducible rfl)
 simp only [Act.put,List.setIfInBounds_toArray,List.set_cons_zero,List.set_cons_succ]
 refine wpTill_take (i := 2) (d := some 24) (v := ?_) rfl rfl (by kernel_rfl) (by kernel_rfl) (by kernel_rfl) (by kernel_rfl) (by kernel_rfl) (fun _ _ _ h => h) (Or.inl ⟨by rfl,?_⟩) KD.out ?_
 case refine_2 => (intro u hu; obtain ⟨s0,s1,s2,s3,s4,s5⟩ := hu; go_simp; first | done | with_reducible rfl)
 simp only [Act.put,List.setIfInBounds_toArray,List.set_cons_zero,List.set_cons_succ]
 refine wpTill_take (i := 3) (d := some 25) (v := ?_) rfl rfl (by kernel_rfl) (by kernel_rfl) (by kernel_rfl) (by kernel_rfl) (by kernel_rfl) (fun _ _ _ h => h) (Or.inl ⟨by rfl,?_⟩) KD.out ?_
 case refine_2 => (intro u hu; obtain ⟨s0,s1,s2,s3,s4,s5⟩ := hu; go_simp; first | done | with_reducible rfl)
 simp only [Act.put,List.setIfInBounds_toArray,List.set_cons_zero,List.set_cons_succ]
 refine wpTill_take (i := 4) (d := some 26) (v := ?_) rfl rfl (by kernel_rfl) (by kernel_rfl) (by kernel_rfl) (by kernel_rfl) (by kernel_rfl) (fun _ _ _ h => h) (Or.inl ⟨by rfl,?_⟩) KD.out ?_
 case refine_2 => (intro u hu; obtain ⟨s0,s1,s2,s3,s4,s5⟩ := hu; go_simp; first | done | with_reducible rfl)
 simp only [Act.put,List.setIfInBounds_toArray,List.set_cons_zero,List.set_cons_succ]
 refine wpTill_take (i := 5) (d := some 27) (v := ?_) rfl rfl (by kernel_rfl) (by kernel_rfl) (by kernel_rfl) (by kernel_rfl) (by kernel_rfl) (fun _ _ _ h => h) (Or.inl ⟨by rfl,?_⟩) KD.out ?_
 case refine_2 => (intro u hu; obtain ⟨s0,s1,s2,s3,s4,s5⟩ := hu; go_simp; first | done | with_reducible rfl)
 simp only [Act.put,List.setIfInBounds_toArray,List.set_cons_zero,List.set_cons_succ]
 refine wpTill_take (i := 6) (d := some 28) (v := ?_) rfl rfl (by kernel_rfl) (by kernel_rfl) (by kernel_rfl) (by kernel_rfl) (by kernel_rfl) (fun _ _ _ h => h) (Or.inl ⟨by rfl,?_⟩) KD.out ?_
 case refine_2 => (intro u hu; obtain ⟨s0,s1,s2,s3,s4,s5⟩ := hu; go_simp; first | done | with_reducible rfl)
 simp only [Act.put,List.setIfInBounds_toArray,List.set_cons_zero,List.set_cons_succ]
 obtain ⟨U,hU⟩ : ∃ U,U = (W4.alloc (.cells #[.int .i64 z0,.int .i64 z1,.slice ca cn cc,.int .i64 z2,nilV] 75)).drew := ⟨_,rfl⟩
 have BU : Hid (Below W4.heap.size W4 U) := hid (by rw [hU]; exact (below1 _ _).drew)
 have HU := hid (H6.out.new BU.out)
 have KU := hid (CS.out U _ _ _ HU.out.tail)
 have NWU : Hid (∀ j u,[.int .i64 z0,.int .i64 z1,.slice ca cn cc,.int .i64 z2,nilV][j]? = some u → U.cell? ((⟨W4.heap.size,0,none⟩ : Addr).add j) = some u) := hid (World.news_of_block (cs := #[.int .i64 z0,.int .i64 z1,.slice ca cn cc,.int .i64 z2,nilV]) (by rw [hU]; exact heap_alloc_new W4 _))
 refine wpTill_step (i := 7) (by kernel_rfl) rfl (fun K hK => ?_)
 go_simp
 rw [← hU]
 refine hK _ _ KU.out ?_
 clear hU hK K
 refine wpTill_step (i := 8) (by kernel_rfl) rfl (fun K hK => ?_)
 refine step_append_lies _ (by rfl) _ _ _ (by rfl) B 75 i0 _ 5 72 Tryz.underlying62 hi hz0 hz1 hz2 rfl (by omega) (.slice ra rs.length rc) rs.length (rs.flatMap TrG.cells) (by simp [Act.eval]) HU.out.head ⟨W4.heap.size,0,none⟩ 1 1 [.int .i64 z0,.int .i64 z1,.slice ca cn cc,.int .i64 z2,nilV] (by simp [Act.eval]) (by simp) NWU.out (by intro u hu; simp at hu; rcases hu with rfl | rfl | rfl | rfl | rfl <;> rfl) (by omega) (by unfold maxLen; omega) (by omega) HU.out.hi U.heap.size rfl ?_
 intro gg cap5 w5 hown hgrow hat hlt5
 have H5 := hid (HU.out.app hgrow hown hat)
 have B5 := hid (HU.out.bapp hgrow)
 have K5 := hid (CS.out w5 _ _ _ H5.out.tail)
 clear hown hgrow hat
 refine hK _ _ K5.out ?_
 clear hK K
 refine wpTill_step (i := 9) (by kernel_rfl) rfl (fun K hK => ?_)
 go_simp
 refine hK _ _ K5.out ?_
 clear hK K
 refine wpTill_step (i := 10) (by kernel_rfl) rfl (fun K hK => ?_)
 go_simp
 refine hK _ _ K5.out ?_
 clear hK K
 refine wpTill_step (i := 11) (by kernel_rfl) rfl (fun K hK => ?_)
 go_simp
 refine hK _ _ K5.out ?_
 clear hK K
 obtain ⟨c5,c6,c7,c8,c9,c10⟩ := K5.out
 obtain ⟨fz5,fl5⟩ := ob_froz H5.out.tail.head (pp.length * 8 + 7)
 refine wpTill_last (by kernel_rfl) rfl (by kernel_rfl) (fun K hK => ?_)
 go_simp
 refine hK _ _ ?_
 clear hK K
 refine wpTill_done (by kernel_rfl) ?_ _
 refine NoPanic.normal ?_
 have H7 : Hid (St (w5.setCell ⟨go,pp.length * 8 + 7,none⟩ (.slice (some ⟨gg,0,none⟩) (rs.length + 1) cap5)) B F [] (bd || !rst.all okI) ((ObsG.mk (.slice (some ⟨go,0,none⟩) (pp.length + 1) co) (pp ++ [(ObG.mk pO qO dO ⟨.slice ka ks.length kc,ks⟩ ⟨.slice va vs.length vc,vs⟩ ⟨.slice ua us.length uc,us⟩ ⟨.slice sa ss.length sc,ss⟩ ⟨(.slice (some ⟨gg,0,none⟩) (rs.length + 1) cap5),rs ++ [⟨z0,z1,⟨.slice ca cn cc,rst.map rdI⟩,z2,⟨nilV,[]⟩⟩]⟩)])).row :: (⟨75,5,(.slice (some ⟨gg,0,none⟩) (rs.length + 1) cap5),rs.length + 1,(rs.flatMap TrG.cells) ++ [.int .i64 z0,.int .i64 z1,.slice ca cn cc,.int .i64 z2,nilV]⟩ : Rw) :: (boxR 75 I5 [.int .i64 z0,.int .i64 z1,.slice ca cn cc,.int .i64 z2,nilV] :: (CdG.mk (.slice ca cn cc) (rst.map rdI)).row :: (InG.mk (.slice ka ks.length kc) ks).row :: (InG.mk (.slice va vs.length vc) vs).row :: (InG.mk (.slice ua us.length uc) us).row :: ((StsG.mk (.slice sa ss.length sc) ss).rows ++ (rs.flatMap TrG.rows ++ M))))) := hid ((H5.out.perm (.swap _ _ _)).obSet (o' := (ObG.mk pO qO dO ⟨.slice ka ks.length kc,ks⟩ ⟨.slice va vs.length vc,vs⟩ ⟨.slice ua us.length uc,us⟩ ⟨.slice sa ss.length sc,ss⟩ ⟨(.slice (some ⟨gg,0,none⟩) (rs.length + 1) cap5),rs ++ [⟨z0,z1,⟨.slice ca cn cc,rst.map rdI⟩,z2,⟨nilV,[]⟩⟩]⟩)) 7 (.slice (some ⟨gg,0,none⟩) (rs.length + 1) cap5) (by omega) rfl)
 have B7 := hid ((B3.out.trans (SW.out.bnew BU.out)).trans (B5.out.trans ((H5.out.perm (.swap _ _ _)).bobSet (pp.length * 8 + 7) (.slice (some ⟨gg,0,none⟩) (rs.length + 1) cap5))))
 have H8 := hid ((H7.out.rot2).tail)
 have H9 := hid (H8.out.nils (M := [(SmsG.mk nilV []).row]) (by intro r hr; simp only [List.mem_cons,List.not_mem_nil,or_false] at hr; rcases hr with rfl <;> exact ⟨rfl,rfl,rfl,by decide,by decide⟩))
 clear H5 H6 HU K5 K6 KU KD CS NWU B5 BU c5 c6 c7 c8 c9 c10 fz5 fl5 B3 SW H7 H8
 go_wp2_with fail
 go_end0
 rcases OR.out with ⟨e,hv,hM⟩ | ⟨e,e2,e3,e4⟩
 ·subst e
  obtain ⟨rfl,_,rfl⟩ : eo = some ⟨go,0,none⟩ ∧ (pp ++ [(ObG.mk pO qO dO ⟨.slice ka ks.length kc,ks⟩ ⟨.slice va vs.length vc,vs⟩ ⟨.slice ua us.length uc,us⟩ ⟨.slice sa ss.length sc,ss⟩ ⟨.slice ra rs.length rc,rs⟩)]).length = pp.length + 1 ∧ ec = co := by simpa using hv
  have hb : bg = true := by
   cases bg with
   | true => rfl
   | false => have := HBG.out rfl; simp [SyG.dat] at this
  subst hb hM
  have LL := lineOn (SyG.mk sg ⟨.slice (some ⟨go,0,none⟩) (pp ++ [(ObG.mk pO qO dO ⟨.slice ka ks.length kc,ks⟩ ⟨.slice va vs.length vc,vs⟩ ⟨.slice ua us.length uc,us⟩ ⟨.slice sa ss.length sc,ss⟩ ⟨.slice ra rs.length rc,rs⟩)]).length ec,pp ++ [(ObG.mk pO qO dO ⟨.slice ka ks.length kc,ks⟩ ⟨.slice va vs.length vc,vs⟩ ⟨.slice ua us.length uc,us⟩ ⟨.slice sa ss.length sc,ss⟩ ⟨.slice ra rs.length rc,rs⟩)]⟩ ⟨.slice xo ts.length xc,ts⟩).dat fs true HBG.out
  refine RdR.of B7.out H9.out (by repeat' (first | exact List.Sublist.refl _ | refine List.sublist_append_of_sublist_right ?_ | refine List.Sublist.cons _ ?_)) (fun hx => ?_) (fun hx => ?_)
  ·rw [LL,if_pos]
   revert hx; rw [HBD.out,HRST.out]; simp [SyG.dat,badAll,restAll]
  ·refine ⟨SyG.mk sg ⟨.slice (some ⟨go,0,none⟩) (pp.length + 1) ec,pp ++ [(ObG.mk pO qO dO ⟨.slice ka ks.length kc,ks⟩ ⟨.slice va vs.length vc,vs⟩ ⟨.slice ua us.length uc,us⟩ ⟨.slice sa ss.length sc,ss⟩ ⟨(.slice (some ⟨gg,0,none⟩) (rs.length + 1) cap5),rs ++ [⟨z0,z1,⟨.slice ca cn cc,rst.map rdI⟩,z2,⟨nilV,[]⟩⟩]⟩)]⟩ ⟨.slice xo ts.length xc,ts⟩,?_,?_⟩
   ·rw [LL,if_neg]
    ·simp only [SyG.dat,List.map_append,List.map_cons,List.map_nil,oneOb_snoc]
     rw [← HZ0.out,← HZ1.out,← HZ2.out,← HRST.out]; first | rfl | simp [ObG.dat,StG.dat,TrG.dat,SmsG.dat,SmG.dat]
    ·rw [Bool.not_eq_true]
     revert hx; rw [HBD.out,HRST.out]; simp [SyG.dat,badAll,restAll]
   ·refine perm_count fun f g hf => ?_; simp only [hf.c,hf.a,hf.z,rdB,SyG.rows,ObsG.rows,ObsG.row,ObG.rows,InG.row,StsG.rows,TrsG.rows,StsG.row,TrsG.row,TmG.row,StG.rows,TrG.rows,SmG.rows,CdG.row,SmsG.rows,SmsG.row,itC_append,itC,List.map_append,List.map_cons,List.map_nil,List.flatMap_append,List.flatMap_cons,List.flatMap_nil,List.append_nil,List.nil_append,List.length_append,List.length_cons,List.length_nil,Nat.zero_add,List.cons_append,List.append_assoc,ObG.cells,StG.cells,TrG.cells,SmG.cells]; try omega
 ·subst e
  subst e4
  refine RdR.of B7.out H9.out (by repeat' (first | exact List.Sublist.refl _ | refine List.sublist_append_of_sublist_right ?_ | refine List.Sublist.cons _ ?_)) (fun _ => line_nil (by decide) (by decide) (by decide) (by simp [SyG.dat])) (fun hx => absurd hx (by rw [HBD.out]; simp [badAll]))
end Go.Proofs.YtkdgkomnbjepdaaGreatDoor
namespace Go.Proofs.YtkdgkomnbjepdaaGreatDoor
open Go.RowKit Go.Sort
set_option linter.unusedVariables false
theorem eight_cc {w : World} {H : Nat} {a b c d e f g h : Value} {t : TypeId} (k : w.heap[H]? = some (.cells #[a,b,c,d,e,f,g,h] t (0,0))) : w.cell? ⟨H,0,none⟩ = some a ∧ w.cell? ⟨H,1,none⟩ = some b ∧ w.cell? ⟨H,2,none⟩ = some c ∧ w.cell? ⟨H,3,none⟩ = some d ∧ w.cell? ⟨H,4,none⟩ = some e ∧ w.cell? ⟨H,5,none⟩ = some f ∧ w.cell? ⟨H,6,none⟩ = some g ∧ w.cell? ⟨H,7,none⟩ = some h := by
 simp [World.cell?,k]
/-! What the readers of statements need. -/
theorem so_of {G : SyG} {N : Nat} {pp : List ObG} {o : ObG} {P R S : Prop} (hz : SmD G.dat N) (h : (G.ob.xs = pp ++ [o] ∧ P) ∨ (G.ob.xs = [] ∧ R ∧ o = obZ ∧ S)) : SmO o.dat N := by
 rcases h with ⟨e,_⟩ | ⟨_,_,e,_⟩
 ·exact hz.a _ (by simp [SyG.dat,e])
 ·rw [e]; exact ⟨by simp [obZ,ObG.dat],by simp [obZ,ObG.dat],by simp [obZ,ObG.dat],by simp [obZ,ObG.dat],by simp [obZ,ObG.dat],by simp [obZ,ObG.dat],by simp [obZ,ObG.dat]⟩
theorem se_of {o : ObG} {N : Nat} {qq : List StG} {el : StG} {P R S : Prop} (hz : SmO o.dat N) (h : (o.st.xs = qq ++ [el] ∧ P) ∨ (o.st.xs = [] ∧ R ∧ el = stZ ∧ S)) : el.en.xs.length ≤ N ∧ el.ex.xs.length ≤ N := by
 rcases h with ⟨e,_⟩ | ⟨_,_,e,_⟩
 ·have := hz.e el.dat (by simp [ObG.dat,e])
  simpa [StG.dat,SmsG.dat] using this
 ·rw [e]; simp [stZ]
theorem ta_of {o : ObG} {N : Nat} {qq : List TrG} {el : TrG} {P R S : Prop} (hz : SmO o.dat N) (h : (o.tr.xs = qq ++ [el] ∧ P) ∨ (o.tr.xs = [] ∧ R ∧ el = trZ ∧ S)) : el.ac.xs.length ≤ N := by
 rcases h with ⟨e,_⟩ | ⟨_,_,e,_⟩
 ·have := hz.a el.dat (by simp [ObG.dat,e])
  simpa [TrG.dat,SmsG.dat] using this
 ·rw [e]; simp [trZ]
section
variable {w : World} {B F g cap : Nat} {fs : List (List UInt8)} {bad : Bool} {M : List Rw} {pp : List ObG} {o : ObG}
theorem St.ob6 (h : St w B F fs bad ((ObsG.mk (.slice (some ⟨g,0,none⟩) (pp.length + 1) cap) (pp ++ [o])).row :: M)) : w.cell? ⟨g,pp.length * 8 + 6,none⟩ = some o.st.v ∧ g < w.heap.size := ⟨ob_cell h.head 6 (by omega),(ob_froz h.head 0).2⟩
theorem St.ob7 (h : St w B F fs bad ((ObsG.mk (.slice (some ⟨g,0,none⟩) (pp.length + 1) cap) (pp ++ [o])).row :: M)) : w.cell? ⟨g,pp.length * 8 + 6 + 1,none⟩ = some o.tr.v ∧ g < w.heap.size := ⟨ob_cell h.head 7 (by omega),(ob_froz h.head 0).2⟩
theorem St.lastS (h : St w B F fs bad ((ObsG.mk (.slice (some ⟨g,0,none⟩) (pp.length + 1) cap) (pp ++ [o])).row :: (o.rows ++ M))) (hs : SmO o.dat 1048575) : Calls Tryz.prog 89 #[.pointer (some ⟨F,0,none⟩),o.st.v] w fun e w' => LatS w B F fs bad o.st.v o.st.xs ((ObsG.mk (.slice (some ⟨g,0,none⟩) (pp.length + 1) cap) (pp ++ [o])).row :: o.ki.row :: o.va.row :: o.su.row :: (o.tr.rows ++ M)) e w' := by
 refine St.latS (h.perm ?_) ?_
 ·refine perm_count fun f g hf => ?_
  simp only [ObG.rows,StsG.rows,TrsG.rows,StsG.row,TrsG.row,hf.c,hf.a,List.cons_append]
  omega
 ·have := hs.s
  simp [ObG.dat] at this
  omega
theorem St.lastT (h : St w B F fs bad ((ObsG.mk (.slice (some ⟨g,0,none⟩) (pp.length + 1) cap) (pp ++ [o])).row :: (o.rows ++ M))) (hs : SmO o.dat 1048575) : Calls Tryz.prog 92 #[.pointer (some ⟨F,0,none⟩),o.tr.v] w fun e w' => LatT w B F fs bad o.tr.v o.tr.xs ((ObsG.mk (.slice (some ⟨g,0,none⟩) (pp.length + 1) cap) (pp ++ [o])).row :: o.ki.row :: o.va.row :: o.su.row :: (o.st.rows ++ M)) e w' := by
 refine St.latT (h.perm ?_) ?_
 ·refine perm_count fun f g hf => ?_
  simp only [ObG.rows,StsG.rows,TrsG.rows,StsG.row,TrsG.row,hf.c,hf.a,List.cons_append]
  omega
 ·have := hs.t
  simp [ObG.dat] at this
  omega
end
end Go.Proofs.YtkdgkomnbjepdaaGreatDoor

import Derived.Test.YtkdgkomnbjepdaaGreatDoorDb
import Derived.Test.YtkdgkomnbjepdaaGreatDoorLd
import Derived.Test.YtkdgkomnbjepdaaGreatDoorZ0
namespace Go.Proofs.YtkdgkomnbjepdaaGreatDoor
open Go.RowKit Go.Sort
set_option linter.unusedVariables false
set_option linter.unusedSimpArgs false
/-! A line by what the program reads of it. -/
theorem nums_one (fs : List (List UInt8)) : nums fs = (match fs with | [] => some [] | [a] => (num? a).map (fun z => [z]) | _ => nums fs) := by
 match fs with
 | [] => rfl
 | [a] => cases h : num? a <;> simp [nums,h]
 | a :: b :: t => rfl
theorem nums_is1 (fs : List (List UInt8)) : (∃ z,nums fs = some [z]) ↔ (okN fs = true ∧ fs.tail.isEmpty = true) := by
 match fs with
 | [] => simp [nums,okN,num_nil]
 | [a] => rcases num_or a with h | ⟨z,h⟩ <;> simp [nums,okN,h]
 | a :: b :: t =>
  refine ⟨fun ⟨z,h⟩ => ?_,fun h => by simp at h⟩
  have := nums_len h
  simp at this
theorem nums_v1 {fs : List (List UInt8)} (h : okN fs = true) (h2 : fs.tail.isEmpty = true) : nums fs = some [rdN fs] := by
 match fs with
 | [] => simp [okN,num_nil] at h
 | [a] => rcases num_or a with hq | ⟨z,hq⟩ <;> simp [nums,okN,rdN,hq] at h ⊢
 | a :: b :: t => simp at h2
theorem nums_is2 (fs : List (List UInt8)) : (∃ x y,nums fs = some [x,y]) ↔ (okN fs = true ∧ okN fs.tail = true ∧ fs.tail.tail.isEmpty = true) := by
 match fs with
 | [] => simp [nums,okN,num_nil]
 | [a] => rcases num_or a with h | ⟨z,h⟩ <;> simp [nums,okN,h,num_nil]
 | [a,b] => rcases num_or a with h | ⟨z,h⟩ <;> rcases num_or b with h' | ⟨z',h'⟩ <;> simp [nums,okN,h,h']
 | a :: b :: c :: t =>
  refine ⟨fun ⟨x,y,h⟩ => ?_,fun h => by simp at h⟩
  have := nums_len h
  simp at this
theorem nums_v2 {fs : List (List UInt8)} (h : okN fs = true) (h1 : okN fs.tail = true) (h2 : fs.tail.tail.isEmpty = true) : nums fs = some [rdN fs,rdN fs.tail] := by
 match fs with
 | [] => simp [okN,num_nil] at h
 | [a] => simp [okN,num_nil] at h1
 | [a,b] => rcases num_or a with hq | ⟨z,hq⟩ <;> rcases num_or b with hq' | ⟨z',hq'⟩ <;> simp [nums,okN,rdN,hq,hq'] at h h1 ⊢
 | a :: b :: c :: t => simp at h2
theorem nums_is3 (fs : List (List UInt8)) : (∃ x y z,nums fs = some [x,y,z]) ↔ (okN fs = true ∧ okN fs.tail = true ∧ okN fs.tail.tail = true ∧ fs.tail.tail.tail.isEmpty = true) := by
 match fs with
 | [] => simp [nums,okN,num_nil]
 | [a] => rcases num_or a with h | ⟨z,h⟩ <;> simp [nums,okN,h,num_nil]
 | [a,b] => rcases num_or a with h | ⟨z,h⟩ <;> rcases num_or b with h' | ⟨z',h'⟩ <;> simp [nums,okN,h,h',num_nil]
 | [a,b,c] => rcases num_or a with h | ⟨z,h⟩ <;> rcases num_or b with h' | ⟨z',h'⟩ <;> rcases num_or c with g | ⟨z'',g⟩ <;> simp [nums,okN,h,h',g]
 | a :: b :: c :: d :: t =>
  refine ⟨fun ⟨x,y,z,h⟩ => ?_,fun h => by simp at h⟩
  have := nums_len h
  simp at this
theorem nums_v3 {fs : List (List UInt8)} (h : okN fs = true) (h1 : okN fs.tail = true) (h3 : okN fs.tail.tail = true) (h2 : fs.tail.tail.tail.isEmpty = true) : nums fs = some [rdN fs,rdN fs.tail,rdN fs.tail.tail] := by
 match fs with
 | [] => simp [okN,num_nil] at h
 | [a] => simp [okN,num_nil] at h1
 | [a,b] => simp [okN,num_nil] at h3
 | [a,b,c] => rcases num_or a with hq | ⟨z,hq⟩ <;> rcases num_or b with hq' | ⟨z',hq'⟩ <;> rcases num_or c with g | ⟨z'',g⟩ <;> simp [nums,okN,rdN,hq,hq',g] at h h1 h3 ⊢
 | a :: b :: c :: d :: t => simp at h2
theorem numsN_v3 (r : List (List UInt8)) : numsN r 3 = if (okN r && okN r.tail && okN r.tail.tail) = true then some [rdN r,rdN r.tail,rdN r.tail.tail] else none := by
 match r with
 | [] => simp [numsN,okN,num_nil]
 | [a] => simp [numsN,okN,num_nil]
 | [a,b] => simp [numsN,okN,num_nil]
 | a :: b :: c :: t =>
  unfold numsN okN rdN
  rw [if_pos (by simp)]
  simp only [List.take_succ_cons,List.take_zero,List.getD_cons_zero,List.tail_cons]
  rcases num_or a with h | ⟨z,h⟩ <;> rcases num_or b with h' | ⟨z',h'⟩ <;> rcases num_or c with g | ⟨z'',g⟩ <;> simp [nums,h,h',g]
theorem drop_3 (r : List (List UInt8)) : r.drop 3 = r.tail.tail.tail := by
 match r with
 | [] => rfl
 | [a] => rfl
 | [a,b] => rfl
 | a :: b :: c :: t => rfl
theorem line_nil {s : SyD} {key : List UInt8} {fs : List (List UInt8)} {bg : Bool} (h0 : ¬ key = kSig) (h1 : ¬ key = kObj) (h2 : ¬ key = kTim) (h : s.obs = []) : lineW s key fs bg = none := by
 cases bg with
 | false => exact lineW_un s fs h0
 | true => exact lineW_bare s fs h h0 h1 h2
theorem line_last {s : SyD} {key : List UInt8} {fs : List (List UInt8)} {bg : Bool} {f : ObD → ObD} {c : Bool} (h0 : ¬ key = kSig) (h1 : ¬ key = kObj) (h2 : ¬ key = kTim) (hbg : bg = false → s.obs = []) (h : lineW s key fs true = if c = true then none else oneOb s f) : lineW s key fs bg = if (s.obs.isEmpty || c) = true then none else oneOb s f := by
 cases ho : s.obs.isEmpty with
 | true =>
  rw [line_nil h0 h1 h2 (List.isEmpty_iff.1 ho)]
  simp
 | false =>
  have hb : bg = true := by
   cases bg with
   | true => rfl
   | false => rw [hbg rfl] at ho; cases ho
  rw [hb,h]
  simp
theorem lineSig (s : SyD) (fs : List (List UInt8)) (bg : Bool) : lineW s kSig fs bg = if ((bg || !okN fs) || !fs.tail.isEmpty) = true then none else some { s with sigs := rdN fs } := by
 rw [lineW_sig]
 by_cases h : okN fs = true ∧ fs.tail.isEmpty = true
 ·rw [nums_v1 h.1 h.2,h.1,h.2]
  cases bg <;> simp
 ·have hn : ¬ ∃ z,nums fs = some [z] := fun h2 => h ((nums_is1 fs).1 h2)
  have hc : ((bg || !okN fs) || !fs.tail.isEmpty) = true := by
   cases ho : okN fs <;> cases ht : fs.tail.isEmpty <;> simp [ho,ht] at h ⊢
  rw [if_pos hc]
  split
  ·rename_i z e; exact absurd ⟨z,e⟩ hn
  ·rfl
theorem lineObj (s : SyD) (fs : List (List UInt8)) (bg : Bool) : lineW s kObj fs bg = if (badAll (!bg) [0,1,2] fs || !(restAll [0,1,2] fs).isEmpty) = true then none else some { s with obs := s.obs ++ [⟨rdN fs,rdN fs.tail,rdN fs.tail.tail,[],[],[],[],[]⟩] } := by
 cases bg with
 | false => rw [lineW_un s fs (by decide)]; simp [badAll]
 | true =>
  rw [lineW_obj]
  simp only [badAll,restAll,Bool.not_true,Bool.false_or]
  by_cases h : okN fs = true ∧ okN fs.tail = true ∧ okN fs.tail.tail = true ∧ fs.tail.tail.tail.isEmpty = true
  ·rw [nums_v3 h.1 h.2.1 h.2.2.1 h.2.2.2,h.1,h.2.1,h.2.2.1,h.2.2.2]; simp
  ·have hn : ¬ ∃ x y z,nums fs = some [x,y,z] := fun h2 => h ((nums_is3 fs).1 h2)
   rw [if_pos (by cases h1 : okN fs <;> cases h2 : okN fs.tail <;> cases h3 : okN fs.tail.tail <;> cases h4 : fs.tail.tail.tail.isEmpty <;> simp [h1,h2,h3,h4] at h ⊢)]
   split
   ·rename_i x y z e; exact absurd ⟨x,y,z,e⟩ hn
   ·rfl
theorem lineTim (s : SyD) (fs : List (List UInt8)) (bg : Bool) : lineW s kTim fs bg = if (badAll (!bg) [0,1] fs || !(restAll [0,1] fs).isEmpty) = true then none else some { s with tms := s.tms ++ [(rdN fs,rdN fs.tail)] } := by
 cases bg with
 | false => rw [lineW_un s fs (by decide)]; simp [badAll]
 | true =>
  rw [lineW_tim]
  simp only [badAll,restAll,Bool.not_true,Bool.false_or]
  by_cases h : okN fs = true ∧ okN fs.tail = true ∧ fs.tail.tail.isEmpty = true
  ·rw [nums_v2 h.1 h.2.1 h.2.2,h.1,h.2.1,h.2.2]; simp
  ·have hn : ¬ ∃ x y,nums fs = some [x,y] := fun h2 => h ((nums_is2 fs).1 h2)
   rw [if_pos (by cases h1 : okN fs <;> cases h2 : okN fs.tail <;> cases h4 : fs.tail.tail.isEmpty <;> simp [h1,h2,h4] at h ⊢)]
   split
   ·rename_i x y e; exact absurd ⟨x,y,e⟩ hn
   ·rfl
theorem lineSub (s : SyD) (fs : List (List UInt8)) (bg : Bool) (hbg : bg = false → s.obs = []) : lineW s kSub fs bg = if (s.obs.isEmpty || (!okN fs || !fs.tail.isEmpty)) = true then none else oneOb s (fun o => { o with subs := o.subs ++ [rdN fs] }) := by
 refine line_last (by decide) (by decide) (by decide) hbg ?_
 rw [lineW_sub]
 by_cases h : okN fs = true ∧ fs.tail.isEmpty = true
 ·rw [nums_v1 h.1 h.2,h.1,h.2]; simp
 ·have hn : ¬ ∃ z,nums fs = some [z] := fun h2 => h ((nums_is1 fs).1 h2)
  rw [if_pos (by cases ho : okN fs <;> cases ht : fs.tail.isEmpty <;> simp [ho,ht] at h ⊢)]
  split
  ·rename_i z e; exact absurd ⟨z,e⟩ hn
  ·rfl
theorem lineSta (s : SyD) (fs : List (List UInt8)) (bg : Bool) (hbg : bg = false → s.obs = []) : lineW s kSta fs bg = if (s.obs.isEmpty || (badAll false [0,1] fs || !(restAll [0,1] fs).isEmpty)) = true then none else oneOb s (fun o => { o with sts := o.sts ++ [⟨rdN fs,rdN fs.tail,[],[]⟩] }) := by
 refine line_last (by decide) (by decide) (by decide) hbg ?_
 rw [lineW_sta]
 simp only [badAll,restAll,Bool.false_or]
 by_cases h : okN fs = true ∧ okN fs.tail = true ∧ fs.tail.tail.isEmpty = true
 ·rw [nums_v2 h.1 h.2.1 h.2.2,h.1,h.2.1,h.2.2]; simp
 ·have hn : ¬ ∃ x y,nums fs = some [x,y] := fun h2 => h ((nums_is2 fs).1 h2)
  rw [if_pos (by cases h1 : okN fs <;> cases h2 : okN fs.tail <;> cases h4 : fs.tail.tail.isEmpty <;> simp [h1,h2,h4] at h ⊢)]
  split
  ·rename_i x y e; exact absurd ⟨x,y,e⟩ hn
  ·rfl
theorem lineOn (s : SyD) (fs : List (List UInt8)) (bg : Bool) (hbg : bg = false → s.obs = []) : lineW s kOn fs bg = if (s.obs.isEmpty || (badAll false [0,1,3] fs || !(restAll [0,1,3] fs).all okI)) = true then none else oneOb s (fun o => { o with trs := o.trs ++ [⟨rdN fs,rdN fs.tail,(restAll [0,1,3] fs).map rdI,rdN fs.tail.tail,[]⟩] }) := by
 refine line_last (by decide) (by decide) (by decide) hbg ?_
 rw [lineW_on,numsN_v3,codeW_is,drop_3]
 simp only [badAll,restAll,Bool.false_or]
 cases h1 : okN fs <;> cases h2 : okN fs.tail <;> cases h3 : okN fs.tail.tail <;> cases h4 : fs.tail.tail.tail.all okI <;> simp
theorem kind_all : ∀ i,i < 7 → okI (kindsL.getD i []) = true ∧ rdI (kindsL.getD i []) = (19,1 + (i : Int)) := by
 intro i hi
 have : i = 0 ∨ i = 1 ∨ i = 2 ∨ i = 3 ∨ i = 4 ∨ i = 5 ∨ i = 6 := by omega
 rcases this with rfl | rfl | rfl | rfl | rfl | rfl | rfl <;> exact ⟨rfl,rfl⟩
theorem kind_w : ∀ i,i < 23 → 16 ≤ i → wordsL.getD i [] ∈ kindsL := by
 intro i hi h16
 have : i = 16 ∨ i = 17 ∨ i = 18 ∨ i = 19 ∨ i = 20 ∨ i = 21 ∨ i = 22 := by omega
 rcases this with rfl | rfl | rfl | rfl | rfl | rfl | rfl <;> decide
theorem kind_v {f : List UInt8} (h : 0 ≤ placeN kindsL f 0) : okI f = true ∧ rdI f = (19,1 + placeN kindsL f 0) := by
 obtain ⟨i,h1,h2,h3⟩ := placeN_get kindsL f 0 h
 rw [h2,← h3,Nat.zero_add]
 exact kind_all i h1
theorem kind_is (f : List UInt8) : (0 ≤ placeN kindsL f 0) ↔ (okI f && decide ((rdI f).1 = 19)) = true := by
 refine ⟨fun h => by rw [(kind_v h).1,(kind_v h).2]; rfl,fun h => ?_⟩
 simp only [Bool.and_eq_true,decide_eq_true_eq] at h
 obtain ⟨_,h2⟩ := h
 unfold rdI at h2
 split at h2
 ·rename_i hp
  obtain ⟨i,h1,h3,h4⟩ := placeN_get wordsL f 0 hp
  rw [h3,Nat.zero_add,Int.toNat_natCast] at h2
  have h16 : 16 ≤ i := by
   simp only [itO] at h2
   split at h2 <;> omega
  have hm := kind_w i h1 h16
  rw [h4] at hm
  exact Classical.byContradiction (fun hc => placeN_no kindsL f 0 hc f hm rfl)
 ·split at h2
  ·simp at h2
  ·simp at h2
theorem lineVar (s : SyD) (fs : List (List UInt8)) (bg : Bool) (hbg : bg = false → s.obs = []) : lineW s kVar fs bg = if (s.obs.isEmpty || ((!okK fs || !okN fs.tail) || !fs.tail.tail.isEmpty)) = true then none else oneOb s (fun o => { o with kinds := o.kinds ++ [(rdI (fs.getD 0 [])).2],vals := o.vals ++ [rdN fs.tail] }) := by
 refine line_last (by decide) (by decide) (by decide) hbg ?_
 rw [lineW_var]
 match fs with
 | [] => simp [okK,okI_nil]
 | [a] => simp [okN,num_nil]
 | [a,b] =>
  simp only [List.getD_cons_zero,List.tail_cons,List.isEmpty_nil,Bool.not_true,Bool.or_false]
  unfold okK
  simp only [List.getD_cons_zero]
  by_cases hk : 0 ≤ placeN kindsL a 0
  ·rw [if_neg (by omega),(kind_is a).1 hk,(kind_v hk).2]
   rcases num_or b with h | ⟨z,h⟩ <;> simp [okN,rdN,h]
  ·rw [if_pos (by omega)]
   have : (okI a && decide ((rdI a).1 = 19)) = false := by
    cases hq : (okI a && decide ((rdI a).1 = 19)) with
    | false => rfl
    | true => exact absurd ((kind_is a).2 hq) hk
   rw [this]; simp
 | a :: b :: c :: t => simp
theorem lineEnt (s : SyD) (fs : List (List UInt8)) (bg : Bool) (hbg : bg = false → s.obs = []) : lineW s kEnt fs bg = if (s.obs.isEmpty || ((lastOb s).sts.isEmpty || (!okS fs || !(rsS fs).isEmpty))) = true then none else oneOb s (fun o => { o with sts := turnL o.sts (fun t => { t with entry := t.entry ++ [rdS fs] }) }) := by
 refine line_last (by decide) (by decide) (by decide) hbg ?_
 rw [lineW_ent,stmW_is]
 cases h1 : okS fs <;> cases h2 : (rsS fs).isEmpty <;> cases h3 : (lastOb s).sts <;> simp
theorem lineExi (s : SyD) (fs : List (List UInt8)) (bg : Bool) (hbg : bg = false → s.obs = []) : lineW s kExi fs bg = if (s.obs.isEmpty || ((lastOb s).sts.isEmpty || (!okS fs || !(rsS fs).isEmpty))) = true then none else oneOb s (fun o => { o with sts := turnL o.sts (fun t => { t with exit := t.exit ++ [rdS fs] }) }) := by
 refine line_last (by decide) (by decide) (by decide) hbg ?_
 rw [lineW_exi,stmW_is]
 cases h1 : okS fs <;> cases h2 : (rsS fs).isEmpty <;> cases h3 : (lastOb s).sts <;> simp
theorem lineDo (s : SyD) (fs : List (List UInt8)) (bg : Bool) (hbg : bg = false → s.obs = []) : lineW s kDo fs bg = if (s.obs.isEmpty || ((lastOb s).trs.isEmpty || (!okS fs || !(rsS fs).isEmpty))) = true then none else oneOb s (fun o => { o with trs := turnL o.trs (fun t => { t with action := t.action ++ [rdS fs] }) }) := by
 refine line_last (by decide) (by decide) (by decide) hbg ?_
 rw [lineW_do,stmW_is]
 cases h1 : okS fs <;> cases h2 : (rsS fs).isEmpty <;> cases h3 : (lastOb s).trs <;> simp
end Go.Proofs.YtkdgkomnbjepdaaGreatDoor
namespace Go.Proofs.YtkdgkomnbjepdaaGreatDoor
open Go.RowKit Go.Sort
set_option linter.unusedVariables false
set_option linter.unusedSimpArgs false
attribute [local go_sem ↓] Go.wp_at_zero Go.wp_at_succ
set_option maxRecDepth 100000 in
set_option maxHeartbeats 6400000 in
theorem readSub_any {w : World} {B F Q : Nat} {G : SyG} {bg : Bool} {X : List Rw} {fs : List (List UInt8)} (h : St w B F fs false (rdB Q G bg :: (G.rows ++ X))) (hz : SmD G.dat 1048575) (hbg : bg = false → G.dat.obs = []) : Calls Tryz.prog 53 #[.pointer (some ⟨Q,0,none⟩),.pointer (some ⟨F,0,none⟩)] w fun e w' => RdR B F Q G bg X kSub fs w e w' := by
 obtain ⟨eo,ec,xo,xc,hev,hxv⟩ := SyG.form h.flat.tail
 obtain ⟨sg,⟨ov,os⟩,⟨tv,ts⟩⟩ := G
 simp only at hev hxv
 subst hev hxv
 have OL : os.length ≤ 1048575 := by have := hz.o; simpa [SyG.dat] using this
 have TL : ts.length ≤ 1048575 := by have := hz.t; simpa [SyG.dat] using this
 have HZ := hid hz
 have HBG := hid hbg
 obtain ⟨⟨q0,q1,q2,q3⟩,y0,y1,y2,y3,yl⟩ := four_cb (box_blk h.head)
 simp only at q0 q1 q2 q3
 obtain ⟨i0,hi,hz0,hz1,hz2⟩ := info_parts Tryz.infoI
 have C := hid ((h.perm (L' := (ObsG.mk (.slice eo os.length ec) os).rows ++ (rdB Q (SyG.mk sg ⟨.slice eo os.length ec,os⟩ ⟨.slice xo ts.length xc,ts⟩) bg :: (TmG.mk (.slice xo ts.length xc) ts).row :: X)) (by refine perm_count fun f g hf => ?_; simp only [hf.c,hf.a,hf.z,rdB,SyG.rows,ObsG.rows,ObsG.row,ObG.rows,InG.row,StsG.rows,TrsG.rows,StsG.row,TrsG.row,TmG.row,StG.rows,TrG.rows,SmG.rows,CdG.row,SmsG.rows,SmsG.row,itC_append,itC,List.map_append,List.map_cons,List.map_nil,List.flatMap_append,List.flatMap_cons,List.flatMap_nil,List.append_nil,List.nil_append,List.length_append,List.length_cons,List.length_nil,Nat.zero_add,List.cons_append,List.append_assoc,ObG.cells,StG.cells,TrG.cells,SmG.cells]; try omega)).latO (by omega))
 clear h
 go_enter Tryz.func53,Tryz.ntmps53
 go_upto_region 1 with (go_at_call 87; with_reducible refine C.out.mono ?_; rintro e w1 ⟨go,co,pp,o,M,rfl,h1,b1,hpp,hor⟩; have H1 := hid h1; have B1 := hid b1; have OR := hid hor; clear h1 b1 hor)
 have SO : Hid (SmO o.dat 1048575) := hid (by
  rcases OR.out with ⟨e,_⟩ | ⟨_,_,e,_⟩
  ·exact HZ.out.a _ (by rw [e]; simp [SyG.dat])
  ·rw [e]; exact ⟨by simp [obZ,ObG.dat],by simp [obZ,ObG.dat],by simp [obZ,ObG.dat],by simp [obZ,ObG.dat],by simp [obZ,ObG.dat],by simp [obZ,ObG.dat],by simp [obZ,ObG.dat]⟩)
 obtain ⟨pO,qO,dO,⟨kv,ks⟩,⟨vv,vs⟩,⟨uv,us⟩,⟨sv,ss⟩,⟨rv,rs⟩⟩ := o
 obtain ⟨ka,kc,hkv,_,_,_⟩ := ints_read (H1.out.own (r := (InG.mk kv ks).row) (by simp [ObG.rows]))
 obtain ⟨va,vc,hvv,_,_,_⟩ := ints_read (H1.out.own (r := (InG.mk vv vs).row) (by simp [ObG.rows]))
 obtain ⟨ua,uc,huv,_,_,_⟩ := ints_read (H1.out.own (r := (InG.mk uv us).row) (by simp [ObG.rows]))
 obtain ⟨sa,sc,hsv,_,_,_⟩ := row_read StG.cells 4 (fun _ => rfl) (H1.out.own (r := (StsG.mk sv ss).row) (by simp [ObG.rows,StsG.rows]))
 obtain ⟨ra,rc,hrv,_,_,_⟩ := row_read TrG.cells 5 (fun _ => rfl) (H1.out.own (r := (TrsG.mk rv rs).row) (by simp [ObG.rows,TrsG.rows]))
 simp only [InG.row,StsG.row,TrsG.row] at hkv hvv huv hsv hrv
 subst hkv hvv huv hsv hrv
 have UL : us.length ≤ 1048575 := SO.out.u
 have SW : Hid (St w1 B F fs (false || os.isEmpty) ((InG.mk (.slice ua us.length uc) us).row :: (ObsG.mk (.slice (some ⟨go,0,none⟩) (pp.length + 1) co) (pp ++ [(ObG.mk pO qO dO ⟨.slice ka ks.length kc,ks⟩ ⟨.slice va vs.length vc,vs⟩ ⟨.slice ua us.length uc,us⟩ ⟨.slice sa ss.length sc,ss⟩ ⟨.slice ra rs.length rc,rs⟩)])).row :: ((InG.mk (.slice ka ks.length kc) ks).row :: (InG.mk (.slice va vs.length vc) vs).row :: ((StsG.mk (.slice sa ss.length sc) ss).rows ++ ((TrsG.mk (.slice ra rs.length rc) rs).rows ++ M))))) := hid (H1.out.perm (by refine perm_count fun f g hf => ?_; simp only [hf.c,hf.a,hf.z,rdB,SyG.rows,ObsG.rows,ObsG.row,ObG.rows,InG.row,StsG.rows,TrsG.rows,StsG.row,TrsG.row,TmG.row,StG.rows,TrG.rows,SmG.rows,CdG.row,SmsG.rows,SmsG.row,itC_append,itC,List.map_append,List.map_cons,List.map_nil,List.flatMap_append,List.flatMap_cons,List.flatMap_nil,List.append_nil,List.nil_append,List.length_append,List.length_cons,List.length_nil,Nat.zero_add,List.cons_append,List.append_assoc,ObG.cells,StG.cells,TrG.cells,SmG.cells]; try omega))
 clear H1 C q0 q1 q2 q3 y0 y1 y2 y3 yl
 have CS : Hid (∀ (X : World) (fs0 : List (List UInt8)) (bd0 : Bool) (T : List Rw),St X B F fs0 bd0 ((ObsG.mk (.slice (some ⟨go,0,none⟩) (pp.length + 1) co) (pp ++ [(ObG.mk pO qO dO ⟨.slice ka ks.length kc,ks⟩ ⟨.slice va vs.length vc,vs⟩ ⟨.slice ua us.length uc,us⟩ ⟨.slice sa ss.length sc,ss⟩ ⟨.slice ra rs.length rc,rs⟩)])).row :: T) → X.cell? ⟨go,pp.length * 8 + 5,none⟩ = some (.slice ua us.length uc)) := hid (fun X _ _ _ hX => ob_cell hX.head 5 (by omega))
 have KD : Hid (w1.drew.cell? ⟨go,pp.length * 8 + 5,none⟩ = some (.slice ua us.length uc)) := hid (CS.out _ _ _ _ SW.out.tail.drew)
 have CC := hid SW.out.drew.number
 refine wp_region_noPanic ?_
 refine wp_region_till (st := 11) (S := fun u => u.cell? ⟨go,pp.length * 8 + 5,none⟩ = some (.slice ua us.length uc)) (by kernel_rfl) ?_
 refine wpTill_take (i := 0) (d := some 12) (v := ?_) rfl rfl (by kernel_rfl) (by kernel_rfl) (by kernel_rfl) (by kernel_rfl) (by kernel_rfl) (fun _ _ _ h => h) (Or.inl ⟨by rfl,?_⟩) KD.out ?_
 case refine_2 => (intro u hu; obtain s0 := hu; go_simp; first | done | with_reducible rfl)
 simp only [Act.put,List.setIfInBounds_toArray,List.set_cons_zero,List.set_cons_succ]
 refine wpTill_take (i := 1) (d := some 13) (v := ?_) rfl rfl (by kernel_rfl) (by kernel_rfl) (by kernel_rfl) (by kernel_rfl) (by kernel_rfl) (fun _ _ _ h => h) (Or.inl ⟨by rfl,?_⟩) KD.out ?_
 case refine_2 => (intro u hu; obtain s0 := hu; go_simp; first | done | with_reducible rfl)
 simp only [Act.put,List.setIfInBounds_toArray,List.set_cons_zero,List.set_cons_succ]
 refine wpTill_take (i := 2) (d := some 14) (v := ?_) rfl rfl (by kernel_rfl) (by kernel_rfl) (by kernel_rfl) (by kernel_rfl) (by kernel_rfl) (fun _ _ _ h => h) (Or.inl ⟨by rfl,?_⟩) KD.out ?_
 case refine_2 => (intro u hu; obtain s0 := hu; go_simp; first | done | with_reducible rfl)
 simp only [Act.put,List.setIfInBounds_toArray,List.set_cons_zero,List.set_cons_succ]
 refine wpTill_take (i := 3) (d := some 15) (v := ?_) rfl rfl (by kernel_rfl) (by kernel_rfl) (by kernel_rfl) (by kernel_rfl) (by kernel_rfl) (fun _ _ _ h => h) (Or.inl ⟨by rfl,?_⟩) KD.out ?_
 case refine_2 => (intro u hu; obtain s0 := hu; go_simp; first | done | with_reducible rfl)
 simp only [Act.put,List.setIfInBounds_toArray,List.set_cons_zero,List.set_cons_succ]
 refine wpTill_take (i := 4) (d := some 16) (v := ?_) rfl rfl (by kernel_rfl) (by kernel_rfl) (by kernel_rfl) (by kernel_rfl) (by kernel_rfl) (fun _ _ _ h => h) (Or.inl ⟨by rfl,?_⟩) KD.out ?_
 case refine_2 => (intro u hu; obtain s0 := hu; go_simp; first | done | with_reducible rfl)
 simp only [Act.put,List.setIfInBounds_toArray,List.set_cons_zero,List.set_cons_succ]
 refine wpTill_take (i := 5) (d := some 17) (v := ?_) rfl rfl (by kernel_rfl) (by kernel_rfl) (by kernel_rfl) (by kernel_rfl) (by kernel_rfl) (fun _ _ _ h => h) (Or.inl ⟨by rfl,?_⟩) KD.out ?_
 case refine_2 => (intro u hu; obtain s0 := hu; go_simp; first | done | with_reducible rfl)
 simp only [Act.put,List.setIfInBounds_toArray,List.set_cons_zero,List.set_cons_succ]
 refine wpTill_step (i := 6) (by kernel_rfl) rfl (fun K hK => ?_)
 go_simp
 go_wp2_with (go_at_call 85; with_reducible refine CC.out.mono ?_; rintro e w6 ⟨rfl,h6,b6⟩; have H6 := hid h6; have B6 := hid b6; clear h6 b6)
 have K6 := hid (CS.out w6 _ _ _ H6.out.tail)
 refine hK _ _ K6.out ?_
 clear hK K
 obtain ⟨U,hU⟩ : ∃ U,U = (w6.alloc (.cells #[.int .i64 (rdN fs)] 3)) := ⟨_,rfl⟩
 have BU : Hid (Below w6.heap.size w6 U) := hid (by rw [hU]; exact (below1 _ _))
 have HU := hid (H6.out.new BU.out)
 have KU := hid (CS.out U _ _ _ HU.out.tail)
 have NWU : Hid (∀ j u,[.int .i64 (rdN fs)][j]? = some u → U.cell? ((⟨w6.heap.size,0,none⟩ : Addr).add j) = some u) := hid (World.news_of_block (cs := #[.int .i64 (rdN fs)]) (by rw [hU]; exact heap_alloc_new w6 _))
 refine wpTill_step (i := 7) (by kernel_rfl) rfl (fun K hK => ?_)
 go_simp
 rw [← hU]
 refine hK _ _ KU.out ?_
 clear hU hK K
 refine wpTill_step (i := 8) (by kernel_rfl) rfl (fun K hK => ?_)
 refine step_append_lies _ (by rfl) _ _ _ (by rfl) B 3 i0 _ 1 8 Tryz.underlying58 hi hz0 hz1 hz2 rfl (by omega) (.slice ua us.length uc) us.length (us.map (Value.int .i64)) (by simp [Act.eval]) HU.out.head ⟨w6.heap.size,0,none⟩ 1 1 [.int .i64 (rdN fs)] (by simp [Act.eval]) (by simp) NWU.out (one_int _) (by omega) (by unfold maxLen; omega) (by omega) HU.out.hi U.heap.size rfl ?_
 intro gg cap5 w5 hown hgrow hat hlt5
 have H5 := hid (HU.out.app hgrow hown hat)
 have B5 := hid (HU.out.bapp hgrow)
 have K5 := hid (CS.out w5 _ _ _ H5.out.tail)
 clear hown hgrow hat
 refine hK _ _ K5.out ?_
 clear hK K
 refine wpTill_step (i := 9) (by kernel_rfl) rfl (fun K hK => ?_)
 go_simp
 refine hK _ _ K5.out ?_
 clear hK K
 refine wpTill_step (i := 10) (by kernel_rfl) rfl (fun K hK => ?_)
 go_simp
 refine hK _ _ K5.out ?_
 clear hK K
 obtain c5 := K5.out
 obtain ⟨fz5,fl5⟩ := ob_froz H5.out.tail.head (pp.length * 8 + 5)
 refine wpTill_last (by kernel_rfl) rfl (by kernel_rfl) (fun K hK => ?_)
 go_simp
 refine hK _ _ ?_
 clear hK K
 refine wpTill_done (by kernel_rfl) ?_ _
 refine NoPanic.normal ?_
 have H7 : Hid (St (w5.setCell ⟨go,pp.length * 8 + 5,none⟩ (.slice (some ⟨gg,0,none⟩) (us.length + 1) cap5)) B F fs.tail ((false || os.isEmpty) || !okN fs) ((ObsG.mk (.slice (some ⟨go,0,none⟩) (pp.length + 1) co) (pp ++ [(ObG.mk pO qO dO ⟨.slice ka ks.length kc,ks⟩ ⟨.slice va vs.length vc,vs⟩ ⟨(.slice (some ⟨gg,0,none⟩) (us.length + 1) cap5),us ++ [rdN fs]⟩ ⟨.slice sa ss.length sc,ss⟩ ⟨.slice ra rs.length rc,rs⟩)])).row :: (⟨3,1,(.slice (some ⟨gg,0,none⟩) (us.length + 1) cap5),us.length + 1,us.map (Value.int .i64) ++ [.int .i64 (rdN fs)]⟩ : Rw) :: ((InG.mk (.slice ka ks.length kc) ks).row :: (InG.mk (.slice va vs.length vc) vs).row :: ((StsG.mk (.slice sa ss.length sc) ss).rows ++ ((TrsG.mk (.slice ra rs.length rc) rs).rows ++ M))))) := hid ((H5.out.perm (.swap _ _ _)).obSet (o' := (ObG.mk pO qO dO ⟨.slice ka ks.length kc,ks⟩ ⟨.slice va vs.length vc,vs⟩ ⟨(.slice (some ⟨gg,0,none⟩) (us.length + 1) cap5),us ++ [rdN fs]⟩ ⟨.slice sa ss.length sc,ss⟩ ⟨.slice ra rs.length rc,rs⟩)) 5 (.slice (some ⟨gg,0,none⟩) (us.length + 1) cap5) (by omega) rfl)
 have B7 := hid ((((B1.out.trans (SW.out.bnew (Below.refl _ _).drew)).trans B6.out).trans (H6.out.bnew BU.out)).trans (B5.out.trans ((H5.out.perm (.swap _ _ _)).bobSet (pp.length * 8 + 5) (.slice (some ⟨gg,0,none⟩) (us.length + 1) cap5))))
 clear H5 H6 HU K5 K6 KU KD CS CC NWU B5 B6 BU c5 fz5 fl5
 clear B1 SW
 go_wp2_with fail
 go_end0
 rcases OR.out with ⟨e,hv,hM⟩ | ⟨e,e2,e3,e4⟩
 ·subst e
  obtain ⟨rfl,_,rfl⟩ : eo = some ⟨go,0,none⟩ ∧ (pp ++ [(ObG.mk pO qO dO ⟨.slice ka ks.length kc,ks⟩ ⟨.slice va vs.length vc,vs⟩ ⟨.slice ua us.length uc,us⟩ ⟨.slice sa ss.length sc,ss⟩ ⟨.slice ra rs.length rc,rs⟩)]).length = pp.length + 1 ∧ ec = co := by simpa using hv
  have hb : bg = true := by
   cases bg with
   | true => rfl
   | false => have := HBG.out rfl; simp [SyG.dat] at this
  subst hb hM
  have LL := lineSub (SyG.mk sg ⟨.slice (some ⟨go,0,none⟩) (pp ++ [(ObG.mk pO qO dO ⟨.slice ka ks.length kc,ks⟩ ⟨.slice va vs.length vc,vs⟩ ⟨.slice ua us.length uc,us⟩ ⟨.slice sa ss.length sc,ss⟩ ⟨.slice ra rs.length rc,rs⟩)]).length ec,pp ++ [(ObG.mk pO qO dO ⟨.slice ka ks.length kc,ks⟩ ⟨.slice va vs.length vc,vs⟩ ⟨.slice ua us.length uc,us⟩ ⟨.slice sa ss.length sc,ss⟩ ⟨.slice ra rs.length rc,rs⟩)]⟩ ⟨.slice xo ts.length xc,ts⟩).dat fs true HBG.out
  refine RdR.of B7.out H7.out (by repeat' (first | exact List.Sublist.refl _ | refine List.sublist_append_of_sublist_right ?_ | refine List.Sublist.cons _ ?_)) (fun hx => ?_) (fun hx => ?_)
  ·rw [LL,if_pos]
   revert hx; simp [SyG.dat]
  ·refine ⟨SyG.mk sg ⟨.slice (some ⟨go,0,none⟩) (pp.length + 1) ec,pp ++ [(ObG.mk pO qO dO ⟨.slice ka ks.length kc,ks⟩ ⟨.slice va vs.length vc,vs⟩ ⟨(.slice (some ⟨gg,0,none⟩) (us.length + 1) cap5),us ++ [rdN fs]⟩ ⟨.slice sa ss.length sc,ss⟩ ⟨.slice ra rs.length rc,rs⟩)]⟩ ⟨.slice xo ts.length xc,ts⟩,?_,?_⟩
   ·rw [LL,if_neg]
    ·simp only [SyG.dat,List.map_append,List.map_cons,List.map_nil,oneOb_snoc]
     first | rfl | simp [ObG.dat,StG.dat,TrG.dat,SmsG.dat,SmG.dat]
    ·rw [Bool.not_eq_true]
     revert hx; simp [SyG.dat]
   ·refine perm_count fun f g hf => ?_; simp only [hf.c,hf.a,hf.z,rdB,SyG.rows,ObsG.rows,ObsG.row,ObG.rows,InG.row,StsG.rows,TrsG.rows,StsG.row,TrsG.row,TmG.row,StG.rows,TrG.rows,SmG.rows,CdG.row,SmsG.rows,SmsG.row,itC_append,itC,List.map_append,List.map_cons,List.map_nil,List.flatMap_append,List.flatMap_cons,List.flatMap_nil,List.append_nil,List.nil_append,List.length_append,List.length_cons,List.length_nil,Nat.zero_add,List.cons_append,List.append_assoc,ObG.cells,StG.cells,TrG.cells,SmG.cells]; try omega
 ·subst e
  subst e4
  refine RdR.of B7.out H7.out (by repeat' (first | exact List.Sublist.refl _ | refine List.sublist_append_of_sublist_right ?_ | refine List.Sublist.cons _ ?_)) (fun _ => line_nil (by decide) (by decide) (by decide) (by simp [SyG.dat])) (fun hx => absurd hx (by simp [badAll]))
end Go.Proofs.YtkdgkomnbjepdaaGreatDoor
namespace Go.Proofs.YtkdgkomnbjepdaaGreatDoor
open Go.RowKit Go.Sort
set_option linter.unusedVariables false
set_option linter.unusedSimpArgs false
attribute [local go_sem ↓] Go.wp_at_zero Go.wp_at_succ
set_option maxRecDepth 100000 in
set_option maxHeartbeats 6400000 in
theorem readVar_any {w : World} {B F Q : Nat} {G : SyG} {bg : Bool} {X : List Rw} {fs : List (List UInt8)} (h : St w B F fs false (rdB Q G bg :: (G.rows ++ X))) (hz : SmD G.dat 1048575) (hbg : bg = false → G.dat.obs = []) : Calls Tryz.prog 52 #[.pointer (some ⟨Q,0,none⟩),.pointer (some ⟨F,0,none⟩)] w fun e w' => RdR B F Q G bg X kVar fs w e w' := by
 obtain ⟨eo,ec,xo,xc,hev,hxv⟩ := SyG.form h.flat.tail
 obtain ⟨sg,⟨ov,os⟩,⟨tv,ts⟩⟩ := G
 simp only at hev hxv
 subst hev hxv
 have OL : os.length ≤ 1048575 := by have := hz.o; simpa [SyG.dat] using this
 have TL : ts.length ≤ 1048575 := by have := hz.t; simpa [SyG.dat] using this
 have HZ := hid hz
 have HBG := hid hbg
 obtain ⟨⟨q0,q1,q2,q3⟩,y0,y1,y2,y3,yl⟩ := four_cb (box_blk h.head)
 simp only at q0 q1 q2 q3
 obtain ⟨i0,hi,hz0,hz1,hz2⟩ := info_parts Tryz.infoI
 have C := hid ((h.perm (L' := (ObsG.mk (.slice eo os.length ec) os).rows ++ (rdB Q (SyG.mk sg ⟨.slice eo os.length ec,os⟩ ⟨.slice xo ts.length xc,ts⟩) bg :: (TmG.mk (.slice xo ts.length xc) ts).row :: X)) (by refine perm_count fun f g hf => ?_; simp only [hf.c,hf.a,hf.z,rdB,SyG.rows,ObsG.rows,ObsG.row,ObG.rows,InG.row,StsG.rows,TrsG.rows,StsG.row,TrsG.row,TmG.row,StG.rows,TrG.rows,SmG.rows,CdG.row,SmsG.rows,SmsG.row,itC_append,itC,List.map_append,List.map_cons,List.map_nil,List.flatMap_append,List.flatMap_cons,List.flatMap_nil,List.append_nil,List.nil_append,List.length_append,List.length_cons,List.length_nil,Nat.zero_add,List.cons_append,List.append_assoc,ObG.cells,StG.cells,TrG.cells,SmG.cells]; try omega)).latO (by omega))
 clear h
 go_enter Tryz.func52,Tryz.ntmps52
 go_upto_region 1 with (go_at_call 87; with_reducible refine C.out.mono ?_; rintro e w1 ⟨go,co,pp,o,M,rfl,h1,b1,hpp,hor⟩; have H1 := hid h1; have B1 := hid b1; have OR := hid hor; clear h1 b1 hor)
 have SO : Hid (SmO o.dat 1048575) := hid (by
  rcases OR.out with ⟨e,_⟩ | ⟨_,_,e,_⟩
  ·exact HZ.out.a _ (by rw [e]; simp [SyG.dat])
  ·rw [e]; exact ⟨by simp [obZ,ObG.dat],by simp [obZ,ObG.dat],by simp [obZ,ObG.dat],by simp [obZ,ObG.dat],by simp [obZ,ObG.dat],by simp [obZ,ObG.dat],by simp [obZ,ObG.dat]⟩)
 obtain ⟨pO,qO,dO,⟨kv,ks⟩,⟨vv,vs⟩,⟨uv,us⟩,⟨sv,ss⟩,⟨rv,rs⟩⟩ := o
 obtain ⟨ka,kc,hkv,_,_,_⟩ := ints_read (H1.out.own (r := (InG.mk kv ks).row) (by simp [ObG.rows]))
 obtain ⟨va,vc,hvv,_,_,_⟩ := ints_read (H1.out.own (r := (InG.mk vv vs).row) (by simp [ObG.rows]))
 obtain ⟨ua,uc,huv,_,_,_⟩ := ints_read (H1.out.own (r := (InG.mk uv us).row) (by simp [ObG.rows]))
 obtain ⟨sa,sc,hsv,_,_,_⟩ := row_read StG.cells 4 (fun _ => rfl) (H1.out.own (r := (StsG.mk sv ss).row) (by simp [ObG.rows,StsG.rows]))
 obtain ⟨ra,rc,hrv,_,_,_⟩ := row_read TrG.cells 5 (fun _ => rfl) (H1.out.own (r := (TrsG.mk rv rs).row) (by simp [ObG.rows,TrsG.rows]))
 simp only [InG.row,StsG.row,TrsG.row] at hkv hvv huv hsv hrv
 subst hkv hvv huv hsv hrv
 have KL : ks.length ≤ 1048575 := SO.out.k
 obtain ⟨kz,hkz⟩ : ∃ k,k = (rdI (fs.getD 0 [])).2 := ⟨_,rfl⟩
 have HKZ := hid hkz
 clear hkz
 have VL : vs.length ≤ 1048575 := SO.out.v
 have SW : Hid (St w1 B F fs (false || os.isEmpty) ((InG.mk (.slice ka ks.length kc) ks).row :: (ObsG.mk (.slice (some ⟨go,0,none⟩) (pp.length + 1) co) (pp ++ [(ObG.mk pO qO dO ⟨.slice ka ks.length kc,ks⟩ ⟨.slice va vs.length vc,vs⟩ ⟨.slice ua us.length uc,us⟩ ⟨.slice sa ss.length sc,ss⟩ ⟨.slice ra rs.length rc,rs⟩)])).row :: ((InG.mk (.slice va vs.length vc) vs).row :: (InG.mk (.slice ua us.length uc) us).row :: ((StsG.mk (.slice sa ss.length sc) ss).rows ++ ((TrsG.mk (.slice ra rs.length rc) rs).rows ++ M))))) := hid (H1.out.perm (by refine perm_count fun f g hf => ?_; simp only [hf.c,hf.a,hf.z,rdB,SyG.rows,ObsG.rows,ObsG.row,ObG.rows,InG.row,StsG.rows,TrsG.rows,StsG.row,TrsG.row,TmG.row,StG.rows,TrG.rows,SmG.rows,CdG.row,SmsG.rows,SmsG.row,itC_append,itC,List.map_append,List.map_cons,List.map_nil,List.flatMap_append,List.flatMap_cons,List.flatMap_nil,List.append_nil,List.nil_append,List.length_append,List.length_cons,List.length_nil,Nat.zero_add,List.cons_append,List.append_assoc,ObG.cells,StG.cells,TrG.cells,SmG.cells]; try omega))
 clear H1 C q0 q1 q2 q3 y0 y1 y2 y3 yl
 have CS : Hid (∀ (X : World) (fs0 : List (List UInt8)) (bd0 : Bool) (T : List Rw),St X B F fs0 bd0 ((ObsG.mk (.slice (some ⟨go,0,none⟩) (pp.length + 1) co) (pp ++ [(ObG.mk pO qO dO ⟨.slice ka ks.length kc,ks⟩ ⟨.slice va vs.length vc,vs⟩ ⟨.slice ua us.length uc,us⟩ ⟨.slice sa ss.length sc,ss⟩ ⟨.slice ra rs.length rc,rs⟩)])).row :: T) → X.cell? ⟨go,pp.length * 8 + 3,none⟩ = some (.slice ka ks.length kc)) := hid (fun X _ _ _ hX => ob_cell hX.head 3 (by omega))
 have KD : Hid (w1.drew.cell? ⟨go,pp.length * 8 + 3,none⟩ = some (.slice ka ks.length kc)) := hid (CS.out _ _ _ _ SW.out.tail.drew)
 have CC := hid SW.out.drew.kind
 rw [← HKZ.out] at CC
 refine wp_region_noPanic ?_
 refine wp_region_till (st := 13) (S := fun u => u.cell? ⟨go,pp.length * 8 + 3,none⟩ = some (.slice ka ks.length kc)) (by kernel_rfl) ?_
 refine wpTill_take (i := 0) (d := some 12) (v := ?_) rfl rfl (by kernel_rfl) (by kernel_rfl) (by kernel_rfl) (by kernel_rfl) (by kernel_rfl) (fun _ _ _ h => h) (Or.inl ⟨by rfl,?_⟩) KD.out ?_
 case refine_2 => (intro u hu; obtain s0 := hu; go_simp; first | done | with_reducible rfl)
 simp only [Act.put,List.setIfInBounds_toArray,List.set_cons_zero,List.set_cons_succ]
 refine wpTill_take (i := 1) (d := some 13) (v := ?_) rfl rfl (by kernel_rfl) (by kernel_rfl) (by kernel_rfl) (by kernel_rfl) (by kernel_rfl) (fun _ _ _ h => h) (Or.inl ⟨by rfl,?_⟩) KD.out ?_
 case refine_2 => (intro u hu; obtain s0 := hu; go_simp; first | done | with_reducible rfl)
 simp only [Act.put,List.setIfInBounds_toArray,List.set_cons_zero,List.set_cons_succ]
 refine wpTill_take (i := 2) (d := some 14) (v := ?_) rfl rfl (by kernel_rfl) (by kernel_rfl) (by kernel_rfl) (by kernel_rfl) (by kernel_rfl) (fun _ _ _ h => h) (Or.inl ⟨by rfl,?_⟩) KD.out ?_
 case refine_2 => (intro u hu; obtain s0 := hu; go_simp; first | done | with_reducible rfl)
 simp only [Act.put,List.setIfInBounds_toArray,List.set_cons_zero,List.set_cons_succ]
 refine wpTill_take (i := 3) (d := some 15) (v := ?_) rfl rfl (by kernel_rfl) (by kernel_rfl) (by kernel_rfl) (by kernel_rfl) (by kernel_rfl) (fun _ _ _ h => h) (Or.inl ⟨by rfl,?_⟩) KD.out ?_
 case refine_2 => (intro u hu; obtain s0 := hu; go_simp; first | done | with_reducible rfl)
 simp only [Act.put,List.setIfInBounds_toArray,List.set_cons_zero,List.set_cons_succ]
 refine wpTill_take (i := 4) (d := some 16) (v := ?_) rfl rfl (by kernel_rfl) (by kernel_rfl) (by kernel_rfl) (by kernel_rfl) (by kernel_rfl) (fun _ _ _ h => h) (Or.inl ⟨by rfl,?_⟩) KD.out ?_
 case refine_2 => (intro u hu; obtain s0 := hu; go_simp; first | done | with_reducible rfl)
 simp only [Act.put,List.setIfInBounds_toArray,List.set_cons_zero,List.set_cons_succ]
 refine wpTill_take (i := 5) (d := some 17) (v := ?_) rfl rfl (by kernel_rfl) (by kernel_rfl) (by kernel_rfl) (by kernel_rfl) (by kernel_rfl) (fun _ _ _ h => h) (Or.inl ⟨by rfl,?_⟩) KD.out ?_
 case refine_2 => (intro u hu; obtain s0 := hu; go_simp; first | done | with_reducible rfl)
 simp only [Act.put,List.setIfInBounds_toArray,List.set_cons_zero,List.set_cons_succ]
 refine wpTill_take (i := 6) (d := some 18) (v := ?_) rfl rfl (by kernel_rfl) (by kernel_rfl) (by kernel_rfl) (by kernel_rfl) (by kernel_rfl) (fun _ _ _ h => h) (Or.inl ⟨by rfl,?_⟩) KD.out ?_
 case refine_2 => (intro u hu; obtain s0 := hu; go_simp; first | done | with_reducible rfl)
 simp only [Act.put,List.setIfInBounds_toArray,List.set_cons_zero,List.set_cons_succ]
 refine wpTill_step (i := 7) (by kernel_rfl) rfl (fun K hK => ?_)
 go_simp
 go_wp2_with (go_at_call 88; with_reducible refine CC.out.mono ?_; rintro e w6 ⟨rfl,h6,b6⟩; have H6 := hid h6; have B6 := hid b6; clear h6 b6)
 have K6 := hid (CS.out w6 _ _ _ H6.out.tail)
 refine hK _ _ K6.out ?_
 clear hK K
 obtain ⟨U,hU⟩ : ∃ U,U = (w6.alloc (.cells #[.int .i64 kz] 3)) := ⟨_,rfl⟩
 have BU : Hid (Below w6.heap.size w6 U) := hid (by rw [hU]; exact (below1 _ _))
 have HU := hid (H6.out.new BU.out)
 have KU := hid (CS.out U _ _ _ HU.out.tail)
 have NWU : Hid (∀ j u,[.int .i64 kz][j]? = some u → U.cell? ((⟨w6.heap.size,0,none⟩ : Addr).add j) = some u) := hid (World.news_of_block (cs := #[.int .i64 kz]) (by rw [hU]; exact heap_alloc_new w6 _))
 refine wpTill_step (i := 8) (by kernel_rfl) rfl (fun K hK => ?_)
 go_simp
 rw [← hU]
 refine hK _ _ KU.out ?_
 clear hU hK K
 refine wpTill_step (i := 9) (by kernel_rfl) rfl (fun K hK => ?_)
 refine step_append_lies _ (by rfl) _ _ _ (by rfl) B 3 i0 _ 1 8 Tryz.underlying58 hi hz0 hz1 hz2 rfl (by omega) (.slice ka ks.length kc) ks.length (ks.map (Value.int .i64)) (by simp [Act.eval]) HU.out.head ⟨w6.heap.size,0,none⟩ 1 1 [.int .i64 kz] (by simp [Act.eval]) (by simp) NWU.out (one_int _) (by omega) (by unfold maxLen; omega) (by omega) HU.out.hi U.heap.size rfl ?_
 intro g1 cap1 w5 hown hgrow hat hlt5
 have H5 := hid (HU.out.app hgrow hown hat)
 have B5 := hid (HU.out.bapp hgrow)
 have K5 := hid (CS.out w5 _ _ _ H5.out.tail)
 clear hown hgrow hat
 refine hK _ _ K5.out ?_
 clear hK K
 refine wpTill_step (i := 10) (by kernel_rfl) rfl (fun K hK => ?_)
 go_simp
 refine hK _ _ K5.out ?_
 clear hK K
 refine wpTill_step (i := 11) (by kernel_rfl) rfl (fun K hK => ?_)
 go_simp
 refine hK _ _ K5.out ?_
 clear hK K
 refine wpTill_step (i := 12) (by kernel_rfl) rfl (fun K hK => ?_)
 go_simp
 refine hK _ _ K5.out ?_
 clear hK K
 obtain c5 := K5.out
 obtain ⟨fz5,fl5⟩ := ob_froz H5.out.tail.head (pp.length * 8 + 3)
 refine wpTill_last (by kernel_rfl) rfl (by kernel_rfl) (fun K hK => ?_)
 go_simp
 refine hK _ _ ?_
 clear hK K
 refine wpTill_done (by kernel_rfl) ?_ _
 refine NoPanic.normal ?_
 have H7 : Hid (St (w5.setCell ⟨go,pp.length * 8 + 3,none⟩ (.slice (some ⟨g1,0,none⟩) (ks.length + 1) cap1)) B F fs.tail ((false || os.isEmpty) || !okK fs) ((ObsG.mk (.slice (some ⟨go,0,none⟩) (pp.length + 1) co) (pp ++ [(ObG.mk pO qO dO ⟨(.slice (some ⟨g1,0,none⟩) (ks.length + 1) cap1),ks ++ [kz]⟩ ⟨.slice va vs.length vc,vs⟩ ⟨.slice ua us.length uc,us⟩ ⟨.slice sa ss.length sc,ss⟩ ⟨.slice ra rs.length rc,rs⟩)])).row :: (⟨3,1,(.slice (some ⟨g1,0,none⟩) (ks.length + 1) cap1),ks.length + 1,ks.map (Value.int .i64) ++ [.int .i64 kz]⟩ : Rw) :: ((InG.mk (.slice va vs.length vc) vs).row :: (InG.mk (.slice ua us.length uc) us).row :: ((StsG.mk (.slice sa ss.length sc) ss).rows ++ ((TrsG.mk (.slice ra rs.length rc) rs).rows ++ M))))) := hid ((H5.out.perm (.swap _ _ _)).obSet (o' := (ObG.mk pO qO dO ⟨(.slice (some ⟨g1,0,none⟩) (ks.length + 1) cap1),ks ++ [kz]⟩ ⟨.slice va vs.length vc,vs⟩ ⟨.slice ua us.length uc,us⟩ ⟨.slice sa ss.length sc,ss⟩ ⟨.slice ra rs.length rc,rs⟩)) 3 (.slice (some ⟨g1,0,none⟩) (ks.length + 1) cap1) (by omega) rfl)
 have B7 := hid ((((B1.out.trans (SW.out.bnew (Below.refl _ _).drew)).trans B6.out).trans (H6.out.bnew BU.out)).trans (B5.out.trans ((H5.out.perm (.swap _ _ _)).bobSet (pp.length * 8 + 3) (.slice (some ⟨g1,0,none⟩) (ks.length + 1) cap1))))
 clear H5 H6 HU K5 K6 KU KD CS CC NWU B5 B6 BU c5 fz5 fl5
 clear B1
 obtain ⟨W2,hW2⟩ : ∃ W,W = w5.setCell ⟨go,pp.length * 8 + 3,none⟩ (.slice (some ⟨g1,0,none⟩) (ks.length + 1) cap1) := ⟨_,rfl⟩
 rw [← hW2] at H7 B7 ⊢
 clear hW2
 have SW2 : Hid (St W2 B F fs.tail ((false || os.isEmpty) || !okK fs) ((InG.mk (.slice va vs.length vc) vs).row :: (ObsG.mk (.slice (some ⟨go,0,none⟩) (pp.length + 1) co) (pp ++ [(ObG.mk pO qO dO ⟨(.slice (some ⟨g1,0,none⟩) (ks.length + 1) cap1),ks ++ [kz]⟩ ⟨.slice va vs.length vc,vs⟩ ⟨.slice ua us.length uc,us⟩ ⟨.slice sa ss.length sc,ss⟩ ⟨.slice ra rs.length rc,rs⟩)])).row :: ((InG.mk (.slice (some ⟨g1,0,none⟩) (ks.length + 1) cap1) (ks ++ [kz])).row :: (InG.mk (.slice ua us.length uc) us).row :: ((StsG.mk (.slice sa ss.length sc) ss).rows ++ ((TrsG.mk (.slice ra rs.length rc) rs).rows ++ M))))) := hid (H7.out.perm (by refine perm_count fun f g hf => ?_; simp only [hf.c,hf.a,hf.z,rdB,SyG.rows,ObsG.rows,ObsG.row,ObG.rows,InG.row,StsG.rows,TrsG.rows,StsG.row,TrsG.row,TmG.row,StG.rows,TrG.rows,SmG.rows,CdG.row,SmsG.rows,SmsG.row,itC_append,itC,List.map_append,List.map_cons,List.map_nil,List.flatMap_append,List.flatMap_cons,List.flatMap_nil,List.append_nil,List.nil_append,List.length_append,List.length_cons,List.length_nil,Nat.zero_add,List.cons_append,List.append_assoc,ObG.cells,StG.cells,TrG.cells,SmG.cells]; try omega))
 clear SW H7
 have SW := SW2
 clear SW2
 go_upto_region 2 with fail
 have CS : Hid (∀ (X : World) (fs0 : List (List UInt8)) (bd0 : Bool) (T : List Rw),St X B F fs0 bd0 ((ObsG.mk (.slice (some ⟨go,0,none⟩) (pp.length + 1) co) (pp ++ [(ObG.mk pO qO dO ⟨(.slice (some ⟨g1,0,none⟩) (ks.length + 1) cap1),ks ++ [kz]⟩ ⟨.slice va vs.length vc,vs⟩ ⟨.slice ua us.length uc,us⟩ ⟨.slice sa ss.length sc,ss⟩ ⟨.slice ra rs.length rc,rs⟩)])).row :: T) → X.cell? ⟨go,pp.length * 8 + 4,none⟩ = some (.slice va vs.length vc)) := hid (fun X _ _ _ hX => ob_cell hX.head 4 (by omega))
 have KD : Hid (W2.drew.cell? ⟨go,pp.length * 8 + 4,none⟩ = some (.slice va vs.length vc)) := hid (CS.out _ _ _ _ SW.out.tail.drew)
 have CC := hid SW.out.drew.number
 refine wp_region_noPanic ?_
 refine wp_region_till (st := 13) (S := fun u => u.cell? ⟨go,pp.length * 8 + 4,none⟩ = some (.slice va vs.length vc)) (by kernel_rfl) ?_
 refine wpTill_take (i := 0) (d := some 25) (v := ?_) rfl rfl (by kernel_rfl) (by kernel_rfl) (by kernel_rfl) (by kernel_rfl) (by kernel_rfl) (fun _ _ _ h => h) (Or.inl ⟨by rfl,?_⟩) KD.out ?_
 case refine_2 => (intro u hu; obtain s0 := hu; go_simp; first | done | with_reducible rfl)
 simp only [Act.put,List.setIfInBounds_toArray,List.set_cons_zero,List.set_cons_succ]
 refine wpTill_take (i := 1) (d := some 26) (v := ?_) rfl rfl (by kernel_rfl) (by kernel_rfl) (by kernel_rfl) (by kernel_rfl) (by kernel_rfl) (fun _ _ _ h => h) (Or.inl ⟨by rfl,?_⟩) KD.out ?_
 case refine_2 => (intro u hu; obtain s0 := hu; go_simp; first | done | with_reducible rfl)
 simp only [Act.put,List.setIfInBounds_toArray,List.set_cons_zero,List.set_cons_succ]
 refine wpTill_take (i := 2) (d := some 27) (v := ?_) rfl rfl (by kernel_rfl) (by kernel_rfl) (by kernel_rfl) (by kernel_rfl) (by kernel_rfl) (fun _ _ _ h => h) (Or.inl ⟨by rfl,?_⟩) KD.out ?_
 case refine_2 => (intro u hu; obtain s0 := hu; go_simp; first | done | with_reducible rfl)
 simp only [Act.put,List.setIfInBounds_toArray,List.set_cons_zero,List.set_cons_succ]
 refine wpTill_take (i := 3) (d := some 28) (v := ?_) rfl rfl (by kernel_rfl) (by kernel_rfl) (by kernel_rfl) (by kernel_rfl) (by kernel_rfl) (fun _ _ _ h => h) (Or.inl ⟨by rfl,?_⟩) KD.out ?_
 case refine_2 => (intro u hu; obtain s0 := hu; go_simp; first | done | with_reducible rfl)
 simp only [Act.put,List.setIfInBounds_toArray,List.set_cons_zero,List.set_cons_succ]
 refine wpTill_take (i := 4) (d := some 29) (v := ?_) rfl rfl (by kernel_rfl) (by kernel_rfl) (by kernel_rfl) (by kernel_rfl) (by kernel_rfl) (fun _ _ _ h => h) (Or.inl ⟨by rfl,?_⟩) KD.out ?_
 case refine_2 => (intro u hu; obtain s0 := hu; go_simp; first | done | with_reducible rfl)
 simp only [Act.put,List.setIfInBounds_toArray,List.set_cons_zero,List.set_cons_succ]
 refine wpTill_take (i := 5) (d := some 30) (v := ?_) rfl rfl (by kernel_rfl) (by kernel_rfl) (by kernel_rfl) (by kernel_rfl) (by kernel_rfl) (fun _ _ _ h => h) (Or.inl ⟨by rfl,?_⟩) KD.out ?_
 case refine_2 => (intro u hu; obtain s0 := hu; go_simp; first | done | with_reducible rfl)
 simp only [Act.put,List.setIfInBounds_toArray,List.set_cons_zero,List.set_cons_succ]
 refine wpTill_take (i := 6) (d := some 31) (v := ?_) rfl rfl (by kernel_rfl) (by kernel_rfl) (by kernel_rfl) (by kernel_rfl) (by kernel_rfl) (fun _ _ _ h => h) (Or.inl ⟨by rfl,?_⟩) KD.out ?_
 case refine_2 => (intro u hu; obtain s0 := hu; go_simp; first | done | with_reducible rfl)
 simp only [Act.put,List.setIfInBounds_toArray,List.set_cons_zero,List.set_cons_succ]
 refine wpTill_step (i := 7) (by kernel_rfl) rfl (fun K hK => ?_)
 go_simp
 go_wp2_with (go_at_call 85; with_reducible refine CC.out.mono ?_; rintro e w6 ⟨rfl,h6,b6⟩; have H6 := hid h6; have B6 := hid b6; clear h6 b6)
 have K6 := hid (CS.out w6 _ _ _ H6.out.tail)
 refine hK _ _ K6.out ?_
 clear hK K
 obtain ⟨U,hU⟩ : ∃ U,U = (w6.alloc (.cells #[.int .i64 (rdN fs.tail)] 3)) := ⟨_,rfl⟩
 have BU : Hid (Below w6.heap.size w6 U) := hid (by rw [hU]; exact (below1 _ _))
 have HU := hid (H6.out.new BU.out)
 have KU := hid (CS.out U _ _ _ HU.out.tail)
 have NWU : Hid (∀ j u,[.int .i64 (rdN fs.tail)][j]? = some u → U.cell? ((⟨w6.heap.size,0,none⟩ : Addr).add j) = some u) := hid (World.news_of_block (cs := #[.int .i64 (rdN fs.tail)]) (by rw [hU]; exact heap_alloc_new w6 _))
 refine wpTill_step (i := 8) (by kernel_rfl) rfl (fun K hK => ?_)
 go_simp
 rw [← hU]
 refine hK _ _ KU.out ?_
 clear hU hK K
 refine wpTill_step (i := 9) (by kernel_rfl) rfl (fun K hK => ?_)
 refine step_append_lies _ (by rfl) _ _ _ (by rfl) B 3 i0 _ 1 8 Tryz.underlying58 hi hz0 hz1 hz2 rfl (by omega) (.slice va vs.length vc) vs.length (vs.map (Value.int .i64)) (by simp [Act.eval]) HU.out.head ⟨w6.heap.size,0,none⟩ 1 1 [.int .i64 (rdN fs.tail)] (by simp [Act.eval]) (by simp) NWU.out (one_int _) (by omega) (by unfold maxLen; omega) (by omega) HU.out.hi U.heap.size rfl ?_
 intro gg cap5 w5 hown hgrow hat hlt5
 have H5 := hid (HU.out.app hgrow hown hat)
 have B5 := hid (HU.out.bapp hgrow)
 have K5 := hid (CS.out w5 _ _ _ H5.out.tail)
 clear hown hgrow hat
 refine hK _ _ K5.out ?_
 clear hK K
 refine wpTill_step (i := 10) (by kernel_rfl) rfl (fun K hK => ?_)
 go_simp
 refine hK _ _ K5.out ?_
 clear hK K
 refine wpTill_step (i := 11) (by kernel_rfl) rfl (fun K hK => ?_)
 go_simp
 refine hK _ _ K5.out ?_
 clear hK K
 refine wpTill_step (i := 12) (by kernel_rfl) rfl (fun K hK => ?_)
 go_simp
 refine hK _ _ K5.out ?_
 clear hK K
 obtain c5 := K5.out
 obtain ⟨fz5,fl5⟩ := ob_froz H5.out.tail.head (pp.length * 8 + 4)
 refine wpTill_last (by kernel_rfl) rfl (by kernel_rfl) (fun K hK => ?_)
 go_simp
 refine hK _ _ ?_
 clear hK K
 refine wpTill_done (by kernel_rfl) ?_ _
 refine NoPanic.normal ?_
 have H7 : Hid (St (w5.setCell ⟨go,pp.length * 8 + 4,none⟩ (.slice (some ⟨gg,0,none⟩) (vs.length + 1) cap5)) B F fs.tail.tail (((false || os.isEmpty) || !okK fs) || !okN fs.tail) ((ObsG.mk (.slice (some ⟨go,0,none⟩) (pp.length + 1) co) (pp ++ [(ObG.mk pO qO dO ⟨(.slice (some ⟨g1,0,none⟩) (ks.length + 1) cap1),ks ++ [kz]⟩ ⟨(.slice (some ⟨gg,0,none⟩) (vs.length + 1) cap5),vs ++ [rdN fs.tail]⟩ ⟨.slice ua us.length uc,us⟩ ⟨.slice sa ss.length sc,ss⟩ ⟨.slice ra rs.length rc,rs⟩)])).row :: (⟨3,1,(.slice (some ⟨gg,0,none⟩) (vs.length + 1) cap5),vs.length + 1,vs.map (Value.int .i64) ++ [.int .i64 (rdN fs.tail)]⟩ : Rw) :: ((InG.mk (.slice (some ⟨g1,0,none⟩) (ks.length + 1) cap1) (ks ++ [kz])).row :: (InG.mk (.slice ua us.length uc) us).row :: ((StsG.mk (.slice sa ss.length sc) ss).rows ++ ((TrsG.mk (.slice ra rs.length rc) rs).rows ++ M))))) := hid ((H5.out.perm (.swap _ _ _)).obSet (o' := (ObG.mk pO qO dO ⟨(.slice (some ⟨g1,0,none⟩) (ks.length + 1) cap1),ks ++ [kz]⟩ ⟨(.slice (some ⟨gg,0,none⟩) (vs.length + 1) cap5),vs ++ [rdN fs.tail]⟩ ⟨.slice ua us.length uc,us⟩ ⟨.slice sa ss.length sc,ss⟩ ⟨.slice ra rs.length rc,rs⟩)) 4 (.slice (some ⟨gg,0,none⟩) (vs.length + 1) cap5) (by omega) rfl)
 have B8 := hid ((((B7.out.trans (SW.out.bnew (Below.refl _ _).drew)).trans B6.out).trans (H6.out.bnew BU.out)).trans (B5.out.trans ((H5.out.perm (.swap _ _ _)).bobSet (pp.length * 8 + 4) (.slice (some ⟨gg,0,none⟩) (vs.length + 1) cap5))))
 clear H5 H6 HU K5 K6 KU KD CS CC NWU B5 B6 BU c5 fz5 fl5
 clear B7 SW
 go_wp2_with fail
 go_end0
 rcases OR.out with ⟨e,hv,hM⟩ | ⟨e,e2,e3,e4⟩
 ·subst e
  obtain ⟨rfl,_,rfl⟩ : eo = some ⟨go,0,none⟩ ∧ (pp ++ [(ObG.mk pO qO dO ⟨.slice ka ks.length kc,ks⟩ ⟨.slice va vs.length vc,vs⟩ ⟨.slice ua us.length uc,us⟩ ⟨.slice sa ss.length sc,ss⟩ ⟨.slice ra rs.length rc,rs⟩)]).length = pp.length + 1 ∧ ec = co := by simpa using hv
  have hb : bg = true := by
   cases bg with
   | true => rfl
   | false => have := HBG.out rfl; simp [SyG.dat] at this
  subst hb hM
  have LL := lineVar (SyG.mk sg ⟨.slice (some ⟨go,0,none⟩) (pp ++ [(ObG.mk pO qO dO ⟨.slice ka ks.length kc,ks⟩ ⟨.slice va vs.length vc,vs⟩ ⟨.slice ua us.length uc,us⟩ ⟨.slice sa ss.length sc,ss⟩ ⟨.slice ra rs.length rc,rs⟩)]).length ec,pp ++ [(ObG.mk pO qO dO ⟨.slice ka ks.length kc,ks⟩ ⟨.slice va vs.length vc,vs⟩ ⟨.slice ua us.length uc,us⟩ ⟨.slice sa ss.length sc,ss⟩ ⟨.slice ra rs.length rc,rs⟩)]⟩ ⟨.slice xo ts.length xc,ts⟩).dat fs true HBG.out
  refine RdR.of B8.out H7.out (by repeat' (first | exact List.Sublist.refl _ | refine List.sublist_append_of_sublist_right ?_ | refine List.Sublist.cons _ ?_)) (fun hx => ?_) (fun hx => ?_)
  ·rw [LL,if_pos]
   revert hx; simp [SyG.dat]
  ·refine ⟨SyG.mk sg ⟨.slice (some ⟨go,0,none⟩) (pp.length + 1) ec,pp ++ [(ObG.mk pO qO dO ⟨(.slice (some ⟨g1,0,none⟩) (ks.length + 1) cap1),ks ++ [kz]⟩ ⟨(.slice (some ⟨gg,0,none⟩) (vs.length + 1) cap5),vs ++ [rdN fs.tail]⟩ ⟨.slice ua us.length uc,us⟩ ⟨.slice sa ss.length sc,ss⟩ ⟨.slice ra rs.length rc,rs⟩)]⟩ ⟨.slice xo ts.length xc,ts⟩,?_,?_⟩
   ·rw [LL,if_neg]
    ·simp only [SyG.dat,List.map_append,List.map_cons,List.map_nil,oneOb_snoc]
     rw [← HKZ.out]; first | rfl | simp [ObG.dat,StG.dat,TrG.dat,SmsG.dat,SmG.dat]
    ·rw [Bool.not_eq_true]
     revert hx; simp [SyG.dat]
   ·refine perm_count fun f g hf => ?_; simp only [hf.c,hf.a,hf.z,rdB,SyG.rows,ObsG.rows,ObsG.row,ObG.rows,InG.row,StsG.rows,TrsG.rows,StsG.row,TrsG.row,TmG.row,StG.rows,TrG.rows,SmG.rows,CdG.row,SmsG.rows,SmsG.row,itC_append,itC,List.map_append,List.map_cons,List.map_nil,List.flatMap_append,List.flatMap_cons,List.flatMap_nil,List.append_nil,List.nil_append,List.length_append,List.length_cons,List.length_nil,Nat.zero_add,List.cons_append,List.append_assoc,ObG.cells,StG.cells,TrG.cells,SmG.cells]; try omega
 ·subst e
  subst e4
  refine RdR.of B8.out H7.out (by repeat' (first | exact List.Sublist.refl _ | refine List.sublist_append_of_sublist_right ?_ | refine List.Sublist.cons _ ?_)) (fun _ => line_nil (by decide) (by decide) (by decide) (by simp [SyG.dat])) (fun hx => absurd hx (by simp [badAll]))
end Go.Proofs.YtkdgkomnbjepdaaGreatDoor

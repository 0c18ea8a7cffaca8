import Derived.Test.YtiimkhepplkocaaGreatOa
import Derived.WalkKit
import Derived.WalkSpells
import Derived.WalkLawsBesides
import Derived.Deep.OwnRows
import Derived.Deep.QuietTactic
import Derived.BigQuiet
import Derived.Deep.RegionWith
import Derived.Deep.DrawnRows
set_option maxRecDepth 100000
set_option maxHeartbeats 16000000
namespace Go.Proofs.YtiimkhepplkocaaGreat
open Go.RowKit
open Go.RowKit Go.Sort
theorem Tryz.infoInt0:(Tryz.prog.info? 3).map (λi=>(i.zero,i.size,i.bytes))=some (some (.int .i64 0),1,8):=by kernel_rfl
theorem szIntS_any(ao:Option Addr)(n c:Nat)(left:Int)(w:World)(hn:n≤9223372036854775807)(h0:0≤left)(h1:left≤1048576):
  Calls Tryz.prog 91 #[.slice ao n c,.int .i64 left] w λe w'=>e=.returned (.int .i64 (if left<n then-1 else left-n))∧w'=w:=by
 by_cases h:left<n
 ·rw[if_pos h]
  have h2:left-n<0:=by omega
  go_enter Tryz.func91,Tryz.ntmps91;go_wp2;go_ret;exact⟨rfl,rfl⟩
 ·rw[if_neg h]
  have h2:¬left-n<0:=by omega
  go_enter Tryz.func91,Tryz.ntmps91;go_wp2;go_ret;exact⟨rfl,rfl⟩
abbrev qc9(ks vs:List Int)(k:Nat):Prop:=∀i,i<k→kOk (ks.getD i 0)=true∧conv (ks.getD i 0) (vs.getD i 0)=vs.getD i 0
def bQ(ks vs:List Int):Bool:=decide (ks.length=vs.length∧vs.length≤32∧qc9 ks vs ks.length)
theorem Calls.regrown_same{P:Program}{f:FuncId}{args:Array Value}{w:World}{d:Nat}{os:Array Obj}{v:Value}
  (h:Calls P f args (grow (redrawn w d) os) λe w'=>e=.returned v∧w'=grow (redrawn w d) os):Calls P f args (grow (redrawn w d) os) λe w''=>e=.returned v∧∃p:Regrown,w''=grow (redrawn w p.d) p.os:=
 h.mono λ_ _ ⟨he,hb⟩=>⟨he,⟨d,os⟩,hb⟩
theorem qoL(k:Int)(h1:1≤k)(h7:k≤7):∀(args:Array Value) (w:World),(callFunc (cfn k) args).run Tryz.prog w=.ok (.enter (cfn k) args) w:=by
 have hk:k=1∨k=2∨k=3∨k=4∨k=5∨k=6∨k=7:=by omega
 rcases hk with rfl|rfl|rfl|rfl|rfl|rfl|rfl
 ·exact yK (f:=152) Tryz.func152 (by kernel_rfl) rfl
 ·exact yK (f:=153) Tryz.func153 (by kernel_rfl) rfl
 ·exact yK (f:=154) Tryz.func154 (by kernel_rfl) rfl
 ·exact yK (f:=155) Tryz.func155 (by kernel_rfl) rfl
 ·exact yK (f:=156) Tryz.func156 (by kernel_rfl) rfl
 ·exact yK (f:=157) Tryz.func157 (by kernel_rfl) rfl
 ·exact yK (f:=158) Tryz.func158 (by kernel_rfl) rfl
theorem quZ{ks vs:List Int}{k:Nat}{x y:Int}(hp:qc9 ks vs k)(ex:x=ks.getD k 0)(ey:y=vs.getD k 0)(h1:kOk x=true)(h2:conv x y=y):qc9 ks vs (k+1):=by
 intro i hi;by_cases e:i=k
 ·subst e;rw[←ex,←ey];exact⟨h1,h2⟩
 ·exact hp i (by omega)
theorem qiY{ks vs:List Int}{k n:Nat}(hl:ks.length=n)(hlt:k<n)(h:¬(kOk (ks.getD k 0)=true∧conv (ks.getD k 0) (vs.getD k 0)=vs.getD k 0)):bQ ks vs=false:=by
 unfold bQ;rw[decide_eq_false_iff_not];exactλhh=>h (hh.2.2 k (by omega))
theorem qu0{ks vs:List Int}{n:Nat}(hl:ks.length=n)(hv:vs.length=n)(h32:n≤32)(h:qc9 ks vs n):bQ ks vs=true:=by
 unfold bQ;rw[decide_eq_true_iff];exact⟨by omega,by omega,by rw[hl];exact h⟩
theorem qI3(ao bo:Option Addr)(n m c d:Nat)(ks vs:List Int)(w:World)(hn:n≤9223372036854775807)(hm:m≤9223372036854775807)(hx:SliceOf w ao n ks)(hy:SliceOf w bo m vs):
  Calls Tryz.prog 23 #[.agg #[.slice ao n c,.slice bo m d]] w λe w'=>e=.returned (.bool (bQ ks vs))∧Below w.heap.size w w':=by
 by_cases hnm:n=m
 ·subst hnm
  by_cases h32:n≤32
  ·have HL:Hid (ks.length=n∧vs.length=n):=⟨hx.1,hy.1⟩
   go_enter Tryz.func23,Tryz.ntmps23;go_wp2;go_loopw [21] (λi wr=>∃k:Nat,k≤n∧i=.int .i64 k∧qc9 ks vs k∧wr.cell? ⟨w.heap.size,1,none⟩=some (.slice bo n d)∧Below w.heap.size w wr∧w.heap.size<wr.heap.size) (λi _=>n-(intOf i).toNat)
   case atStart=>exact⟨0,Nat.zero_le _,rfl,λi h=>absurd h (by omega),by simp,(Below.refl _ _).alloc (Nat.le_refl _) _,by simp⟩
   case round=>
    obtain⟨k,hk,rfl,hp,hbox,hb,hsz⟩:=hrel;have HP:Hid (qc9 ks vs k):=hp;clear hp;by_cases hlt:k<n
    ·obtain⟨b,off,rfl,hbl,hc⟩:=hx.2 (by omega)
     obtain⟨b2,off2,rfl,hbl2,hc2⟩:=hy.2 (by omega);have h1:=hc k hlt;have h2:=hc2 k hlt;have hi:(k:Int)<(n:Int):=by omega
     obtain⟨x,ex⟩:∃x,x=ks.getD k 0:=⟨_,rfl⟩;obtain⟨y,ey⟩:∃y,y=vs.getD k 0:=⟨_,rfl⟩;rw[←ex]at h1;rw[←ey]at h2;have EX:Hid (x=ks.getD k 0):=ex;have EY:Hid (y=vs.getD k 0):=ey;have k1:wr.cell? ⟨b,off+k,none⟩=some (.int .i64 x):=(hb.cell (p:=⟨b,off+k,none⟩) hbl).trans h1;have k2:wr.cell? ⟨b2,off2+k,none⟩=some (.int .i64 y):=(hb.cell (p:=⟨b2,off2+k,none⟩) hbl2).trans h2;have q2:=cell_regrown k2;have qb:=cell_regrown hbox;have HB:Hid (Below w.heap.size w wr):=hb;clear ex ey hc hc2 hx hy h1 h2 hb;by_cases hkk:1≤x∧x≤7
     ·have ht:aQ x 1 7=true:=by simp[aQ];omega
      have c35:∀d os,Calls Tryz.prog 55 #[.int .i64 x,.int .i64 1,.int .i64 7] (grow (redrawn wr d) os) λe w''=>e=.returned (.bool true)∧∃p:Regrown,w''=grow (redrawn wr p.d) p.os:=
       λd os=>Calls.regrown_same (by rw[←ht];exact qdF x 1 7 _)
      have c49:∀d os,Calls Tryz.prog 73 #[.int .i64 x,.int .i64 y] (grow (redrawn wr d) os) λe w''=>e=.returned (.int .i64 (conv x y))∧∃p:Regrown,w''=grow (redrawn wr p.d) p.os:=
       λd os=>Calls.regrown_of (qjH x y _ hkk.1 hkk.2)
      by_cases hcv:conv x y=y
      ·have hcb:(conv x y !=y)=false:=by simpa using hcv
       have HCV:Hid (conv x y=y):=hcv;clear hcv;go_wp2;refine wp_region_quiet_below (by kernel_rfl) (by kernel_rfl) ?_
       repeat(any_goals(first|go_big_quiet_step(first|exact c35 _ _|exact c49 _ _)|quiet_step (first|exact c35 _ _|exact c49 _ _)))
       refine wpQuiet_nil ?_;intro _ hw';obtain⟨⟨dq,osq⟩,hw''⟩:=hw';subst hw'';go_wp2;go_roundw
       case rel=>exact⟨k+1,by omega,by go_num,quZ HP.out EX.out EY.out (by simp[kOk];omega) HCV.out,qb dq osq,HB.out.trans ((below_regrown wr dq osq).mono (by omega)),Nat.lt_of_lt_of_le hsz (below_regrown wr dq osq).size⟩
       case measure=>simp[intOf];omega
      ·have hcb:(conv x y !=y)=true:=by simpa using hcv
       have HCV:Hid (¬conv x y=y):=hcv;clear hcv;go_wp2;refine wp_region_quiet_below (by kernel_rfl) (by kernel_rfl) ?_
       repeat(any_goals(first|go_big_quiet_step(first|exact c35 _ _|exact c49 _ _)|quiet_step (first|exact c35 _ _|exact c49 _ _)))
       refine wpQuiet_nil ?_;intro _ hw';obtain⟨⟨dq,osq⟩,hw''⟩:=hw';subst hw'';go_wp2;go_ret;exact⟨aZ (qiY HL.out.1 hlt (by rw[←EX.out,←EY.out];exactλh=>HCV.out h.2)).symm,HB.out.trans ((below_regrown wr dq osq).mono (by omega))⟩
     ·have ht:aQ x 1 7=false:=by simp[aQ];omega
      have c35:∀d os,Calls Tryz.prog 55 #[.int .i64 x,.int .i64 1,.int .i64 7] (grow (redrawn wr d) os) λe w''=>e=.returned (.bool false)∧∃p:Regrown,w''=grow (redrawn wr p.d) p.os:=
       λd os=>Calls.regrown_same (by rw[←ht];exact qdF x 1 7 _)
      go_wp2;refine wp_region_quiet_below (by kernel_rfl) (by kernel_rfl) ?_
      repeat(any_goals(first|go_big_quiet_step(first|exact c35 _ _)|quiet_step (first|exact c35 _ _)))
      refine wpQuiet_nil ?_;intro _ hw';obtain⟨⟨dq,osq⟩,hw''⟩:=hw';subst hw'';go_wp2;go_ret;exact⟨aZ (qiY HL.out.1 hlt (by rw[←EX.out,←EY.out];intro h;have h2:=h.1;simp[kOk]at h2;omega)).symm,HB.out.trans ((below_regrown wr dq osq).mono (by omega))⟩
    ·have e:k=n:=by omega
     subst e;go_wp2;go_ret;exact⟨aZ (qu0 HL.out.1 HL.out.2 h32 HP.out).symm,hb⟩
  ·have HX:Hid (bQ ks vs=false):=by unfold bQ;simp;intro _ h;rw[hy.1]at h;omega
   have hgt:(32:Int)<(n:Int):=by omega
   clear hx hy;go_enter Tryz.func23,Tryz.ntmps23;go_wp2;go_ret;exact⟨aZ HX.out.symm,(Below.refl _ _).alloc (Nat.le_refl _) _⟩
 ·have HX:Hid (bQ ks vs=false):=by unfold bQ;simp;intro h;rw[hx.1,hy.1]at h;omega
  have h2:((n:Int) !=(m:Int))=true:=by simp;omega
  clear hx hy;go_enter Tryz.func23,Tryz.ntmps23;go_wp2;go_ret;exact⟨aZ HX.out.symm,(Below.refl _ _).alloc (Nat.le_refl _) _⟩
theorem qoV(ao bo:Option Addr)(n m c d:Nat)(ks vs:List Int)(w:World)(hn:n≤9223372036854775807)(hm:m≤9223372036854775807)(hx:SliceOf w ao n ks)(hy:SliceOf w bo m vs):
  Calls Tryz.prog 61 #[.agg #[.slice ao n c,.slice bo m d]] w λe w'=>e=.returned (.bool (bQ ks vs))∧Below w.heap.size w w':=by
 by_cases hnm:n=m
 ·subst hnm
  by_cases h32:n≤32
  ·have HL:Hid (ks.length=n∧vs.length=n):=⟨hx.1,hy.1⟩
   go_enter Tryz.func61,Tryz.ntmps61;go_wp2;go_loopw [21] (λi wr=>∃k:Nat,k≤n∧i=.int .i64 k∧qc9 ks vs k∧wr.cell? ⟨w.heap.size,1,none⟩=some (.slice bo n d)∧Below w.heap.size w wr∧w.heap.size<wr.heap.size) (λi _=>n-(intOf i).toNat)
   case atStart=>exact⟨0,Nat.zero_le _,rfl,λi h=>absurd h (by omega),by simp,(Below.refl _ _).alloc (Nat.le_refl _) _,by simp⟩
   case round=>
    obtain⟨k,hk,rfl,hp,hbox,hb,hsz⟩:=hrel;have HP:Hid (qc9 ks vs k):=hp;clear hp;by_cases hlt:k<n
    ·obtain⟨b,off,rfl,hbl,hc⟩:=hx.2 (by omega)
     obtain⟨b2,off2,rfl,hbl2,hc2⟩:=hy.2 (by omega);have h1:=hc k hlt;have h2:=hc2 k hlt;have hi:(k:Int)<(n:Int):=by omega
     obtain⟨x,ex⟩:∃x,x=ks.getD k 0:=⟨_,rfl⟩;obtain⟨y,ey⟩:∃y,y=vs.getD k 0:=⟨_,rfl⟩;rw[←ex]at h1;rw[←ey]at h2;have EX:Hid (x=ks.getD k 0):=ex;have EY:Hid (y=vs.getD k 0):=ey;have k1:wr.cell? ⟨b,off+k,none⟩=some (.int .i64 x):=(hb.cell (p:=⟨b,off+k,none⟩) hbl).trans h1;have k2:wr.cell? ⟨b2,off2+k,none⟩=some (.int .i64 y):=(hb.cell (p:=⟨b2,off2+k,none⟩) hbl2).trans h2;have q2:=cell_regrown k2;have qb:=cell_regrown hbox;have HB:Hid (Below w.heap.size w wr):=hb;clear ex ey hc hc2 hx hy h1 h2 hb;by_cases hkk:1≤x∧x≤7
     ·have ht:kOk x=true:=by simp[kOk];omega
      have c51:∀d os,Calls Tryz.prog 116 #[.int .i64 x] (grow (redrawn wr d) os) λe w''=>e=.returned (.bool true)∧∃p:Regrown,w''=grow (redrawn wr p.d) p.os:=
       λd os=>Calls.regrown_same (by rw[←ht];exact qo4 x _)
      have c52:∀d os,Calls Tryz.prog 117 #[.int .i64 x] (grow (redrawn wr d) os) λe w''=>e=.returned (.func (.func (cfn x)) #[] #[])∧∃p:Regrown,w''=grow (redrawn wr p.d) p.os:=
       λd os=>Calls.regrown_of (qoE x _ hkk.1 hkk.2)
      have hent:=qoL x hkk.1 hkk.2;have c60:∀d os,Calls Tryz.prog (cfn x) #[.int .i64 y] (grow (redrawn wr d) os) λe w''=>e=.returned (.int .i64 (conv x y))∧∃p:Regrown,w''=grow (redrawn wr p.d) p.os:=
       λd os=>Calls.regrown_same (qp5 x y _ hkk.1 hkk.2)
      by_cases hcv:conv x y=y
      ·have hcb:(conv x y !=y)=false:=by simpa using hcv
       have HCV:Hid (conv x y=y):=hcv;clear hcv;go_wp2;refine wp_region_quiet_below (by kernel_rfl) (by kernel_rfl) ?_
       repeat(any_goals(first|go_big_quiet_step(first|exact c51 _ _|exact c52 _ _|exact c60 _ _)|quiet_step (first|exact c51 _ _|exact c52 _ _|exact c60 _ _)))
       refine wpQuiet_nil ?_;intro _ hw';obtain⟨⟨dq,osq⟩,hw''⟩:=hw';subst hw'';go_wp2;go_roundw
       case rel=>exact⟨k+1,by omega,by go_num,quZ HP.out EX.out EY.out (by simp[kOk];omega) HCV.out,qb dq osq,HB.out.trans ((below_regrown wr dq osq).mono (by omega)),Nat.lt_of_lt_of_le hsz (below_regrown wr dq osq).size⟩
       case measure=>simp[intOf];omega
      ·have hcb:(conv x y !=y)=true:=by simpa using hcv
       have HCV:Hid (¬conv x y=y):=hcv;clear hcv;go_wp2;refine wp_region_quiet_below (by kernel_rfl) (by kernel_rfl) ?_
       repeat(any_goals(first|go_big_quiet_step(first|exact c51 _ _|exact c52 _ _|exact c60 _ _)|quiet_step (first|exact c51 _ _|exact c52 _ _|exact c60 _ _)))
       refine wpQuiet_nil ?_;intro _ hw';obtain⟨⟨dq,osq⟩,hw''⟩:=hw';subst hw'';go_wp2;go_ret;exact⟨aZ (qiY HL.out.1 hlt (by rw[←EX.out,←EY.out];exactλh=>HCV.out h.2)).symm,HB.out.trans ((below_regrown wr dq osq).mono (by omega))⟩
     ·have ht:kOk x=false:=by simp[kOk];omega
      have c51:∀d os,Calls Tryz.prog 116 #[.int .i64 x] (grow (redrawn wr d) os) λe w''=>e=.returned (.bool false)∧∃p:Regrown,w''=grow (redrawn wr p.d) p.os:=
       λd os=>Calls.regrown_same (by rw[←ht];exact qo4 x _)
      go_wp2;refine wp_region_quiet_below (by kernel_rfl) (by kernel_rfl) ?_
      repeat(any_goals(first|go_big_quiet_step(first|exact c51 _ _)|quiet_step (first|exact c51 _ _)))
      refine wpQuiet_nil ?_;intro _ hw';obtain⟨⟨dq,osq⟩,hw''⟩:=hw';subst hw'';go_wp2;go_ret;exact⟨aZ (qiY HL.out.1 hlt (by rw[←EX.out,←EY.out];intro h;have h2:=h.1;simp[kOk]at h2;omega)).symm,HB.out.trans ((below_regrown wr dq osq).mono (by omega))⟩
    ·have e:k=n:=by omega
     subst e;go_wp2;go_ret;exact⟨aZ (qu0 HL.out.1 HL.out.2 h32 HP.out).symm,hb⟩
  ·have HX:Hid (bQ ks vs=false):=by unfold bQ;simp;intro _ h;rw[hy.1]at h;omega
   have hgt:(32:Int)<(n:Int):=by omega
   clear hx hy;go_enter Tryz.func61,Tryz.ntmps61;go_wp2;go_ret;exact⟨aZ HX.out.symm,(Below.refl _ _).alloc (Nat.le_refl _) _⟩
 ·have HX:Hid (bQ ks vs=false):=by unfold bQ;simp;intro h;rw[hx.1,hy.1]at h;omega
  have h2:((n:Int) !=(m:Int))=true:=by simp;omega
  clear hx hy;go_enter Tryz.func61,Tryz.ntmps61;go_wp2;go_ret;exact⟨aZ HX.out.symm,(Below.refl _ _).alloc (Nat.le_refl _) _⟩
end Go.Proofs.YtiimkhepplkocaaGreat
namespace Go.Proofs.YtiimkhepplkocaaGreat
open Go.RowKit Go.Sort
def cH : String := "loop.example/s0063/impl.value"
def qn7(op:Int):Nat:=if op≤12 then 221+op.toNat else if op≤17 then 220+op.toNat else 239
def vG:Tree→Nat
 |.nil=>0
 |.node 0 _ _ _ _=>208
 |.node 1 _ _ _ _=>209
 |.node 2 _ _ _ _=>211
 |.node 3 _ _ _ _=>212
 |.node 4 _ _ _ _=>210
 |.node _ _ op _ _=>qn7 op
def pl:Tree→Value
 |.nil=>.agg #[]
 |.node 0 _ n _ _=>.agg #[.int .i64 n]
 |.node 1 _ i _ _=>.agg #[.int .i64 i]
 |.node 2 _ _ _ _=>.agg #[]
 |.node 3 _ _ t _=>.agg #[tv t]
 |.node 4 _ k t _=>.agg #[tv t,.func (.func (cfn k)) #[] #[]]
 |.node _ _ _ l r=>.agg #[tv l,tv r]
theorem vO{t:Tree}{y:Nat}{x:Value}(h:tv t=.iface y x):x=pl t:=by
 unfold tv at h;unfold pl;split at h<;>(simp only[Value.iface.injEq]at h;first|exact h.2.symm|(split<;>first|exact h.2.symm|contradiction|(simp_all;done)))
def WfT(n:Int):Tree→Prop
 |.nil=>False
 |.node 0 _ x _ _=>-999999999≤x∧x≤999999999
 |.node 1 _ i _ _=>0≤i∧i<n
 |.node 2 _ _ _ _=>True
 |.node 3 _ _ t _=>WfT n t
 |.node 4 _ k t _=>(1≤k∧k≤7)∧WfT n t
 |.node 5 _ op l r=>dI op∧WfT n l∧WfT n r
 |.node _ _ _ _ _=>False
theorem qCE(a b:Value)(mp:Addr)(w:World):(callMethod (.iface 293 (.agg #[a,b])) cH #[.pointer (some mp)]).run Tryz.prog w=.ok (.enter 225 #[.agg #[a,b],.pointer (some mp)]) w:=by kernel_rfl
theorem qCF(a b:Value)(mp:Addr)(w:World):(callMethod (.iface 294 (.agg #[a,b])) cH #[.pointer (some mp)]).run Tryz.prog w=.ok (.enter 226 #[.agg #[a,b],.pointer (some mp)]) w:=by kernel_rfl
theorem qCG(a b:Value)(mp:Addr)(w:World):(callMethod (.iface 295 (.agg #[a,b])) cH #[.pointer (some mp)]).run Tryz.prog w=.ok (.enter 227 #[.agg #[a,b],.pointer (some mp)]) w:=by kernel_rfl
theorem qCH(a b:Value)(mp:Addr)(w:World):(callMethod (.iface 296 (.agg #[a,b])) cH #[.pointer (some mp)]).run Tryz.prog w=.ok (.enter 228 #[.agg #[a,b],.pointer (some mp)]) w:=by kernel_rfl
theorem qCI(a b:Value)(mp:Addr)(w:World):(callMethod (.iface 297 (.agg #[a,b])) cH #[.pointer (some mp)]).run Tryz.prog w=.ok (.enter 229 #[.agg #[a,b],.pointer (some mp)]) w:=by kernel_rfl
theorem qCJ(a b:Value)(mp:Addr)(w:World):(callMethod (.iface 298 (.agg #[a,b])) cH #[.pointer (some mp)]).run Tryz.prog w=.ok (.enter 230 #[.agg #[a,b],.pointer (some mp)]) w:=by kernel_rfl
theorem qB6(a b:Value)(mp:Addr)(w:World):(callMethod (.iface 299 (.agg #[a,b])) cH #[.pointer (some mp)]).run Tryz.prog w=.ok (.enter 231 #[.agg #[a,b],.pointer (some mp)]) w:=by kernel_rfl
theorem qB7(a b:Value)(mp:Addr)(w:World):(callMethod (.iface 300 (.agg #[a,b])) cH #[.pointer (some mp)]).run Tryz.prog w=.ok (.enter 232 #[.agg #[a,b],.pointer (some mp)]) w:=by kernel_rfl
theorem qB8(a b:Value)(mp:Addr)(w:World):(callMethod (.iface 301 (.agg #[a,b])) cH #[.pointer (some mp)]).run Tryz.prog w=.ok (.enter 233 #[.agg #[a,b],.pointer (some mp)]) w:=by kernel_rfl
theorem qB9(a b:Value)(mp:Addr)(w:World):(callMethod (.iface 302 (.agg #[a,b])) cH #[.pointer (some mp)]).run Tryz.prog w=.ok (.enter 234 #[.agg #[a,b],.pointer (some mp)]) w:=by kernel_rfl
theorem qCA(a b:Value)(mp:Addr)(w:World):(callMethod (.iface 303 (.agg #[a,b])) cH #[.pointer (some mp)]).run Tryz.prog w=.ok (.enter 235 #[.agg #[a,b],.pointer (some mp)]) w:=by kernel_rfl
theorem qCB(a b:Value)(mp:Addr)(w:World):(callMethod (.iface 304 (.agg #[a,b])) cH #[.pointer (some mp)]).run Tryz.prog w=.ok (.enter 236 #[.agg #[a,b],.pointer (some mp)]) w:=by kernel_rfl
theorem qCC(a b:Value)(mp:Addr)(w:World):(callMethod (.iface 305 (.agg #[a,b])) cH #[.pointer (some mp)]).run Tryz.prog w=.ok (.enter 237 #[.agg #[a,b],.pointer (some mp)]) w:=by kernel_rfl
theorem qCD(a b:Value)(mp:Addr)(w:World):(callMethod (.iface 306 (.agg #[a,b])) cH #[.pointer (some mp)]).run Tryz.prog w=.ok (.enter 239 #[.agg #[a,b],.pointer (some mp)]) w:=by kernel_rfl
theorem qCK(op:Int)(a b:Value)(mp:Addr)(w:World)(h:dI op):(callMethod (.iface (qn8 op) (.agg #[a,b])) cH #[.pointer (some mp)]).run Tryz.prog w=.ok (.enter (qn7 op) #[.agg #[a,b],.pointer (some mp)]) w:=by
 have hk:op=4∨op=5∨op=6∨op=7∨op=8∨op=9∨op=10∨op=11∨op=12∨op=14∨op=15∨op=16∨op=17∨op=18:=by unfold dI at h;omega
 rcases hk with rfl|rfl|rfl|rfl|rfl|rfl|rfl|rfl|rfl|rfl|rfl|rfl|rfl|rfl
 ·exact qCE a b mp w
 ·exact qCF a b mp w
 ·exact qCG a b mp w
 ·exact qCH a b mp w
 ·exact qCI a b mp w
 ·exact qCJ a b mp w
 ·exact qB6 a b mp w
 ·exact qB7 a b mp w
 ·exact qB8 a b mp w
 ·exact qB9 a b mp w
 ·exact qCA a b mp w
 ·exact qCB a b mp w
 ·exact qCC a b mp w
 ·exact qCD a b mp w
theorem qCR(a:Value)(mp:Addr)(w:World):(callMethod (.iface 248 (.agg #[a])) cH #[.pointer (some mp)]).run Tryz.prog w=.ok (.enter 208 #[.agg #[a],.pointer (some mp)]) w:=by kernel_rfl
theorem qCW(a:Value)(mp:Addr)(w:World):(callMethod (.iface 250 (.agg #[a])) cH #[.pointer (some mp)]).run Tryz.prog w=.ok (.enter 209 #[.agg #[a],.pointer (some mp)]) w:=by kernel_rfl
theorem qB4(mp:Addr)(w:World):(callMethod (.iface 255 (.agg #[])) cH #[.pointer (some mp)]).run Tryz.prog w=.ok (.enter 211 #[.agg #[],.pointer (some mp)]) w:=by kernel_rfl
theorem qCQ(a:Value)(mp:Addr)(w:World):(callMethod (.iface 257 (.agg #[a])) cH #[.pointer (some mp)]).run Tryz.prog w=.ok (.enter 212 #[.agg #[a],.pointer (some mp)]) w:=by kernel_rfl
theorem qCL(a b:Value)(mp:Addr)(w:World):(callMethod (.iface 253 (.agg #[a,b])) cH #[.pointer (some mp)]).run Tryz.prog w=.ok (.enter 210 #[.agg #[a,b],.pointer (some mp)]) w:=by kernel_rfl
theorem vK(n:Int)(t:Tree)(h:WfT n t)(mp:Addr)(w:World):(callMethod (tv t) cH #[.pointer (some mp)]).run Tryz.prog w=.ok (.enter (vG t) #[pl t,.pointer (some mp)]) w:=by
 match t,h with
 |.node 0 _ x _ _,_=>exact qCR _ _ _
 |.node 1 _ i _ _,_=>exact qCW _ _ _
 |.node 2 _ _ _ _,_=>exact qB4 _ _
 |.node 3 _ _ t _,_=>exact qCQ _ _ _
 |.node 4 _ k t _,_=>exact qCL _ _ _ _
 |.node 5 _ op l r,h=>exact qCK op _ _ _ _ h.1
theorem qwK{P:Program}{o:Oper}{a:Act}{w:World}(r xop:Operand)(name:String)(tys:Array TypeId){y f:Nat}{x v:Value}(hop:o.op=.call {callee:=.invoke r name,args:=#[xop],argTypes:=tys})
  (hr:a.eval r=.iface y x) (hx:a.eval xop=v) (hm:(callMethod (.iface y x) name #[v]).run P w=.ok (.enter f #[x,v]) w):(execOp a.eval o).run P w=.ok (.enter f #[x,v]) w:=by
 simp[execOp,hop,resolve,invoke,hr,hx,hm]
theorem qqJ{P:Program}(w:World){ops:Array Oper}{rest:List Oper}{o:Oper}{a:Act}{Q:Exit→Act→World→Prop}(hg:o.guard=none)(r xop:Operand)(name:String)(tys:Array TypeId){y f:Nat}{x v:Value}
  (hop:o.op=.call {callee:=.invoke r name,args:=#[xop],argTypes:=tys}) (hr:a.eval r=.iface y x) (hx:a.eval xop=v) (hm:(callMethod (.iface y x) name #[v]).run P w=.ok (.enter f #[x,v]) w)
  (h:Calls P f #[x,v] w λe w'=>∃q,e=.returned q∧wpList P ops Q rest (a.put o.dst q) w'):wpList P ops Q (o::rest) a w:=by
 refine wpList_plain hg λK hK'=>?_;unfold Oper.wp;rw[qwK r xop name tys hop hr hx hm];exact h.mono λe w' ⟨q,he,hk⟩=>by subst he;exact hK' _ _ hk
theorem qpT{P:Program}{ops:Array Oper}{C:World→Prop}{Q:Act→Prop}{a:Act}{o:Oper}{rest:List Oper}(hw:Region.wanted o (yielded ops a.tmps)=true)(r xop:Operand)(name:String)(tys:Array TypeId){y f:Nat}{x v q:Value}
  (hop:o.op=.call {callee:=.invoke r name,args:=#[xop],argTypes:=tys}) (hr:a.eval r=.iface y x) (hx:a.eval xop=v) (hm:∀w,(callMethod (.iface y x) name #[v]).run P w=.ok (.enter f #[x,v]) w)
  (hc:∀w,C w→Calls P f #[x,v] w λe w''=>e=.returned q∧C w'') (hk:wpQuiet P ops C Q rest (a.put o.dst q)):wpQuiet P ops C Q (o::rest) a:=
 BigFrame.wpQuiet_want hw λK hK=>⟨q,λw hw'=>by unfold Oper.quietAt;rw[qwK r xop name tys hop hr hx (hm w)];exact⟨rfl,hc w hw'⟩,hK _ hk⟩
def MomAt(w:World)(mb:Nat)(vals:List Int)(arg:Int):Prop:=
 mb<w.heap.size∧w.cell? ⟨mb,2,none⟩=some (.int .i64 arg)∧∃vo vn vc,w.cell? ⟨mb,1,none⟩=some (.slice vo vn vc)∧SliceOf w vo vn vals
theorem MomAt.below{w w':World}{mb:Nat}{vals:List Int}{arg:Int}(h:MomAt w mb vals arg)(hb:Below w.heap.size w w'):MomAt w' mb vals arg:=by
 obtain⟨h1,h2,vo,vn,vc,h3,h4⟩:=h;exact⟨Nat.lt_of_lt_of_le h1 hb.size,(hb.cell (p:=⟨mb,2,none⟩) h1).trans h2,vo,vn,vc,(hb.cell (p:=⟨mb,1,none⟩) h1).trans h3,h4.below hb⟩
def uG(b:Bool):Int:=if b then 1 else 0
theorem uU(b:Bool)(w:World):Calls Tryz.prog 213 #[.bool b] w λe w'=>e=.returned (.int .i64 (uG b))∧w'=w:=by
 cases b
 ·go_enter Tryz.func213,Tryz.ntmps213
  go_wp2;go_ret;exact⟨rfl,rfl⟩
 ·go_enter Tryz.func213,Tryz.ntmps213
  go_wp2;go_ret;exact⟨rfl,rfl⟩
def iC(c:Int):Bool:=decide (0≤c∧c≤63)
theorem qvU(c:Int)(w:World):Calls Tryz.prog 238 #[.int .i64 c] w λe w'=>e=.returned (.bool (iC c))∧w'=w:=by
 by_cases h1:0≤c<;>by_cases h7:c≤63
 all_goals
  go_enter Tryz.func238,Tryz.ntmps238;go_wp2;go_ret;exact⟨aZ (by simp[iC];omega),rfl⟩
def Val(w:World)(f:Nat)(x p:Value)(q:Int):Prop:=∀w',Below w.heap.size w w'→Calls Tryz.prog f #[x,p] w' λe w''=>e=.returned (.int .i64 q)∧Below w'.heap.size w' w''
theorem qBI(ly ry lf rf:Nat)(lx rx:Value)(p q:Int)(mp:Addr)(w:World)
  (hl:∀(w:World),(callMethod (.iface ly lx) cH #[.pointer (some mp)]).run Tryz.prog w=.ok (.enter lf #[lx,.pointer (some mp)]) w)
  (hr:∀(w:World),(callMethod (.iface ry rx) cH #[.pointer (some mp)]).run Tryz.prog w=.ok (.enter rf #[rx,.pointer (some mp)]) w)
  (vl:Val w lf lx (.pointer (some mp)) p) (vr:Val w rf rx (.pointer (some mp)) q):
  Calls Tryz.prog 214 #[.agg #[.iface ly lx,.iface ry rx],.pointer (some mp)] w λe w'=>e=.returned (.tuple #[.int .i64 p,.int .i64 q])∧Below w.heap.size w w':=by
 have ML:=hid hl;have MR:=hid hr;have VL:=hid vl;have VR:=hid vr;clear hl hr vl vr;obtain⟨W,hW⟩:∃W,W=w.alloc (.cells #[.iface ly lx,.iface ry rx] 260):=⟨_,rfl⟩;have bW:Below w.heap.size w W:=by rw[hW];exact aB _ _
 have hc:=aF (show W.heap[w.heap.size]? =some (.cells #[.iface ly lx,.iface ry rx] 260 (0,0)) by rw[hW];exact heap_alloc_new w _);have q0:=cell_regrown hc.1;have q1:=cell_regrown hc.2.1;have hsz:w.heap.size≤W.heap.size:=bW.size;have BW:=hid bW;have HW:=hid hW;clear hc bW hW;go_enter Tryz.func214,Tryz.ntmps214;go_wp2;rw[←HW.out];refine wp_region_quiet_below (by kernel_rfl) (by kernel_rfl) ?_
 iterate 3 (go_big_quiet_step(fail))
 refine qpT (by rfl) (.tmp 7) (.tmp 8) cH _ (by rfl) (by rfl) (by rfl) (ML.out) (q:=.int .i64 p) ?_ ?_
 ·rintro w' ⟨pp,rfl⟩
  exact Calls.regrown_of (VL.out _ (BW.out.trans ((below_regrown W pp.d pp.os).mono hsz)))
 change wpQuiet _ _ _ _ _ {tmps:=#[.agg #[.iface ly lx,.iface ry rx],.pointer (some mp),.pointer (some ⟨w.heap.size,0,none⟩),undef,.int .i64 0,.int .i64 0,.pointer (some ⟨w.heap.size,0,none⟩),.iface ly lx,.pointer (some mp),.int .i64 p,undef,undef,undef,undef],defers:=[]}
 iterate 3 (go_big_quiet_step(fail))
 refine qpT (by rfl) (.tmp 11) (.tmp 12) cH _ (by rfl) (by rfl) (by rfl) (MR.out) (q:=.int .i64 q) ?_ ?_
 ·rintro w' ⟨pp,rfl⟩
  exact Calls.regrown_of (VR.out _ (BW.out.trans ((below_regrown W pp.d pp.os).mono hsz)))
 change wpQuiet _ _ _ _ _ {tmps:=#[.agg #[.iface ly lx,.iface ry rx],.pointer (some mp),.pointer (some ⟨w.heap.size,0,none⟩),undef,.int .i64 0,.int .i64 0,.pointer (some ⟨w.heap.size,0,none⟩),.iface ly lx,.pointer (some mp),.int .i64 p,.pointer (some ⟨w.heap.size,1,none⟩),.iface ry rx,.pointer (some mp),.int .i64 q],defers:=[]}
 iterate 2 (go_big_quiet_step(fail))
 refine wpQuiet_nil ?_;intro _ hw';obtain⟨⟨dq,osq⟩,hw''⟩:=hw';subst hw'';go_wp2;go_ret2;exact⟨rfl,BW.out.trans ((below_regrown W dq osq).mono hsz)⟩
theorem qG2(y f:Nat)(x:Value)(q:Int)(mp:Addr)(w:World)
  (hm:∀(w:World),(callMethod (.iface y x) cH #[.pointer (some mp)]).run Tryz.prog w=.ok (.enter f #[x,.pointer (some mp)]) w)
  (hv:Val w f x (.pointer (some mp)) q):Calls Tryz.prog 212 #[.agg #[.iface y x],.pointer (some mp)] w λe w'=>e=.returned (.int .i64 (uG (q==0)))∧Below w.heap.size w w':=by
 have M:=hid hm;have C:=hid hv;have T:=hid uU;clear hm hv;go_enter Tryz.func212,Tryz.ntmps212;go_wp2_with(first|(refine qqJ _ (by rfl) (.tmp 6) (.tmp 7) cH _ (by rfl) (by rfl) (by rfl) (M.out _) ?_;refine(C.out _ (aB _ _)).mono ?_;rintro e w1 ⟨rfl,hb⟩;have B:=hid hb;clear hb;refine⟨_,rfl,?_⟩)|(go_at_call 213;refine(T.out _ _).mono ?_;rintro e w2 ⟨rfl,hw⟩;obtain rfl:=hw.symm));go_ret;exact⟨rfl,(aB _ _).trans (B.out.mono (by simp))⟩
theorem qHA(n:Int)(p:Value)(w:World):Calls Tryz.prog 208 #[.agg #[.int .i64 n],p] w λe w'=>e=.returned (.int .i64 n)∧Below w.heap.size w w':=by
 go_enter Tryz.func208,Tryz.ntmps208;go_wp2;go_ret;exact⟨rfl,aB _ _⟩
theorem qAF(mb:Nat)(vals:List Int)(arg:Int)(w:World)(h:MomAt w mb vals arg):Calls Tryz.prog 211 #[.agg #[],.pointer (some ⟨mb,0,none⟩)] w λe w'=>e=.returned (.int .i64 arg)∧Below w.heap.size w w':=by
 obtain⟨h1,h2,_⟩:=h;go_enter Tryz.func211,Tryz.ntmps211;go_wp2;go_ret;exact⟨rfl,aB _ _⟩
theorem qMJ(mb:Nat)(vals:List Int)(arg:Int)(i:Int)(w:World)(h0:0≤i)(hi:i<vals.length)(h:MomAt w mb vals arg):Calls Tryz.prog 209 #[.agg #[.int .i64 i],.pointer (some ⟨mb,0,none⟩)] w λe w'=>e=.returned (.int .i64 (vals.getD i.toNat 0))∧Below w.heap.size w w':=by
 obtain⟨h1,_,vo,vn,vc,h3,h4⟩:=h;obtain⟨k,rfl⟩:∃k:Nat,i=k:=⟨i.toNat,by omega⟩;have hl:=h4.1;obtain⟨b,off,rfl,hbl,hc⟩:=h4.2 (by omega);have hck:=hc k (by omega);have hlt:(k:Int)<(vn:Int):=by omega
 have E:Hid (vals.getD (k:Int).toNat 0=vals.getD k 0):=hid (by simp);rw[E.out];obtain⟨x,hx⟩:∃x,x=vals.getD k 0:=⟨_,rfl⟩;rw[←hx]at hck⊢;clear hx h4 hc hi h0 E hl;go_enter Tryz.func209,Tryz.ntmps209;go_wp2;go_quiet(fail);go_wp2;go_ret;exact⟨rfl,cQ (aB _ _) _⟩
end Go.Proofs.YtiimkhepplkocaaGreat
namespace Go.Proofs.YtiimkhepplkocaaGreat
open Go.RowKit Go.Sort
theorem qC0(y f:Nat)(x:Value)(k q:Int)(mp:Addr)(w:World)(h1:1≤k)(h7:k≤7)
  (hm:∀(w:World),(callMethod (.iface y x) cH #[.pointer (some mp)]).run Tryz.prog w=.ok (.enter f #[x,.pointer (some mp)]) w)
  (hv:Val w f x (.pointer (some mp)) q):Calls Tryz.prog 210 #[.agg #[.iface y x,.func (.func (cfn k)) #[] #[]],.pointer (some mp)] w λe w'=>e=.returned (.int .i64 (conv k q))∧Below w.heap.size w w':=by
 have M:=hid hm;have V:=hid hv;clear hm hv;obtain⟨W,hW⟩:∃W,W=w.alloc (.cells #[.iface y x,.func (.func (cfn k)) #[] #[]] 253):=⟨_,rfl⟩;have bW:Below w.heap.size w W:=by rw[hW];exact aB _ _
 have hc:=aF (show W.heap[w.heap.size]? =some (.cells #[.iface y x,.func (.func (cfn k)) #[] #[]] 253 (0,0)) by rw[hW];exact heap_alloc_new w _);have q0:=cell_regrown hc.1;have q1:=cell_regrown hc.2.1;have hsz:w.heap.size≤W.heap.size:=bW.size;have BW:=hid bW;have HW:=hid hW;have hent:=qoL k h1 h7;have c60:∀d os,Calls Tryz.prog (cfn k) #[.int .i64 q] (grow (redrawn W d) os) λe w''=>e=.returned (.int .i64 (conv k q))∧∃p:Regrown,w''=grow (redrawn W p.d) p.os:=
  λd os=>Calls.regrown_same (qp5 k q _ h1 h7)
 clear hc bW hW;go_enter Tryz.func210,Tryz.ntmps210;go_wp2;rw[←HW.out];refine wp_region_quiet_below (by kernel_rfl) (by kernel_rfl) ?_
 iterate 5 (go_big_quiet_step(fail))
 refine qpT (by rfl) (.tmp 8) (.tmp 9) cH _ (by rfl) (by rfl) (by rfl) (M.out) (q:=.int .i64 q) ?_ ?_
 ·rintro w' ⟨pp,rfl⟩
  exact Calls.regrown_of (V.out _ (BW.out.trans ((below_regrown W pp.d pp.os).mono hsz)))
 change wpQuiet _ _ _ _ _ {tmps:=#[.agg #[.iface y x,.func (.func (cfn k)) #[] #[]],.pointer (some mp),.pointer (some ⟨w.heap.size,0,none⟩),undef,.int .i64 0,.pointer (some ⟨w.heap.size,1,none⟩),.func (.func (cfn k)) #[] #[],.pointer (some ⟨w.heap.size,0,none⟩),.iface y x,.pointer (some mp),.int .i64 q,undef],defers:=[]};go_big_quiet_step(exact c60 _ _);go_big_quiet_step(fail);refine wpQuiet_nil ?_;intro _ hw';obtain⟨⟨dq,osq⟩,hw''⟩:=hw';subst hw'';go_wp2;go_ret;exact⟨rfl,BW.out.trans ((below_regrown W dq osq).mono hsz)⟩
def aK(op x y:Int):Int:=
 if op=4 then wrap64 (x+y)else if op=5 then wrap64 (x-y)else if op=6 then wrap64 (x*y)
 else if op=7 then(if y=0 then 0 else wrap64 (x.tdiv y))else if op=8 then(if y=0 then 0 else x.tmod y)
 else if op=9 then uG (x==y)else if op=10 then uG (decide (x<y))else if op=11 then uG (decide (x≠0∧y≠0))else if op=12 then uG (decide (x≠0∨y≠0))
 else if op=14 then bits .and .i64 x y else if op=15 then bits .or .i64 x y else if op=16 then bits .xor .i64 x y
 else if op=17 then(if iC y then wrap64 (x*2^y.toNat)else 0)else(if iC y then x/2^y.toNat else x/9223372036854775808)
def uR(w:World)(ly ry:Nat)(lx rx p:Value)(x y:Int):Prop:=∀w',Below w.heap.size w w'→Calls Tryz.prog 214 #[.agg #[.iface ly lx,.iface ry rx],p] w' λe w''=>e=.returned (.tuple #[.int .i64 x,.int .i64 y])∧Below w'.heap.size w' w''
theorem qA3(ly ry:Nat)(lx rx p:Value)(x y:Int)(w:World)(hb:uR w ly ry lx rx p x y):Calls Tryz.prog 225 #[.agg #[.iface ly lx,.iface ry rx],p] w λe w'=>e=.returned (.int .i64 (aK (4) x y))∧Below w.heap.size w w':=by
 have H:=hid hb;have T:=hid uU;clear hb;go_enter Tryz.func225,Tryz.ntmps225;go_wp2_with(first|(go_at_call 214;refine(H.out _ (aB _ _)).mono ?_;rintro e w1 ⟨rfl,hb⟩;have B:=hid hb;clear hb));go_ret;exact⟨aX (by simp[aK]),(aB _ _).trans (B.out.mono (by simp))⟩
theorem qA4(ly ry:Nat)(lx rx p:Value)(x y:Int)(w:World)(hb:uR w ly ry lx rx p x y):Calls Tryz.prog 226 #[.agg #[.iface ly lx,.iface ry rx],p] w λe w'=>e=.returned (.int .i64 (aK (5) x y))∧Below w.heap.size w w':=by
 have H:=hid hb;have T:=hid uU;clear hb;go_enter Tryz.func226,Tryz.ntmps226;go_wp2_with(first|(go_at_call 214;refine(H.out _ (aB _ _)).mono ?_;rintro e w1 ⟨rfl,hb⟩;have B:=hid hb;clear hb));go_ret;exact⟨aX (by simp[aK]),(aB _ _).trans (B.out.mono (by simp))⟩
theorem qA5(ly ry:Nat)(lx rx p:Value)(x y:Int)(w:World)(hb:uR w ly ry lx rx p x y):Calls Tryz.prog 227 #[.agg #[.iface ly lx,.iface ry rx],p] w λe w'=>e=.returned (.int .i64 (aK (6) x y))∧Below w.heap.size w w':=by
 have H:=hid hb;have T:=hid uU;clear hb;go_enter Tryz.func227,Tryz.ntmps227;go_wp2_with(first|(go_at_call 214;refine(H.out _ (aB _ _)).mono ?_;rintro e w1 ⟨rfl,hb⟩;have B:=hid hb;clear hb));go_ret;exact⟨aX (by simp[aK]),(aB _ _).trans (B.out.mono (by simp))⟩
theorem qA6(ly ry:Nat)(lx rx p:Value)(x y:Int)(w:World)(hb:uR w ly ry lx rx p x y):Calls Tryz.prog 228 #[.agg #[.iface ly lx,.iface ry rx],p] w λe w'=>e=.returned (.int .i64 (aK (7) x y))∧Below w.heap.size w w':=by
 have H:=hid hb;have T:=hid uU;clear hb;by_cases hy:y=0
 ·subst hy
  go_enter Tryz.func228,Tryz.ntmps228;go_wp2_with(first|(go_at_call 214;refine(H.out _ (aB _ _)).mono ?_;rintro e w1 ⟨rfl,hb⟩;have B:=hid hb;clear hb));go_ret;exact⟨aX (by simp[aK]),(aB _ _).trans (B.out.mono (by simp))⟩
 ·have hy2:(y==0)=false:=by simpa using hy
  go_enter Tryz.func228,Tryz.ntmps228;go_wp2_with(first|(go_at_call 214;refine(H.out _ (aB _ _)).mono ?_;rintro e w1 ⟨rfl,hb⟩;have B:=hid hb;clear hb));go_ret;exact⟨aX (by simp[aK,hy]),(aB _ _).trans (B.out.mono (by simp))⟩
theorem qA7(ly ry:Nat)(lx rx p:Value)(x y:Int)(w:World)(hb:uR w ly ry lx rx p x y):Calls Tryz.prog 229 #[.agg #[.iface ly lx,.iface ry rx],p] w λe w'=>e=.returned (.int .i64 (aK (8) x y))∧Below w.heap.size w w':=by
 have H:=hid hb;have T:=hid uU;clear hb;by_cases hy:y=0
 ·subst hy
  go_enter Tryz.func229,Tryz.ntmps229;go_wp2_with(first|(go_at_call 214;refine(H.out _ (aB _ _)).mono ?_;rintro e w1 ⟨rfl,hb⟩;have B:=hid hb;clear hb));go_ret;exact⟨aX (by simp[aK]),(aB _ _).trans (B.out.mono (by simp))⟩
 ·have hy2:(y==0)=false:=by simpa using hy
  go_enter Tryz.func229,Tryz.ntmps229;go_wp2_with(first|(go_at_call 214;refine(H.out _ (aB _ _)).mono ?_;rintro e w1 ⟨rfl,hb⟩;have B:=hid hb;clear hb));go_ret;exact⟨aX (by simp[aK,hy]),(aB _ _).trans (B.out.mono (by simp))⟩
theorem qA8(ly ry:Nat)(lx rx p:Value)(x y:Int)(w:World)(hb:uR w ly ry lx rx p x y):Calls Tryz.prog 230 #[.agg #[.iface ly lx,.iface ry rx],p] w λe w'=>e=.returned (.int .i64 (aK (9) x y))∧Below w.heap.size w w':=by
 have H:=hid hb;have T:=hid uU;clear hb;go_enter Tryz.func230,Tryz.ntmps230;go_wp2_with(first|(go_at_call 214;refine(H.out _ (aB _ _)).mono ?_;rintro e w1 ⟨rfl,hb⟩;have B:=hid hb;clear hb)|(go_at_call 213;refine(T.out _ _).mono ?_;rintro e w2 ⟨rfl,hw⟩;obtain rfl:=hw.symm));go_ret;exact⟨aX (by simp[aK]),(aB _ _).trans (B.out.mono (by simp))⟩
theorem qAV(ly ry:Nat)(lx rx p:Value)(x y:Int)(w:World)(hb:uR w ly ry lx rx p x y):Calls Tryz.prog 231 #[.agg #[.iface ly lx,.iface ry rx],p] w λe w'=>e=.returned (.int .i64 (aK (10) x y))∧Below w.heap.size w w':=by
 have H:=hid hb;have T:=hid uU;clear hb;go_enter Tryz.func231,Tryz.ntmps231;go_wp2_with(first|(go_at_call 214;refine(H.out _ (aB _ _)).mono ?_;rintro e w1 ⟨rfl,hb⟩;have B:=hid hb;clear hb)|(go_at_call 213;refine(T.out _ _).mono ?_;rintro e w2 ⟨rfl,hw⟩;obtain rfl:=hw.symm));go_ret;exact⟨aX (by simp[aK]),(aB _ _).trans (B.out.mono (by simp))⟩
theorem qAW(ly ry:Nat)(lx rx p:Value)(x y:Int)(w:World)(hb:uR w ly ry lx rx p x y):Calls Tryz.prog 232 #[.agg #[.iface ly lx,.iface ry rx],p] w λe w'=>e=.returned (.int .i64 (aK (11) x y))∧Below w.heap.size w w':=by
 have H:=hid hb;have T:=hid uU;clear hb;by_cases hx:x=0
 ·subst hx
  go_enter Tryz.func232,Tryz.ntmps232;go_wp2_with(first|(go_at_call 214;refine(H.out _ (aB _ _)).mono ?_;rintro e w1 ⟨rfl,hb⟩;have B:=hid hb;clear hb)|(go_at_call 213;refine(T.out _ _).mono ?_;rintro e w2 ⟨rfl,hw⟩;obtain rfl:=hw.symm));go_ret;exact⟨aX (by simp[aK]),(aB _ _).trans (B.out.mono (by simp))⟩
 ·have hx2:(x !=0)=true:=by simpa using hx
  have E:Hid (aK 11 x y=uG (y !=0)):=hid (by
   by_cases hy:y=0
   ·simp[aK,hx,hy]
   ·have h2:(y !=0)=true:=by simpa using hy
    simp[aK,hx,hy,h2])
  clear hx;go_enter Tryz.func232,Tryz.ntmps232;go_wp2_with(first|(go_at_call 214;refine(H.out _ (aB _ _)).mono ?_;rintro e w1 ⟨rfl,hb⟩;have B:=hid hb;clear hb)|(go_at_call 213;refine(T.out _ _).mono ?_;rintro e w2 ⟨rfl,hw⟩;obtain rfl:=hw.symm));go_ret;exact⟨aX (E.out.symm),(aB _ _).trans (B.out.mono (by simp))⟩
theorem qAX(ly ry:Nat)(lx rx p:Value)(x y:Int)(w:World)(hb:uR w ly ry lx rx p x y):Calls Tryz.prog 233 #[.agg #[.iface ly lx,.iface ry rx],p] w λe w'=>e=.returned (.int .i64 (aK (12) x y))∧Below w.heap.size w w':=by
 have H:=hid hb;have T:=hid uU;clear hb;by_cases hx:x=0
 ·subst hx
  have E:Hid (aK 12 0 y=uG (y !=0)):=hid (by
   by_cases hy:y=0
   ·simp[aK,hy]
   ·have h2:(y !=0)=true:=by simpa using hy
    simp[aK,hy,h2])
  go_enter Tryz.func233,Tryz.ntmps233;go_wp2_with(first|(go_at_call 214;refine(H.out _ (aB _ _)).mono ?_;rintro e w1 ⟨rfl,hb⟩;have B:=hid hb;clear hb)|(go_at_call 213;refine(T.out _ _).mono ?_;rintro e w2 ⟨rfl,hw⟩;obtain rfl:=hw.symm));go_ret;exact⟨aX (E.out.symm),(aB _ _).trans (B.out.mono (by simp))⟩
 ·have hx2:(x !=0)=true:=by simpa using hx
  have E:Hid (aK 12 x y=uG true):=hid (by simp[aK,hx]);clear hx;go_enter Tryz.func233,Tryz.ntmps233;go_wp2_with(first|(go_at_call 214;refine(H.out _ (aB _ _)).mono ?_;rintro e w1 ⟨rfl,hb⟩;have B:=hid hb;clear hb)|(go_at_call 213;refine(T.out _ _).mono ?_;rintro e w2 ⟨rfl,hw⟩;obtain rfl:=hw.symm));go_ret;exact⟨aX (E.out.symm),(aB _ _).trans (B.out.mono (by simp))⟩
theorem qAY(ly ry:Nat)(lx rx p:Value)(x y:Int)(w:World)(hb:uR w ly ry lx rx p x y):Calls Tryz.prog 234 #[.agg #[.iface ly lx,.iface ry rx],p] w λe w'=>e=.returned (.int .i64 (aK (14) x y))∧Below w.heap.size w w':=by
 have H:=hid hb;have T:=hid uU;clear hb;go_enter Tryz.func234,Tryz.ntmps234;go_wp2_with(first|(go_at_call 214;refine(H.out _ (aB _ _)).mono ?_;rintro e w1 ⟨rfl,hb⟩;have B:=hid hb;clear hb));go_ret;exact⟨aX (by simp[aK]),(aB _ _).trans (B.out.mono (by simp))⟩
theorem qAZ(ly ry:Nat)(lx rx p:Value)(x y:Int)(w:World)(hb:uR w ly ry lx rx p x y):Calls Tryz.prog 235 #[.agg #[.iface ly lx,.iface ry rx],p] w λe w'=>e=.returned (.int .i64 (aK (15) x y))∧Below w.heap.size w w':=by
 have H:=hid hb;have T:=hid uU;clear hb;go_enter Tryz.func235,Tryz.ntmps235;go_wp2_with(first|(go_at_call 214;refine(H.out _ (aB _ _)).mono ?_;rintro e w1 ⟨rfl,hb⟩;have B:=hid hb;clear hb));go_ret;exact⟨aX (by simp[aK]),(aB _ _).trans (B.out.mono (by simp))⟩
theorem qA0(ly ry:Nat)(lx rx p:Value)(x y:Int)(w:World)(hb:uR w ly ry lx rx p x y):Calls Tryz.prog 236 #[.agg #[.iface ly lx,.iface ry rx],p] w λe w'=>e=.returned (.int .i64 (aK (16) x y))∧Below w.heap.size w w':=by
 have H:=hid hb;have T:=hid uU;clear hb;go_enter Tryz.func236,Tryz.ntmps236;go_wp2_with(first|(go_at_call 214;refine(H.out _ (aB _ _)).mono ?_;rintro e w1 ⟨rfl,hb⟩;have B:=hid hb;clear hb));go_ret;exact⟨aX (by simp[aK]),(aB _ _).trans (B.out.mono (by simp))⟩
theorem qA1(ly ry:Nat)(lx rx p:Value)(x y:Int)(w:World)(hb:uR w ly ry lx rx p x y):Calls Tryz.prog 237 #[.agg #[.iface ly lx,.iface ry rx],p] w λe w'=>e=.returned (.int .i64 (aK (17) x y))∧Below w.heap.size w w':=by
 have H:=hid hb;have T:=hid uU;clear hb;have C:=hid (qvU y);by_cases hy:0≤y∧y≤63
 ·obtain⟨h0,h63⟩:=hy
  have hc:iC y=true:=by simp[iC];omega
  rw[hc]at C;go_enter Tryz.func237,Tryz.ntmps237;go_wp2_with(first|(go_at_call 214;refine(H.out _ (aB _ _)).mono ?_;rintro e w1 ⟨rfl,hb⟩;have B:=hid hb;clear hb)|(go_at_call 238;refine(C.out _).mono ?_;rintro e w2 ⟨rfl,hw⟩;obtain rfl:=hw.symm));go_ret;exact⟨aX (by simp[aK,hc]),(aB _ _).trans (B.out.mono (by simp))⟩
 ·have hc:iC y=false:=by simp[iC];omega
  rw[hc]at C;clear hy;go_enter Tryz.func237,Tryz.ntmps237;go_wp2_with(first|(go_at_call 214;refine(H.out _ (aB _ _)).mono ?_;rintro e w1 ⟨rfl,hb⟩;have B:=hid hb;clear hb)|(go_at_call 238;refine(C.out _).mono ?_;rintro e w2 ⟨rfl,hw⟩;obtain rfl:=hw.symm));go_ret;exact⟨aX (by simp[aK,hc]),(aB _ _).trans (B.out.mono (by simp))⟩
theorem qA2(ly ry:Nat)(lx rx p:Value)(x y:Int)(w:World)(hb:uR w ly ry lx rx p x y):Calls Tryz.prog 239 #[.agg #[.iface ly lx,.iface ry rx],p] w λe w'=>e=.returned (.int .i64 (aK (18) x y))∧Below w.heap.size w w':=by
 have H:=hid hb;have T:=hid uU;clear hb;have C:=hid (qvU y);by_cases hy:0≤y∧y≤63
 ·obtain⟨h0,h63⟩:=hy
  have hc:iC y=true:=by simp[iC];omega
  rw[hc]at C;go_enter Tryz.func239,Tryz.ntmps239;go_wp2_with(first|(go_at_call 214;refine(H.out _ (aB _ _)).mono ?_;rintro e w1 ⟨rfl,hb⟩;have B:=hid hb;clear hb)|(go_at_call 238;refine(C.out _).mono ?_;rintro e w2 ⟨rfl,hw⟩;obtain rfl:=hw.symm));go_ret;exact⟨aX (by simp[aK,hc]),(aB _ _).trans (B.out.mono (by simp))⟩
 ·have hc:iC y=false:=by simp[iC];omega
  rw[hc]at C;clear hy;go_enter Tryz.func239,Tryz.ntmps239;go_wp2_with(first|(go_at_call 214;refine(H.out _ (aB _ _)).mono ?_;rintro e w1 ⟨rfl,hb⟩;have B:=hid hb;clear hb)|(go_at_call 238;refine(C.out _).mono ?_;rintro e w2 ⟨rfl,hw⟩;obtain rfl:=hw.symm));go_ret;exact⟨aX (by simp[aK,hc]),(aB _ _).trans (B.out.mono (by simp))⟩
theorem qBA(op:Int)(ly ry:Nat)(lx rx p:Value)(x y:Int)(w:World)(h:dI op)(hb:uR w ly ry lx rx p x y):Calls Tryz.prog (qn7 op) #[.agg #[.iface ly lx,.iface ry rx],p] w λe w'=>e=.returned (.int .i64 (aK op x y))∧Below w.heap.size w w':=by
 have hk:op=4∨op=5∨op=6∨op=7∨op=8∨op=9∨op=10∨op=11∨op=12∨op=14∨op=15∨op=16∨op=17∨op=18:=by unfold dI at h;omega
 rcases hk with rfl|rfl|rfl|rfl|rfl|rfl|rfl|rfl|rfl|rfl|rfl|rfl|rfl|rfl
 ·exact qA3 ly ry lx rx p x y w hb
 ·exact qA4 ly ry lx rx p x y w hb
 ·exact qA5 ly ry lx rx p x y w hb
 ·exact qA6 ly ry lx rx p x y w hb
 ·exact qA7 ly ry lx rx p x y w hb
 ·exact qA8 ly ry lx rx p x y w hb
 ·exact qAV ly ry lx rx p x y w hb
 ·exact qAW ly ry lx rx p x y w hb
 ·exact qAX ly ry lx rx p x y w hb
 ·exact qAY ly ry lx rx p x y w hb
 ·exact qAZ ly ry lx rx p x y w hb
 ·exact qA0 ly ry lx rx p x y w hb
 ·exact qA1 ly ry lx rx p x y w hb
 ·exact qA2 ly ry lx rx p x y w hb
def a8(vals:List Int)(arg:Int):Tree→Int
 |.nil=>0
 |.node 0 _ n _ _=>n
 |.node 1 _ i _ _=>vals.getD i.toNat 0
 |.node 2 _ _ _ _=>arg
 |.node 3 _ _ t _=>uG (a8 vals arg t==0)
 |.node 4 _ k t _=>conv k (a8 vals arg t)
 |.node _ _ op l r=>aK op (a8 vals arg l) (a8 vals arg r)
theorem qqG(mb:Nat)(vals:List Int)(arg:Int):∀(t:Tree),WfT vals.length t→∀w,MomAt w mb vals arg→
  Calls Tryz.prog (vG t) #[pl t,.pointer (some ⟨mb,0,none⟩)] w λe w'=>e=.returned (.int .i64 (a8 vals arg t))∧Below w.heap.size w w':=by
 intro t
 induction t with
 |nil=>intro h;exact absurd h (by simp[WfT])
 |node b o a l r ihl ihr=>
  intro h w hm
  match b,h with
  |0,h=>exact qHA a _ w
  |1,h=>exact qMJ mb vals arg a w h.1 h.2 hm
  |2,h=>exact qAF mb vals arg w hm
  |3,h=>
   have h':WfT vals.length l:=h;obtain⟨y,x,hy⟩:=cL l;have e:pl (.node 3 o a l r)=.agg #[.iface y x]:=by rw[←hy];rfl
   have hx:=vO hy;rw[e];have hcm:=λw=>vK _ l h' ⟨mb,0,none⟩ w;rw[hy]at hcm;rw[←hx]at hcm ihl;exact qG2 y (vG l) x _ _ w hcm (λw' hb=>ihl h' w' (hm.below hb))
  |4,h=>
   have h':(1≤a∧a≤7)∧WfT vals.length l:=h;obtain⟨y,x,hy⟩:=cL l;have e:pl (.node 4 o a l r)=.agg #[.iface y x,.func (.func (cfn a)) #[] #[]]:=by rw[←hy];rfl
   have hx:=vO hy;rw[e];have hcm:=λw=>vK _ l h'.2 ⟨mb,0,none⟩ w;rw[hy]at hcm;rw[←hx]at hcm ihl;exact qC0 y (vG l) x a _ _ w h'.1.1 h'.1.2 hcm (λw' hb=>ihl h'.2 w' (hm.below hb))
  |5,h=>
   have h':dI a∧WfT vals.length l∧WfT vals.length r:=h;obtain⟨ly,lx,hl⟩:=cL l;obtain⟨ry,rx,hr⟩:=cL r;have e:pl (.node 5 o a l r)=.agg #[.iface ly lx,.iface ry rx]:=by rw[←hl,←hr];rfl
   have hlx:=vO hl;have hrx:=vO hr;rw[e];have hcl:=λw=>vK _ l h'.2.1 ⟨mb,0,none⟩ w;have hcr:=λw=>vK _ r h'.2.2 ⟨mb,0,none⟩ w;rw[hl]at hcl;rw[hr]at hcr;rw[←hlx]at hcl ihl;rw[←hrx]at hcr ihr;exact qBA a ly ry lx rx _ _ _ w h'.1 (λw' hb=>qBI ly ry (vG l) (vG r) lx rx _ _ _ w' hcl hcr (λw'' hb2=>ihl h'.2.1 w'' ((hm.below hb).below hb2)) (λw'' hb2=>ihr h'.2.2 w'' ((hm.below hb).below hb2)))
end Go.Proofs.YtiimkhepplkocaaGreat
namespace Go.Proofs.YtiimkhepplkocaaGreat
open Go.RowKit Go.Sort
theorem quX(f:Nat)(caps:Array Value)(w:World)(R:World→Prop)(hent:∀(args:Array Value) (w:World),(callFunc f args).run Tryz.prog w=.ok (.enter f args) w)
  (hR:∀w',R w'→w'.heap[w.heap.size]? =some (.cells #[.nilIface] 140 (0,0)))
  (h:Calls Tryz.prog f caps (w.alloc (.cells #[.nilIface] 140)) λe w'=>e=.returned (.tuple #[])∧R w'):
  Calls Tryz.prog 62 #[.func (.func f) #[] caps] w λe w'=>e=.returned .nilIface∧∃w1,R w1∧w'=w1.setCell ⟨w.heap.size,0,none⟩ .nilIface:=by
 have hmf:∀(fn:Fn) (first cap:Array Value) (w:World),(Instr.makeFunc fn first cap).run Tryz.prog w=.ok (.func fn first cap) w:=λ_ _ _ _=>rfl;have H:=hid h;clear h;go_enter_defers Tryz.func62,Tryz.ntmps62;go_wp2_with fail;refine H.out.mono ?_;rintro e w1 ⟨rfl,hr⟩;have HR:=hid hr;have hc:=cell_of_one (hR w1 hr);have hf:=free_of_one (hR w1 hr);clear hr;go_wp2;refine leaves_cons (f:=118) (args:=#[.pointer (some ⟨w.heap.size,0,none⟩)]) (by simp) (by simp[go_sem]) ?_;refine(qvI ⟨w.heap.size,0,none⟩ _).mono ?_;rintro e u' w'' ⟨rfl,rfl,rfl⟩;simp[Leaves,settle,results,Tryz.results62,go_sem,hc];exact⟨w1,HR.out,rfl⟩
theorem qwF:∀(args:Array Value) (w:World),(callFunc 63 args).run Tryz.prog w=.ok (.enter 63 args) w:=yK (f:=63) Tryz.func63 (by kernel_rfl) rfl
theorem qx3(w:World):(binOp BinOp.neq 140 .nilIface .nilIface).run Tryz.prog w=.ok (.bool false) w:=by kernel_rfl
theorem qwJ(s:ByteArray)(w:World):(binOp BinOp.neq 140 (.iface 200 (.string s)) .nilIface).run Tryz.prog w=.ok (.bool true) w:=by kernel_rfl
theorem qD0(ao:Option Addr)(n c:Nat)(its:List (Int×Int))(kv:Value)(vo:Option Addr)(vn vc:Nat)(t:Tree)(tb h0 h1:Nat)(V:World)(hn:n≤9223372036854775807)(hs:ItemsOf V ao n its)
  (d0:V.heap[h0]? =some (.cells #[.slice ao n c] 57 (0,0))) (d1:V.heap[h1]? =some (.cells #[kv,.slice vo vn vc] 32 (0,0))) (d2:V.heap[tb]? =some (.cells #[.nilIface] 138 (0,0))) (hl:aV its vn=some t):
  Calls Tryz.prog 63 #[.pointer (some ⟨h0,0,none⟩),.pointer (some ⟨h1,0,none⟩),.pointer (some ⟨tb,0,none⟩)] V λe w'=>e=.returned (.tuple #[])∧w'.heap[tb]? =some (.cells #[tv t] 138 (0,0))∧Away tb V w':=by
 have c0:=cell_of_one d0;have c1:=(aF d1).2.1;have H:=hid (yL ao n c its vn V hn hs);rw[hl]at H;obtain⟨y,x,hy⟩:=cL t;unfold dH at H;simp only[hy]at H;rw[hy];have D2:=hid d2;clear hs hl hy d0 d1 d2;go_enter Tryz.func63,Tryz.ntmps63;go_wp2_with(go_at_call 64;refine H.out.mono ?_;rintro e w1 ⟨rfl,hb⟩;have HB:=hid hb;have b2:=aA D2.out hb;have e2:=cell_of_one b2;have f2:=free_of_one b2;have B2:=hid b2;clear hb b2);go_end0;exact⟨rfl,one_setCell B2.out,(Away.of_below HB.out).trans (Away.set _ _ _ _)⟩
theorem qDZ(ao:Option Addr)(n c:Nat)(its:List (Int×Int))(kv:Value)(vo:Option Addr)(vn vc:Nat)(tb h0 h1:Nat)(V:World)(hn:n≤9223372036854775807)(hs:ItemsOf V ao n its)
  (d0:V.heap[h0]? =some (.cells #[.slice ao n c] 57 (0,0))) (d1:V.heap[h1]? =some (.cells #[kv,.slice vo vn vc] 32 (0,0))) (hl:aV its vn=none):
  Calls Tryz.prog 63 #[.pointer (some ⟨h0,0,none⟩),.pointer (some ⟨h1,0,none⟩),.pointer (some ⟨tb,0,none⟩)] V λe w'=>Pan e∧Below V.heap.size V w':=by
 have c0:=cell_of_one d0;have c1:=(aF d1).2.1;have H:=hid (yL ao n c its vn V hn hs);rw[hl]at H;unfold dH at H;simp only at H;clear hs hl d0 d1;go_enter Tryz.func63,Tryz.ntmps63;go_wp2_with(go_at_call 64;refine H.out.mono ?_;rintro e w1 ⟨⟨s,rfl⟩,hb⟩;have HB:=hid hb;clear hb);exact⟨rfl,⟨_,rfl⟩,HB.out⟩
theorem qJP{vars op val:Int}{st:List Tree}{p:Tree×List Tree}(h:aS vars op val st=some p)(hs:∀t∈st,WfT vars t):WfT vars p.1∧∀t∈p.2,WfT vars t:=by
 unfold aS at h;split at h
 ·split at h<;>simp at h;rename_i hv;subst h;exact⟨hv,hs⟩
 split at h
 ·split at h<;>simp at h;rename_i hv;subst h;exact⟨hv,hs⟩
 split at h
 ·split at h
  ·rename_i hv
   split at h<;>simp at h;subst h;exact⟨⟨hv,hs _ (by simp)⟩,λt ht=>hs t (by simp[ht])⟩
  ·simp at h
 split at h
 ·simp at h
 split at h
 ·simp at h;subst h;exact⟨trivial,hs⟩
 split at h
 ·split at h<;>simp at h
  subst h;refine⟨?_,λt ht=>hs t (by simp[ht])⟩;simp only[WfT];exact hs _ (by simp)
 ·split at h
  ·split at h<;>simp at h
   rename_i hop;subst h;exact⟨⟨hop,hs _ (by simp),hs _ (by simp)⟩,λt ht=>hs t (by simp[ht])⟩
  ·simp at h
theorem qIG(vars:Int):∀(its:List (Int×Int)) (st st':List Tree),(∀t∈st,WfT vars t)→dA vars its st=some st'→∀t∈st',WfT vars t:=by
 intro its
 induction its with
 |nil=>intro st st' hs h;simp[dA]at h;subst h;exact hs
 |cons x r ih=>
  intro st st' hs h;simp only[dA]at h;split at h
  ·rename_i p hp
   obtain⟨h1,h2⟩:=qJP hp hs;refine ih _ _ (λt ht=>?_) h;rcases List.mem_cons.1 ht with e|ht
   ·rw[e];exact h1
   ·exact h2 t ht
  ·simp at h
theorem qbB{its:List (Int×Int)}{vars:Int}{t:Tree}(h:aV its vars=some t):WfT vars t:=
 qIG vars its [] [t] (by simp) (qh3 h).2.2 t (by simp)
def evI(its:List (Int×Int))(ks vs:List Int)(arg:Int):Int:=if bQ ks vs then(match aV its vs.length with|some t=>a8 vs arg t|none=>0)else 0
theorem Away.belowAt{sb B:Nat}{a b:World}(h:Away sb a b)(h1:B≤sb)(h2:B≤a.heap.size):Below B a b:=⟨h.os,h.tape,h.output,h.size,λi hi=>h.block i (by omega) (by omega)⟩
theorem qGU{w w2:World}{k e:Value}{vo:Option Addr}{vn vc:Nat}{vs:List Int}{arg:Int}(_:Below w.heap.size w w2)(hv:SliceOf w2 vo vn vs):
  MomAt (w2.alloc (.cells #[k,.slice vo vn vc,.int .i64 arg,e] 146)) w2.heap.size vs arg:=by
 obtain⟨c0,c1,c2,c3⟩:=aC (heap_alloc_new w2 (.cells #[k,.slice vo vn vc,.int .i64 arg,e] 146));exact⟨by simp,c2,vo,vn,vc,c1,hv.below (aB _ _)⟩
theorem qEV(ao:Option Addr)(n c:Nat)(its:List (Int×Int))(ko vo:Option Addr)(kn kc vn vc:Nat)(ks vs:List Int)(arg:Int)(w:World)(hn:n≤9223372036854775807)(hkn:kn≤9223372036854775807)(hvn:vn≤9223372036854775807)
  (hs:ItemsOf w ao n its) (hk:SliceOf w ko kn ks) (hv:SliceOf w vo vn vs):
  Calls Tryz.prog 18 #[.slice ao n c,.agg #[.slice ko kn kc,.slice vo vn vc],.int .i64 arg] w λe w'=>e=.returned (.int .i64 (evI its ks vs arg))∧Below w.heap.size w w':=by
 have hmf:∀(fn:Fn) (first cap:Array Value) (w:World),(Instr.makeFunc fn first cap).run Tryz.prog w=.ok (.func fn first cap) w:=λ_ _ _ _=>rfl;have HS:Hid (∀w',Below w.heap.size w w'→ItemsOf w' ao n its∧SliceOf w' ko kn ks∧SliceOf w' vo vn vs):=λw' h=>⟨hs.below h,hk.below h,hv.below h⟩;have EV:Hid (vs.length=vn):=hv.1;obtain⟨bb,hbb⟩:∃b,b=bQ ks vs:=⟨_,rfl⟩;have CB:Hid (∀w',Below w.heap.size w w'→Calls Tryz.prog 61 #[.agg #[.slice ko kn kc,.slice vo vn vc]] w' λe w''=>e=.returned (.bool bb)∧Below w'.heap.size w' w''):=λw' h=>by rw[hbb];exact qoV ko vo kn vn kc vc ks vs w' hkn hvn (hk.below h) (hv.below h)
 have Q0:=hid (aA (heap_alloc_new w (.cells #[.slice ao n c] 57)) (aB _ (.cells #[.slice ko kn kc,.slice vo vn vc] 32)));have Q1:=hid (heap_alloc_new (w.alloc (.cells #[.slice ao n c] 57)) (.cells #[.slice ko kn kc,.slice vo vn vc] 32));simp only[World.size_alloc]at Q1;clear hs hk hv;cases bb with
 |false=>
  have E:Hid (evI its ks vs arg=0):=hid (by simp[evI,←hbb]);rw[E.out];clear hbb;go_enter Tryz.func18,Tryz.ntmps18;go_wp2_with(go_at_call 61;refine(CB.out _ (aD _ _ _)).mono ?_;rintro e w1 ⟨rfl,hb⟩;have HB:=hid hb;clear hb);go_ret;exact⟨rfl,(aD _ _ _).trans (HB.out.mono (by simp;omega))⟩
 |true=>
  cases hl:aV its vs.length with
  |none=>
   have E:Hid (evI its ks vs arg=0):=hid (by simp[evI,←hbb,hl]);have HL:Hid (aV its vn=none):=hid (by have:=EV.out;rw[←this];exact hl);rw[E.out];have hq:=qwJ;clear hbb hl;go_enter Tryz.func18,Tryz.ntmps18;go_wp2_with(go_at_call 61;refine(CB.out _ (aD _ _ _)).mono ?_;rintro e w1 ⟨rfl,hb⟩;have HB:=hid hb;clear hb);have B1:=(aD w (.cells #[.slice ao n c] 57) (.cells #[.slice ko kn kc,.slice vo vn vc] 32)).trans (HB.out.mono (by simp;omega));have B3:=(B1.alloc B1.size (.cells #[.nilIface] 138)).alloc (by have:=B1.size;simp;omega) (.cells #[.nilIface] 140);have A:=hid (qiV 63 #[.pointer (some ⟨w.heap.size,0,none⟩),.pointer (some ⟨w.heap.size+1,0,none⟩),.pointer (some ⟨w1.heap.size,0,none⟩)] (w1.alloc (.cells #[.nilIface] 138)) qwF
    (by simpa using qDZ ao n c its _ vo vn vc w1.heap.size w.heap.size (w.heap.size+1) ((w1.alloc (.cells #[.nilIface] 138)).alloc (.cells #[.nilIface] 140)) hn (HS.out _ B3).1 (aA (aA (aA Q0.out HB.out) (aB _ _)) (aB _ _)) (aA (aA (aA Q1.out HB.out) (aB _ _)) (aB _ _)) HL.out))
   have HB1:=hid B1;clear B1 B3;go_wp2_with(go_at_call 62;refine A.out.mono ?_;rintro e w2 ⟨⟨s,rfl⟩,hb2⟩;have HB2:=hid hb2;clear hb2);go_ret;exact⟨rfl,(HB1.out.alloc HB1.out.size _).trans (HB2.out.mono (by have:=HB1.out.size;simp;omega))⟩
  |some t=>
   have E:Hid (evI its ks vs arg=a8 vs arg t):=hid (by simp[evI,←hbb,hl]);have HL:Hid (aV its vn=some t):=hid (by have:=EV.out;rw[←this];exact hl);have WF:=hid (qbB hl);rw[E.out];have hq:=qx3;clear hbb hl;go_enter Tryz.func18,Tryz.ntmps18;go_wp2_with(go_at_call 61;refine(CB.out _ (aD _ _ _)).mono ?_;rintro e w1 ⟨rfl,hb⟩;have HB:=hid hb;clear hb);have B1:=(aD w (.cells #[.slice ao n c] 57) (.cells #[.slice ko kn kc,.slice vo vn vc] 32)).trans (HB.out.mono (by simp;omega));have B3:=(B1.alloc B1.size (.cells #[.nilIface] 138)).alloc (by have:=B1.size;simp;omega) (.cells #[.nilIface] 140);have s1:=HB.out.size;simp at s1;obtain⟨V,hV⟩:∃V,V=(w1.alloc (.cells #[.nilIface] 138)).alloc (.cells #[.nilIface] 140):=⟨_,rfl⟩;have sV:V.heap.size=w1.heap.size+1+1:=by rw[hV];simp
   have v0:V.heap[w.heap.size]? =some (.cells #[.slice ao n c] 57 (0,0)):=by rw[hV];exact aA (aA (aA Q0.out HB.out) (aB _ _)) (aB _ _)
   have v1:V.heap[w.heap.size+1]? =some (.cells #[.slice ko kn kc,.slice vo vn vc] 32 (0,0)):=by rw[hV];exact aA (aA (aA Q1.out HB.out) (aB _ _)) (aB _ _)
   have v2:V.heap[w1.heap.size]? =some (.cells #[.nilIface] 138 (0,0)):=by rw[hV];exact aA (heap_alloc_new w1 _) (aB _ _)
   have v3:V.heap[w1.heap.size+1]? =some (.cells #[.nilIface] 140 (0,0)):=by rw[hV];simpa using heap_alloc_new (w1.alloc (.cells #[.nilIface] 138)) (.cells #[.nilIface] 140)
   have A:=hid (quX 63 #[.pointer (some ⟨w.heap.size,0,none⟩),.pointer (some ⟨w.heap.size+1,0,none⟩),.pointer (some ⟨w1.heap.size,0,none⟩)] (w1.alloc (.cells #[.nilIface] 138))
    (λw'=>w'.heap[w1.heap.size]? =some (.cells #[tv t] 138 (0,0))∧Away w1.heap.size V w') qwF
    (λw' h=>by simp only[World.size_alloc];exact(h.2.block _ (by omega) (by omega)).trans v3)
    (by rw[←hV];exact qD0 ao n c its _ vo vn vc t w1.heap.size w.heap.size (w.heap.size+1) V hn (HS.out _ (by rw[hV];exact B3)).1 v0 v1 v2 HL.out))
   have HB1:=hid B1;have V1:=hid v1;have BV:Hid (Below w.heap.size w V):=hid (by rw[hV];exact B3);obtain⟨y,x,hy⟩:=cL t;have hx:=vO hy;have CM:=hid (λmp w=>vK _ t WF.out mp w);have VA:=hid (λmb=>qqG mb vs arg t WF.out);rw[hy]at A CM;rw[←hx]at CM VA;clear B1 B3 v0 v1 v2 v3 hV hy hx;go_wp2_with(first|(go_at_call 62;refine A.out.mono ?_;rintro e w2 ⟨rfl,w3,⟨hw3,ha3⟩,hw2⟩;have b2:w2.heap[w1.heap.size]? =some (.cells #[.iface y x] 138 (0,0)):=(by rw[hw2];exact(Below.heap_setCell _ _ _ _ (by simp)).trans hw3);have c2:=cell_of_one b2;have b3:w2.heap[w.heap.size+1]? =some (.cells #[.slice ko kn kc,.slice vo vn vc] 32 (0,0)):=(by rw[hw2];exact(Below.heap_setCell _ _ _ _ (by simp;omega)).trans ((ha3.block _ (by omega) (by omega)).trans V1.out));have c3:=(aF b3).2.1;have B2:Hid (Below w.heap.size w w2):=hid (by rw[hw2];exact(BV.out.trans (ha3.belowAt (by omega) (by omega))).setCell (by simp;omega) _);clear hw3 ha3 hw2 b2 b3)|(refine qqJ _ (by rfl) (.tmp 14) (.tmp 19) cH _ (by rfl) (by rfl) (by rfl) (CM.out _ _) ?_;refine(VA.out _ _ (qGU B2.out (HS.out _ B2.out).2.2)).mono ?_;rintro e w5 ⟨rfl,hb5⟩;have B5:=hid hb5;clear hb5;refine⟨_,rfl,?_⟩));go_ret;exact⟨rfl,(B2.out.alloc B2.out.size _).trans (B5.out.mono (by have:=B2.out.size;simp;omega))⟩
end Go.Proofs.YtiimkhepplkocaaGreat

import Derived.Test.YtiimkhepplkocaaGreatNa
set_option maxRecDepth 100000
set_option maxHeartbeats 16000000
namespace Go.Proofs.YtiimkhepplkocaaGreat
open Go.RowKit Go.Sort
def gQ(k:Int)(l:aE):Int:=if k=1 then l.v-1 else if k=3∨k=4 then l.o-1 else if k=8∨k=9 then l.t-1 else 0
def eP(k:Int)(l:aE):Int:=if k=3∨k=4∨k=5 then l.s-1 else if k=8 then 999999999 else 0
def bX(k:Int):Bool:=decide (k≠6∧k≠7∧k≠9)
theorem qxI(k o s t v:Int)(w:World)(hl:cO ⟨o,s,t,v⟩):Calls Tryz.prog 146 #[.int .i64 k,.agg #[.int .i64 o,.int .i64 s,.int .i64 t,.int .i64 v]] w λe w'=>e=.returned (.tuple #[.int .i64 (gQ k ⟨o,s,t,v⟩),.int .i64 (eP k ⟨o,s,t,v⟩)])∧Below w.heap.size w w':=by
 obtain⟨⟨o1,o2⟩,⟨s1,s2⟩,⟨t1,t2⟩,⟨v1,v2⟩⟩:=hl;simp only at o1 o2 s1 s2 t1 t2 v1 v2;by_cases h1:k=1
 ·subst h1
  go_enter Tryz.func146,Tryz.ntmps146;go_wp2;go_ret2;exact⟨qd2 (by simp[gQ]) (by simp[eP]),aB _ _⟩
 by_cases h3:k=3
 ·subst h3
  go_enter Tryz.func146,Tryz.ntmps146;go_wp2;go_quiet(fail);go_wp2;go_ret2;exact⟨qd2 (by simp[gQ]) (by simp[eP]),cQ (aB _ _) _⟩
 by_cases h4:k=4
 ·subst h4
  go_enter Tryz.func146,Tryz.ntmps146;go_wp2;go_quiet(fail);go_wp2;go_ret2;exact⟨qd2 (by simp[gQ]) (by simp[eP]),cQ (aB _ _) _⟩
 by_cases h5:k=5
 ·subst h5
  go_enter Tryz.func146,Tryz.ntmps146;go_wp2;go_quiet(fail);go_wp2;go_ret2;exact⟨qd2 (by simp[gQ]) (by simp[eP]),cQ (aB _ _) _⟩
 by_cases h8:k=8
 ·subst h8
  go_enter Tryz.func146,Tryz.ntmps146;go_wp2;go_ret2;exact⟨qd2 (by simp[gQ]) (by simp[eP]),aB _ _⟩
 by_cases h9:k=9
 ·subst h9
  go_enter Tryz.func146,Tryz.ntmps146;go_wp2;go_ret2;exact⟨qd2 (by simp[gQ]) (by simp[eP]),aB _ _⟩
 have e1:(k==1)=false:=by simpa using h1
 have e3:(k==3)=false:=by simpa using h3
 have e4:(k==4)=false:=by simpa using h4
 have e5:(k==5)=false:=by simpa using h5
 have e8:(k==8)=false:=by simpa using h8
 have e9:(k==9)=false:=by simpa using h9
 have E:Hid (gQ k ⟨o,s,t,v⟩=0∧eP k ⟨o,s,t,v⟩=0):=hid (by simp[gQ,eP,h1,h3,h4,h5,h8,h9]);clear h1 h3 h4 h5 h8 h9;go_enter Tryz.func146,Tryz.ntmps146;go_wp2;go_ret2;exact⟨qd2 E.out.1.symm E.out.2.symm,aB _ _⟩
theorem qa9(k:Int)(w:World):Calls Tryz.prog 147 #[.int .i64 k] w λe w'=>e=.returned (.bool (bX k))∧w'=w:=by
 by_cases h6:k=6
 ·subst h6
  go_enter Tryz.func147,Tryz.ntmps147;go_wp2;go_ret;exact⟨aZ (by simp[bX]),rfl⟩
 by_cases h7:k=7
 ·subst h7
  go_enter Tryz.func147,Tryz.ntmps147;go_wp2;go_ret;exact⟨aZ (by simp[bX]),rfl⟩
 by_cases h9:k=9
 ·subst h9
  go_enter Tryz.func147,Tryz.ntmps147;go_wp2;go_ret;exact⟨aZ (by simp[bX]),rfl⟩
 have e6:(k !=6)=true:=by simpa using h6
 have e7:(k !=7)=true:=by simpa using h7
 have e9:(k !=9)=true:=by simpa using h9
 have E:Hid (bX k=true):=hid (by simp[bX,h6,h7,h9]);clear h6 h7 h9;go_enter Tryz.func147,Tryz.ntmps147;go_wp2;go_ret;exact⟨aZ E.out.symm,rfl⟩
end Go.Proofs.YtiimkhepplkocaaGreat
namespace Go.Proofs.YtiimkhepplkocaaGreat
open Go.RowKit Go.Sort
def pU(l:aE)(s:aH):Bool:=
 aQ s.kind 1 9&&aQ s.a 0 (gQ s.kind l)&&aQ s.b 0 (eP s.kind l)&&(if bX s.kind then tJ s.code l.v else decide (s.code.length=0))
abbrev qyZ(l:aE)(ss:List aH)(k:Nat):Prop:=∀i,i<k→pU l (ss.getD i dC)=true
def cK(l:aE)(ss:List aH):Bool:=decide (cO l∧ss.length≤50∧qyZ l ss ss.length)
theorem qiF{l:aE}{ss:List aH}{k n:Nat}(hl:ss.length=n)(hlt:k<n)(h:pU l (ss.getD k dC)=false):cK l ss=false:=by
 unfold cK;rw[decide_eq_false_iff_not];intro hh;have:=hh.2.2 k (by omega);rw[h]at this;cases this
theorem qpY(ao:Option Addr)(n c:Nat)(ss:List aH)(o s t v:Int)(w:World)(hn:n≤9223372036854775807)(hs:StmsOf w ao n ss):
  Calls Tryz.prog 107 #[.slice ao n c,.agg #[.int .i64 o,.int .i64 s,.int .i64 t,.int .i64 v]] w λe w'=>e=.returned (.bool (cK ⟨o,s,t,v⟩ ss))∧Below w.heap.size w w':=by
 have HL:=hid hs.1;obtain⟨lb,hlb⟩:∃lb,lb=bC ⟨o,s,t,v⟩:=⟨_,rfl⟩;have CL:Hid (∀w,Calls Tryz.prog 144 #[.agg #[.int .i64 o,.int .i64 s,.int .i64 t,.int .i64 v]] w λe w'=>e=.returned (.bool lb)∧Below w.heap.size w w'):=λw=>by rw[hlb];exact qxH o s t v w
 cases lb with
 |false=>
  have E:Hid (cK ⟨o,s,t,v⟩ ss=false):=hid (by unfold cK;rw[decide_eq_false_iff_not];intro h;rw[show bC ⟨o,s,t,v⟩=true from decide_eq_true h.1]at hlb;cases hlb);clear hs hlb;go_enter Tryz.func107,Tryz.ntmps107;go_wp2_with(go_at_call 144;refine(CL.out _).mono ?_;rintro e w1 ⟨rfl,hb⟩;have HB:=hid hb;clear hb);go_ret;exact⟨aZ E.out.symm,(aB _ _).trans (HB.out.mono (by simp))⟩
 |true=>
  have hlim:cO ⟨o,s,t,v⟩:=by have:=hlb.symm;unfold bC at this;exact of_decide_eq_true this
  clear hlb;by_cases h50:n≤50
  ·have i50:¬(50:Int)<(n:Int):=by omega
   go_enter Tryz.func107,Tryz.ntmps107;go_wp2_with(go_at_call 144;refine(CL.out _).mono ?_;rintro e w1 ⟨rfl,hb⟩;have HB0:=hid ((aB _ _).trans (hb.mono (by simp)));have Q0:=hid (aA (heap_alloc_new w _) hb);clear hb);go_loopw [19] (λi wr=>∃k:Nat,k≤n∧i=.int .i64 k∧qyZ ⟨o,s,t,v⟩ ss k∧wr.heap[w.heap.size]? =some (.cells #[.int .i64 o,.int .i64 s,.int .i64 t,.int .i64 v] 40 (0,0))∧Below w.heap.size w wr) (λi _=>n-(intOf i).toNat)
   case atStart=>exact⟨0,Nat.zero_le _,rfl,λi h=>absurd h (by omega),Q0.out,HB0.out⟩
   case round=>
    obtain⟨k,hk,rfl,hp,hq,hb⟩:=hrel;have HP:=hid hp;have HB:=hid hb;have HQ:=hid hq;have hszl:=lt_of_block hq;clear hp hq;by_cases hlt:k<n
    ·obtain⟨b,off,rfl,hbl,hc⟩:=hs.2 (by omega)
     obtain⟨sd,es⟩:∃sd,sd=ss.getD k dC:=⟨_,rfl⟩;have hk4:=hc k hlt;rw[←es]at hk4;obtain⟨x1,x2,x3,co,cn,cc,x4,hcn,hit⟩:=hk4;have HI:Hid (∀w',Below wr.heap.size wr w'→ItemsOf w' co cn sd.code):=hid (λw' h=>hit.below (hb.trans (h.mono hb.size)));obtain⟨kd,a,bb,code⟩:=sd;have k1:wr.cell? ⟨b,off+k*4,none⟩=some (.int .i64 kd):=(hb.cell (p:=⟨b,off+k*4,none⟩) hbl).trans x1;have k2:wr.cell? ⟨b,off+k*4+1,none⟩=some (.int .i64 a):=(hb.cell (p:=⟨b,off+k*4+1,none⟩) hbl).trans x2;have k3:wr.cell? ⟨b,off+k*4+2,none⟩=some (.int .i64 bb):=(hb.cell (p:=⟨b,off+k*4+2,none⟩) hbl).trans x3;have k4:wr.cell? ⟨b,off+k*4+3,none⟩=some (.slice co cn cc):=(hb.cell (p:=⟨b,off+k*4+3,none⟩) hbl).trans x4;have EL:Hid (code.length=cn):=hit.1;have ES:=hid es;clear hc hs hb es x1 x2 x3 x4 hit;obtain⟨mA,hmA⟩:∃m,m=gQ kd ⟨o,s,t,v⟩:=⟨_,rfl⟩;obtain⟨mB,hmB⟩:∃m,m=eP kd ⟨o,s,t,v⟩:=⟨_,rfl⟩;obtain⟨bk,hbk⟩:∃x,x=aQ kd 1 9:=⟨_,rfl⟩;obtain⟨ba,hba⟩:∃x,x=aQ a 0 mA:=⟨_,rfl⟩;obtain⟨b2,hb2⟩:∃x,x=aQ bb 0 mB:=⟨_,rfl⟩;obtain⟨hc,hhc⟩:∃x,x=bX kd:=⟨_,rfl⟩;obtain⟨cb,hcb⟩:∃x,x=tJ code v:=⟨_,rfl⟩;have C1:=hid (sS kd 1 9 bk hbk);have C2:=hid (sS a 0 mA ba hba);have C3:=hid (sS bb 0 mB b2 hb2);have C4:Hid (∀w,Calls Tryz.prog 147 #[.int .i64 kd] w λe w'=>e=.returned (.bool hc)∧w'=w):=λw=>by rw[hhc];exact qa9 kd w
     have C5:Hid (∀w,Calls Tryz.prog 146 #[.int .i64 kd,.agg #[.int .i64 o,.int .i64 s,.int .i64 t,.int .i64 v]] w λe w'=>e=.returned (.tuple #[.int .i64 mA,.int .i64 mB])∧Below w.heap.size w w'):=λw=>by rw[hmA,hmB];exact qxI kd o s t v w hlim
     have C6:Hid (∀w',Below wr.heap.size wr w'→Calls Tryz.prog 108 #[.slice co cn cc,.int .i64 v] w' λe w''=>e=.returned (.bool cb)∧Below w'.heap.size w' w''):=λw' h=>by rw[hcb];exact qyU co cn cc code v w' hcn (HI.out w' h)
     have ER:Hid (pU ⟨o,s,t,v⟩ ⟨kd,a,bb,code⟩=(bk&&ba&&b2&&(if hc then cb else decide (cn=0)))):=hid (by simp only[pU];rw[←hmA,←hmB,←hbk,←hba,←hb2,←hhc,←hcb,EL.out]);have Q1:=hid (aA HQ.out (aB wr (.cells #[.int .i64 kd,.int .i64 a,.int .i64 bb,.slice co cn cc] 210)));have R1:=hid (heap_alloc_new wr (.cells #[.int .i64 kd,.int .i64 a,.int .i64 bb,.slice co cn cc] 210));obtain⟨q10,q11,q12,q13⟩:=aC Q1.out;clear hmA hmB hbk hba hb2 hhc hcb;cases bk with
     |false=>
      go_wp2_with(go_at_call 55;refine(C1.out _).mono ?_;rintro e w1 ⟨rfl,hw⟩;obtain rfl:=hw.symm);go_ret;exact⟨aZ (qiF HL.out hlt (by rw[←ES.out,ER.out];simp)).symm,HB.out.trans ((aB _ _).mono HB.out.size)⟩
     |true=>
      cases ba with
      |false=>
       go_wp2_with(first|(go_at_call_of 55 (Value.int .i64 (9:Int));refine(C1.out _).mono ?_;rintro e w1 ⟨rfl,hw⟩;obtain rfl:=hw.symm)|(go_at_call 146;refine(C5.out _).mono ?_;rintro e w1 ⟨rfl,hb1⟩;have B1:=hid hb1;obtain⟨r10,r11,r12,r13⟩:=aC (aA R1.out hb1);clear hb1)|(go_at_call_of 55 (Value.int .i64 mA);refine(C2.out _).mono ?_;rintro e w2 ⟨rfl,hw⟩;obtain rfl:=hw.symm));go_ret;exact⟨aZ (qiF HL.out hlt (by rw[←ES.out,ER.out];simp)).symm,(HB.out.trans ((aB _ _).mono HB.out.size)).trans (B1.out.mono (by simp;omega))⟩
      |true=>
       cases b2 with
       |false=>
        go_wp2_with(first|(go_at_call_of 55 (Value.int .i64 (9:Int));refine(C1.out _).mono ?_;rintro e w1 ⟨rfl,hw⟩;obtain rfl:=hw.symm)|(go_at_call 146;refine(C5.out _).mono ?_;rintro e w1 ⟨rfl,hb1⟩;have B1:=hid hb1;obtain⟨r10,r11,r12,r13⟩:=aC (aA R1.out hb1);clear hb1)|(go_at_call_of 55 (Value.int .i64 mA);refine(C2.out _).mono ?_;rintro e w2 ⟨rfl,hw⟩;obtain rfl:=hw.symm)|(go_at_call_of 55 (Value.int .i64 mB);refine(C3.out _).mono ?_;rintro e w2 ⟨rfl,hw⟩;obtain rfl:=hw.symm));go_ret;exact⟨aZ (qiF HL.out hlt (by rw[←ES.out,ER.out];simp)).symm,(HB.out.trans ((aB _ _).mono HB.out.size)).trans (B1.out.mono (by simp;omega))⟩
       |true=>
        cases hc with
        |true=>
         cases cb with
         |false=>
          go_wp2_with(first|(go_at_call_of 55 (Value.int .i64 (9:Int));refine(C1.out _).mono ?_;rintro e w1 ⟨rfl,hw⟩;obtain rfl:=hw.symm)|(go_at_call 146;refine(C5.out _).mono ?_;rintro e w1 ⟨rfl,hb1⟩;have B1:=hid ((aB _ _).trans (hb1.mono (by simp)));obtain⟨r10,r11,r12,r13⟩:=aC (aA R1.out hb1);obtain⟨s10,s11,s12,s13⟩:=aC (aA Q1.out hb1);clear hb1)|(go_at_call_of 55 (Value.int .i64 mA);refine(C2.out _).mono ?_;rintro e w2 ⟨rfl,hw⟩;obtain rfl:=hw.symm)|(go_at_call_of 55 (Value.int .i64 mB);refine(C3.out _).mono ?_;rintro e w2 ⟨rfl,hw⟩;obtain rfl:=hw.symm)|(go_at_call 147;refine(C4.out _).mono ?_;rintro e w2 ⟨rfl,hw⟩;obtain rfl:=hw.symm)|(go_at_call 108;refine(C6.out _ B1.out).mono ?_;rintro e w2 ⟨rfl,hb2⟩;have B2:=hid (B1.out.trans (hb2.mono B1.out.size));clear hb2));go_ret;exact⟨aZ (qiF HL.out hlt (by rw[←ES.out,ER.out];simp)).symm,HB.out.trans (B2.out.mono HB.out.size)⟩
         |true=>
          go_wp2_with(first|(go_at_call_of 55 (Value.int .i64 (9:Int));refine(C1.out _).mono ?_;rintro e w1 ⟨rfl,hw⟩;obtain rfl:=hw.symm)|(go_at_call 146;refine(C5.out _).mono ?_;rintro e w1 ⟨rfl,hb1⟩;have B1:=hid ((aB _ _).trans (hb1.mono (by simp)));have R2:=hid (aA R1.out hb1);obtain⟨r10,r11,r12,r13⟩:=aC R2.out;have Q2:=hid (aA Q1.out hb1);obtain⟨s10,s11,s12,s13⟩:=aC Q2.out;clear hb1)|(go_at_call_of 55 (Value.int .i64 mA);refine(C2.out _).mono ?_;rintro e w2 ⟨rfl,hw⟩;obtain rfl:=hw.symm)|(go_at_call_of 55 (Value.int .i64 mB);refine(C3.out _).mono ?_;rintro e w2 ⟨rfl,hw⟩;obtain rfl:=hw.symm)|(go_at_call 147;refine(C4.out _).mono ?_;rintro e w2 ⟨rfl,hw⟩;obtain rfl:=hw.symm)|(go_at_call 108;refine(C6.out _ B1.out).mono ?_;rintro e w2 ⟨rfl,hb2⟩;have B2:=hid (B1.out.trans (hb2.mono B1.out.size));obtain⟨yP,dU,tB,tC⟩:=aC (aA R2.out hb2);have Q3:=hid (aA Q2.out hb2);clear hb2));go_roundw
          case rel=>
           refine⟨k+1,by omega,by go_num,λi hi=>?_,Q3.out,HB.out.trans (B2.out.mono HB.out.size)⟩;by_cases e:i=k
           ·subst e;rw[←ES.out,ER.out];simp
           ·exact HP.out i (by omega)
          case measure=>simp[intOf];omega
        |false=>
         by_cases hz:cn=0
         ·have hz2:((cn:Int) !=0)=false:=by simp[hz]
          have HZ:=hid hz;clear hz;go_wp2_with(first|(go_at_call_of 55 (Value.int .i64 (9:Int));refine(C1.out _).mono ?_;rintro e w1 ⟨rfl,hw⟩;obtain rfl:=hw.symm)|(go_at_call 146;refine(C5.out _).mono ?_;rintro e w1 ⟨rfl,hb1⟩;have B1:=hid ((aB _ _).trans (hb1.mono (by simp)));have R2:=hid (aA R1.out hb1);obtain⟨r10,r11,r12,r13⟩:=aC R2.out;have Q2:=hid (aA Q1.out hb1);obtain⟨s10,s11,s12,s13⟩:=aC Q2.out;clear hb1)|(go_at_call_of 55 (Value.int .i64 mA);refine(C2.out _).mono ?_;rintro e w2 ⟨rfl,hw⟩;obtain rfl:=hw.symm)|(go_at_call_of 55 (Value.int .i64 mB);refine(C3.out _).mono ?_;rintro e w2 ⟨rfl,hw⟩;obtain rfl:=hw.symm)|(go_at_call 147;refine(C4.out _).mono ?_;rintro e w2 ⟨rfl,hw⟩;obtain rfl:=hw.symm));go_roundw
          case rel=>
           refine⟨k+1,by omega,by go_num,λi hi=>?_,Q2.out,HB.out.trans (B1.out.mono HB.out.size)⟩;by_cases e:i=k
           ·subst e;rw[←ES.out,ER.out];simp[HZ.out]
           ·exact HP.out i (by omega)
          case measure=>simp[intOf];omega
         ·have hz2:((cn:Int) !=0)=true:=by simp;omega
          have HZ:=hid hz;clear hz;go_wp2_with(first|(go_at_call_of 55 (Value.int .i64 (9:Int));refine(C1.out _).mono ?_;rintro e w1 ⟨rfl,hw⟩;obtain rfl:=hw.symm)|(go_at_call 146;refine(C5.out _).mono ?_;rintro e w1 ⟨rfl,hb1⟩;have B1:=hid ((aB _ _).trans (hb1.mono (by simp)));have R2:=hid (aA R1.out hb1);obtain⟨r10,r11,r12,r13⟩:=aC R2.out;have Q2:=hid (aA Q1.out hb1);obtain⟨s10,s11,s12,s13⟩:=aC Q2.out;clear hb1)|(go_at_call_of 55 (Value.int .i64 mA);refine(C2.out _).mono ?_;rintro e w2 ⟨rfl,hw⟩;obtain rfl:=hw.symm)|(go_at_call_of 55 (Value.int .i64 mB);refine(C3.out _).mono ?_;rintro e w2 ⟨rfl,hw⟩;obtain rfl:=hw.symm)|(go_at_call 147;refine(C4.out _).mono ?_;rintro e w2 ⟨rfl,hw⟩;obtain rfl:=hw.symm));go_ret;exact⟨aZ (qiF HL.out hlt (by rw[←ES.out,ER.out];simp[HZ.out])).symm,HB.out.trans (B1.out.mono HB.out.size)⟩
    ·have e:k=n:=by omega
     subst e;clear hs hb;go_wp2;go_ret;refine⟨aZ ?_,HB.out⟩;symm;unfold cK;rw[decide_eq_true_iff];exact⟨hlim,by rw[HL.out];exact h50,by rw[HL.out];exact HP.out⟩
  ·have i50:(50:Int)<(n:Int):=by omega
   have E:Hid (cK ⟨o,s,t,v⟩ ss=false):=hid (by unfold cK;rw[decide_eq_false_iff_not];intro h;have:=h.2.1;rw[HL.out]at this;exact h50 this);clear hs;go_enter Tryz.func107,Tryz.ntmps107;go_wp2_with(go_at_call 144;refine(CL.out _).mono ?_;rintro e w1 ⟨rfl,hb⟩;have HB:=hid hb;clear hb);go_ret;exact⟨aZ E.out.symm,(aB _ _).trans (HB.out.mono (by simp))⟩
end Go.Proofs.YtiimkhepplkocaaGreat
namespace Go.Proofs.YtiimkhepplkocaaGreat
open Go.RowKit Go.Sort
def tK(k:Int)(l:aE):Int:=if k=1 then l.v else if k=3∨k=4 then l.o else if k=8∨k=9 then l.t else 1
def uK(k:Int)(l:aE):Int:=if k=3∨k=4∨k=5 then l.s else if k=8 then 1000000000 else 1
def cF(k a b:Int)(cn:Nat)(l:aE):Bool:=decide (0≤a∧a<tK k l)&&decide (0≤b∧b<uK k l)&&(if bX k then true else decide (cn=0))
theorem uD(n c:Int)(b:Bool)(h:b=decide (0≤n∧n<c))(w:World):Calls Tryz.prog 59 #[.int .i64 n,.int .i64 c] w λe w'=>e=.returned (.bool b)∧w'=w:=by
 rw[h];exact qgV n c w
def cZ(w:World)(b:Bool)(e:Ending)(w':World):Prop:=(match b with|true=>e=.returned (.tuple #[])|false=>Pan e)∧Below w.heap.size w w'
theorem qC5(a b:Int)(co:Option Addr)(cn cc:Nat)(o s t v:Int)(w:World):
  Calls Tryz.prog 162 #[.agg #[.int .i64 (1),.int .i64 a,.int .i64 b,.slice co cn cc],.agg #[.int .i64 o,.int .i64 s,.int .i64 t,.int .i64 v]] w (cZ w (cF (1) a b cn ⟨o,s,t,v⟩)):=by
 obtain⟨fa,hfa⟩:∃x,x=decide (0≤a∧a<v):=⟨_,rfl⟩;obtain⟨fb,hfb⟩:∃x,x=decide (0≤b∧b<1):=⟨_,rfl⟩;have C1:=hid (uD a v fa hfa);have C2:=hid (uD b 1 fb hfb);have E:Hid (cF (1) a b cn ⟨o,s,t,v⟩=(fa&&fb)):=hid (by rw[hfa,hfb];simp[cF,tK,uK,bX]);rw[E.out];clear hfa hfb E;cases fa with
 |false=>
  go_enter Tryz.func162,Tryz.ntmps162;go_wp2_with(first|(go_at_call_of 59 (Value.int .i64 a);refine(C1.out _).mono ?_;rintro e w1 ⟨rfl,hw⟩;obtain rfl:=hw.symm)|(go_at_call_of 59 (Value.int .i64 b);refine(C2.out _).mono ?_;rintro e w1 ⟨rfl,hw⟩;obtain rfl:=hw.symm)|(go_at_call_of 119 (Value.bool true);refine(cB _ _).mono ?_;rintro e w1 ⟨rfl,hw⟩;obtain rfl:=hw.symm)|(go_at_call_of 119 (Value.bool false);refine(cD _ _).mono ?_;rintro e w1 ⟨rfl,hw⟩;obtain rfl:=hw.symm));exact⟨rfl,⟨_,rfl⟩,by first|exact cQ (aD _ _ _) _|exact aD _ _ _⟩
 |true=>
  cases fb with
  |false=>
   go_enter Tryz.func162,Tryz.ntmps162;go_wp2_with(first|(go_at_call_of 59 (Value.int .i64 a);refine(C1.out _).mono ?_;rintro e w1 ⟨rfl,hw⟩;obtain rfl:=hw.symm)|(go_at_call_of 59 (Value.int .i64 b);refine(C2.out _).mono ?_;rintro e w1 ⟨rfl,hw⟩;obtain rfl:=hw.symm)|(go_at_call_of 119 (Value.bool true);refine(cB _ _).mono ?_;rintro e w1 ⟨rfl,hw⟩;obtain rfl:=hw.symm)|(go_at_call_of 119 (Value.bool false);refine(cD _ _).mono ?_;rintro e w1 ⟨rfl,hw⟩;obtain rfl:=hw.symm));exact⟨rfl,⟨_,rfl⟩,by first|exact cQ (aD _ _ _) _|exact aD _ _ _⟩
  |true=>
   go_enter Tryz.func162,Tryz.ntmps162;go_wp2_with(first|(go_at_call_of 59 (Value.int .i64 a);refine(C1.out _).mono ?_;rintro e w1 ⟨rfl,hw⟩;obtain rfl:=hw.symm)|(go_at_call_of 59 (Value.int .i64 b);refine(C2.out _).mono ?_;rintro e w1 ⟨rfl,hw⟩;obtain rfl:=hw.symm)|(go_at_call_of 119 (Value.bool true);refine(cB _ _).mono ?_;rintro e w1 ⟨rfl,hw⟩;obtain rfl:=hw.symm)|(go_at_call_of 119 (Value.bool false);refine(cD _ _).mono ?_;rintro e w1 ⟨rfl,hw⟩;obtain rfl:=hw.symm))
   first|go_end0|refine bodyPost_ret (results_none rfl _ _ _) rfl ?_
   exact⟨rfl,by first|exact cQ (aD _ _ _) _|exact aD _ _ _⟩
theorem qC6(a b:Int)(co:Option Addr)(cn cc:Nat)(o s t v:Int)(w:World):
  Calls Tryz.prog 162 #[.agg #[.int .i64 (3),.int .i64 a,.int .i64 b,.slice co cn cc],.agg #[.int .i64 o,.int .i64 s,.int .i64 t,.int .i64 v]] w (cZ w (cF (3) a b cn ⟨o,s,t,v⟩)):=by
 obtain⟨fa,hfa⟩:∃x,x=decide (0≤a∧a<o):=⟨_,rfl⟩;obtain⟨fb,hfb⟩:∃x,x=decide (0≤b∧b<s):=⟨_,rfl⟩;have C1:=hid (uD a o fa hfa);have C2:=hid (uD b s fb hfb);have E:Hid (cF (3) a b cn ⟨o,s,t,v⟩=(fa&&fb)):=hid (by rw[hfa,hfb];simp[cF,tK,uK,bX]);rw[E.out];clear hfa hfb E;cases fa with
 |false=>
  go_enter Tryz.func162,Tryz.ntmps162;go_wp2;go_quiet(fail);go_wp2_with(first|(go_at_call_of 59 (Value.int .i64 a);refine(C1.out _).mono ?_;rintro e w1 ⟨rfl,hw⟩;obtain rfl:=hw.symm)|(go_at_call_of 59 (Value.int .i64 b);refine(C2.out _).mono ?_;rintro e w1 ⟨rfl,hw⟩;obtain rfl:=hw.symm)|(go_at_call_of 119 (Value.bool true);refine(cB _ _).mono ?_;rintro e w1 ⟨rfl,hw⟩;obtain rfl:=hw.symm)|(go_at_call_of 119 (Value.bool false);refine(cD _ _).mono ?_;rintro e w1 ⟨rfl,hw⟩;obtain rfl:=hw.symm));exact⟨rfl,⟨_,rfl⟩,by first|exact cQ (aD _ _ _) _|exact aD _ _ _⟩
 |true=>
  cases fb with
  |false=>
   go_enter Tryz.func162,Tryz.ntmps162;go_wp2;go_quiet(fail);go_wp2_with(first|(go_at_call_of 59 (Value.int .i64 a);refine(C1.out _).mono ?_;rintro e w1 ⟨rfl,hw⟩;obtain rfl:=hw.symm)|(go_at_call_of 59 (Value.int .i64 b);refine(C2.out _).mono ?_;rintro e w1 ⟨rfl,hw⟩;obtain rfl:=hw.symm)|(go_at_call_of 119 (Value.bool true);refine(cB _ _).mono ?_;rintro e w1 ⟨rfl,hw⟩;obtain rfl:=hw.symm)|(go_at_call_of 119 (Value.bool false);refine(cD _ _).mono ?_;rintro e w1 ⟨rfl,hw⟩;obtain rfl:=hw.symm));exact⟨rfl,⟨_,rfl⟩,by first|exact cQ (aD _ _ _) _|exact aD _ _ _⟩
  |true=>
   go_enter Tryz.func162,Tryz.ntmps162;go_wp2;go_quiet(fail);go_wp2_with(first|(go_at_call_of 59 (Value.int .i64 a);refine(C1.out _).mono ?_;rintro e w1 ⟨rfl,hw⟩;obtain rfl:=hw.symm)|(go_at_call_of 59 (Value.int .i64 b);refine(C2.out _).mono ?_;rintro e w1 ⟨rfl,hw⟩;obtain rfl:=hw.symm)|(go_at_call_of 119 (Value.bool true);refine(cB _ _).mono ?_;rintro e w1 ⟨rfl,hw⟩;obtain rfl:=hw.symm)|(go_at_call_of 119 (Value.bool false);refine(cD _ _).mono ?_;rintro e w1 ⟨rfl,hw⟩;obtain rfl:=hw.symm))
   first|go_end0|refine bodyPost_ret (results_none rfl _ _ _) rfl ?_
   exact⟨rfl,by first|exact cQ (aD _ _ _) _|exact aD _ _ _⟩
theorem qC7(a b:Int)(co:Option Addr)(cn cc:Nat)(o s t v:Int)(w:World):
  Calls Tryz.prog 162 #[.agg #[.int .i64 (4),.int .i64 a,.int .i64 b,.slice co cn cc],.agg #[.int .i64 o,.int .i64 s,.int .i64 t,.int .i64 v]] w (cZ w (cF (4) a b cn ⟨o,s,t,v⟩)):=by
 obtain⟨fa,hfa⟩:∃x,x=decide (0≤a∧a<o):=⟨_,rfl⟩;obtain⟨fb,hfb⟩:∃x,x=decide (0≤b∧b<s):=⟨_,rfl⟩;have C1:=hid (uD a o fa hfa);have C2:=hid (uD b s fb hfb);have E:Hid (cF (4) a b cn ⟨o,s,t,v⟩=(fa&&fb)):=hid (by rw[hfa,hfb];simp[cF,tK,uK,bX]);rw[E.out];clear hfa hfb E;cases fa with
 |false=>
  go_enter Tryz.func162,Tryz.ntmps162;go_wp2;go_quiet(fail);go_wp2_with(first|(go_at_call_of 59 (Value.int .i64 a);refine(C1.out _).mono ?_;rintro e w1 ⟨rfl,hw⟩;obtain rfl:=hw.symm)|(go_at_call_of 59 (Value.int .i64 b);refine(C2.out _).mono ?_;rintro e w1 ⟨rfl,hw⟩;obtain rfl:=hw.symm)|(go_at_call_of 119 (Value.bool true);refine(cB _ _).mono ?_;rintro e w1 ⟨rfl,hw⟩;obtain rfl:=hw.symm)|(go_at_call_of 119 (Value.bool false);refine(cD _ _).mono ?_;rintro e w1 ⟨rfl,hw⟩;obtain rfl:=hw.symm));exact⟨rfl,⟨_,rfl⟩,by first|exact cQ (aD _ _ _) _|exact aD _ _ _⟩
 |true=>
  cases fb with
  |false=>
   go_enter Tryz.func162,Tryz.ntmps162;go_wp2;go_quiet(fail);go_wp2_with(first|(go_at_call_of 59 (Value.int .i64 a);refine(C1.out _).mono ?_;rintro e w1 ⟨rfl,hw⟩;obtain rfl:=hw.symm)|(go_at_call_of 59 (Value.int .i64 b);refine(C2.out _).mono ?_;rintro e w1 ⟨rfl,hw⟩;obtain rfl:=hw.symm)|(go_at_call_of 119 (Value.bool true);refine(cB _ _).mono ?_;rintro e w1 ⟨rfl,hw⟩;obtain rfl:=hw.symm)|(go_at_call_of 119 (Value.bool false);refine(cD _ _).mono ?_;rintro e w1 ⟨rfl,hw⟩;obtain rfl:=hw.symm));exact⟨rfl,⟨_,rfl⟩,by first|exact cQ (aD _ _ _) _|exact aD _ _ _⟩
  |true=>
   go_enter Tryz.func162,Tryz.ntmps162;go_wp2;go_quiet(fail);go_wp2_with(first|(go_at_call_of 59 (Value.int .i64 a);refine(C1.out _).mono ?_;rintro e w1 ⟨rfl,hw⟩;obtain rfl:=hw.symm)|(go_at_call_of 59 (Value.int .i64 b);refine(C2.out _).mono ?_;rintro e w1 ⟨rfl,hw⟩;obtain rfl:=hw.symm)|(go_at_call_of 119 (Value.bool true);refine(cB _ _).mono ?_;rintro e w1 ⟨rfl,hw⟩;obtain rfl:=hw.symm)|(go_at_call_of 119 (Value.bool false);refine(cD _ _).mono ?_;rintro e w1 ⟨rfl,hw⟩;obtain rfl:=hw.symm))
   first|go_end0|refine bodyPost_ret (results_none rfl _ _ _) rfl ?_
   exact⟨rfl,by first|exact cQ (aD _ _ _) _|exact aD _ _ _⟩
theorem qC8(a b:Int)(co:Option Addr)(cn cc:Nat)(o s t v:Int)(w:World):
  Calls Tryz.prog 162 #[.agg #[.int .i64 (5),.int .i64 a,.int .i64 b,.slice co cn cc],.agg #[.int .i64 o,.int .i64 s,.int .i64 t,.int .i64 v]] w (cZ w (cF (5) a b cn ⟨o,s,t,v⟩)):=by
 obtain⟨fa,hfa⟩:∃x,x=decide (0≤a∧a<1):=⟨_,rfl⟩;obtain⟨fb,hfb⟩:∃x,x=decide (0≤b∧b<s):=⟨_,rfl⟩;have C1:=hid (uD a 1 fa hfa);have C2:=hid (uD b s fb hfb);have E:Hid (cF (5) a b cn ⟨o,s,t,v⟩=(fa&&fb)):=hid (by rw[hfa,hfb];simp[cF,tK,uK,bX]);rw[E.out];clear hfa hfb E;cases fa with
 |false=>
  go_enter Tryz.func162,Tryz.ntmps162;go_wp2_with(first|(go_at_call_of 59 (Value.int .i64 a);refine(C1.out _).mono ?_;rintro e w1 ⟨rfl,hw⟩;obtain rfl:=hw.symm)|(go_at_call_of 59 (Value.int .i64 b);refine(C2.out _).mono ?_;rintro e w1 ⟨rfl,hw⟩;obtain rfl:=hw.symm)|(go_at_call_of 119 (Value.bool true);refine(cB _ _).mono ?_;rintro e w1 ⟨rfl,hw⟩;obtain rfl:=hw.symm)|(go_at_call_of 119 (Value.bool false);refine(cD _ _).mono ?_;rintro e w1 ⟨rfl,hw⟩;obtain rfl:=hw.symm));exact⟨rfl,⟨_,rfl⟩,by first|exact cQ (aD _ _ _) _|exact aD _ _ _⟩
 |true=>
  cases fb with
  |false=>
   go_enter Tryz.func162,Tryz.ntmps162;go_wp2_with(first|(go_at_call_of 59 (Value.int .i64 a);refine(C1.out _).mono ?_;rintro e w1 ⟨rfl,hw⟩;obtain rfl:=hw.symm)|(go_at_call_of 59 (Value.int .i64 b);refine(C2.out _).mono ?_;rintro e w1 ⟨rfl,hw⟩;obtain rfl:=hw.symm)|(go_at_call_of 119 (Value.bool true);refine(cB _ _).mono ?_;rintro e w1 ⟨rfl,hw⟩;obtain rfl:=hw.symm)|(go_at_call_of 119 (Value.bool false);refine(cD _ _).mono ?_;rintro e w1 ⟨rfl,hw⟩;obtain rfl:=hw.symm));exact⟨rfl,⟨_,rfl⟩,by first|exact cQ (aD _ _ _) _|exact aD _ _ _⟩
  |true=>
   go_enter Tryz.func162,Tryz.ntmps162;go_wp2_with(first|(go_at_call_of 59 (Value.int .i64 a);refine(C1.out _).mono ?_;rintro e w1 ⟨rfl,hw⟩;obtain rfl:=hw.symm)|(go_at_call_of 59 (Value.int .i64 b);refine(C2.out _).mono ?_;rintro e w1 ⟨rfl,hw⟩;obtain rfl:=hw.symm)|(go_at_call_of 119 (Value.bool true);refine(cB _ _).mono ?_;rintro e w1 ⟨rfl,hw⟩;obtain rfl:=hw.symm)|(go_at_call_of 119 (Value.bool false);refine(cD _ _).mono ?_;rintro e w1 ⟨rfl,hw⟩;obtain rfl:=hw.symm))
   first|go_end0|refine bodyPost_ret (results_none rfl _ _ _) rfl ?_
   exact⟨rfl,by first|exact cQ (aD _ _ _) _|exact aD _ _ _⟩
theorem qDB(a b:Int)(co:Option Addr)(cn cc:Nat)(o s t v:Int)(w:World):
  Calls Tryz.prog 162 #[.agg #[.int .i64 (8),.int .i64 a,.int .i64 b,.slice co cn cc],.agg #[.int .i64 o,.int .i64 s,.int .i64 t,.int .i64 v]] w (cZ w (cF (8) a b cn ⟨o,s,t,v⟩)):=by
 obtain⟨fa,hfa⟩:∃x,x=decide (0≤a∧a<t):=⟨_,rfl⟩;obtain⟨fb,hfb⟩:∃x,x=decide (0≤b∧b<1000000000):=⟨_,rfl⟩;have C1:=hid (uD a t fa hfa);have C2:=hid (uD b 1000000000 fb hfb);have E:Hid (cF (8) a b cn ⟨o,s,t,v⟩=(fa&&fb)):=hid (by rw[hfa,hfb];simp[cF,tK,uK,bX]);rw[E.out];clear hfa hfb E;cases fa with
 |false=>
  go_enter Tryz.func162,Tryz.ntmps162;go_wp2_with(first|(go_at_call_of 59 (Value.int .i64 a);refine(C1.out _).mono ?_;rintro e w1 ⟨rfl,hw⟩;obtain rfl:=hw.symm)|(go_at_call_of 59 (Value.int .i64 b);refine(C2.out _).mono ?_;rintro e w1 ⟨rfl,hw⟩;obtain rfl:=hw.symm)|(go_at_call_of 119 (Value.bool true);refine(cB _ _).mono ?_;rintro e w1 ⟨rfl,hw⟩;obtain rfl:=hw.symm)|(go_at_call_of 119 (Value.bool false);refine(cD _ _).mono ?_;rintro e w1 ⟨rfl,hw⟩;obtain rfl:=hw.symm));exact⟨rfl,⟨_,rfl⟩,by first|exact cQ (aD _ _ _) _|exact aD _ _ _⟩
 |true=>
  cases fb with
  |false=>
   go_enter Tryz.func162,Tryz.ntmps162;go_wp2_with(first|(go_at_call_of 59 (Value.int .i64 a);refine(C1.out _).mono ?_;rintro e w1 ⟨rfl,hw⟩;obtain rfl:=hw.symm)|(go_at_call_of 59 (Value.int .i64 b);refine(C2.out _).mono ?_;rintro e w1 ⟨rfl,hw⟩;obtain rfl:=hw.symm)|(go_at_call_of 119 (Value.bool true);refine(cB _ _).mono ?_;rintro e w1 ⟨rfl,hw⟩;obtain rfl:=hw.symm)|(go_at_call_of 119 (Value.bool false);refine(cD _ _).mono ?_;rintro e w1 ⟨rfl,hw⟩;obtain rfl:=hw.symm));exact⟨rfl,⟨_,rfl⟩,by first|exact cQ (aD _ _ _) _|exact aD _ _ _⟩
  |true=>
   go_enter Tryz.func162,Tryz.ntmps162;go_wp2_with(first|(go_at_call_of 59 (Value.int .i64 a);refine(C1.out _).mono ?_;rintro e w1 ⟨rfl,hw⟩;obtain rfl:=hw.symm)|(go_at_call_of 59 (Value.int .i64 b);refine(C2.out _).mono ?_;rintro e w1 ⟨rfl,hw⟩;obtain rfl:=hw.symm)|(go_at_call_of 119 (Value.bool true);refine(cB _ _).mono ?_;rintro e w1 ⟨rfl,hw⟩;obtain rfl:=hw.symm)|(go_at_call_of 119 (Value.bool false);refine(cD _ _).mono ?_;rintro e w1 ⟨rfl,hw⟩;obtain rfl:=hw.symm))
   first|go_end0|refine bodyPost_ret (results_none rfl _ _ _) rfl ?_
   exact⟨rfl,by first|exact cQ (aD _ _ _) _|exact aD _ _ _⟩
theorem qDC(a b:Int)(co:Option Addr)(cn cc:Nat)(o s t v:Int)(w:World):
  Calls Tryz.prog 162 #[.agg #[.int .i64 (9),.int .i64 a,.int .i64 b,.slice co cn cc],.agg #[.int .i64 o,.int .i64 s,.int .i64 t,.int .i64 v]] w (cZ w (cF (9) a b cn ⟨o,s,t,v⟩)):=by
 obtain⟨fa,hfa⟩:∃x,x=decide (0≤a∧a<t):=⟨_,rfl⟩;obtain⟨fb,hfb⟩:∃x,x=decide (0≤b∧b<1):=⟨_,rfl⟩;have C1:=hid (uD a t fa hfa);have C2:=hid (uD b 1 fb hfb);have E:Hid (cF (9) a b cn ⟨o,s,t,v⟩=(fa&&fb&&decide (cn=0))):=hid (by rw[hfa,hfb];simp[cF,tK,uK,bX]);rw[E.out];clear hfa hfb E;cases fa with
 |false=>
  go_enter Tryz.func162,Tryz.ntmps162;go_wp2_with(first|(go_at_call_of 59 (Value.int .i64 a);refine(C1.out _).mono ?_;rintro e w1 ⟨rfl,hw⟩;obtain rfl:=hw.symm)|(go_at_call_of 59 (Value.int .i64 b);refine(C2.out _).mono ?_;rintro e w1 ⟨rfl,hw⟩;obtain rfl:=hw.symm)|(go_at_call_of 119 (Value.bool true);refine(cB _ _).mono ?_;rintro e w1 ⟨rfl,hw⟩;obtain rfl:=hw.symm)|(go_at_call_of 119 (Value.bool false);refine(cD _ _).mono ?_;rintro e w1 ⟨rfl,hw⟩;obtain rfl:=hw.symm));exact⟨rfl,⟨_,rfl⟩,by first|exact cQ (aD _ _ _) _|exact aD _ _ _⟩
 |true=>
  cases fb with
  |false=>
   go_enter Tryz.func162,Tryz.ntmps162;go_wp2_with(first|(go_at_call_of 59 (Value.int .i64 a);refine(C1.out _).mono ?_;rintro e w1 ⟨rfl,hw⟩;obtain rfl:=hw.symm)|(go_at_call_of 59 (Value.int .i64 b);refine(C2.out _).mono ?_;rintro e w1 ⟨rfl,hw⟩;obtain rfl:=hw.symm)|(go_at_call_of 119 (Value.bool true);refine(cB _ _).mono ?_;rintro e w1 ⟨rfl,hw⟩;obtain rfl:=hw.symm)|(go_at_call_of 119 (Value.bool false);refine(cD _ _).mono ?_;rintro e w1 ⟨rfl,hw⟩;obtain rfl:=hw.symm));exact⟨rfl,⟨_,rfl⟩,by first|exact cQ (aD _ _ _) _|exact aD _ _ _⟩
  |true=>
   by_cases hz:cn=0
   ·subst hz
    go_enter Tryz.func162,Tryz.ntmps162;go_wp2_with(first|(go_at_call_of 59 (Value.int .i64 a);refine(C1.out _).mono ?_;rintro e w1 ⟨rfl,hw⟩;obtain rfl:=hw.symm)|(go_at_call_of 59 (Value.int .i64 b);refine(C2.out _).mono ?_;rintro e w1 ⟨rfl,hw⟩;obtain rfl:=hw.symm)|(go_at_call_of 119 (Value.bool true);refine(cB _ _).mono ?_;rintro e w1 ⟨rfl,hw⟩;obtain rfl:=hw.symm)|(go_at_call_of 119 (Value.bool false);refine(cD _ _).mono ?_;rintro e w1 ⟨rfl,hw⟩;obtain rfl:=hw.symm))
    first|go_end0|refine bodyPost_ret (results_none rfl _ _ _) rfl ?_
    exact⟨rfl,by first|exact cQ (aD _ _ _) _|exact aD _ _ _⟩
   ·have hz2:((cn:Int)==0)=false:=by simp;omega
    have E2:Hid ((true&&true&&decide (cn=0))=false):=hid (by simp[hz]);rw[E2.out];clear hz E2;go_enter Tryz.func162,Tryz.ntmps162;go_wp2_with(first|(go_at_call_of 59 (Value.int .i64 a);refine(C1.out _).mono ?_;rintro e w1 ⟨rfl,hw⟩;obtain rfl:=hw.symm)|(go_at_call_of 59 (Value.int .i64 b);refine(C2.out _).mono ?_;rintro e w1 ⟨rfl,hw⟩;obtain rfl:=hw.symm)|(go_at_call_of 119 (Value.bool true);refine(cB _ _).mono ?_;rintro e w1 ⟨rfl,hw⟩;obtain rfl:=hw.symm)|(go_at_call_of 119 (Value.bool false);refine(cD _ _).mono ?_;rintro e w1 ⟨rfl,hw⟩;obtain rfl:=hw.symm));exact⟨rfl,⟨_,rfl⟩,by first|exact cQ (aD _ _ _) _|exact aD _ _ _⟩
theorem qC9(a b:Int)(co:Option Addr)(cn cc:Nat)(o s t v:Int)(w:World):
  Calls Tryz.prog 162 #[.agg #[.int .i64 (6),.int .i64 a,.int .i64 b,.slice co cn cc],.agg #[.int .i64 o,.int .i64 s,.int .i64 t,.int .i64 v]] w (cZ w (cF (6) a b cn ⟨o,s,t,v⟩)):=by
 obtain⟨fa,hfa⟩:∃x,x=decide (0≤a∧a<1):=⟨_,rfl⟩;obtain⟨fb,hfb⟩:∃x,x=decide (0≤b∧b<1):=⟨_,rfl⟩;have C1:=hid (uD a 1 fa hfa);have C2:=hid (uD b 1 fb hfb);have E:Hid (cF (6) a b cn ⟨o,s,t,v⟩=(fa&&fb&&decide (cn=0))):=hid (by rw[hfa,hfb];simp[cF,tK,uK,bX]);rw[E.out];clear hfa hfb E;cases fa with
 |false=>
  go_enter Tryz.func162,Tryz.ntmps162;go_wp2_with(first|(go_at_call_of 59 (Value.int .i64 a);refine(C1.out _).mono ?_;rintro e w1 ⟨rfl,hw⟩;obtain rfl:=hw.symm)|(go_at_call_of 59 (Value.int .i64 b);refine(C2.out _).mono ?_;rintro e w1 ⟨rfl,hw⟩;obtain rfl:=hw.symm)|(go_at_call_of 119 (Value.bool true);refine(cB _ _).mono ?_;rintro e w1 ⟨rfl,hw⟩;obtain rfl:=hw.symm)|(go_at_call_of 119 (Value.bool false);refine(cD _ _).mono ?_;rintro e w1 ⟨rfl,hw⟩;obtain rfl:=hw.symm));exact⟨rfl,⟨_,rfl⟩,by first|exact cQ (aD _ _ _) _|exact aD _ _ _⟩
 |true=>
  cases fb with
  |false=>
   go_enter Tryz.func162,Tryz.ntmps162;go_wp2_with(first|(go_at_call_of 59 (Value.int .i64 a);refine(C1.out _).mono ?_;rintro e w1 ⟨rfl,hw⟩;obtain rfl:=hw.symm)|(go_at_call_of 59 (Value.int .i64 b);refine(C2.out _).mono ?_;rintro e w1 ⟨rfl,hw⟩;obtain rfl:=hw.symm)|(go_at_call_of 119 (Value.bool true);refine(cB _ _).mono ?_;rintro e w1 ⟨rfl,hw⟩;obtain rfl:=hw.symm)|(go_at_call_of 119 (Value.bool false);refine(cD _ _).mono ?_;rintro e w1 ⟨rfl,hw⟩;obtain rfl:=hw.symm));exact⟨rfl,⟨_,rfl⟩,by first|exact cQ (aD _ _ _) _|exact aD _ _ _⟩
  |true=>
   by_cases hz:cn=0
   ·subst hz
    go_enter Tryz.func162,Tryz.ntmps162;go_wp2_with(first|(go_at_call_of 59 (Value.int .i64 a);refine(C1.out _).mono ?_;rintro e w1 ⟨rfl,hw⟩;obtain rfl:=hw.symm)|(go_at_call_of 59 (Value.int .i64 b);refine(C2.out _).mono ?_;rintro e w1 ⟨rfl,hw⟩;obtain rfl:=hw.symm)|(go_at_call_of 119 (Value.bool true);refine(cB _ _).mono ?_;rintro e w1 ⟨rfl,hw⟩;obtain rfl:=hw.symm)|(go_at_call_of 119 (Value.bool false);refine(cD _ _).mono ?_;rintro e w1 ⟨rfl,hw⟩;obtain rfl:=hw.symm))
    first|go_end0|refine bodyPost_ret (results_none rfl _ _ _) rfl ?_
    exact⟨rfl,by first|exact cQ (aD _ _ _) _|exact aD _ _ _⟩
   ·have hz2:((cn:Int)==0)=false:=by simp;omega
    have E2:Hid ((true&&true&&decide (cn=0))=false):=hid (by simp[hz]);rw[E2.out];clear hz E2;go_enter Tryz.func162,Tryz.ntmps162;go_wp2_with(first|(go_at_call_of 59 (Value.int .i64 a);refine(C1.out _).mono ?_;rintro e w1 ⟨rfl,hw⟩;obtain rfl:=hw.symm)|(go_at_call_of 59 (Value.int .i64 b);refine(C2.out _).mono ?_;rintro e w1 ⟨rfl,hw⟩;obtain rfl:=hw.symm)|(go_at_call_of 119 (Value.bool true);refine(cB _ _).mono ?_;rintro e w1 ⟨rfl,hw⟩;obtain rfl:=hw.symm)|(go_at_call_of 119 (Value.bool false);refine(cD _ _).mono ?_;rintro e w1 ⟨rfl,hw⟩;obtain rfl:=hw.symm));exact⟨rfl,⟨_,rfl⟩,by first|exact cQ (aD _ _ _) _|exact aD _ _ _⟩
theorem qDA(a b:Int)(co:Option Addr)(cn cc:Nat)(o s t v:Int)(w:World):
  Calls Tryz.prog 162 #[.agg #[.int .i64 (7),.int .i64 a,.int .i64 b,.slice co cn cc],.agg #[.int .i64 o,.int .i64 s,.int .i64 t,.int .i64 v]] w (cZ w (cF (7) a b cn ⟨o,s,t,v⟩)):=by
 obtain⟨fa,hfa⟩:∃x,x=decide (0≤a∧a<1):=⟨_,rfl⟩;obtain⟨fb,hfb⟩:∃x,x=decide (0≤b∧b<1):=⟨_,rfl⟩;have C1:=hid (uD a 1 fa hfa);have C2:=hid (uD b 1 fb hfb);have E:Hid (cF (7) a b cn ⟨o,s,t,v⟩=(fa&&fb&&decide (cn=0))):=hid (by rw[hfa,hfb];simp[cF,tK,uK,bX]);rw[E.out];clear hfa hfb E;cases fa with
 |false=>
  go_enter Tryz.func162,Tryz.ntmps162;go_wp2_with(first|(go_at_call_of 59 (Value.int .i64 a);refine(C1.out _).mono ?_;rintro e w1 ⟨rfl,hw⟩;obtain rfl:=hw.symm)|(go_at_call_of 59 (Value.int .i64 b);refine(C2.out _).mono ?_;rintro e w1 ⟨rfl,hw⟩;obtain rfl:=hw.symm)|(go_at_call_of 119 (Value.bool true);refine(cB _ _).mono ?_;rintro e w1 ⟨rfl,hw⟩;obtain rfl:=hw.symm)|(go_at_call_of 119 (Value.bool false);refine(cD _ _).mono ?_;rintro e w1 ⟨rfl,hw⟩;obtain rfl:=hw.symm));exact⟨rfl,⟨_,rfl⟩,by first|exact cQ (aD _ _ _) _|exact aD _ _ _⟩
 |true=>
  cases fb with
  |false=>
   go_enter Tryz.func162,Tryz.ntmps162;go_wp2_with(first|(go_at_call_of 59 (Value.int .i64 a);refine(C1.out _).mono ?_;rintro e w1 ⟨rfl,hw⟩;obtain rfl:=hw.symm)|(go_at_call_of 59 (Value.int .i64 b);refine(C2.out _).mono ?_;rintro e w1 ⟨rfl,hw⟩;obtain rfl:=hw.symm)|(go_at_call_of 119 (Value.bool true);refine(cB _ _).mono ?_;rintro e w1 ⟨rfl,hw⟩;obtain rfl:=hw.symm)|(go_at_call_of 119 (Value.bool false);refine(cD _ _).mono ?_;rintro e w1 ⟨rfl,hw⟩;obtain rfl:=hw.symm));exact⟨rfl,⟨_,rfl⟩,by first|exact cQ (aD _ _ _) _|exact aD _ _ _⟩
  |true=>
   by_cases hz:cn=0
   ·subst hz
    go_enter Tryz.func162,Tryz.ntmps162;go_wp2_with(first|(go_at_call_of 59 (Value.int .i64 a);refine(C1.out _).mono ?_;rintro e w1 ⟨rfl,hw⟩;obtain rfl:=hw.symm)|(go_at_call_of 59 (Value.int .i64 b);refine(C2.out _).mono ?_;rintro e w1 ⟨rfl,hw⟩;obtain rfl:=hw.symm)|(go_at_call_of 119 (Value.bool true);refine(cB _ _).mono ?_;rintro e w1 ⟨rfl,hw⟩;obtain rfl:=hw.symm)|(go_at_call_of 119 (Value.bool false);refine(cD _ _).mono ?_;rintro e w1 ⟨rfl,hw⟩;obtain rfl:=hw.symm))
    first|go_end0|refine bodyPost_ret (results_none rfl _ _ _) rfl ?_
    exact⟨rfl,by first|exact cQ (aD _ _ _) _|exact aD _ _ _⟩
   ·have hz2:((cn:Int)==0)=false:=by simp;omega
    have E2:Hid ((true&&true&&decide (cn=0))=false):=hid (by simp[hz]);rw[E2.out];clear hz E2;go_enter Tryz.func162,Tryz.ntmps162;go_wp2_with(first|(go_at_call_of 59 (Value.int .i64 a);refine(C1.out _).mono ?_;rintro e w1 ⟨rfl,hw⟩;obtain rfl:=hw.symm)|(go_at_call_of 59 (Value.int .i64 b);refine(C2.out _).mono ?_;rintro e w1 ⟨rfl,hw⟩;obtain rfl:=hw.symm)|(go_at_call_of 119 (Value.bool true);refine(cB _ _).mono ?_;rintro e w1 ⟨rfl,hw⟩;obtain rfl:=hw.symm)|(go_at_call_of 119 (Value.bool false);refine(cD _ _).mono ?_;rintro e w1 ⟨rfl,hw⟩;obtain rfl:=hw.symm));exact⟨rfl,⟨_,rfl⟩,by first|exact cQ (aD _ _ _) _|exact aD _ _ _⟩
theorem qDD(k a b:Int)(co:Option Addr)(cn cc:Nat)(o s t v:Int)(w:World)(n1:k≠1)(n3:k≠3)(n4:k≠4)(n5:k≠5)(n6:k≠6)(n7:k≠7)(n8:k≠8)(n9:k≠9):
  Calls Tryz.prog 162 #[.agg #[.int .i64 k,.int .i64 a,.int .i64 b,.slice co cn cc],.agg #[.int .i64 o,.int .i64 s,.int .i64 t,.int .i64 v]] w (cZ w (cF k a b cn ⟨o,s,t,v⟩)):=by
 obtain⟨fa,hfa⟩:∃x,x=decide (0≤a∧a<1):=⟨_,rfl⟩;obtain⟨fb,hfb⟩:∃x,x=decide (0≤b∧b<1):=⟨_,rfl⟩;have C1:=hid (uD a 1 fa hfa);have C2:=hid (uD b 1 fb hfb);have E:Hid (cF k a b cn ⟨o,s,t,v⟩=(fa&&fb)):=hid (by rw[hfa,hfb];simp[cF,tK,uK,bX,n1,n3,n4,n5,n6,n7,n8,n9]);have e1:(k==1)=false:=by simpa using n1
 have e3:(k==3)=false:=by simpa using n3
 have e4:(k==4)=false:=by simpa using n4
 have e5:(k==5)=false:=by simpa using n5
 have e6:(k==6)=false:=by simpa using n6
 have e7:(k==7)=false:=by simpa using n7
 have e8:(k==8)=false:=by simpa using n8
 have e9:(k==9)=false:=by simpa using n9
 clear n1 n3 n4 n5 n6 n7 n8 n9;rw[E.out];clear hfa hfb E;cases fa with
 |false=>
  go_enter Tryz.func162,Tryz.ntmps162;go_wp2_with(first|(go_at_call_of 59 (Value.int .i64 a);refine(C1.out _).mono ?_;rintro e w1 ⟨rfl,hw⟩;obtain rfl:=hw.symm)|(go_at_call_of 59 (Value.int .i64 b);refine(C2.out _).mono ?_;rintro e w1 ⟨rfl,hw⟩;obtain rfl:=hw.symm)|(go_at_call_of 119 (Value.bool true);refine(cB _ _).mono ?_;rintro e w1 ⟨rfl,hw⟩;obtain rfl:=hw.symm)|(go_at_call_of 119 (Value.bool false);refine(cD _ _).mono ?_;rintro e w1 ⟨rfl,hw⟩;obtain rfl:=hw.symm));exact⟨rfl,⟨_,rfl⟩,by first|exact cQ (aD _ _ _) _|exact aD _ _ _⟩
 |true=>
  cases fb with
  |false=>
   go_enter Tryz.func162,Tryz.ntmps162;go_wp2_with(first|(go_at_call_of 59 (Value.int .i64 a);refine(C1.out _).mono ?_;rintro e w1 ⟨rfl,hw⟩;obtain rfl:=hw.symm)|(go_at_call_of 59 (Value.int .i64 b);refine(C2.out _).mono ?_;rintro e w1 ⟨rfl,hw⟩;obtain rfl:=hw.symm)|(go_at_call_of 119 (Value.bool true);refine(cB _ _).mono ?_;rintro e w1 ⟨rfl,hw⟩;obtain rfl:=hw.symm)|(go_at_call_of 119 (Value.bool false);refine(cD _ _).mono ?_;rintro e w1 ⟨rfl,hw⟩;obtain rfl:=hw.symm));exact⟨rfl,⟨_,rfl⟩,by first|exact cQ (aD _ _ _) _|exact aD _ _ _⟩
  |true=>
   go_enter Tryz.func162,Tryz.ntmps162;go_wp2_with(first|(go_at_call_of 59 (Value.int .i64 a);refine(C1.out _).mono ?_;rintro e w1 ⟨rfl,hw⟩;obtain rfl:=hw.symm)|(go_at_call_of 59 (Value.int .i64 b);refine(C2.out _).mono ?_;rintro e w1 ⟨rfl,hw⟩;obtain rfl:=hw.symm)|(go_at_call_of 119 (Value.bool true);refine(cB _ _).mono ?_;rintro e w1 ⟨rfl,hw⟩;obtain rfl:=hw.symm)|(go_at_call_of 119 (Value.bool false);refine(cD _ _).mono ?_;rintro e w1 ⟨rfl,hw⟩;obtain rfl:=hw.symm))
   first|go_end0|refine bodyPost_ret (results_none rfl _ _ _) rfl ?_
   exact⟨rfl,by first|exact cQ (aD _ _ _) _|exact aD _ _ _⟩
theorem yY(k a b:Int)(co:Option Addr)(cn cc:Nat)(o s t v:Int)(w:World):
  Calls Tryz.prog 162 #[.agg #[.int .i64 k,.int .i64 a,.int .i64 b,.slice co cn cc],.agg #[.int .i64 o,.int .i64 s,.int .i64 t,.int .i64 v]] w (cZ w (cF k a b cn ⟨o,s,t,v⟩)):=by
 by_cases n1:k=1
 ·subst n1;exact qC5 a b co cn cc o s t v w
 by_cases n3:k=3
 ·subst n3;exact qC6 a b co cn cc o s t v w
 by_cases n4:k=4
 ·subst n4;exact qC7 a b co cn cc o s t v w
 by_cases n5:k=5
 ·subst n5;exact qC8 a b co cn cc o s t v w
 by_cases n6:k=6
 ·subst n6;exact qC9 a b co cn cc o s t v w
 by_cases n7:k=7
 ·subst n7;exact qDA a b co cn cc o s t v w
 by_cases n8:k=8
 ·subst n8;exact qDB a b co cn cc o s t v w
 by_cases n9:k=9
 ·subst n9;exact qDC a b co cn cc o s t v w
 exact qDD k a b co cn cc o s t v w n1 n3 n4 n5 n6 n7 n8 n9
end Go.Proofs.YtiimkhepplkocaaGreat
namespace Go.Proofs.YtiimkhepplkocaaGreat
open Go.RowKit Go.Sort
set_option linter.unusedVariables false
def aN(l:aE)(s:aH):Option Value:=
 if cF s.kind s.a s.b s.code.length l=false then none
 else if s.kind=6 then some (.iface 263 (.agg #[]))else if s.kind=7 then some (.iface 264 (.agg #[]))else if s.kind=9 then some (.iface 266 (.agg #[.int .i64 s.a]))
 else(aV s.code l.v).bind λt=>
  if s.kind=1 then some (.iface 268 (.agg #[.int .i64 s.a,tv t]))else if s.kind=2 then some (.iface 270 (.agg #[tv t]))
  else if s.kind=3 then some (.iface 272 (.agg #[.int .i64 s.a,.int .i64 s.b,tv t]))else if s.kind=4 then some (.iface 273 (.agg #[.int .i64 s.a,.int .i64 s.b,tv t]))
  else if s.kind=5 then some (.iface 275 (.agg #[.int .i64 s.b,tv t]))else if s.kind=8 then some (.iface 277 (.agg #[.int .i64 s.a,.int .i64 s.b,tv t]))else none
def vF(w:World)(r:Option Value)(e:Ending)(w':World):Prop:=
 match r with
 |some v=>e=.returned v∧Below w.heap.size w w'
 |none=>Pan e∧Below w.heap.size w w'
theorem qJX(a b:Int)(co:Option Addr)(cn cc:Nat)(code:List (Int×Int))(o s t v:Int)(w:World)(hn:cn≤9223372036854775807)(hs:ItemsOf w co cn code):
  Calls Tryz.prog 123 #[.agg #[.int .i64 (6),.int .i64 a,.int .i64 b,.slice co cn cc],.agg #[.int .i64 o,.int .i64 s,.int .i64 t,.int .i64 v]] w (vF w (aN ⟨o,s,t,v⟩ ⟨(6),a,b,code⟩)):=by
 have HS:Hid (∀w',Below w.heap.size w w'→ItemsOf w' co cn code):=λw' h=>hs.below h;have EL:Hid (code.length=cn):=hs.1;obtain⟨fb,hfb⟩:∃x,x=cF (6) a b cn ⟨o,s,t,v⟩:=⟨_,rfl⟩;have D:=hid (λw=>yY (6) a b co cn cc o s t v w);rw[←hfb]at D;have R1:=hid (aA (heap_alloc_new w (.cells #[.int .i64 (6),.int .i64 a,.int .i64 b,.slice co cn cc] 210)) (aB _ (.cells #[.int .i64 o,.int .i64 s,.int .i64 t,.int .i64 v] 40)));have Q1:=hid (heap_alloc_new (w.alloc (.cells #[.int .i64 (6),.int .i64 a,.int .i64 b,.slice co cn cc] 210)) (.cells #[.int .i64 o,.int .i64 s,.int .i64 t,.int .i64 v] 40));simp only[World.size_alloc]at Q1;clear hs;cases fb with
 |false=>
  have E:Hid (aN ⟨o,s,t,v⟩ ⟨(6),a,b,code⟩=none):=hid (by simp[aN,EL.out,←hfb]);rw[E.out];unfold cZ at D;simp only at D;clear hfb E;go_enter Tryz.func123,Tryz.ntmps123;go_wp2_with(go_at_call 162;refine(D.out _).mono ?_;rintro e w1 ⟨⟨sx,rfl⟩,hb1⟩;have B1:=hid ((aD _ _ _).trans (hb1.mono (by simp;omega)));clear hb1);exact⟨rfl,⟨_,rfl⟩,B1.out⟩
 |true=>
  unfold cZ at D;simp only at D;have E:Hid (aN ⟨o,s,t,v⟩ ⟨(6),a,b,code⟩=some (.iface 263 (.agg #[]))):=hid (by simp[aN,EL.out,←hfb]);rw[E.out];clear hfb E;go_enter Tryz.func123,Tryz.ntmps123;go_wp2_with(go_at_call 162;refine(D.out _).mono ?_;rintro e w1 ⟨rfl,hb1⟩;have B1:=hid ((aD _ _ _).trans (hb1.mono (by simp;omega)));have R2:=hid (aA R1.out hb1);have Q2:=hid (aA Q1.out hb1);obtain⟨r0,r1,r2,r3⟩:=aC R2.out;obtain⟨q0,q1,q2,q3⟩:=aC Q2.out;clear hb1);go_ret;exact⟨rfl,B1.out⟩
theorem qJY(a b:Int)(co:Option Addr)(cn cc:Nat)(code:List (Int×Int))(o s t v:Int)(w:World)(hn:cn≤9223372036854775807)(hs:ItemsOf w co cn code):
  Calls Tryz.prog 123 #[.agg #[.int .i64 (7),.int .i64 a,.int .i64 b,.slice co cn cc],.agg #[.int .i64 o,.int .i64 s,.int .i64 t,.int .i64 v]] w (vF w (aN ⟨o,s,t,v⟩ ⟨(7),a,b,code⟩)):=by
 have HS:Hid (∀w',Below w.heap.size w w'→ItemsOf w' co cn code):=λw' h=>hs.below h;have EL:Hid (code.length=cn):=hs.1;obtain⟨fb,hfb⟩:∃x,x=cF (7) a b cn ⟨o,s,t,v⟩:=⟨_,rfl⟩;have D:=hid (λw=>yY (7) a b co cn cc o s t v w);rw[←hfb]at D;have R1:=hid (aA (heap_alloc_new w (.cells #[.int .i64 (7),.int .i64 a,.int .i64 b,.slice co cn cc] 210)) (aB _ (.cells #[.int .i64 o,.int .i64 s,.int .i64 t,.int .i64 v] 40)));have Q1:=hid (heap_alloc_new (w.alloc (.cells #[.int .i64 (7),.int .i64 a,.int .i64 b,.slice co cn cc] 210)) (.cells #[.int .i64 o,.int .i64 s,.int .i64 t,.int .i64 v] 40));simp only[World.size_alloc]at Q1;clear hs;cases fb with
 |false=>
  have E:Hid (aN ⟨o,s,t,v⟩ ⟨(7),a,b,code⟩=none):=hid (by simp[aN,EL.out,←hfb]);rw[E.out];unfold cZ at D;simp only at D;clear hfb E;go_enter Tryz.func123,Tryz.ntmps123;go_wp2_with(go_at_call 162;refine(D.out _).mono ?_;rintro e w1 ⟨⟨sx,rfl⟩,hb1⟩;have B1:=hid ((aD _ _ _).trans (hb1.mono (by simp;omega)));clear hb1);exact⟨rfl,⟨_,rfl⟩,B1.out⟩
 |true=>
  unfold cZ at D;simp only at D;have E:Hid (aN ⟨o,s,t,v⟩ ⟨(7),a,b,code⟩=some (.iface 264 (.agg #[]))):=hid (by simp[aN,EL.out,←hfb]);rw[E.out];clear hfb E;go_enter Tryz.func123,Tryz.ntmps123;go_wp2_with(go_at_call 162;refine(D.out _).mono ?_;rintro e w1 ⟨rfl,hb1⟩;have B1:=hid ((aD _ _ _).trans (hb1.mono (by simp;omega)));have R2:=hid (aA R1.out hb1);have Q2:=hid (aA Q1.out hb1);obtain⟨r0,r1,r2,r3⟩:=aC R2.out;obtain⟨q0,q1,q2,q3⟩:=aC Q2.out;clear hb1);go_ret;exact⟨rfl,B1.out⟩
theorem qJ0(a b:Int)(co:Option Addr)(cn cc:Nat)(code:List (Int×Int))(o s t v:Int)(w:World)(hn:cn≤9223372036854775807)(hs:ItemsOf w co cn code):
  Calls Tryz.prog 123 #[.agg #[.int .i64 (9),.int .i64 a,.int .i64 b,.slice co cn cc],.agg #[.int .i64 o,.int .i64 s,.int .i64 t,.int .i64 v]] w (vF w (aN ⟨o,s,t,v⟩ ⟨(9),a,b,code⟩)):=by
 have HS:Hid (∀w',Below w.heap.size w w'→ItemsOf w' co cn code):=λw' h=>hs.below h;have EL:Hid (code.length=cn):=hs.1;obtain⟨fb,hfb⟩:∃x,x=cF (9) a b cn ⟨o,s,t,v⟩:=⟨_,rfl⟩;have D:=hid (λw=>yY (9) a b co cn cc o s t v w);rw[←hfb]at D;have R1:=hid (aA (heap_alloc_new w (.cells #[.int .i64 (9),.int .i64 a,.int .i64 b,.slice co cn cc] 210)) (aB _ (.cells #[.int .i64 o,.int .i64 s,.int .i64 t,.int .i64 v] 40)));have Q1:=hid (heap_alloc_new (w.alloc (.cells #[.int .i64 (9),.int .i64 a,.int .i64 b,.slice co cn cc] 210)) (.cells #[.int .i64 o,.int .i64 s,.int .i64 t,.int .i64 v] 40));simp only[World.size_alloc]at Q1;clear hs;cases fb with
 |false=>
  have E:Hid (aN ⟨o,s,t,v⟩ ⟨(9),a,b,code⟩=none):=hid (by simp[aN,EL.out,←hfb]);rw[E.out];unfold cZ at D;simp only at D;clear hfb E;go_enter Tryz.func123,Tryz.ntmps123;go_wp2_with(go_at_call 162;refine(D.out _).mono ?_;rintro e w1 ⟨⟨sx,rfl⟩,hb1⟩;have B1:=hid ((aD _ _ _).trans (hb1.mono (by simp;omega)));clear hb1);exact⟨rfl,⟨_,rfl⟩,B1.out⟩
 |true=>
  unfold cZ at D;simp only at D;have E:Hid (aN ⟨o,s,t,v⟩ ⟨(9),a,b,code⟩=some (.iface 266 (.agg #[.int .i64 a]))):=hid (by simp[aN,EL.out,←hfb]);rw[E.out];clear hfb E;go_enter Tryz.func123,Tryz.ntmps123;go_wp2_with(go_at_call 162;refine(D.out _).mono ?_;rintro e w1 ⟨rfl,hb1⟩;have B1:=hid ((aD _ _ _).trans (hb1.mono (by simp;omega)));have R2:=hid (aA R1.out hb1);have Q2:=hid (aA Q1.out hb1);obtain⟨r0,r1,r2,r3⟩:=aC R2.out;obtain⟨q0,q1,q2,q3⟩:=aC Q2.out;clear hb1);go_ret;exact⟨rfl,B1.out⟩
theorem qJS(a b:Int)(co:Option Addr)(cn cc:Nat)(code:List (Int×Int))(o s t v:Int)(w:World)(hn:cn≤9223372036854775807)(hs:ItemsOf w co cn code):
  Calls Tryz.prog 123 #[.agg #[.int .i64 (1),.int .i64 a,.int .i64 b,.slice co cn cc],.agg #[.int .i64 o,.int .i64 s,.int .i64 t,.int .i64 v]] w (vF w (aN ⟨o,s,t,v⟩ ⟨(1),a,b,code⟩)):=by
 have HS:Hid (∀w',Below w.heap.size w w'→ItemsOf w' co cn code):=λw' h=>hs.below h;have EL:Hid (code.length=cn):=hs.1;obtain⟨fb,hfb⟩:∃x,x=cF (1) a b cn ⟨o,s,t,v⟩:=⟨_,rfl⟩;have D:=hid (λw=>yY (1) a b co cn cc o s t v w);rw[←hfb]at D;have R1:=hid (aA (heap_alloc_new w (.cells #[.int .i64 (1),.int .i64 a,.int .i64 b,.slice co cn cc] 210)) (aB _ (.cells #[.int .i64 o,.int .i64 s,.int .i64 t,.int .i64 v] 40)));have Q1:=hid (heap_alloc_new (w.alloc (.cells #[.int .i64 (1),.int .i64 a,.int .i64 b,.slice co cn cc] 210)) (.cells #[.int .i64 o,.int .i64 s,.int .i64 t,.int .i64 v] 40));simp only[World.size_alloc]at Q1;clear hs;cases fb with
 |false=>
  have E:Hid (aN ⟨o,s,t,v⟩ ⟨(1),a,b,code⟩=none):=hid (by simp[aN,EL.out,←hfb]);rw[E.out];unfold cZ at D;simp only at D;clear hfb E;go_enter Tryz.func123,Tryz.ntmps123;go_wp2_with(go_at_call 162;refine(D.out _).mono ?_;rintro e w1 ⟨⟨sx,rfl⟩,hb1⟩;have B1:=hid ((aD _ _ _).trans (hb1.mono (by simp;omega)));clear hb1);exact⟨rfl,⟨_,rfl⟩,B1.out⟩
 |true=>
  unfold cZ at D;simp only at D;have L:Hid (∀w',Below w.heap.size w w'→Calls Tryz.prog 64 #[.slice co cn cc,.int .i64 v] w' (dH w' (aV code v))):=λw' h=>yL co cn cc code v w' hn (HS.out w' h);cases hl:aV code v with
  |none=>
   have E:Hid (aN ⟨o,s,t,v⟩ ⟨(1),a,b,code⟩=none):=hid (by simp[aN,EL.out,←hfb,hl]);rw[E.out];rw[hl]at L;unfold dH at L;simp only at L;clear hfb E hl;go_enter Tryz.func123,Tryz.ntmps123;go_wp2_with(first|(go_at_call 162;refine(D.out _).mono ?_;rintro e w1 ⟨rfl,hb1⟩;have B1:=hid ((aD _ _ _).trans (hb1.mono (by simp;omega)));have R2:=hid (aA R1.out hb1);have Q2:=hid (aA Q1.out hb1);obtain⟨r0,r1,r2,r3⟩:=aC R2.out;obtain⟨q0,q1,q2,q3⟩:=aC Q2.out;clear hb1)|(go_at_call 64;refine(L.out _ B1.out).mono ?_;rintro e w2 ⟨⟨sx,rfl⟩,hb2⟩;have B2:=hid (B1.out.trans (hb2.mono B1.out.size));clear hb2));exact⟨rfl,⟨_,rfl⟩,B2.out⟩
  |some tr=>
   obtain⟨y,x,hy⟩:=cL tr;have E:Hid (aN ⟨o,s,t,v⟩ ⟨(1),a,b,code⟩=some (.iface 268 (.agg #[.int .i64 a,.iface y x]))):=hid (by simp[aN,EL.out,←hfb,hl,hy]);rw[E.out];rw[hl]at L;unfold dH at L;simp only[hy]at L;clear hfb E hl hy;go_enter Tryz.func123,Tryz.ntmps123;go_wp2_with(first|(go_at_call 162;refine(D.out _).mono ?_;rintro e w1 ⟨rfl,hb1⟩;have B1:=hid ((aD _ _ _).trans (hb1.mono (by simp;omega)));have R2:=hid (aA R1.out hb1);have Q2:=hid (aA Q1.out hb1);obtain⟨r0,r1,r2,r3⟩:=aC R2.out;obtain⟨q0,q1,q2,q3⟩:=aC Q2.out;clear hb1)|(go_at_call 64;refine(L.out _ B1.out).mono ?_;rintro e w2 ⟨rfl,hb2⟩;have B2:=hid (B1.out.trans (hb2.mono B1.out.size));obtain⟨u0,u1,u2,u3⟩:=aC (aA R2.out hb2);clear hb2));go_ret;exact⟨rfl,B2.out⟩
theorem qJT(a b:Int)(co:Option Addr)(cn cc:Nat)(code:List (Int×Int))(o s t v:Int)(w:World)(hn:cn≤9223372036854775807)(hs:ItemsOf w co cn code):
  Calls Tryz.prog 123 #[.agg #[.int .i64 (2),.int .i64 a,.int .i64 b,.slice co cn cc],.agg #[.int .i64 o,.int .i64 s,.int .i64 t,.int .i64 v]] w (vF w (aN ⟨o,s,t,v⟩ ⟨(2),a,b,code⟩)):=by
 have HS:Hid (∀w',Below w.heap.size w w'→ItemsOf w' co cn code):=λw' h=>hs.below h;have EL:Hid (code.length=cn):=hs.1;obtain⟨fb,hfb⟩:∃x,x=cF (2) a b cn ⟨o,s,t,v⟩:=⟨_,rfl⟩;have D:=hid (λw=>yY (2) a b co cn cc o s t v w);rw[←hfb]at D;have R1:=hid (aA (heap_alloc_new w (.cells #[.int .i64 (2),.int .i64 a,.int .i64 b,.slice co cn cc] 210)) (aB _ (.cells #[.int .i64 o,.int .i64 s,.int .i64 t,.int .i64 v] 40)));have Q1:=hid (heap_alloc_new (w.alloc (.cells #[.int .i64 (2),.int .i64 a,.int .i64 b,.slice co cn cc] 210)) (.cells #[.int .i64 o,.int .i64 s,.int .i64 t,.int .i64 v] 40));simp only[World.size_alloc]at Q1;clear hs;cases fb with
 |false=>
  have E:Hid (aN ⟨o,s,t,v⟩ ⟨(2),a,b,code⟩=none):=hid (by simp[aN,EL.out,←hfb]);rw[E.out];unfold cZ at D;simp only at D;clear hfb E;go_enter Tryz.func123,Tryz.ntmps123;go_wp2_with(go_at_call 162;refine(D.out _).mono ?_;rintro e w1 ⟨⟨sx,rfl⟩,hb1⟩;have B1:=hid ((aD _ _ _).trans (hb1.mono (by simp;omega)));clear hb1);exact⟨rfl,⟨_,rfl⟩,B1.out⟩
 |true=>
  unfold cZ at D;simp only at D;have L:Hid (∀w',Below w.heap.size w w'→Calls Tryz.prog 64 #[.slice co cn cc,.int .i64 v] w' (dH w' (aV code v))):=λw' h=>yL co cn cc code v w' hn (HS.out w' h);cases hl:aV code v with
  |none=>
   have E:Hid (aN ⟨o,s,t,v⟩ ⟨(2),a,b,code⟩=none):=hid (by simp[aN,EL.out,←hfb,hl]);rw[E.out];rw[hl]at L;unfold dH at L;simp only at L;clear hfb E hl;go_enter Tryz.func123,Tryz.ntmps123;go_wp2_with(first|(go_at_call 162;refine(D.out _).mono ?_;rintro e w1 ⟨rfl,hb1⟩;have B1:=hid ((aD _ _ _).trans (hb1.mono (by simp;omega)));have R2:=hid (aA R1.out hb1);have Q2:=hid (aA Q1.out hb1);obtain⟨r0,r1,r2,r3⟩:=aC R2.out;obtain⟨q0,q1,q2,q3⟩:=aC Q2.out;clear hb1)|(go_at_call 64;refine(L.out _ B1.out).mono ?_;rintro e w2 ⟨⟨sx,rfl⟩,hb2⟩;have B2:=hid (B1.out.trans (hb2.mono B1.out.size));clear hb2));exact⟨rfl,⟨_,rfl⟩,B2.out⟩
  |some tr=>
   obtain⟨y,x,hy⟩:=cL tr;have E:Hid (aN ⟨o,s,t,v⟩ ⟨(2),a,b,code⟩=some (.iface 270 (.agg #[.iface y x]))):=hid (by simp[aN,EL.out,←hfb,hl,hy]);rw[E.out];rw[hl]at L;unfold dH at L;simp only[hy]at L;clear hfb E hl hy;go_enter Tryz.func123,Tryz.ntmps123;go_wp2_with(first|(go_at_call 162;refine(D.out _).mono ?_;rintro e w1 ⟨rfl,hb1⟩;have B1:=hid ((aD _ _ _).trans (hb1.mono (by simp;omega)));have R2:=hid (aA R1.out hb1);have Q2:=hid (aA Q1.out hb1);obtain⟨r0,r1,r2,r3⟩:=aC R2.out;obtain⟨q0,q1,q2,q3⟩:=aC Q2.out;clear hb1)|(go_at_call 64;refine(L.out _ B1.out).mono ?_;rintro e w2 ⟨rfl,hb2⟩;have B2:=hid (B1.out.trans (hb2.mono B1.out.size));obtain⟨u0,u1,u2,u3⟩:=aC (aA R2.out hb2);clear hb2));go_ret;exact⟨rfl,B2.out⟩
theorem qJU(a b:Int)(co:Option Addr)(cn cc:Nat)(code:List (Int×Int))(o s t v:Int)(w:World)(hn:cn≤9223372036854775807)(hs:ItemsOf w co cn code):
  Calls Tryz.prog 123 #[.agg #[.int .i64 (3),.int .i64 a,.int .i64 b,.slice co cn cc],.agg #[.int .i64 o,.int .i64 s,.int .i64 t,.int .i64 v]] w (vF w (aN ⟨o,s,t,v⟩ ⟨(3),a,b,code⟩)):=by
 have HS:Hid (∀w',Below w.heap.size w w'→ItemsOf w' co cn code):=λw' h=>hs.below h;have EL:Hid (code.length=cn):=hs.1;obtain⟨fb,hfb⟩:∃x,x=cF (3) a b cn ⟨o,s,t,v⟩:=⟨_,rfl⟩;have D:=hid (λw=>yY (3) a b co cn cc o s t v w);rw[←hfb]at D;have R1:=hid (aA (heap_alloc_new w (.cells #[.int .i64 (3),.int .i64 a,.int .i64 b,.slice co cn cc] 210)) (aB _ (.cells #[.int .i64 o,.int .i64 s,.int .i64 t,.int .i64 v] 40)));have Q1:=hid (heap_alloc_new (w.alloc (.cells #[.int .i64 (3),.int .i64 a,.int .i64 b,.slice co cn cc] 210)) (.cells #[.int .i64 o,.int .i64 s,.int .i64 t,.int .i64 v] 40));simp only[World.size_alloc]at Q1;clear hs;cases fb with
 |false=>
  have E:Hid (aN ⟨o,s,t,v⟩ ⟨(3),a,b,code⟩=none):=hid (by simp[aN,EL.out,←hfb]);rw[E.out];unfold cZ at D;simp only at D;clear hfb E;go_enter Tryz.func123,Tryz.ntmps123;go_wp2_with(go_at_call 162;refine(D.out _).mono ?_;rintro e w1 ⟨⟨sx,rfl⟩,hb1⟩;have B1:=hid ((aD _ _ _).trans (hb1.mono (by simp;omega)));clear hb1);exact⟨rfl,⟨_,rfl⟩,B1.out⟩
 |true=>
  unfold cZ at D;simp only at D;have L:Hid (∀w',Below w.heap.size w w'→Calls Tryz.prog 64 #[.slice co cn cc,.int .i64 v] w' (dH w' (aV code v))):=λw' h=>yL co cn cc code v w' hn (HS.out w' h);cases hl:aV code v with
  |none=>
   have E:Hid (aN ⟨o,s,t,v⟩ ⟨(3),a,b,code⟩=none):=hid (by simp[aN,EL.out,←hfb,hl]);rw[E.out];rw[hl]at L;unfold dH at L;simp only at L;clear hfb E hl;go_enter Tryz.func123,Tryz.ntmps123;go_wp2_with(first|(go_at_call 162;refine(D.out _).mono ?_;rintro e w1 ⟨rfl,hb1⟩;have B1:=hid ((aD _ _ _).trans (hb1.mono (by simp;omega)));have R2:=hid (aA R1.out hb1);have Q2:=hid (aA Q1.out hb1);obtain⟨r0,r1,r2,r3⟩:=aC R2.out;obtain⟨q0,q1,q2,q3⟩:=aC Q2.out;clear hb1)|(go_at_call 64;refine(L.out _ B1.out).mono ?_;rintro e w2 ⟨⟨sx,rfl⟩,hb2⟩;have B2:=hid (B1.out.trans (hb2.mono B1.out.size));clear hb2));exact⟨rfl,⟨_,rfl⟩,B2.out⟩
  |some tr=>
   obtain⟨y,x,hy⟩:=cL tr;have E:Hid (aN ⟨o,s,t,v⟩ ⟨(3),a,b,code⟩=some (.iface 272 (.agg #[.int .i64 a,.int .i64 b,.iface y x]))):=hid (by simp[aN,EL.out,←hfb,hl,hy]);rw[E.out];rw[hl]at L;unfold dH at L;simp only[hy]at L;clear hfb E hl hy;go_enter Tryz.func123,Tryz.ntmps123;go_wp2_with(first|(go_at_call 162;refine(D.out _).mono ?_;rintro e w1 ⟨rfl,hb1⟩;have B1:=hid ((aD _ _ _).trans (hb1.mono (by simp;omega)));have R2:=hid (aA R1.out hb1);have Q2:=hid (aA Q1.out hb1);obtain⟨r0,r1,r2,r3⟩:=aC R2.out;obtain⟨q0,q1,q2,q3⟩:=aC Q2.out;clear hb1)|(go_at_call 64;refine(L.out _ B1.out).mono ?_;rintro e w2 ⟨rfl,hb2⟩;have B2:=hid (B1.out.trans (hb2.mono B1.out.size));obtain⟨u0,u1,u2,u3⟩:=aC (aA R2.out hb2);clear hb2));go_ret;exact⟨rfl,B2.out⟩
theorem qJV(a b:Int)(co:Option Addr)(cn cc:Nat)(code:List (Int×Int))(o s t v:Int)(w:World)(hn:cn≤9223372036854775807)(hs:ItemsOf w co cn code):
  Calls Tryz.prog 123 #[.agg #[.int .i64 (4),.int .i64 a,.int .i64 b,.slice co cn cc],.agg #[.int .i64 o,.int .i64 s,.int .i64 t,.int .i64 v]] w (vF w (aN ⟨o,s,t,v⟩ ⟨(4),a,b,code⟩)):=by
 have HS:Hid (∀w',Below w.heap.size w w'→ItemsOf w' co cn code):=λw' h=>hs.below h;have EL:Hid (code.length=cn):=hs.1;obtain⟨fb,hfb⟩:∃x,x=cF (4) a b cn ⟨o,s,t,v⟩:=⟨_,rfl⟩;have D:=hid (λw=>yY (4) a b co cn cc o s t v w);rw[←hfb]at D;have R1:=hid (aA (heap_alloc_new w (.cells #[.int .i64 (4),.int .i64 a,.int .i64 b,.slice co cn cc] 210)) (aB _ (.cells #[.int .i64 o,.int .i64 s,.int .i64 t,.int .i64 v] 40)));have Q1:=hid (heap_alloc_new (w.alloc (.cells #[.int .i64 (4),.int .i64 a,.int .i64 b,.slice co cn cc] 210)) (.cells #[.int .i64 o,.int .i64 s,.int .i64 t,.int .i64 v] 40));simp only[World.size_alloc]at Q1;clear hs;cases fb with
 |false=>
  have E:Hid (aN ⟨o,s,t,v⟩ ⟨(4),a,b,code⟩=none):=hid (by simp[aN,EL.out,←hfb]);rw[E.out];unfold cZ at D;simp only at D;clear hfb E;go_enter Tryz.func123,Tryz.ntmps123;go_wp2_with(go_at_call 162;refine(D.out _).mono ?_;rintro e w1 ⟨⟨sx,rfl⟩,hb1⟩;have B1:=hid ((aD _ _ _).trans (hb1.mono (by simp;omega)));clear hb1);exact⟨rfl,⟨_,rfl⟩,B1.out⟩
 |true=>
  unfold cZ at D;simp only at D;have L:Hid (∀w',Below w.heap.size w w'→Calls Tryz.prog 64 #[.slice co cn cc,.int .i64 v] w' (dH w' (aV code v))):=λw' h=>yL co cn cc code v w' hn (HS.out w' h);cases hl:aV code v with
  |none=>
   have E:Hid (aN ⟨o,s,t,v⟩ ⟨(4),a,b,code⟩=none):=hid (by simp[aN,EL.out,←hfb,hl]);rw[E.out];rw[hl]at L;unfold dH at L;simp only at L;clear hfb E hl;go_enter Tryz.func123,Tryz.ntmps123;go_wp2_with(first|(go_at_call 162;refine(D.out _).mono ?_;rintro e w1 ⟨rfl,hb1⟩;have B1:=hid ((aD _ _ _).trans (hb1.mono (by simp;omega)));have R2:=hid (aA R1.out hb1);have Q2:=hid (aA Q1.out hb1);obtain⟨r0,r1,r2,r3⟩:=aC R2.out;obtain⟨q0,q1,q2,q3⟩:=aC Q2.out;clear hb1)|(go_at_call 64;refine(L.out _ B1.out).mono ?_;rintro e w2 ⟨⟨sx,rfl⟩,hb2⟩;have B2:=hid (B1.out.trans (hb2.mono B1.out.size));clear hb2));exact⟨rfl,⟨_,rfl⟩,B2.out⟩
  |some tr=>
   obtain⟨y,x,hy⟩:=cL tr;have E:Hid (aN ⟨o,s,t,v⟩ ⟨(4),a,b,code⟩=some (.iface 273 (.agg #[.int .i64 a,.int .i64 b,.iface y x]))):=hid (by simp[aN,EL.out,←hfb,hl,hy]);rw[E.out];rw[hl]at L;unfold dH at L;simp only[hy]at L;clear hfb E hl hy;go_enter Tryz.func123,Tryz.ntmps123;go_wp2_with(first|(go_at_call 162;refine(D.out _).mono ?_;rintro e w1 ⟨rfl,hb1⟩;have B1:=hid ((aD _ _ _).trans (hb1.mono (by simp;omega)));have R2:=hid (aA R1.out hb1);have Q2:=hid (aA Q1.out hb1);obtain⟨r0,r1,r2,r3⟩:=aC R2.out;obtain⟨q0,q1,q2,q3⟩:=aC Q2.out;clear hb1)|(go_at_call 64;refine(L.out _ B1.out).mono ?_;rintro e w2 ⟨rfl,hb2⟩;have B2:=hid (B1.out.trans (hb2.mono B1.out.size));obtain⟨u0,u1,u2,u3⟩:=aC (aA R2.out hb2);clear hb2));go_ret;exact⟨rfl,B2.out⟩
theorem qJW(a b:Int)(co:Option Addr)(cn cc:Nat)(code:List (Int×Int))(o s t v:Int)(w:World)(hn:cn≤9223372036854775807)(hs:ItemsOf w co cn code):
  Calls Tryz.prog 123 #[.agg #[.int .i64 (5),.int .i64 a,.int .i64 b,.slice co cn cc],.agg #[.int .i64 o,.int .i64 s,.int .i64 t,.int .i64 v]] w (vF w (aN ⟨o,s,t,v⟩ ⟨(5),a,b,code⟩)):=by
 have HS:Hid (∀w',Below w.heap.size w w'→ItemsOf w' co cn code):=λw' h=>hs.below h;have EL:Hid (code.length=cn):=hs.1;obtain⟨fb,hfb⟩:∃x,x=cF (5) a b cn ⟨o,s,t,v⟩:=⟨_,rfl⟩;have D:=hid (λw=>yY (5) a b co cn cc o s t v w);rw[←hfb]at D;have R1:=hid (aA (heap_alloc_new w (.cells #[.int .i64 (5),.int .i64 a,.int .i64 b,.slice co cn cc] 210)) (aB _ (.cells #[.int .i64 o,.int .i64 s,.int .i64 t,.int .i64 v] 40)));have Q1:=hid (heap_alloc_new (w.alloc (.cells #[.int .i64 (5),.int .i64 a,.int .i64 b,.slice co cn cc] 210)) (.cells #[.int .i64 o,.int .i64 s,.int .i64 t,.int .i64 v] 40));simp only[World.size_alloc]at Q1;clear hs;cases fb with
 |false=>
  have E:Hid (aN ⟨o,s,t,v⟩ ⟨(5),a,b,code⟩=none):=hid (by simp[aN,EL.out,←hfb]);rw[E.out];unfold cZ at D;simp only at D;clear hfb E;go_enter Tryz.func123,Tryz.ntmps123;go_wp2_with(go_at_call 162;refine(D.out _).mono ?_;rintro e w1 ⟨⟨sx,rfl⟩,hb1⟩;have B1:=hid ((aD _ _ _).trans (hb1.mono (by simp;omega)));clear hb1);exact⟨rfl,⟨_,rfl⟩,B1.out⟩
 |true=>
  unfold cZ at D;simp only at D;have L:Hid (∀w',Below w.heap.size w w'→Calls Tryz.prog 64 #[.slice co cn cc,.int .i64 v] w' (dH w' (aV code v))):=λw' h=>yL co cn cc code v w' hn (HS.out w' h);cases hl:aV code v with
  |none=>
   have E:Hid (aN ⟨o,s,t,v⟩ ⟨(5),a,b,code⟩=none):=hid (by simp[aN,EL.out,←hfb,hl]);rw[E.out];rw[hl]at L;unfold dH at L;simp only at L;clear hfb E hl;go_enter Tryz.func123,Tryz.ntmps123;go_wp2_with(first|(go_at_call 162;refine(D.out _).mono ?_;rintro e w1 ⟨rfl,hb1⟩;have B1:=hid ((aD _ _ _).trans (hb1.mono (by simp;omega)));have R2:=hid (aA R1.out hb1);have Q2:=hid (aA Q1.out hb1);obtain⟨r0,r1,r2,r3⟩:=aC R2.out;obtain⟨q0,q1,q2,q3⟩:=aC Q2.out;clear hb1)|(go_at_call 64;refine(L.out _ B1.out).mono ?_;rintro e w2 ⟨⟨sx,rfl⟩,hb2⟩;have B2:=hid (B1.out.trans (hb2.mono B1.out.size));clear hb2));exact⟨rfl,⟨_,rfl⟩,B2.out⟩
  |some tr=>
   obtain⟨y,x,hy⟩:=cL tr;have E:Hid (aN ⟨o,s,t,v⟩ ⟨(5),a,b,code⟩=some (.iface 275 (.agg #[.int .i64 b,.iface y x]))):=hid (by simp[aN,EL.out,←hfb,hl,hy]);rw[E.out];rw[hl]at L;unfold dH at L;simp only[hy]at L;clear hfb E hl hy;go_enter Tryz.func123,Tryz.ntmps123;go_wp2_with(first|(go_at_call 162;refine(D.out _).mono ?_;rintro e w1 ⟨rfl,hb1⟩;have B1:=hid ((aD _ _ _).trans (hb1.mono (by simp;omega)));have R2:=hid (aA R1.out hb1);have Q2:=hid (aA Q1.out hb1);obtain⟨r0,r1,r2,r3⟩:=aC R2.out;obtain⟨q0,q1,q2,q3⟩:=aC Q2.out;clear hb1)|(go_at_call 64;refine(L.out _ B1.out).mono ?_;rintro e w2 ⟨rfl,hb2⟩;have B2:=hid (B1.out.trans (hb2.mono B1.out.size));obtain⟨u0,u1,u2,u3⟩:=aC (aA R2.out hb2);clear hb2));go_ret;exact⟨rfl,B2.out⟩
theorem qJZ(a b:Int)(co:Option Addr)(cn cc:Nat)(code:List (Int×Int))(o s t v:Int)(w:World)(hn:cn≤9223372036854775807)(hs:ItemsOf w co cn code):
  Calls Tryz.prog 123 #[.agg #[.int .i64 (8),.int .i64 a,.int .i64 b,.slice co cn cc],.agg #[.int .i64 o,.int .i64 s,.int .i64 t,.int .i64 v]] w (vF w (aN ⟨o,s,t,v⟩ ⟨(8),a,b,code⟩)):=by
 have HS:Hid (∀w',Below w.heap.size w w'→ItemsOf w' co cn code):=λw' h=>hs.below h;have EL:Hid (code.length=cn):=hs.1;obtain⟨fb,hfb⟩:∃x,x=cF (8) a b cn ⟨o,s,t,v⟩:=⟨_,rfl⟩;have D:=hid (λw=>yY (8) a b co cn cc o s t v w);rw[←hfb]at D;have R1:=hid (aA (heap_alloc_new w (.cells #[.int .i64 (8),.int .i64 a,.int .i64 b,.slice co cn cc] 210)) (aB _ (.cells #[.int .i64 o,.int .i64 s,.int .i64 t,.int .i64 v] 40)));have Q1:=hid (heap_alloc_new (w.alloc (.cells #[.int .i64 (8),.int .i64 a,.int .i64 b,.slice co cn cc] 210)) (.cells #[.int .i64 o,.int .i64 s,.int .i64 t,.int .i64 v] 40));simp only[World.size_alloc]at Q1;clear hs;cases fb with
 |false=>
  have E:Hid (aN ⟨o,s,t,v⟩ ⟨(8),a,b,code⟩=none):=hid (by simp[aN,EL.out,←hfb]);rw[E.out];unfold cZ at D;simp only at D;clear hfb E;go_enter Tryz.func123,Tryz.ntmps123;go_wp2_with(go_at_call 162;refine(D.out _).mono ?_;rintro e w1 ⟨⟨sx,rfl⟩,hb1⟩;have B1:=hid ((aD _ _ _).trans (hb1.mono (by simp;omega)));clear hb1);exact⟨rfl,⟨_,rfl⟩,B1.out⟩
 |true=>
  unfold cZ at D;simp only at D;have L:Hid (∀w',Below w.heap.size w w'→Calls Tryz.prog 64 #[.slice co cn cc,.int .i64 v] w' (dH w' (aV code v))):=λw' h=>yL co cn cc code v w' hn (HS.out w' h);cases hl:aV code v with
  |none=>
   have E:Hid (aN ⟨o,s,t,v⟩ ⟨(8),a,b,code⟩=none):=hid (by simp[aN,EL.out,←hfb,hl]);rw[E.out];rw[hl]at L;unfold dH at L;simp only at L;clear hfb E hl;go_enter Tryz.func123,Tryz.ntmps123;go_wp2_with(first|(go_at_call 162;refine(D.out _).mono ?_;rintro e w1 ⟨rfl,hb1⟩;have B1:=hid ((aD _ _ _).trans (hb1.mono (by simp;omega)));have R2:=hid (aA R1.out hb1);have Q2:=hid (aA Q1.out hb1);obtain⟨r0,r1,r2,r3⟩:=aC R2.out;obtain⟨q0,q1,q2,q3⟩:=aC Q2.out;clear hb1)|(go_at_call 64;refine(L.out _ B1.out).mono ?_;rintro e w2 ⟨⟨sx,rfl⟩,hb2⟩;have B2:=hid (B1.out.trans (hb2.mono B1.out.size));clear hb2));exact⟨rfl,⟨_,rfl⟩,B2.out⟩
  |some tr=>
   obtain⟨y,x,hy⟩:=cL tr;have E:Hid (aN ⟨o,s,t,v⟩ ⟨(8),a,b,code⟩=some (.iface 277 (.agg #[.int .i64 a,.int .i64 b,.iface y x]))):=hid (by simp[aN,EL.out,←hfb,hl,hy]);rw[E.out];rw[hl]at L;unfold dH at L;simp only[hy]at L;clear hfb E hl hy;go_enter Tryz.func123,Tryz.ntmps123;go_wp2_with(first|(go_at_call 162;refine(D.out _).mono ?_;rintro e w1 ⟨rfl,hb1⟩;have B1:=hid ((aD _ _ _).trans (hb1.mono (by simp;omega)));have R2:=hid (aA R1.out hb1);have Q2:=hid (aA Q1.out hb1);obtain⟨r0,r1,r2,r3⟩:=aC R2.out;obtain⟨q0,q1,q2,q3⟩:=aC Q2.out;clear hb1)|(go_at_call 64;refine(L.out _ B1.out).mono ?_;rintro e w2 ⟨rfl,hb2⟩;have B2:=hid (B1.out.trans (hb2.mono B1.out.size));obtain⟨u0,u1,u2,u3⟩:=aC (aA R2.out hb2);clear hb2));go_ret;exact⟨rfl,B2.out⟩
theorem qJ3(k a b:Int)(co:Option Addr)(cn cc:Nat)(code:List (Int×Int))(o s t v:Int)(w:World)(hn:cn≤9223372036854775807)(hs:ItemsOf w co cn code)(n1:k≠1)(n2:k≠2)(n3:k≠3)(n4:k≠4)(n5:k≠5)(n6:k≠6)(n7:k≠7)(n8:k≠8)(n9:k≠9):
  Calls Tryz.prog 123 #[.agg #[.int .i64 k,.int .i64 a,.int .i64 b,.slice co cn cc],.agg #[.int .i64 o,.int .i64 s,.int .i64 t,.int .i64 v]] w (vF w (aN ⟨o,s,t,v⟩ ⟨k,a,b,code⟩)):=by
 have HS:Hid (∀w',Below w.heap.size w w'→ItemsOf w' co cn code):=λw' h=>hs.below h;have EL:Hid (code.length=cn):=hs.1;obtain⟨fb,hfb⟩:∃x,x=cF k a b cn ⟨o,s,t,v⟩:=⟨_,rfl⟩;have D:=hid (λw=>yY k a b co cn cc o s t v w);rw[←hfb]at D;have R1:=hid (aA (heap_alloc_new w (.cells #[.int .i64 k,.int .i64 a,.int .i64 b,.slice co cn cc] 210)) (aB _ (.cells #[.int .i64 o,.int .i64 s,.int .i64 t,.int .i64 v] 40)));have Q1:=hid (heap_alloc_new (w.alloc (.cells #[.int .i64 k,.int .i64 a,.int .i64 b,.slice co cn cc] 210)) (.cells #[.int .i64 o,.int .i64 s,.int .i64 t,.int .i64 v] 40));simp only[World.size_alloc]at Q1;clear hs;have e1:(k==1)=false:=by simpa using n1
 have e2:(k==2)=false:=by simpa using n2
 have e3:(k==3)=false:=by simpa using n3
 have e4:(k==4)=false:=by simpa using n4
 have e5:(k==5)=false:=by simpa using n5
 have e6:(k==6)=false:=by simpa using n6
 have e7:(k==7)=false:=by simpa using n7
 have e8:(k==8)=false:=by simpa using n8
 have e9:(k==9)=false:=by simpa using n9
 cases fb with
 |false=>
  have E:Hid (aN ⟨o,s,t,v⟩ ⟨k,a,b,code⟩=none):=hid (by simp[aN,EL.out,←hfb]);rw[E.out];unfold cZ at D;simp only at D;clear hfb E;clear n1 n2 n3 n4 n5 n6 n7 n8 n9;go_enter Tryz.func123,Tryz.ntmps123;go_wp2_with(go_at_call 162;refine(D.out _).mono ?_;rintro e w1 ⟨⟨sx,rfl⟩,hb1⟩;have B1:=hid ((aD _ _ _).trans (hb1.mono (by simp;omega)));clear hb1);exact⟨rfl,⟨_,rfl⟩,B1.out⟩
 |true=>
  unfold cZ at D;simp only at D;have L:Hid (∀w',Below w.heap.size w w'→Calls Tryz.prog 64 #[.slice co cn cc,.int .i64 v] w' (dH w' (aV code v))):=λw' h=>yL co cn cc code v w' hn (HS.out w' h);cases hl:aV code v with
  |none=>
   have E:Hid (aN ⟨o,s,t,v⟩ ⟨k,a,b,code⟩=none):=hid (by simp[aN,EL.out,←hfb,hl,n1,n2,n3,n4,n5,n6,n7,n8,n9]);rw[E.out];rw[hl]at L;unfold dH at L;simp only at L;clear hfb E hl;clear n1 n2 n3 n4 n5 n6 n7 n8 n9;go_enter Tryz.func123,Tryz.ntmps123;go_wp2_with(first|(go_at_call 162;refine(D.out _).mono ?_;rintro e w1 ⟨rfl,hb1⟩;have B1:=hid ((aD _ _ _).trans (hb1.mono (by simp;omega)));have R2:=hid (aA R1.out hb1);have Q2:=hid (aA Q1.out hb1);obtain⟨r0,r1,r2,r3⟩:=aC R2.out;obtain⟨q0,q1,q2,q3⟩:=aC Q2.out;clear hb1)|(go_at_call 64;refine(L.out _ B1.out).mono ?_;rintro e w2 ⟨⟨sx,rfl⟩,hb2⟩;have B2:=hid (B1.out.trans (hb2.mono B1.out.size));clear hb2));exact⟨rfl,⟨_,rfl⟩,B2.out⟩
  |some tr=>
   obtain⟨y,x,hy⟩:=cL tr;have E:Hid (aN ⟨o,s,t,v⟩ ⟨k,a,b,code⟩=none):=hid (by simp[aN,EL.out,←hfb,hl,n1,n2,n3,n4,n5,n6,n7,n8,n9]);rw[E.out];rw[hl]at L;unfold dH at L;simp only[hy]at L;clear hfb E hl hy;clear n1 n2 n3 n4 n5 n6 n7 n8 n9;go_enter Tryz.func123,Tryz.ntmps123;go_wp2_with(first|(go_at_call 162;refine(D.out _).mono ?_;rintro e w1 ⟨rfl,hb1⟩;have B1:=hid ((aD _ _ _).trans (hb1.mono (by simp;omega)));have R2:=hid (aA R1.out hb1);have Q2:=hid (aA Q1.out hb1);obtain⟨r0,r1,r2,r3⟩:=aC R2.out;obtain⟨q0,q1,q2,q3⟩:=aC Q2.out;clear hb1)|(go_at_call 64;refine(L.out _ B1.out).mono ?_;rintro e w2 ⟨rfl,hb2⟩;have B2:=hid (B1.out.trans (hb2.mono B1.out.size));obtain⟨u0,u1,u2,u3⟩:=aC (aA R2.out hb2);clear hb2));exact⟨rfl,⟨_,rfl⟩,B2.out⟩
theorem qGF(k a b:Int)(co:Option Addr)(cn cc:Nat)(code:List (Int×Int))(o s t v:Int)(w:World)(hn:cn≤9223372036854775807)(hs:ItemsOf w co cn code):
  Calls Tryz.prog 123 #[.agg #[.int .i64 k,.int .i64 a,.int .i64 b,.slice co cn cc],.agg #[.int .i64 o,.int .i64 s,.int .i64 t,.int .i64 v]] w (vF w (aN ⟨o,s,t,v⟩ ⟨k,a,b,code⟩)):=by
 by_cases n1:k=1
 ·subst n1;exact qJS a b co cn cc code o s t v w hn hs
 by_cases n2:k=2
 ·subst n2;exact qJT a b co cn cc code o s t v w hn hs
 by_cases n3:k=3
 ·subst n3;exact qJU a b co cn cc code o s t v w hn hs
 by_cases n4:k=4
 ·subst n4;exact qJV a b co cn cc code o s t v w hn hs
 by_cases n5:k=5
 ·subst n5;exact qJW a b co cn cc code o s t v w hn hs
 by_cases n6:k=6
 ·subst n6;exact qJX a b co cn cc code o s t v w hn hs
 by_cases n7:k=7
 ·subst n7;exact qJY a b co cn cc code o s t v w hn hs
 by_cases n8:k=8
 ·subst n8;exact qJZ a b co cn cc code o s t v w hn hs
 by_cases n9:k=9
 ·subst n9;exact qJ0 a b co cn cc code o s t v w hn hs
 exact qJ3 k a b co cn cc code o s t v w hn hs n1 n2 n3 n4 n5 n6 n7 n8 n9
end Go.Proofs.YtiimkhepplkocaaGreat
namespace Go.Proofs.YtiimkhepplkocaaGreat
open Go.RowKit Go.Sort
theorem qG3{l:aE}{s:aH}{v:Value}(h:aN l s=some v):∃y x,v=.iface y x:=by
 unfold aN at h;split at h
 ·cases h
 split at h
 ·cases h;exact⟨_,_,rfl⟩
 split at h
 ·cases h;exact⟨_,_,rfl⟩
 split at h
 ·cases h;exact⟨_,_,rfl⟩
 cases hl:aV s.code l.v with
 |none=>rw[hl]at h;cases h
 |some t=>
  rw[hl]at h;simp only[Option.bind_some]at h
  repeat(split at h;(cases h;exact⟨_,_,rfl⟩))
  cases h
def cT(l:aE):List aH→Option (List Value)
 |[]=>some []
 |s::r=>(aN l s).bind λv=>(cT l r).map (v:: ·)
theorem qx4(l:aE)(a b:List aH):cT l (a++b)=(cT l a).bind λx=>(cT l b).map (x++ ·):=by
 induction a with
 |nil=>simp[cT]
 |cons s a ih=>
  simp only[List.cons_append,cT,ih];cases aN l s with
  |none=>rfl
  |some v=>
   simp only[Option.bind_some];cases cT l a with
   |none=>rfl
   |some x=>
    simp only[Option.bind_some,Option.map_some];cases cT l b<;>rfl
def dJ(l:aE)(ss:List aH):Option (List Value):=if cO l∧ss.length≤50 then cT l ss else none
def qc8(w:World)(r:Option (List Value))(e:Ending)(w':World):Prop:=
 match r with
 |some vs=>(∃val,e=.returned val∧w'.ownsRow (w.heap.size+1) 212 1 val vs.length vs)∧Below w.heap.size w w'
 |none=>Pan e∧Below w.heap.size w w'
theorem Tryz.info212:(Tryz.prog.info? 212).map (λi=>(i.zero,i.size,i.bytes))=some (some .nilIface,1,16):=by kernel_rfl
theorem qI8{ss:List aH}{k:Nat}(h:k<ss.length):ss=ss.take k++ss.getD k dC::ss.drop (k+1):=by
 have e:ss.getD k dC=ss[k]:=by simp[List.getD_eq_getElem?_getD,List.getElem?_eq_getElem h]
 rw[e];simp
theorem qy2{ss:List aH}{k:Nat}(h:k<ss.length):ss.take (k+1)=ss.take k++[ss.getD k dC]:=by
 have e:ss.getD k dC=ss[k]:=by simp[List.getD_eq_getElem?_getD,List.getElem?_eq_getElem h]
 rw[e,List.take_succ_eq_append_getElem h]
theorem qjK(ao:Option Addr)(n c:Nat)(ss:List aH)(o s t v:Int)(w:World)(hn:n≤9223372036854775807)(hs:StmsOf w ao n ss):
  Calls Tryz.prog 66 #[.slice ao n c,.agg #[.int .i64 o,.int .i64 s,.int .i64 t,.int .i64 v]] w (qc8 w (dJ ⟨o,s,t,v⟩ ss)):=by
 have HL:=hid hs.1;obtain⟨lb,hlb⟩:∃lb,lb=bC ⟨o,s,t,v⟩:=⟨_,rfl⟩;have CL:Hid (∀w,Calls Tryz.prog 122 #[.agg #[.int .i64 o,.int .i64 s,.int .i64 t,.int .i64 v]] w λe w'=>e=.returned (.bool lb)∧Below w.heap.size w w'):=λw=>by rw[hlb];exact qxS o s t v w
 cases lb with
 |false=>
  have E:Hid (dJ ⟨o,s,t,v⟩ ss=none):=hid (by unfold dJ;rw[if_neg];intro h;rw[show bC ⟨o,s,t,v⟩=true from decide_eq_true h.1]at hlb;cases hlb);rw[E.out];clear hs hlb;go_enter Tryz.func66,Tryz.ntmps66;go_wp2_with(first|(go_at_call 122;refine(CL.out _).mono ?_;rintro e w1 ⟨rfl,hb⟩;have HB:=hid hb;clear hb)|(go_at_call 119;refine(cD _ _).mono ?_;rintro e w2 ⟨rfl,hw⟩;obtain rfl:=hw.symm));exact⟨rfl,⟨_,rfl⟩,(aB _ _).trans (HB.out.mono (by simp))⟩
 |true=>
  have hlim:cO ⟨o,s,t,v⟩:=by have:=hlb.symm;unfold bC at this;exact of_decide_eq_true this
  clear hlb;by_cases h50:n≤50
  ·have i50:(n:Int)≤50:=by omega
   have EA:Hid (dJ ⟨o,s,t,v⟩ ss=cT ⟨o,s,t,v⟩ ss):=hid (by unfold dJ;rw[if_pos ⟨hlim,by rw[HL.out];exact h50⟩]);obtain⟨i0,hi,hz0,hz1,hz2⟩:=info_parts Tryz.info212;go_enter Tryz.func66,Tryz.ntmps66;go_wp2_with(first|(go_at_call 122;refine(CL.out _).mono ?_;rintro e w1 ⟨rfl,hb⟩;have HB0:=hid ((aB _ _).trans (hb.mono (by simp)));have Q0:=hid (aA (heap_alloc_new w _) hb);clear hb)|(go_at_call 119;refine(cB _ _).mono ?_;rintro e w2 ⟨rfl,hw⟩;obtain rfl:=hw.symm));go_loopw [5,17] (λnv i wr=>∃(k:Nat) (vs:List Value),k≤n∧i=.int .i64 k∧cT ⟨o,s,t,v⟩ (ss.take k)=some vs∧vs.length=k∧wr.ownsRow (w.heap.size+1) 212 1 nv k vs∧wr.heap[w.heap.size]? =some (.cells #[.int .i64 o,.int .i64 s,.int .i64 t,.int .i64 v] 40 (0,0))∧Below w.heap.size w wr) (λ_ i _=>n-(intOf i).toNat)
   case atStart=>exact⟨0,[],Nat.zero_le _,rfl,rfl,rfl,World.ownsRow_nil _ _ _ _,Q0.out,HB0.out⟩
   case round=>
    obtain⟨k,vs,hk,rfl,hrun,hvl,ho,hq,hb⟩:=hrel;have HB:=hid hb;have HQ:=hid hq;have HO:=hid ho;have HR:=hid hrun;have HVL:=hid hvl;have hszl:=lt_of_block hq;clear hq ho hrun hvl;by_cases hlt:k<n
    ·obtain⟨b,off,rfl,hbl,hc⟩:=hs.2 (by omega)
     obtain⟨sd,es⟩:∃sd,sd=ss.getD k dC:=⟨_,rfl⟩;have hk4:=hc k hlt;rw[←es]at hk4;obtain⟨x1,x2,x3,co,cn,cc,x4,hcn,hit⟩:=hk4;have HI:Hid (∀w',Below wr.heap.size wr w'→ItemsOf w' co cn sd.code):=hid (λw' h=>hit.below (hb.trans (h.mono hb.size)));obtain⟨kd,a,bb,code⟩:=sd;have k1:wr.cell? ⟨b,off+k*4,none⟩=some (.int .i64 kd):=(hb.cell (p:=⟨b,off+k*4,none⟩) hbl).trans x1;have k2:wr.cell? ⟨b,off+k*4+1,none⟩=some (.int .i64 a):=(hb.cell (p:=⟨b,off+k*4+1,none⟩) hbl).trans x2;have k3:wr.cell? ⟨b,off+k*4+2,none⟩=some (.int .i64 bb):=(hb.cell (p:=⟨b,off+k*4+2,none⟩) hbl).trans x3;have k4:wr.cell? ⟨b,off+k*4+3,none⟩=some (.slice co cn cc):=(hb.cell (p:=⟨b,off+k*4+3,none⟩) hbl).trans x4;have ES:=hid es;have Q1:=hid (aA HQ.out (aB wr (.cells #[.int .i64 kd,.int .i64 a,.int .i64 bb,.slice co cn cc] 210)));obtain⟨q10,q11,q12,q13⟩:=aC Q1.out;have L:=hid (qGF kd a bb co cn cc code o s t v (wr.alloc (.cells #[.int .i64 kd,.int .i64 a,.int .i64 bb,.slice co cn cc] 210)) hcn (HI.out _ (aB _ _)));obtain⟨ao5,m5,cap5,hnv⟩:∃ao5 m5 cap5,u5=.slice ao5 m5 cap5:=by
      rcases HO.out.2 with⟨h,_⟩|⟨g,cap,cur,h,_⟩
      ·exact⟨_,_,_,h⟩
      ·exact⟨_,_,_,h⟩
     subst hnv;clear hc hs hb es x1 x2 x3 x4 hit;cases hnode:aN ⟨o,s,t,v⟩ ⟨kd,a,bb,code⟩with
     |none=>
      have EN:Hid (dJ ⟨o,s,t,v⟩ ss=none):=hid (by
       rw[EA.out,qI8 (ss:=ss) (k:=k) (by rw[HL.out];exact hlt),qx4,HR.out,←ES.out];simp[cT,hnode])
      rw[hnode]at L;unfold vF at L;simp only at L;clear hnode;go_wp2_with(go_at_call 123;refine L.out.mono ?_;rintro e w1 ⟨⟨sx,rfl⟩,hb1⟩;have B1:=hid hb1;clear hb1);refine⟨rfl,?_⟩;rw[EN.out];exact⟨⟨_,rfl⟩,(HB.out.alloc (by omega) _).trans (B1.out.mono (by simp;omega))⟩
     |some nd=>
      obtain⟨y,x,hy⟩:=qG3 hnode;have EN:Hid (cT ⟨o,s,t,v⟩ (ss.take (k+1))=some (vs++[.iface y x])):=hid (by
       rw[qy2 (by rw[HL.out];exact hlt),qx4,HR.out,←ES.out];simp[cT,hnode,hy])
      rw[hnode]at L;unfold vF at L;simp only[hy]at L;clear hnode hy;go_wp2_with(first|(go_at_call 123;refine L.out.mono ?_;rintro e w1 ⟨rfl,hb1⟩;have B1:=hid hb1;have O1:=hid (aI (HO.out.alloc _) hb1);have Q2:=hid (aA Q1.out hb1);clear hb1)|(at_builtin;refine wpList_append_own _ rfl (.tmp 21) (.tmp 25) 118 rfl (w.heap.size+1) 212 i0 .nilIface 1 16 Tryz.underlying118 hi hz0 hz1 hz2 rfl (by decide) _ _ _ rfl (O1.out.alloc _) ⟨w1.heap.size,0,none⟩ 1 1 [.iface y x] rfl rfl ?c1 ?c2 ?c3 ?c4 ?c5 ?_))
      case c1=>
       intro j u hj
       match j,hj with
       |0,hj=>simp at hj;subst hj;simp[Addr.add]
      case c2=>intro u hu;simp at hu;subst hu;rfl
      case c3=>unfold maxLen;omega
      case c4=>omega
      case c5=>have:=B1.out.size;simp at this⊢;omega
      ·intro v' w2 hown' hgrow _
       have O2:=hid hown';have G:=hid hgrow;clear hown' hgrow;go_wp2;go_roundw
       case rel=>
        have hrow:∀kk,(Value.slice ao5 m5 cap5).ownBlock=some kk→w.heap.size+1≤kk:=λkk e=>(HO.out.lt kk e).1;have s1:=B1.out.size;simp at s1;refine⟨k+1,_,by omega,by go_num,EN.out,by simp[HVL.out],O2.out,?_,?_⟩
        ·rw[qdC G.out (by simp;omega) (λe=>by have:=hrow _ e;omega),heap_alloc_old _ _ (by omega)]
         exact Q2.out
        ·exact((((HB.out.alloc (by omega) _).trans (B1.out.mono (by simp;omega))).alloc (by omega) _).grown G.out (by simp;omega) (λkk e=>by have:=hrow kk e;omega))
       case measure=>simp[intOf];omega
    ·have e:k=n:=by omega
     subst e;have ER:Hid (dJ ⟨o,s,t,v⟩ ss=some vs):=hid (by rw[EA.out];have:=HR.out;rwa[List.take_of_length_le (by rw[HL.out];exact Nat.le_refl _)]at this);clear hs hb;go_wp2;go_ret;rw[ER.out];exact⟨⟨_,rfl,by rw[HVL.out];exact HO.out⟩,HB.out⟩
  ·have i50:decide ((n:Int)≤50)=false:=by simp;omega
   have E:Hid (dJ ⟨o,s,t,v⟩ ss=none):=hid (by unfold dJ;rw[if_neg];intro h;rw[HL.out]at h;exact h50 h.2);rw[E.out];clear hs;go_enter Tryz.func66,Tryz.ntmps66;go_wp2_with(first|(go_at_call 122;refine(CL.out _).mono ?_;rintro e w1 ⟨rfl,hb⟩;have HB:=hid hb;clear hb)|(go_at_call_of 119 (Value.bool true);refine(cB _ _).mono ?_;rintro e w2 ⟨rfl,hw⟩;obtain rfl:=hw.symm)|(go_at_call_of 119 (Value.bool false);refine(cD _ _).mono ?_;rintro e w2 ⟨rfl,hw⟩;obtain rfl:=hw.symm));exact⟨rfl,⟨_,rfl⟩,(aB _ _).trans (HB.out.mono (by simp))⟩
end Go.Proofs.YtiimkhepplkocaaGreat
namespace Go.Proofs.YtiimkhepplkocaaGreat
open Go.RowKit Go.Sort
theorem qD6(k:Int)(l:aE):tK k l=gQ k l+1:=by
 unfold tK gQ;split
 ·omega
 split
 ·omega
 split<;>omega
theorem qD7(k:Int)(l:aE):uK k l=eP k l+1:=by
 unfold uK eP;split
 ·omega
 split<;>omega
theorem qD8(k a b:Int)(cn:Nat)(l:aE):cF k a b cn l=(aQ a 0 (gQ k l)&&aQ b 0 (eP k l)&&(if bX k then true else decide (cn=0))):=by
 unfold cF;rw[qD6,qD7];have h1:decide (0≤a∧a<gQ k l+1)=aQ a 0 (gQ k l):=by rw[Bool.eq_iff_iff];simp[aQ];omega
 have h2:decide (0≤b∧b<eP k l+1)=aQ b 0 (eP k l):=by rw[Bool.eq_iff_iff];simp[aQ];omega
 rw[h1,h2]
theorem qG4(l:aE)(s:aH):(aN l s).isSome=pU l s:=by
 unfold aN pU;rw[qD8,←qjP s.code l.v];obtain⟨k,a,b,code⟩:=s;simp only;cases hA:aQ a 0 (gQ k l)with
 |false=>simp
 |true=>
  cases hB:aQ b 0 (eP k l)with
  |false=>simp
  |true=>
   simp only[Bool.true_and];by_cases h6:k=6
   ·subst h6
    by_cases hz:code.length=0<;>simp[bX,aQ,hz]
   by_cases h7:k=7
   ·subst h7
    by_cases hz:code.length=0<;>simp[bX,aQ,hz]
   by_cases h9:k=9
   ·subst h9
    by_cases hz:code.length=0<;>simp[bX,aQ,hz]
   have hh:bX k=true:=by simp[bX,h6,h7,h9]
   simp only[hh,if_true,h6,h7,h9,if_false];cases aV code l.v with
   |none=>simp
   |some t=>
    by_cases h1:k=1
    ·subst h1;simp[aQ]
    by_cases h2:k=2
    ·subst h2;simp[aQ]
    by_cases h3:k=3
    ·subst h3;simp[aQ]
    by_cases h4:k=4
    ·subst h4;simp[aQ]
    by_cases h5:k=5
    ·subst h5;simp[aQ]
    by_cases h8:k=8
    ·subst h8;simp[aQ]
    have hk:aQ k 1 9=false:=by simp[aQ];omega
    simp[h1,h2,h3,h4,h5,h8,hk]
theorem qG7(l:aE):∀ss:List aH,(cT l ss).isSome=true↔∀i,i<ss.length→pU l (ss.getD i dC)=true:=by
 intro ss
 induction ss with
 |nil=>simp[cT]
 |cons s r ih=>
  have e:(cT l (s::r)).isSome=((aN l s).isSome&&(cT l r).isSome):=by
   simp only[cT];cases aN l s with
   |none=>rfl
   |some v=>cases cT l r<;>rfl
  rw[e,Bool.and_eq_true,ih,qG4];constructor
  ·rintro⟨h1,h2⟩ i hi
   match i,hi with
   |0,_=>simpa using h1
   |i+1,hi=>simpa using h2 i (by simpa using hi)
  ·intro h
   exact⟨by simpa using h 0 (by simp),λi hi=>by simpa using h (i+1) (by simpa using hi)⟩
theorem qh2(l:aE)(ss:List aH):(dJ l ss).isSome=cK l ss:=by
 rw[Bool.eq_iff_iff];unfold dJ cK;rw[decide_eq_true_iff];by_cases h:cO l∧ss.length≤50
 ·rw[if_pos h,qG7]
  exact⟨λhh=>⟨h.1,h.2,hh⟩,λhh=>hh.2.2⟩
 ·rw[if_neg h]
  constructor
  ·intro hh;cases hh
  ·intro hh;exact absurd ⟨hh.1,hh.2.1⟩ h
theorem qwG:∀(args:Array Value) (w:World),(callFunc 176 args).run Tryz.prog w=.ok (.enter 176 args) w:=yK (f:=176) Tryz.func176 (by kernel_rfl) rfl
theorem qoX(ao:Option Addr)(n c:Nat)(ss:List aH)(o s t v:Int)(w:World)(hn:n≤9223372036854775807)(hs:StmsOf w ao n ss):
  Calls Tryz.prog 140 #[.slice ao n c,.agg #[.int .i64 o,.int .i64 s,.int .i64 t,.int .i64 v]] w λe w'=>e=.returned (.bool (cK ⟨o,s,t,v⟩ ss))∧Below w.heap.size w w':=by
 have hmf:∀(fn:Fn) (first cap:Array Value) (w:World),(Instr.makeFunc fn first cap).run Tryz.prog w=.ok (.func fn first cap) w:=λ_ _ _ _=>rfl;rw[←qh2];obtain⟨W,hW⟩:∃W,W=((w.alloc (.cells #[.slice ao n c] 58)).alloc (.cells #[.int .i64 o,.int .i64 s,.int .i64 t,.int .i64 v] 40)):=⟨_,rfl⟩;have hWs:W.heap.size=w.heap.size+1+1:=by rw[hW];simp
 have bW:Below w.heap.size w W:=by rw[hW];exact aD _ _ _
 have c0:W.heap[w.heap.size]? =some (.cells #[.slice ao n c] 58 (0,0)):=by rw[hW];exact aA (heap_alloc_new w _) (aB _ _)
 have c1:W.heap[w.heap.size+1]? =some (.cells #[.int .i64 o,.int .i64 s,.int .i64 t,.int .i64 v] 40 (0,0)):=by rw[hW];simpa using heap_alloc_new (w.alloc (.cells #[.slice ao n c] 58)) (.cells #[.int .i64 o,.int .i64 s,.int .i64 t,.int .i64 v] 40)
 have L:Calls Tryz.prog 176 #[.pointer (some ⟨w.heap.size,0,none⟩),.pointer (some ⟨w.heap.size+1,0,none⟩)] (W.alloc (.cells #[.nilIface] 140)) λe w'=>(match dJ ⟨o,s,t,v⟩ ss with|some _=>e=.returned (.tuple #[])|none=>Pan e)∧Below (W.heap.size+1) (W.alloc (.cells #[.nilIface] 140)) w':=by
  have d0:=cell_of_one (aA c0 (aB W (.cells #[.nilIface] 140)));obtain⟨d1,d2,d3,d4⟩:=aC (aA c1 (aB W (.cells #[.nilIface] 140)));have H:=hid (qjK ao n c ss o s t v (W.alloc (.cells #[.nilIface] 140)) hn (hs.below (bW.trans ((aB _ _).mono (by omega)))));have hz:(W.alloc (.cells #[.nilIface] 140)).heap.size=W.heap.size+1:=by simp
  obtain⟨V,hV⟩:∃V,V=W.alloc (.cells #[.nilIface] 140):=⟨_,rfl⟩;rw[←hV]at d0 d1 d2 d3 d4 H hz⊢;clear hV c0 c1 bW hW hs;cases hlt:dJ ⟨o,s,t,v⟩ ss with
  |some t=>
   rw[hlt]at H;unfold qc8 at H;simp only at H⊢;rw[←hz];clear hlt hz hWs;go_enter Tryz.func176,Tryz.ntmps176;go_wp2_with(go_at_call 66;refine H.out.mono ?_;rintro e w1 ⟨⟨val,rfl,_⟩,hb⟩;have HB:=hid hb;clear hb);go_end0;exact⟨rfl,HB.out⟩
  |none=>
   rw[hlt]at H;unfold qc8 at H;simp only at H⊢;rw[←hz];clear hlt hz hWs;go_enter Tryz.func176,Tryz.ntmps176;go_wp2_with(go_at_call 66;refine H.out.mono ?_;rintro e w1 ⟨⟨sx,rfl⟩,hb⟩;have HB:=hid hb;clear hb);exact⟨rfl,⟨_,rfl⟩,HB.out⟩
 cases hlt:dJ ⟨o,s,t,v⟩ ss with
 |some tt=>
  rw[hlt]at L;have A:=hid (quY 176 _ W (λ_=>True) qwG (L.mono λe w' ⟨h1,h2⟩=>⟨h1,trivial,h2⟩));have HW:=hid hW;have BW:=hid bW;have hq:=qx2;rw[hW]at A;clear hlt L c0 c1 bW hs;go_enter Tryz.func140,Tryz.ntmps140;go_wp2_with(go_at_call 62;refine A.out.mono ?_;rintro e w1 ⟨rfl,w2,_,hb2,hw1⟩;have HB:=hid hb2;have H1:=hid hw1;clear hb2 hw1);go_ret;refine⟨rfl,?_⟩;rw[H1.out];have hb:=HB.out;rw[←HW.out]at hb⊢;exact(BW.out.trans ((aB _ _).mono (by omega))).trans (hb.mono (by omega))|>.setCell (by simp;omega) _
 |none=>
  rw[hlt]at L;have A:=hid (qiV 176 _ W qwG L);have HW:=hid hW;have BW:=hid bW;have hq:=qwI;rw[hW]at A;clear hlt L c0 c1 bW hs;go_enter Tryz.func140,Tryz.ntmps140;go_wp2_with(go_at_call 62;refine A.out.mono ?_;rintro e w1 ⟨⟨sx,rfl⟩,hb2⟩;have HB:=hid hb2;clear hb2);go_ret;refine⟨rfl,?_⟩;have hb:=HB.out;rw[←HW.out]at hb;exact BW.out.trans (hb.mono (by omega))
end Go.Proofs.YtiimkhepplkocaaGreat

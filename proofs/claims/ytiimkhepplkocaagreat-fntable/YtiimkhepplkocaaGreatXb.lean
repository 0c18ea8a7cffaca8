import Derived.Test.YtiimkhepplkocaaGreatXa
set_option maxRecDepth 100000
set_option maxHeartbeats 16000000
namespace Go.Proofs.YtiimkhepplkocaaGreat
open Go.RowKit Go.Sort
def I64(x:Int):Prop:=-9223372036854775808≤x∧x≤9223372036854775807
theorem qiR(x:Int):I64 (wrap64 x):=by unfold I64 wrap64;omega
def un(x:Int):Nat:=(x%18446744073709551616).toNat
theorem qiH(x:Int):un x<2^64:=by unfold un;omega
theorem qy9{x:Int}(h:I64 x)(h0:0≤x):un x=x.toNat:=by unfold un;unfold I64 at h;omega
theorem qKW{x:Int}(h:I64 x)(h0:x<0):un x=2^64-((-1-x).toNat+1):=by unfold un;unfold I64 at h;omega
theorem qBB{x:Int}(h:I64 x)(h0:x<0){n:Nat}(hn:n<64):(un x).testBit n=!(un (-1-x)).testBit n:=by
 have h1:I64 (-1-x):=by unfold I64 at h⊢;omega
 rw[qKW h h0,qy9 h1 (by omega),Nat.testBit_two_pow_sub_succ (by unfold I64 at h1;omega)];simp[hn]
theorem qBC{x:Int}(h:I64 x)(h0:0≤x){n:Nat}:(un x).testBit n=decide (x/2^n%2=1):=by
 rw[qy9 h h0,Nat.testBit_eq_decide_div_mod_eq];have e:x/2^n%2=((x.toNat/2^n%2:Nat):Int):=by
  have hx:x=(x.toNat:Int):=by omega
  conv=>lhs;rw[hx]
  simp
 rw[e];generalize x.toNat/2^n%2=z;exact decide_eq_decide.2 (by omega)
theorem qjV(n:Nat)(hn:n≤62):(0:Int)<2^n∧(2:Int)^n≤4611686018427387904:=by
 refine⟨Int.pow_pos (by omega),?_⟩;have:=Nat.pow_le_pow_right (n:=2) (by omega) hn;have e:((2^n:Nat):Int)=(2:Int)^n:=by simp
 rw[←e];have h2:(2:Nat)^62=4611686018427387904:=by decide
 omega
theorem qu8(x:Int)(n:Nat)(w:World)(hx:I64 x)(h0:0≤x)(hn:n≤63):Calls Tryz.prog 190 #[.int .i64 x,.int .i64 n] w λe w'=>e=.returned (.bool ((un x).testBit n))∧w'=w:=by
 have hb:=qBC hx h0 (n:=n);obtain⟨hx1,hx2⟩:=hx;by_cases h63:n=63
 ·subst h63
  have E:Hid ((un x).testBit 63=false):=hid (by rw[hb];simp;omega);rw[E.out];clear hb;have i63:((63:Nat):Int)=63:=rfl;go_enter Tryz.func190,Tryz.ntmps190;go_wp2;go_ret;exact⟨rfl,rfl⟩
 ·have hp:=qjV n (by omega)
  have P62:=hid (λw=>uL n w (by omega));have e63:((n:Int)==63)=false:=by simp;omega
  rw[hb];obtain⟨P,hP⟩:∃P,P=(2:Int)^n:=⟨_,rfl⟩;rw[←hP]at hp P62⊢;obtain⟨hp1,hp2⟩:=hp;have hP0:¬P=0:=by omega
  have HP:=hid hP;clear hP hb h63;go_enter Tryz.func190,Tryz.ntmps190;go_wp2_with(go_at_call 126;refine(P62.out _).mono ?_;rintro e w1 ⟨rfl,hw⟩;obtain rfl:=hw.symm);go_ret;have hnn:0≤x/P:=Int.ediv_nonneg h0 (by omega);refine⟨aZ ?_,rfl⟩;rw[Int.tmod_eq_emod_of_nonneg hnn,Bool.eq_iff_iff];simp
theorem qg1(x:Int)(n:Nat)(w:World)(hx:I64 x)(hn:n≤63):Calls Tryz.prog 190 #[.int .i64 x,.int .i64 n] w λe w'=>e=.returned (.bool ((un x).testBit n))∧w'=w:=by
 by_cases h0:0≤x
 ·exact qu8 x n w hx h0 hn
 ·have h0':x<0:=by omega
  have h1:I64 (-1-x):=by unfold I64 at hx⊢;omega
  have C:=hid (λw=>qu8 (-1-x) n w h1 (by omega) hn);have E:=hid (qBB hx h0' (n:=n) (by omega));rw[E.out];obtain⟨hx1,hx2⟩:=hx;obtain⟨bb,hbb⟩:∃b,b=(un (-1-x)).testBit n:=⟨_,rfl⟩;rw[←hbb]at C⊢;clear h1 E hbb h0;go_enter Tryz.func190,Tryz.ntmps190;go_wp2_with(go_at_call 190;refine(C.out _).mono ?_;rintro e w1 ⟨rfl,hw⟩;obtain rfl:=hw.symm);go_ret;exact⟨rfl,rfl⟩
def sR(op:Int)(x y:Int):Nat:=if op=14 then un x&&&un y else if op=15 then un x|||un y else un x^^^un y
def qdE(op:Int)(a b:Bool):Bool:=if op=14 then a&&b else if op=15 then a||b else a !=b
theorem qo0(op x y:Int)(n:Nat):(sR op x y).testBit n=qdE op ((un x).testBit n) ((un y).testBit n):=by
 unfold sR qdE;split
 ·exact Nat.testBit_and _ _ _
 split
 ·exact Nat.testBit_or _ _ _
 ·rw[Nat.testBit_xor]
theorem qFK(op x y:Int):sR op x y<2^64:=by
 unfold sR;split
 ·exact Nat.and_lt_two_pow _ (qiH y)
 split
 ·exact Nat.or_lt_two_pow (qiH x) (qiH y)
 ·exact Nat.xor_lt_two_pow (qiH x) (qiH y)
def a9(N k:Nat):Int:=if k≤63 then((N%2^k:Nat):Int)else((N%2^63:Nat):Int)-(if N.testBit 63 then 9223372036854775808 else 0)
theorem qpE(N k:Nat):N%2^(k+1)=N%2^k+(if N.testBit k then 2^k else 0):=by
 rw[Nat.mod_pow_succ,Nat.testBit_eq_decide_div_mod_eq];have h:N/2^k%2=0∨N/2^k%2=1:=by omega
 rcases h with h|h<;>simp[h]
theorem qhC(x:Int):(BitVec.ofInt 64 x).toNat=un x:=by
 rw[BitVec.toNat_ofInt];unfold un;rfl
theorem qg2(op:Int)(b:BinOp)(x y:Int)(h:(op=14∧b=.and)∨(op=15∧b=.or)∨(op=16∧b=.xor)):bits b .i64 x y=a9 (sR op x y) 64:=by
 have hN:bits b .i64 x y=IntKind.i64.wrap ((sR op x y:Nat):Int):=by
  rcases h with⟨rfl,rfl⟩|⟨rfl,rfl⟩|⟨rfl,rfl⟩
  ·show IntKind.i64.wrap ((BitVec.ofInt 64 x&&&BitVec.ofInt 64 y).toNat:Int)=_
   rw[BitVec.toNat_and,qhC,qhC];rfl
  ·show IntKind.i64.wrap ((BitVec.ofInt 64 x|||BitVec.ofInt 64 y).toNat:Int)=_
   rw[BitVec.toNat_or,qhC,qhC];rfl
  ·show IntKind.i64.wrap ((BitVec.ofInt 64 x^^^BitVec.ofInt 64 y).toNat:Int)=_
   rw[BitVec.toNat_xor,qhC,qhC];rfl
 rw[hN,IntKind.wrap_i64];have hl:=qFK op x y;generalize sR op x y=N at*;have ht:N.testBit 63=decide (N/9223372036854775808%2=1):=Nat.testBit_eq_decide_div_mod_eq;unfold a9;rw[if_neg (by omega),ht];have e:(2:Nat)^63=9223372036854775808:=by decide
 rw[e];by_cases h1:N/9223372036854775808%2=1
 ·simp[h1];omega
 ·simp[h1];omega
theorem qBD(x y:Int)(w:World)(hx:I64 x)(hy:I64 y):Calls Tryz.prog 182 #[.int .i64 14,.int .i64 x,.int .i64 y] w λe w'=>e=.returned (.int .i64 (a9 (sR 14 x y) 64))∧w'=w:=by
 have JB:=hid (qo0 14 x y);obtain⟨N,hN⟩:∃N,N=sR 14 x y:=⟨_,rfl⟩;rw[←hN]at JB⊢;have CX0:Hid (∀(k:Nat),k≤63→∀(k0:Int),k0=k→∀w,Calls Tryz.prog 190 #[.int .i64 x,.int .i64 k0] w λe w'=>e=.returned (.bool ((un x).testBit k))∧w'=w):=λk hk k0 h w=>by subst h;exact qg1 x k w hx hk
 have CY0:Hid (∀(k:Nat),k≤63→∀(k0:Int),k0=k→∀w,Calls Tryz.prog 190 #[.int .i64 y,.int .i64 k0] w λe w'=>e=.returned (.bool ((un y).testBit k))∧w'=w):=λk hk k0 h w=>by subst h;exact qg1 y k w hy hk
 have P6:Hid (∀w,Calls Tryz.prog 126 #[.int .i64 62] w λe w'=>e=.returned (.int .i64 4611686018427387904)∧w'=w):=λw=>uL 62 w (by omega);clear hx hy hN;go_enter Tryz.func182,Tryz.ntmps182;go_wp2;go_loop [7,8] (λv i=>∃k:Nat,k≤64∧i=.int .i64 k∧v=.int .i64 (a9 N k)) (λ_ i=>64-(intOf i).toNat)
 case atStart=>exact⟨0,Nat.zero_le _,rfl,by simp[a9,Nat.mod_one]⟩
 case round=>
  obtain⟨k,hk,rfl,rfl⟩:=hrel;by_cases hlt:k<63
  ·have hp:=qjV k (by omega)
   have PK:Hid (∀(k0:Int) w,k0=k→Calls Tryz.prog 126 #[.int .i64 k0] w λe w'=>e=.returned (.int .i64 ((2:Int)^k))∧w'=w):=λk0 w h=>by subst h;exact uL k w (by omega)
   have CX:=hid (λk0 w h=>CX0.out k (by omega) k0 h w);have CY:=hid (λk0 w h=>CY0.out k (by omega) k0 h w);have hJ:=JB.out k;have hS:a9 N (k+1)=a9 N k+(if N.testBit k then(2:Int)^k else 0):=by
    unfold a9;rw[if_pos (by omega),if_pos (by omega),qpE];by_cases hb:N.testBit k=true
    ·simp[hb]
    ·simp[hb]
   have hv:0≤a9 N k∧a9 N k<2^k:=by
    unfold a9;rw[if_pos (by omega)];have h2:=Nat.mod_lt N (y:=2^k) (Nat.pow_pos (by omega));refine⟨by omega,?_⟩;have e:((2^k:Nat):Int)=(2:Int)^k:=by simp
    rw[←e];omega
   obtain⟨P,hP⟩:∃P,P=(2:Int)^k:=⟨_,rfl⟩;obtain⟨v,hvv⟩:∃v,v=a9 N k:=⟨_,rfl⟩;obtain⟨bx,hbx⟩:∃b,b=(un x).testBit k:=⟨_,rfl⟩;obtain⟨by_,hby⟩:∃b,b=(un y).testBit k:=⟨_,rfl⟩;rw[←hP]at hp PK hS hv;rw[←hvv]at hS hv⊢;rw[←hbx]at CX hJ;rw[←hby]at CY hJ;rw[hJ]at hS;have HS:=hid hS;obtain⟨hp1,hp2⟩:=hp;obtain⟨hv1,hv2⟩:=hv;clear hP hvv hbx hby hJ hS;cases bx<;>cases by_
   all_goals
    go_wp2_with(first|(go_at_call_of 190 (Value.int .i64 x);refine(CX.out _ _ rfl).mono ?_;rintro e w1 ⟨rfl,hw⟩;obtain rfl:=hw.symm)|(go_at_call_of 190 (Value.int .i64 y);refine(CY.out _ _ rfl).mono ?_;rintro e w1 ⟨rfl,hw⟩;obtain rfl:=hw.symm)|(go_at_call_of 126 (Value.int .i64 (62:Int));refine(P6.out _).mono ?_;rintro e w1 ⟨rfl,hw⟩;obtain rfl:=hw.symm)|(go_at_call 126;refine(PK.out _ _ rfl).mono ?_;rintro e w1 ⟨rfl,hw⟩;obtain rfl:=hw.symm));go_round
    case rel=>exact⟨k+1,by omega,by go_num,by rw[HS.out];simp[qdE]⟩
    case measure=>simp[intOf];omega
  ·by_cases h63:k=63
   ·subst h63
    have CX:=hid (λk0 w h=>CX0.out 63 (by omega) k0 h w);have CY:=hid (λk0 w h=>CY0.out 63 (by omega) k0 h w);have PK:Hid (∀(k0:Int) (w:World),k0=(63:Nat)→Calls Tryz.prog 126 #[.int .i64 0] w λe w'=>e=.returned (.int .i64 1)∧w'=w):=λk0 w h=>uL 0 w (by omega);have hJ:=JB.out 63;have hS:a9 N 64=a9 N 63-(if N.testBit 63 then 9223372036854775808 else 0):=by
     simp only[a9];rw[if_neg (show¬64≤63 by omega),if_pos (show 63≤63 by omega)]
    have hv:0≤a9 N 63∧a9 N 63<9223372036854775808:=by
     unfold a9;rw[if_pos (by omega)];have h2:=Nat.mod_lt N (y:=2^63) (Nat.pow_pos (by omega));have e:(2:Nat)^63=9223372036854775808:=by decide
     omega
    obtain⟨v,hvv⟩:∃v,v=a9 N 63:=⟨_,rfl⟩;obtain⟨bx,hbx⟩:∃b,b=(un x).testBit 63:=⟨_,rfl⟩;obtain⟨by_,hby⟩:∃b,b=(un y).testBit 63:=⟨_,rfl⟩;rw[←hvv]at hS hv⊢;rw[←hbx]at CX hJ;rw[←hby]at CY hJ;rw[hJ]at hS;have HS:=hid hS;obtain⟨hv1,hv2⟩:=hv;clear hvv hbx hby hJ hS;cases bx<;>cases by_
    all_goals
     go_wp2_with(first|(go_at_call_of 190 (Value.int .i64 x);refine(CX.out _ _ rfl).mono ?_;rintro e w1 ⟨rfl,hw⟩;obtain rfl:=hw.symm)|(go_at_call_of 190 (Value.int .i64 y);refine(CY.out _ _ rfl).mono ?_;rintro e w1 ⟨rfl,hw⟩;obtain rfl:=hw.symm)|(go_at_call_of 126 (Value.int .i64 (62:Int));refine(P6.out _).mono ?_;rintro e w1 ⟨rfl,hw⟩;obtain rfl:=hw.symm)|(go_at_call 126;refine(PK.out _ _ rfl).mono ?_;rintro e w1 ⟨rfl,hw⟩;obtain rfl:=hw.symm));go_round
     case rel=>exact⟨64,by omega,by go_num,by rw[HS.out];simp[qdE]<;>omega⟩
     case measure=>simp[intOf]
   ·have e:k=64:=by omega
    subst e;go_wp2;go_ret;exact⟨rfl,rfl⟩
theorem qBE(x y:Int)(w:World)(hx:I64 x)(hy:I64 y):Calls Tryz.prog 182 #[.int .i64 15,.int .i64 x,.int .i64 y] w λe w'=>e=.returned (.int .i64 (a9 (sR 15 x y) 64))∧w'=w:=by
 have JB:=hid (qo0 15 x y);obtain⟨N,hN⟩:∃N,N=sR 15 x y:=⟨_,rfl⟩;rw[←hN]at JB⊢;have CX0:Hid (∀(k:Nat),k≤63→∀(k0:Int),k0=k→∀w,Calls Tryz.prog 190 #[.int .i64 x,.int .i64 k0] w λe w'=>e=.returned (.bool ((un x).testBit k))∧w'=w):=λk hk k0 h w=>by subst h;exact qg1 x k w hx hk
 have CY0:Hid (∀(k:Nat),k≤63→∀(k0:Int),k0=k→∀w,Calls Tryz.prog 190 #[.int .i64 y,.int .i64 k0] w λe w'=>e=.returned (.bool ((un y).testBit k))∧w'=w):=λk hk k0 h w=>by subst h;exact qg1 y k w hy hk
 have P6:Hid (∀w,Calls Tryz.prog 126 #[.int .i64 62] w λe w'=>e=.returned (.int .i64 4611686018427387904)∧w'=w):=λw=>uL 62 w (by omega);clear hx hy hN;go_enter Tryz.func182,Tryz.ntmps182;go_wp2;go_loop [7,8] (λv i=>∃k:Nat,k≤64∧i=.int .i64 k∧v=.int .i64 (a9 N k)) (λ_ i=>64-(intOf i).toNat)
 case atStart=>exact⟨0,Nat.zero_le _,rfl,by simp[a9,Nat.mod_one]⟩
 case round=>
  obtain⟨k,hk,rfl,rfl⟩:=hrel;by_cases hlt:k<63
  ·have hp:=qjV k (by omega)
   have PK:Hid (∀(k0:Int) w,k0=k→Calls Tryz.prog 126 #[.int .i64 k0] w λe w'=>e=.returned (.int .i64 ((2:Int)^k))∧w'=w):=λk0 w h=>by subst h;exact uL k w (by omega)
   have CX:=hid (λk0 w h=>CX0.out k (by omega) k0 h w);have CY:=hid (λk0 w h=>CY0.out k (by omega) k0 h w);have hJ:=JB.out k;have hS:a9 N (k+1)=a9 N k+(if N.testBit k then(2:Int)^k else 0):=by
    unfold a9;rw[if_pos (by omega),if_pos (by omega),qpE];by_cases hb:N.testBit k=true
    ·simp[hb]
    ·simp[hb]
   have hv:0≤a9 N k∧a9 N k<2^k:=by
    unfold a9;rw[if_pos (by omega)];have h2:=Nat.mod_lt N (y:=2^k) (Nat.pow_pos (by omega));refine⟨by omega,?_⟩;have e:((2^k:Nat):Int)=(2:Int)^k:=by simp
    rw[←e];omega
   obtain⟨P,hP⟩:∃P,P=(2:Int)^k:=⟨_,rfl⟩;obtain⟨v,hvv⟩:∃v,v=a9 N k:=⟨_,rfl⟩;obtain⟨bx,hbx⟩:∃b,b=(un x).testBit k:=⟨_,rfl⟩;obtain⟨by_,hby⟩:∃b,b=(un y).testBit k:=⟨_,rfl⟩;rw[←hP]at hp PK hS hv;rw[←hvv]at hS hv⊢;rw[←hbx]at CX hJ;rw[←hby]at CY hJ;rw[hJ]at hS;have HS:=hid hS;obtain⟨hp1,hp2⟩:=hp;obtain⟨hv1,hv2⟩:=hv;clear hP hvv hbx hby hJ hS;cases bx<;>cases by_
   all_goals
    go_wp2_with(first|(go_at_call_of 190 (Value.int .i64 x);refine(CX.out _ _ rfl).mono ?_;rintro e w1 ⟨rfl,hw⟩;obtain rfl:=hw.symm)|(go_at_call_of 190 (Value.int .i64 y);refine(CY.out _ _ rfl).mono ?_;rintro e w1 ⟨rfl,hw⟩;obtain rfl:=hw.symm)|(go_at_call_of 126 (Value.int .i64 (62:Int));refine(P6.out _).mono ?_;rintro e w1 ⟨rfl,hw⟩;obtain rfl:=hw.symm)|(go_at_call 126;refine(PK.out _ _ rfl).mono ?_;rintro e w1 ⟨rfl,hw⟩;obtain rfl:=hw.symm));go_round
    case rel=>exact⟨k+1,by omega,by go_num,by rw[HS.out];simp[qdE]⟩
    case measure=>simp[intOf];omega
  ·by_cases h63:k=63
   ·subst h63
    have CX:=hid (λk0 w h=>CX0.out 63 (by omega) k0 h w);have CY:=hid (λk0 w h=>CY0.out 63 (by omega) k0 h w);have PK:Hid (∀(k0:Int) (w:World),k0=(63:Nat)→Calls Tryz.prog 126 #[.int .i64 0] w λe w'=>e=.returned (.int .i64 1)∧w'=w):=λk0 w h=>uL 0 w (by omega);have hJ:=JB.out 63;have hS:a9 N 64=a9 N 63-(if N.testBit 63 then 9223372036854775808 else 0):=by
     simp only[a9];rw[if_neg (show¬64≤63 by omega),if_pos (show 63≤63 by omega)]
    have hv:0≤a9 N 63∧a9 N 63<9223372036854775808:=by
     unfold a9;rw[if_pos (by omega)];have h2:=Nat.mod_lt N (y:=2^63) (Nat.pow_pos (by omega));have e:(2:Nat)^63=9223372036854775808:=by decide
     omega
    obtain⟨v,hvv⟩:∃v,v=a9 N 63:=⟨_,rfl⟩;obtain⟨bx,hbx⟩:∃b,b=(un x).testBit 63:=⟨_,rfl⟩;obtain⟨by_,hby⟩:∃b,b=(un y).testBit 63:=⟨_,rfl⟩;rw[←hvv]at hS hv⊢;rw[←hbx]at CX hJ;rw[←hby]at CY hJ;rw[hJ]at hS;have HS:=hid hS;obtain⟨hv1,hv2⟩:=hv;clear hvv hbx hby hJ hS;cases bx<;>cases by_
    all_goals
     go_wp2_with(first|(go_at_call_of 190 (Value.int .i64 x);refine(CX.out _ _ rfl).mono ?_;rintro e w1 ⟨rfl,hw⟩;obtain rfl:=hw.symm)|(go_at_call_of 190 (Value.int .i64 y);refine(CY.out _ _ rfl).mono ?_;rintro e w1 ⟨rfl,hw⟩;obtain rfl:=hw.symm)|(go_at_call_of 126 (Value.int .i64 (62:Int));refine(P6.out _).mono ?_;rintro e w1 ⟨rfl,hw⟩;obtain rfl:=hw.symm)|(go_at_call 126;refine(PK.out _ _ rfl).mono ?_;rintro e w1 ⟨rfl,hw⟩;obtain rfl:=hw.symm));go_round
     case rel=>exact⟨64,by omega,by go_num,by rw[HS.out];simp[qdE]<;>omega⟩
     case measure=>simp[intOf]
   ·have e:k=64:=by omega
    subst e;go_wp2;go_ret;exact⟨rfl,rfl⟩
theorem qBF(x y:Int)(w:World)(hx:I64 x)(hy:I64 y):Calls Tryz.prog 182 #[.int .i64 16,.int .i64 x,.int .i64 y] w λe w'=>e=.returned (.int .i64 (a9 (sR 16 x y) 64))∧w'=w:=by
 have JB:=hid (qo0 16 x y);obtain⟨N,hN⟩:∃N,N=sR 16 x y:=⟨_,rfl⟩;rw[←hN]at JB⊢;have CX0:Hid (∀(k:Nat),k≤63→∀(k0:Int),k0=k→∀w,Calls Tryz.prog 190 #[.int .i64 x,.int .i64 k0] w λe w'=>e=.returned (.bool ((un x).testBit k))∧w'=w):=λk hk k0 h w=>by subst h;exact qg1 x k w hx hk
 have CY0:Hid (∀(k:Nat),k≤63→∀(k0:Int),k0=k→∀w,Calls Tryz.prog 190 #[.int .i64 y,.int .i64 k0] w λe w'=>e=.returned (.bool ((un y).testBit k))∧w'=w):=λk hk k0 h w=>by subst h;exact qg1 y k w hy hk
 have P6:Hid (∀w,Calls Tryz.prog 126 #[.int .i64 62] w λe w'=>e=.returned (.int .i64 4611686018427387904)∧w'=w):=λw=>uL 62 w (by omega);clear hx hy hN;go_enter Tryz.func182,Tryz.ntmps182;go_wp2;go_loop [7,8] (λv i=>∃k:Nat,k≤64∧i=.int .i64 k∧v=.int .i64 (a9 N k)) (λ_ i=>64-(intOf i).toNat)
 case atStart=>exact⟨0,Nat.zero_le _,rfl,by simp[a9,Nat.mod_one]⟩
 case round=>
  obtain⟨k,hk,rfl,rfl⟩:=hrel;by_cases hlt:k<63
  ·have hp:=qjV k (by omega)
   have PK:Hid (∀(k0:Int) w,k0=k→Calls Tryz.prog 126 #[.int .i64 k0] w λe w'=>e=.returned (.int .i64 ((2:Int)^k))∧w'=w):=λk0 w h=>by subst h;exact uL k w (by omega)
   have CX:=hid (λk0 w h=>CX0.out k (by omega) k0 h w);have CY:=hid (λk0 w h=>CY0.out k (by omega) k0 h w);have hJ:=JB.out k;have hS:a9 N (k+1)=a9 N k+(if N.testBit k then(2:Int)^k else 0):=by
    unfold a9;rw[if_pos (by omega),if_pos (by omega),qpE];by_cases hb:N.testBit k=true
    ·simp[hb]
    ·simp[hb]
   have hv:0≤a9 N k∧a9 N k<2^k:=by
    unfold a9;rw[if_pos (by omega)];have h2:=Nat.mod_lt N (y:=2^k) (Nat.pow_pos (by omega));refine⟨by omega,?_⟩;have e:((2^k:Nat):Int)=(2:Int)^k:=by simp
    rw[←e];omega
   obtain⟨P,hP⟩:∃P,P=(2:Int)^k:=⟨_,rfl⟩;obtain⟨v,hvv⟩:∃v,v=a9 N k:=⟨_,rfl⟩;obtain⟨bx,hbx⟩:∃b,b=(un x).testBit k:=⟨_,rfl⟩;obtain⟨by_,hby⟩:∃b,b=(un y).testBit k:=⟨_,rfl⟩;rw[←hP]at hp PK hS hv;rw[←hvv]at hS hv⊢;rw[←hbx]at CX hJ;rw[←hby]at CY hJ;rw[hJ]at hS;have HS:=hid hS;obtain⟨hp1,hp2⟩:=hp;obtain⟨hv1,hv2⟩:=hv;clear hP hvv hbx hby hJ hS;cases bx<;>cases by_
   all_goals
    go_wp2_with(first|(go_at_call_of 190 (Value.int .i64 x);refine(CX.out _ _ rfl).mono ?_;rintro e w1 ⟨rfl,hw⟩;obtain rfl:=hw.symm)|(go_at_call_of 190 (Value.int .i64 y);refine(CY.out _ _ rfl).mono ?_;rintro e w1 ⟨rfl,hw⟩;obtain rfl:=hw.symm)|(go_at_call_of 126 (Value.int .i64 (62:Int));refine(P6.out _).mono ?_;rintro e w1 ⟨rfl,hw⟩;obtain rfl:=hw.symm)|(go_at_call 126;refine(PK.out _ _ rfl).mono ?_;rintro e w1 ⟨rfl,hw⟩;obtain rfl:=hw.symm));go_round
    case rel=>exact⟨k+1,by omega,by go_num,by rw[HS.out];simp[qdE]⟩
    case measure=>simp[intOf];omega
  ·by_cases h63:k=63
   ·subst h63
    have CX:=hid (λk0 w h=>CX0.out 63 (by omega) k0 h w);have CY:=hid (λk0 w h=>CY0.out 63 (by omega) k0 h w);have PK:Hid (∀(k0:Int) (w:World),k0=(63:Nat)→Calls Tryz.prog 126 #[.int .i64 0] w λe w'=>e=.returned (.int .i64 1)∧w'=w):=λk0 w h=>uL 0 w (by omega);have hJ:=JB.out 63;have hS:a9 N 64=a9 N 63-(if N.testBit 63 then 9223372036854775808 else 0):=by
     simp only[a9];rw[if_neg (show¬64≤63 by omega),if_pos (show 63≤63 by omega)]
    have hv:0≤a9 N 63∧a9 N 63<9223372036854775808:=by
     unfold a9;rw[if_pos (by omega)];have h2:=Nat.mod_lt N (y:=2^63) (Nat.pow_pos (by omega));have e:(2:Nat)^63=9223372036854775808:=by decide
     omega
    obtain⟨v,hvv⟩:∃v,v=a9 N 63:=⟨_,rfl⟩;obtain⟨bx,hbx⟩:∃b,b=(un x).testBit 63:=⟨_,rfl⟩;obtain⟨by_,hby⟩:∃b,b=(un y).testBit 63:=⟨_,rfl⟩;rw[←hvv]at hS hv⊢;rw[←hbx]at CX hJ;rw[←hby]at CY hJ;rw[hJ]at hS;have HS:=hid hS;obtain⟨hv1,hv2⟩:=hv;clear hvv hbx hby hJ hS;cases bx<;>cases by_
    all_goals
     go_wp2_with(first|(go_at_call_of 190 (Value.int .i64 x);refine(CX.out _ _ rfl).mono ?_;rintro e w1 ⟨rfl,hw⟩;obtain rfl:=hw.symm)|(go_at_call_of 190 (Value.int .i64 y);refine(CY.out _ _ rfl).mono ?_;rintro e w1 ⟨rfl,hw⟩;obtain rfl:=hw.symm)|(go_at_call_of 126 (Value.int .i64 (62:Int));refine(P6.out _).mono ?_;rintro e w1 ⟨rfl,hw⟩;obtain rfl:=hw.symm)|(go_at_call 126;refine(PK.out _ _ rfl).mono ?_;rintro e w1 ⟨rfl,hw⟩;obtain rfl:=hw.symm));go_round
     case rel=>exact⟨64,by omega,by go_num,by rw[HS.out];simp[qdE]<;>omega⟩
     case measure=>simp[intOf]
   ·have e:k=64:=by omega
    subst e;go_wp2;go_ret;exact⟨rfl,rfl⟩
end Go.Proofs.YtiimkhepplkocaaGreat
namespace Go.Proofs.YtiimkhepplkocaaGreat
open Go.RowKit Go.Sort
set_option linter.unusedVariables false
theorem qMQ(a:Int):wrap64 (wrap64 a+wrap64 a)=wrap64 (a*2):=by unfold wrap64;omega
theorem qIW(x:Int)(n:Nat)(w:World)(hn:n≤63)(hx:I64 x):Calls Tryz.prog 181 #[.int .i64 17,.int .i64 x,.int .i64 n] w λe w'=>e=.returned (.int .i64 (wrap64 (x*2^n)))∧w'=w:=by
 have h0:wrap64 x=x:=by unfold I64 at hx;unfold wrap64;omega
 have H0:=hid h0;have i1:¬(n:Int)<0:=by omega
 have i2:¬(63:Int)<(n:Int):=by omega
 clear hx h0;go_enter Tryz.func181,Tryz.ntmps181;go_wp2;go_loop [1,7] (λv i=>∃k:Nat,k≤n∧i=.int .i64 k∧v=.int .i64 (wrap64 (x*2^k))) (λ_ i=>n-(intOf i).toNat)
 case atStart=>exact⟨0,Nat.zero_le _,rfl,by simp[H0.out]⟩
 case round=>
  obtain⟨k,hk,rfl,rfl⟩:=hrel;by_cases hlt:k<n
  ·have hS:wrap64 (wrap64 (x*2^k)+wrap64 (x*2^k))=wrap64 (x*2^(k+1)):=by rw[qMQ,Int.mul_assoc,←Int.pow_succ]
   obtain⟨v,hv⟩:∃v,v=wrap64 (x*2^k):=⟨_,rfl⟩;rw[←hv]at hS⊢;have HS:=hid hS;clear hS hv;go_wp2;go_round
   case rel=>exact⟨k+1,by omega,by go_num,by rw[←HS.out]⟩
   case measure=>simp[intOf];omega
  ·have e:k=n:=by omega
   subst e;go_wp2;go_ret;exact⟨rfl,rfl⟩
theorem qv9(x:Int)(k:Nat):x/2^(k+1)=x/2^k/2:=by
 rw[Int.pow_succ,Int.ediv_ediv_of_nonneg];exact Int.le_of_lt (Int.pow_pos (by omega))
theorem qv8{x:Int}(h:I64 x)(k:Nat):I64 (x/2^k):=by
 induction k with
 |zero=>simpa using h
 |succ k ih=>rw[qv9];unfold I64 at ih⊢;omega
theorem qIY(x:Int)(n:Nat)(w:World)(hn:n≤63)(hx:I64 x):Calls Tryz.prog 181 #[.int .i64 18,.int .i64 x,.int .i64 n] w λe w'=>e=.returned (.int .i64 (x/2^n))∧w'=w:=by
 have HX:=hid hx;have i1:¬(n:Int)<0:=by omega
 have i2:¬(63:Int)<(n:Int):=by omega
 clear hx;go_enter Tryz.func181,Tryz.ntmps181;go_wp2;go_loop [1,7] (λv i=>∃k:Nat,k≤n∧i=.int .i64 k∧v=.int .i64 (x/2^k)) (λ_ i=>n-(intOf i).toNat)
 case atStart=>exact⟨0,Nat.zero_le _,rfl,by simp⟩
 case round=>
  obtain⟨k,hk,rfl,rfl⟩:=hrel;by_cases hlt:k<n
  ·have hS:=qv9 x k
   have hb:=qv8 HX.out k;obtain⟨v,hv⟩:∃v,v=x/2^k:=⟨_,rfl⟩;rw[←hv]at hS hb⊢;have HS:=hid hS;obtain⟨hb1,hb2⟩:=hb;clear hS hv;by_cases hneg:v<0
   ·go_wp2
    go_round
    case rel=>exact⟨k+1,by omega,by go_num,by rw[HS.out];go_num⟩
    case measure=>simp[intOf];omega
   ·have hnn:0≤v:=by omega
    go_wp2;go_round
    case rel=>exact⟨k+1,by omega,by go_num,by rw[HS.out]⟩
    case measure=>simp[intOf];omega
  ·have e:k=n:=by omega
   subst e;go_wp2;go_ret;exact⟨rfl,rfl⟩
theorem qIX(x n:Int)(w:World)(hn:n<0∨63<n):Calls Tryz.prog 181 #[.int .i64 17,.int .i64 x,.int .i64 n] w λe w'=>e=.returned (.int .i64 0)∧w'=w:=by
 by_cases h0:n<0
 ·clear hn
  go_enter Tryz.func181,Tryz.ntmps181;go_wp2;go_ret;exact⟨rfl,rfl⟩
 ·have h1:63<n:=by omega
  clear hn;go_enter Tryz.func181,Tryz.ntmps181;go_wp2;go_ret;exact⟨rfl,rfl⟩
theorem qIZ(x n:Int)(w:World)(hn:n<0∨63<n)(hx:I64 x):Calls Tryz.prog 181 #[.int .i64 18,.int .i64 x,.int .i64 n] w λe w'=>e=.returned (.int .i64 (x/9223372036854775808))∧w'=w:=by
 by_cases h0:n<0<;>by_cases hx0:x<0
 ·have E:Hid (x/9223372036854775808=-1):=hid (by unfold I64 at hx;omega)
  rw[E.out];clear hn hx;go_enter Tryz.func181,Tryz.ntmps181;go_wp2;go_ret;exact⟨rfl,rfl⟩
 ·have E:Hid (x/9223372036854775808=0):=hid (by unfold I64 at hx;omega)
  rw[E.out];have d:decide (x<0)=false:=by simpa using hx0
  clear hn hx;go_enter Tryz.func181,Tryz.ntmps181;go_wp2;go_ret;exact⟨rfl,rfl⟩
 ·have E:Hid (x/9223372036854775808=-1):=hid (by unfold I64 at hx;omega)
  have h1:63<n:=by omega
  rw[E.out];clear hn hx;go_enter Tryz.func181,Tryz.ntmps181;go_wp2;go_ret;exact⟨rfl,rfl⟩
 ·have E:Hid (x/9223372036854775808=0):=hid (by unfold I64 at hx;omega)
  have h1:63<n:=by omega
  have d:decide (x<0)=false:=by simpa using hx0
  rw[E.out];clear hn hx;go_enter Tryz.func181,Tryz.ntmps181;go_wp2;go_ret;exact⟨rfl,rfl⟩
theorem uS(b:Bool)(w:World):Calls Tryz.prog 150 #[.bool b] w λe w'=>e=.returned (.int .i64 (uG b))∧w'=w:=by
 cases b
 ·go_enter Tryz.func150,Tryz.ntmps150
  go_wp2;go_ret;exact⟨rfl,rfl⟩
 ·go_enter Tryz.func150,Tryz.ntmps150
  go_wp2;go_ret;exact⟨rfl,rfl⟩
theorem qz8(x y:Int)(w:World)(hx:I64 x)(hy:I64 y):Calls Tryz.prog 151 #[.int .i64 4,.int .i64 x,.int .i64 y] w λe w'=>e=.returned (.int .i64 (aK 4 x y))∧w'=w:=by
 have T:=hid uS;clear hx hy;go_enter Tryz.func151,Tryz.ntmps151;go_wp2_with fail;go_ret;exact⟨aX (by simp[aK]),rfl⟩
theorem qz9(x y:Int)(w:World)(hx:I64 x)(hy:I64 y):Calls Tryz.prog 151 #[.int .i64 5,.int .i64 x,.int .i64 y] w λe w'=>e=.returned (.int .i64 (aK 5 x y))∧w'=w:=by
 have T:=hid uS;clear hx hy;go_enter Tryz.func151,Tryz.ntmps151;go_wp2_with fail;go_ret;exact⟨aX (by simp[aK]),rfl⟩
theorem qAA(x y:Int)(w:World)(hx:I64 x)(hy:I64 y):Calls Tryz.prog 151 #[.int .i64 6,.int .i64 x,.int .i64 y] w λe w'=>e=.returned (.int .i64 (aK 6 x y))∧w'=w:=by
 have T:=hid uS;clear hx hy;go_enter Tryz.func151,Tryz.ntmps151;go_wp2_with fail;go_ret;exact⟨aX (by simp[aK]),rfl⟩
theorem qAB(x y:Int)(w:World)(hx:I64 x)(hy:I64 y):Calls Tryz.prog 151 #[.int .i64 7,.int .i64 x,.int .i64 y] w λe w'=>e=.returned (.int .i64 (aK 7 x y))∧w'=w:=by
 have T:=hid uS;by_cases h0:y=0
 ·subst h0
  clear hx hy;go_enter Tryz.func151,Tryz.ntmps151;go_wp2_with fail;go_ret;exact⟨aX (by simp[aK]),rfl⟩
 ·have hy2:(y==0)=false:=by simpa using h0
  clear hx hy;go_enter Tryz.func151,Tryz.ntmps151;go_wp2_with fail;go_ret;exact⟨aX (by simp[aK,h0]),rfl⟩
theorem qAC(x y:Int)(w:World)(hx:I64 x)(hy:I64 y):Calls Tryz.prog 151 #[.int .i64 8,.int .i64 x,.int .i64 y] w λe w'=>e=.returned (.int .i64 (aK 8 x y))∧w'=w:=by
 have T:=hid uS;by_cases h0:y=0
 ·subst h0
  clear hx hy;go_enter Tryz.func151,Tryz.ntmps151;go_wp2_with fail;go_ret;exact⟨aX (by simp[aK]),rfl⟩
 ·have hy2:(y==0)=false:=by simpa using h0
  clear hx hy;go_enter Tryz.func151,Tryz.ntmps151;go_wp2_with fail;go_ret;exact⟨aX (by simp[aK,h0]),rfl⟩
theorem qAD(x y:Int)(w:World)(hx:I64 x)(hy:I64 y):Calls Tryz.prog 151 #[.int .i64 9,.int .i64 x,.int .i64 y] w λe w'=>e=.returned (.int .i64 (aK 9 x y))∧w'=w:=by
 have T:=hid uS;clear hx hy;go_enter Tryz.func151,Tryz.ntmps151;go_wp2_with(go_at_call 150;refine(T.out _ _).mono ?_;rintro e w2 ⟨rfl,hw⟩;obtain rfl:=hw.symm);go_ret;exact⟨aX (by simp[aK]),rfl⟩
theorem qz0(x y:Int)(w:World)(hx:I64 x)(hy:I64 y):Calls Tryz.prog 151 #[.int .i64 10,.int .i64 x,.int .i64 y] w λe w'=>e=.returned (.int .i64 (aK 10 x y))∧w'=w:=by
 have T:=hid uS;clear hx hy;go_enter Tryz.func151,Tryz.ntmps151;go_wp2_with(go_at_call 150;refine(T.out _ _).mono ?_;rintro e w2 ⟨rfl,hw⟩;obtain rfl:=hw.symm);go_ret;exact⟨aX (by simp[aK]),rfl⟩
theorem qz1(x y:Int)(w:World)(hx:I64 x)(hy:I64 y):Calls Tryz.prog 151 #[.int .i64 11,.int .i64 x,.int .i64 y] w λe w'=>e=.returned (.int .i64 (aK 11 x y))∧w'=w:=by
 have T:=hid uS;by_cases h0:x=0
 ·subst h0
  clear hx hy;go_enter Tryz.func151,Tryz.ntmps151;go_wp2_with(go_at_call 150;refine(T.out _ _).mono ?_;rintro e w2 ⟨rfl,hw⟩;obtain rfl:=hw.symm);go_ret;exact⟨aX (by simp[aK]),rfl⟩
 ·have hx2:(x !=0)=true:=by simpa using h0
  have E:Hid (aK 11 x y=uG (y !=0)):=hid (by
   by_cases h1:y=0
   ·simp[aK,h0,h1]
   ·have h2:(y !=0)=true:=by simpa using h1
    simp[aK,h0,h1,h2])
  clear h0;clear hx hy;go_enter Tryz.func151,Tryz.ntmps151;go_wp2_with(go_at_call 150;refine(T.out _ _).mono ?_;rintro e w2 ⟨rfl,hw⟩;obtain rfl:=hw.symm);go_ret;exact⟨aX (E.out.symm),rfl⟩
theorem qz2(x y:Int)(w:World)(hx:I64 x)(hy:I64 y):Calls Tryz.prog 151 #[.int .i64 12,.int .i64 x,.int .i64 y] w λe w'=>e=.returned (.int .i64 (aK 12 x y))∧w'=w:=by
 have T:=hid uS;by_cases h0:x=0
 ·subst h0
  have E:Hid (aK 12 0 y=uG (y !=0)):=hid (by
   by_cases h1:y=0
   ·simp[aK,h1]
   ·have h2:(y !=0)=true:=by simpa using h1
    simp[aK,h1,h2])
  clear hx hy;go_enter Tryz.func151,Tryz.ntmps151;go_wp2_with(go_at_call 150;refine(T.out _ _).mono ?_;rintro e w2 ⟨rfl,hw⟩;obtain rfl:=hw.symm);go_ret;exact⟨aX (E.out.symm),rfl⟩
 ·have hx2:(x !=0)=true:=by simpa using h0
  have E:Hid (aK 12 x y=uG true):=hid (by simp[aK,h0]);clear h0;clear hx hy;go_enter Tryz.func151,Tryz.ntmps151;go_wp2_with(go_at_call 150;refine(T.out _ _).mono ?_;rintro e w2 ⟨rfl,hw⟩;obtain rfl:=hw.symm);go_ret;exact⟨aX (E.out.symm),rfl⟩
theorem qz3(x y:Int)(w:World)(hx:I64 x)(hy:I64 y):Calls Tryz.prog 151 #[.int .i64 14,.int .i64 x,.int .i64 y] w λe w'=>e=.returned (.int .i64 (aK 14 x y))∧w'=w:=by
 have T:=hid uS;have S:=hid (λw=>qBD x y w hx hy);have E:Hid (aK 14 x y=a9 (sR 14 x y) 64):=hid (by simp only[aK];simp;exact qg2 14 .and x y (by simp));clear hx hy;go_enter Tryz.func151,Tryz.ntmps151;go_wp2_with(go_at_call 182;refine(S.out _).mono ?_;rintro e w2 ⟨rfl,hw⟩;obtain rfl:=hw.symm);go_ret;exact⟨aX (E.out.symm),rfl⟩
theorem qz4(x y:Int)(w:World)(hx:I64 x)(hy:I64 y):Calls Tryz.prog 151 #[.int .i64 15,.int .i64 x,.int .i64 y] w λe w'=>e=.returned (.int .i64 (aK 15 x y))∧w'=w:=by
 have T:=hid uS;have S:=hid (λw=>qBE x y w hx hy);have E:Hid (aK 15 x y=a9 (sR 15 x y) 64):=hid (by simp only[aK];simp;exact qg2 15 .or x y (by simp));clear hx hy;go_enter Tryz.func151,Tryz.ntmps151;go_wp2_with(go_at_call 182;refine(S.out _).mono ?_;rintro e w2 ⟨rfl,hw⟩;obtain rfl:=hw.symm);go_ret;exact⟨aX (E.out.symm),rfl⟩
theorem qz5(x y:Int)(w:World)(hx:I64 x)(hy:I64 y):Calls Tryz.prog 151 #[.int .i64 16,.int .i64 x,.int .i64 y] w λe w'=>e=.returned (.int .i64 (aK 16 x y))∧w'=w:=by
 have T:=hid uS;have S:=hid (λw=>qBF x y w hx hy);have E:Hid (aK 16 x y=a9 (sR 16 x y) 64):=hid (by simp only[aK];simp;exact qg2 16 .xor x y (by simp));clear hx hy;go_enter Tryz.func151,Tryz.ntmps151;go_wp2_with(go_at_call 182;refine(S.out _).mono ?_;rintro e w2 ⟨rfl,hw⟩;obtain rfl:=hw.symm);go_ret;exact⟨aX (E.out.symm),rfl⟩
theorem qz6(x y:Int)(w:World)(hx:I64 x)(hy:I64 y):Calls Tryz.prog 151 #[.int .i64 17,.int .i64 x,.int .i64 y] w λe w'=>e=.returned (.int .i64 (aK 17 x y))∧w'=w:=by
 have T:=hid uS;by_cases hc:iC y=true
 ·have h0:0≤y∧y≤63:=by simpa[iC]using hc
  obtain⟨k,rfl⟩:∃k:Nat,y=k:=⟨y.toNat,by omega⟩;have S:=hid (λw=>qIW x k w (by omega) hx);have E:Hid (aK 17 x k=_):=hid (by simp only[aK];simp[hc];rfl);clear hx hy;go_enter Tryz.func151,Tryz.ntmps151;go_wp2_with(go_at_call 181;refine(S.out _).mono ?_;rintro e w2 ⟨rfl,hw⟩;obtain rfl:=hw.symm);go_ret;exact⟨aX (by rw[E.out]),rfl⟩
 ·have hc':iC y=false:=by simpa using hc
  have S:=hid (λw=>qIX x y w (by simp[iC]at hc;omega));clear hx hy;go_enter Tryz.func151,Tryz.ntmps151;go_wp2_with(go_at_call 181;refine(S.out _).mono ?_;rintro e w2 ⟨rfl,hw⟩;obtain rfl:=hw.symm);go_ret;exact⟨aX (by simp[aK,hc']),rfl⟩
theorem qz7(x y:Int)(w:World)(hx:I64 x)(hy:I64 y):Calls Tryz.prog 151 #[.int .i64 18,.int .i64 x,.int .i64 y] w λe w'=>e=.returned (.int .i64 (aK 18 x y))∧w'=w:=by
 have T:=hid uS;by_cases hc:iC y=true
 ·have h0:0≤y∧y≤63:=by simpa[iC]using hc
  obtain⟨k,rfl⟩:∃k:Nat,y=k:=⟨y.toNat,by omega⟩;have S:=hid (λw=>qIY x k w (by omega) hx);have E:Hid (aK 18 x k=_):=hid (by simp only[aK];simp[hc];rfl);clear hx hy;go_enter Tryz.func151,Tryz.ntmps151;go_wp2_with(go_at_call 181;refine(S.out _).mono ?_;rintro e w2 ⟨rfl,hw⟩;obtain rfl:=hw.symm);go_ret;exact⟨aX (by rw[E.out]),rfl⟩
 ·have hc':iC y=false:=by simpa using hc
  have S:=hid (λw=>qIZ x y w (by simp[iC]at hc;omega) hx);clear hx hy;go_enter Tryz.func151,Tryz.ntmps151;go_wp2_with(go_at_call 181;refine(S.out _).mono ?_;rintro e w2 ⟨rfl,hw⟩;obtain rfl:=hw.symm);go_ret;exact⟨aX (by simp[aK,hc']),rfl⟩
theorem qAE(op x y:Int)(w:World)(h:dI op)(hx:I64 x)(hy:I64 y):Calls Tryz.prog 151 #[.int .i64 op,.int .i64 x,.int .i64 y] w λe w'=>e=.returned (.int .i64 (aK op x y))∧w'=w:=by
 have hk:op=4∨op=5∨op=6∨op=7∨op=8∨op=9∨op=10∨op=11∨op=12∨op=14∨op=15∨op=16∨op=17∨op=18:=by unfold dI at h;omega
 rcases hk with rfl|rfl|rfl|rfl|rfl|rfl|rfl|rfl|rfl|rfl|rfl|rfl|rfl|rfl
 ·exact qz8 x y w hx hy
 ·exact qz9 x y w hx hy
 ·exact qAA x y w hx hy
 ·exact qAB x y w hx hy
 ·exact qAC x y w hx hy
 ·exact qAD x y w hx hy
 ·exact qz0 x y w hx hy
 ·exact qz1 x y w hx hy
 ·exact qz2 x y w hx hy
 ·exact qz3 x y w hx hy
 ·exact qz4 x y w hx hy
 ·exact qz5 x y w hx hy
 ·exact qz6 x y w hx hy
 ·exact qz7 x y w hx hy
end Go.Proofs.YtiimkhepplkocaaGreat
namespace Go.Proofs.YtiimkhepplkocaaGreat
open Go.RowKit Go.Sort
set_option linter.unusedVariables false
theorem qiG(b:Bool):I64 (uG b):=by cases b<;>simp[uG,I64]
theorem qoD{k x:Int}(hx:I64 x):I64 (conv k x):=by
 unfold I64 at*;unfold conv
 split
 ·omega
 split
 ·omega
 split
 ·omega
 split
 ·omega
 split
 ·omega
 split
 ·omega
 split<;>omega
theorem qo1(N:Nat):I64 (a9 N 64):=by
 have h2:=Nat.mod_lt N (y:=2^63) (Nat.pow_pos (by omega));have e:(2:Nat)^63=9223372036854775808:=by decide
 unfold a9 I64;rw[if_neg (by omega)];split<;>omega
theorem qKP{x y:Int}(hx:I64 x)(hy:y≠0):I64 (x.tmod y):=by
 have h1:(x.tmod y).natAbs≤x.natAbs:=by
  rw[Int.natAbs_tmod];exact Nat.mod_le _ _
 unfold I64 at*;rcases Int.le_total 0 x with h|h
 ·have:=Int.tmod_nonneg y h
  omega
 ·have h2:0≤(-x).tmod y:=Int.tmod_nonneg y (by omega)
  rw[Int.neg_tmod]at h2;omega
theorem qA9{op x y:Int}(h:dI op)(hx:I64 x)(hy:I64 y):I64 (aK op x y):=by
 have hk:op=4∨op=5∨op=6∨op=7∨op=8∨op=9∨op=10∨op=11∨op=12∨op=14∨op=15∨op=16∨op=17∨op=18:=by unfold dI at h;omega
 have z:I64 0:=by unfold I64;omega
 rcases hk with rfl|rfl|rfl|rfl|rfl|rfl|rfl|rfl|rfl|rfl|rfl|rfl|rfl|rfl
 ·exact qiR _
 ·exact qiR _
 ·exact qiR _
 ·show I64 (if y=0 then 0 else wrap64 (x.tdiv y))
  split
  ·exact z
  ·exact qiR _
 ·show I64 (if y=0 then 0 else x.tmod y)
  split
  ·exact z
  ·exact qKP hx (by assumption)
 ·exact qiG _
 ·exact qiG _
 ·exact qiG _
 ·exact qiG _
 ·have e:aK 14 x y=a9 (sR 14 x y) 64:=by simp only[aK];simp;exact qg2 14 .and x y (by simp)
  rw[e];exact qo1 _
 ·have e:aK 15 x y=a9 (sR 15 x y) 64:=by simp only[aK];simp;exact qg2 15 .or x y (by simp)
  rw[e];exact qo1 _
 ·have e:aK 16 x y=a9 (sR 16 x y) 64:=by simp only[aK];simp;exact qg2 16 .xor x y (by simp)
  rw[e];exact qo1 _
 ·show I64 (if iC y then wrap64 (x*2^y.toNat)else 0)
  split
  ·exact qiR _
  ·exact z
 ·show I64 (if iC y then x/2^y.toNat else x/9223372036854775808)
  split
  ·exact qv8 hx _
  ·unfold I64 at*;omega
def uY(w:World)(ao:Option Addr)(n c:Nat)(vo:Option Addr)(vn vc:Nat)(vs:List Int)(arg:Int)(e:Nat)(t:Tree):Prop:=
 I64 (a8 vs arg t)∧∀w',Below w.heap.size w w'→Calls Tryz.prog 112 #[.slice ao n c,.int .i64 e,.slice vo vn vc,.int .i64 arg] w' λr w''=>r=.returned (.int .i64 (a8 vs arg t))∧Below w'.heap.size w' w''
section
variable {w:World} {ao:Option Addr} {n c:Nat} {its:List (Int×Int)} {vo:Option Addr} {vn vc:Nat} {vs:List Int} {arg:Int}
theorem qMG(hs:ItemsOf w ao n its)(hn:n≤1048576){e:Nat}(he:e<n){x:Int}(hit:its.getD e (0,0)=(1,x))(hx:I64 x):uY w ao n c vo vn vc vs arg (e+1) (.num x):=by
 refine⟨hx,λw' hb=>?_⟩;obtain⟨b,off,rfl,hbl,hc⟩:=(hs.below hb).2 (by omega);have k1:=(hc e he).1;have k2:=(hc e he).2;rw[hit]at k1 k2;simp only at k1 k2;show Calls _ _ _ _ λr w''=>r=.returned (.int .i64 x)∧_;clear hc hs hb hit;have hlt:(e:Int)<(n:Int):=by omega
 go_enter Tryz.func112,Tryz.ntmps112;go_wp2;go_ret;exact⟨rfl,aB _ _⟩
theorem qMC(hs:ItemsOf w ao n its)(hn:n≤1048576){e:Nat}(he:e<n){x:Int}(hit:its.getD e (0,0)=(3,x))(hx:I64 arg):uY w ao n c vo vn vc vs arg (e+1) .arg:=by
 refine⟨hx,λw' hb=>?_⟩;obtain⟨b,off,rfl,hbl,hc⟩:=(hs.below hb).2 (by omega);have k1:=(hc e he).1;have k2:=(hc e he).2;rw[hit]at k1 k2;simp only at k1 k2;show Calls _ _ _ _ λr w''=>r=.returned (.int .i64 arg)∧_;clear hc hs hb hit;have hlt:(e:Int)<(n:Int):=by omega
 go_enter Tryz.func112,Tryz.ntmps112;go_wp2;go_ret;exact⟨rfl,aB _ _⟩
theorem qMI(hs:ItemsOf w ao n its)(hv:SliceOf w vo vn vs)(hn:n≤1048576){e:Nat}(he:e<n){k:Nat}(hk:k<vn)(hit:its.getD e (0,0)=(2,(k:Int)))(hx:∀i,I64 (vs.getD i 0)):uY w ao n c vo vn vc vs arg (e+1) (.var k):=by
 have ev:a8 vs arg (.var k)=vs.getD k 0:=by simp[a8]
 refine⟨by rw[ev];exact hx k,λw' hb=>?_⟩;rw[ev];obtain⟨b,off,rfl,hbl,hc⟩:=(hs.below hb).2 (by omega);obtain⟨b2,off2,rfl,hbl2,hc2⟩:=(hv.below hb).2 (by omega);have k1:=(hc e he).1;have k2:=(hc e he).2;have k3:=hc2 k hk;rw[hit]at k1 k2;simp only at k1 k2;obtain⟨z,hz⟩:∃z,z=vs.getD k 0:=⟨_,rfl⟩;rw[←hz]at k3⊢;clear hc hc2 hs hv hb hit ev hz hx;have hlt:(e:Int)<(n:Int):=by omega
 have hlt2:(k:Int)<(vn:Int):=by omega
 go_enter Tryz.func112,Tryz.ntmps112;go_wp2;go_ret;exact⟨rfl,aB _ _⟩
theorem qMF(hs:ItemsOf w ao n its)(hn:n≤1048576){e:Nat}(he:e<n){x:Int}{t:Tree}(hit:its.getD e (0,0)=(13,x))(ht:uY w ao n c vo vn vc vs arg e t):uY w ao n c vo vn vc vs arg (e+1) (.no t):=by
 refine⟨qiG _,λw' hb=>?_⟩;show Calls _ _ _ _ λr w''=>r=.returned (.int .i64 (uG (a8 vs arg t==0)))∧_;obtain⟨b,off,rfl,hbl,hc⟩:=(hs.below hb).2 (by omega);have k1:=(hc e he).1;have k2:=(hc e he).2;rw[hit]at k1 k2;simp only at k1 k2;have C:=hid (λw'' h=>ht.2 w'' (hb.trans (Below.mono h hb.size)));have T:=hid uS;obtain⟨q,hq⟩:∃q,q=a8 vs arg t:=⟨_,rfl⟩;rw[←hq]at C⊢;clear hc hs hb hit ht hq;have hlt:(e:Int)<(n:Int):=by omega
 go_enter Tryz.func112,Tryz.ntmps112;go_wp2_with(first|(go_at_call 112;refine(C.out _ (aB _ _)).mono ?_;rintro r w1 ⟨rfl,hb⟩;have B:=hid hb;clear hb)|(go_at_call 150;refine(T.out _ _).mono ?_;rintro r w2 ⟨rfl,hw⟩;obtain rfl:=hw.symm));go_ret;exact⟨rfl,(aB _ _).trans (B.out.mono (by simp))⟩
theorem qMD(hs:ItemsOf w ao n its)(hn:n≤1048576){e:Nat}(he:e<n){op x:Int}{l r:Tree}(hop:dI op)(hit:its.getD e (0,0)=(op,x))(hr:uY w ao n c vo vn vc vs arg e r)(h0:0≤bgn its e)(hl:uY w ao n c vo vn vc vs arg (bgn its e).toNat l):uY w ao n c vo vn vc vs arg (e+1) (.bin op l r):=by
 refine⟨qA9 hop hl.1 hr.1,λw' hb=>?_⟩;show Calls _ _ _ _ λq w''=>q=.returned (.int .i64 (aK op (a8 vs arg l) (a8 vs arg r)))∧_;have A:=hid (λw=>qAE op (a8 vs arg l) (a8 vs arg r) w hop hl.1 hr.1);have G:=hid (λw'' (h:Below w'.heap.size w' w'')=>qxG ao n c its hn e w'' (by omega) ((hs.below hb).below h));obtain⟨b,off,rfl,hbl,hc⟩:=(hs.below hb).2 (by omega);have k1:=(hc e he).1;have k2:=(hc e he).2;rw[hit]at k1 k2;simp only at k1 k2;have CR:=hid (λw'' h=>hr.2 w'' (hb.trans (Below.mono h hb.size)));have CL:=hid (λw'' h=>hl.2 w'' (hb.trans (Below.mono h hb.size)));obtain⟨m,hm⟩:∃m:Nat,bgn its e=m:=⟨(bgn its e).toNat,by omega⟩;rw[hm]at CL G;have em:((m:Int)).toNat=m:=by omega
 rw[em]at CL;obtain⟨ql,hql⟩:∃q,q=a8 vs arg l:=⟨_,rfl⟩;obtain⟨qr,hqr⟩:∃q,q=a8 vs arg r:=⟨_,rfl⟩;rw[←hql]at CL A⊢;rw[←hqr]at CR A⊢;have e1:(op==1)=false:=by unfold dI at hop;simp;omega
 have e2:(op==2)=false:=by unfold dI at hop;simp;omega
 have e3:(op==3)=false:=by unfold dI at hop;simp;omega
 have e13:(op==13)=false:=by unfold dI at hop;simp;omega
 have e19:(op==19)=false:=by unfold dI at hop;simp;omega
 have R1:=hid (heap_alloc_new w' (.cells #[.int .i64 op,.int .i64 x] 205));clear hc hs hb hit hl hr hql hqr hop h0 hm em;have hlt:(e:Int)<(n:Int):=by omega
 go_enter Tryz.func112,Tryz.ntmps112;go_wp2_with(go_at_call 112;refine(CR.out _ (aB _ _)).mono ?_;rintro q w1 ⟨rfl,hb⟩;have B:=hid ((aB _ _).trans (hb.mono (by simp)));have R2:=hid (aA R1.out hb);clear hb);go_wp2_with(go_at_call 149;refine(G.out _ B.out).mono ?_;rintro q w2 ⟨rfl,hw⟩;obtain rfl:=hw.symm);go_wp2_with(go_at_call 112;refine(CL.out _ B.out).mono ?_;rintro q w3 ⟨rfl,hb⟩;have B3:=hid (B.out.trans (hb.mono B.out.size));obtain⟨r0,r1,_,_⟩:=aF (aA R2.out hb);clear hb);go_wp2_with(go_at_call 151;refine(A.out _).mono ?_;rintro q w4 ⟨rfl,hw⟩;obtain rfl:=hw.symm);go_ret;exact⟨rfl,B3.out⟩
end
end Go.Proofs.YtiimkhepplkocaaGreat
namespace Go.Proofs.YtiimkhepplkocaaGreat
open Go.RowKit Go.Sort
set_option linter.unusedVariables false
section
variable {w:World} {ao:Option Addr} {n c:Nat} {its:List (Int×Int)} {vo:Option Addr} {vn vc:Nat} {vs:List Int} {arg:Int}
theorem qME(hs:ItemsOf w ao n its)(hn:n≤1048576){e:Nat}(he:e<n){k:Int}{t:Tree}(h1:1≤k)(h7:k≤7)(hit:its.getD e (0,0)=(19,k))(ht:uY w ao n c vo vn vc vs arg e t):uY w ao n c vo vn vc vs arg (e+1) (.conv k t):=by
 refine⟨qoD ht.1,λw' hb=>?_⟩;show Calls _ _ _ _ λr w''=>r=.returned (.int .i64 (conv k (a8 vs arg t)))∧_;obtain⟨b,off,rfl,hbl,hc⟩:=(hs.below hb).2 (by omega);have k1:=(hc e he).1;have k2:=(hc e he).2;rw[hit]at k1 k2;simp only at k1 k2;have C:=hid (λw'' h=>ht.2 w'' (hb.trans (Below.mono h hb.size)));obtain⟨q,hq⟩:∃q,q=a8 vs arg t:=⟨_,rfl⟩;rw[←hq]at C⊢;obtain⟨W,hW⟩:∃W,W=w'.alloc (.cells #[.int .i64 19,.int .i64 k] 205):=⟨_,rfl⟩;have bW:Below w'.heap.size w' W:=by rw[hW];exact aB _ _
 have hcc:=aF (show W.heap[w'.heap.size]? =some (.cells #[.int .i64 19,.int .i64 k] 205 (0,0)) by rw[hW];exact heap_alloc_new w' _);have q1:=cell_regrown hcc.2.1;have BW:=hid bW;have HW:=hid hW;have hsz:w'.heap.size≤W.heap.size:=bW.size;have c54:∀d os,Calls Tryz.prog 112 #[.slice (some ⟨b,off,none⟩) n c,.int .i64 e,.slice vo vn vc,.int .i64 arg] (grow (redrawn W d) os) λr w''=>r=.returned (.int .i64 q)∧∃p:Regrown,w''=grow (redrawn W p.d) p.os:=
  λd os=>Calls.regrown_of (C.out _ (BW.out.trans ((below_regrown W d os).mono hsz)))
 have c49:∀d os,Calls Tryz.prog 73 #[.int .i64 k,.int .i64 q] (grow (redrawn W d) os) λr w''=>r=.returned (.int .i64 (conv k q))∧∃p:Regrown,w''=grow (redrawn W p.d) p.os:=
  λd os=>Calls.regrown_of (qjH k q _ h1 h7)
 clear hc hs hb hit ht hq hcc bW hW;have hlt:(e:Int)<(n:Int):=by omega
 go_enter Tryz.func112,Tryz.ntmps112;go_wp2;rw[←HW.out];refine wp_region_quiet_below (by kernel_rfl) (by kernel_rfl) ?_
 repeat(any_goals(first|go_big_quiet_step(first|exact c54 _ _|exact c49 _ _)|quiet_step (first|exact c54 _ _|exact c49 _ _)))
 refine wpQuiet_nil ?_;intro _ hw';obtain⟨⟨dq,osq⟩,hw''⟩:=hw';subst hw'';go_wp2;go_ret;exact⟨rfl,BW.out.trans ((below_regrown W dq osq).mono hsz)⟩
theorem qMH(hs:ItemsOf w ao n its)(hv:SliceOf w vo vn vs)(hn:n≤1048576)(hx:∀i,I64 (vs.getD i 0))(ha:I64 arg):∀e st t,e<its.length→Seg (uY w ao n c vo vn vc vs arg) its e st→aS vn (its.getD e (0,0)).1 (its.getD e (0,0)).2 st=some (t,st.drop (bB (dG its e)))→uY w ao n c vo vn vc vs arg (e+1) t:=by
 intro e st t he hseg h;have he':e<n:=by rw[←hs.1];exact he
 obtain⟨⟨op,val⟩,hit⟩:∃p,its.getD e (0,0)=p:=⟨_,rfl⟩;have hop:dG its e=op:=by unfold dG;rw[hit]
 rw[hit,hop]at h;simp only at h;unfold aS at h;split at h
 ·rename_i h1
  subst h1;split at h<;>simp at h;rename_i hv;rw[←h.1];exact qMG hs hn he' hit (by unfold I64;omega)
 split at h
 ·rename_i h1
  subst h1;split at h<;>simp at h;rename_i hvv;rw[←h.1];obtain⟨k,rfl⟩:∃k:Nat,val=k:=⟨val.toNat,by omega⟩;exact qMI hs hv hn he' (by omega) hit hx
 split at h
 ·rename_i h1
  subst h1;split at h
  ·rename_i hvv
   split at h<;>simp at h;rw[←h.1];exact qME hs hn he' hvv.1 hvv.2 hit hseg.2.1
  ·simp at h
 split at h
 ·simp at h
 split at h
 ·rename_i h1
  subst h1;simp at h;rw[←h.1];exact qMC hs hn he' hit ha
 split at h
 ·rename_i h1
  subst h1;split at h<;>simp at h;rw[←h.1];exact qMF hs hn he' hit hseg.2.1
 ·split at h
  ·split at h<;>simp at h
   rename_i hbo;rw[←h.1];exact qMD hs hn he' hbo hit hseg.2.1 hseg.1 hseg.2.2.2.1
  ·simp at h
theorem qqH(hs:ItemsOf w ao n its)(hv:SliceOf w vo vn vs)(hx:∀i,I64 (vs.getD i 0))(ha:I64 arg){t:Tree}(hl:aV its vn=some t):uY w ao n c vo vn vc vs arg n t:=by
 obtain⟨_,h2,h3⟩:=qh3 hl;have hn:n≤1048576:=by rw[←hs.1];omega
 have e:its.take its.length=its:=List.take_length;obtain⟨hseg,_⟩:=qyQ (P:=uY w ao n c vo vn vc vs arg) (its:=its) (vars:=vn) (qMH hs hv hn hx ha) its.length [t] (Nat.le_refl _) (by rw[e];exact h3);have:=hseg.2.1;rw[hs.1]at this;exact this
end
end Go.Proofs.YtiimkhepplkocaaGreat

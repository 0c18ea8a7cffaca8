import Derived.Test.YtiimkhepplkocaaGreatZ18
import Derived.Test.YtiimkhepplkocaaGreatDa
namespace Go.Proofs.YtiimkhepplkocaaGreat
open Go.RowKit Go.Sort
set_option linter.unusedVariables false
attribute [local go_sem ↓] Go.wp_at_zero Go.wp_at_succ
structure RwD where
 tr:Int
 ex:List Nat
 en:List Nat
 nx:Int
def rw0:RwD:=⟨0,[],[],0⟩
def RowIn(X:World)(B:Nat)(d:RwD)(c:List Value):Prop:=∃xv nv,c=[.int .i64 d.tr,xv,nv,.int .i64 d.nx]∧X.ownsRow B 3 1 xv d.ex.length (aG d.ex)∧X.ownsRow B 3 1 nv d.en.length (aG d.en)
def RowsIn(X:World)(B:Nat)(ds:List RwD)(R:List (List Value)):Prop:=R.length=ds.length∧∀i,i<ds.length→RowIn X B (ds.getD i rw0) (R.getD i [])
theorem qHO{w:World}{B:Nat}{v:Value}{l:List Nat}(h:w.ownsRow B 3 1 v l.length (aG l)):∃ao c,v=.slice ao l.length c∧SliceOf w ao l.length (l.map λ(x:Nat)=>(x:Int)):=by
 obtain⟨ao,c,hv⟩:=aO h;refine⟨ao,c,hv,by simp,λh0=>?_⟩;obtain⟨g,cap,e,_,h3⟩:=World.ownsRow.form h h0;rw[hv]at e;simp at e;refine⟨g,0,e.1,h3,λi hi=>?_⟩;rw[hv,e.1,e.2]at h;rw[Nat.zero_add,World.ownsRow.cellAt h i (by omega)];simp[aG,List.getD_eq_getElem?_getD,hi]
end Go.Proofs.YtiimkhepplkocaaGreat
namespace Go.Proofs.YtiimkhepplkocaaGreat
open Go.RowKit Go.Sort
set_option linter.unusedVariables false
attribute [local go_sem ↓] Go.wp_at_zero Go.wp_at_succ
theorem RowIn.below{X Y:World}{B:Nat}{d:RwD}{c:List Value}(h:RowIn X B d c)(hb:Below X.heap.size X Y):RowIn Y B d c:=by
 obtain⟨xv,nv,h1,h2,h3⟩:=h;exact⟨xv,nv,h1,aI h2 hb,aI h3 hb⟩
theorem RowsIn.below{X Y:World}{B:Nat}{ds:List RwD}{R:List (List Value)}(h:RowsIn X B ds R)(hb:Below X.heap.size X Y):RowsIn Y B ds R:=⟨h.1,λi hi=>(h.2 i hi).below hb⟩
end Go.Proofs.YtiimkhepplkocaaGreat
namespace Go.Proofs.YtiimkhepplkocaaGreat
open Go.RowKit Go.Sort
set_option linter.unusedVariables false
attribute [local go_sem ↓] Go.wp_at_zero Go.wp_at_succ
def qa3(xv nv:Nat→Value)(n:Nat)(b:Nat):Prop:=∃i,i<n∧((xv i).ownBlock=some b∨(nv i).ownBlock=some b)
def qzN(xv nv:Nat→Value)(n:Nat):Prop:=∀i j,i<n→j<n→(∀b,(xv i).ownBlock=some b→(nv j).ownBlock≠some b)∧(i≠j→(∀b,(xv i).ownBlock=some b→(xv j).ownBlock≠some b)∧∀b,(nv i).ownBlock=some b→(nv j).ownBlock≠some b)
theorem qhF{w:World}{B C:Nat}{s1 s2:Nat}{v u:Value}{n m:Nat}{xs ys:List Value}(h:w.ownsRow B 3 s1 v n xs)(k:w.ownsRow C 44 s2 u m ys):∀b,v.ownBlock=some b→u.ownBlock≠some b:=λb e e2=>by
 obtain⟨cs,h1⟩:=qjT h b e;exact qh6 k h1 (by decide) e2
end Go.Proofs.YtiimkhepplkocaaGreat
namespace Go.Proofs.YtiimkhepplkocaaGreat
open Go.RowKit Go.Sort
set_option linter.unusedVariables false
attribute [local go_sem ↓] Go.wp_at_zero Go.wp_at_succ
end Go.Proofs.YtiimkhepplkocaaGreat
namespace Go.Proofs.YtiimkhepplkocaaGreat
open Go.RowKit Go.Sort
set_option linter.unusedVariables false
attribute [local go_sem ↓] Go.wp_at_zero Go.wp_at_succ
theorem dF{w:World}{H:Nat}{a b c d e f g h:Value}{t:TypeId}(k:w.heap[H]? =some (.cells #[a,b,c,d,e,f,g,h] t (0,0))):w.cell? ⟨H,0,none⟩=some a∧w.cell? ⟨H,1,none⟩=some b∧w.cell? ⟨H,2,none⟩=some c∧w.cell? ⟨H,3,none⟩=some d∧w.cell? ⟨H,4,none⟩=some e∧w.cell? ⟨H,5,none⟩=some f∧w.cell? ⟨H,6,none⟩=some g∧w.cell? ⟨H,7,none⟩=some h:=by simp[World.cell?,k]
structure TbD where
 sg:Int
 lv:List Nat
 st:List Nat
 rw:List RwD
 bt:RwD
def qdS(lv sv bx bn:Value)(b:Nat):Prop:=lv.ownBlock=some b∨sv.ownBlock=some b∨bx.ownBlock=some b∨bn.ownBlock=some b
structure qzQ (d:TbD):Prop where
 l:d.lv.length≤1048576
 s:d.st.length≤1048576
 x:d.bt.ex.length≤1048576
 n:d.bt.en.length≤1048576
 r:d.rw.length≤2000000000
 e:∀i,i<d.rw.length→(d.rw.getD i rw0).ex.length≤400∧(d.rw.getD i rw0).en.length≤400
abbrev zB(d:TbD)(lv sv rv bx bn:Value):Value:=.agg #[.int .i64 d.sg,lv,sv,rv,.int .i64 d.bt.tr,bx,bn,.int .i64 d.bt.nx]
end Go.Proofs.YtiimkhepplkocaaGreat
namespace Go.Proofs.YtiimkhepplkocaaGreat
open Go.RowKit Go.Sort
set_option linter.unusedVariables false
attribute [local go_sem ↓] Go.wp_at_zero Go.wp_at_succ
abbrev Off(u v:Value):Prop:=∀b,u.ownBlock=some b→v.ownBlock≠some b
structure ApT (lv sv rv bx bn:Value) (xv nv:Nat→Value) (n:Nat):Prop where
 ls:Off lv sv
 lx:Off lv bx
 ln:Off lv bn
 sx:Off sv bx
 sn:Off sv bn
 xn:Off bx bn
 inn:∀b,qdS lv sv bx bn b→¬(rv.ownBlock=some b∨qa3 xv nv n b)
 row:qzN xv nv n
end Go.Proofs.YtiimkhepplkocaaGreat

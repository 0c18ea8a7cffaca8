import Derived.Test.YtiimkhepplkocaaGreatXa
import Derived.Test.YtiimkhepplkocaaGreatKa
namespace Go.Proofs.YtiimkhepplkocaaGreat
open Go.RowKit Go.Sort
structure ObD where
 prio:Int
 qcap:Int
 dcap:Int
 kinds:List Int
 vals:List Int
 subs:List Int
 sts:List StD
 trs:List TrD
def ob0:ObD:=⟨0,0,0,[],[],[],[],[]⟩
structure ObS where
 ko:Option Addr
 kn:Nat
 kc:Nat
 vo:Option Addr
 vn:Nat
 vc:Nat
 uo:Option Addr
 un:Nat
 uc:Nat
 so:Option Addr
 sn:Nat
 sc:Nat
 to:Option Addr
 tn:Nat
 tc:Nat
structure ObOf (w:World) (h:ObS) (x:ObD):Prop where
 hk:SliceOf w h.ko h.kn x.kinds
 hv:SliceOf w h.vo h.vn x.vals
 hu:SliceOf w h.uo h.un x.subs
 hs:StatesOf w h.so h.sn x.sts
 ht:TransOf w h.to h.tn x.trs
structure qnX (h:ObS):Prop where
 hk:h.kn≤9223372036854775807
 hv:h.vn≤9223372036854775807
 hu:h.un≤9223372036854775807
 hs:h.sn≤9223372036854775807
 ht:h.tn≤9223372036854775807
 hc:h.un≤h.uc
theorem ObOf.below{w w':World}{h:ObS}{x:ObD}(k:ObOf w h x)(hb:Below w.heap.size w w'):ObOf w' h x:=⟨k.hk.below hb,k.hv.below hb,k.hu.below hb,k.hs.below hb,k.ht.below hb⟩
structure ObCells (w:World) (b o:Nat) (p q d:Int) (h:ObS):Prop where
 c0:w.cell? ⟨b,o,none⟩=some (.int .i64 p)
 c1:w.cell? ⟨b,o+1,none⟩=some (.int .i64 q)
 c2:w.cell? ⟨b,o+2,none⟩=some (.int .i64 d)
 c3:w.cell? ⟨b,o+3,none⟩=some (.slice h.ko h.kn h.kc)
 c4:w.cell? ⟨b,o+4,none⟩=some (.slice h.vo h.vn h.vc)
 c5:w.cell? ⟨b,o+5,none⟩=some (.slice h.uo h.un h.uc)
 c6:w.cell? ⟨b,o+6,none⟩=some (.slice h.so h.sn h.sc)
 c7:w.cell? ⟨b,o+7,none⟩=some (.slice h.to h.tn h.tc)
theorem ObCells.below{w w':World}{b o:Nat}{p q d:Int}{h:ObS}{B:Nat}(k:ObCells w b o p q d h)(hlt:b<B)(hb:Below B w w'):ObCells w' b o p q d h:=
 ⟨(hb.cell (p:=⟨b,o,none⟩) hlt).trans k.c0,(hb.cell (p:=⟨b,o+1,none⟩) hlt).trans k.c1,(hb.cell (p:=⟨b,o+2,none⟩) hlt).trans k.c2,(hb.cell (p:=⟨b,o+3,none⟩) hlt).trans k.c3,(hb.cell (p:=⟨b,o+4,none⟩) hlt).trans k.c4,(hb.cell (p:=⟨b,o+5,none⟩) hlt).trans k.c5,(hb.cell (p:=⟨b,o+6,none⟩) hlt).trans k.c6,(hb.cell (p:=⟨b,o+7,none⟩) hlt).trans k.c7⟩
def ObAt(w:World)(b o:Nat)(x:ObD):Prop:=∃h,ObCells w b o x.prio x.qcap x.dcap h∧qnX h∧ObOf w h x
def ObsOf(w:World)(ao:Option Addr)(n:Nat)(os:List ObD):Prop:=
 os.length=n∧(0<n→∃b off,ao=some ⟨b,off,none⟩∧b<w.heap.size∧∀i,i<n→ObAt w b (off+i*8) (os.getD i ob0))
theorem ObAt.below{w w':World}{b o:Nat}{x:ObD}(h:ObAt w b o x)(hlt:b<w.heap.size)(hb:Below w.heap.size w w'):ObAt w' b o x:=by
 obtain⟨s,h1,h2,h3⟩:=h;exact⟨s,h1.below hlt hb,h2,h3.below hb⟩
theorem ObsOf.below{w w':World}{ao:Option Addr}{n:Nat}{os:List ObD}(h:ObsOf w ao n os)(hb:Below w.heap.size w w'):ObsOf w' ao n os:=
 ⟨h.1,λhn=>by
  obtain⟨b,off,e,hlt,hc⟩:=h.2 hn;exact⟨b,off,e,Nat.lt_of_lt_of_le hlt hb.size,λi hi=>(hc i hi).below hlt hb⟩⟩
end Go.Proofs.YtiimkhepplkocaaGreat

import Derived.Test.YtkdgkomnbjepdaaGreatDoorPa
import Derived.Test.YtkdgkomnbjepdaaGreatDoorOa
import Derived.BigQuiet
import Derived.Deep.AppendLies
namespace Go.Proofs.YtkdgkomnbjepdaaGreatDoor
open Go.RowKit Go.Sort
set_option linter.unusedVariables false
structure SyD where
 sigs : Int
 obs : List ObD
 tms : List (Int × Int)
def sy0 : SyD := ⟨0,[],[]⟩
def opsL : List (List UInt8) := [opName 4,opName 5,opName 6,opName 7,opName 8,opName 9,opName 10,opName 11,opName 12,opName 13,opName 14,opName 15,opName 16,opName 17,opName 18]
def kindsL : List (List UInt8) := [kindName 1,kindName 2,kindName 3,kindName 4,kindName 5,kindName 6,kindName 7]
def stmsL : List (List UInt8) := [stmName 1,stmName 2,stmName 3,stmName 4,stmName 5,stmName 6,stmName 7,stmName 8,stmName 9]
def wArg : List UInt8 := [97,114,103]
def itemW (f : List UInt8) : Option (Int × Int) :=
 if 0 ≤ placeN opsL f 0 then some (4 + placeN opsL f 0,0)
 else if 0 ≤ placeN kindsL f 0 then some (19,1 + placeN kindsL f 0)
 else if f = wArg then some (3,0)
 else if 1 < f.length ∧ f.getD 0 0 = 118 ∧ ¬ f.getD 1 0 = 45 then (num? f.tail).map (fun n => (2,n))
 else (num? f).map (fun n => (1,n))
def codeW : List (List UInt8) → Option (List (Int × Int))
 | [] => some []
 | f :: r => match itemW f,codeW r with
  | some x,some y => some (x :: y)
  | _,_ => none
def stmW (fs : List (List UInt8)) : Option StmD :=
 match fs with
 | [] => none
 | f :: r =>
  if placeN stmsL f 0 < 0 then none else
  match numsN r (formT (1 + placeN stmsL f 0)).length with
  | none => none
  | some ns =>
   if formC (1 + placeN stmsL f 0) = true then
    (codeW (r.drop (formT (1 + placeN stmsL f 0)).length)).map (fun c => ⟨1 + placeN stmsL f 0,if giveA (1 + placeN stmsL f 0) then ns.getD 0 0 else 0,if giveB (1 + placeN stmsL f 0) then ns.getD (if giveA (1 + placeN stmsL f 0) then 1 else 0) 0 else 0,c⟩)
   else if r.length = (formT (1 + placeN stmsL f 0)).length then
    some ⟨1 + placeN stmsL f 0,if giveA (1 + placeN stmsL f 0) then ns.getD 0 0 else 0,if giveB (1 + placeN stmsL f 0) then ns.getD (if giveA (1 + placeN stmsL f 0) then 1 else 0) 0 else 0,[]⟩
   else none
def turnL {α : Type} (l : List α) (f : α → α) : List α := match l.reverse with
 | [] => []
 | x :: r => r.reverse ++ [f x]
theorem turnL_snoc {α : Type} (l : List α) (x : α) (f : α → α) : turnL (l ++ [x]) f = l ++ [f x] := by simp [turnL]
theorem turnL_len {α : Type} (l : List α) (f : α → α) : (turnL l f).length = l.length := by
 rcases List.eq_nil_or_concat l with rfl | ⟨r,x,rfl⟩
 ·rfl
 ·rw [List.concat_eq_append,turnL_snoc]; simp
def kSig : List UInt8 := [115,105,103,110,97,108,115]
def kObj : List UInt8 := [111,98,106,101,99,116]
def kVar : List UInt8 := [118,97,114]
def kSub : List UInt8 := [115,117,98]
def kSta : List UInt8 := [115,116,97,116,101]
def kEnt : List UInt8 := [101,110,116,114,121]
def kExi : List UInt8 := [101,120,105,116]
def kOn : List UInt8 := [111,110]
def kDo : List UInt8 := [100,111]
def kTim : List UInt8 := [116,105,109,101,114]
def oneOb (s : SyD) (f : ObD → ObD) : Option SyD := if s.obs = [] then none else some { s with obs := turnL s.obs f }
def lastOb (s : SyD) : ObD := s.obs.getLastD ob0
def lineW (s : SyD) (key : List UInt8) (r : List (List UInt8)) (begun : Bool) : Option SyD :=
 if key = kSig then (match nums r with | some [n] => if begun then none else some { s with sigs := n } | _ => none)
 else if begun = false then none
 else if key = kObj then (match nums r with | some [p,q,d] => some { s with obs := s.obs ++ [⟨p,q,d,[],[],[],[],[]⟩] } | _ => none)
 else if key = kTim then (match nums r with | some [o,g] => some { s with tms := s.tms ++ [(o,g)] } | _ => none)
 else if key = kVar then (match r with
  | [k,v] => if placeN kindsL k 0 < 0 then none else match num? v with
   | some n => oneOb s (fun o => { o with kinds := o.kinds ++ [1 + placeN kindsL k 0],vals := o.vals ++ [n] })
   | none => none
  | _ => none)
 else if key = kSub then (match nums r with | some [n] => oneOb s (fun o => { o with subs := o.subs ++ [n] }) | _ => none)
 else if key = kSta then (match nums r with | some [p,i] => oneOb s (fun o => { o with sts := o.sts ++ [⟨p,i,[],[]⟩] }) | _ => none)
 else if key = kOn then (match numsN r 3,codeW (r.drop 3) with
  | some [f,g,t],some c => oneOb s (fun o => { o with trs := o.trs ++ [⟨f,g,c,t,[]⟩] })
  | _,_ => none)
 else if key = kEnt then (match stmW r with
  | some x => if (lastOb s).sts = [] then none else oneOb s (fun o => { o with sts := turnL o.sts (fun t => { t with entry := t.entry ++ [x] }) })
  | none => none)
 else if key = kExi then (match stmW r with
  | some x => if (lastOb s).sts = [] then none else oneOb s (fun o => { o with sts := turnL o.sts (fun t => { t with exit := t.exit ++ [x] }) })
  | none => none)
 else if key = kDo then (match stmW r with
  | some x => if (lastOb s).trs = [] then none else oneOb s (fun o => { o with trs := turnL o.trs (fun t => { t with action := t.action ++ [x] }) })
  | none => none)
 else none
def sysW : List (List UInt8) → Nat → SyD → Bool → SyD × Int
 | [],_,s,b => if b then (s,0) else (sy0,-2)
 | l :: r,k,s,b => if skipB l = true then sysW r (k + 1) s b else
  match lineW s ((cut 32 l).getD 0 []) (cut 32 l).tail b with
  | some s' => sysW r (k + 1) s' true
  | none => (sy0,(k : Int) + 1)
def parW (t : List UInt8) : SyD × Int := if 30000 < t.length then (sy0,-1) else sysW (cut 10 t) 0 sy0 false
end Go.Proofs.YtkdgkomnbjepdaaGreatDoor
namespace Go.Proofs.YtkdgkomnbjepdaaGreatDoor
open Go.RowKit Go.Sort
set_option linter.unusedVariables false
attribute [local go_sem ↓] Go.wp_at_zero Go.wp_at_succ
end Go.Proofs.YtkdgkomnbjepdaaGreatDoor
namespace Go.Proofs.YtkdgkomnbjepdaaGreatDoor
open Go.RowKit Go.Sort
set_option linter.unusedVariables false
attribute [local go_sem ↓] Go.wp_at_zero Go.wp_at_succ
end Go.Proofs.YtkdgkomnbjepdaaGreatDoor
namespace Go.Proofs.YtkdgkomnbjepdaaGreatDoor
open Go.RowKit Go.Sort
set_option linter.unusedVariables false
attribute [local go_sem ↓] Go.wp_at_zero Go.wp_at_succ
def itC : List (Int × Int) → List Value
 | [] => []
 | e :: r => .int .i64 e.1 :: .int .i64 e.2 :: itC r
theorem itC_append : ∀ a b : List (Int × Int),itC (a ++ b) = itC a ++ itC b
 | [],b => rfl
 | e :: r,b => by simp [itC,itC_append r b]
theorem Tryz.infoIt2 : (Tryz.prog.info? 107).map (fun i => (i.zero,i.size,i.bytes)) = some (some (.agg #[.int .i64 0,.int .i64 0]),2,16) := by kernel_rfl
theorem one_it (a b : Int) : ∀ u ∈ [Value.int .i64 a,.int .i64 b],u.oneCell' = true := by intro u hu; simp at hu; rcases hu with rfl | rfl <;> rfl
end Go.Proofs.YtkdgkomnbjepdaaGreatDoor
namespace Go.Proofs.YtkdgkomnbjepdaaGreatDoor
open Go.RowKit Go.Sort
set_option linter.unusedVariables false
attribute [local go_sem ↓] Go.wp_at_zero Go.wp_at_succ
end Go.Proofs.YtkdgkomnbjepdaaGreatDoor
namespace Go.Proofs.YtkdgkomnbjepdaaGreatDoor
open Go.RowKit Go.Sort
set_option linter.unusedVariables false
attribute [local go_sem ↓] Go.wp_at_zero Go.wp_at_succ
end Go.Proofs.YtkdgkomnbjepdaaGreatDoor
namespace Go.Proofs.YtkdgkomnbjepdaaGreatDoor
open Go.RowKit Go.Sort
set_option linter.unusedVariables false
attribute [local go_sem ↓] Go.wp_at_zero Go.wp_at_succ
end Go.Proofs.YtkdgkomnbjepdaaGreatDoor
namespace Go.Proofs.YtkdgkomnbjepdaaGreatDoor
open Go.RowKit Go.Sort
set_option linter.unusedVariables false
attribute [local go_sem ↓] Go.wp_at_zero Go.wp_at_succ
end Go.Proofs.YtkdgkomnbjepdaaGreatDoor
namespace Go.Proofs.YtkdgkomnbjepdaaGreatDoor
open Go.RowKit Go.Sort
set_option linter.unusedVariables false
end Go.Proofs.YtkdgkomnbjepdaaGreatDoor
namespace Go.Proofs.YtkdgkomnbjepdaaGreatDoor
open Go.RowKit Go.Sort
set_option linter.unusedVariables false
structure Rw where
 t : TypeId
 sz : Nat
 v : Value
 n : Nat
 xs : List Value
abbrev Rw.own (w : World) (B : Nat) (r : Rw) : Prop := w.ownsRow B r.t r.sz r.v r.n r.xs
def Rw.Far (a b : Rw) : Prop := ∀ g,a.v.ownBlock = some g → b.v.ownBlock ≠ some g
theorem Rw.Far.symm {a b : Rw} (h : a.Far b) : b.Far a := fun g hb ha => h g ha hb
structure Flat (w : World) (B : Nat) (R : List Rw) : Prop where
 own : ∀ r ∈ R,r.own w B
 far : R.Pairwise Rw.Far
theorem row_base {w : World} {b1 b2 : Nat} {e : TypeId} {size : Nat} {v : Value} {n : Nat} {xs : List Value} (h : w.ownsRow b1 e size v n xs) (hb : b2 ≤ b1) : w.ownsRow b2 e size v n xs := by
 refine ⟨h.1,?_⟩
 rcases h.2 with h | ⟨g,cap,cur,h1,h2,h3⟩
 ·exact .inl h
 ·exact .inr ⟨g,cap,cur,h1,by omega,h3⟩
theorem row_same {w w' : World} {B : Nat} {e : TypeId} {size : Nat} {v : Value} {n : Nat} {xs : List Value} (h : w.ownsRow B e size v n xs) (hb : ∀ b,b < w.heap.size → v.ownBlock = some b → w'.heap[b]? = w.heap[b]?) : w'.ownsRow B e size v n xs := by
 refine ⟨h.1,?_⟩
 rcases h.2 with h0 | ⟨g,cap,cur,h1,h2,h3,h4⟩
 ·exact .inl h0
 ·exact .inr ⟨g,cap,cur,h1,h2,(hb g (lt_of_block h3) (by rw [h1]; rfl)).trans h3,h4⟩
section
variable {w w' : World} {B : Nat} {R R' : List Rw} {r : Rw}
theorem Flat.perm (h : Flat w B R) (hp : R.Perm R') : Flat w B R' :=
 ⟨fun r hr => h.own r (hp.mem_iff.2 hr),(hp.pairwise_iff (fun h => Rw.Far.symm h)).1 h.far⟩
theorem Flat.keep (h : Flat w B R) (hk : ∀ r ∈ R,∀ b,b < w.heap.size → r.v.ownBlock = some b → w'.heap[b]? = w.heap[b]?) : Flat w' B R :=
 ⟨fun r hr => row_same (h.own r hr) (hk r hr),h.far⟩
theorem Flat.below (h : Flat w B R) (hb : Below w.heap.size w w') : Flat w' B R := h.keep (fun _ _ b hl _ => hb.block b hl)
theorem Flat.tail (h : Flat w B (r :: R)) : Flat w B R := ⟨fun x hx => h.own x (List.mem_cons_of_mem _ hx),(List.pairwise_cons.1 h.far).2⟩
theorem Flat.head (h : Flat w B (r :: R)) : r.own w B := h.own r (List.mem_cons_self ..)
theorem Flat.apart (h : Flat w B (r :: R)) : ∀ x ∈ R,r.Far x := (List.pairwise_cons.1 h.far).1
theorem Flat.left (h : Flat w B (R ++ R')) : Flat w B R := ⟨fun x hx => h.own x (List.mem_append_left _ hx),(List.pairwise_append.1 h.far).1⟩
theorem Flat.base {B' : Nat} (h : Flat w B R) (hb : B' ≤ B) : Flat w B' R := ⟨fun r hr => row_base (h.own r hr) hb,h.far⟩
theorem Flat.join (h : Flat w B R) (hB : B ≤ w.heap.size) (hb : Below w.heap.size w w') (k : Flat w' w.heap.size R') : Flat w' B (R' ++ R) := by
 refine ⟨fun r hr => ?_,?_⟩
 ·rcases List.mem_append.1 hr with hr | hr
  ·exact row_base (k.own r hr) hB
  ·exact (h.below hb).own r hr
 ·refine List.pairwise_append.2 ⟨k.far,h.far,fun a ha b hb g hg hg2 => ?_⟩
  have h1 := ((k.own a ha).lt g hg).1
  have h2 := ((h.own b hb).lt g hg2).2
  omega
theorem Flat.one (h : r.own w B) : Flat w B [r] := ⟨by intro x hx; simp at hx; subst hx; exact h,List.pairwise_singleton _ _⟩
theorem Flat.fresh (h : Flat w B R) (hB : B ≤ w.heap.size) (hb : Below w.heap.size w w') (k : r.own w' w.heap.size) : Flat w' B (r :: R) := h.join hB hb (Flat.one k)
theorem Flat.turn {v' : Value} {n' : Nat} {xs' : List Value} (h : Flat w B (r :: R)) (hg : w.grownBy w' r.v.ownBlock) (hn : w'.ownsRow B r.t r.sz v' n' xs') (hat : ∀ g,v'.ownBlock = some g → r.v.ownBlock = some g ∨ w.heap.size ≤ g) : Flat w' B (⟨r.t,r.sz,v',n',xs'⟩ :: R) := by
 refine ⟨fun x hx => ?_,List.pairwise_cons.2 ⟨fun x hx g h1 h2 => ?_,h.tail.far⟩⟩
 ·rcases List.mem_cons.1 hx with rfl | hx
  ·exact hn
  ·exact row_same (h.own x (List.mem_cons_of_mem _ hx)) (fun b hl hb => hg.block b hl (fun e => h.apart x hx b e.symm hb))
 ·rcases hat g h1 with h3 | h3
  ·exact h.apart x hx g h3 h2
  ·have := ((h.own x (List.mem_cons_of_mem _ hx)).lt g h2).2
   omega
end
structure Cnt {α : Type} (f : List α → Nat) (g : α → Nat) : Prop where
 z : f [] = 0
 c : ∀ x l,f (x :: l) = g x + f l
 a : ∀ a b,f (a ++ b) = f a + f b
theorem perm_count {α : Type} {l l' : List α} (h : ∀ (f : List α → Nat) (g : α → Nat),Cnt f g → f l = f l') : l.Perm l' := by
 classical
 refine List.perm_iff_count.2 (fun x => h (List.count x) (fun y => List.count x [y]) ⟨rfl,fun y l => ?_,fun a b => List.count_append⟩)
 rw [show y :: l = [y] ++ l from rfl,List.count_append]
end Go.Proofs.YtkdgkomnbjepdaaGreatDoor
namespace Go.Proofs.YtkdgkomnbjepdaaGreatDoor
open Go.RowKit Go.Sort
set_option linter.unusedVariables false
/-! A system with the values of its lists: a tree. Its rows are all the rows that it reaches. -/
abbrev nilV : Value := .slice none 0 0
structure CdG where
 v : Value
 its : List (Int × Int)
structure SmG where
 k : Int
 a : Int
 b : Int
 c : CdG
structure SmsG where
 v : Value
 xs : List SmG
structure StG where
 par : Int
 ini : Int
 en : SmsG
 ex : SmsG
structure StsG where
 v : Value
 xs : List StG
structure TrG where
 fr : Int
 sg : Int
 gd : CdG
 tg : Int
 ac : SmsG
structure TrsG where
 v : Value
 xs : List TrG
structure InG where
 v : Value
 zs : List Int
structure ObG where
 p : Int
 q : Int
 d : Int
 ki : InG
 va : InG
 su : InG
 st : StsG
 tr : TrsG
structure ObsG where
 v : Value
 xs : List ObG
structure TmG where
 v : Value
 xs : List (Int × Int)
structure SyG where
 sg : Int
 ob : ObsG
 tm : TmG
/-! The cells of an element. -/
def SmG.cells (x : SmG) : List Value := [.int .i64 x.k,.int .i64 x.a,.int .i64 x.b,x.c.v]
def StG.cells (x : StG) : List Value := [.int .i64 x.par,.int .i64 x.ini,x.en.v,x.ex.v]
def TrG.cells (x : TrG) : List Value := [.int .i64 x.fr,.int .i64 x.sg,x.gd.v,.int .i64 x.tg,x.ac.v]
def ObG.cells (x : ObG) : List Value := [.int .i64 x.p,.int .i64 x.q,.int .i64 x.d,x.ki.v,x.va.v,x.su.v,x.st.v,x.tr.v]
/-! The row of a list,and all its rows. -/
def CdG.row (x : CdG) : Rw := ⟨107,2,x.v,x.its.length,itC x.its⟩
def SmsG.row (x : SmsG) : Rw := ⟨105,4,x.v,x.xs.length,x.xs.flatMap SmG.cells⟩
def StsG.row (x : StsG) : Rw := ⟨71,4,x.v,x.xs.length,x.xs.flatMap StG.cells⟩
def TrsG.row (x : TrsG) : Rw := ⟨75,5,x.v,x.xs.length,x.xs.flatMap TrG.cells⟩
def InG.row (x : InG) : Rw := ⟨3,1,x.v,x.zs.length,x.zs.map (Value.int .i64)⟩
def ObsG.row (x : ObsG) : Rw := ⟨66,8,x.v,x.xs.length,x.xs.flatMap ObG.cells⟩
def TmG.row (x : TmG) : Rw := ⟨57,2,x.v,x.xs.length,itC x.xs⟩
def SmG.rows (x : SmG) : List Rw := [x.c.row]
def SmsG.rows (x : SmsG) : List Rw := x.row :: x.xs.flatMap SmG.rows
def StG.rows (x : StG) : List Rw := x.en.rows ++ x.ex.rows
def StsG.rows (x : StsG) : List Rw := x.row :: x.xs.flatMap StG.rows
def TrG.rows (x : TrG) : List Rw := x.gd.row :: x.ac.rows
def TrsG.rows (x : TrsG) : List Rw := x.row :: x.xs.flatMap TrG.rows
def ObG.rows (x : ObG) : List Rw := x.ki.row :: x.va.row :: x.su.row :: (x.st.rows ++ x.tr.rows)
def ObsG.rows (x : ObsG) : List Rw := x.row :: x.xs.flatMap ObG.rows
def SyG.rows (x : SyG) : List Rw := x.tm.row :: x.ob.rows
/-! What it is as data. -/
def SmG.dat (x : SmG) : StmD := ⟨x.k,x.a,x.b,x.c.its⟩
def SmsG.dat (x : SmsG) : List StmD := x.xs.map SmG.dat
def StG.dat (x : StG) : StD := ⟨x.par,x.ini,x.en.dat,x.ex.dat⟩
def TrG.dat (x : TrG) : TrD := ⟨x.fr,x.sg,x.gd.its,x.tg,x.ac.dat⟩
def ObG.dat (x : ObG) : ObD := ⟨x.p,x.q,x.d,x.ki.zs,x.va.zs,x.su.zs,x.st.xs.map StG.dat,x.tr.xs.map TrG.dat⟩
def SyG.dat (x : SyG) : SyD := ⟨x.sg,x.ob.xs.map ObG.dat,x.tm.xs⟩
def SyG.val (x : SyG) : Value := .agg #[.int .i64 x.sg,x.ob.v,x.tm.v]
def syG0 : SyG := ⟨0,⟨nilV,[]⟩,⟨nilV,[]⟩⟩
theorem syG0_flat (w : World) (B : Nat) : Flat w B syG0.rows := by
 refine ⟨fun r hr => ?_,?_⟩
 ·simp [SyG.rows,ObsG.rows,syG0] at hr
  rcases hr with rfl | rfl <;> exact World.ownsRow_nil _ _ _ _
 ·simp [SyG.rows,ObsG.rows,syG0,ObsG.row,TmG.row,Rw.Far,Value.ownBlock]
/-! One element of a list by itself. -/
theorem flat_get {α : Type} (c : α → List Value) (sz : Nat) (hc : ∀ x,(c x).length = sz) : ∀ (l : List α) (i : Nat) (x : α),l[i]? = some x → ∀ j,j < sz → (l.flatMap c)[i * sz + j]? = (c x)[j]?
 | [],i,x,h,j,hj => by simp at h
 | y :: r,0,x,h,j,hj => by
  simp at h; subst h
  rw [List.flatMap_cons,List.getElem?_append_left (by rw [hc]; omega)]
  simp
 | y :: r,i + 1,x,h,j,hj => by
  have ih := flat_get c sz hc r i x (by simpa using h) j hj
  rw [List.flatMap_cons,List.getElem?_append_right (by rw [hc,Nat.add_mul]; omega),hc,← ih]
  congr 1
  rw [Nat.add_mul]; omega
theorem flat_len {α : Type} (c : α → List Value) (sz : Nat) (hc : ∀ x,(c x).length = sz) : ∀ l : List α,(l.flatMap c).length = l.length * sz
 | [] => by simp
 | x :: r => by simp only [List.flatMap_cons,List.length_append,hc,flat_len c sz hc r,List.length_cons]; rw [Nat.add_mul]; omega
theorem mid_set {α : Type} (c : α → List Value) (sz : Nat) (hc : ∀ x,(c x).length = sz) (p : List α) (x x' : α) (q : List α) (j : Nat) (u : Value) (hj : j < sz) (hx : (c x).set j u = c x') : ((p ++ x :: q).flatMap c).set (p.length * sz + j) u = (p ++ x' :: q).flatMap c := by
 rw [List.flatMap_append,List.flatMap_append,List.flatMap_cons,List.flatMap_cons,List.set_append_right _ _ (by rw [flat_len c sz hc]; omega),flat_len c sz hc,show p.length * sz + j - p.length * sz = j by omega,List.set_append_left _ _ (by rw [hc]; exact hj),hx]
theorem row_has {w : World} {B : Nat} {t : TypeId} {sz n : Nat} {v : Value} {xs : List Value} (h : w.ownsRow B t sz v n xs) (hn : 0 < n) : ∃ g cap,v = .slice (some ⟨g,0,none⟩) n cap ∧ n ≤ cap ∧ cap ≤ maxLen ∧ B ≤ g ∧ g < w.heap.size := by
 rcases h.2 with ⟨_,h0⟩ | ⟨g,cap,cur,hv,hb,hg,hc,hm,_⟩
 ·omega
 ·exact ⟨g,cap,hv,hc,hm,hb,lt_of_block hg⟩
theorem mid_cell {α : Type} (c : α → List Value) (sz : Nat) (hc : ∀ x,(c x).length = sz) {w : World} {B : Nat} {t : TypeId} {g n cap : Nat} {p : List α} {x : α} {q : List α} (h : w.ownsRow B t sz (.slice (some ⟨g,0,none⟩) n cap) n ((p ++ x :: q).flatMap c)) (j : Nat) (hj : j < sz) : w.cell? ⟨g,p.length * sz + j,none⟩ = (c x)[j]? := by
 have hl := h.1
 rw [flat_len c sz hc] at hl
 rw [h.cellAt _ (by rw [← hl]; have : (p.length + 1) * sz ≤ (p ++ x :: q).length * sz := Nat.mul_le_mul_right _ (by simp); rw [Nat.add_mul] at this; omega),flat_get c sz hc _ p.length x (by simp) j hj]
end Go.Proofs.YtkdgkomnbjepdaaGreatDoor
namespace Go.Proofs.YtkdgkomnbjepdaaGreatDoor
open Go.RowKit Go.Sort
set_option linter.unusedVariables false
/-! What rows say,as the readings of the elder texts. -/
theorem row_read {α : Type} (c : α → List Value) (sz : Nat) (hc : ∀ x,(c x).length = sz) {w : World} {B : Nat} {t : TypeId} {v : Value} {l : List α} (h : w.ownsRow B t sz v l.length (l.flatMap c)) :
  ∃ ao cap,v = .slice ao l.length cap ∧ l.length ≤ 9223372036854775807 ∧ l.length ≤ cap ∧ (0 < l.length → ∃ b,ao = some ⟨b,0,none⟩ ∧ b < w.heap.size ∧ ∀ i x,l[i]? = some x → ∀ j,j < sz → w.cell? ⟨b,i * sz + j,none⟩ = (c x)[j]?) := by
 rcases h.2 with ⟨rfl,h1⟩ | ⟨g,cap,cur,rfl,h2,h3,h4,h5,_⟩
 ·exact ⟨none,0,by rw [h1],by omega,by omega,fun h => by omega⟩
 ·refine ⟨_,cap,rfl,by unfold maxLen at h5; omega,h4,fun _ => ⟨g,rfl,lt_of_block h3,fun i x hx j hj => ?_⟩⟩
  have hi : i < l.length := (List.getElem?_eq_some_iff.1 hx).1
  rw [h.cellAt (i * sz + j) (by have : (i + 1) * sz ≤ l.length * sz := Nat.mul_le_mul_right _ hi; rw [Nat.add_mul] at this; omega),flat_get c sz hc l i x hx j hj]
def itc (e : Int × Int) : List Value := [.int .i64 e.1,.int .i64 e.2]
theorem itC_flat : ∀ l : List (Int × Int),itC l = l.flatMap itc
 | [] => rfl
 | e :: r => by rw [itC,itC_flat r]; rfl
theorem int_flat : ∀ l : List Int,l.map (Value.int .i64) = l.flatMap (fun z => [.int .i64 z])
 | [] => rfl
 | e :: r => by rw [List.map_cons,int_flat r]; rfl
theorem getD_some {α : Type} {l : List α} {i : Nat} {d : α} (h : i < l.length) : l[i]? = some (l.getD i d) := by simp [List.getD_eq_getElem?_getD,h]
theorem pairs_read {w : World} {B : Nat} {t : TypeId} {v : Value} {l : List (Int × Int)} (h : w.ownsRow B t 2 v l.length (itC l)) : ∃ ao cap,v = .slice ao l.length cap ∧ l.length ≤ 9223372036854775807 ∧ ItemsOf w ao l.length l := by
 rw [itC_flat] at h
 obtain ⟨ao,cap,h1,h2,_,h3⟩ := row_read itc 2 (fun _ => rfl) h
 refine ⟨ao,cap,h1,h2,rfl,fun hn => ?_⟩
 obtain ⟨b,e,hl,hc⟩ := h3 hn
 refine ⟨b,0,e,hl,fun i hi => ?_⟩
 have k := hc i _ (getD_some (d := (0,0)) hi)
 exact ⟨by simpa [itc] using k 0 (by omega),by simpa [itc,Nat.add_assoc] using k 1 (by omega)⟩
theorem ints_read {w : World} {B : Nat} {t : TypeId} {v : Value} {l : List Int} (h : w.ownsRow B t 1 v l.length (l.map (Value.int .i64))) : ∃ ao cap,v = .slice ao l.length cap ∧ l.length ≤ 9223372036854775807 ∧ l.length ≤ cap ∧ SliceOf w ao l.length l := by
 rw [int_flat] at h
 obtain ⟨ao,cap,h1,h2,h4,h3⟩ := row_read (fun z : Int => [Value.int .i64 z]) 1 (fun _ => rfl) h
 refine ⟨ao,cap,h1,h2,h4,rfl,fun hn => ?_⟩
 obtain ⟨b,e,hl,hc⟩ := h3 hn
 refine ⟨b,0,e,hl,fun i hi => ?_⟩
 have k := hc i _ (getD_some (d := 0) hi) 0 (by omega)
 simpa using k
theorem CdG.read {w : World} {B : Nat} {x : CdG} (h : x.row.own w B) : ∃ ao cap,x.v = .slice ao x.its.length cap ∧ x.its.length ≤ 9223372036854775807 ∧ ItemsOf w ao x.its.length x.its := pairs_read h
theorem map_getD {α β : Type} {f : α → β} {l : List α} {i : Nat} {x : α} {d : β} (h : l[i]? = some x) : (l.map f).getD i d = f x := by simp [List.getD_eq_getElem?_getD,h]
theorem mem_of_get {α : Type} {l : List α} {i : Nat} {x : α} (h : l[i]? = some x) : x ∈ l := List.mem_of_getElem? h
theorem SmsG.read {w : World} {B : Nat} {x : SmsG} (h : ∀ r ∈ x.rows,r.own w B) : ∃ ao cap,x.v = .slice ao x.xs.length cap ∧ x.xs.length ≤ 9223372036854775807 ∧ StmsOf w ao x.xs.length x.dat := by
 obtain ⟨ao,cap,h1,h2,_,h3⟩ := row_read SmG.cells 4 (fun _ => rfl) (h x.row (by simp [SmsG.rows]))
 refine ⟨ao,cap,h1,h2,by simp [SmsG.dat],fun hn => ?_⟩
 obtain ⟨b,e,hl,hc⟩ := h3 hn
 refine ⟨b,0,e,hl,fun i hi => ?_⟩
 obtain ⟨y,hy⟩ : ∃ y,x.xs[i]? = some y := ⟨_,List.getElem?_eq_getElem hi⟩
 have k := hc i y hy
 obtain ⟨co,cc,e1,e2,e3⟩ := CdG.read (h y.c.row (by simp only [SmsG.rows,List.mem_cons,List.mem_flatMap]; exact .inr ⟨y,mem_of_get hy,by simp [SmG.rows]⟩))
 rw [show x.dat.getD i stm0 = y.dat from map_getD hy]
 refine ⟨by simpa [SmG.cells,SmG.dat] using k 0 (by omega),by simpa [SmG.cells,SmG.dat] using k 1 (by omega),by simpa [SmG.cells,SmG.dat] using k 2 (by omega),co,_,cc,?_,e2,e3⟩
 have := k 3 (by omega)
 simpa [SmG.cells,e1] using this
theorem StsG.read {w : World} {B : Nat} {x : StsG} (h : ∀ r ∈ x.rows,r.own w B) : ∃ ao cap,x.v = .slice ao x.xs.length cap ∧ x.xs.length ≤ 9223372036854775807 ∧ StatesOf w ao x.xs.length (x.xs.map StG.dat) := by
 obtain ⟨ao,cap,h1,h2,_,h3⟩ := row_read StG.cells 4 (fun _ => rfl) (h x.row (by simp [StsG.rows]))
 refine ⟨ao,cap,h1,h2,by simp,fun hn => ?_⟩
 obtain ⟨b,e,hl,hc⟩ := h3 hn
 refine ⟨b,0,e,hl,fun i hi => ?_⟩
 obtain ⟨y,hy⟩ : ∃ y,x.xs[i]? = some y := ⟨_,List.getElem?_eq_getElem hi⟩
 have k := hc i y hy
 have hm : ∀ r ∈ y.rows,r.own w B := fun r hr => h r (by simp only [StsG.rows,List.mem_cons,List.mem_flatMap]; exact .inr ⟨y,mem_of_get hy,hr⟩)
 obtain ⟨co,cc,e1,e2,e3⟩ := SmsG.read (x := y.en) (fun r hr => hm r (by simp only [StG.rows,List.mem_append]; exact .inl hr))
 obtain ⟨co',cc',e1',e2',e3'⟩ := SmsG.read (x := y.ex) (fun r hr => hm r (by simp only [StG.rows,List.mem_append]; exact .inr hr))
 rw [map_getD hy]
 refine ⟨by simpa [StG.cells,StG.dat] using k 0 (by omega),by simpa [StG.cells,StG.dat] using k 1 (by omega),⟨co,_,cc,?_,e2,e3⟩,⟨co',_,cc',?_,e2',e3'⟩⟩
 ·have := k 2 (by omega)
  simpa [StG.cells,e1] using this
 ·have := k 3 (by omega)
  simpa [StG.cells,e1'] using this
theorem TrsG.read {w : World} {B : Nat} {x : TrsG} (h : ∀ r ∈ x.rows,r.own w B) : ∃ ao cap,x.v = .slice ao x.xs.length cap ∧ x.xs.length ≤ 9223372036854775807 ∧ TransOf w ao x.xs.length (x.xs.map TrG.dat) := by
 obtain ⟨ao,cap,h1,h2,_,h3⟩ := row_read TrG.cells 5 (fun _ => rfl) (h x.row (by simp [TrsG.rows]))
 refine ⟨ao,cap,h1,h2,by simp,fun hn => ?_⟩
 obtain ⟨b,e,hl,hc⟩ := h3 hn
 refine ⟨b,0,e,hl,fun i hi => ?_⟩
 obtain ⟨y,hy⟩ : ∃ y,x.xs[i]? = some y := ⟨_,List.getElem?_eq_getElem hi⟩
 have k := hc i y hy
 have hm : ∀ r ∈ y.rows,r.own w B := fun r hr => h r (by simp only [TrsG.rows,List.mem_cons,List.mem_flatMap]; exact .inr ⟨y,mem_of_get hy,hr⟩)
 obtain ⟨co,cc,e1,e2,e3⟩ := CdG.read (x := y.gd) (hm _ (by simp [TrG.rows]))
 obtain ⟨co',cc',e1',e2',e3'⟩ := SmsG.read (x := y.ac) (fun r hr => hm r (by simp only [TrG.rows,List.mem_cons]; exact .inr hr))
 rw [map_getD hy]
 refine ⟨by simpa [TrG.cells,TrG.dat] using k 0 (by omega),by simpa [TrG.cells,TrG.dat] using k 1 (by omega),⟨co,_,cc,?_,e2,e3⟩,by simpa [TrG.cells,TrG.dat] using k 3 (by omega),⟨co',_,cc',?_,e2',e3'⟩⟩
 ·have := k 2 (by omega)
  simpa [TrG.cells,e1] using this
 ·have := k 4 (by omega)
  simpa [TrG.cells,e1'] using this
theorem ObsG.read {w : World} {B : Nat} {x : ObsG} (h : ∀ r ∈ x.rows,r.own w B) : ∃ ao cap,x.v = .slice ao x.xs.length cap ∧ x.xs.length ≤ 9223372036854775807 ∧ ObsOf w ao x.xs.length (x.xs.map ObG.dat) := by
 obtain ⟨ao,cap,h1,h2,_,h3⟩ := row_read ObG.cells 8 (fun _ => rfl) (h x.row (by simp [ObsG.rows]))
 refine ⟨ao,cap,h1,h2,by simp,fun hn => ?_⟩
 obtain ⟨b,e,hl,hc⟩ := h3 hn
 refine ⟨b,0,e,hl,fun i hi => ?_⟩
 obtain ⟨y,hy⟩ : ∃ y,x.xs[i]? = some y := ⟨_,List.getElem?_eq_getElem hi⟩
 have k := hc i y hy
 have hm : ∀ r ∈ y.rows,r.own w B := fun r hr => h r (by simp only [ObsG.rows,List.mem_cons,List.mem_flatMap]; exact .inr ⟨y,mem_of_get hy,hr⟩)
 obtain ⟨ko,kc,k1,k2,k3,k4⟩ := ints_read (hm y.ki.row (by simp [ObG.rows]))
 obtain ⟨vo,vc,v1,v2,v3,v4⟩ := ints_read (hm y.va.row (by simp [ObG.rows]))
 obtain ⟨uo,uc,u1,u2,u3,u4⟩ := ints_read (hm y.su.row (by simp [ObG.rows]))
 obtain ⟨so,sc,s1,s2,s3⟩ := StsG.read (x := y.st) (fun r hr => hm r (by simp only [ObG.rows,List.mem_cons,List.mem_append]; exact .inr (.inr (.inr (.inl hr)))))
 obtain ⟨to_,tc,t1,t2,t3⟩ := TrsG.read (x := y.tr) (fun r hr => hm r (by simp only [ObG.rows,List.mem_cons,List.mem_append]; exact .inr (.inr (.inr (.inr hr)))))
 rw [map_getD hy]
 have q : ∀ j,j < 8 → w.cell? ⟨b,0 + i * 8 + j,none⟩ = y.cells[j]? := fun j hj => by rw [Nat.zero_add]; exact k j hj
 refine ⟨⟨ko,y.ki.zs.length,kc,vo,y.va.zs.length,vc,uo,y.su.zs.length,uc,so,y.st.xs.length,sc,to_,y.tr.xs.length,tc⟩,⟨q 0 (by omega),q 1 (by omega),q 2 (by omega),(q 3 (by omega)).trans ?_,(q 4 (by omega)).trans ?_,(q 5 (by omega)).trans ?_,(q 6 (by omega)).trans ?_,(q 7 (by omega)).trans ?_⟩,⟨k2,v2,u2,s2,t2,u3⟩,⟨k4,v4,u4,s3,t3⟩⟩
 ·show some y.ki.v = _; rw [show y.ki.v = _ from k1]
 ·show some y.va.v = _; rw [show y.va.v = _ from v1]
 ·show some y.su.v = _; rw [show y.su.v = _ from u1]
 ·show some y.st.v = _; rw [s1]
 ·show some y.tr.v = _; rw [t1]
theorem SyG.read {w : World} {B : Nat} {x : SyG} (h : Flat w B x.rows) : ∃ eo ec xo xc,x.val = .agg #[.int .i64 x.sg,.slice eo x.ob.xs.length ec,.slice xo x.tm.xs.length xc] ∧ ObsOf w eo x.ob.xs.length x.dat.obs ∧ ItemsOf w xo x.tm.xs.length x.dat.tms := by
 obtain ⟨eo,ec,e1,_,e3⟩ := ObsG.read (x := x.ob) (fun r hr => h.own r (by simp only [SyG.rows,List.mem_cons]; exact .inr hr))
 obtain ⟨xo,xc,x1,_,x3⟩ := pairs_read (h.own x.tm.row (by simp [SyG.rows]))
 exact ⟨eo,ec,xo,xc,by rw [SyG.val,e1,show x.tm.v = _ from x1],e3,x3⟩
end Go.Proofs.YtkdgkomnbjepdaaGreatDoor

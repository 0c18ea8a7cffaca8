import Derived.Test.YtkdgkomnbjepdaaGreatDoorDc
import Derived.Test.YtkdgkomnbjepdaaGreatDoorDd
import Derived.Test.YtkdgkomnbjepdaaGreatDoorDe
import Derived.Test.YtkdgkomnbjepdaaGreatDoorDf
import Derived.Test.YtkdgkomnbjepdaaGreatDoorDh
import Derived.MapKept
namespace Go.Proofs.YtkdgkomnbjepdaaGreatDoor
open Go.RowKit Go.Sort
set_option linter.unusedVariables false
attribute [local go_sem ↓] Go.wp_at_zero Go.wp_at_succ
theorem put_new {W : World} {r n : Nat} {es : Array MapEntry} (key : ByteArray) (val : Value) (hb : W.heap[r]? = some (.map es n)) (hf : Instr.findNow .string (.string key) es.toList 0 = some none) :
  ∃ W1,(Instr.mapUpdate 96 (.map (some r)) (.string key) val).run Tryz.prog W = .ok () W1 ∧ W1.heap[r]? = some (.map (es.push { key := .string key,val := val,born := n }) (n + 1)) ∧ Tn (· = r) W W1 := by
 refine ⟨{ W with heap := W.heap.setIfInBounds r (.map (es.push { key := .string key,val := val,born := n }) (n + 1)) },?_,(MapKept.heap_set hb).1,⟨rfl,rfl,rfl,by simp,fun b _ h => (MapKept.heap_set hb).2 b h⟩⟩
 have h1 := MapKept.run_checkKey (P := Tryz.prog) (w := W) (kt := 9) (d := .string) (k := .string key) Tryz.underlying9 (by simp [MapKept.IsKey]) false 9999
 have h2 := MapKept.run_findKey (P := Tryz.prog) (w := W) (kt := 9) (d := .string) (k := .string key) (l := es.toList) Tryz.underlying9 hf
 simp [Instr.mapUpdate,run_underlying Tryz.underlying96,MapKept.run_getObj_map hb,h1,h2,MapKept.run_setObj_map _ hb,Result.andThen]
theorem look_at {W : World} {r n : Nat} {es : Array MapEntry} (key : ByteArray) (i : Nat) (val : Value) (hb : W.heap[r]? = some (.map es n)) (hf : Instr.findNow .string (.string key) es.toList 0 = some (some (i,val))) :
  (Instr.lookup 96 (.map (some r)) (.string key) true).run Tryz.prog W = .ok (.tuple #[val,.bool true]) W := by
 have h1 := MapKept.run_checkKey (P := Tryz.prog) (w := W) (kt := 9) (d := .string) (k := .string key) Tryz.underlying9 (by simp [MapKept.IsKey]) es.isEmpty 9999
 have h2 := MapKept.run_findKey (P := Tryz.prog) (w := W) (kt := 9) (d := .string) (k := .string key) (l := es.toList) Tryz.underlying9 hf
 simp [Instr.lookup,run_underlying Tryz.underlying96,MapKept.run_getObj_map hb,h1,h2,Result.andThen]
theorem look_not {W : World} {r n : Nat} {es : Array MapEntry} (key : ByteArray) (hb : W.heap[r]? = some (.map es n)) (hf : Instr.findNow .string (.string key) es.toList 0 = some none) :
  (Instr.lookup 96 (.map (some r)) (.string key) true).run Tryz.prog W = .ok (.tuple #[.nilFunc,.bool false]) W := by
 have h1 := MapKept.run_checkKey (P := Tryz.prog) (w := W) (kt := 9) (d := .string) (k := .string key) Tryz.underlying9 (by simp [MapKept.IsKey]) es.isEmpty 9999
 have h2 := MapKept.run_findKey (P := Tryz.prog) (w := W) (kt := 9) (d := .string) (k := .string key) (l := es.toList) Tryz.underlying9 hf
 have hz : (zeroValue 164).run Tryz.prog W = .ok .nilFunc W := by kernel_rfl
 simp [Instr.lookup,run_underlying Tryz.underlying96,MapKept.run_getObj_map hb,h1,h2,hz,Result.andThen]
def fnV (f R : Nat) : Value := .func (.func f) #[.pointer (some ⟨R,0,none⟩)] #[]
def bSig : ByteArray := ⟨#[115,105,103,110,97,108,115]⟩
def bObj : ByteArray := ⟨#[111,98,106,101,99,116]⟩
def bVar : ByteArray := ⟨#[118,97,114]⟩
def bSub : ByteArray := ⟨#[115,117,98]⟩
def bSta : ByteArray := ⟨#[115,116,97,116,101]⟩
def bEnt : ByteArray := ⟨#[101,110,116,114,121]⟩
def bExi : ByteArray := ⟨#[101,120,105,116]⟩
def bOn : ByteArray := ⟨#[111,110]⟩
def bDo : ByteArray := ⟨#[100,111]⟩
def bTim : ByteArray := ⟨#[116,105,109,101,114]⟩
def rdMap (R : Nat) : Array MapEntry := #[{ key := .string bSig,val := fnV 50 R,born := 0 },{ key := .string bObj,val := fnV 51 R,born := 1 },{ key := .string bVar,val := fnV 52 R,born := 2 },{ key := .string bSub,val := fnV 53 R,born := 3 },{ key := .string bSta,val := fnV 54 R,born := 4 },{ key := .string bEnt,val := fnV 55 R,born := 5 },{ key := .string bExi,val := fnV 56 R,born := 6 },{ key := .string bOn,val := fnV 57 R,born := 7 },{ key := .string bDo,val := fnV 58 R,born := 8 },{ key := .string bTim,val := fnV 59 R,born := 9 }]
theorem beq_no {a b : ByteArray} (h : ¬ a = b) : (a == b) = false := by
 cases hx : (a == b) with
 | false => rfl
 | true => exact absurd ((MapKept.bytes_beq a b).1 hx) h
theorem find_not (R : Nat) (s : ByteArray) (h1 : ¬ s = bSig) (h2 : ¬ s = bObj) (h3 : ¬ s = bVar) (h4 : ¬ s = bSub) (h5 : ¬ s = bSta) (h6 : ¬ s = bEnt) (h7 : ¬ s = bExi) (h8 : ¬ s = bOn) (h9 : ¬ s = bDo) (h10 : ¬ s = bTim) : Instr.findNow .string (.string s) (rdMap R).toList 0 = some none := by
 simp [rdMap,Instr.findNow,Instr.sameNow,beq_no h1,beq_no h2,beq_no h3,beq_no h4,beq_no h5,beq_no h6,beq_no h7,beq_no h8,beq_no h9,beq_no h10]
set_option maxRecDepth 100000 in
set_option maxHeartbeats 1600000 in
theorem readers_any (R : Nat) (w : World) : Calls Tryz.prog 29 #[.pointer (some ⟨R,0,none⟩)] w fun e w' => e = .returned (.map (some w.heap.size)) ∧ w'.heap[w.heap.size]? = some (.map (rdMap R) 10) ∧ Below w.heap.size w w' := by
 have hmm := @run_makeMap Tryz.prog
 obtain ⟨W1,e1,m1,t1⟩ := put_new bSig (fnV 50 R) (MapKept.heap_alloc w (.map #[] 0)).1 rfl
 obtain ⟨W2,e2,m2,t2⟩ := put_new bObj (fnV 51 R) m1 (by rfl)
 obtain ⟨W3,e3,m3,t3⟩ := put_new bVar (fnV 52 R) m2 (by rfl)
 obtain ⟨W4,e4,m4,t4⟩ := put_new bSub (fnV 53 R) m3 (by rfl)
 obtain ⟨W5,e5,m5,t5⟩ := put_new bSta (fnV 54 R) m4 (by rfl)
 obtain ⟨W6,e6,m6,t6⟩ := put_new bEnt (fnV 55 R) m5 (by rfl)
 obtain ⟨W7,e7,m7,t7⟩ := put_new bExi (fnV 56 R) m6 (by rfl)
 obtain ⟨W8,e8,m8,t8⟩ := put_new bOn (fnV 57 R) m7 (by rfl)
 obtain ⟨W9,e9,m9,t9⟩ := put_new bDo (fnV 58 R) m8 (by rfl)
 obtain ⟨W10,e10,m10,t10⟩ := put_new bTim (fnV 59 R) m9 (by rfl)
 have M4 := hid (show W10.heap[w.heap.size]? = some (.map (rdMap R) 10) from m10)
 have T4 := hid ((((((((((t1.trans t2).trans t3).trans t4).trans t5).trans t6).trans t7).trans t8).trans t9).trans t10).below (B := w.heap.size) (by simp) (fun i hi => by omega))
 have B0 := hid ((Below.refl w.heap.size w).alloc (Nat.le_refl _) (.map #[] 0))
 clear m1 m2 m3 m4 m5 m6 m7 m8 m9 m10 t1 t2 t3 t4 t5 t6 t7 t8 t9 t10
 unfold fnV bSig at e1
 unfold fnV bObj at e2
 unfold fnV bVar at e3
 unfold fnV bSub at e4
 unfold fnV bSta at e5
 unfold fnV bEnt at e6
 unfold fnV bExi at e7
 unfold fnV bOn at e8
 unfold fnV bDo at e9
 unfold fnV bTim at e10
 go_enter Tryz.func29,Tryz.ntmps29
 go_wp2
 go_ret
 exact ⟨rfl,M4.out,B0.out.trans T4.out⟩
end Go.Proofs.YtkdgkomnbjepdaaGreatDoor
namespace Go.Proofs.YtkdgkomnbjepdaaGreatDoor
open Go.RowKit Go.Sort
set_option linter.unusedVariables false
attribute [local go_sem ↓] Go.wp_at_zero Go.wp_at_succ
structure Sl (w : World) (B : Nat) (L : List Rw) : Prop where
 vars : Vr w
 flat : Flat w B L
 nof : NoF L
 lo : 12 < B
 hi : B ≤ w.heap.size
theorem Sl.below {w w' : World} {B : Nat} {L : List Rw} (h : Sl w B L) (hb : Below w.heap.size w w') : Sl w' B L :=
 ⟨h.vars.below hb (Nat.lt_of_lt_of_le h.lo h.hi) (Nat.le_refl _),h.flat.below hb,h.nof,h.lo,Nat.le_trans h.hi hb.size⟩
theorem Sl.sub {w : World} {B : Nat} {L M : List Rw} (h : Sl w B L) (hs : M.Sublist L) : Sl w B M := ⟨h.vars,h.flat.sublist hs,fun r hr => h.nof r (hs.subset hr),h.lo,h.hi⟩
theorem St.slF {w w' : World} {B F : Nat} {fs : List (List UInt8)} {bad : Bool} {L : List Rw} (h : St w B F fs bad L) (ht : Tn (· = F) w w') : Sl w' B L :=
 ⟨h.vars.tn ht (fun g hg e => by have := h.lo; have := h.hF; omega),h.flat.tnF h.nof h.fat ht,h.nof,h.lo,Nat.le_trans h.hi ht.size⟩
theorem fields_new {w : World} {b off n c : Nat} {fs : List (List UInt8)} (hn : n + 1 ≤ 1048576) (hc : n + 1 ≤ c) (h : StrsOf w (some ⟨b,off,none⟩) (n + 1) fs) (ht : TagS w (some ⟨b,off,none⟩) (n + 1)) (a : Addr) (c' : Nat) (ha : (c = 1 ∧ a = ⟨b,off,none⟩ ∧ c' = 0) ∨ (¬ c = 1 ∧ a = ⟨b,off + 1,none⟩ ∧ c' = c - 1)) :
  FAt (w.alloc (.cells #[.slice (some a) n c',.nilIface] 168)) w.heap.size fs.tail false := by
 obtain ⟨_,_,dt⟩ := h.one
 refine ⟨some a,n,c',.nilIface,heap_alloc_new _ _,StrsOf.below (dt _ ?_) (below1 _ _),by omega,⟨by omega,?_⟩,.inl ⟨rfl,rfl⟩⟩
 ·rcases ha with ⟨h1,_,_⟩ | ⟨_,h2,_⟩
  ·right; omega
  ·left; rw [h2]
 ·intro h0
  rcases ha with ⟨h1,_,_⟩ | ⟨_,h2,_⟩
  ·omega
  ·obtain ⟨b',off',cs,fr,e,hb⟩ := ht (by omega)
   simp only [Option.some.injEq,Addr.mk.injEq] at e
   exact ⟨b,off + 1,cs,fr,by rw [h2],block_below (by rw [e.1]; exact hb) (below1 _ _)⟩
def LnI (B Q : Nat) (G : SyG) (bg : Bool) (X : List Rw) (fs : List (List UInt8)) (w : World) (e : Ending) (w' : World) : Prop :=
 Bm B w w' ∧ ((∃ G' : SyG,lineW G.dat (fs.getD 0 []) fs.tail bg = some G'.dat ∧ e = .returned .nilIface ∧ Sl w' B (rdB Q G' true :: (G'.rows ++ X))) ∨ (lineW G.dat (fs.getD 0 []) fs.tail bg = none ∧ (∃ te pe,e = .returned (.iface te pe)) ∧ Sl w' B X))
theorem ln_done2 {B F Q : Nat} {G : SyG} {bg : Bool} {X : List Rw} {fs : List (List UInt8)} {w w1 w2 : World} {ev : Value} {rest : List (List UInt8)} {bad : Bool} {M : List Rw} (hb : Bm B w w1) (hS : St w1 B F rest bad M) (ht : Tn (· = F) w1 w2) (he : ErrV (bad || !rest.isEmpty) ev)
  (hor : (∃ G' : SyG,lineW G.dat (fs.getD 0 []) fs.tail bg = some G'.dat ∧ bad = false ∧ rest = [] ∧ M = rdB Q G' true :: (G'.rows ++ X)) ∨ (lineW G.dat (fs.getD 0 []) fs.tail bg = none ∧ X.Sublist M ∧ (bad || !rest.isEmpty) = true)) : LnI B Q G bg X fs w (.returned ev) w2 := by
 refine ⟨hb.trans (hS.brd ht),?_⟩
 rcases hor with ⟨G',h1,rfl,rfl,rfl⟩ | ⟨h1,h2,h3⟩
 ·rcases he with ⟨_,rfl⟩ | ⟨h,_⟩
  ·exact .inl ⟨G',h1,rfl,hS.slF ht⟩
  ·cases h
 ·rw [h3] at he
  rcases he with ⟨h,_⟩ | ⟨_,te,pe,rfl⟩
  ·cases h
  ·exact .inr ⟨h1,⟨te,pe,rfl⟩,(hS.slF ht).sub h2⟩
end Go.Proofs.YtkdgkomnbjepdaaGreatDoor
